/- The law SegmentDocs. -/
import Derived.Test.YtllmocjfllbbfaaGreatMgSegLawD5
set_option maxRecDepth 100000
namespace Go.Proofs.YtllmocjfllbbfaaGreat
open Go.RowKit
open Go.ChangeShapes Go.WideShapes Go.ChangeAt
open Go.Proofs.YtllmocjfllbbfaaGreat.SA
theorem SegRef_q22 : litQ Tryz.prog 22 = some (40, 2, 32, (.agg #[.string ⟨#[]⟩, .string ⟨#[]⟩])) := by kernel_rfl
theorem SegRef_l22 : (elemQ Tryz.prog 22).isSome = true := by kernel_rfl
theorem SegRef_e22 : elemQ Tryz.prog 22 = some (40, 2) := by kernel_rfl
theorem SegRef_g40 : aggQ Tryz.prog 40 = some true := by kernel_rfl
theorem SegRef_z40 : sizeQ Tryz.prog 40 = some 2 := by kernel_rfl
theorem SegRef_b40_0cstring115112111105108116 : Tryz.prog.built 40 [(0, .string ⟨#[115, 112, 111, 105, 108, 116]⟩)] = some #[.string ⟨#[115, 112, 111, 105, 108, 116]⟩, .string ⟨#[]⟩] := by kernel_rfl
theorem SegRef_b40_ : Tryz.prog.built 40 [] = some #[.string ⟨#[]⟩, .string ⟨#[]⟩] := by kernel_rfl
theorem SegRef_g61 : aggQ Tryz.prog 61 = some true := by kernel_rfl
theorem SegRef_z61 : sizeQ Tryz.prog 61 = some 2 := by kernel_rfl
theorem SegRef_l56 : (elemQ Tryz.prog 56).isSome = true := by kernel_rfl
theorem SegRef_e56 : elemQ Tryz.prog 56 = some (61, 2) := by kernel_rfl
theorem SegRef_g9 : aggQ Tryz.prog 9 = some false := by kernel_rfl
theorem SegRef_f40_0 : fieldQ Tryz.prog 40 0 = some 0 := by kernel_rfl
theorem SegRef_f40_1 : fieldQ Tryz.prog 40 1 = some 1 := by kernel_rfl
theorem SegRef_l23 : (elemQ Tryz.prog 23).isSome = true := by kernel_rfl
theorem SegRef_e23 : elemQ Tryz.prog 23 = some (9, 1) := by kernel_rfl
theorem SegRef_k10 : callable Tryz.prog 10 = true := by kernel_rfl
set_option maxHeartbeats 400000 in
theorem copyDocs_rt (A : Option Addr) (c n : Nat) (l : List Dc) (w : World) (hr : RowK 2 dV w A l) (hn : n = l.length) (hl : n ≤ 100000000) :
    Rt Tryz.prog 17 [.slice A n c] w (fun v w' => (∃ A' c', v = .slice A' n c' ∧ w'.ownsRow w.heap.size 40 2 (.slice A' n c') n (l.flatMap dV)) ∧ From w w') := by
  refine enter (n := 19) Tryz.func17 rfl rfl rfl ?_
  refine cd_seq (cd_region ?_)
  refine ass rfl ?_
  refine st_nil (nx_then (cd_seq (cd_region ?_)))
  refine ass rfl ?_
  refine st_nil (nx_then (cd_seq (cd_seq (cd_region ?_))))
  refine asi rfl ?_
  refine st_nil (nx_then (cd_block ?_))
  refine cd_loop (G := Nat × Option Addr × Nat) [5, 6, 7, 8, 9, 10, 11, 12, 13, 14, 15, 16, 17] (fun (k, A3, c3) => [(3, .slice A3 k c3), (4, .int .i64 (k : Nat))]) (fun (k, A3, c3) w' => k ≤ n ∧ w'.ownsRow w.heap.size 40 2 (.slice A3 k c3) k ((l.take k).flatMap dV) ∧ From w w') (fun (k, _, _) => n - k) ((0, none, 0)) ⟨rfl, rfl, trivial⟩ ?_ ?_
  · exact ⟨Nat.zero_le _, World.ownsRow_nil _ _ _ _, From.rfl_⟩
  rintro ⟨k, A3, c3⟩ ρ1 w1 ⟨hk, ho, hB⟩
  refine cd_seq (cd_seq (cd_region ?_))
  refine mvi rfl ?_
  refine mvs rfl ?_
  refine st_val (ro_len SegRef_l22 rfl) ?_
  refine st_val (ro_lss rfl rfl) ?_
  refine st_nil (nx_then ?_)
  refine cd_cond rfl (fun Q2 => ?_) (fun Q2 => ?_)
  · with_reducible replace Q2 := of_decide_eq_true Q2
    obtain ⟨ba, oa, rfl, hca⟩ := hr (by omega)
    have hkl : k < l.length := by omega
    have hce := hca k hkl
    refine cd_skip (nx_then (cd_seq (cd_block (cd_region ?_))))
    refine mvs rfl ?_
    refine mvs rfl ?_
    refine mvi rfl ?_
    refine st_val (ro_indexAddrN SegRef_e22 rfl rfl (by omega)) ?_
    refine st_val (ro_loadA (cs := [_, _]) SegRef_g40 SegRef_z40 rfl (by exact rangeF hB hce)) ?_
    refine st_litK2 SegRef_q22 rfl rfl rfl ?_
    intro b16 w3 E16 hb16 hk16
    refine st_appendB SegRef_q22 rfl (by decide) rfl (A := A3) (xs := (l.take k).flatMap dV) (news := dV l[k]) (ho.kept_from (From.rfl_.next E16)) ((hB.next E16).size) rfl rfl (fun _ => ⟨b16, 0, rfl, hk16.whole⟩) (fun h => by cases h) (by simp [dV, Value.oneCell']) (by omega) (by omega) ?_
    intro A17 c17 w4 ho17 hg17
    have HF17 := ((hB.next E16)).grew hg17 (fun k hk => (own_at (ho.kept_from (From.rfl_.next E16)) k hk).1)
    refine ass rfl ?_
    refine st_nil (nx_block (nx_then (cd_region ?_)))
    refine mvi rfl ?_
    refine st_val (ro_addN (b := 1) rfl rfl (by omega)) ?_
    refine asi rfl ?_
    refine st_nil ?_
    refine nx_cut ((k + 1, A17, c17)) ⟨(by first | rfl | (refine int_eq ?_; omega)), (by first | rfl | (refine int_eq ?_; omega)), trivial⟩ (by (iterate 30 refine agr_cons rfl ?_); exact agr_rfl) ⟨?_, ?_⟩
    · exact ⟨by omega, by rw [List.take_succ_eq_append_getElem hkl, List.flatMap_append]; simpa using ho17, HF17⟩
    · show n - (k + 1) < n - k; omega
  with_reducible replace Q2 := of_decide_eq_false Q2
  refine cd_exit ?_
  refine ex_then (ex_then (ex_block (nx_then (cd_seq (cd_region ?_)))))
  refine mvs rfl ?_
  refine ass rfl ?_
  refine st_nil (nx_then (cd_ret ?_))
  refine res1 (v := .slice _ _ _) rfl rfl ?_
  obtain rfl : k = n := by omega
  rw [hn, List.take_length] at ho
  exact ⟨⟨A3, c3, rfl, by rw [hn]; exact ho⟩, hB⟩
set_option maxHeartbeats 400000 in
theorem eqDocs_rt (A B : Option Addr) (ca cb n m : Nat) (a b : List Dc) (w : World) (ha : RowK 2 dV w A a) (hb : RowK 2 dV w B b) (hn : n = a.length) (hm : m = b.length) (hl : n ≤ 100000000) :
    Rt Tryz.prog 8 [.slice A n ca, .slice B m cb] w (fun v w' => v = .bool (decide (a = b)) ∧ From w w') := by
  refine enter (n := 26) Tryz.func8 rfl rfl rfl ?_
  refine cd_seq (cd_region ?_)
  refine asb rfl ?_
  refine st_nil (nx_then (cd_seq (cd_seq (cd_region ?_))))
  refine mvs rfl ?_
  refine st_val (ro_len SegRef_l22 rfl) ?_
  refine mvs rfl ?_
  refine st_val (ro_len SegRef_l22 rfl) ?_
  refine st_val (ro_neq rfl rfl) ?_
  refine st_nil (nx_then ?_)
  refine cd_cond rfl (fun Q1 => ?_) (fun Q1 => ?_)
  · with_reducible replace Q1 := bx_t Q1
    refine cd_seq (cd_region ?_)
    refine asb rfl ?_
    refine st_nil (nx_then (cd_ret (rt_then ?_)))
    refine res1 (v := .bool _) rfl rfl ?_
    exact ⟨by rw [decide_eq_false]; rintro rfl; omega, From.rfl_⟩
  with_reducible replace Q1 := bx_f Q1
  refine cd_skip (nx_then (cd_seq (cd_seq (cd_region ?_))))
  refine asi rfl ?_
  refine st_nil (nx_then (cd_block ?_))
  refine cd_loop (G := Nat) [4, 11, 12, 13, 14, 15, 16, 17, 18, 19, 20, 21, 22, 23, 24, 25] (fun k => [(5, .int .i64 (k : Nat))]) (fun k w' => k ≤ n ∧ a.take k = b.take k ∧ From w w') (fun k => n - k) (0) ⟨rfl, trivial⟩ ?_ ?_
  · exact ⟨Nat.zero_le _, rfl, From.rfl_⟩
  rintro k ρ2 w2 ⟨hk, ht, hB⟩
  refine cd_seq (cd_seq (cd_region ?_))
  refine mvi rfl ?_
  refine mvs rfl ?_
  refine st_val (ro_len SegRef_l22 rfl) ?_
  refine st_val (ro_lss rfl rfl) ?_
  refine st_nil (nx_then ?_)
  refine cd_cond rfl (fun Q3 => ?_) (fun Q3 => ?_)
  · with_reducible replace Q3 := of_decide_eq_true Q3
    obtain ⟨ba, oa, rfl, hca⟩ := ha (by omega)
    obtain ⟨bb, ob, rfl, hcb⟩ := hb (by omega)
    refine cd_skip (nx_then (cd_seq (cd_block (cd_seq ?_))))
    apply cd_drawnD 9 [(17, eqp _), (18, eqp _), (19, eqp _), (20, eqp (.agg (dV a[k]).toArray)), (21, eqp _), (22, eqp _), (23, eqp _), (24, eqp (.agg (dV b[k]).toArray)), (25, eqp _)] (by repeat first | exact pq_body | refine pq_then ?_ | refine pq_block ?_) (by kernel_rfl) (by kernel_rfl) ⟨eqp_mono _, eqp_mono _, eqp_mono _, eqp_mono _, eqp_mono _, eqp_mono _, eqp_mono _, eqp_mono _, eqp_mono _, trivial⟩
    case hop =>
     refine ⟨?_, ?_⟩
     · rintro - w5 D5
       show OpOK _ _ _ _ _ _ _
       exact ok_pure (ro_move (v := .slice _ _ _) rfl) rfl
     refine ⟨?_, ?_⟩
     · rintro - w6 D6
       show OpOK _ _ _ _ _ _ _
       exact ok_pure (ro_move (v := .int _ _) rfl) rfl
     refine ⟨?_, ?_⟩
     · rintro - w7 D7
       rintro _ rfl _ rfl
       show OpOK _ _ _ _ _ _ _
       exact ok_pure (ro_indexAddrN SegRef_e22 rfl rfl (by omega)) rfl
     refine ⟨?_, ?_⟩
     · rintro - w8 D8
       rintro _ rfl
       show OpOK _ _ _ _ _ _ _
       exact ok_pure (ro_loadA (cs := dV a[k]) SegRef_g40 SegRef_z40 rfl (rangeF (hB.next D8) (hca k (by omega)))) rfl
     refine ⟨?_, ?_⟩
     · rintro - w9 D9
       show OpOK _ _ _ _ _ _ _
       exact ok_pure (ro_move (v := .slice _ _ _) rfl) rfl
     refine ⟨?_, ?_⟩
     · rintro - w10 D10
       show OpOK _ _ _ _ _ _ _
       exact ok_pure (ro_move (v := .int _ _) rfl) rfl
     refine ⟨?_, ?_⟩
     · rintro - w11 D11
       rintro _ rfl _ rfl
       show OpOK _ _ _ _ _ _ _
       exact ok_pure (ro_indexAddrN SegRef_e22 rfl rfl (by omega)) rfl
     refine ⟨?_, ?_⟩
     · rintro - w12 D12
       rintro _ rfl
       show OpOK _ _ _ _ _ _ _
       exact ok_pure (ro_loadA (cs := dV b[k]) SegRef_g40 SegRef_z40 rfl (rangeF (hB.next D12) (hcb k (by omega)))) rfl
     refine ⟨?_, ?_⟩
     · rintro - w13 D13
       rintro v13_20 rfl v13_24 rfl
       show OpOK _ _ _ _ _ _ _
       exact ok_pure (ro_neqDc rfl rfl) rfl
     exact trivial
    case hend =>
     intro w14 D14
     rintro _ rfl _ rfl _ rfl v20 rfl _ rfl _ rfl _ rfl v24 rfl _ rfl
     show St _ _ _ _ _ _ _
     refine st_nil (nx_then ?_)
     refine cd_cond rfl (fun Q15 => ?_) (fun Q15 => ?_)
     · with_reducible (replace Q15 := bn_t Q15; replace Q15 := of_decide_eq_false Q15)
       have hne : ¬ a[k] = b[k] := by simpa using Q15
       refine cd_seq (cd_region ?_)
       refine asb rfl ?_
       refine st_nil (nx_then (cd_ret (rt_block (rt_then (rt_then (rt_block (rt_then ?_)))))))
       refine res1 (v := .bool _) rfl rfl ?_
       exact ⟨by rw [decide_eq_false]; rintro rfl; exact hne rfl, (hB.next D14)⟩
     with_reducible (replace Q15 := bn_f Q15; replace Q15 := of_decide_eq_true Q15)
     have heq : a[k] = b[k] := by simpa using Q15
     refine cd_skip (nx_block (nx_then (cd_region ?_)))
     refine mvi rfl ?_
     refine st_val (ro_addN (b := 1) rfl rfl (by omega)) ?_
     refine asi rfl ?_
     refine st_nil ?_
     refine nx_cut (k + 1) ⟨(by first | rfl | (refine int_eq ?_; omega)), trivial⟩ (by (iterate 33 refine agr_cons rfl ?_); exact agr_rfl) ⟨?_, ?_⟩
     · exact ⟨by omega, take_eq (by omega) (by omega) ht heq, (hB.next D14)⟩
     · show n - (k + 1) < n - k; omega
  with_reducible replace Q3 := of_decide_eq_false Q3
  refine cd_exit ?_
  refine ex_then (ex_then (ex_block (nx_then (cd_seq (cd_region ?_)))))
  refine asb rfl ?_
  refine st_nil (nx_then (cd_ret ?_))
  refine res1 (v := .bool _) rfl rfl ?_
  exact ⟨by rw [decide_eq_true (eq_ge (by omega) (by omega) ht)], hB⟩
set_option maxHeartbeats 400000 in
theorem spoilDocs_rt (base : Nat) (A : Option Addr) (c n : Nat) (l : List Dc) (w : World) (ho : w.ownsRow base 40 2 (.slice A n c) n (l.flatMap dV)) (hl : n ≤ 100000000) (hbs : base ≤ w.heap.size) :
    Rt Tryz.prog 11 [.slice A n c] w (fun _ w' => w.grownBy w' (A.map (·.block))) := by
  have hn := (RowK.own dV_len (by decide) ho).1
  refine enter (n := 17) Tryz.func11 rfl rfl rfl ?_
  refine cd_seq (cd_seq (cd_region ?_))
  refine asi rfl ?_
  refine st_nil (nx_then (cd_block ?_))
  refine cd_loop (G := Nat × List Dc) [3, 4, 5, 6, 7, 8, 9, 10, 11, 12] (fun (k, _) => [(2, .int .i64 (k : Nat))]) (fun (k, l1) w' => k ≤ n ∧ l1.length = n ∧ w'.ownsRow base 40 2 (.slice A n c) n (l1.flatMap dV) ∧ w.grownBy w' (A.map (·.block))) (fun (k, _) => n - k) ((0, l)) ⟨rfl, trivial⟩ ?_ ?_
  · exact ⟨Nat.zero_le _, hn, ho, (From.rfl_ (a := w)).grown _⟩
  rintro ⟨k, l1⟩ ρ1 w1 ⟨hk, hlen, ho1, hG⟩
  refine cd_seq (cd_seq (cd_region ?_))
  refine mvi rfl ?_
  refine mvs rfl ?_
  refine st_val (ro_len SegRef_l22 rfl) ?_
  refine st_val (ro_lss rfl rfl) ?_
  refine st_nil (nx_then ?_)
  refine cd_cond rfl (fun Q2 => ?_) (fun Q2 => ?_)
  · with_reducible replace Q2 := of_decide_eq_true Q2
    obtain ⟨g, rfl⟩ := own_some ho (by omega)
    have hkl : k < l1.length := by omega
    refine cd_skip (nx_then (cd_seq (cd_block (cd_region ?_))))
    refine mvs rfl ?_
    refine mvi rfl ?_
    refine st_val (ro_build (l := [(0, .const (.string ⟨#[115, 112, 111, 105, 108, 116]⟩))]) (SegRef_b40_0cstring115112111105108116)) ?_
    refine st_val (ro_indexAddrN SegRef_e22 rfl rfl (by omega)) ?_
    refine st_putOwnK (size := 2) (o := k * 2) (vs := dV (⟨#[115, 112, 111, 105, 108, 116]⟩, ⟨#[]⟩)) SegRef_z40 (by show Value.pointer (some ⟨g, 0 + k * 2, none⟩) = _; rw [Nat.zero_add]) rfl (by simp [dV, Value.oneCell']) ho1 (by omega) (by show k * 2 + 2 ≤ n * 2; omega) ?_
    intro w3 O3 P3
    refine st_nil (nx_block (nx_then (cd_region ?_)))
    refine mvi rfl ?_
    refine st_val (ro_addN (b := 1) rfl rfl (by omega)) ?_
    refine asi rfl ?_
    refine st_nil ?_
    refine nx_cut ((k + 1, l1.set k (⟨#[115, 112, 111, 105, 108, 116]⟩, ⟨#[]⟩))) ⟨(by first | rfl | (refine int_eq ?_; omega)), trivial⟩ (by (iterate 22 refine agr_cons rfl ?_); exact agr_rfl) ⟨?_, ?_⟩
    · exact ⟨by omega, (List.length_set ..).trans hlen, by rw [← over_flat dV_len l1 k hkl]; exact P3, grown_trans hG O3.grown⟩
    · show n - (k + 1) < n - k; omega
  with_reducible replace Q2 := of_decide_eq_false Q2
  refine cd_exit ?_
  refine ex_then (ex_then (ex_block (nx_then (cd_region ?_))))
  refine mvs rfl ?_
  refine st_val (ro_build (l := []) (SegRef_b40_)) ?_
  refine st_litK2 SegRef_q22 rfl rfl rfl ?_
  intro b15 w4 E15 hb15 hk15
  refine st_appendB (base := base) SegRef_q22 rfl (by decide) rfl (A := A) (xs := l1.flatMap dV) (news := dV (⟨#[]⟩, ⟨#[]⟩)) (ho1.kept_from E15) (by have := hG.size; have := E15.size; omega) rfl rfl (fun _ => ⟨b15, 0, rfl, hk15.whole⟩) (fun h => by cases h) (by simp [dV, Value.oneCell']) (by omega) (by omega) ?_
  intro A16 c16 w5 ho16 hg16
  refine ass rfl ?_
  refine st_nil ?_
  refine end_ret ?_
  refine res0 rfl ?_
  exact grown_trans hG (grown_trans (E15.grown _) hg16)
set_option maxHeartbeats 400000 in
theorem eqHits_rt (A B : Option Addr) (ca cb n m : Nat) (a b : List Ht) (w : World) (ha : RowK 2 hV w A a) (hb : RowK 2 hV w B b) (hn : n = a.length) (hm : m = b.length) (hl : n ≤ 100000000) :
    Rt Tryz.prog 21 [.slice A n ca, .slice B m cb] w (fun v w' => v = .bool (decide (a = b)) ∧ From w w') := by
  refine enter (n := 26) Tryz.func21 rfl rfl rfl ?_
  refine cd_seq (cd_region ?_)
  refine asb rfl ?_
  refine st_nil (nx_then (cd_seq (cd_seq (cd_region ?_))))
  refine mvs rfl ?_
  refine st_val (ro_len SegRef_l56 rfl) ?_
  refine mvs rfl ?_
  refine st_val (ro_len SegRef_l56 rfl) ?_
  refine st_val (ro_neq rfl rfl) ?_
  refine st_nil (nx_then ?_)
  refine cd_cond rfl (fun Q1 => ?_) (fun Q1 => ?_)
  · with_reducible replace Q1 := bx_t Q1
    refine cd_seq (cd_region ?_)
    refine asb rfl ?_
    refine st_nil (nx_then (cd_ret (rt_then ?_)))
    refine res1 (v := .bool _) rfl rfl ?_
    exact ⟨by rw [decide_eq_false]; rintro rfl; omega, From.rfl_⟩
  with_reducible replace Q1 := bx_f Q1
  refine cd_skip (nx_then (cd_seq (cd_seq (cd_region ?_))))
  refine asi rfl ?_
  refine st_nil (nx_then (cd_block ?_))
  refine cd_loop (G := Nat) [4, 11, 12, 13, 14, 15, 16, 17, 18, 19, 20, 21, 22, 23, 24, 25] (fun k => [(5, .int .i64 (k : Nat))]) (fun k w' => k ≤ n ∧ a.take k = b.take k ∧ From w w') (fun k => n - k) (0) ⟨rfl, trivial⟩ ?_ ?_
  · exact ⟨Nat.zero_le _, rfl, From.rfl_⟩
  rintro k ρ2 w2 ⟨hk, ht, hB⟩
  refine cd_seq (cd_seq (cd_region ?_))
  refine mvi rfl ?_
  refine mvs rfl ?_
  refine st_val (ro_len SegRef_l56 rfl) ?_
  refine st_val (ro_lss rfl rfl) ?_
  refine st_nil (nx_then ?_)
  refine cd_cond rfl (fun Q3 => ?_) (fun Q3 => ?_)
  · with_reducible replace Q3 := of_decide_eq_true Q3
    obtain ⟨ba, oa, rfl, hca⟩ := ha (by omega)
    obtain ⟨bb, ob, rfl, hcb⟩ := hb (by omega)
    refine cd_skip (nx_then (cd_seq (cd_block (cd_seq ?_))))
    apply cd_drawnD 9 [(17, eqp _), (18, eqp _), (19, eqp _), (20, eqp (.agg (hV a[k]).toArray)), (21, eqp _), (22, eqp _), (23, eqp _), (24, eqp (.agg (hV b[k]).toArray)), (25, eqp _)] (by repeat first | exact pq_body | refine pq_then ?_ | refine pq_block ?_) (by kernel_rfl) (by kernel_rfl) ⟨eqp_mono _, eqp_mono _, eqp_mono _, eqp_mono _, eqp_mono _, eqp_mono _, eqp_mono _, eqp_mono _, eqp_mono _, trivial⟩
    case hop =>
     refine ⟨?_, ?_⟩
     · rintro - w5 D5
       show OpOK _ _ _ _ _ _ _
       exact ok_pure (ro_move (v := .slice _ _ _) rfl) rfl
     refine ⟨?_, ?_⟩
     · rintro - w6 D6
       show OpOK _ _ _ _ _ _ _
       exact ok_pure (ro_move (v := .int _ _) rfl) rfl
     refine ⟨?_, ?_⟩
     · rintro - w7 D7
       rintro _ rfl _ rfl
       show OpOK _ _ _ _ _ _ _
       exact ok_pure (ro_indexAddrN SegRef_e56 rfl rfl (by omega)) rfl
     refine ⟨?_, ?_⟩
     · rintro - w8 D8
       rintro _ rfl
       show OpOK _ _ _ _ _ _ _
       exact ok_pure (ro_loadA (cs := hV a[k]) SegRef_g61 SegRef_z61 rfl (rangeF (hB.next D8) (hca k (by omega)))) rfl
     refine ⟨?_, ?_⟩
     · rintro - w9 D9
       show OpOK _ _ _ _ _ _ _
       exact ok_pure (ro_move (v := .slice _ _ _) rfl) rfl
     refine ⟨?_, ?_⟩
     · rintro - w10 D10
       show OpOK _ _ _ _ _ _ _
       exact ok_pure (ro_move (v := .int _ _) rfl) rfl
     refine ⟨?_, ?_⟩
     · rintro - w11 D11
       rintro _ rfl _ rfl
       show OpOK _ _ _ _ _ _ _
       exact ok_pure (ro_indexAddrN SegRef_e56 rfl rfl (by omega)) rfl
     refine ⟨?_, ?_⟩
     · rintro - w12 D12
       rintro _ rfl
       show OpOK _ _ _ _ _ _ _
       exact ok_pure (ro_loadA (cs := hV b[k]) SegRef_g61 SegRef_z61 rfl (rangeF (hB.next D12) (hcb k (by omega)))) rfl
     refine ⟨?_, ?_⟩
     · rintro - w13 D13
       rintro v13_20 rfl v13_24 rfl
       show OpOK _ _ _ _ _ _ _
       exact ok_pure (ro_neqHt rfl rfl) rfl
     exact trivial
    case hend =>
     intro w14 D14
     rintro _ rfl _ rfl _ rfl v20 rfl _ rfl _ rfl _ rfl v24 rfl _ rfl
     show St _ _ _ _ _ _ _
     refine st_nil (nx_then ?_)
     refine cd_cond rfl (fun Q15 => ?_) (fun Q15 => ?_)
     · with_reducible (replace Q15 := bn_t Q15; replace Q15 := of_decide_eq_false Q15)
       have hne : ¬ a[k] = b[k] := by simpa using Q15
       refine cd_seq (cd_region ?_)
       refine asb rfl ?_
       refine st_nil (nx_then (cd_ret (rt_block (rt_then (rt_then (rt_block (rt_then ?_)))))))
       refine res1 (v := .bool _) rfl rfl ?_
       exact ⟨by rw [decide_eq_false]; rintro rfl; exact hne rfl, (hB.next D14)⟩
     with_reducible (replace Q15 := bn_f Q15; replace Q15 := of_decide_eq_true Q15)
     have heq : a[k] = b[k] := by simpa using Q15
     refine cd_skip (nx_block (nx_then (cd_region ?_)))
     refine mvi rfl ?_
     refine st_val (ro_addN (b := 1) rfl rfl (by omega)) ?_
     refine asi rfl ?_
     refine st_nil ?_
     refine nx_cut (k + 1) ⟨(by first | rfl | (refine int_eq ?_; omega)), trivial⟩ (by (iterate 33 refine agr_cons rfl ?_); exact agr_rfl) ⟨?_, ?_⟩
     · exact ⟨by omega, take_eq (by omega) (by omega) ht heq, (hB.next D14)⟩
     · show n - (k + 1) < n - k; omega
  with_reducible replace Q3 := of_decide_eq_false Q3
  refine cd_exit ?_
  refine ex_then (ex_then (ex_block (nx_then (cd_seq (cd_region ?_)))))
  refine asb rfl ?_
  refine st_nil (nx_then (cd_ret ?_))
  refine res1 (v := .bool _) rfl rfl ?_
  exact ⟨by rw [decide_eq_true (eq_ge (by omega) (by omega) ht)], hB⟩
set_option maxHeartbeats 400000 in
theorem docW_rt (A : Option Addr) (c n : Nat) (ds : List Dc) (w : World) (hr : RowK 2 dV w A ds) (hn : n = ds.length) (hl : n ≤ 10000000000000) (hs : ∀ d ∈ ds, Small d.1 ∧ Small d.2) :
    Rt Tryz.prog 15 [.slice A n c] w (fun v w' => (∃ m : Nat, v = .int .i64 (m : Nat) ∧ n ≤ m) ∧ From w w') := by
  refine enter (n := 33) Tryz.func15 rfl rfl rfl ?_
  refine cd_seq (cd_region ?_)
  refine asi rfl ?_
  refine st_nil (nx_then (cd_seq (cd_region ?_)))
  refine mvs rfl ?_
  refine st_val (ro_len SegRef_l22 rfl) ?_
  refine asi rfl ?_
  refine st_nil (nx_then (cd_seq (cd_seq (cd_region ?_))))
  refine asi rfl ?_
  refine st_nil (nx_then (cd_block ?_))
  refine cd_loop (G := Nat × Nat) [7, 8, 9, 10, 11, 12, 13, 14, 15, 16, 17, 18, 19, 20, 21, 22, 23, 24, 25, 26, 27, 28, 29, 30, 31] (fun (m, i) => [(3, .int .i64 (m : Nat)), (4, .int .i64 (i : Nat))]) (fun (m, i) w' => i ≤ n ∧ n ≤ m ∧ m ≤ 1000000000000000 ∧ From w w') (fun (_, i) => n - i) ((n, 0)) ⟨rfl, rfl, trivial⟩ ?_ ?_
  · exact ⟨Nat.zero_le _, Nat.le_refl _, by omega, From.rfl_⟩
  rintro ⟨m, i⟩ ρ1 w1 ⟨hi, hnm, hmb, hB⟩
  refine cd_seq (cd_seq (cd_region ?_))
  refine mvi rfl ?_
  refine mvs rfl ?_
  refine st_val (ro_len SegRef_l22 rfl) ?_
  refine st_val (ro_lss rfl rfl) ?_
  refine mvb rfl ?_
  refine st_split (t := 11) rfl (fun Q2 => ?_) (fun Q2 => ?_)
  · with_reducible replace Q2 := of_decide_eq_true Q2
    refine st_unguard rfl ?_
    refine mvi rfl ?_
    refine st_unguard rfl ?_
    refine st_val (ro_lss rfl rfl) ?_
    refine st_val (ro_pickT (v := .bool _) rfl rfl) ?_
    refine st_nil (nx_then ?_)
    refine cd_cond rfl (fun Q3 => ?_) (fun Q3 => ?_)
    · with_reducible replace Q3 := of_decide_eq_true Q3
      obtain ⟨bd, od, rfl, hcd⟩ := hr (by omega)
      have hil : i < ds.length := by omega
      have hce := hcd i hil
      rw [← getD_get hil] at hce
      obtain ⟨hz1, hz2⟩ : (ds.getD i dd).1.size ≤ 140737488351232 ∧ (ds.getD i dd).2.size ≤ 140737488351232 := by rw [getD_get hil]; exact hs _ (List.getElem_mem hil)
      refine cd_skip (nx_then (cd_seq (cd_block ?_)))
      apply cd_drawnD 16 [(17, eqp _), (18, eqp _), (19, eqp _), (20, eqp _), (21, eqp _), (22, eqp (.string (ds.getD i dd).1)), (23, eqp _), (24, eqp _), (25, eqp _), (26, eqp _), (27, eqp _), (28, eqp _), (29, eqp (.string (ds.getD i dd).2)), (30, eqp _), (31, eqp _), (3, eqp _)] (by repeat first | exact pq_body | refine pq_then ?_ | refine pq_block ?_) (by kernel_rfl) (by kernel_rfl) ⟨eqp_mono _, eqp_mono _, eqp_mono _, eqp_mono _, eqp_mono _, eqp_mono _, eqp_mono _, eqp_mono _, eqp_mono _, eqp_mono _, eqp_mono _, eqp_mono _, eqp_mono _, eqp_mono _, eqp_mono _, eqp_mono _, trivial⟩
      case hop =>
       refine ⟨?_, ?_⟩
       · rintro - w5 D5
         show OpOK _ _ _ _ _ _ _
         exact ok_pure (ro_move (v := .int _ _) rfl) rfl
       refine ⟨?_, ?_⟩
       · rintro - w6 D6
         show OpOK _ _ _ _ _ _ _
         exact ok_pure (ro_move (v := .slice _ _ _) rfl) rfl
       refine ⟨?_, ?_⟩
       · rintro - w7 D7
         show OpOK _ _ _ _ _ _ _
         exact ok_pure (ro_move (v := .int _ _) rfl) rfl
       refine ⟨?_, ?_⟩
       · rintro - w8 D8
         rintro _ rfl _ rfl
         show OpOK _ _ _ _ _ _ _
         exact ok_pure (ro_indexAddrN SegRef_e22 rfl rfl (by omega)) rfl
       refine ⟨?_, ?_⟩
       · rintro - w9 D9
         rintro _ rfl
         show OpOK _ _ _ _ _ _ _
         exact ok_pure (ro_fieldAddr SegRef_f40_0 rfl) rfl
       refine ⟨?_, ?_⟩
       · rintro - w10 D10
         rintro _ rfl
         show OpOK _ _ _ _ _ _ _
         exact ok_pure (ro_load (v := .string (ds.getD i dd).1) SegRef_g9 rfl (cellF (hB.next D10) (hce 0 _ rfl))) rfl
       refine ⟨?_, ?_⟩
       · rintro - w11 D11
         rintro v11_22 rfl
         show OpOK _ _ _ _ _ _ _
         exact ok_pure (ro_lenS (by kernel_rfl) rfl) rfl
       refine ⟨?_, ?_⟩
       · rintro - w12 D12
         rintro _ rfl _ rfl
         show OpOK _ _ _ _ _ _ _
         exact ok_pure (ro_addN rfl rfl (by omega)) rfl
       refine ⟨?_, ?_⟩
       · rintro - w13 D13
         show OpOK _ _ _ _ _ _ _
         exact ok_pure (ro_move (v := .slice _ _ _) rfl) rfl
       refine ⟨?_, ?_⟩
       · rintro - w14 D14
         show OpOK _ _ _ _ _ _ _
         exact ok_pure (ro_move (v := .int _ _) rfl) rfl
       refine ⟨?_, ?_⟩
       · rintro - w15 D15
         rintro _ rfl _ rfl
         show OpOK _ _ _ _ _ _ _
         exact ok_pure (ro_indexAddrN SegRef_e22 rfl rfl (by omega)) rfl
       refine ⟨?_, ?_⟩
       · rintro - w16 D16
         rintro _ rfl
         show OpOK _ _ _ _ _ _ _
         exact ok_pure (ro_fieldAddr SegRef_f40_1 rfl) rfl
       refine ⟨?_, ?_⟩
       · rintro - w17 D17
         rintro _ rfl
         show OpOK _ _ _ _ _ _ _
         exact ok_pure (ro_load (v := .string (ds.getD i dd).2) SegRef_g9 rfl (cellF (hB.next D17) (hce 1 _ rfl))) rfl
       refine ⟨?_, ?_⟩
       · rintro - w18 D18
         rintro v18_29 rfl
         show OpOK _ _ _ _ _ _ _
         exact ok_pure (ro_lenS (by kernel_rfl) rfl) rfl
       refine ⟨?_, ?_⟩
       · rintro - w19 D19
         rintro _ rfl _ rfl
         show OpOK _ _ _ _ _ _ _
         exact ok_pure (ro_addN rfl rfl (by omega)) rfl
       refine ⟨?_, ?_⟩
       · rintro - w20 D20
         rintro _ rfl
         show OpOK _ _ _ _ _ _ _
         exact ok_pure (ro_assign (v := .int _ _) rfl) rfl
       exact trivial
      case hend =>
       intro w21 D21
       rintro _ rfl _ rfl _ rfl _ rfl _ rfl v22 rfl _ rfl _ rfl _ rfl _ rfl _ rfl _ rfl v29 rfl _ rfl _ rfl _ rfl
       show St _ _ _ _ _ _ _
       refine st_nil (nx_block (nx_then (cd_region ?_)))
       refine mvi rfl ?_
       refine st_val (ro_addN (b := 1) rfl rfl (by omega)) ?_
       refine asi rfl ?_
       refine st_nil ?_
       refine nx_cut ((m + (ds.getD i dd).1.size + (ds.getD i dd).2.size, i + 1)) ⟨(by first | rfl | (refine int_eq ?_; omega)), (by first | rfl | (refine int_eq ?_; omega)), trivial⟩ (by (iterate 55 refine agr_cons rfl ?_); exact agr_rfl) ⟨?_, ?_⟩
       · exact ⟨by omega, by omega, by omega, (hB.next D21)⟩
       · show n - (i + 1) < n - i; omega
    with_reducible replace Q3 := of_decide_eq_false Q3
    refine cd_exit ?_
    refine ex_then (ex_then (ex_block (nx_then (cd_seq (cd_region ?_)))))
    refine mvi rfl ?_
    refine asi rfl ?_
    refine st_nil (nx_then (cd_ret ?_))
    refine res1 (v := .int _ _) rfl rfl ?_
    exact ⟨⟨m, rfl, hnm⟩, hB⟩
  with_reducible replace Q2 := of_decide_eq_false Q2
  refine st_gno rfl rfl ?_
  refine st_gno rfl rfl ?_
  refine st_val (ro_pickF (v := .bool _) rfl rfl) ?_
  refine st_nil (nx_then ?_)
  refine cd_condF rfl ?_
  refine cd_exit ?_
  refine ex_then (ex_then (ex_block (nx_then (cd_seq (cd_region ?_)))))
  refine mvi rfl ?_
  refine asi rfl ?_
  refine st_nil (nx_then (cd_ret ?_))
  refine res1 (v := .int _ _) rfl rfl ?_
  exact ⟨⟨m, rfl, hnm⟩, hB⟩
set_option maxHeartbeats 400000 in
theorem textW_rt (A : Option Addr) (c n : Nat) (ps : List ByteArray) (w : World) (hr : RowOf Value.string w A ps) (hn : n = ps.length) (hl : n ≤ 10000000000000) (hs : ∀ s ∈ ps, Small s) :
    Rt Tryz.prog 16 [.slice A n c] w (fun v w' => (∃ m : Nat, v = .int .i64 (m : Nat) ∧ n ≤ m) ∧ From w w') := by
  refine enter (n := 25) Tryz.func16 rfl rfl rfl ?_
  refine cd_seq (cd_region ?_)
  refine asi rfl ?_
  refine st_nil (nx_then (cd_seq (cd_region ?_)))
  refine mvs rfl ?_
  refine st_val (ro_len SegRef_l23 rfl) ?_
  refine asi rfl ?_
  refine st_nil (nx_then (cd_seq (cd_seq (cd_region ?_))))
  refine asi rfl ?_
  refine st_nil (nx_then (cd_block ?_))
  refine cd_loop (G := Nat × Nat) [7, 8, 9, 10, 11, 12, 13, 14, 15, 16, 17, 18, 19, 20, 21, 22, 23] (fun (m, i) => [(3, .int .i64 (m : Nat)), (4, .int .i64 (i : Nat))]) (fun (m, i) w' => i ≤ n ∧ n ≤ m ∧ m ≤ 1000000000000000 ∧ From w w') (fun (_, i) => n - i) ((n, 0)) ⟨rfl, rfl, trivial⟩ ?_ ?_
  · exact ⟨Nat.zero_le _, Nat.le_refl _, by omega, From.rfl_⟩
  rintro ⟨m, i⟩ ρ1 w1 ⟨hi, hnm, hmb, hB⟩
  refine cd_seq (cd_seq (cd_region ?_))
  refine mvi rfl ?_
  refine mvs rfl ?_
  refine st_val (ro_len SegRef_l23 rfl) ?_
  refine st_val (ro_lss rfl rfl) ?_
  refine mvb rfl ?_
  refine st_split (t := 11) rfl (fun Q2 => ?_) (fun Q2 => ?_)
  · with_reducible replace Q2 := of_decide_eq_true Q2
    refine st_unguard rfl ?_
    refine mvi rfl ?_
    refine st_unguard rfl ?_
    refine st_val (ro_lss rfl rfl) ?_
    refine st_val (ro_pickT (v := .bool _) rfl rfl) ?_
    refine st_nil (nx_then ?_)
    refine cd_cond rfl (fun Q3 => ?_) (fun Q3 => ?_)
    · with_reducible replace Q3 := of_decide_eq_true Q3
      obtain ⟨bd, od, rfl, hcd⟩ := hr (by omega)
      have hil : i < ps.length := by omega
      have hce := hcd i hil
      have hz1 : (ps[i]).size ≤ 140737488351232 := hs _ (List.getElem_mem hil)
      refine cd_skip (nx_then (cd_seq (cd_block (cd_region ?_))))
      refine mvi rfl ?_
      refine mvs rfl ?_
      refine mvi rfl ?_
      refine st_val (ro_indexAddr1 SegRef_e23 rfl rfl (by omega)) ?_
      refine st_val (ro_load SegRef_g9 rfl (by exact cellF hB hce)) ?_
      refine st_val (ro_lenS (by kernel_rfl) rfl) ?_
      refine st_val (ro_addN rfl rfl (by omega)) ?_
      refine asi rfl ?_
      refine st_nil (nx_block (nx_then (cd_region ?_)))
      refine mvi rfl ?_
      refine st_val (ro_addN (b := 1) rfl rfl (by omega)) ?_
      refine asi rfl ?_
      refine st_nil ?_
      refine nx_cut ((m + (ps[i]).size, i + 1)) ⟨(by first | rfl | (refine int_eq ?_; omega)), (by first | rfl | (refine int_eq ?_; omega)), trivial⟩ (by (iterate 39 refine agr_cons rfl ?_); exact agr_rfl) ⟨?_, ?_⟩
      · exact ⟨by omega, by omega, by omega, hB⟩
      · show n - (i + 1) < n - i; omega
    with_reducible replace Q3 := of_decide_eq_false Q3
    refine cd_exit ?_
    refine ex_then (ex_then (ex_block (nx_then (cd_seq (cd_region ?_)))))
    refine mvi rfl ?_
    refine asi rfl ?_
    refine st_nil (nx_then (cd_ret ?_))
    refine res1 (v := .int _ _) rfl rfl ?_
    exact ⟨⟨m, rfl, hnm⟩, hB⟩
  with_reducible replace Q2 := of_decide_eq_false Q2
  refine st_gno rfl rfl ?_
  refine st_gno rfl rfl ?_
  refine st_val (ro_pickF (v := .bool _) rfl rfl) ?_
  refine st_nil (nx_then ?_)
  refine cd_condF rfl ?_
  refine cd_exit ?_
  refine ex_then (ex_then (ex_block (nx_then (cd_seq (cd_region ?_)))))
  refine mvi rfl ?_
  refine asi rfl ?_
  refine st_nil (nx_then (cd_ret ?_))
  refine res1 (v := .int _ _) rfl rfl ?_
  exact ⟨⟨m, rfl, hnm⟩, hB⟩
set_option maxHeartbeats 400000 in
theorem refSize_rt (A : Option Addr) (c n : Nat) (ds : List Dc) (w : World) (hr : RowK 2 dV w A ds) (hn : n = ds.length) (hl : n ≤ 100000000) (hz : dsz ds ≤ 1000000000000000000) :
    Rt Tryz.prog 10 [.slice A n c] w (fun v w' => v = .int .i64 ((dsz ds : Nat) : Int) ∧ From w w') := by
  refine enter (n := 20) Tryz.func10 rfl rfl rfl ?_
  refine cd_seq (cd_region ?_)
  refine asi rfl ?_
  refine st_nil (nx_then (cd_seq (cd_region ?_)))
  refine asi rfl ?_
  refine st_nil (nx_then (cd_seq (cd_seq (cd_region ?_))))
  refine asi rfl ?_
  refine st_nil (nx_then (cd_block ?_))
  refine cd_loop (G := Nat) [5, 6, 7, 8, 9, 10, 11, 12, 13, 14, 15, 16, 17, 18] (fun i => [(3, .int .i64 (dsz (ds.take i) : Nat)), (4, .int .i64 (i : Nat))]) (fun i w' => i ≤ n ∧ From w w') (fun i => n - i) (0) ⟨rfl, rfl, trivial⟩ ?_ ?_
  · exact ⟨Nat.zero_le _, From.rfl_⟩
  rintro i ρ1 w1 ⟨hi, hB⟩
  refine cd_seq (cd_seq (cd_region ?_))
  refine mvi rfl ?_
  refine mvs rfl ?_
  refine st_val (ro_len SegRef_l22 rfl) ?_
  refine st_val (ro_lss rfl rfl) ?_
  refine st_nil (nx_then ?_)
  refine cd_cond rfl (fun Q2 => ?_) (fun Q2 => ?_)
  · with_reducible replace Q2 := of_decide_eq_true Q2
    obtain ⟨bd, od, rfl, hcd⟩ := hr (by omega)
    have hil : i < ds.length := by omega
    have hce := hcd i hil
    rw [← getD_get hil] at hce
    have hdt := dsz_take hil
    have hdl := dsz_le (ds := ds) (i + 1)
    refine cd_skip (nx_then (cd_seq (cd_block (cd_region ?_))))
    refine mvi rfl ?_
    refine mvs rfl ?_
    refine mvi rfl ?_
    refine st_val (ro_indexAddrN SegRef_e22 rfl rfl (by omega)) ?_
    refine st_val (ro_fieldAddr SegRef_f40_1 rfl) ?_
    refine st_val (ro_load SegRef_g9 rfl (by exact cellF hB (hce 1 _ rfl))) ?_
    refine st_val (ro_lenS (by kernel_rfl) rfl) ?_
    refine st_val (ro_addN rfl rfl (by omega)) ?_
    refine asi rfl ?_
    refine st_nil (nx_block (nx_then (cd_region ?_)))
    refine mvi rfl ?_
    refine st_val (ro_addN (b := 1) rfl rfl (by omega)) ?_
    refine asi rfl ?_
    refine st_nil ?_
    refine nx_cut (i + 1) ⟨(int_eq (by rw [dsz_take hil])), rfl, trivial⟩ (by (iterate 32 refine agr_cons rfl ?_); exact agr_rfl) ⟨?_, ?_⟩
    · exact ⟨by omega, hB⟩
    · show n - (i + 1) < n - i; omega
  with_reducible replace Q2 := of_decide_eq_false Q2
  refine cd_exit ?_
  refine ex_then (ex_then (ex_block (nx_then (cd_seq (cd_region ?_)))))
  refine mvi rfl ?_
  refine asi rfl ?_
  refine st_nil (nx_then (cd_ret ?_))
  refine res1 (v := .int _ _) rfl rfl ?_
  obtain rfl : i = n := by omega
  exact ⟨by rw [hn, List.take_length], hB⟩
theorem dsz_many {ds : List Dc} (h : ∀ d ∈ ds, d.2.size ≤ 2048) : dsz ds ≤ ds.length * 2048 := by
  induction ds with
  | nil => exact Nat.zero_le _
  | cons d ds ih =>
    have h1 := h d (List.mem_cons_self ..)
    have h2 := ih fun e he => h e (List.mem_cons_of_mem _ he)
    rw [dsz, List.length_cons]
    omega
theorem size_get {s : ByteArray} : (s.toList == (⟨#[]⟩ : ByteArray).toList) = true ↔ s.size = 0 := str_eq.trans ⟨size_zero, size_zero'⟩
set_option maxHeartbeats 2000000 in
theorem refDocs_rt (A : Option Addr) (c n : Nat) (ds : List Dc) (w : World) (hr : RowK 2 dV w A ds) (hn : n = ds.length) (hl : n ≤ 100000000) :
    Rt Tryz.prog 19 [.slice A n c] w (fun v w' => v = .int .i64 (docE ds) ∧ From w w') := by
  refine enter (n := 63) Tryz.func19 rfl rfl rfl ?_
  refine cd_seq (cd_region ?_)
  refine asi rfl ?_
  refine st_nil (nx_then (cd_seq (cd_seq (cd_region ?_))))
  refine asi rfl ?_
  refine st_nil (nx_then (cd_block ?_))
  refine cd_loop (G := Nat) [2, 5, 6, 7, 8, 9, 10, 11, 12, 13, 14, 15, 16, 17, 18, 19, 20, 21, 22, 23, 24, 25, 26, 27, 28, 29, 30, 31, 32, 33, 34, 35, 36, 37, 38, 39, 40, 41, 42, 43] (fun i => [(3, .int .i64 (i : Nat))]) (fun i w' => i ≤ n ∧ (∀ x, x < i → okI ds x) ∧ From w w') (fun i => n - i) (0) ⟨rfl, trivial⟩ ?_ ?_
  · exact ⟨Nat.zero_le _, fun x h => absurd h (by omega), From.rfl_⟩
  rintro i ρ1 w1 ⟨hi, hok, hB⟩
  refine cd_seq (cd_seq (cd_region ?_))
  refine mvi rfl ?_
  refine mvs rfl ?_
  refine st_val (ro_len SegRef_l22 rfl) ?_
  refine st_val (ro_lss rfl rfl) ?_
  refine st_nil (nx_then ?_)
  refine cd_cond rfl (fun Q2 => ?_) (fun Q2 => ?_)
  · with_reducible replace Q2 := of_decide_eq_true Q2
    obtain ⟨bd, od, rfl, hcd⟩ := hr (by omega)
    have hil : i < ds.length := by omega
    have hce := hcd i hil
    rw [← getD_get hil] at hce
    have hcp : 0 < i → w.rangeAt bd (od + (i - 1) * 2) (dV (ds.getD (i - 1) dd)) := fun h => by
      have h2 := hcd (i - 1) (by omega)
      rwa [← getD_get (show i - 1 < ds.length by omega)] at h2
    refine cd_skip (nx_then (cd_seq (cd_block (cd_seq ?_))))
    have hsp : (ds.getD i dd).1.size = 0 ∨ (1 ≤ (ds.getD i dd).1.size ∧ 64 < (ds.getD i dd).1.size) ∨ (1 ≤ (ds.getD i dd).1.size ∧ (ds.getD i dd).1.size ≤ 64 ∧ i = 0) ∨ (1 ≤ (ds.getD i dd).1.size ∧ (ds.getD i dd).1.size ≤ 64 ∧ 0 < i) := by omega
    rcases hsp with hc1 | ⟨hc1, hc2⟩ | ⟨hc1, hc2, hc3⟩ | ⟨hc1, hc2, hc3⟩
    · apply cd_drawnD 33 [(11, eqp _), (12, eqp _), (13, eqp _), (14, eqp _), (15, eqp (.string (ds.getD i dd).1)), (16, eqp _), (17, eqp _), (18, eqp _), (19, eqp _), (20, eqp _), (21, eqp _), (22, eqp _), (23, eqp _), (24, eqp _), (25, eqp _), (26, eqp _), (27, eqp _), (28, eqp _), (29, eqp _), (30, eqp _), (31, eqp _), (32, eqp _), (33, eqp _), (34, eqp _), (35, eqp _), (36, eqp _), (37, eqp _), (38, eqp _), (39, eqp _), (40, eqp _), (41, eqp _), (42, eqp _), (43, eqp _)] (by repeat first | exact pq_body | refine pq_then ?_ | refine pq_block ?_) (by kernel_rfl) (by kernel_rfl) ⟨eqp_mono _, eqp_mono _, eqp_mono _, eqp_mono _, eqp_mono _, eqp_mono _, eqp_mono _, eqp_mono _, eqp_mono _, eqp_mono _, eqp_mono _, eqp_mono _, eqp_mono _, eqp_mono _, eqp_mono _, eqp_mono _, eqp_mono _, eqp_mono _, eqp_mono _, eqp_mono _, eqp_mono _, eqp_mono _, eqp_mono _, eqp_mono _, eqp_mono _, eqp_mono _, eqp_mono _, eqp_mono _, eqp_mono _, eqp_mono _, eqp_mono _, eqp_mono _, eqp_mono _, trivial⟩
      case hop =>
       refine ⟨?_, ?_⟩
       · rintro - w4 D4
         show OpOK _ _ _ _ _ _ _
         exact ok_pure (ro_move (v := .slice _ _ _) rfl) rfl
       refine ⟨?_, ?_⟩
       · rintro - w5 D5
         show OpOK _ _ _ _ _ _ _
         exact ok_pure (ro_move (v := .int _ _) rfl) rfl
       refine ⟨?_, ?_⟩
       · rintro - w6 D6
         rintro _ rfl _ rfl
         show OpOK _ _ _ _ _ _ _
         exact ok_pure (ro_indexAddrN SegRef_e22 rfl rfl (by omega)) rfl
       refine ⟨?_, ?_⟩
       · rintro - w7 D7
         rintro _ rfl
         show OpOK _ _ _ _ _ _ _
         exact ok_pure (ro_fieldAddr SegRef_f40_0 rfl) rfl
       refine ⟨?_, ?_⟩
       · rintro - w8 D8
         rintro _ rfl
         show OpOK _ _ _ _ _ _ _
         exact ok_pure (ro_load (v := .string (ds.getD i dd).1) SegRef_g9 rfl (cellF (hB.next D8) (hce 0 _ rfl))) rfl
       refine ⟨?_, ?_⟩
       · rintro - w9 D9
         rintro v9_15 rfl
         show OpOK _ _ _ _ _ _ _
         exact ok_pure (ro_bt (ro_eqlS rfl rfl) (size_get.2 (by omega))) rfl
       refine ⟨?_, ?_⟩
       · rintro - w10 D10
         rintro _ rfl
         show OpOK _ _ _ _ _ _ _
         exact ok_pure (ro_move (v := .bool _) rfl) rfl
       refine ⟨?_, ?_⟩
       · rintro - w11 D11
         rintro _ rfl
         show OpOK _ _ _ _ _ _ _
         exact ok_gno rfl rfl rfl
       refine ⟨?_, ?_⟩
       · rintro - w12 D12
         rintro _ rfl
         show OpOK _ _ _ _ _ _ _
         exact ok_gno rfl rfl rfl
       refine ⟨?_, ?_⟩
       · rintro - w13 D13
         rintro _ rfl _ rfl _ rfl
         show OpOK _ _ _ _ _ _ _
         exact ok_gno rfl rfl rfl
       refine ⟨?_, ?_⟩
       · rintro - w14 D14
         rintro _ rfl _ rfl
         show OpOK _ _ _ _ _ _ _
         exact ok_gno rfl rfl rfl
       refine ⟨?_, ?_⟩
       · rintro - w15 D15
         rintro _ rfl _ rfl
         show OpOK _ _ _ _ _ _ _
         exact ok_gno rfl rfl rfl
       refine ⟨?_, ?_⟩
       · rintro - w16 D16
         rintro _ rfl _ rfl
         show OpOK _ _ _ _ _ _ _
         exact ok_gno rfl rfl rfl
       refine ⟨?_, ?_⟩
       · rintro - w17 D17
         rintro _ rfl _ rfl
         show OpOK _ _ _ _ _ _ _
         exact ok_gno rfl rfl rfl
       refine ⟨?_, ?_⟩
       · rintro - w18 D18
         rintro _ rfl _ rfl
         show OpOK _ _ _ _ _ _ _
         exact ok_pure (ro_pickT (v := .bool _) rfl rfl) rfl
       refine ⟨?_, ?_⟩
       · rintro - w19 D19
         rintro _ rfl
         show OpOK _ _ _ _ _ _ _
         exact ok_pure (ro_move (v := .bool _) rfl) rfl
       refine ⟨?_, ?_⟩
       · rintro - w20 D20
         rintro _ rfl
         show OpOK _ _ _ _ _ _ _
         exact ok_gno rfl rfl rfl
       refine ⟨?_, ?_⟩
       · rintro - w21 D21
         rintro _ rfl _ rfl
         show OpOK _ _ _ _ _ _ _
         exact ok_gno rfl rfl rfl
       refine ⟨?_, ?_⟩
       · rintro - w22 D22
         rintro _ rfl _ rfl
         show OpOK _ _ _ _ _ _ _
         exact ok_gno rfl rfl rfl
       refine ⟨?_, ?_⟩
       · rintro - w23 D23
         rintro _ rfl
         show OpOK _ _ _ _ _ _ _
         exact ok_gund rfl rfl
       refine ⟨?_, ?_⟩
       · rintro - w24 D24
         rintro _ rfl
         show OpOK _ _ _ _ _ _ _
         exact ok_gund rfl rfl
       refine ⟨?_, ?_⟩
       · rintro - w25 D25
         rintro _ rfl _ rfl
         show OpOK _ _ _ _ _ _ _
         exact ok_gund rfl rfl
       refine ⟨?_, ?_⟩
       · rintro - w26 D26
         rintro _ rfl _ rfl _ rfl
         show OpOK _ _ _ _ _ _ _
         exact ok_gund rfl rfl
       refine ⟨?_, ?_⟩
       · rintro - w27 D27
         rintro _ rfl _ rfl
         show OpOK _ _ _ _ _ _ _
         exact ok_gund rfl rfl
       refine ⟨?_, ?_⟩
       · rintro - w28 D28
         rintro _ rfl _ rfl
         show OpOK _ _ _ _ _ _ _
         exact ok_gund rfl rfl
       refine ⟨?_, ?_⟩
       · rintro - w29 D29
         rintro _ rfl
         show OpOK _ _ _ _ _ _ _
         exact ok_gund rfl rfl
       refine ⟨?_, ?_⟩
       · rintro - w30 D30
         rintro _ rfl
         show OpOK _ _ _ _ _ _ _
         exact ok_gund rfl rfl
       refine ⟨?_, ?_⟩
       · rintro - w31 D31
         rintro _ rfl _ rfl _ rfl
         show OpOK _ _ _ _ _ _ _
         exact ok_gund rfl rfl
       refine ⟨?_, ?_⟩
       · rintro - w32 D32
         rintro _ rfl _ rfl
         show OpOK _ _ _ _ _ _ _
         exact ok_gund rfl rfl
       refine ⟨?_, ?_⟩
       · rintro - w33 D33
         rintro _ rfl _ rfl
         show OpOK _ _ _ _ _ _ _
         exact ok_gund rfl rfl
       refine ⟨?_, ?_⟩
       · rintro - w34 D34
         rintro _ rfl _ rfl _ rfl
         show OpOK _ _ _ _ _ _ _
         exact ok_gund rfl rfl
       refine ⟨?_, ?_⟩
       · rintro - w35 D35
         rintro _ rfl _ rfl _ rfl
         show OpOK _ _ _ _ _ _ _
         exact ok_gno rfl rfl rfl
       refine ⟨?_, ?_⟩
       · rintro - w36 D36
         rintro _ rfl _ rfl
         show OpOK _ _ _ _ _ _ _
         exact ok_pure (ro_pickT (v := .bool _) rfl rfl) rfl
       exact trivial
      case hend =>
       intro w37 D37
       rintro _ rfl _ rfl _ rfl _ rfl v15 rfl _ rfl _ rfl _ rfl _ rfl _ rfl _ rfl _ rfl _ rfl _ rfl _ rfl _ rfl _ rfl _ rfl _ rfl _ rfl _ rfl _ rfl _ rfl _ rfl _ rfl _ rfl _ rfl _ rfl _ rfl _ rfl _ rfl _ rfl _ rfl
       show St _ _ _ _ _ _ _
       refine st_nil (nx_then ?_)
       refine cd_condT rfl ?_
       refine cd_seq (cd_region ?_)
       refine asi rfl ?_
       refine st_nil (nx_then (cd_ret (rt_block (rt_then (rt_then (rt_block (rt_then ?_)))))))
       refine res1 (v := .int _ _) rfl rfl ?_
       exact ⟨int_eq (by rw [doc_1 (fun h => by
         obtain ⟨x1, x2, x3⟩ := h i (by omega)
         first
           | omega
           | exact hnl (x3 (by omega)))]), (hB.next D37)⟩
    · apply cd_drawnD 33 [(11, eqp _), (12, eqp _), (13, eqp _), (14, eqp _), (15, eqp (.string (ds.getD i dd).1)), (16, eqp _), (17, eqp _), (18, eqp _), (19, eqp _), (20, eqp _), (21, eqp _), (22, eqp (.string (ds.getD i dd).1)), (23, eqp _), (24, eqp _), (25, eqp _), (26, eqp _), (27, eqp _), (28, eqp _), (29, eqp _), (30, eqp _), (31, eqp _), (32, eqp _), (33, eqp _), (34, eqp _), (35, eqp _), (36, eqp _), (37, eqp _), (38, eqp _), (39, eqp _), (40, eqp _), (41, eqp _), (42, eqp _), (43, eqp _)] (by repeat first | exact pq_body | refine pq_then ?_ | refine pq_block ?_) (by kernel_rfl) (by kernel_rfl) ⟨eqp_mono _, eqp_mono _, eqp_mono _, eqp_mono _, eqp_mono _, eqp_mono _, eqp_mono _, eqp_mono _, eqp_mono _, eqp_mono _, eqp_mono _, eqp_mono _, eqp_mono _, eqp_mono _, eqp_mono _, eqp_mono _, eqp_mono _, eqp_mono _, eqp_mono _, eqp_mono _, eqp_mono _, eqp_mono _, eqp_mono _, eqp_mono _, eqp_mono _, eqp_mono _, eqp_mono _, eqp_mono _, eqp_mono _, eqp_mono _, eqp_mono _, eqp_mono _, eqp_mono _, trivial⟩
      case hop =>
       refine ⟨?_, ?_⟩
       · rintro - w39 D39
         show OpOK _ _ _ _ _ _ _
         exact ok_pure (ro_move (v := .slice _ _ _) rfl) rfl
       refine ⟨?_, ?_⟩
       · rintro - w40 D40
         show OpOK _ _ _ _ _ _ _
         exact ok_pure (ro_move (v := .int _ _) rfl) rfl
       refine ⟨?_, ?_⟩
       · rintro - w41 D41
         rintro _ rfl _ rfl
         show OpOK _ _ _ _ _ _ _
         exact ok_pure (ro_indexAddrN SegRef_e22 rfl rfl (by omega)) rfl
       refine ⟨?_, ?_⟩
       · rintro - w42 D42
         rintro _ rfl
         show OpOK _ _ _ _ _ _ _
         exact ok_pure (ro_fieldAddr SegRef_f40_0 rfl) rfl
       refine ⟨?_, ?_⟩
       · rintro - w43 D43
         rintro _ rfl
         show OpOK _ _ _ _ _ _ _
         exact ok_pure (ro_load (v := .string (ds.getD i dd).1) SegRef_g9 rfl (cellF (hB.next D43) (hce 0 _ rfl))) rfl
       refine ⟨?_, ?_⟩
       · rintro - w44 D44
         rintro v44_15 rfl
         show OpOK _ _ _ _ _ _ _
         exact ok_pure (ro_bf (ro_eqlS rfl rfl) (by rw [← Bool.not_eq_true, size_get]; omega)) rfl
       refine ⟨?_, ?_⟩
       · rintro - w45 D45
         rintro _ rfl
         show OpOK _ _ _ _ _ _ _
         exact ok_pure (ro_move (v := .bool _) rfl) rfl
       refine ⟨?_, ?_⟩
       · rintro - w46 D46
         rintro _ rfl
         show OpOK _ _ _ _ _ _ _
         exact ok_gpure rfl (ro_move (v := .slice _ _ _) rfl) rfl
       refine ⟨?_, ?_⟩
       · rintro - w47 D47
         rintro _ rfl
         show OpOK _ _ _ _ _ _ _
         exact ok_gpure rfl (ro_move (v := .int _ _) rfl) rfl
       refine ⟨?_, ?_⟩
       · rintro - w48 D48
         rintro _ rfl _ rfl _ rfl
         show OpOK _ _ _ _ _ _ _
         exact ok_gpure rfl (ro_indexAddrN SegRef_e22 rfl rfl (by omega)) rfl
       refine ⟨?_, ?_⟩
       · rintro - w49 D49
         rintro _ rfl _ rfl
         show OpOK _ _ _ _ _ _ _
         exact ok_gpure rfl (ro_fieldAddr SegRef_f40_0 rfl) rfl
       refine ⟨?_, ?_⟩
       · rintro - w50 D50
         rintro _ rfl _ rfl
         show OpOK _ _ _ _ _ _ _
         exact ok_gpure rfl (ro_load (v := .string (ds.getD i dd).1) SegRef_g9 rfl (cellF (hB.next D50) (hce 0 _ rfl))) rfl
       refine ⟨?_, ?_⟩
       · rintro - w51 D51
         rintro _ rfl v51_22 rfl
         show OpOK _ _ _ _ _ _ _
         exact ok_gpure rfl (ro_lenS (by kernel_rfl) rfl) rfl
       refine ⟨?_, ?_⟩
       · rintro - w52 D52
         rintro _ rfl _ rfl
         show OpOK _ _ _ _ _ _ _
         exact ok_gpure rfl (ro_bt (ro_gtr rfl rfl) (decide_eq_true (by omega))) rfl
       refine ⟨?_, ?_⟩
       · rintro - w53 D53
         rintro _ rfl _ rfl
         show OpOK _ _ _ _ _ _ _
         exact ok_pure (ro_pickF (v := .bool _) rfl rfl) rfl
       refine ⟨?_, ?_⟩
       · rintro - w54 D54
         rintro _ rfl
         show OpOK _ _ _ _ _ _ _
         exact ok_pure (ro_move (v := .bool _) rfl) rfl
       refine ⟨?_, ?_⟩
       · rintro - w55 D55
         rintro _ rfl
         show OpOK _ _ _ _ _ _ _
         exact ok_gno rfl rfl rfl
       refine ⟨?_, ?_⟩
       · rintro - w56 D56
         rintro _ rfl _ rfl
         show OpOK _ _ _ _ _ _ _
         exact ok_gno rfl rfl rfl
       refine ⟨?_, ?_⟩
       · rintro - w57 D57
         rintro _ rfl _ rfl
         show OpOK _ _ _ _ _ _ _
         exact ok_gno rfl rfl rfl
       refine ⟨?_, ?_⟩
       · rintro - w58 D58
         rintro _ rfl
         show OpOK _ _ _ _ _ _ _
         exact ok_gund rfl rfl
       refine ⟨?_, ?_⟩
       · rintro - w59 D59
         rintro _ rfl
         show OpOK _ _ _ _ _ _ _
         exact ok_gund rfl rfl
       refine ⟨?_, ?_⟩
       · rintro - w60 D60
         rintro _ rfl _ rfl
         show OpOK _ _ _ _ _ _ _
         exact ok_gund rfl rfl
       refine ⟨?_, ?_⟩
       · rintro - w61 D61
         rintro _ rfl _ rfl _ rfl
         show OpOK _ _ _ _ _ _ _
         exact ok_gund rfl rfl
       refine ⟨?_, ?_⟩
       · rintro - w62 D62
         rintro _ rfl _ rfl
         show OpOK _ _ _ _ _ _ _
         exact ok_gund rfl rfl
       refine ⟨?_, ?_⟩
       · rintro - w63 D63
         rintro _ rfl _ rfl
         show OpOK _ _ _ _ _ _ _
         exact ok_gund rfl rfl
       refine ⟨?_, ?_⟩
       · rintro - w64 D64
         rintro _ rfl
         show OpOK _ _ _ _ _ _ _
         exact ok_gund rfl rfl
       refine ⟨?_, ?_⟩
       · rintro - w65 D65
         rintro _ rfl
         show OpOK _ _ _ _ _ _ _
         exact ok_gund rfl rfl
       refine ⟨?_, ?_⟩
       · rintro - w66 D66
         rintro _ rfl _ rfl _ rfl
         show OpOK _ _ _ _ _ _ _
         exact ok_gund rfl rfl
       refine ⟨?_, ?_⟩
       · rintro - w67 D67
         rintro _ rfl _ rfl
         show OpOK _ _ _ _ _ _ _
         exact ok_gund rfl rfl
       refine ⟨?_, ?_⟩
       · rintro - w68 D68
         rintro _ rfl _ rfl
         show OpOK _ _ _ _ _ _ _
         exact ok_gund rfl rfl
       refine ⟨?_, ?_⟩
       · rintro - w69 D69
         rintro _ rfl _ rfl _ rfl
         show OpOK _ _ _ _ _ _ _
         exact ok_gund rfl rfl
       refine ⟨?_, ?_⟩
       · rintro - w70 D70
         rintro _ rfl _ rfl _ rfl
         show OpOK _ _ _ _ _ _ _
         exact ok_gno rfl rfl rfl
       refine ⟨?_, ?_⟩
       · rintro - w71 D71
         rintro _ rfl _ rfl
         show OpOK _ _ _ _ _ _ _
         exact ok_pure (ro_pickT (v := .bool _) rfl rfl) rfl
       exact trivial
      case hend =>
       intro w72 D72
       rintro _ rfl _ rfl _ rfl _ rfl v15 rfl _ rfl _ rfl _ rfl _ rfl _ rfl _ rfl v22 rfl _ rfl _ rfl _ rfl _ rfl _ rfl _ rfl _ rfl _ rfl _ rfl _ rfl _ rfl _ rfl _ rfl _ rfl _ rfl _ rfl _ rfl _ rfl _ rfl _ rfl _ rfl
       show St _ _ _ _ _ _ _
       refine st_nil (nx_then ?_)
       refine cd_condT rfl ?_
       refine cd_seq (cd_region ?_)
       refine asi rfl ?_
       refine st_nil (nx_then (cd_ret (rt_block (rt_then (rt_then (rt_block (rt_then ?_)))))))
       refine res1 (v := .int _ _) rfl rfl ?_
       exact ⟨int_eq (by rw [doc_1 (fun h => by
         obtain ⟨x1, x2, x3⟩ := h i (by omega)
         first
           | omega
           | exact hnl (x3 (by omega)))]), (hB.next D72)⟩
    · apply cd_drawnD 33 [(11, eqp _), (12, eqp _), (13, eqp _), (14, eqp _), (15, eqp (.string (ds.getD i dd).1)), (16, eqp _), (17, eqp _), (18, eqp _), (19, eqp _), (20, eqp _), (21, eqp _), (22, eqp (.string (ds.getD i dd).1)), (23, eqp _), (24, eqp _), (25, eqp _), (26, eqp _), (27, eqp _), (28, eqp _), (29, eqp _), (30, eqp _), (31, eqp _), (32, eqp _), (33, eqp _), (34, eqp _), (35, eqp _), (36, eqp _), (37, eqp _), (38, eqp _), (39, eqp _), (40, eqp _), (41, eqp _), (42, eqp _), (43, eqp _)] (by repeat first | exact pq_body | refine pq_then ?_ | refine pq_block ?_) (by kernel_rfl) (by kernel_rfl) ⟨eqp_mono _, eqp_mono _, eqp_mono _, eqp_mono _, eqp_mono _, eqp_mono _, eqp_mono _, eqp_mono _, eqp_mono _, eqp_mono _, eqp_mono _, eqp_mono _, eqp_mono _, eqp_mono _, eqp_mono _, eqp_mono _, eqp_mono _, eqp_mono _, eqp_mono _, eqp_mono _, eqp_mono _, eqp_mono _, eqp_mono _, eqp_mono _, eqp_mono _, eqp_mono _, eqp_mono _, eqp_mono _, eqp_mono _, eqp_mono _, eqp_mono _, eqp_mono _, eqp_mono _, trivial⟩
      case hop =>
       refine ⟨?_, ?_⟩
       · rintro - w74 D74
         show OpOK _ _ _ _ _ _ _
         exact ok_pure (ro_move (v := .slice _ _ _) rfl) rfl
       refine ⟨?_, ?_⟩
       · rintro - w75 D75
         show OpOK _ _ _ _ _ _ _
         exact ok_pure (ro_move (v := .int _ _) rfl) rfl
       refine ⟨?_, ?_⟩
       · rintro - w76 D76
         rintro _ rfl _ rfl
         show OpOK _ _ _ _ _ _ _
         exact ok_pure (ro_indexAddrN SegRef_e22 rfl rfl (by omega)) rfl
       refine ⟨?_, ?_⟩
       · rintro - w77 D77
         rintro _ rfl
         show OpOK _ _ _ _ _ _ _
         exact ok_pure (ro_fieldAddr SegRef_f40_0 rfl) rfl
       refine ⟨?_, ?_⟩
       · rintro - w78 D78
         rintro _ rfl
         show OpOK _ _ _ _ _ _ _
         exact ok_pure (ro_load (v := .string (ds.getD i dd).1) SegRef_g9 rfl (cellF (hB.next D78) (hce 0 _ rfl))) rfl
       refine ⟨?_, ?_⟩
       · rintro - w79 D79
         rintro v79_15 rfl
         show OpOK _ _ _ _ _ _ _
         exact ok_pure (ro_bf (ro_eqlS rfl rfl) (by rw [← Bool.not_eq_true, size_get]; omega)) rfl
       refine ⟨?_, ?_⟩
       · rintro - w80 D80
         rintro _ rfl
         show OpOK _ _ _ _ _ _ _
         exact ok_pure (ro_move (v := .bool _) rfl) rfl
       refine ⟨?_, ?_⟩
       · rintro - w81 D81
         rintro _ rfl
         show OpOK _ _ _ _ _ _ _
         exact ok_gpure rfl (ro_move (v := .slice _ _ _) rfl) rfl
       refine ⟨?_, ?_⟩
       · rintro - w82 D82
         rintro _ rfl
         show OpOK _ _ _ _ _ _ _
         exact ok_gpure rfl (ro_move (v := .int _ _) rfl) rfl
       refine ⟨?_, ?_⟩
       · rintro - w83 D83
         rintro _ rfl _ rfl _ rfl
         show OpOK _ _ _ _ _ _ _
         exact ok_gpure rfl (ro_indexAddrN SegRef_e22 rfl rfl (by omega)) rfl
       refine ⟨?_, ?_⟩
       · rintro - w84 D84
         rintro _ rfl _ rfl
         show OpOK _ _ _ _ _ _ _
         exact ok_gpure rfl (ro_fieldAddr SegRef_f40_0 rfl) rfl
       refine ⟨?_, ?_⟩
       · rintro - w85 D85
         rintro _ rfl _ rfl
         show OpOK _ _ _ _ _ _ _
         exact ok_gpure rfl (ro_load (v := .string (ds.getD i dd).1) SegRef_g9 rfl (cellF (hB.next D85) (hce 0 _ rfl))) rfl
       refine ⟨?_, ?_⟩
       · rintro - w86 D86
         rintro _ rfl v86_22 rfl
         show OpOK _ _ _ _ _ _ _
         exact ok_gpure rfl (ro_lenS (by kernel_rfl) rfl) rfl
       refine ⟨?_, ?_⟩
       · rintro - w87 D87
         rintro _ rfl _ rfl
         show OpOK _ _ _ _ _ _ _
         exact ok_gpure rfl (ro_bf (ro_gtr rfl rfl) (decide_eq_false (by omega))) rfl
       refine ⟨?_, ?_⟩
       · rintro - w88 D88
         rintro _ rfl _ rfl
         show OpOK _ _ _ _ _ _ _
         exact ok_pure (ro_pickF (v := .bool _) rfl rfl) rfl
       refine ⟨?_, ?_⟩
       · rintro - w89 D89
         rintro _ rfl
         show OpOK _ _ _ _ _ _ _
         exact ok_pure (ro_move (v := .bool _) rfl) rfl
       refine ⟨?_, ?_⟩
       · rintro - w90 D90
         rintro _ rfl
         show OpOK _ _ _ _ _ _ _
         exact ok_gpure rfl (ro_move (v := .int _ _) rfl) rfl
       refine ⟨?_, ?_⟩
       · rintro - w91 D91
         rintro _ rfl _ rfl
         show OpOK _ _ _ _ _ _ _
         exact ok_gpure rfl (ro_bf (ro_gtr rfl rfl) (decide_eq_false (by omega))) rfl
       refine ⟨?_, ?_⟩
       · rintro - w92 D92
         rintro _ rfl _ rfl
         show OpOK _ _ _ _ _ _ _
         exact ok_gpure rfl (ro_move (v := .bool _) rfl) rfl
       refine ⟨?_, ?_⟩
       · rintro - w93 D93
         rintro _ rfl
         show OpOK _ _ _ _ _ _ _
         exact ok_gno rfl rfl rfl
       refine ⟨?_, ?_⟩
       · rintro - w94 D94
         rintro _ rfl
         show OpOK _ _ _ _ _ _ _
         exact ok_gno rfl rfl rfl
       refine ⟨?_, ?_⟩
       · rintro - w95 D95
         rintro _ rfl _ rfl
         show OpOK _ _ _ _ _ _ _
         exact ok_gno rfl rfl rfl
       refine ⟨?_, ?_⟩
       · rintro - w96 D96
         rintro _ rfl _ rfl _ rfl
         show OpOK _ _ _ _ _ _ _
         exact ok_gno rfl rfl rfl
       refine ⟨?_, ?_⟩
       · rintro - w97 D97
         rintro _ rfl _ rfl
         show OpOK _ _ _ _ _ _ _
         exact ok_gno rfl rfl rfl
       refine ⟨?_, ?_⟩
       · rintro - w98 D98
         rintro _ rfl _ rfl
         show OpOK _ _ _ _ _ _ _
         exact ok_gno rfl rfl rfl
       refine ⟨?_, ?_⟩
       · rintro - w99 D99
         rintro _ rfl
         show OpOK _ _ _ _ _ _ _
         exact ok_gno rfl rfl rfl
       refine ⟨?_, ?_⟩
       · rintro - w100 D100
         rintro _ rfl
         show OpOK _ _ _ _ _ _ _
         exact ok_gno rfl rfl rfl
       refine ⟨?_, ?_⟩
       · rintro - w101 D101
         rintro _ rfl _ rfl _ rfl
         show OpOK _ _ _ _ _ _ _
         exact ok_gno rfl rfl rfl
       refine ⟨?_, ?_⟩
       · rintro - w102 D102
         rintro _ rfl _ rfl
         show OpOK _ _ _ _ _ _ _
         exact ok_gno rfl rfl rfl
       refine ⟨?_, ?_⟩
       · rintro - w103 D103
         rintro _ rfl _ rfl
         show OpOK _ _ _ _ _ _ _
         exact ok_gno rfl rfl rfl
       refine ⟨?_, ?_⟩
       · rintro - w104 D104
         rintro _ rfl _ rfl _ rfl
         show OpOK _ _ _ _ _ _ _
         exact ok_gno rfl rfl rfl
       refine ⟨?_, ?_⟩
       · rintro - w105 D105
         rintro _ rfl _ rfl _ rfl
         show OpOK _ _ _ _ _ _ _
         exact ok_gpure rfl (ro_pickF (v := .bool _) rfl rfl) rfl
       refine ⟨?_, ?_⟩
       · rintro - w106 D106
         rintro _ rfl _ rfl
         show OpOK _ _ _ _ _ _ _
         exact ok_pure (ro_pickF (v := .bool _) rfl rfl) rfl
       exact trivial
      case hend =>
       intro w107 D107
       rintro _ rfl _ rfl _ rfl _ rfl v15 rfl _ rfl _ rfl _ rfl _ rfl _ rfl _ rfl v22 rfl _ rfl _ rfl _ rfl _ rfl _ rfl _ rfl _ rfl _ rfl _ rfl _ rfl _ rfl _ rfl _ rfl _ rfl _ rfl _ rfl _ rfl _ rfl _ rfl _ rfl _ rfl
       show St _ _ _ _ _ _ _
       refine st_nil (nx_then ?_)
       refine cd_condF rfl ?_
       refine cd_skip (nx_block (nx_then (cd_region ?_)))
       refine mvi rfl ?_
       refine st_val (ro_addN (b := 1) rfl rfl (by omega)) ?_
       refine asi rfl ?_
       refine st_nil ?_
       refine nx_cut (i + 1) ⟨(by first | rfl | (refine int_eq ?_; omega)), trivial⟩ (by (iterate 81 refine agr_cons rfl ?_); exact agr_rfl) ⟨?_, ?_⟩
       · have hoi : okI ds i := by first | exact ⟨by omega, by omega, fun h => absurd h (by omega)⟩ | exact ⟨by omega, by omega, fun _ => hlt⟩
         exact ⟨by omega, fun x hx => by
           rcases Nat.eq_or_lt_of_le (Nat.le_of_lt_succ hx) with e | e
           · subst e; exact hoi
           · exact hok x e, (hB.next D107)⟩
       · show n - (i + 1) < n - i; omega
    apply cd_drawnD 33 [(11, eqp _), (12, eqp _), (13, eqp _), (14, eqp _), (15, eqp (.string (ds.getD i dd).1)), (16, eqp _), (17, eqp _), (18, eqp _), (19, eqp _), (20, eqp _), (21, eqp _), (22, eqp (.string (ds.getD i dd).1)), (23, eqp _), (24, eqp _), (25, eqp _), (26, eqp _), (27, eqp _), (28, eqp _), (29, eqp _), (30, eqp _), (31, eqp _), (32, eqp _), (33, eqp _), (34, eqp _), (35, eqp (.string (ds.getD (i - 1) dd).1)), (36, eqp _), (37, eqp _), (38, eqp _), (39, eqp _), (40, eqp (.string (ds.getD i dd).1)), (41, eqp _), (42, eqp _), (43, eqp _)] (by repeat first | exact pq_body | refine pq_then ?_ | refine pq_block ?_) (by kernel_rfl) (by kernel_rfl) ⟨eqp_mono _, eqp_mono _, eqp_mono _, eqp_mono _, eqp_mono _, eqp_mono _, eqp_mono _, eqp_mono _, eqp_mono _, eqp_mono _, eqp_mono _, eqp_mono _, eqp_mono _, eqp_mono _, eqp_mono _, eqp_mono _, eqp_mono _, eqp_mono _, eqp_mono _, eqp_mono _, eqp_mono _, eqp_mono _, eqp_mono _, eqp_mono _, eqp_mono _, eqp_mono _, eqp_mono _, eqp_mono _, eqp_mono _, eqp_mono _, eqp_mono _, eqp_mono _, eqp_mono _, trivial⟩
    case hop =>
     refine ⟨?_, ?_⟩
     · rintro - w109 D109
       show OpOK _ _ _ _ _ _ _
       exact ok_pure (ro_move (v := .slice _ _ _) rfl) rfl
     refine ⟨?_, ?_⟩
     · rintro - w110 D110
       show OpOK _ _ _ _ _ _ _
       exact ok_pure (ro_move (v := .int _ _) rfl) rfl
     refine ⟨?_, ?_⟩
     · rintro - w111 D111
       rintro _ rfl _ rfl
       show OpOK _ _ _ _ _ _ _
       exact ok_pure (ro_indexAddrN SegRef_e22 rfl rfl (by omega)) rfl
     refine ⟨?_, ?_⟩
     · rintro - w112 D112
       rintro _ rfl
       show OpOK _ _ _ _ _ _ _
       exact ok_pure (ro_fieldAddr SegRef_f40_0 rfl) rfl
     refine ⟨?_, ?_⟩
     · rintro - w113 D113
       rintro _ rfl
       show OpOK _ _ _ _ _ _ _
       exact ok_pure (ro_load (v := .string (ds.getD i dd).1) SegRef_g9 rfl (cellF (hB.next D113) (hce 0 _ rfl))) rfl
     refine ⟨?_, ?_⟩
     · rintro - w114 D114
       rintro v114_15 rfl
       show OpOK _ _ _ _ _ _ _
       exact ok_pure (ro_bf (ro_eqlS rfl rfl) (by rw [← Bool.not_eq_true, size_get]; omega)) rfl
     refine ⟨?_, ?_⟩
     · rintro - w115 D115
       rintro _ rfl
       show OpOK _ _ _ _ _ _ _
       exact ok_pure (ro_move (v := .bool _) rfl) rfl
     refine ⟨?_, ?_⟩
     · rintro - w116 D116
       rintro _ rfl
       show OpOK _ _ _ _ _ _ _
       exact ok_gpure rfl (ro_move (v := .slice _ _ _) rfl) rfl
     refine ⟨?_, ?_⟩
     · rintro - w117 D117
       rintro _ rfl
       show OpOK _ _ _ _ _ _ _
       exact ok_gpure rfl (ro_move (v := .int _ _) rfl) rfl
     refine ⟨?_, ?_⟩
     · rintro - w118 D118
       rintro _ rfl _ rfl _ rfl
       show OpOK _ _ _ _ _ _ _
       exact ok_gpure rfl (ro_indexAddrN SegRef_e22 rfl rfl (by omega)) rfl
     refine ⟨?_, ?_⟩
     · rintro - w119 D119
       rintro _ rfl _ rfl
       show OpOK _ _ _ _ _ _ _
       exact ok_gpure rfl (ro_fieldAddr SegRef_f40_0 rfl) rfl
     refine ⟨?_, ?_⟩
     · rintro - w120 D120
       rintro _ rfl _ rfl
       show OpOK _ _ _ _ _ _ _
       exact ok_gpure rfl (ro_load (v := .string (ds.getD i dd).1) SegRef_g9 rfl (cellF (hB.next D120) (hce 0 _ rfl))) rfl
     refine ⟨?_, ?_⟩
     · rintro - w121 D121
       rintro _ rfl v121_22 rfl
       show OpOK _ _ _ _ _ _ _
       exact ok_gpure rfl (ro_lenS (by kernel_rfl) rfl) rfl
     refine ⟨?_, ?_⟩
     · rintro - w122 D122
       rintro _ rfl _ rfl
       show OpOK _ _ _ _ _ _ _
       exact ok_gpure rfl (ro_bf (ro_gtr rfl rfl) (decide_eq_false (by omega))) rfl
     refine ⟨?_, ?_⟩
     · rintro - w123 D123
       rintro _ rfl _ rfl
       show OpOK _ _ _ _ _ _ _
       exact ok_pure (ro_pickF (v := .bool _) rfl rfl) rfl
     refine ⟨?_, ?_⟩
     · rintro - w124 D124
       rintro _ rfl
       show OpOK _ _ _ _ _ _ _
       exact ok_pure (ro_move (v := .bool _) rfl) rfl
     refine ⟨?_, ?_⟩
     · rintro - w125 D125
       rintro _ rfl
       show OpOK _ _ _ _ _ _ _
       exact ok_gpure rfl (ro_move (v := .int _ _) rfl) rfl
     refine ⟨?_, ?_⟩
     · rintro - w126 D126
       rintro _ rfl _ rfl
       show OpOK _ _ _ _ _ _ _
       exact ok_gpure rfl (ro_bt (ro_gtr rfl rfl) (decide_eq_true (by omega))) rfl
     refine ⟨?_, ?_⟩
     · rintro - w127 D127
       rintro _ rfl _ rfl
       show OpOK _ _ _ _ _ _ _
       exact ok_gpure rfl (ro_move (v := .bool _) rfl) rfl
     refine ⟨?_, ?_⟩
     · rintro - w128 D128
       rintro _ rfl
       show OpOK _ _ _ _ _ _ _
       exact ok_gpure rfl (ro_move (v := .slice _ _ _) rfl) rfl
     refine ⟨?_, ?_⟩
     · rintro - w129 D129
       rintro _ rfl
       show OpOK _ _ _ _ _ _ _
       exact ok_gpure rfl (ro_move (v := .int _ _) rfl) rfl
     refine ⟨?_, ?_⟩
     · rintro - w130 D130
       rintro _ rfl _ rfl
       show OpOK _ _ _ _ _ _ _
       exact ok_gpure rfl (ro_subN (b := 1) rfl rfl (by omega)) rfl
     refine ⟨?_, ?_⟩
     · rintro - w131 D131
       rintro _ rfl _ rfl _ rfl
       show OpOK _ _ _ _ _ _ _
       exact ok_gpure rfl (ro_indexAddrN SegRef_e22 rfl rfl (by omega)) rfl
     refine ⟨?_, ?_⟩
     · rintro - w132 D132
       rintro _ rfl _ rfl
       show OpOK _ _ _ _ _ _ _
       exact ok_gpure rfl (ro_fieldAddr SegRef_f40_0 rfl) rfl
     refine ⟨?_, ?_⟩
     · rintro - w133 D133
       rintro _ rfl _ rfl
       show OpOK _ _ _ _ _ _ _
       exact ok_gpure rfl (ro_load (v := .string (ds.getD (i - 1) dd).1) SegRef_g9 rfl (cellF (hB.next D133) (hcp (by omega) 0 _ rfl))) rfl
     refine ⟨?_, ?_⟩
     · rintro - w134 D134
       rintro _ rfl
       show OpOK _ _ _ _ _ _ _
       exact ok_gpure rfl (ro_move (v := .slice _ _ _) rfl) rfl
     refine ⟨?_, ?_⟩
     · rintro - w135 D135
       rintro _ rfl
       show OpOK _ _ _ _ _ _ _
       exact ok_gpure rfl (ro_move (v := .int _ _) rfl) rfl
     refine ⟨?_, ?_⟩
     · rintro - w136 D136
       rintro _ rfl _ rfl _ rfl
       show OpOK _ _ _ _ _ _ _
       exact ok_gpure rfl (ro_indexAddrN SegRef_e22 rfl rfl (by omega)) rfl
     refine ⟨?_, ?_⟩
     · rintro - w137 D137
       rintro _ rfl _ rfl
       show OpOK _ _ _ _ _ _ _
       exact ok_gpure rfl (ro_fieldAddr SegRef_f40_0 rfl) rfl
     refine ⟨?_, ?_⟩
     · rintro - w138 D138
       rintro _ rfl _ rfl
       show OpOK _ _ _ _ _ _ _
       exact ok_gpure rfl (ro_load (v := .string (ds.getD i dd).1) SegRef_g9 rfl (cellF (hB.next D138) (hce 0 _ rfl))) rfl
     refine ⟨?_, ?_⟩
     · rintro - w139 D139
       rintro _ rfl v139_35 rfl v139_40 rfl
       show OpOK _ _ _ _ _ _ _
       exact ok_gpure rfl (ro_geqS rfl rfl) rfl
     refine ⟨?_, ?_⟩
     · rintro - w140 D140
       rintro _ rfl _ rfl _ rfl
       show OpOK _ _ _ _ _ _ _
       exact ok_gpure rfl (ro_pickT (v := .bool _) rfl rfl) rfl
     refine ⟨?_, ?_⟩
     · rintro - w141 D141
       rintro _ rfl _ rfl
       show OpOK _ _ _ _ _ _ _
       exact ok_pure (ro_pickF (v := .bool _) rfl rfl) rfl
     exact trivial
    case hend =>
     intro w142 D142
     rintro _ rfl _ rfl _ rfl _ rfl v15 rfl _ rfl _ rfl _ rfl _ rfl _ rfl _ rfl v22 rfl _ rfl _ rfl _ rfl _ rfl _ rfl _ rfl _ rfl _ rfl _ rfl _ rfl _ rfl _ rfl v35 rfl _ rfl _ rfl _ rfl _ rfl v40 rfl _ rfl _ rfl _ rfl
     show St _ _ _ _ _ _ _
     refine st_nil (nx_then ?_)
     refine cd_cond rfl (fun Q143 => ?_) (fun Q143 => ?_)
     · with_reducible replace Q143 := bn_t Q143
       have hnl : ¬ sLt (ds.getD (i - 1) dd).1 (ds.getD i dd).1 := fun h => by
         have h9 := (sLt_dec _ _).2 h
         simp_all
       refine cd_seq (cd_region ?_)
       refine asi rfl ?_
       refine st_nil (nx_then (cd_ret (rt_block (rt_then (rt_then (rt_block (rt_then ?_)))))))
       refine res1 (v := .int _ _) rfl rfl ?_
       exact ⟨int_eq (by rw [doc_1 (fun h => by
         obtain ⟨x1, x2, x3⟩ := h i (by omega)
         first
           | omega
           | exact hnl (x3 (by omega)))]), (hB.next D142)⟩
     with_reducible replace Q143 := bn_f Q143
     have hlt : sLt (ds.getD (i - 1) dd).1 (ds.getD i dd).1 := (sLt_dec _ _).1 (by simpa using Q143)
     refine cd_skip (nx_block (nx_then (cd_region ?_)))
     refine mvi rfl ?_
     refine st_val (ro_addN (b := 1) rfl rfl (by omega)) ?_
     refine asi rfl ?_
     refine st_nil ?_
     refine nx_cut (i + 1) ⟨(by first | rfl | (refine int_eq ?_; omega)), trivial⟩ (by (iterate 81 refine agr_cons rfl ?_); exact agr_rfl) ⟨?_, ?_⟩
     · have hoi : okI ds i := by first | exact ⟨by omega, by omega, fun h => absurd h (by omega)⟩ | exact ⟨by omega, by omega, fun _ => hlt⟩
       exact ⟨by omega, fun x hx => by
         rcases Nat.eq_or_lt_of_le (Nat.le_of_lt_succ hx) with e | e
         · subst e; exact hoi
         · exact hok x e, (hB.next D142)⟩
     · show n - (i + 1) < n - i; omega
  with_reducible replace Q2 := of_decide_eq_false Q2
  have hord : DOrd ds := fun x hx => hok x (by omega)
  refine cd_exit ?_
  refine ex_then (ex_then (ex_block (nx_then (cd_seq (cd_seq (cd_region ?_))))))
  refine mvs rfl ?_
  refine st_val (ro_len SegRef_l22 rfl) ?_
  refine st_val (ro_gtr rfl rfl) ?_
  refine st_nil (nx_then ?_)
  refine cd_cond rfl (fun Q144 => ?_) (fun Q144 => ?_)
  · with_reducible replace Q144 := of_decide_eq_true Q144
    refine cd_seq (cd_region ?_)
    refine asi rfl ?_
    refine st_nil (nx_then (cd_ret (rt_then ?_)))
    refine res1 (v := .int _ _) rfl rfl ?_
    exact ⟨int_eq (by rw [doc_2 hord (fun h => by have := h.1; omega)]), hB⟩
  with_reducible replace Q144 := of_decide_eq_false Q144
  refine cd_skip (nx_then (cd_seq (cd_seq (cd_region ?_))))
  refine asi rfl ?_
  refine st_nil (nx_then (cd_block ?_))
  refine cd_loop (G := Nat) [2, 47, 48, 49, 50, 51, 52, 53, 54, 55, 56, 57, 58, 59] (fun i => [(4, .int .i64 (i : Nat))]) (fun i w' => i ≤ n ∧ (∀ x, x < i → (ds.getD x dd).2.size ≤ 2048) ∧ From w w') (fun i => n - i) (0) ⟨rfl, trivial⟩ ?_ ?_
  · exact ⟨Nat.zero_le _, fun x h => absurd h (by omega), hB⟩
  rintro i ρ145 w145 ⟨hi, hok2, hB⟩
  refine cd_seq (cd_seq (cd_region ?_))
  refine mvi rfl ?_
  refine mvs rfl ?_
  refine st_val (ro_len SegRef_l22 rfl) ?_
  refine st_val (ro_lss rfl rfl) ?_
  refine st_nil (nx_then ?_)
  refine cd_cond rfl (fun Q146 => ?_) (fun Q146 => ?_)
  · with_reducible replace Q146 := of_decide_eq_true Q146
    obtain ⟨bd, od, rfl, hcd⟩ := hr (by omega)
    have hil : i < ds.length := by omega
    have hce := hcd i hil
    rw [← getD_get hil] at hce
    refine cd_skip (nx_then (cd_seq (cd_block (cd_seq (cd_region ?_)))))
    refine mvs rfl ?_
    refine mvi rfl ?_
    refine st_val (ro_indexAddrN SegRef_e22 rfl rfl (by omega)) ?_
    refine st_val (ro_fieldAddr SegRef_f40_1 rfl) ?_
    refine st_val (ro_load SegRef_g9 rfl (by exact cellF hB (hce 1 _ rfl))) ?_
    refine st_val (ro_lenS (by kernel_rfl) rfl) ?_
    refine st_val (ro_gtr rfl rfl) ?_
    refine st_nil (nx_then ?_)
    refine cd_cond rfl (fun Q147 => ?_) (fun Q147 => ?_)
    · with_reducible replace Q147 := of_decide_eq_true Q147
      refine cd_seq (cd_region ?_)
      refine asi rfl ?_
      refine st_nil (nx_then (cd_ret (rt_block (rt_then (rt_then (rt_block (rt_then ?_)))))))
      refine res1 (v := .int _ _) rfl rfl ?_
      exact ⟨int_eq (by rw [doc_2 hord (fun h => by have := h.2.1 (ds.getD i dd) (by rw [getD_get (show i < ds.length by omega)]; exact List.getElem_mem _); omega)]), hB⟩
    with_reducible replace Q147 := of_decide_eq_false Q147
    refine cd_skip (nx_block (nx_then (cd_region ?_)))
    refine mvi rfl ?_
    refine st_val (ro_addN (b := 1) rfl rfl (by omega)) ?_
    refine asi rfl ?_
    refine st_nil ?_
    refine nx_cut (i + 1) ⟨(by first | rfl | (refine int_eq ?_; omega)), trivial⟩ (by (iterate 29 refine agr_cons rfl ?_); exact agr_rfl) ⟨?_, ?_⟩
    · exact ⟨by omega, fun x hx => by
        rcases Nat.eq_or_lt_of_le (Nat.le_of_lt_succ hx) with e | e
        · subst e; omega
        · exact hok2 x e, hB⟩
    · show n - (i + 1) < n - i; omega
  with_reducible replace Q146 := of_decide_eq_false Q146
  have hall : ∀ d ∈ ds, d.2.size ≤ 2048 := fun d hd => by
    obtain ⟨x, hx, rfl⟩ := List.getElem_of_mem hd
    have := hok2 x (by omega)
    rwa [getD_get hx] at this
  have hdm := dsz_many hall
  refine cd_exit ?_
  refine ex_then (ex_then (ex_block (nx_then (cd_seq (cd_seq (cd_region ?_))))))
  refine mvs rfl ?_
  refine st_call SegRef_k10 (refSize_rt A c n ds _ (hr.from_ hB) hn hl (by omega)) ?_
  rintro v61 w148 ⟨rfl, E61⟩
  refine st_val (ro_gtr rfl rfl) ?_
  refine st_nil (nx_then ?_)
  refine cd_cond rfl (fun Q149 => ?_) (fun Q149 => ?_)
  · with_reducible replace Q149 := of_decide_eq_true Q149
    refine cd_seq (cd_region ?_)
    refine asi rfl ?_
    refine st_nil (nx_then (cd_ret (rt_then ?_)))
    refine res1 (v := .int _ _) rfl rfl ?_
    exact ⟨int_eq (by rw [doc_2 hord (fun h => by have := h.2.2; omega)]), (hB.next E61)⟩
  with_reducible replace Q149 := of_decide_eq_false Q149
  refine cd_skip (nx_then (cd_seq (cd_region ?_)))
  refine asi rfl ?_
  refine st_nil (nx_then (cd_ret ?_))
  refine res1 (v := .int _ _) rfl rfl ?_
  exact ⟨int_eq (by rw [doc_0 hord ⟨by omega, hall, by omega⟩]), (hB.next E61)⟩
def askP (p : ByteArray) (limit : Int) : Int := if p.size = 0 then 5 else if 4096 < p.size ∨ limit < 1 ∨ 1000 < limit then 2 else 0
end Go.Proofs.YtllmocjfllbbfaaGreat

namespace Go.Proofs.YtllmocjfllbbfaaGreat
open Go.RowKit
open Go.ChangeShapes Go.WideShapes Go.ChangeAt
open Go.Proofs.YtllmocjfllbbfaaGreat.SA
theorem SegHelp_q22 : litQ Tryz.prog 22 = some (40, 2, 32, (.agg #[.string ⟨#[]⟩, .string ⟨#[]⟩])) := by kernel_rfl
theorem SegHelp_q56 : litQ Tryz.prog 56 = some (61, 2, 24, (.agg #[.string ⟨#[]⟩, .int .i64 0])) := by kernel_rfl
theorem SegHelp_f25_0 : fieldQ Tryz.prog 25 0 = some 0 := by kernel_rfl
theorem SegHelp_g22 : aggQ Tryz.prog 22 = some false := by kernel_rfl
theorem SegHelp_k15 : callable Tryz.prog 15 = true := by kernel_rfl
theorem SegHelp_f25_1 : fieldQ Tryz.prog 25 1 = some 1 := by kernel_rfl
theorem SegHelp_g23 : aggQ Tryz.prog 23 = some false := by kernel_rfl
theorem SegHelp_l23 : (elemQ Tryz.prog 23).isSome = true := by kernel_rfl
theorem SegHelp_f25_2 : fieldQ Tryz.prog 25 2 = some 2 := by kernel_rfl
theorem SegHelp_k16 : callable Tryz.prog 16 = true := by kernel_rfl
theorem SegHelp_b40_0cstring97_1cstring120120 : Tryz.prog.built 40 [(0, .string ⟨#[97]⟩), (1, .string ⟨#[120, 120]⟩)] = some #[.string ⟨#[97]⟩, .string ⟨#[120, 120]⟩] := by kernel_rfl
theorem SegHelp_k18 : callable Tryz.prog 18 = true := by kernel_rfl
theorem SegHelp_k13 : callable Tryz.prog 13 = true := by kernel_rfl
theorem SegHelp_k20 : callable Tryz.prog 20 = true := by kernel_rfl
theorem SegHelp_b61_0cstring97 : Tryz.prog.built 61 [(0, .string ⟨#[97]⟩)] = some #[.string ⟨#[97]⟩, .int .i64 0] := by kernel_rfl
theorem SegHelp_b61_0cstring97_1cinti641 : Tryz.prog.built 61 [(0, .string ⟨#[97]⟩), (1, .int .i64 1)] = some #[.string ⟨#[97]⟩, .int .i64 1] := by kernel_rfl
theorem SegHelp_k21 : callable Tryz.prog 21 = true := by kernel_rfl
theorem SegHelp_k17 : callable Tryz.prog 17 = true := by kernel_rfl
theorem SegHelp_k11 : callable Tryz.prog 11 = true := by kernel_rfl
theorem SegHelp_k19 : callable Tryz.prog 19 = true := by kernel_rfl
theorem SegHelp_p27 : Tryz.prog.underlying 27 = some (.pointer (Tryz.prog.pointee 27)) := by kernel_rfl
theorem SegHelp_f50_0 : fieldQ Tryz.prog 50 0 = some 0 := by kernel_rfl
theorem SegHelp_g47 : aggQ Tryz.prog 47 = some false := by kernel_rfl
theorem SegHelp_p47 : Tryz.prog.underlying 47 = some (.pointer (Tryz.prog.pointee 47)) := by kernel_rfl
theorem SegHelp_f55_0 : fieldQ Tryz.prog 55 0 = some 0 := by kernel_rfl
theorem SegHelp_g51 : aggQ Tryz.prog 51 = some false := by kernel_rfl
theorem SegHelp_p51 : Tryz.prog.underlying 51 = some (.pointer (Tryz.prog.pointee 51)) := by kernel_rfl
structure AskS (w : World) (A B C : Option Addr) (ca : Nat) (ds : List Dc) (ps ns : List ByteArray) : Prop where
  row : RowK 2 dV w A ds
  sm : ∀ d ∈ ds, Small d.1 ∧ Small d.2
  len : ds.length * 32 ≤ 140737488351232
  nil : A = none → ca = 0
  rowP : RowOf Value.string w B ps
  smP : ∀ s ∈ ps, Small s
  lenP : ps.length * 16 ≤ 140737488351232
  rowN : RowOf Value.string w C ns
  smN : ∀ s ∈ ns, Small s
  lenN : ns.length * 16 ≤ 140737488351232
theorem AskS.from_ {w w' : World} {A B C : Option Addr} {ca : Nat} {ds : List Dc} {ps ns : List ByteArray} (h : AskS w A B C ca ds ps ns) (hF : From w w') : AskS w' A B C ca ds ps ns :=
  ⟨h.row.from_ hF, h.sm, h.len, h.nil, h.rowP.from_ hF, h.smP, h.lenP, h.rowN.from_ hF, h.smN, h.lenN⟩
theorem ask_of8 {w : World} {cs : Array Value} {x : (Ty.pr (Ty.sl docT) (.pr (.sl .str) (.pr (.sl .str) .unit))).den} (hs : cs.size = 3) (h : (Ty.pr (Ty.sl docT) (.pr (.sl .str) (.pr (.sl .str) .unit))).At w (fun j => cs[j]?) x) :
    ∃ (A B C : Option Addr) (ca cb cc : Nat) (ds : List Dc) (ps ns : List ByteArray), cs = #[.slice A ds.length ca, .slice B ps.length cb, .slice C ns.length cc] ∧ AskS w A B C ca ds ps ns ∧ ds.length ≤ ca := by
  obtain ⟨h1, h2, h3, _⟩ := h
  obtain ⟨A, ca, ds, a0, a1, a2, a3, a4, a5⟩ := at_docs h1
  obtain ⟨B, cb, ps, b0, b1, b2, b3⟩ := at_strS h2
  obtain ⟨C, cc, ns, c0, c1, c2, c3⟩ := at_strS h3
  have e0 : cs[0]? = some _ := a0
  have e1 : cs[1]? = some _ := b0
  have e2 : cs[2]? = some _ := c0
  refine ⟨A, B, C, ca, cb, cc, ds, ps, ns, ?_, ⟨a1, a2, a3, a5, b1, b2, b3, c1, c2, c3⟩, a4⟩
  obtain ⟨l⟩ := cs
  match l, hs with
  | [a, b, c], _ =>
    simp only [List.getElem?_toArray, List.getElem?_cons_zero, List.getElem?_cons_succ, Option.some.injEq] at e0 e1 e2
    rw [e0, e1, e2]
set_option maxHeartbeats 400000 in
theorem num_any (e : Int) (w : World) :
    Rt Tryz.prog 13 [.int .i64 e] w (fun v w' => v = .int .i64 e ∧ w = w') := by
  refine enter (n := 4) Tryz.func13 rfl rfl rfl ?_
  refine cd_seq (cd_region ?_)
  refine asi rfl ?_
  refine st_nil (nx_then (cd_seq (cd_region ?_)))
  refine mvi rfl ?_
  refine asi rfl ?_
  refine st_nil (nx_then (cd_ret ?_))
  refine res1 (v := .int _ _) rfl rfl ?_
  exact ⟨rfl, rfl⟩
set_option maxHeartbeats 4000000 in
theorem heavy_rt (A B C : Option Addr) (ca cb cc : Nat) (ds : List Dc) (ps ns : List ByteArray) (w : World) (ha : AskS w A B C ca ds ps ns) :
    Rt Tryz.prog 4 [.agg #[.slice A ds.length ca, .slice B ps.length cb, .slice C ns.length cc]] w (fun v w' => (∃ h : Bool, v = .bool h ∧ (h = false → ds.length ≤ 60000 ∧ ps.length ≤ 30 ∧ ns.length ≤ 30)) ∧ From w w') := by
  have hl1 := ha.len
  have hl2 := ha.lenP
  have hl3 := ha.lenN
  refine enter (n := 43) Tryz.func4 rfl rfl rfl ?_
  refine cd_seq (cd_region ?_)
  refine st_box (v := .agg _) rfl ?_
  intro b1 w1 E1 hb1 hk1
  refine asb rfl ?_
  refine st_nil (nx_then (cd_seq (cd_region ?_)))
  refine st_val (ro_fieldAddr SegHelp_f25_0 rfl) ?_
  refine st_val (ro_load SegHelp_g22 rfl (by exact (hk1.from_ From.rfl_).rd 0 rfl)) ?_
  refine st_call SegHelp_k15 (docW_rt A ca ds.length ds _ (ha.row.from_ (From.rfl_.next E1)) rfl (by omega) ha.sm) ?_
  rintro v5 w2 ⟨⟨m5, rfl, hm5⟩, E5⟩
  refine st_val (ro_gtr rfl rfl) ?_
  refine mvb rfl ?_
  refine st_split (t := 7) rfl (fun Q3 => ?_) (fun Q3 => ?_)
  · with_reducible replace Q3 := of_decide_eq_true Q3
    refine st_unguard rfl ?_
    refine st_val (ro_fieldAddr SegHelp_f25_0 rfl) ?_
    refine st_unguard rfl ?_
    refine st_val (ro_load SegHelp_g22 rfl (by exact (hk1.from_ (From.rfl_.next E5)).rd 0 rfl)) ?_
    refine st_unguard rfl ?_
    refine st_call SegHelp_k15 (docW_rt A ca ds.length ds _ (ha.row.from_ ((From.rfl_.next E1).next E5)) rfl (by omega) ha.sm) ?_
    rintro v10 w4 ⟨⟨m10, rfl, hm10⟩, E10⟩
    refine st_unguard rfl ?_
    refine st_val (ro_lss rfl rfl) ?_
    refine st_val (ro_pickT (v := .bool _) rfl rfl) ?_
    refine mvb rfl ?_
    refine st_split (t := 13) rfl (fun Q5 => ?_) (fun Q5 => ?_)
    · with_reducible replace Q5 := of_decide_eq_true Q5
      refine st_gno rfl rfl ?_
      refine st_gno rfl rfl ?_
      refine st_gno rfl rfl ?_
      refine st_gno rfl rfl ?_
      refine st_val (ro_pickT (v := .bool _) rfl rfl) ?_
      refine mvb rfl ?_
      refine st_gno rfl rfl ?_
      refine st_gno rfl rfl ?_
      refine st_gno rfl rfl ?_
      refine st_gno rfl rfl ?_
      refine st_val (ro_pickT (v := .bool _) rfl rfl) ?_
      refine mvb rfl ?_
      refine st_gno rfl rfl ?_
      refine st_gno rfl rfl ?_
      refine st_gno rfl rfl ?_
      refine st_gno rfl rfl ?_
      refine st_val (ro_pickT (v := .bool _) rfl rfl) ?_
      refine mvb rfl ?_
      refine st_gno rfl rfl ?_
      refine st_gno rfl rfl ?_
      refine st_gno rfl rfl ?_
      refine st_gno rfl rfl ?_
      refine st_val (ro_pickT (v := .bool _) rfl rfl) ?_
      refine mvb rfl ?_
      refine st_gno rfl rfl ?_
      refine st_gno rfl rfl ?_
      refine st_gno rfl rfl ?_
      refine st_gno rfl rfl ?_
      refine st_val (ro_pickT (v := .bool _) rfl rfl) ?_
      refine asb rfl ?_
      refine st_nil (nx_then (cd_ret ?_))
      refine res1 (v := .bool _) rfl rfl ?_
      refine ⟨⟨_, rfl, fun h => ?_⟩, (((From.rfl_.next E1).next E5).next E10)⟩
      first
        | (cases h; done)
        | omega
        | (have hq := of_decide_eq_false h; omega)
    with_reducible replace Q5 := of_decide_eq_false Q5
    refine st_unguard rfl ?_
    refine st_val (ro_fieldAddr SegHelp_f25_0 rfl) ?_
    refine st_unguard rfl ?_
    refine st_val (ro_load SegHelp_g22 rfl (by exact (hk1.from_ ((From.rfl_.next E5).next E10)).rd 0 rfl)) ?_
    refine st_unguard rfl ?_
    refine st_call SegHelp_k15 (docW_rt A ca ds.length ds _ (ha.row.from_ (((From.rfl_.next E1).next E5).next E10)) rfl (by omega) ha.sm) ?_
    rintro v16 w6 ⟨⟨m16, rfl, hm16⟩, E16⟩
    refine st_unguard rfl ?_
    refine st_val (ro_gtr rfl rfl) ?_
    refine st_val (ro_pickF (v := .bool _) rfl rfl) ?_
    refine mvb rfl ?_
    refine st_split (t := 19) rfl (fun Q7 => ?_) (fun Q7 => ?_)
    · with_reducible replace Q7 := of_decide_eq_true Q7
      refine st_gno rfl rfl ?_
      refine st_gno rfl rfl ?_
      refine st_gno rfl rfl ?_
      refine st_gno rfl rfl ?_
      refine st_val (ro_pickT (v := .bool _) rfl rfl) ?_
      refine mvb rfl ?_
      refine st_gno rfl rfl ?_
      refine st_gno rfl rfl ?_
      refine st_gno rfl rfl ?_
      refine st_gno rfl rfl ?_
      refine st_val (ro_pickT (v := .bool _) rfl rfl) ?_
      refine mvb rfl ?_
      refine st_gno rfl rfl ?_
      refine st_gno rfl rfl ?_
      refine st_gno rfl rfl ?_
      refine st_gno rfl rfl ?_
      refine st_val (ro_pickT (v := .bool _) rfl rfl) ?_
      refine mvb rfl ?_
      refine st_gno rfl rfl ?_
      refine st_gno rfl rfl ?_
      refine st_gno rfl rfl ?_
      refine st_gno rfl rfl ?_
      refine st_val (ro_pickT (v := .bool _) rfl rfl) ?_
      refine asb rfl ?_
      refine st_nil (nx_then (cd_ret ?_))
      refine res1 (v := .bool _) rfl rfl ?_
      refine ⟨⟨_, rfl, fun h => ?_⟩, ((((From.rfl_.next E1).next E5).next E10).next E16)⟩
      first
        | (cases h; done)
        | omega
        | (have hq := of_decide_eq_false h; omega)
    with_reducible replace Q7 := of_decide_eq_false Q7
    refine st_unguard rfl ?_
    refine st_val (ro_fieldAddr SegHelp_f25_1 rfl) ?_
    refine st_unguard rfl ?_
    refine st_val (ro_load SegHelp_g23 rfl (by exact (hk1.from_ (((From.rfl_.next E5).next E10).next E16)).rd 1 rfl)) ?_
    refine st_unguard rfl ?_
    refine st_val (ro_len SegHelp_l23 rfl) ?_
    refine st_unguard rfl ?_
    refine st_val (ro_gtr rfl rfl) ?_
    refine st_val (ro_pickF (v := .bool _) rfl rfl) ?_
    refine mvb rfl ?_
    refine st_split (t := 25) rfl (fun Q8 => ?_) (fun Q8 => ?_)
    · with_reducible replace Q8 := of_decide_eq_true Q8
      refine st_gno rfl rfl ?_
      refine st_gno rfl rfl ?_
      refine st_gno rfl rfl ?_
      refine st_gno rfl rfl ?_
      refine st_val (ro_pickT (v := .bool _) rfl rfl) ?_
      refine mvb rfl ?_
      refine st_gno rfl rfl ?_
      refine st_gno rfl rfl ?_
      refine st_gno rfl rfl ?_
      refine st_gno rfl rfl ?_
      refine st_val (ro_pickT (v := .bool _) rfl rfl) ?_
      refine mvb rfl ?_
      refine st_gno rfl rfl ?_
      refine st_gno rfl rfl ?_
      refine st_gno rfl rfl ?_
      refine st_gno rfl rfl ?_
      refine st_val (ro_pickT (v := .bool _) rfl rfl) ?_
      refine asb rfl ?_
      refine st_nil (nx_then (cd_ret ?_))
      refine res1 (v := .bool _) rfl rfl ?_
      refine ⟨⟨_, rfl, fun h => ?_⟩, ((((From.rfl_.next E1).next E5).next E10).next E16)⟩
      first
        | (cases h; done)
        | omega
        | (have hq := of_decide_eq_false h; omega)
    with_reducible replace Q8 := of_decide_eq_false Q8
    refine st_unguard rfl ?_
    refine st_val (ro_fieldAddr SegHelp_f25_2 rfl) ?_
    refine st_unguard rfl ?_
    refine st_val (ro_load SegHelp_g23 rfl (by exact (hk1.from_ (((From.rfl_.next E5).next E10).next E16)).rd 2 rfl)) ?_
    refine st_unguard rfl ?_
    refine st_val (ro_len SegHelp_l23 rfl) ?_
    refine st_unguard rfl ?_
    refine st_val (ro_gtr rfl rfl) ?_
    refine st_val (ro_pickF (v := .bool _) rfl rfl) ?_
    refine mvb rfl ?_
    refine st_split (t := 31) rfl (fun Q9 => ?_) (fun Q9 => ?_)
    · with_reducible replace Q9 := of_decide_eq_true Q9
      refine st_gno rfl rfl ?_
      refine st_gno rfl rfl ?_
      refine st_gno rfl rfl ?_
      refine st_gno rfl rfl ?_
      refine st_val (ro_pickT (v := .bool _) rfl rfl) ?_
      refine mvb rfl ?_
      refine st_gno rfl rfl ?_
      refine st_gno rfl rfl ?_
      refine st_gno rfl rfl ?_
      refine st_gno rfl rfl ?_
      refine st_val (ro_pickT (v := .bool _) rfl rfl) ?_
      refine asb rfl ?_
      refine st_nil (nx_then (cd_ret ?_))
      refine res1 (v := .bool _) rfl rfl ?_
      refine ⟨⟨_, rfl, fun h => ?_⟩, ((((From.rfl_.next E1).next E5).next E10).next E16)⟩
      first
        | (cases h; done)
        | omega
        | (have hq := of_decide_eq_false h; omega)
    with_reducible replace Q9 := of_decide_eq_false Q9
    refine st_unguard rfl ?_
    refine st_val (ro_fieldAddr SegHelp_f25_1 rfl) ?_
    refine st_unguard rfl ?_
    refine st_val (ro_load SegHelp_g23 rfl (by exact (hk1.from_ (((From.rfl_.next E5).next E10).next E16)).rd 1 rfl)) ?_
    refine st_unguard rfl ?_
    refine st_call SegHelp_k16 (textW_rt B cb ps.length ps _ (ha.rowP.from_ ((((From.rfl_.next E1).next E5).next E10).next E16)) rfl (by omega) ha.smP) ?_
    rintro v34 w10 ⟨⟨m34, rfl, hm34⟩, E34⟩
    refine st_unguard rfl ?_
    refine st_val (ro_gtr rfl rfl) ?_
    refine st_val (ro_pickF (v := .bool _) rfl rfl) ?_
    refine mvb rfl ?_
    refine st_split (t := 37) rfl (fun Q11 => ?_) (fun Q11 => ?_)
    · with_reducible replace Q11 := of_decide_eq_true Q11
      refine st_gno rfl rfl ?_
      refine st_gno rfl rfl ?_
      refine st_gno rfl rfl ?_
      refine st_gno rfl rfl ?_
      refine st_val (ro_pickT (v := .bool _) rfl rfl) ?_
      refine asb rfl ?_
      refine st_nil (nx_then (cd_ret ?_))
      refine res1 (v := .bool _) rfl rfl ?_
      refine ⟨⟨_, rfl, fun h => ?_⟩, (((((From.rfl_.next E1).next E5).next E10).next E16).next E34)⟩
      first
        | (cases h; done)
        | omega
        | (have hq := of_decide_eq_false h; omega)
    with_reducible replace Q11 := of_decide_eq_false Q11
    refine st_unguard rfl ?_
    refine st_val (ro_fieldAddr SegHelp_f25_2 rfl) ?_
    refine st_unguard rfl ?_
    refine st_val (ro_load SegHelp_g23 rfl (by exact (hk1.from_ ((((From.rfl_.next E5).next E10).next E16).next E34)).rd 2 rfl)) ?_
    refine st_unguard rfl ?_
    refine st_call SegHelp_k16 (textW_rt C cc ns.length ns _ (ha.rowN.from_ (((((From.rfl_.next E1).next E5).next E10).next E16).next E34)) rfl (by omega) ha.smN) ?_
    rintro v40 w12 ⟨⟨m40, rfl, hm40⟩, E40⟩
    refine st_unguard rfl ?_
    refine st_val (ro_gtr rfl rfl) ?_
    refine st_val (ro_pickF (v := .bool _) rfl rfl) ?_
    refine asb rfl ?_
    refine st_nil (nx_then (cd_ret ?_))
    refine res1 (v := .bool _) rfl rfl ?_
    refine ⟨⟨_, rfl, fun h => ?_⟩, ((((((From.rfl_.next E1).next E5).next E10).next E16).next E34).next E40)⟩
    first
      | (cases h; done)
      | omega
      | (have hq := of_decide_eq_false h; omega)
  with_reducible replace Q3 := of_decide_eq_false Q3
  refine st_gno rfl rfl ?_
  refine st_gno rfl rfl ?_
  refine st_gno rfl rfl ?_
  refine st_gno rfl rfl ?_
  refine st_val (ro_pickF (v := .bool _) rfl rfl) ?_
  refine mvb rfl ?_
  refine st_unguard rfl ?_
  refine st_val (ro_fieldAddr SegHelp_f25_0 rfl) ?_
  refine st_unguard rfl ?_
  refine st_val (ro_load SegHelp_g22 rfl (by exact (hk1.from_ (From.rfl_.next E5)).rd 0 rfl)) ?_
  refine st_unguard rfl ?_
  refine st_call SegHelp_k15 (docW_rt A ca ds.length ds _ (ha.row.from_ ((From.rfl_.next E1).next E5)) rfl (by omega) ha.sm) ?_
  rintro v16 w13 ⟨⟨m16, rfl, hm16⟩, E16⟩
  refine st_unguard rfl ?_
  refine st_val (ro_gtr rfl rfl) ?_
  refine st_val (ro_pickF (v := .bool _) rfl rfl) ?_
  refine mvb rfl ?_
  refine st_split (t := 19) rfl (fun Q14 => ?_) (fun Q14 => ?_)
  · with_reducible replace Q14 := of_decide_eq_true Q14
    refine st_gno rfl rfl ?_
    refine st_gno rfl rfl ?_
    refine st_gno rfl rfl ?_
    refine st_gno rfl rfl ?_
    refine st_val (ro_pickT (v := .bool _) rfl rfl) ?_
    refine mvb rfl ?_
    refine st_gno rfl rfl ?_
    refine st_gno rfl rfl ?_
    refine st_gno rfl rfl ?_
    refine st_gno rfl rfl ?_
    refine st_val (ro_pickT (v := .bool _) rfl rfl) ?_
    refine mvb rfl ?_
    refine st_gno rfl rfl ?_
    refine st_gno rfl rfl ?_
    refine st_gno rfl rfl ?_
    refine st_gno rfl rfl ?_
    refine st_val (ro_pickT (v := .bool _) rfl rfl) ?_
    refine mvb rfl ?_
    refine st_gno rfl rfl ?_
    refine st_gno rfl rfl ?_
    refine st_gno rfl rfl ?_
    refine st_gno rfl rfl ?_
    refine st_val (ro_pickT (v := .bool _) rfl rfl) ?_
    refine asb rfl ?_
    refine st_nil (nx_then (cd_ret ?_))
    refine res1 (v := .bool _) rfl rfl ?_
    refine ⟨⟨_, rfl, fun h => ?_⟩, (((From.rfl_.next E1).next E5).next E16)⟩
    first
      | (cases h; done)
      | omega
      | (have hq := of_decide_eq_false h; omega)
  with_reducible replace Q14 := of_decide_eq_false Q14
  refine st_unguard rfl ?_
  refine st_val (ro_fieldAddr SegHelp_f25_1 rfl) ?_
  refine st_unguard rfl ?_
  refine st_val (ro_load SegHelp_g23 rfl (by exact (hk1.from_ ((From.rfl_.next E5).next E16)).rd 1 rfl)) ?_
  refine st_unguard rfl ?_
  refine st_val (ro_len SegHelp_l23 rfl) ?_
  refine st_unguard rfl ?_
  refine st_val (ro_gtr rfl rfl) ?_
  refine st_val (ro_pickF (v := .bool _) rfl rfl) ?_
  refine mvb rfl ?_
  refine st_split (t := 25) rfl (fun Q15 => ?_) (fun Q15 => ?_)
  · with_reducible replace Q15 := of_decide_eq_true Q15
    refine st_gno rfl rfl ?_
    refine st_gno rfl rfl ?_
    refine st_gno rfl rfl ?_
    refine st_gno rfl rfl ?_
    refine st_val (ro_pickT (v := .bool _) rfl rfl) ?_
    refine mvb rfl ?_
    refine st_gno rfl rfl ?_
    refine st_gno rfl rfl ?_
    refine st_gno rfl rfl ?_
    refine st_gno rfl rfl ?_
    refine st_val (ro_pickT (v := .bool _) rfl rfl) ?_
    refine mvb rfl ?_
    refine st_gno rfl rfl ?_
    refine st_gno rfl rfl ?_
    refine st_gno rfl rfl ?_
    refine st_gno rfl rfl ?_
    refine st_val (ro_pickT (v := .bool _) rfl rfl) ?_
    refine asb rfl ?_
    refine st_nil (nx_then (cd_ret ?_))
    refine res1 (v := .bool _) rfl rfl ?_
    refine ⟨⟨_, rfl, fun h => ?_⟩, (((From.rfl_.next E1).next E5).next E16)⟩
    first
      | (cases h; done)
      | omega
      | (have hq := of_decide_eq_false h; omega)
  with_reducible replace Q15 := of_decide_eq_false Q15
  refine st_unguard rfl ?_
  refine st_val (ro_fieldAddr SegHelp_f25_2 rfl) ?_
  refine st_unguard rfl ?_
  refine st_val (ro_load SegHelp_g23 rfl (by exact (hk1.from_ ((From.rfl_.next E5).next E16)).rd 2 rfl)) ?_
  refine st_unguard rfl ?_
  refine st_val (ro_len SegHelp_l23 rfl) ?_
  refine st_unguard rfl ?_
  refine st_val (ro_gtr rfl rfl) ?_
  refine st_val (ro_pickF (v := .bool _) rfl rfl) ?_
  refine mvb rfl ?_
  refine st_split (t := 31) rfl (fun Q16 => ?_) (fun Q16 => ?_)
  · with_reducible replace Q16 := of_decide_eq_true Q16
    refine st_gno rfl rfl ?_
    refine st_gno rfl rfl ?_
    refine st_gno rfl rfl ?_
    refine st_gno rfl rfl ?_
    refine st_val (ro_pickT (v := .bool _) rfl rfl) ?_
    refine mvb rfl ?_
    refine st_gno rfl rfl ?_
    refine st_gno rfl rfl ?_
    refine st_gno rfl rfl ?_
    refine st_gno rfl rfl ?_
    refine st_val (ro_pickT (v := .bool _) rfl rfl) ?_
    refine asb rfl ?_
    refine st_nil (nx_then (cd_ret ?_))
    refine res1 (v := .bool _) rfl rfl ?_
    refine ⟨⟨_, rfl, fun h => ?_⟩, (((From.rfl_.next E1).next E5).next E16)⟩
    first
      | (cases h; done)
      | omega
      | (have hq := of_decide_eq_false h; omega)
  with_reducible replace Q16 := of_decide_eq_false Q16
  refine st_unguard rfl ?_
  refine st_val (ro_fieldAddr SegHelp_f25_1 rfl) ?_
  refine st_unguard rfl ?_
  refine st_val (ro_load SegHelp_g23 rfl (by exact (hk1.from_ ((From.rfl_.next E5).next E16)).rd 1 rfl)) ?_
  refine st_unguard rfl ?_
  refine st_call SegHelp_k16 (textW_rt B cb ps.length ps _ (ha.rowP.from_ (((From.rfl_.next E1).next E5).next E16)) rfl (by omega) ha.smP) ?_
  rintro v34 w17 ⟨⟨m34, rfl, hm34⟩, E34⟩
  refine st_unguard rfl ?_
  refine st_val (ro_gtr rfl rfl) ?_
  refine st_val (ro_pickF (v := .bool _) rfl rfl) ?_
  refine mvb rfl ?_
  refine st_split (t := 37) rfl (fun Q18 => ?_) (fun Q18 => ?_)
  · with_reducible replace Q18 := of_decide_eq_true Q18
    refine st_gno rfl rfl ?_
    refine st_gno rfl rfl ?_
    refine st_gno rfl rfl ?_
    refine st_gno rfl rfl ?_
    refine st_val (ro_pickT (v := .bool _) rfl rfl) ?_
    refine asb rfl ?_
    refine st_nil (nx_then (cd_ret ?_))
    refine res1 (v := .bool _) rfl rfl ?_
    refine ⟨⟨_, rfl, fun h => ?_⟩, ((((From.rfl_.next E1).next E5).next E16).next E34)⟩
    first
      | (cases h; done)
      | omega
      | (have hq := of_decide_eq_false h; omega)
  with_reducible replace Q18 := of_decide_eq_false Q18
  refine st_unguard rfl ?_
  refine st_val (ro_fieldAddr SegHelp_f25_2 rfl) ?_
  refine st_unguard rfl ?_
  refine st_val (ro_load SegHelp_g23 rfl (by exact (hk1.from_ (((From.rfl_.next E5).next E16).next E34)).rd 2 rfl)) ?_
  refine st_unguard rfl ?_
  refine st_call SegHelp_k16 (textW_rt C cc ns.length ns _ (ha.rowN.from_ ((((From.rfl_.next E1).next E5).next E16).next E34)) rfl (by omega) ha.smN) ?_
  rintro v40 w19 ⟨⟨m40, rfl, hm40⟩, E40⟩
  refine st_unguard rfl ?_
  refine st_val (ro_gtr rfl rfl) ?_
  refine st_val (ro_pickF (v := .bool _) rfl rfl) ?_
  refine asb rfl ?_
  refine st_nil (nx_then (cd_ret ?_))
  refine res1 (v := .bool _) rfl rfl ?_
  refine ⟨⟨_, rfl, fun h => ?_⟩, (((((From.rfl_.next E1).next E5).next E16).next E34).next E40)⟩
  first
    | (cases h; done)
    | omega
    | (have hq := of_decide_eq_false h; omega)
theorem own_nil {w : World} {base e s n c : Nat} {A : Option Addr} {xs : List Value} (h : w.ownsRow base e s (.slice A n c) n xs) : A = none → n = 0 ∧ c = 0 := fun hA => by
  rcases h.2 with ⟨h0, h1⟩ | ⟨g, cap, cur, hv, _⟩
  · simp only [Value.slice.injEq] at h0
    exact ⟨h0.2.1, h0.2.2⟩
  · simp only [Value.slice.injEq] at hv
    rw [hA] at hv
    cases hv.1
theorem SegAt.ptr {w : World} {base s : Nat} {ds : List Dc} (h : SegAt w base s ds) : ∃ (x bd tb : Nat) (A : Option Addr) (c a : Nat) (AS : Option Addr) (ls cs gr r1 : Nat), Blk w s 50 #[.pointer (some ⟨x, 0, none⟩), .slice A ds.length c, .pointer (some ⟨bd, 0, none⟩), .int .i64 ((dsz ds : Nat) : Int)] ∧ Blk w x 55 #[.pointer (some ⟨tb, 0, none⟩), .int .i64 (a : Nat), .slice AS ls cs, .slice (some ⟨gr, 0, none⟩) r1 r1] := by
  obtain ⟨h0, x, bd, a, B, F, A, c, h1, h2, h3, h4, h5⟩ := h
  obtain ⟨tb, AS, cs, gr, hI⟩ := h2.ptr
  exact ⟨x, bd, tb, A, c, a, AS, _, cs, gr, _, h1, hI⟩
theorem doc_ax : docE [(⟨#[97]⟩, ⟨#[120, 120]⟩)] = 0 := doc_0 (fun i hi => by
  have : i < 1 := hi
  obtain rfl : i = 0 := by omega
  exact ⟨by decide, by decide, fun h => absurd h (by omega)⟩) ⟨by decide, fun d hd => by rw [List.mem_singleton] at hd; subst hd; decide, by decide⟩
theorem hits_ax : segH [(⟨#[97]⟩, ⟨#[120, 120]⟩)] ⟨#[120]⟩ = [(⟨#[97]⟩, 0), (⟨#[97]⟩, 1)] := by
  have e2 : txt ⟨#[120, 120]⟩ = [121, 121] := by unfold txt; rw [Lib.toList_data]; rfl
  have e3 : txt ⟨#[120]⟩ = [121] := by unfold txt; rw [Lib.toList_data]; rfl
  have e4 : patE ⟨#[120]⟩ = 0 := by decide
  have e5 : ks [121, 121] [121] = [0, 1] := by decide
  unfold segH
  rw [e4, if_pos rfl]
  unfold hits hits
  rw [e2, e3, e5]
  rfl
theorem rowD1 {w : World} {g : Nat} {a b : ByteArray} (h : Blk w g 40 #[.string a, .string b]) : RowK 2 dV w (some ⟨g, 0, none⟩) [(a, b)] := fun _ => ⟨g, 0, rfl, fun i hi => by
  match i, hi with
  | 0, _ => exact h.whole⟩
theorem new_ax (g : Nat) (w : World) (h : Blk w g 40 #[.string ⟨#[97]⟩, .string ⟨#[120, 120]⟩]) : Rt Tryz.prog 18 [.slice (some ⟨g, 0, none⟩) 1 1] w fun v w' => (∃ s, v = .tuple #[.pointer (some ⟨s, 0, none⟩), .int .i64 0] ∧ SegAt w' w.heap.size s [(⟨#[97]⟩, ⟨#[120, 120]⟩)]) ∧ From w w' := by
  refine (new_s (some ⟨g, 0, none⟩) 1 1 [(⟨#[97]⟩, ⟨#[120, 120]⟩)] w (rowD1 h) rfl (by omega) (fun h => by cases h)).mono fun v w' h => ?_
  obtain ⟨h, hF⟩ := h
  rcases h with ⟨h, _⟩ | ⟨_, h⟩
  · exact absurd doc_ax h
  · exact ⟨h, hF⟩
theorem search_ax (base s : Nat) (w : World) (h : SegAt w base s [(⟨#[97]⟩, ⟨#[120, 120]⟩)]) : Rt Tryz.prog 20 [.pointer (some ⟨s, 0, none⟩), .string ⟨#[120]⟩] w fun v w' => (∃ A' c', v = .tuple #[.slice A' 2 c', .int .i64 0] ∧ RowK 2 hV w' A' [(⟨#[97]⟩, 0), (⟨#[97]⟩, 1)]) ∧ From w w' := by
  refine (search_rt base s _ w h ⟨#[120]⟩ (by decide)).mono fun v w' h => ?_
  obtain ⟨⟨A', c', rfl, ho⟩, hF⟩ := h
  rw [hits_ax] at ho ⊢
  exact ⟨⟨A', c', rfl, (RowK.own hV_len (by decide) ho).2⟩, hF⟩
theorem rowH2 {w : World} {g : Nat} {a b : ByteArray} {x y : Int} (h : Blk w g 61 #[.string a, .int .i64 x, .string b, .int .i64 y]) : RowK 2 hV w (some ⟨g, 0, none⟩) [(a, x), (b, y)] := fun _ => ⟨g, 0, rfl, fun i hi => by
  match i, hi with
  | 0, _ => exact h.range 0 _ (fun j v hv => by match j, hv with | 0, hv => exact hv | 1, hv => exact hv | j + 2, hv => simp [hV] at hv)
  | 1, _ => exact h.range 2 _ (fun j v hv => by match j, hv with | 0, hv => exact hv | 1, hv => exact hv | j + 2, hv => simp [hV] at hv)⟩
set_option maxHeartbeats 400000 in
theorem wakes_rt (w : World) :
    Rt Tryz.prog 6 [] w (fun v w' => v = .bool true ∧ From w w') := by
  refine enter (n := 33) Tryz.func6 rfl rfl rfl ?_
  refine cd_seq (cd_region ?_)
  refine asb rfl ?_
  refine st_nil (nx_then (cd_seq (cd_region ?_)))
  refine st_val (ro_build (l := [(0, .const (.string ⟨#[97]⟩)), (1, .const (.string ⟨#[120, 120]⟩))]) (SegHelp_b40_0cstring97_1cstring120120)) ?_
  refine st_litK2 SegHelp_q22 rfl rfl rfl ?_
  intro b7 w1 E7 hb7 hk7
  refine st_call SegHelp_k18 (new_ax b7 _ hk7) ?_
  rintro v8 w2 ⟨⟨s8, rfl, hs8⟩, E8⟩
  refine mvt rfl ?_
  refine st_val (ro_extract rfl rfl) ?_
  refine st_val (ro_extract rfl rfl) ?_
  refine asp rfl ?_
  refine asi rfl ?_
  refine st_nil (nx_then (cd_seq (cd_seq (cd_region ?_))))
  refine mvi rfl ?_
  refine st_call SegHelp_k13 (num_any _ _) ?_
  rintro v12 w3 ⟨rfl, rfl⟩
  refine st_val (ro_bf (ro_neq rfl rfl) rfl) ?_
  refine mvb rfl ?_
  refine st_unguard rfl ?_
  refine mvp rfl ?_
  refine st_unguard rfl ?_
  refine st_val (ro_bf (ro_eqlNil (by kernel_rfl) rfl rfl) rfl) ?_
  refine st_val (ro_pickF (v := .bool _) rfl rfl) ?_
  refine st_nil (nx_then ?_)
  refine cd_condF rfl ?_
  refine cd_skip (nx_then (cd_seq (cd_region ?_)))
  refine mvp rfl ?_
  refine st_call SegHelp_k20 (search_ax _ s8 _ (hs8.from_ From.rfl_)) ?_
  rintro v20 w4 ⟨⟨A20, c20, rfl, hr20⟩, E20⟩
  refine mvt rfl ?_
  refine st_val (ro_extract rfl rfl) ?_
  refine st_val (ro_extract rfl rfl) ?_
  refine ass rfl ?_
  refine asi rfl ?_
  refine st_nil (nx_then (cd_seq (cd_region ?_)))
  refine mvi rfl ?_
  refine st_call SegHelp_k13 (num_any _ _) ?_
  rintro v24 w5 ⟨rfl, rfl⟩
  refine st_val (ro_bt (ro_eql rfl rfl) rfl) ?_
  refine mvb rfl ?_
  refine st_unguard rfl ?_
  refine mvs rfl ?_
  refine st_unguard rfl ?_
  refine st_val (ro_build (l := [(0, .const (.string ⟨#[97]⟩))]) (SegHelp_b61_0cstring97)) ?_
  refine st_unguard rfl ?_
  refine st_val (ro_build (l := [(0, .const (.string ⟨#[97]⟩)), (1, .const (.int .i64 1))]) (SegHelp_b61_0cstring97_1cinti641)) ?_
  refine st_unguard rfl ?_
  refine st_lit (l := [(0, .tmp 28), (1, .tmp 29)]) (cells := #[.string ⟨#[97]⟩, .int .i64 0, .string ⟨#[97]⟩, .int .i64 1]) SegHelp_q56 rfl rfl (by kernel_rfl) ?_
  intro b30 w6 E30 hb30 hk30
  refine st_unguard rfl ?_
  refine st_call SegHelp_k21 (eqHits_rt A20 (some ⟨b30, 0, none⟩) c20 2 2 2 [(⟨#[97]⟩, 0), (⟨#[97]⟩, 1)] [(⟨#[97]⟩, 0), (⟨#[97]⟩, 1)] _ (hr20.from_ E30) (rowH2 hk30) rfl rfl (by omega)) ?_
  rintro v31 w7 ⟨rfl, E31⟩
  refine st_val (ro_pickT (v := .bool _) rfl rfl) ?_
  refine asb rfl ?_
  refine st_nil (nx_then (cd_ret ?_))
  refine res1 (v := .bool _) rfl rfl ?_
  exact ⟨congrArg Value.bool (decide_eq_true rfl), (((((From.rfl_.next E7).next E8).next E20).next E30).next E31)⟩
set_option maxHeartbeats 2000000 in
theorem made_rt (A B C : Option Addr) (ca cb cc : Nat) (ds : List Dc) (ps ns : List ByteArray) (w : World) (ha : AskS w A B C ca ds ps ns) (hl : ds.length ≤ 60000) :
    Rt Tryz.prog 5 [.agg #[.slice A ds.length ca, .slice B ps.length cb, .slice C ns.length cc]] w (fun v w' => NewS w' w.heap.size ds v ∧ From w w') := by
  refine enter (n := 55) Tryz.func5 rfl rfl rfl ?_
  refine cd_seq (cd_region ?_)
  refine st_box (v := .agg _) rfl ?_
  intro b1 w1 E1 hb1 hk1
  refine asp rfl ?_
  refine asi rfl ?_
  refine st_nil (nx_then (cd_seq (cd_region ?_)))
  refine st_val (ro_fieldAddr SegHelp_f25_0 rfl) ?_
  refine st_val (ro_load SegHelp_g22 rfl (by exact (hk1.from_ From.rfl_).rd 0 rfl)) ?_
  have hB10 := (From.rfl_.next E1)
  have hl10 := (hk1.from_ From.rfl_).lt
  refine st_call SegHelp_k17 (copyDocs_rt A ca ds.length ds _ (ha.row.from_ (From.rfl_.next E1)) rfl (by omega)) ?_
  rintro v10 w2 ⟨⟨A10, c10, rfl, ho10⟩, E10⟩
  refine ass rfl ?_
  refine st_nil (nx_then (cd_seq (cd_region ?_)))
  refine mvs rfl ?_
  have hB13 := ((From.rfl_.next E1).next E10)
  refine st_call SegHelp_k18 (new_s A10 c10 ds.length ds _ (RowK.own dV_len (by decide) ho10).2 rfl (by omega) (own_nil ho10)) ?_
  rintro v13 w3 ⟨hs13, E13⟩
  replace hk1 := hk1.from_ ((From.rfl_.next E10).next E13)
  rcases hs13 with ⟨hck, rfl⟩ | ⟨hck, s, rfl, hsg⟩
  · have hb33 : (docE ds != 0) = true := by simpa using hck
    refine mvt rfl ?_
    refine st_val (ro_extract rfl rfl) ?_
    refine st_val (ro_extract rfl rfl) ?_
    refine asp rfl ?_
    refine asi rfl ?_
    refine st_nil (nx_then (cd_seq (cd_region ?_)))
    refine mvs rfl ?_
    refine st_call SegHelp_k11 (spoilDocs_rt _ A10 c10 ds.length ds _ (ho10.kept_from E13) (by omega) (by have := E10.size; have := E13.size; omega)) ?_
    rintro v17 w4 hg17
    replace hk1 := hk1.grown hg17 (fun k hk => by have := own_at ho10 k hk; omega)
    (try replace hsg := hsg.grown hg17 (fun k hk => (own_at ho10 k hk).2))
    (try obtain ⟨x, bd, tb, A9, c9, a9, AS, ls, cs, gr, r1, hS, hX⟩ := hsg.ptr)
    refine st_nil (nx_then (cd_seq (cd_region ?_)))
    refine st_val (ro_fieldAddr SegHelp_f25_0 rfl) ?_
    refine st_val (ro_load SegHelp_g22 rfl (by exact (hk1.from_ From.rfl_).rd 0 rfl)) ?_
    refine st_call SegHelp_k19 (refDocs_rt A ca ds.length ds _ (ha.row.from_ ((((From.rfl_.next E1).next E10).next E13).grew hg17 (fun k hk => Nat.le_trans hB10.size (own_at ho10 k hk).1))) rfl (by omega)) ?_
    rintro v20 w5 ⟨rfl, E20⟩
    refine asi rfl ?_
    refine st_nil (nx_then (cd_seq (cd_seq (cd_region ?_))))
    refine mvi rfl ?_
    refine st_call SegHelp_k13 (num_any _ _) ?_
    rintro v22 w6 ⟨rfl, rfl⟩
    refine mvi rfl ?_
    refine st_val (ro_neq rfl rfl) ?_
    refine mvb rfl ?_
    refine st_split (t := 25) rfl (fun Q7 => ?_) (fun Q7 => ?_)
    · replace Q7 := bn_t Q7; replace Q7 := be_f Q7
      first
       | (exfalso; first | (first | omega | (simp [hb33] at *; done); trace "@MK D made_rt:f13.0.g25+ 1") | (contradiction; trace "@MK D made_rt:f13.0.g25+ 2") | ((cases Q7; done); trace "@MK D made_rt:f13.0.g25+ 3"))
       | (trace "@MK D made_rt:f13.0.g25+ 0")
         refine st_gno rfl rfl ?_
         refine st_gno rfl rfl ?_
         refine st_gno rfl rfl ?_
         refine st_gno rfl rfl ?_
         refine st_gno rfl rfl ?_
         refine st_val (ro_pickT (v := .bool _) rfl rfl) ?_
         refine mvb rfl ?_
         refine st_gno rfl rfl ?_
         refine st_gno rfl rfl ?_
         refine st_gno rfl rfl ?_
         refine st_gund rfl ?_
         refine st_gund rfl ?_
         refine st_gund rfl ?_
         refine st_gund rfl ?_
         refine st_gund rfl ?_
         refine st_gund rfl ?_
         refine st_gund rfl ?_
         refine st_gund rfl ?_
         refine st_gund rfl ?_
         refine st_gund rfl ?_
         refine st_gund rfl ?_
         refine st_gund rfl ?_
         refine st_gund rfl ?_
         refine st_gund rfl ?_
         refine st_gund rfl ?_
         refine st_gno rfl rfl ?_
         refine st_val (ro_pickT (v := .bool _) rfl rfl) ?_
         refine st_nil (nx_then ?_)
         refine cd_condT rfl ?_
         refine cd_seq (cd_region ?_)
         refine asp rfl ?_
         refine asi rfl ?_
         refine st_nil (nx_then (cd_ret (rt_then ?_)))
         refine res2 (v := .pointer _) (v' := .int _ _) rfl rfl rfl ?_
         exfalso; simp_all
    replace Q7 := bn_f Q7; replace Q7 := be_t Q7
    refine st_unguard rfl ?_
    refine mvp rfl ?_
    refine st_unguard rfl ?_
    refine st_val (ro_eqlNil SegHelp_p27 rfl rfl) ?_
    refine st_unguard rfl ?_
    refine mvi rfl ?_
    refine st_unguard rfl ?_
    refine st_val (ro_neq rfl rfl) ?_
    refine st_unguard rfl ?_
    refine st_val (ro_neqB (by kernel_rfl) rfl rfl) ?_
    refine st_val (ro_pickF (v := .bool _) rfl rfl) ?_
    refine mvb rfl ?_
    refine st_split (t := 32) rfl (fun Q8 => ?_) (fun Q8 => ?_)
    · replace Q8 := bn_t Q8; replace Q8 := be_f Q8
      exfalso; first | omega | (simp [hb33] at *; done)
    replace Q8 := bn_f Q8; replace Q8 := be_t Q8
    refine st_unguard rfl ?_
    refine mvp rfl ?_
    refine st_unguard rfl ?_
    refine st_val (ro_neqNil SegHelp_p27 rfl rfl) ?_
    refine st_unguard rfl ?_
    refine mvb rfl ?_
    refine st_split (t := 35) rfl (fun Q9 => ?_) (fun Q9 => ?_)
    · replace Q9 := bn_t Q9
      exfalso; first | omega | (simp [hb33] at *; done)
    replace Q9 := bn_f Q9
    refine st_gno rfl rfl ?_
    refine st_gno rfl rfl ?_
    refine st_gno rfl rfl ?_
    refine st_gno rfl rfl ?_
    refine st_gno rfl rfl ?_
    refine st_gno rfl rfl ?_
    refine st_gund rfl ?_
    refine st_gund rfl ?_
    refine st_gund rfl ?_
    refine st_gund rfl ?_
    refine st_gund rfl ?_
    refine st_gund rfl ?_
    refine st_gund rfl ?_
    refine st_gund rfl ?_
    refine st_gno rfl rfl ?_
    refine st_unguard rfl ?_
    refine st_val (ro_pickF (v := .bool _) rfl rfl) ?_
    refine st_val (ro_pickF (v := .bool _) rfl rfl) ?_
    refine st_nil (nx_then ?_)
    refine cd_condF rfl ?_
    refine cd_skip (nx_then (cd_seq (cd_region ?_)))
    refine mvp rfl ?_
    refine mvi rfl ?_
    refine asp rfl ?_
    refine asi rfl ?_
    refine st_nil (nx_then (cd_ret ?_))
    refine res2 (v := .pointer _) (v' := .int _ _) rfl rfl rfl ?_
    first
      | exact ⟨.inl ⟨hck, rfl⟩, (((((From.rfl_.next E1).next E10).next E13).grew hg17 (fun k hk => Nat.le_trans hB10.size (own_at ho10 k hk).1)).next E20)⟩
      | exact ⟨.inr ⟨hck, s, by rw [hck], (hsg.from_ (From.rfl_.next E20)).le hB13.size⟩, (((((From.rfl_.next E1).next E10).next E13).grew hg17 (fun k hk => Nat.le_trans hB10.size (own_at ho10 k hk).1)).next E20)⟩
  have hb33 : (docE ds != 0) = false := by rw [hck]; rfl
  refine mvt rfl ?_
  refine st_val (ro_extract rfl rfl) ?_
  refine st_val (ro_extract rfl rfl) ?_
  refine asp rfl ?_
  refine asi rfl ?_
  refine st_nil (nx_then (cd_seq (cd_region ?_)))
  refine mvs rfl ?_
  refine st_call SegHelp_k11 (spoilDocs_rt _ A10 c10 ds.length ds _ (ho10.kept_from E13) (by omega) (by have := E10.size; have := E13.size; omega)) ?_
  rintro v17 w12 hg17
  replace hk1 := hk1.grown hg17 (fun k hk => by have := own_at ho10 k hk; omega)
  (try replace hsg := hsg.grown hg17 (fun k hk => (own_at ho10 k hk).2))
  (try obtain ⟨x, bd, tb, A9, c9, a9, AS, ls, cs, gr, r1, hS, hX⟩ := hsg.ptr)
  refine st_nil (nx_then (cd_seq (cd_region ?_)))
  refine st_val (ro_fieldAddr SegHelp_f25_0 rfl) ?_
  refine st_val (ro_load SegHelp_g22 rfl (by exact (hk1.from_ From.rfl_).rd 0 rfl)) ?_
  refine st_call SegHelp_k19 (refDocs_rt A ca ds.length ds _ (ha.row.from_ ((((From.rfl_.next E1).next E10).next E13).grew hg17 (fun k hk => Nat.le_trans hB10.size (own_at ho10 k hk).1))) rfl (by omega)) ?_
  rintro v20 w13 ⟨rfl, E20⟩
  refine asi rfl ?_
  refine st_nil (nx_then (cd_seq (cd_seq (cd_region ?_))))
  refine mvi rfl ?_
  refine st_call SegHelp_k13 (num_any _ _) ?_
  rintro v22 w14 ⟨rfl, rfl⟩
  refine mvi rfl ?_
  refine st_val (ro_neq rfl rfl) ?_
  refine mvb rfl ?_
  refine st_split (t := 25) rfl (fun Q15 => ?_) (fun Q15 => ?_)
  · replace Q15 := bn_t Q15; replace Q15 := be_f Q15
    first
     | (exfalso; first | (first | omega | (simp [hb33] at *; done); trace "@MK D made_rt:f13.1.g25+ 1") | (contradiction; trace "@MK D made_rt:f13.1.g25+ 2") | ((cases Q15; done); trace "@MK D made_rt:f13.1.g25+ 3"))
     | (trace "@MK D made_rt:f13.1.g25+ 0")
       refine st_gno rfl rfl ?_
       refine st_gno rfl rfl ?_
       refine st_gno rfl rfl ?_
       refine st_gno rfl rfl ?_
       refine st_gno rfl rfl ?_
       refine st_val (ro_pickT (v := .bool _) rfl rfl) ?_
       refine mvb rfl ?_
       refine st_gno rfl rfl ?_
       refine st_gno rfl rfl ?_
       refine st_gno rfl rfl ?_
       refine st_gund rfl ?_
       refine st_gund rfl ?_
       refine st_gund rfl ?_
       refine st_gund rfl ?_
       refine st_gund rfl ?_
       refine st_gund rfl ?_
       refine st_gund rfl ?_
       refine st_gund rfl ?_
       refine st_gund rfl ?_
       refine st_gund rfl ?_
       refine st_gund rfl ?_
       refine st_gund rfl ?_
       refine st_gund rfl ?_
       refine st_gund rfl ?_
       refine st_gund rfl ?_
       refine st_gno rfl rfl ?_
       refine st_val (ro_pickT (v := .bool _) rfl rfl) ?_
       refine st_nil (nx_then ?_)
       refine cd_condT rfl ?_
       refine cd_seq (cd_region ?_)
       refine asp rfl ?_
       refine asi rfl ?_
       refine st_nil (nx_then (cd_ret (rt_then ?_)))
       refine res2 (v := .pointer _) (v' := .int _ _) rfl rfl rfl ?_
       exfalso; simp_all
  replace Q15 := bn_f Q15; replace Q15 := be_t Q15
  refine st_unguard rfl ?_
  refine mvp rfl ?_
  refine st_unguard rfl ?_
  refine st_val (ro_eqlNil SegHelp_p27 rfl rfl) ?_
  refine st_unguard rfl ?_
  refine mvi rfl ?_
  refine st_unguard rfl ?_
  refine st_val (ro_neq rfl rfl) ?_
  refine st_unguard rfl ?_
  refine st_val (ro_neqB (by kernel_rfl) rfl rfl) ?_
  refine st_val (ro_pickF (v := .bool _) rfl rfl) ?_
  refine mvb rfl ?_
  refine st_split (t := 32) rfl (fun Q16 => ?_) (fun Q16 => ?_)
  · replace Q16 := bn_t Q16; replace Q16 := be_f Q16
    exfalso; first | omega | (simp [hb33] at *; done)
  replace Q16 := bn_f Q16; replace Q16 := be_t Q16
  refine st_unguard rfl ?_
  refine mvp rfl ?_
  refine st_unguard rfl ?_
  refine st_val (ro_neqNil SegHelp_p27 rfl rfl) ?_
  refine st_unguard rfl ?_
  refine mvb rfl ?_
  refine st_split (t := 35) rfl (fun Q17 => ?_) (fun Q17 => ?_)
  rotate_left
  · replace Q17 := bn_f Q17
    exfalso; first | omega | (simp [hb33] at *; done)
  replace Q17 := bn_t Q17
  refine st_unguard rfl ?_
  refine mvp rfl ?_
  refine st_unguard rfl ?_
  refine st_val (ro_nilCheck rfl) ?_
  refine st_unguard rfl ?_
  refine st_val (ro_fieldAddr SegHelp_f50_0 rfl) ?_
  refine st_unguard rfl ?_
  refine st_val (ro_load SegHelp_g47 rfl (by exact (hS.from_ (From.rfl_.next E20)).rd 0 rfl)) ?_
  refine st_unguard rfl ?_
  refine st_val (ro_eqlNil SegHelp_p47 rfl rfl) ?_
  refine st_unguard rfl ?_
  refine mvb rfl ?_
  refine st_split (t := 41) rfl (fun Q18 => ?_) (fun Q18 => ?_)
  · exfalso; first | omega | (simp [hb33] at *; done)
  refine st_unguard rfl ?_
  refine mvp rfl ?_
  refine st_unguard rfl ?_
  refine st_val (ro_nilCheck rfl) ?_
  refine st_unguard rfl ?_
  refine st_val (ro_fieldAddr SegHelp_f50_0 rfl) ?_
  refine st_unguard rfl ?_
  refine st_val (ro_load SegHelp_g47 rfl (by exact (hS.from_ (From.rfl_.next E20)).rd 0 rfl)) ?_
  refine st_unguard rfl ?_
  refine st_val (ro_nilCheck rfl) ?_
  refine st_unguard rfl ?_
  refine st_val (ro_fieldAddr SegHelp_f55_0 rfl) ?_
  refine st_unguard rfl ?_
  refine st_val (ro_load SegHelp_g51 rfl (by exact (hX.from_ (From.rfl_.next E20)).rd 0 rfl)) ?_
  refine st_unguard rfl ?_
  refine st_val (ro_eqlNil SegHelp_p51 rfl rfl) ?_
  refine st_unguard rfl ?_
  refine st_val (ro_pickF (v := .bool _) rfl rfl) ?_
  refine st_unguard rfl ?_
  refine st_val (ro_pickT (v := .bool _) rfl rfl) ?_
  refine st_val (ro_pickF (v := .bool _) rfl rfl) ?_
  refine st_nil (nx_then ?_)
  refine cd_cond rfl (fun Q19 => ?_) (fun Q19 => ?_)
  · exfalso; first | omega | (simp [hb33] at *; done)
  refine cd_skip (nx_then (cd_seq (cd_region ?_)))
  refine mvp rfl ?_
  refine mvi rfl ?_
  refine asp rfl ?_
  refine asi rfl ?_
  refine st_nil (nx_then (cd_ret ?_))
  refine res2 (v := .pointer _) (v' := .int _ _) rfl rfl rfl ?_
  first
    | exact ⟨.inl ⟨hck, rfl⟩, (((((From.rfl_.next E1).next E10).next E13).grew hg17 (fun k hk => Nat.le_trans hB10.size (own_at ho10 k hk).1)).next E20)⟩
    | exact ⟨.inr ⟨hck, s, by rw [hck], (hsg.from_ (From.rfl_.next E20)).le hB13.size⟩, (((((From.rfl_.next E1).next E10).next E13).grew hg17 (fun k hk => Nat.le_trans hB10.size (own_at ho10 k hk).1)).next E20)⟩
end Go.Proofs.YtllmocjfllbbfaaGreat

namespace Go.Proofs.YtllmocjfllbbfaaGreat
open Go.RowKit
open Go.ChangeShapes Go.WideShapes Go.ChangeAt
open Go.Proofs.YtllmocjfllbbfaaGreat.SA
theorem SegDoc0_f50_1 : fieldQ Tryz.prog 50 1 = some 1 := by kernel_rfl
theorem SegDoc0_g22 : aggQ Tryz.prog 22 = some false := by kernel_rfl
theorem SegDoc0_k22 : callable Tryz.prog 22 = true := by kernel_rfl
theorem SegDoc0_f50_3 : fieldQ Tryz.prog 50 3 = some 3 := by kernel_rfl
theorem SegDoc0_g3 : aggQ Tryz.prog 3 = some false := by kernel_rfl
set_option maxHeartbeats 400000 in
theorem docs_rt (base s : Nat) (ds : List Dc) (w : World) (hs : SegAt w base s ds) :
    Rt Tryz.prog 7 [.pointer (some ⟨s, 0, none⟩)] w (fun v w' => (∃ A' c', v = .slice A' ds.length c' ∧ w'.ownsRow w.heap.size 40 2 (.slice A' ds.length c') ds.length (ds.flatMap dV)) ∧ From w w') := by
  obtain ⟨hb0, x, bd, a, B, F, A, c, hI, hf, hb, ho, hO, hD⟩ := hs
  have hDl := hD.1
  have hrD := (RowK.own dV_len (by decide) ho).2
  refine enter (n := 8) Tryz.func7 rfl rfl rfl ?_
  refine cd_seq (cd_region ?_)
  refine ass rfl ?_
  refine st_nil (nx_then (cd_seq (cd_region ?_)))
  refine mvp rfl ?_
  refine st_val (ro_nilCheck rfl) ?_
  refine st_val (ro_fieldAddr SegDoc0_f50_1 rfl) ?_
  refine st_val (ro_load SegDoc0_g22 rfl (by exact (hI.from_ From.rfl_).rd 1 rfl)) ?_
  refine st_call SegDoc0_k22 (clone_d A c ds.length ds _ (hrD.from_ From.rfl_) rfl (fun h => by subst h; exact ⟨own_none0 ho, own_none ho⟩) (by omega)) ?_
  rintro v7 w1 ⟨⟨A7, c7, rfl, ho7⟩, E7⟩
  refine ass rfl ?_
  refine st_nil (nx_then (cd_ret ?_))
  refine res1 (v := .slice _ _ _) rfl rfl ?_
  exact ⟨⟨A7, c7, rfl, ho7⟩, (From.rfl_.next E7)⟩
set_option maxHeartbeats 400000 in
theorem segSize_rt (base s : Nat) (ds : List Dc) (w : World) (hs : SegAt w base s ds) :
    Rt Tryz.prog 9 [.pointer (some ⟨s, 0, none⟩)] w (fun v w' => v = .int .i64 ((dsz ds : Nat) : Int) ∧ From w w') := by
  obtain ⟨hb0, x, bd, a, B, F, A, c, hI, hf, hb, ho, hO, hD⟩ := hs
  refine enter (n := 7) Tryz.func9 rfl rfl rfl ?_
  refine cd_seq (cd_region ?_)
  refine asi rfl ?_
  refine st_nil (nx_then (cd_seq (cd_region ?_)))
  refine mvp rfl ?_
  refine st_val (ro_nilCheck rfl) ?_
  refine st_val (ro_fieldAddr SegDoc0_f50_3 rfl) ?_
  refine st_val (ro_load SegDoc0_g3 rfl (by exact (hI.from_ From.rfl_).rd 3 rfl)) ?_
  refine asi rfl ?_
  refine st_nil (nx_then (cd_ret ?_))
  refine res1 (v := .int _ _) rfl rfl ?_
  exact ⟨rfl, From.rfl_⟩
end Go.Proofs.YtllmocjfllbbfaaGreat

namespace Go.Proofs.YtllmocjfllbbfaaGreat
open Go.RowKit
open Go.ChangeShapes Go.WideShapes Go.ChangeAt
open Go.Proofs.YtllmocjfllbbfaaGreat.SA
theorem SegDocs_l22 : (elemQ Tryz.prog 22).isSome = true := by kernel_rfl
theorem SegDocs_e22 : elemQ Tryz.prog 22 = some (40, 2) := by kernel_rfl
theorem SegDocs_f40_0 : fieldQ Tryz.prog 40 0 = some 0 := by kernel_rfl
theorem SegDocs_g9 : aggQ Tryz.prog 9 = some false := by kernel_rfl
open Classical in
/-- the place of a name, or -1 -/
noncomputable def fI (ds : List Dc) (q : ByteArray) : Int := if h : ∃ i, i < ds.length ∧ (ds.getD i dd).1 = q ∧ ∀ k, k < i → (ds.getD k dd).1 ≠ q then ((Classical.choose h : Nat) : Int) else -1
theorem fI_at {ds : List Dc} {q : ByteArray} {i : Nat} (h1 : i < ds.length) (h2 : (ds.getD i dd).1 = q) (h3 : ∀ k, k < i → (ds.getD k dd).1 ≠ q) : fI ds q = (i : Int) := by
  have h : ∃ i, i < ds.length ∧ (ds.getD i dd).1 = q ∧ ∀ k, k < i → (ds.getD k dd).1 ≠ q := ⟨i, h1, h2, h3⟩
  unfold fI
  rw [dif_pos h]
  obtain ⟨a1, a2, a3⟩ := Classical.choose_spec h
  rcases Nat.lt_trichotomy (Classical.choose h) i with e | e | e
  · exact absurd a2 (h3 _ e)
  · rw [e]
  · exact absurd h2 (a3 _ e)
theorem fI_no {ds : List Dc} {q : ByteArray} (h : ∀ i, i < ds.length → (ds.getD i dd).1 ≠ q) : fI ds q = -1 := by
  unfold fI
  rw [dif_neg]
  rintro ⟨i, h1, h2, _⟩
  exact h i h1 h2
theorem fI_ord {ds : List Dc} {q : ByteArray} {i : Nat} (ho : DOrd ds) (h1 : i < ds.length) (h2 : (ds.getD i dd).1 = q) : fI ds q = (i : Int) := fI_at h1 h2 fun k hk e => by
  have := ho.inj (Nat.lt_trans hk h1) h1 (e.trans h2.symm)
  omega
theorem eqDocs_same (A B : Option Addr) (ca cb n m : Nat) (a : List Dc) (w : World) (ha : RowK 2 dV w A a) (hb : RowK 2 dV w B a) (hn : n = a.length) (hm : m = a.length) (hl : n ≤ 100000000) : Rt Tryz.prog 8 [.slice A n ca, .slice B m cb] w fun v w' => v = .bool true ∧ From w w' :=
  (eqDocs_rt A B ca cb n m a a w ha hb hn hm hl).mono fun v w' h => ⟨h.1.trans (congrArg Value.bool (decide_eq_true rfl)), h.2⟩
theorem doc_own (base s : Nat) (ds : List Dc) (w : World) (hs : SegAt w base s ds) (i : Nat) (hi : i < ds.length) : Rt Tryz.prog 12 [.pointer (some ⟨s, 0, none⟩), .string (ds.getD i dd).1] w fun v w' => v = .tuple #[.string (ds.getD i dd).2, .int .i64 0] ∧ From w w' := by
  refine (doc_rt base s ds w hs (ds.getD i dd).1).mono fun v w' h => ⟨?_, h.2⟩
  rcases h.1 with ⟨j, hj, e, rfl⟩ | ⟨e, _⟩
  · obtain rfl := hs.docs.1.inj hi hj e.symm; rfl
  · exact absurd rfl (e i hi)
theorem neqS_same (s : ByteArray) : (!(s.toList == s.toList)) = false := by rw [beq_self_eq_true]; rfl
set_option maxHeartbeats 400000 in
theorem refFindD_rt (A : Option Addr) (c n : Nat) (ds : List Dc) (w : World) (hr : RowK 2 dV w A ds) (hn : n = ds.length) (hl : n ≤ 100000000) (q : ByteArray) :
    Rt Tryz.prog 14 [.slice A n c, .string q] w (fun v w' => v = .int .i64 (fI ds q) ∧ From w w') := by
  refine enter (n := 20) Tryz.func14 rfl rfl rfl ?_
  refine cd_seq (cd_region ?_)
  refine asi rfl ?_
  refine st_nil (nx_then (cd_seq (cd_seq (cd_region ?_))))
  refine asi rfl ?_
  refine st_nil (nx_then (cd_block ?_))
  refine cd_loop (G := Nat) [4, 6, 7, 8, 9, 10, 11, 12, 13, 14, 15, 16, 17, 18, 19] (fun i => [(5, .int .i64 (i : Nat))]) (fun i w' => i ≤ n ∧ (∀ k, k < i → (ds.getD k dd).1 ≠ q) ∧ From w w') (fun i => n - i) (0) ⟨rfl, trivial⟩ ?_ ?_
  · exact ⟨Nat.zero_le _, fun k h => absurd h (by omega), From.rfl_⟩
  rintro i ρ1 w1 ⟨hi, hno, hB⟩
  refine cd_seq (cd_seq (cd_region ?_))
  refine mvi rfl ?_
  refine mvs rfl ?_
  refine st_val (ro_len SegDocs_l22 rfl) ?_
  refine st_val (ro_lss rfl rfl) ?_
  refine st_nil (nx_then ?_)
  refine cd_cond rfl (fun Q2 => ?_) (fun Q2 => ?_)
  · with_reducible replace Q2 := of_decide_eq_true Q2
    obtain ⟨bd, od, rfl, hcd⟩ := hr (by omega)
    have hil : i < ds.length := by omega
    have hce := hcd i hil
    rw [← getD_get hil] at hce
    refine cd_skip (nx_then (cd_seq (cd_block (cd_seq (cd_region ?_)))))
    refine mvs rfl ?_
    refine mvi rfl ?_
    refine st_val (ro_indexAddrN SegDocs_e22 rfl rfl (by omega)) ?_
    refine st_val (ro_fieldAddr SegDocs_f40_0 rfl) ?_
    refine st_val (ro_load SegDocs_g9 rfl (by exact cellF hB (hce 0 _ rfl))) ?_
    refine mvg rfl ?_
    refine st_val (ro_eqlS rfl rfl) ?_
    refine st_nil (nx_then ?_)
    refine cd_cond rfl (fun Q3 => ?_) (fun Q3 => ?_)
    · with_reducible replace Q3 := be_t Q3
      have heq : (ds.getD i dd).1 = q := by first | exact str_inj Q3 | exact str_eq.1 Q3
      refine cd_seq (cd_region ?_)
      refine mvi rfl ?_
      refine asi rfl ?_
      refine st_nil (nx_then (cd_ret (rt_block (rt_then (rt_then (rt_block (rt_then ?_)))))))
      refine res1 (v := .int _ _) rfl rfl ?_
      exact ⟨int_eq (by rw [fI_at hil heq hno]), hB⟩
    with_reducible replace Q3 := be_f Q3
    have hne : (ds.getD i dd).1 ≠ q := fun e => by have := str_eq.2 e; simp_all
    refine cd_skip (nx_block (nx_then (cd_region ?_)))
    refine mvi rfl ?_
    refine st_val (ro_addN (b := 1) rfl rfl (by omega)) ?_
    refine asi rfl ?_
    refine st_nil ?_
    refine nx_cut (i + 1) ⟨(by first | rfl | (refine int_eq ?_; omega)), trivial⟩ (by (iterate 30 refine agr_cons rfl ?_); exact agr_rfl) ⟨?_, ?_⟩
    · exact ⟨by omega, fun k hk => by
        rcases Nat.eq_or_lt_of_le (Nat.le_of_lt_succ hk) with e | e
        · subst e; exact hne
        · exact hno k e, hB⟩
    · show n - (i + 1) < n - i; omega
  with_reducible replace Q2 := of_decide_eq_false Q2
  refine cd_exit ?_
  refine ex_then (ex_then (ex_block (nx_then (cd_seq (cd_region ?_)))))
  refine asi rfl ?_
  refine st_nil (nx_then (cd_ret ?_))
  refine res1 (v := .int _ _) rfl rfl ?_
  exact ⟨int_eq (by rw [fI_no (fun k hk => hno k (by omega))]), hB⟩
end Go.Proofs.YtllmocjfllbbfaaGreat

namespace Go.Proofs.YtllmocjfllbbfaaGreat
open Go.RowKit
open Go.ChangeShapes Go.WideShapes Go.ChangeAt
open Go.Proofs.YtllmocjfllbbfaaGreat.SA
theorem SegLawD_g25 : aggQ Tryz.prog 25 = some true := by kernel_rfl
theorem SegLawD_z25 : sizeQ Tryz.prog 25 = some 3 := by kernel_rfl
theorem SegLawD_k4 : callable Tryz.prog 4 = true := by kernel_rfl
theorem SegLawD_k5 : callable Tryz.prog 5 = true := by kernel_rfl
theorem SegLawD_p27 : Tryz.prog.underlying 27 = some (.pointer (Tryz.prog.pointee 27)) := by kernel_rfl
theorem SegLawD_k6 : callable Tryz.prog 6 = true := by kernel_rfl
theorem SegLawD_k7 : callable Tryz.prog 7 = true := by kernel_rfl
theorem SegLawD_f25_0 : fieldQ Tryz.prog 25 0 = some 0 := by kernel_rfl
theorem SegLawD_g22 : aggQ Tryz.prog 22 = some false := by kernel_rfl
theorem SegLawD_k8 : callable Tryz.prog 8 = true := by kernel_rfl
theorem SegLawD_k9 : callable Tryz.prog 9 = true := by kernel_rfl
theorem SegLawD_k10 : callable Tryz.prog 10 = true := by kernel_rfl
theorem SegLawD_k11 : callable Tryz.prog 11 = true := by kernel_rfl
theorem SegLawD_l22 : (elemQ Tryz.prog 22).isSome = true := by kernel_rfl
theorem SegLawD_e22 : elemQ Tryz.prog 22 = some (40, 2) := by kernel_rfl
theorem SegLawD_f40_0 : fieldQ Tryz.prog 40 0 = some 0 := by kernel_rfl
theorem SegLawD_g9 : aggQ Tryz.prog 9 = some false := by kernel_rfl
theorem SegLawD_k12 : callable Tryz.prog 12 = true := by kernel_rfl
theorem SegLawD_k13 : callable Tryz.prog 13 = true := by kernel_rfl
theorem SegLawD_f40_1 : fieldQ Tryz.prog 40 1 = some 1 := by kernel_rfl
theorem SegLawD_f25_2 : fieldQ Tryz.prog 25 2 = some 2 := by kernel_rfl
theorem SegLawD_g23 : aggQ Tryz.prog 23 = some false := by kernel_rfl
theorem SegLawD_l23 : (elemQ Tryz.prog 23).isSome = true := by kernel_rfl
theorem SegLawD_e23 : elemQ Tryz.prog 23 = some (9, 1) := by kernel_rfl
theorem SegLawD_k14 : callable Tryz.prog 14 = true := by kernel_rfl
set_option maxHeartbeats 3000000 in
theorem docs_law (A B C : Option Addr) (ca cb cc : Nat) (ds : List Dc) (ps ns : List ByteArray) (w : World) (ha : AskS w A B C ca ds ps ns) :
    Rt Tryz.prog 3 [.agg #[.slice A ds.length ca, .slice B ps.length cb, .slice C ns.length cc]] w (fun v w' => v = .bool true ∧ From w w') := by
  have hlenP := ha.len
  have hlenN := ha.lenN
  refine enter (n := 138) Tryz.func3 rfl rfl rfl ?_
  refine cd_seq (cd_region ?_)
  refine st_box (v := .agg _) rfl ?_
  intro b1 w1 E1 hb1 hk1
  refine asb rfl ?_
  refine st_nil (nx_then (cd_seq (cd_seq (cd_region ?_))))
  refine st_val (ro_loadA (cs := [_, _, _]) SegLawD_g25 SegLawD_z25 rfl (by first | (first | exact (hP1.from_ From.rfl_).whole | exact (hP1.from_ From.rfl_).rd 0 rfl | exact (hP1.from_ From.rfl_).rd 1 rfl | exact (hP1.from_ From.rfl_).rd 2 rfl) | (first | exact (hk1.from_ From.rfl_).whole | exact (hk1.from_ From.rfl_).rd 0 rfl | exact (hk1.from_ From.rfl_).rd 1 rfl | exact (hk1.from_ From.rfl_).rd 2 rfl))) ?_
  refine st_call SegLawD_k4 (heavy_rt A B C ca cb cc ds ps ns _ (ha.from_ (From.rfl_.next E1))) ?_
  rintro v14 w2 ⟨⟨hv, rfl, hli⟩, E14⟩
  refine st_nil (nx_then ?_)
  refine cd_cond rfl (fun Q3 => ?_) (fun Q3 => ?_)
  · refine cd_seq (cd_region ?_)
    refine asb rfl ?_
    refine st_nil (nx_then (cd_ret (rt_then ?_)))
    refine res1 (v := .bool _) rfl rfl ?_
    exact ⟨rfl, ((From.rfl_.next E1).next E14)⟩
  obtain ⟨hl1, hl2, hl3⟩ := hli (by simpa using Q3)
  refine cd_skip (nx_then (cd_seq (cd_region ?_)))
  refine st_val (ro_loadA (cs := [_, _, _]) SegLawD_g25 SegLawD_z25 rfl (by first | (first | exact (hP1.from_ (From.rfl_.next E14)).whole | exact (hP1.from_ (From.rfl_.next E14)).rd 0 rfl | exact (hP1.from_ (From.rfl_.next E14)).rd 1 rfl | exact (hP1.from_ (From.rfl_.next E14)).rd 2 rfl) | (first | exact (hk1.from_ (From.rfl_.next E14)).whole | exact (hk1.from_ (From.rfl_.next E14)).rd 0 rfl | exact (hk1.from_ (From.rfl_.next E14)).rd 1 rfl | exact (hk1.from_ (From.rfl_.next E14)).rd 2 rfl))) ?_
  have hz17 := (((From.rfl_.next E1).next E14)).size
  refine st_call SegLawD_k5 (made_rt A B C ca cb cc ds ps ns _ (ha.from_ ((From.rfl_.next E1).next E14)) hl1) ?_
  rintro v17 w4 ⟨hs17, E17⟩
  replace hk1 := hk1.from_ ((From.rfl_.next E14).next E17)
  rcases hs17 with ⟨hck, rfl⟩ | ⟨hck, s, rfl, hsg⟩
  · have hb33 : (docE ds != 0) = true := by simpa using hck
    refine mvt rfl ?_
    refine st_val (ro_extract rfl rfl) ?_
    refine st_val (ro_extract rfl rfl) ?_
    refine asp rfl ?_
    refine asi rfl ?_
    refine st_nil (nx_then (cd_seq (cd_seq (cd_region ?_))))
    refine mvp rfl ?_
    refine st_val (ro_eqlNil SegLawD_p27 rfl rfl) ?_
    refine st_nil (nx_then ?_)
    refine cd_cond rfl (fun Q5 => ?_) (fun Q5 => ?_)
    rotate_left
    · exfalso; contradiction
    refine cd_seq (cd_region ?_)
    refine mvi rfl ?_
    refine st_val (ro_neq rfl rfl) ?_
    refine mvb rfl ?_
    refine st_split (t := 24) rfl (fun Q75 => ?_) (fun Q75 => ?_)
    rotate_left
    · with_reducible replace Q75 := bx_f Q75
      exfalso; omega
    with_reducible replace Q75 := bx_t Q75
    refine st_unguard rfl ?_
    refine st_call SegLawD_k6 (wakes_rt _) ?_
    rintro v25 w76 ⟨rfl, E25⟩
    refine st_val (ro_pickT (v := .bool _) rfl rfl) ?_
    refine asb rfl ?_
    refine st_nil (nx_then (cd_ret (rt_then ?_)))
    refine res1 (v := .bool _) rfl rfl ?_
    exact ⟨rfl, ((((From.rfl_.next E1).next E14).next E17).next E25)⟩
  replace hsg := hsg.le hz17
  obtain ⟨hord, hfit⟩ := hsg.docs
  have hf1 := hfit.1
  have hf3 := hfit.2.2
  refine mvt rfl ?_
  refine st_val (ro_extract rfl rfl) ?_
  refine st_val (ro_extract rfl rfl) ?_
  refine asp rfl ?_
  refine asi rfl ?_
  refine st_nil (nx_then (cd_seq (cd_seq (cd_region ?_))))
  refine mvp rfl ?_
  refine st_val (ro_eqlNil SegLawD_p27 rfl rfl) ?_
  refine st_nil (nx_then ?_)
  refine cd_cond rfl (fun Q77 => ?_) (fun Q77 => ?_)
  · exfalso; contradiction
  refine cd_skip (nx_then (cd_seq (cd_region ?_)))
  refine mvp rfl ?_
  have hz28 := ((((From.rfl_.next E1).next E14).next E17)).size
  refine st_call SegLawD_k7 (docs_rt _ s ds _ (hsg.from_ From.rfl_)) ?_
  rintro v28 w80 ⟨⟨A28, c28, rfl, ho28⟩, E28⟩
  refine ass rfl ?_
  refine st_nil (nx_then (cd_seq (cd_seq ?_)))
  have h0 : True := trivial
  apply cd_drawnD 13 [(29, eqp _), (30, eqp _), (31, eqp _), (32, eqp _), (33, eqp _), (34, eqp _), (35, eqp _), (36, eqp _), (37, eqp _), (38, eqp _), (39, eqp _), (40, eqp _), (41, eqp _)] (by repeat first | exact pq_body | refine pq_then ?_ | refine pq_block ?_) (by kernel_rfl) (by kernel_rfl) ⟨eqp_mono _, eqp_mono _, eqp_mono _, eqp_mono _, eqp_mono _, eqp_mono _, eqp_mono _, eqp_mono _, eqp_mono _, eqp_mono _, eqp_mono _, eqp_mono _, eqp_mono _, trivial⟩
  case hop =>
   refine ⟨?_, ?_⟩
   · rintro - w82 D82
     show OpOK _ _ _ _ _ _ _
     exact ok_pure (ro_move (v := .slice _ _ _) rfl) rfl
   refine ⟨?_, ?_⟩
   · rintro - w83 D83
     show OpOK _ _ _ _ _ _ _
     exact ok_pure (ro_fieldAddr SegLawD_f25_0 rfl) rfl
   refine ⟨?_, ?_⟩
   · rintro - w84 D84
     rintro _ rfl
     show OpOK _ _ _ _ _ _ _
     exact ok_pure (ro_load SegLawD_g22 rfl (by first | (first | exact (hP1.from_ ((From.rfl_.next E28).next D84)).whole | exact (hP1.from_ ((From.rfl_.next E28).next D84)).rd 0 rfl | exact (hP1.from_ ((From.rfl_.next E28).next D84)).rd 1 rfl | exact (hP1.from_ ((From.rfl_.next E28).next D84)).rd 2 rfl) | (first | exact (hk1.from_ ((From.rfl_.next E28).next D84)).whole | exact (hk1.from_ ((From.rfl_.next E28).next D84)).rd 0 rfl | exact (hk1.from_ ((From.rfl_.next E28).next D84)).rd 1 rfl | exact (hk1.from_ ((From.rfl_.next E28).next D84)).rd 2 rfl))) rfl
   refine ⟨?_, ?_⟩
   · rintro - w85 D85
     rintro _ rfl _ rfl
     show OpOK _ _ _ _ _ _ _
     refine ok_call SegLawD_k8 ((eqDocs_same A28 A c28 ca ds.length ds.length ds _ ((RowK.own dV_len (by decide) ho28).2.from_ D85) (ha.row.from_ (((((From.rfl_.next E1).next E14).next E17).next E28).next D85)) rfl rfl (by omega)).mono ?_)
     rintro v _ ⟨rfl, E85'⟩; exact ⟨E85', rfl⟩
   refine ⟨?_, ?_⟩
   · rintro - w86 D86
     rintro _ rfl
     show OpOK _ _ _ _ _ _ _
     exact ok_pure (ro_bf (ro_not rfl) rfl) rfl
   refine ⟨?_, ?_⟩
   · rintro - w87 D87
     rintro _ rfl
     show OpOK _ _ _ _ _ _ _
     exact ok_pure (ro_move (v := .bool _) rfl) rfl
   refine ⟨?_, ?_⟩
   · rintro - w88 D88
     rintro _ rfl
     show OpOK _ _ _ _ _ _ _
     exact ok_gpure rfl (ro_move (v := .pointer _) rfl) rfl
   refine ⟨?_, ?_⟩
   · rintro - w89 D89
     rintro _ rfl _ rfl
     show OpOK _ _ _ _ _ _ _
     refine ok_gcall rfl SegLawD_k9 ((segSize_rt _ s ds _ (hsg.from_ ((From.rfl_.next E28).next D89))).mono ?_)
     rintro v _ ⟨rfl, E89'⟩; exact ⟨E89', rfl⟩
   refine ⟨?_, ?_⟩
   · rintro - w90 D90
     rintro _ rfl
     show OpOK _ _ _ _ _ _ _
     exact ok_gpure rfl (ro_fieldAddr SegLawD_f25_0 rfl) rfl
   refine ⟨?_, ?_⟩
   · rintro - w91 D91
     rintro _ rfl _ rfl
     show OpOK _ _ _ _ _ _ _
     exact ok_gpure rfl (ro_load SegLawD_g22 rfl (by first | (first | exact (hP1.from_ ((From.rfl_.next E28).next D91)).whole | exact (hP1.from_ ((From.rfl_.next E28).next D91)).rd 0 rfl | exact (hP1.from_ ((From.rfl_.next E28).next D91)).rd 1 rfl | exact (hP1.from_ ((From.rfl_.next E28).next D91)).rd 2 rfl) | (first | exact (hk1.from_ ((From.rfl_.next E28).next D91)).whole | exact (hk1.from_ ((From.rfl_.next E28).next D91)).rd 0 rfl | exact (hk1.from_ ((From.rfl_.next E28).next D91)).rd 1 rfl | exact (hk1.from_ ((From.rfl_.next E28).next D91)).rd 2 rfl))) rfl
   refine ⟨?_, ?_⟩
   · rintro - w92 D92
     rintro _ rfl _ rfl
     show OpOK _ _ _ _ _ _ _
     refine ok_gcall rfl SegLawD_k10 ((refSize_rt A ca ds.length ds _ (ha.row.from_ (((((From.rfl_.next E1).next E14).next E17).next E28).next D92)) rfl (by omega) (by omega)).mono ?_)
     rintro v _ ⟨rfl, E92'⟩; exact ⟨E92', rfl⟩
   refine ⟨?_, ?_⟩
   · rintro - w93 D93
     rintro _ rfl _ rfl _ rfl
     show OpOK _ _ _ _ _ _ _
     exact ok_gpure rfl (ro_bf (ro_neq rfl rfl) (bne_self_eq_false _)) rfl
   refine ⟨?_, ?_⟩
   · rintro - w94 D94
     rintro _ rfl _ rfl
     show OpOK _ _ _ _ _ _ _
     exact ok_pure (ro_pickF (v := .bool _) rfl rfl) rfl
   exact trivial
  case hend =>
   intro w95 D95
   rintro _ rfl _ rfl _ rfl _ rfl _ rfl _ rfl _ rfl _ rfl _ rfl _ rfl _ rfl _ rfl _ rfl
   show St _ _ _ _ _ _ _
   have hE7 := D95
   refine st_nil (nx_then ?_)
   refine cd_condF rfl ?_
   refine cd_skip (nx_then (cd_seq (cd_region ?_)))
   refine mvs rfl ?_
   have hM43 := ((From.rfl_.next E28).next D95)
   refine st_call SegLawD_k11 (spoilDocs_rt _ A28 c28 ds.length ds _ (ho28.kept_from hE7) (by omega) (by have := hE7.size; have := E28.size; omega)) ?_
   rintro v43 w96 hg43
   have E43 := hM43.grew hg43 (fun k hk => (own_at ho28 k hk).1)
   replace hsg := hsg.from_ E43
   replace hk1 := hk1.from_ E43
   refine st_nil (nx_then (cd_seq (cd_seq (cd_region ?_))))
   refine asi rfl ?_
   refine st_nil (nx_then (cd_block ?_))
   refine cd_loop (G := Nat) [2, 7, 8, 44, 45, 46, 47, 48, 49, 50, 51, 52, 53, 54, 55, 56, 57, 58, 59, 60, 61, 62, 63, 64, 65, 66, 67, 68, 69, 70, 71, 72, 73, 74] (fun i => [(6, .int .i64 (i : Nat))]) (fun i w' => i ≤ ds.length ∧ SegAt w' w.heap.size s ds ∧ Blk w' b1 25 #[.slice A ds.length ca, .slice B ps.length cb, .slice C ns.length cc] ∧ From w w') (fun i => ds.length - i) (0) ⟨rfl, trivial⟩ ?_ ?_
   · exact ⟨Nat.zero_le _, hsg.from_ From.rfl_, hk1.from_ From.rfl_, (((((((From.rfl_.next E1).next E14).next E17).next E28).next D95)).grew hg43 (fun k hk => Nat.le_trans hz28 (own_at ho28 k hk).1))⟩
   rintro i ρ97 w97 ⟨hi, hsg, hP1, hB⟩
   refine cd_seq (cd_seq (cd_region ?_))
   refine mvi rfl ?_
   refine st_val (ro_fieldAddr SegLawD_f25_0 rfl) ?_
   refine st_val (ro_load SegLawD_g22 rfl (by first | (first | exact (hP1.from_ From.rfl_).whole | exact (hP1.from_ From.rfl_).rd 0 rfl | exact (hP1.from_ From.rfl_).rd 1 rfl | exact (hP1.from_ From.rfl_).rd 2 rfl) | (first | exact (hk1.from_ From.rfl_).whole | exact (hk1.from_ From.rfl_).rd 0 rfl | exact (hk1.from_ From.rfl_).rd 1 rfl | exact (hk1.from_ From.rfl_).rd 2 rfl))) ?_
   refine st_val (ro_len SegLawD_l22 rfl) ?_
   refine st_val (ro_lss rfl rfl) ?_
   refine st_nil (nx_then ?_)
   refine cd_cond rfl (fun Q98 => ?_) (fun Q98 => ?_)
   · with_reducible replace Q98 := of_decide_eq_true Q98
     obtain ⟨bD, oD, rfl, hcD⟩ := ha.row (by omega)
     have hil : i < ds.length := by omega
     have hce := hcD i hil
     rw [← getD_get hil] at hce
     refine cd_skip (nx_then (cd_seq (cd_block (cd_seq (cd_region ?_)))))
     refine mvp rfl ?_
     refine st_val (ro_fieldAddr SegLawD_f25_0 rfl) ?_
     refine st_val (ro_load SegLawD_g22 rfl (by first | (first | exact (hP1.from_ From.rfl_).whole | exact (hP1.from_ From.rfl_).rd 0 rfl | exact (hP1.from_ From.rfl_).rd 1 rfl | exact (hP1.from_ From.rfl_).rd 2 rfl) | (first | exact (hk1.from_ From.rfl_).whole | exact (hk1.from_ From.rfl_).rd 0 rfl | exact (hk1.from_ From.rfl_).rd 1 rfl | exact (hk1.from_ From.rfl_).rd 2 rfl))) ?_
     refine mvi rfl ?_
     refine st_val (ro_indexAddrN SegLawD_e22 rfl rfl (by omega)) ?_
     refine st_val (ro_fieldAddr SegLawD_f40_0 rfl) ?_
     refine st_val (ro_load SegLawD_g9 rfl (by exact cellF hB (hce 0 _ rfl))) ?_
     refine st_call SegLawD_k12 (doc_own _ s ds _ (hsg.from_ From.rfl_) i hil) ?_
     rintro v59 w99 ⟨rfl, E59⟩
     refine mvt rfl ?_
     refine st_val (ro_extract rfl rfl) ?_
     refine st_val (ro_extract rfl rfl) ?_
     refine asg rfl ?_
     refine asi rfl ?_
     refine st_nil (nx_then (cd_seq (cd_region ?_)))
     refine mvi rfl ?_
     refine st_call SegLawD_k13 (num_any _ _) ?_
     rintro v63 w100 ⟨rfl, rfl⟩
     refine st_val (ro_bf (ro_neq rfl rfl) (bne_self_eq_false _)) ?_
     refine mvb rfl ?_
     refine st_unguard rfl ?_
     refine mvg rfl ?_
     refine st_unguard rfl ?_
     refine st_val (ro_fieldAddr SegLawD_f25_0 rfl) ?_
     refine st_unguard rfl ?_
     refine st_val (ro_load SegLawD_g22 rfl (by first | (first | exact (hP1.from_ (From.rfl_.next E59)).whole | exact (hP1.from_ (From.rfl_.next E59)).rd 0 rfl | exact (hP1.from_ (From.rfl_.next E59)).rd 1 rfl | exact (hP1.from_ (From.rfl_.next E59)).rd 2 rfl) | (first | exact (hk1.from_ (From.rfl_.next E59)).whole | exact (hk1.from_ (From.rfl_.next E59)).rd 0 rfl | exact (hk1.from_ (From.rfl_.next E59)).rd 1 rfl | exact (hk1.from_ (From.rfl_.next E59)).rd 2 rfl))) ?_
     refine st_unguard rfl ?_
     refine mvi rfl ?_
     refine st_unguard rfl ?_
     refine st_val (ro_indexAddrN SegLawD_e22 rfl rfl (by omega)) ?_
     refine st_unguard rfl ?_
     refine st_val (ro_fieldAddr SegLawD_f40_1 rfl) ?_
     refine st_unguard rfl ?_
     refine st_val (ro_load SegLawD_g9 rfl (by exact cellF (hB.next E59) (hce 1 _ rfl))) ?_
     refine st_unguard rfl ?_
     refine st_val (ro_bf (ro_neqS rfl rfl) (neqS_same _)) ?_
     refine st_val (ro_pickF (v := .bool _) rfl rfl) ?_
     refine st_nil (nx_then ?_)
     refine cd_condF rfl ?_
     refine cd_skip (nx_block (nx_then (cd_region ?_)))
     refine mvi rfl ?_
     refine st_val (ro_addN (b := 1) rfl rfl (by omega)) ?_
     refine asi rfl ?_
     refine st_nil ?_
     refine nx_cut (i + 1) ⟨(by first | rfl | (refine int_eq ?_; omega)), trivial⟩ (by (iterate 69 refine agr_cons rfl ?_); exact agr_rfl) ⟨?_, ?_⟩
     · exact ⟨by omega, hsg.from_ (From.rfl_.next E59), hP1.from_ (From.rfl_.next E59), (hB.next E59)⟩
     · show ds.length - (i + 1) < ds.length - i; omega
   with_reducible replace Q98 := of_decide_eq_false Q98
   refine cd_exit ?_
   refine ex_then (ex_then (ex_block (nx_then (cd_seq (cd_seq (cd_region ?_))))))
   refine asi rfl ?_
   refine st_nil (nx_then (cd_block ?_))
   refine cd_loop (G := Nat) [2, 10, 11, 12, 75, 76, 77, 78, 79, 80, 81, 82, 83, 84, 85, 86, 87, 88, 89, 90, 91, 92, 93, 94, 95, 96, 97, 98, 99, 100, 101, 102, 103, 104, 105, 106, 107, 108, 109, 110, 111, 112, 113, 114, 115, 116, 117, 118, 119, 120, 121, 122, 123, 124, 125, 126, 127, 128, 129] (fun i => [(9, .int .i64 (i : Nat))]) (fun i w' => i ≤ ns.length ∧ SegAt w' w.heap.size s ds ∧ Blk w' b1 25 #[.slice A ds.length ca, .slice B ps.length cb, .slice C ns.length cc] ∧ From w w') (fun i => ns.length - i) (0) ⟨rfl, trivial⟩ ?_ ?_
   · exact ⟨Nat.zero_le _, hsg.from_ From.rfl_, hP1.from_ From.rfl_, hB⟩
   rintro i ρ101 w101 ⟨hi, hsg, hP1, hB⟩
   refine cd_seq (cd_seq (cd_region ?_))
   refine mvi rfl ?_
   refine st_val (ro_fieldAddr SegLawD_f25_2 rfl) ?_
   refine st_val (ro_load SegLawD_g23 rfl (by first | (first | exact (hP1.from_ From.rfl_).whole | exact (hP1.from_ From.rfl_).rd 0 rfl | exact (hP1.from_ From.rfl_).rd 1 rfl | exact (hP1.from_ From.rfl_).rd 2 rfl) | (first | exact (hk1.from_ From.rfl_).whole | exact (hk1.from_ From.rfl_).rd 0 rfl | exact (hk1.from_ From.rfl_).rd 1 rfl | exact (hk1.from_ From.rfl_).rd 2 rfl))) ?_
   refine st_val (ro_len SegLawD_l23 rfl) ?_
   refine st_val (ro_lss rfl rfl) ?_
   refine st_nil (nx_then ?_)
   refine cd_cond rfl (fun Q102 => ?_) (fun Q102 => ?_)
   · with_reducible replace Q102 := of_decide_eq_true Q102
     obtain ⟨bN, oN, rfl, hcN⟩ := ha.rowN (by omega)
     have hne := hcN i (by omega)
     obtain ⟨q, hq⟩ : ∃ q, q = ns[i] := ⟨_, rfl⟩
     rw [← hq] at hne
     refine cd_skip (nx_then (cd_seq (cd_block (cd_seq (cd_region ?_)))))
     refine mvp rfl ?_
     refine st_val (ro_fieldAddr SegLawD_f25_2 rfl) ?_
     refine st_val (ro_load SegLawD_g23 rfl (by first | (first | exact (hP1.from_ From.rfl_).whole | exact (hP1.from_ From.rfl_).rd 0 rfl | exact (hP1.from_ From.rfl_).rd 1 rfl | exact (hP1.from_ From.rfl_).rd 2 rfl) | (first | exact (hk1.from_ From.rfl_).whole | exact (hk1.from_ From.rfl_).rd 0 rfl | exact (hk1.from_ From.rfl_).rd 1 rfl | exact (hk1.from_ From.rfl_).rd 2 rfl))) ?_
     refine mvi rfl ?_
     refine st_val (ro_indexAddr1 SegLawD_e23 rfl rfl (by omega)) ?_
     refine st_val (ro_load SegLawD_g9 rfl (by exact cellF hB hne)) ?_
     refine st_call SegLawD_k12 (doc_rt _ s ds _ (hsg.from_ From.rfl_) q) ?_
     rintro v89 w103 ⟨hd89, E89⟩
     rcases hd89 with ⟨i0, hi0, hid0, rfl⟩ | ⟨hno, rfl⟩
     · have hfi : fI ds q = (i0 : Int) := fI_ord hord hi0 hid0
       obtain ⟨bD, oD, rfl, hcD⟩ := ha.row (by omega)
       have hc0 := hcD i0 hi0
       rw [← getD_get hi0] at hc0
       refine mvt rfl ?_
       refine st_val (ro_extract rfl rfl) ?_
       refine st_val (ro_extract rfl rfl) ?_
       refine asg rfl ?_
       refine asi rfl ?_
       refine st_nil (nx_then (cd_seq ?_))
       apply cd_drawnD 9 [(92, eqp _), (93, eqp _), (94, eqp _), (95, eqp _), (96, eqp _), (97, eqp _), (98, eqp (.string q)), (99, eqp _), (12, eqp _)] (by repeat first | exact pq_body | refine pq_then ?_ | refine pq_block ?_) (by kernel_rfl) (by kernel_rfl) ⟨eqp_mono _, eqp_mono _, eqp_mono _, eqp_mono _, eqp_mono _, eqp_mono _, eqp_mono _, eqp_mono _, eqp_mono _, trivial⟩
       case hop =>
        refine ⟨?_, ?_⟩
        · rintro - w105 D105
          show OpOK _ _ _ _ _ _ _
          exact ok_pure (ro_fieldAddr SegLawD_f25_0 rfl) rfl
        refine ⟨?_, ?_⟩
        · rintro - w106 D106
          rintro _ rfl
          show OpOK _ _ _ _ _ _ _
          exact ok_pure (ro_load SegLawD_g22 rfl (by first | (first | exact (hP1.from_ ((From.rfl_.next E89).next D106)).whole | exact (hP1.from_ ((From.rfl_.next E89).next D106)).rd 0 rfl | exact (hP1.from_ ((From.rfl_.next E89).next D106)).rd 1 rfl | exact (hP1.from_ ((From.rfl_.next E89).next D106)).rd 2 rfl) | (first | exact (hk1.from_ ((From.rfl_.next E89).next D106)).whole | exact (hk1.from_ ((From.rfl_.next E89).next D106)).rd 0 rfl | exact (hk1.from_ ((From.rfl_.next E89).next D106)).rd 1 rfl | exact (hk1.from_ ((From.rfl_.next E89).next D106)).rd 2 rfl))) rfl
        refine ⟨?_, ?_⟩
        · rintro - w107 D107
          show OpOK _ _ _ _ _ _ _
          exact ok_pure (ro_fieldAddr SegLawD_f25_2 rfl) rfl
        refine ⟨?_, ?_⟩
        · rintro - w108 D108
          rintro _ rfl
          show OpOK _ _ _ _ _ _ _
          exact ok_pure (ro_load SegLawD_g23 rfl (by first | (first | exact (hP1.from_ ((From.rfl_.next E89).next D108)).whole | exact (hP1.from_ ((From.rfl_.next E89).next D108)).rd 0 rfl | exact (hP1.from_ ((From.rfl_.next E89).next D108)).rd 1 rfl | exact (hP1.from_ ((From.rfl_.next E89).next D108)).rd 2 rfl) | (first | exact (hk1.from_ ((From.rfl_.next E89).next D108)).whole | exact (hk1.from_ ((From.rfl_.next E89).next D108)).rd 0 rfl | exact (hk1.from_ ((From.rfl_.next E89).next D108)).rd 1 rfl | exact (hk1.from_ ((From.rfl_.next E89).next D108)).rd 2 rfl))) rfl
        refine ⟨?_, ?_⟩
        · rintro - w109 D109
          show OpOK _ _ _ _ _ _ _
          exact ok_pure (ro_move (v := .int _ _) rfl) rfl
        refine ⟨?_, ?_⟩
        · rintro - w110 D110
          rintro _ rfl _ rfl
          show OpOK _ _ _ _ _ _ _
          exact ok_pure (ro_indexAddr1 SegLawD_e23 rfl rfl (by omega)) rfl
        refine ⟨?_, ?_⟩
        · rintro - w111 D111
          rintro _ rfl
          show OpOK _ _ _ _ _ _ _
          exact ok_pure (ro_load SegLawD_g9 rfl (by exact cellF ((hB.next E89).next D111) hne)) rfl
        refine ⟨?_, ?_⟩
        · rintro - w112 D112
          rintro _ rfl v112_98 rfl
          show OpOK _ _ _ _ _ _ _
          refine ok_call SegLawD_k14 ((refFindD_rt _ ca ds.length ds _ (ha.row.from_ ((hB.next E89).next D112)) rfl (by omega) q).mono ?_)
          rintro v _ ⟨rfl, E112'⟩; exact ⟨E112', rfl⟩
        refine ⟨?_, ?_⟩
        · rintro - w113 D113
          rintro _ rfl
          show OpOK _ _ _ _ _ _ _
          exact ok_pure (ro_assign (v := .int _ _) rfl) rfl
        exact trivial
       case hend =>
        intro w114 D114
        rintro _ rfl _ rfl _ rfl _ rfl _ rfl _ rfl v98 rfl _ rfl _ rfl
        show St _ _ _ _ _ _ _
        refine st_nil (nx_then (cd_seq (cd_region ?_)))
        refine mvi rfl ?_
        refine st_val (ro_lss rfl rfl) ?_
        refine mvb rfl ?_
        refine st_split (t := 102) rfl (fun Q115 => ?_) (fun Q115 => ?_)
        · with_reducible replace Q115 := of_decide_eq_true Q115
          exfalso; omega
        with_reducible replace Q115 := of_decide_eq_false Q115
        refine st_gno rfl rfl ?_
        refine st_gno rfl rfl ?_
        refine st_gno rfl rfl ?_
        refine st_gno rfl rfl ?_
        refine st_gund rfl ?_
        refine st_gund rfl ?_
        refine st_gno rfl rfl ?_
        refine st_val (ro_pickF (v := .bool _) rfl rfl) ?_
        refine mvb rfl ?_
        refine st_unguard rfl ?_
        refine mvi rfl ?_
        refine st_unguard rfl ?_
        refine st_val (ro_geq rfl rfl) ?_
        refine st_unguard rfl ?_
        refine mvb rfl ?_
        refine st_split (t := 114) rfl (fun Q119 => ?_) (fun Q119 => ?_)
        rotate_left
        · with_reducible replace Q119 := of_decide_eq_false Q119
          exfalso; omega
        with_reducible replace Q119 := of_decide_eq_true Q119
        refine st_unguard rfl ?_
        refine mvi rfl ?_
        refine st_unguard rfl ?_
        refine st_call SegLawD_k13 (num_any _ _) ?_
        rintro v116 w120 ⟨rfl, rfl⟩
        refine st_unguard rfl ?_
        refine st_val (ro_bf (ro_neq rfl rfl) (bne_self_eq_false _)) ?_
        refine st_unguard rfl ?_
        refine mvb rfl ?_
        refine st_unguard rfl ?_
        refine mvg rfl ?_
        refine st_unguard rfl ?_
        refine st_val (ro_fieldAddr SegLawD_f25_0 rfl) ?_
        refine st_unguard rfl ?_
        refine st_val (ro_load SegLawD_g22 rfl (by first | (first | exact (hP1.from_ ((From.rfl_.next E89).next D114)).whole | exact (hP1.from_ ((From.rfl_.next E89).next D114)).rd 0 rfl | exact (hP1.from_ ((From.rfl_.next E89).next D114)).rd 1 rfl | exact (hP1.from_ ((From.rfl_.next E89).next D114)).rd 2 rfl) | (first | exact (hk1.from_ ((From.rfl_.next E89).next D114)).whole | exact (hk1.from_ ((From.rfl_.next E89).next D114)).rd 0 rfl | exact (hk1.from_ ((From.rfl_.next E89).next D114)).rd 1 rfl | exact (hk1.from_ ((From.rfl_.next E89).next D114)).rd 2 rfl))) ?_
        refine st_unguard rfl ?_
        refine mvi rfl ?_
        refine st_spell (t := 122) (v := .int _ _) (v' := .int .i64 (i0 : Nat)) rfl (by rw [hfi]) ?_
        refine st_unguard rfl ?_
        refine st_val (ro_indexAddrN SegLawD_e22 rfl rfl (by omega)) ?_
        refine st_unguard rfl ?_
        refine st_val (ro_fieldAddr SegLawD_f40_1 rfl) ?_
        refine st_unguard rfl ?_
        refine st_val (ro_load SegLawD_g9 rfl (by exact cellF ((hB.next E89).next D114) (hc0 1 _ rfl))) ?_
        refine st_unguard rfl ?_
        refine st_val (ro_bf (ro_neqS rfl rfl) (neqS_same _)) ?_
        refine st_unguard rfl ?_
        refine st_val (ro_pickF (v := .bool _) rfl rfl) ?_
        refine st_unguard rfl ?_
        refine st_val (ro_pickT (v := .bool _) rfl rfl) ?_
        refine st_val (ro_pickF (v := .bool _) rfl rfl) ?_
        refine st_nil (nx_then ?_)
        refine cd_condF rfl ?_
        refine cd_skip (nx_block (nx_then (cd_region ?_)))
        refine mvi rfl ?_
        refine st_val (ro_addN (b := 1) rfl rfl (by omega)) ?_
        refine asi rfl ?_
        refine st_nil ?_
        refine nx_cut (i + 1) ⟨(by first | rfl | (refine int_eq ?_; omega)), trivial⟩ (by (iterate 122 refine agr_cons rfl ?_); exact agr_rfl) ⟨?_, ?_⟩
        · exact ⟨by omega, hsg.from_ ((From.rfl_.next E89).next D114), hP1.from_ ((From.rfl_.next E89).next D114), ((hB.next E89).next D114)⟩
        · show ns.length - (i + 1) < ns.length - i; omega
     have hfi : fI ds q = -1 := fI_no hno
     refine mvt rfl ?_
     refine st_val (ro_extract rfl rfl) ?_
     refine st_val (ro_extract rfl rfl) ?_
     refine asg rfl ?_
     refine asi rfl ?_
     refine st_nil (nx_then (cd_seq ?_))
     apply cd_drawnD 9 [(92, eqp _), (93, eqp _), (94, eqp _), (95, eqp _), (96, eqp _), (97, eqp _), (98, eqp (.string q)), (99, eqp _), (12, eqp _)] (by repeat first | exact pq_body | refine pq_then ?_ | refine pq_block ?_) (by kernel_rfl) (by kernel_rfl) ⟨eqp_mono _, eqp_mono _, eqp_mono _, eqp_mono _, eqp_mono _, eqp_mono _, eqp_mono _, eqp_mono _, eqp_mono _, trivial⟩
     case hop =>
      refine ⟨?_, ?_⟩
      · rintro - w122 D122
        show OpOK _ _ _ _ _ _ _
        exact ok_pure (ro_fieldAddr SegLawD_f25_0 rfl) rfl
      refine ⟨?_, ?_⟩
      · rintro - w123 D123
        rintro _ rfl
        show OpOK _ _ _ _ _ _ _
        exact ok_pure (ro_load SegLawD_g22 rfl (by first | (first | exact (hP1.from_ ((From.rfl_.next E89).next D123)).whole | exact (hP1.from_ ((From.rfl_.next E89).next D123)).rd 0 rfl | exact (hP1.from_ ((From.rfl_.next E89).next D123)).rd 1 rfl | exact (hP1.from_ ((From.rfl_.next E89).next D123)).rd 2 rfl) | (first | exact (hk1.from_ ((From.rfl_.next E89).next D123)).whole | exact (hk1.from_ ((From.rfl_.next E89).next D123)).rd 0 rfl | exact (hk1.from_ ((From.rfl_.next E89).next D123)).rd 1 rfl | exact (hk1.from_ ((From.rfl_.next E89).next D123)).rd 2 rfl))) rfl
      refine ⟨?_, ?_⟩
      · rintro - w124 D124
        show OpOK _ _ _ _ _ _ _
        exact ok_pure (ro_fieldAddr SegLawD_f25_2 rfl) rfl
      refine ⟨?_, ?_⟩
      · rintro - w125 D125
        rintro _ rfl
        show OpOK _ _ _ _ _ _ _
        exact ok_pure (ro_load SegLawD_g23 rfl (by first | (first | exact (hP1.from_ ((From.rfl_.next E89).next D125)).whole | exact (hP1.from_ ((From.rfl_.next E89).next D125)).rd 0 rfl | exact (hP1.from_ ((From.rfl_.next E89).next D125)).rd 1 rfl | exact (hP1.from_ ((From.rfl_.next E89).next D125)).rd 2 rfl) | (first | exact (hk1.from_ ((From.rfl_.next E89).next D125)).whole | exact (hk1.from_ ((From.rfl_.next E89).next D125)).rd 0 rfl | exact (hk1.from_ ((From.rfl_.next E89).next D125)).rd 1 rfl | exact (hk1.from_ ((From.rfl_.next E89).next D125)).rd 2 rfl))) rfl
      refine ⟨?_, ?_⟩
      · rintro - w126 D126
        show OpOK _ _ _ _ _ _ _
        exact ok_pure (ro_move (v := .int _ _) rfl) rfl
      refine ⟨?_, ?_⟩
      · rintro - w127 D127
        rintro _ rfl _ rfl
        show OpOK _ _ _ _ _ _ _
        exact ok_pure (ro_indexAddr1 SegLawD_e23 rfl rfl (by omega)) rfl
      refine ⟨?_, ?_⟩
      · rintro - w128 D128
        rintro _ rfl
        show OpOK _ _ _ _ _ _ _
        exact ok_pure (ro_load SegLawD_g9 rfl (by exact cellF ((hB.next E89).next D128) hne)) rfl
      refine ⟨?_, ?_⟩
      · rintro - w129 D129
        rintro _ rfl v129_98 rfl
        show OpOK _ _ _ _ _ _ _
        refine ok_call SegLawD_k14 ((refFindD_rt _ ca ds.length ds _ (ha.row.from_ ((hB.next E89).next D129)) rfl (by omega) q).mono ?_)
        rintro v _ ⟨rfl, E129'⟩; exact ⟨E129', rfl⟩
      refine ⟨?_, ?_⟩
      · rintro - w130 D130
        rintro _ rfl
        show OpOK _ _ _ _ _ _ _
        exact ok_pure (ro_assign (v := .int _ _) rfl) rfl
      exact trivial
     case hend =>
      intro w131 D131
      rintro _ rfl _ rfl _ rfl _ rfl _ rfl _ rfl v98 rfl _ rfl _ rfl
      show St _ _ _ _ _ _ _
      refine st_nil (nx_then (cd_seq (cd_region ?_)))
      refine mvi rfl ?_
      refine st_val (ro_lss rfl rfl) ?_
      refine mvb rfl ?_
      refine st_split (t := 102) rfl (fun Q132 => ?_) (fun Q132 => ?_)
      rotate_left
      · with_reducible replace Q132 := of_decide_eq_false Q132
        exfalso; omega
      with_reducible replace Q132 := of_decide_eq_true Q132
      refine st_unguard rfl ?_
      refine mvi rfl ?_
      refine st_unguard rfl ?_
      refine st_call SegLawD_k13 (num_any _ _) ?_
      rintro v104 w135 ⟨rfl, rfl⟩
      refine st_unguard rfl ?_
      refine st_val (ro_bf (ro_neq rfl rfl) (bne_self_eq_false _)) ?_
      refine st_unguard rfl ?_
      refine mvb rfl ?_
      refine st_unguard rfl ?_
      refine mvg rfl ?_
      refine st_unguard rfl ?_
      refine st_val (ro_bf (ro_neqS rfl rfl) (neqS_same _)) ?_
      refine st_unguard rfl ?_
      refine st_val (ro_pickF (v := .bool _) rfl rfl) ?_
      refine st_val (ro_pickT (v := .bool _) rfl rfl) ?_
      refine mvb rfl ?_
      refine st_unguard rfl ?_
      refine mvi rfl ?_
      refine st_unguard rfl ?_
      refine st_val (ro_geq rfl rfl) ?_
      refine st_unguard rfl ?_
      refine mvb rfl ?_
      refine st_split (t := 114) rfl (fun Q136 => ?_) (fun Q136 => ?_)
      · with_reducible replace Q136 := of_decide_eq_true Q136
        exfalso; omega
      with_reducible replace Q136 := of_decide_eq_false Q136
      refine st_gno rfl rfl ?_
      refine st_gno rfl rfl ?_
      refine st_gno rfl rfl ?_
      refine st_gno rfl rfl ?_
      refine st_gund rfl ?_
      refine st_gund rfl ?_
      refine st_gund rfl ?_
      refine st_gund rfl ?_
      refine st_gund rfl ?_
      refine st_gund rfl ?_
      refine st_gund rfl ?_
      refine st_gund rfl ?_
      refine st_gno rfl rfl ?_
      refine st_unguard rfl ?_
      refine st_val (ro_pickF (v := .bool _) rfl rfl) ?_
      refine st_val (ro_pickF (v := .bool _) rfl rfl) ?_
      refine st_nil (nx_then ?_)
      refine cd_condF rfl ?_
      refine cd_skip (nx_block (nx_then (cd_region ?_)))
      refine mvi rfl ?_
      refine st_val (ro_addN (b := 1) rfl rfl (by omega)) ?_
      refine asi rfl ?_
      refine st_nil ?_
      refine nx_cut (i + 1) ⟨(by first | rfl | (refine int_eq ?_; omega)), trivial⟩ (by (iterate 121 refine agr_cons rfl ?_); exact agr_rfl) ⟨?_, ?_⟩
      · exact ⟨by omega, hsg.from_ ((From.rfl_.next E89).next D131), hP1.from_ ((From.rfl_.next E89).next D131), ((hB.next E89).next D131)⟩
      · show ns.length - (i + 1) < ns.length - i; omega
   with_reducible replace Q102 := of_decide_eq_false Q102
   refine cd_exit ?_
   refine ex_then (ex_then (ex_block (nx_then (cd_seq ?_))))
   have h0 : True := trivial
   apply cd_drawnD 9 [(130, eqp _), (131, fun v w' => ∃ A' c', v = .slice A' ds.length c' ∧ RowK 2 dV w' A' ds), (132, eqp _), (133, eqp _), (134, eqp _), (135, eqp _), (136, eqp _), (137, eqp _), (2, eqp _)] (by repeat first | exact pq_body | refine pq_then ?_ | refine pq_block ?_) (by kernel_rfl) (by kernel_rfl) ⟨eqp_mono _, (fun _ _ _ hF ⟨A2, c2, h1, h2⟩ => ⟨A2, c2, h1, h2.from_ hF⟩), eqp_mono _, eqp_mono _, eqp_mono _, eqp_mono _, eqp_mono _, eqp_mono _, eqp_mono _, trivial⟩
   case hop =>
    refine ⟨?_, ?_⟩
    · rintro - w139 D139
      show OpOK _ _ _ _ _ _ _
      exact ok_pure (ro_move (v := .pointer _) rfl) rfl
    refine ⟨?_, ?_⟩
    · rintro - w140 D140
      rintro _ rfl
      show OpOK _ _ _ _ _ _ _
      refine ok_call SegLawD_k7 ((docs_rt _ s ds _ (hsg.from_ (From.rfl_.next D140))).mono ?_)
      rintro v w2 ⟨⟨A3, c3, rfl, ho3⟩, E⟩
      exact ⟨E, A3, c3, rfl, (RowK.own dV_len (by decide) ho3).2⟩
    refine ⟨?_, ?_⟩
    · rintro - w141 D141
      show OpOK _ _ _ _ _ _ _
      exact ok_pure (ro_fieldAddr SegLawD_f25_0 rfl) rfl
    refine ⟨?_, ?_⟩
    · rintro - w142 D142
      rintro _ rfl
      show OpOK _ _ _ _ _ _ _
      exact ok_pure (ro_load SegLawD_g22 rfl (by first | (first | exact (hP1.from_ (From.rfl_.next D142)).whole | exact (hP1.from_ (From.rfl_.next D142)).rd 0 rfl | exact (hP1.from_ (From.rfl_.next D142)).rd 1 rfl | exact (hP1.from_ (From.rfl_.next D142)).rd 2 rfl) | (first | exact (hk1.from_ (From.rfl_.next D142)).whole | exact (hk1.from_ (From.rfl_.next D142)).rd 0 rfl | exact (hk1.from_ (From.rfl_.next D142)).rd 1 rfl | exact (hk1.from_ (From.rfl_.next D142)).rd 2 rfl))) rfl
    refine ⟨?_, ?_⟩
    · rintro - w143 D143
      rintro v143_131 ⟨A131, c131, rfl, hr131⟩ _ rfl
      show OpOK _ _ _ _ _ _ _
      refine ok_call SegLawD_k8 ((eqDocs_same A131 A c131 ca ds.length ds.length ds _ hr131 (ha.row.from_ (hB.next D143)) rfl rfl (by omega)).mono ?_)
      rintro v _ ⟨rfl, E143'⟩; exact ⟨E143', rfl⟩
    refine ⟨?_, ?_⟩
    · rintro - w144 D144
      rintro _ rfl
      show OpOK _ _ _ _ _ _ _
      exact ok_pure (ro_move (v := .bool _) rfl) rfl
    refine ⟨?_, ?_⟩
    · rintro - w145 D145
      rintro _ rfl
      show OpOK _ _ _ _ _ _ _
      refine ok_gcall rfl SegLawD_k6 ((wakes_rt _).mono ?_)
      rintro v _ ⟨rfl, E145'⟩; exact ⟨E145', rfl⟩
    refine ⟨?_, ?_⟩
    · rintro - w146 D146
      rintro _ rfl _ rfl
      show OpOK _ _ _ _ _ _ _
      exact ok_pure (ro_pickT (v := .bool _) rfl rfl) rfl
    refine ⟨?_, ?_⟩
    · rintro - w147 D147
      rintro _ rfl
      show OpOK _ _ _ _ _ _ _
      exact ok_pure (ro_assign (v := .bool _) rfl) rfl
    exact trivial
   case hend =>
    intro w148 D148
    rintro _ rfl v131 ⟨A131, c131, rfl, hr131⟩ _ rfl _ rfl _ rfl _ rfl _ rfl _ rfl _ rfl
    show St _ _ _ _ _ _ _
    refine st_nil (nx_then (cd_ret ?_))
    refine res1 (v := .bool _) rfl rfl ?_
    exact ⟨rfl, (hB.next D148)⟩
theorem docs_arg (cs : Array Value) (x : (Ty.pr (Ty.sl docT) (.pr (.sl .str) (.pr (.sl .str) .unit))).den) (w : World) (hs : cs.size = 3) (h : (Ty.pr (Ty.sl docT) (.pr (.sl .str) (.pr (.sl .str) .unit))).At w (fun j => cs[j]?) x) :
    Rt Tryz.prog 3 [.agg cs] w fun v w' => v = .bool true ∧ From w w' := by
  obtain ⟨A, B, C, ca, cb, cc, ds, ps, ns, rfl, ha, hcap⟩ := ask_of8 hs h
  exact docs_law A B C ca cb cc ds ps ns w ha
theorem SegmentDocs_lifted (os : Os) (started : os.Started) (H : Type) (enc : TypeId × Value → H) :
    ReturnsInHanded {} Tryz.checked os 3 .any (Rows.segmentDocsSpec.pre6 enc Tryz.prog Tryz.f3 Rows.segmentDocsRow.domain false) (Rows.segmentDocsSpec.post enc Tryz.prog Tryz.f3 false true false false) := by
  refine returnsInHanded_of_change_sized (C := Tryz.checked) Tryz.own started (by kernel_rfl) Tryz.func3
    (ChangeSpec.witness6 (enc := enc) (C := Tryz.checked) false ⟨#[], #[.agg #[.slice none 0 0, .slice none 0 0, .slice none 0 0]], []⟩ 8 (by kernel_rfl) (by kernel_rfl) (by kernel_rfl) (by kernel_rfl)) ?_
  intro W base args ds gs before hval hW _ hsz _
  exact law_step 3 Tryz.f3 25 4 Rows.segmentDocsSpec Tryz.params3 (by kernel_rfl) Tryz.underlying4 rfl (fun _ => rfl) (by kernel_rfl) (of_decide_eq_true (by kernel_rfl)) (walk_struct (Ty.sl docT) (.pr (.sl .str) (.pr (.sl .str) .unit)) (by kernel_rfl) docs_arg) W base args ds gs before hval hW hsz

theorem SegmentDocs_holds : Rows.SegmentDocsSaid :=
  OpenClaim.holds_of_wide 3 Tryz.f3 rfl rfl rfl rfl rfl rfl rfl ⟨rfl, rfl, rfl, rfl, rfl⟩ rfl rfl rfl rfl rfl (by kernel_rfl) Tryz.func3 (by kernel_rfl)
    (of_decide_eq_true (by kernel_rfl)) (by unfold Func.isWrapper; first | (rw [if_pos (by decide +kernel)]; kernel_rfl) | (rw [if_neg (by decide +kernel)]; exact ⟨rfl, rfl⟩))
    (fun os started H enc _ => SegmentDocs_lifted os started H enc)
#print axioms SegmentDocs_holds

end Go.Proofs.YtllmocjfllbbfaaGreat
