/- Helpers of the laws of package bounds. -/
import Derived.Test.YtkmcdhllldlbgaaBndWalks
namespace Go.Proofs.Ytkmcdhllldlbgaa
open Go.RowKit
open Go.ChangeShapes Go.WideShapes Go.ChangeAt
theorem BndHelp_e22 : elemQ Try.prog 22 = some (3, 1) := by kernel_rfl
theorem BndHelp_l22 : (elemQ Try.prog 22).isSome = true := by kernel_rfl
theorem BndHelp_g3 : aggQ Try.prog 3 = some false := by kernel_rfl
theorem BndHelp_q22 : litQ Try.prog 22 = some (3, 1, 8, (.int .i64 0)) := by kernel_rfl
theorem BndHelp_f24_0 : fieldQ Try.prog 24 0 = some 0 := by kernel_rfl
theorem BndHelp_g22 : aggQ Try.prog 22 = some false := by kernel_rfl
theorem BndHelp_f24_1 : fieldQ Try.prog 24 1 = some 1 := by kernel_rfl
theorem BndHelp_z3 : sizeQ Try.prog 3 = some 1 := by kernel_rfl
theorem BndHelp_k18 : callable Try.prog 18 = true := by kernel_rfl
theorem BndHelp_k15 : callable Try.prog 15 = true := by kernel_rfl
theorem BndHelp_p26 : Try.prog.underlying 26 = some (.pointer (Try.prog.pointee 26)) := by kernel_rfl
theorem BndHelp_k16 : callable Try.prog 16 = true := by kernel_rfl
theorem BndHelp_k19 : callable Try.prog 19 = true := by kernel_rfl
theorem BndHelp_k20 : callable Try.prog 20 = true := by kernel_rfl
theorem BndHelp_k21 : callable Try.prog 21 = true := by kernel_rfl
abbrev askT : Ty := .pr (.sl (.int .i64)) (.pr (.sl (.int .i64)) .unit)
theorem ask_of {w : World} {cs : Array Value} {x : askT.den} (hs : cs.size = 2) (h : askT.At w (fun j => cs[j]?) x) :
    ∃ (A : Option Addr) (ca : Nat) (L : List Int) (B : Option Addr) (cb : Nat) (is : List Int), cs = #[.slice A L.length ca, .slice B is.length cb] ∧ RowOf iV w A L ∧ (∀ x ∈ L, -9223372036854775808 ≤ x ∧ x ≤ 9223372036854775807) ∧ RowOf iV w B is ∧ (∀ x ∈ is, -9223372036854775808 ≤ x ∧ x ≤ 9223372036854775807) := by
  obtain ⟨h1, h2, _⟩ := h
  obtain ⟨A, ca, a0, a1, a2, _⟩ := at_nums h1
  obtain ⟨B, cb, b0, b1, b2, _⟩ := at_nums h2
  have e0 : cs[0]? = some _ := a0
  have e1 : cs[1]? = some _ := b0
  refine ⟨A, ca, _, B, cb, _, ?_, a1, a2, b1, b2⟩
  obtain ⟨l⟩ := cs
  match l, hs with
  | [a, b], _ =>
    simp only [List.getElem?_toArray, List.getElem?_cons_zero, List.getElem?_cons_succ, Option.some.injEq] at e0 e1
    rw [e0, e1]
theorem sizes_rt (base b : Nat) (L : List Int) (w : World) (hv : BAt w base b L) (i : Int) : Rt Try.prog 14 [.pointer (some ⟨b, 0, none⟩), .int .i64 i] w fun v w' => v = .tuple #[.int .i64 (nV L i), .int .i64 (sE L i)] ∧ From w w' := by
  by_cases h : 0 ≤ i ∧ i < L.length
  · obtain ⟨q, rfl⟩ : ∃ q : Nat, i = (q : Int) := ⟨i.toNat, by omega⟩
    refine Rt.mono (size_in base b L w hv q (by omega)) fun v w' hh => ⟨?_, hh.2⟩
    rw [hh.1]
    unfold nV sE
    rw [if_pos h, if_pos h, Int.toNat_natCast, List.getD_eq_getElem?_getD, List.getElem?_eq_getElem (by omega)]
    rfl
  · refine Rt.mono (size_out base b L w hv i h) fun v w' hh => ⟨?_, hh.2⟩
    rw [hh.1]
    unfold nV sE
    rw [if_neg h, if_neg h]
theorem where_any (base b : Nat) (L : List Int) (w : World) (hv : BAt w base b L) (a : Int) : Rt Try.prog 16 [.pointer (some ⟨b, 0, none⟩), .int .i64 a] w fun v w' =>
    ((¬ (0 ≤ a ∧ a < st L L.length) ∧ v = .tuple #[.int .i64 0, .int .i64 0, .int .i64 3]) ∨ ∃ q : Nat, q < L.length ∧ st L q ≤ a ∧ a < st L (q + 1) ∧ v = .tuple #[.int .i64 (q : Nat), .int .i64 (a - st L q), .int .i64 0]) ∧ From w w' := by
  by_cases h : 0 ≤ a ∧ a < st L L.length
  · obtain ⟨q, h1, h2, h3⟩ := st_find h.1 _ h.2
    exact Rt.mono (where_is base b L w hv a q h1 h2 h3) fun v w' hh => ⟨.inr ⟨q, h1, h2, h3, hh.1⟩, hh.2⟩
  · exact Rt.mono (where_out base b L w hv a h) fun v w' hh => ⟨.inl ⟨h, hh.1⟩, hh.2⟩
set_option maxRecDepth 100000 in
set_option maxHeartbeats 400000 in
theorem copyNums_any (A : Option Addr) (c : Nat) (l : List Int) (w : World) (hr : RowOf iV w A l) (hl : l.length * 8 ≤ 140737488351232) :
    Rt Try.prog 19 [.slice A l.length c] w (fun v w' => ∃ A' c', v = .slice A' l.length c' ∧ w'.ownsRow w.heap.size 3 1 v l.length (l.map iV) ∧ From w w') := by
  refine enter (n := 19) Try.func19 rfl rfl rfl ?_
  refine cd_seq ?_
  refine cd_region ?_
  refine st_val (ro_assign (v := .slice _ _ _) rfl) ?_
  refine st_nil ?_
  refine nx_then ?_
  refine cd_seq ?_
  refine cd_region ?_
  refine st_val (ro_assign (v := .slice _ _ _) rfl) ?_
  refine st_nil ?_
  refine nx_then ?_
  refine cd_seq ?_
  refine cd_seq ?_
  refine cd_region ?_
  refine st_val (ro_assign (v := .int _ _) rfl) ?_
  refine st_nil ?_
  refine nx_then ?_
  refine cd_block ?_
  refine cd_loop (G := Nat × Option Addr × Nat) [5, 6, 7, 8, 9, 10, 11, 12, 13, 14, 15, 16, 17] (fun g => [(3, .slice g.2.1 g.1 g.2.2), (4, .int .i64 (g.1 : Nat))]) (fun g w' => g.1 ≤ l.length ∧ w'.ownsRow w.heap.size 3 1 (.slice g.2.1 g.1 g.2.2) g.1 ((l.take g.1).map iV) ∧ From w w') (fun g => l.length - g.1) ((0, none, 0)) ⟨rfl, rfl, trivial⟩ ?_ ?_
  · exact ⟨Nat.zero_le _, World.ownsRow_nil _ _ _ _, From.rfl_⟩
  rintro ⟨k, A3, c3⟩ ρ1 w1 ⟨hk, ho, hB⟩
  simp only at hk ho
  refine cd_seq ?_
  refine cd_seq ?_
  refine cd_region ?_
  refine st_val (ro_move (v := .int _ _) rfl) ?_
  refine st_val (ro_move (v := .slice _ _ _) rfl) ?_
  refine st_val (ro_len BndHelp_l22 rfl) ?_
  refine st_val (ro_lss rfl rfl) ?_
  refine st_nil ?_
  refine nx_then ?_
  refine cd_cond rfl (fun Q2 => ?_) (fun Q2 => ?_)
  · (try first | replace Q2 := bn_t Q2 | replace Q2 := bn_f Q2)
    (try first | replace Q2 := bx_t Q2 | replace Q2 := bx_f Q2 | replace Q2 := be_t Q2 | replace Q2 := be_f Q2 | replace Q2 := of_decide_eq_true Q2 | replace Q2 := of_decide_eq_false Q2)
    obtain ⟨ba, oa, rfl, ca⟩ := hr (by omega)
    first
     | (exfalso; first | omega | contradiction | (cases Q2; done))
     | skip
       refine cd_skip ?_
       refine nx_then ?_
       refine cd_seq ?_
       refine cd_block ?_
       refine cd_region ?_
       refine st_val (ro_move (v := .slice _ _ _) rfl) ?_
       refine st_val (ro_move (v := .slice _ _ _) rfl) ?_
       refine st_val (ro_move (v := .int _ _) rfl) ?_
       refine st_val (ro_indexAddr1 BndHelp_e22 rfl rfl (by omega)) ?_
       refine st_val (ro_load BndHelp_g3 rfl (by first | (exact cellF hB (ca k (by omega))))) ?_
       refine st_lit1 (v := .int _ _) BndHelp_q22 rfl rfl rfl ?_
       intro b16 w3 E16 hb16 hk16
       refine st_push1 (a0 := w) BndHelp_q22 rfl rfl (ho.kept_from E16) (hB.next E16) rfl hk16 rfl (by omega) (by omega) ?_
       intro A17 c17 w4 ho17 B17 hg17
       refine st_val (ro_assign (v := .slice _ _ _) rfl) ?_
       refine st_nil ?_
       refine nx_block ?_
       refine nx_then ?_
       refine cd_region ?_
       refine st_val (ro_move (v := .int _ _) rfl) ?_
       refine st_val (ro_add64 rfl rfl (by omega)) ?_
       refine st_val (ro_assign (v := .int _ _) rfl) ?_
       refine st_nil ?_
       refine nx_cut ((k + 1, A17, c17)) ⟨(by first | rfl | (refine int_eq ?_; omega)), (by first | rfl | (refine int_eq ?_; omega)), trivial⟩ (by (iterate 30 refine agr_cons rfl ?_); exact agr_rfl) ⟨?_, ?_⟩
       · exact ⟨by simp only; omega, by rw [map_take_succ iV (by omega)]; exact ho17, B17⟩
       · simp only; omega
  · (try first | replace Q2 := bn_t Q2 | replace Q2 := bn_f Q2)
    (try first | replace Q2 := bx_t Q2 | replace Q2 := bx_f Q2 | replace Q2 := be_t Q2 | replace Q2 := be_f Q2 | replace Q2 := of_decide_eq_true Q2 | replace Q2 := of_decide_eq_false Q2)
    first
     | (exfalso; first | omega | contradiction | (cases Q2; done))
     | skip
       refine cd_exit ?_
       refine ex_then ?_
       refine ex_then ?_
       refine ex_block ?_
       refine nx_then ?_
       refine cd_seq ?_
       refine cd_region ?_
       refine st_val (ro_move (v := .slice _ _ _) rfl) ?_
       refine st_val (ro_assign (v := .slice _ _ _) rfl) ?_
       refine st_nil ?_
       refine nx_then ?_
       refine cd_ret ?_
       refine res1 (v := .slice _ _ _) rfl rfl ?_
       obtain rfl : k = l.length := by omega
       exact ⟨A3, c3, rfl, by rwa [List.take_length] at ho, hB⟩
set_option maxRecDepth 100000 in
set_option maxHeartbeats 400000 in
theorem num_any (e : Int) (w : World) :
    Rt Try.prog 15 [.int .i64 e] w (fun v w' => v = .int .i64 e ∧ w = w') := by
  refine enter (n := 4) Try.func15 rfl rfl rfl ?_
  refine cd_seq ?_
  refine cd_region ?_
  refine st_val (ro_assign (v := .int _ _) rfl) ?_
  refine st_nil ?_
  refine nx_then ?_
  refine cd_seq ?_
  refine cd_region ?_
  refine st_val (ro_move (v := .int _ _) rfl) ?_
  refine st_val (ro_assign (v := .int _ _) rfl) ?_
  refine st_nil ?_
  refine nx_then ?_
  refine cd_ret ?_
  refine res1 (v := .int _ _) rfl rfl ?_
  exact ⟨rfl, rfl⟩
set_option maxRecDepth 100000 in
set_option maxHeartbeats 400000 in
theorem heavy_any (A B : Option Addr) (n ca m cb : Nat) (w : World) :
    Rt Try.prog 7 [.agg #[.slice A n ca, .slice B m cb]] w (fun v w' => v = .bool (decide (200 < n ∨ 200 < m)) ∧ From w w') := by
  refine enter (n := 13) Try.func7 rfl rfl rfl ?_
  refine cd_seq ?_
  refine cd_region ?_
  refine st_box (v := .agg _) rfl ?_
  intro b1 w1 E1 hb1 hk1
  refine st_val (ro_assign (v := .bool _) rfl) ?_
  refine st_nil ?_
  refine nx_then ?_
  refine cd_seq ?_
  refine cd_region ?_
  refine st_val (ro_fieldAddr BndHelp_f24_0 rfl) ?_
  refine st_val (ro_load BndHelp_g22 rfl (by exact hk1.rd 0 rfl)) ?_
  refine st_val (ro_len BndHelp_l22 rfl) ?_
  refine st_val (ro_gtr rfl rfl) ?_
  refine st_val (ro_move (v := .bool _) rfl) ?_
  refine st_split (t := 7) rfl (fun Q2 => ?_) (fun Q2 => ?_)
  · (try first | replace Q2 := bn_t Q2 | replace Q2 := bn_f Q2)
    (try first | replace Q2 := bx_t Q2 | replace Q2 := bx_f Q2 | replace Q2 := be_t Q2 | replace Q2 := be_f Q2 | replace Q2 := of_decide_eq_true Q2 | replace Q2 := of_decide_eq_false Q2)
    first
     | (exfalso; first | omega | contradiction | (cases Q2; done))
     | skip
       refine st_gno rfl rfl ?_
       refine st_gno rfl rfl ?_
       refine st_gno rfl rfl ?_
       refine st_gno rfl rfl ?_
       refine st_val (ro_pickT (v := .bool _) rfl rfl) ?_
       refine st_val (ro_assign (v := .bool _) rfl) ?_
       refine st_nil ?_
       refine nx_then ?_
       refine cd_ret ?_
       refine res1 (v := .bool _) rfl rfl ?_
       refine ⟨?_, (From.rfl_.next E1)⟩
       first
         | rw [decide_eq_true (by omega)]
         | exact congrArg Value.bool (decide_eq_decide.2 (by omega))
  · (try first | replace Q2 := bn_t Q2 | replace Q2 := bn_f Q2)
    (try first | replace Q2 := bx_t Q2 | replace Q2 := bx_f Q2 | replace Q2 := be_t Q2 | replace Q2 := be_f Q2 | replace Q2 := of_decide_eq_true Q2 | replace Q2 := of_decide_eq_false Q2)
    first
     | (exfalso; first | omega | contradiction | (cases Q2; done))
     | skip
       refine st_unguard rfl ?_
       refine st_val (ro_fieldAddr BndHelp_f24_1 rfl) ?_
       refine st_unguard rfl ?_
       refine st_val (ro_load BndHelp_g22 rfl (by exact hk1.rd 1 rfl)) ?_
       refine st_unguard rfl ?_
       refine st_val (ro_len BndHelp_l22 rfl) ?_
       refine st_unguard rfl ?_
       refine st_val (ro_gtr rfl rfl) ?_
       refine st_val (ro_pickF (v := .bool _) rfl rfl) ?_
       refine st_val (ro_assign (v := .bool _) rfl) ?_
       refine st_nil ?_
       refine nx_then ?_
       refine cd_ret ?_
       refine res1 (v := .bool _) rfl rfl ?_
       refine ⟨?_, (From.rfl_.next E1)⟩
       first
         | rw [decide_eq_true (by omega)]
         | exact congrArg Value.bool (decide_eq_decide.2 (by omega))
set_option maxRecDepth 100000 in
set_option maxHeartbeats 400000 in
theorem spoilNums_any (base : Nat) (A : Option Addr) (c : Nat) (l : List Int) (w : World) (ho : w.ownsRow base 3 1 (.slice A l.length c) l.length (l.map iV)) (hn : l.length * 8 ≤ 140737488351232) (hbs : base ≤ w.heap.size) :
    Rt Try.prog 20 [.slice A l.length c] w (fun _ w' => w.grownBy w' (A.map (·.block))) := by
  refine enter (n := 15) Try.func20 rfl rfl rfl ?_
  refine cd_seq ?_
  refine cd_seq ?_
  refine cd_region ?_
  refine st_val (ro_assign (v := .int _ _) rfl) ?_
  refine st_nil ?_
  refine nx_then ?_
  refine cd_block ?_
  refine cd_loop (G := List Int × Nat) [3, 4, 5, 6, 7, 8, 9, 10, 11] (fun (_, k) => [(2, .int .i64 (k : Nat))]) (fun (l1, k) w' => k ≤ l.length ∧ l1.length = l.length ∧ w'.ownsRow base 3 1 (.slice A l.length c) l.length (l1.map iV) ∧ w.grownBy w' (A.map (·.block))) (fun (_, k) => l.length - k) ((l, 0)) ⟨rfl, trivial⟩ ?_ ?_
  · exact ⟨Nat.zero_le _, rfl, ho, (From.rfl_ (a := w)).grown _⟩
  rintro ⟨l1, k⟩ ρ1 w1 ⟨hk, hlen, ho1, hG⟩
  refine cd_seq ?_
  refine cd_seq ?_
  refine cd_region ?_
  refine st_val (ro_move (v := .int _ _) rfl) ?_
  refine st_val (ro_move (v := .slice _ _ _) rfl) ?_
  refine st_val (ro_len BndHelp_l22 rfl) ?_
  refine st_val (ro_lss rfl rfl) ?_
  refine st_nil ?_
  refine nx_then ?_
  refine cd_cond rfl (fun Q2 => ?_) (fun Q2 => ?_)
  · (try first | replace Q2 := bn_t Q2 | replace Q2 := bn_f Q2)
    (try first | replace Q2 := bx_t Q2 | replace Q2 := bx_f Q2 | replace Q2 := be_t Q2 | replace Q2 := be_f Q2 | replace Q2 := of_decide_eq_true Q2 | replace Q2 := of_decide_eq_false Q2)
    obtain ⟨g, rfl⟩ := own_some ho (by omega)
    first
     | (exfalso; first | omega | contradiction | (cases Q2; done))
     | skip
       refine cd_skip ?_
       refine nx_then ?_
       refine cd_seq ?_
       refine cd_block ?_
       refine cd_region ?_
       refine st_val (ro_move (v := .slice _ _ _) rfl) ?_
       refine st_val (ro_move (v := .int _ _) rfl) ?_
       refine st_val (ro_indexAddr0 BndHelp_e22 rfl rfl (by omega)) ?_
       refine st_putOwn (v := .int _ _) BndHelp_z3 rfl rfl rfl (ho1) (by omega) ?_
       intro w3 O3 P3
       refine st_nil ?_
       refine nx_block ?_
       refine nx_then ?_
       refine cd_region ?_
       refine st_val (ro_move (v := .int _ _) rfl) ?_
       refine st_val (ro_addN (b := 1) rfl rfl (by omega)) ?_
       refine st_val (ro_assign (v := .int _ _) rfl) ?_
       refine st_nil ?_
       refine nx_cut ((l1.set k (-99), k + 1)) ⟨(by first | rfl | (refine int_eq ?_; omega)), trivial⟩ (by (iterate 20 refine agr_cons rfl ?_); exact agr_rfl) ⟨?_, ?_⟩
       · exact ⟨by omega, (List.length_set ..).trans hlen, by rw [List.map_set]; exact P3, grown_trans hG O3.grown⟩
       · show _ - _ < _ - _; omega
  · (try first | replace Q2 := bn_t Q2 | replace Q2 := bn_f Q2)
    (try first | replace Q2 := bx_t Q2 | replace Q2 := bx_f Q2 | replace Q2 := be_t Q2 | replace Q2 := be_f Q2 | replace Q2 := of_decide_eq_true Q2 | replace Q2 := of_decide_eq_false Q2)
    first
     | (exfalso; first | omega | contradiction | (cases Q2; done))
     | skip
       refine cd_exit ?_
       refine ex_then ?_
       refine ex_then ?_
       refine ex_block ?_
       refine nx_then ?_
       refine cd_region ?_
       refine st_val (ro_move (v := .slice _ _ _) rfl) ?_
       refine st_lit1 (v := .int _ _) BndHelp_q22 rfl rfl rfl ?_
       intro b13 w4 E13 hb13 hk13
       refine st_appendB (base := base) BndHelp_q22 rfl (by decide) rfl (A := A) (xs := l1.map iV) (news := [.int .i64 5]) (ho1.kept_from E13) (by have := hG.size; have := E13.size; omega) rfl rfl (fun _ => ⟨b13, 0, rfl, hk13.range 0 _ (fun j v h => by simpa using h)⟩) (fun h => by cases h) (by simp [Value.oneCell']) (by omega) (by omega) ?_
       intro A14 c14 w5 ho14 hg14
       refine st_val (ro_assign (v := .slice _ _ _) rfl) ?_
       refine st_nil ?_
       refine end_ret ?_
       refine res0 rfl ?_
       exact grown_trans hG (grown_trans (E13.grown _) hg14)
set_option maxRecDepth 100000 in
set_option maxHeartbeats 400000 in
theorem refLens_rt (A : Option Addr) (c : Nat) (L : List Int) (w : World) (hr : RowOf iV w A L) (hb64 : ∀ x ∈ L, -9223372036854775808 ≤ x ∧ x ≤ 9223372036854775807) (hl : L.length ≤ 1000000000000) :
    Rt Try.prog 21 [.slice A L.length c] w (fun v w' => v = .int .i64 (lensE L) ∧ w = w') := by
  refine enter (n := 39) Try.func21 rfl rfl rfl ?_
  refine cd_seq ?_
  refine cd_region ?_
  refine st_val (ro_assign (v := .int _ _) rfl) ?_
  refine st_nil ?_
  refine nx_then ?_
  refine cd_seq ?_
  refine cd_seq ?_
  refine cd_region ?_
  refine st_val (ro_assign (v := .int _ _) rfl) ?_
  refine st_nil ?_
  refine nx_then ?_
  refine cd_block ?_
  refine cd_loop (G := Nat) [2, 6, 7, 8, 9, 10, 11, 12, 13, 14, 15, 16] (fun k => [(3, .int .i64 (k : Nat))]) (fun k w' => k ≤ L.length ∧ (∀ i (h : i < L.length), i < k → 0 ≤ L[i]) ∧ w = w') (fun k => L.length - k) (0) ⟨rfl, trivial⟩ ?_ ?_
  · exact ⟨Nat.zero_le _, fun i h h0 => absurd h0 (by omega), rfl⟩
  rintro k ρ1 w1 ⟨hk, hp, rfl⟩
  refine cd_seq ?_
  refine cd_seq ?_
  refine cd_region ?_
  refine st_val (ro_move (v := .int _ _) rfl) ?_
  refine st_val (ro_move (v := .slice _ _ _) rfl) ?_
  refine st_val (ro_len BndHelp_l22 rfl) ?_
  refine st_val (ro_lss rfl rfl) ?_
  refine st_nil ?_
  refine nx_then ?_
  refine cd_cond rfl (fun Q2 => ?_) (fun Q2 => ?_)
  · (try first | replace Q2 := bn_t Q2 | replace Q2 := bn_f Q2)
    (try first | replace Q2 := bx_t Q2 | replace Q2 := bx_f Q2 | replace Q2 := be_t Q2 | replace Q2 := be_f Q2 | replace Q2 := of_decide_eq_true Q2 | replace Q2 := of_decide_eq_false Q2)
    obtain ⟨ba, oa, rfl, hca⟩ := hr (by omega)
    first
     | (exfalso; first | omega | contradiction | (cases Q2; done))
     | skip
       refine cd_skip ?_
       refine nx_then ?_
       refine cd_seq ?_
       refine cd_block ?_
       refine cd_seq ?_
       refine cd_region ?_
       refine st_val (ro_move (v := .slice _ _ _) rfl) ?_
       refine st_val (ro_move (v := .int _ _) rfl) ?_
       refine st_val (ro_indexAddr1 BndHelp_e22 rfl rfl (by omega)) ?_
       refine st_val (ro_load BndHelp_g3 rfl (by exact hca k (by omega))) ?_
       refine st_val (ro_lss rfl rfl) ?_
       refine st_nil ?_
       refine nx_then ?_
       refine cd_cond rfl (fun Q3 => ?_) (fun Q3 => ?_)
       · (try first | replace Q3 := bn_t Q3 | replace Q3 := bn_f Q3)
         (try first | replace Q3 := bx_t Q3 | replace Q3 := bx_f Q3 | replace Q3 := be_t Q3 | replace Q3 := be_f Q3 | replace Q3 := of_decide_eq_true Q3 | replace Q3 := of_decide_eq_false Q3)
         first
          | (exfalso; first | omega | contradiction | (cases Q3; done))
          | skip
            refine cd_seq ?_
            refine cd_region ?_
            refine st_val (ro_assign (v := .int _ _) rfl) ?_
            refine st_nil ?_
            refine nx_then ?_
            refine cd_ret ?_
            refine rt_block ?_
            refine rt_then ?_
            refine rt_then ?_
            refine rt_block ?_
            refine rt_then ?_
            refine res1 (v := .int _ _) rfl rfl ?_
            exact ⟨by rw [lens1 (i := k) (by omega) (by omega)], rfl⟩
       · (try first | replace Q3 := bn_t Q3 | replace Q3 := bn_f Q3)
         (try first | replace Q3 := bx_t Q3 | replace Q3 := bx_f Q3 | replace Q3 := be_t Q3 | replace Q3 := be_f Q3 | replace Q3 := of_decide_eq_true Q3 | replace Q3 := of_decide_eq_false Q3)
         first
          | (exfalso; first | omega | contradiction | (cases Q3; done))
          | skip
            refine cd_skip ?_
            refine nx_block ?_
            refine nx_then ?_
            refine cd_region ?_
            refine st_val (ro_move (v := .int _ _) rfl) ?_
            refine st_val (ro_addN (b := 1) rfl rfl (by omega)) ?_
            refine st_val (ro_assign (v := .int _ _) rfl) ?_
            refine st_nil ?_
            refine nx_cut (k + 1) ⟨(by first | rfl | (refine int_eq ?_; omega)), trivial⟩ (by (iterate 25 refine agr_cons rfl ?_); exact agr_rfl) ⟨?_, ?_⟩
            · refine ⟨by omega, fun i h hi => ?_, rfl⟩
              rcases Nat.lt_or_ge i k with a | a
              · exact hp i h a
              · obtain rfl : i = k := by omega
                omega
            · omega
  · (try first | replace Q2 := bn_t Q2 | replace Q2 := bn_f Q2)
    (try first | replace Q2 := bx_t Q2 | replace Q2 := bx_f Q2 | replace Q2 := be_t Q2 | replace Q2 := be_f Q2 | replace Q2 := of_decide_eq_true Q2 | replace Q2 := of_decide_eq_false Q2)
    first
     | (exfalso; first | omega | contradiction | (cases Q2; done))
     | skip
       refine cd_exit ?_
       refine ex_then ?_
       refine ex_then ?_
       refine ex_block ?_
       refine nx_then ?_
       refine cd_seq ?_
       refine cd_seq ?_
       refine cd_region ?_
       have hpos : ∀ i (h : i < L.length), 0 ≤ L[i] := fun i h => hp i h (by omega)
       refine st_val (ro_move (v := .slice _ _ _) rfl) ?_
       refine st_val (ro_len BndHelp_l22 rfl) ?_
       refine st_val (ro_gtr rfl rfl) ?_
       refine st_nil ?_
       refine nx_then ?_
       refine cd_cond rfl (fun Q4 => ?_) (fun Q4 => ?_)
       · (try first | replace Q4 := bn_t Q4 | replace Q4 := bn_f Q4)
         (try first | replace Q4 := bx_t Q4 | replace Q4 := bx_f Q4 | replace Q4 := be_t Q4 | replace Q4 := be_f Q4 | replace Q4 := of_decide_eq_true Q4 | replace Q4 := of_decide_eq_false Q4)
         first
          | (exfalso; first | omega | contradiction | (cases Q4; done))
          | skip
            refine cd_seq ?_
            refine cd_region ?_
            refine st_val (ro_assign (v := .int _ _) rfl) ?_
            refine st_nil ?_
            refine nx_then ?_
            refine cd_ret ?_
            refine rt_then ?_
            refine res1 (v := .int _ _) rfl rfl ?_
            exact ⟨by rw [lens2 hpos (by omega)], rfl⟩
       · (try first | replace Q4 := bn_t Q4 | replace Q4 := bn_f Q4)
         (try first | replace Q4 := bx_t Q4 | replace Q4 := bx_f Q4 | replace Q4 := be_t Q4 | replace Q4 := be_f Q4 | replace Q4 := of_decide_eq_true Q4 | replace Q4 := of_decide_eq_false Q4)
         first
          | (exfalso; first | omega | contradiction | (cases Q4; done))
          | skip
            refine cd_skip ?_
            refine nx_then ?_
            refine cd_seq ?_
            refine cd_region ?_
            refine st_val (ro_assign (v := .int _ _) rfl) ?_
            refine st_nil ?_
            refine nx_then ?_
            refine cd_seq ?_
            refine cd_seq ?_
            refine cd_region ?_
            refine st_val (ro_assign (v := .int _ _) rfl) ?_
            refine st_nil ?_
            refine nx_then ?_
            refine cd_block ?_
            refine cd_loop (G := Nat) [2, 20, 21, 22, 23, 24, 25, 26, 27, 28, 29, 30, 31, 32, 33, 34, 35, 36, 37, 38] (fun k => [(4, .int .i64 (131072 - st L k)), (5, .int .i64 (k : Nat))]) (fun k w' => k ≤ L.length ∧ (∀ i (h : i < L.length), i < k → L[i] < 131072 - st L i) ∧ w = w') (fun k => L.length - k) (0) ⟨rfl, rfl, trivial⟩ ?_ ?_
            · exact ⟨Nat.zero_le _, fun i h h0 => absurd h0 (by omega), rfl⟩
            rintro k ρ5 w5 ⟨hk, hf, rfl⟩
            have hst := st_part hpos k hk hf
            refine cd_seq ?_
            refine cd_seq ?_
            refine cd_region ?_
            refine st_val (ro_move (v := .int _ _) rfl) ?_
            refine st_val (ro_move (v := .slice _ _ _) rfl) ?_
            refine st_val (ro_len BndHelp_l22 rfl) ?_
            refine st_val (ro_lss rfl rfl) ?_
            refine st_nil ?_
            refine nx_then ?_
            refine cd_cond rfl (fun Q6 => ?_) (fun Q6 => ?_)
            · (try first | replace Q6 := bn_t Q6 | replace Q6 := bn_f Q6)
              (try first | replace Q6 := bx_t Q6 | replace Q6 := bx_f Q6 | replace Q6 := be_t Q6 | replace Q6 := be_f Q6 | replace Q6 := of_decide_eq_true Q6 | replace Q6 := of_decide_eq_false Q6)
              obtain ⟨ba, oa, rfl, hca⟩ := hr (by omega)
              have hpk := hpos k (by omega)
              have hbk := hb64 L[k] (List.getElem_mem _)
              first
               | (exfalso; first | omega | contradiction | (cases Q6; done))
               | skip
                 refine cd_skip ?_
                 refine nx_then ?_
                 refine cd_seq ?_
                 refine cd_block ?_
                 refine cd_seq ?_
                 refine cd_seq ?_
                 refine cd_region ?_
                 refine st_val (ro_move (v := .slice _ _ _) rfl) ?_
                 refine st_val (ro_move (v := .int _ _) rfl) ?_
                 refine st_val (ro_indexAddr1 BndHelp_e22 rfl rfl (by omega)) ?_
                 refine st_val (ro_load BndHelp_g3 rfl (by exact hca k (by omega))) ?_
                 refine st_val (ro_move (v := .int _ _) rfl) ?_
                 refine st_val (ro_geq rfl rfl) ?_
                 refine st_nil ?_
                 refine nx_then ?_
                 refine cd_cond rfl (fun Q7 => ?_) (fun Q7 => ?_)
                 · (try first | replace Q7 := bn_t Q7 | replace Q7 := bn_f Q7)
                   (try first | replace Q7 := bx_t Q7 | replace Q7 := bx_f Q7 | replace Q7 := be_t Q7 | replace Q7 := be_f Q7 | replace Q7 := of_decide_eq_true Q7 | replace Q7 := of_decide_eq_false Q7)
                   first
                    | (exfalso; first | omega | contradiction | (cases Q7; done))
                    | skip
                      refine cd_seq ?_
                      refine cd_region ?_
                      refine st_val (ro_assign (v := .int _ _) rfl) ?_
                      refine st_nil ?_
                      refine nx_then ?_
                      refine cd_ret ?_
                      refine rt_then ?_
                      refine rt_block ?_
                      refine rt_then ?_
                      refine rt_then ?_
                      refine rt_block ?_
                      refine rt_then ?_
                      refine res1 (v := .int _ _) rfl rfl ?_
                      exact ⟨by rw [lens3 hpos (by omega) (i := k) (by omega) (by omega)], rfl⟩
                 · (try first | replace Q7 := bn_t Q7 | replace Q7 := bn_f Q7)
                   (try first | replace Q7 := bx_t Q7 | replace Q7 := bx_f Q7 | replace Q7 := be_t Q7 | replace Q7 := be_f Q7 | replace Q7 := of_decide_eq_true Q7 | replace Q7 := of_decide_eq_false Q7)
                   first
                    | (exfalso; first | omega | contradiction | (cases Q7; done))
                    | skip
                      refine cd_skip ?_
                      refine nx_then ?_
                      refine cd_region ?_
                      refine st_val (ro_move (v := .int _ _) rfl) ?_
                      refine st_val (ro_move (v := .slice _ _ _) rfl) ?_
                      refine st_val (ro_move (v := .int _ _) rfl) ?_
                      refine st_val (ro_indexAddr1 BndHelp_e22 rfl rfl (by omega)) ?_
                      refine st_val (ro_load BndHelp_g3 rfl (by exact hca k (by omega))) ?_
                      refine st_val (ro_sub64 rfl rfl (by omega)) ?_
                      refine st_val (ro_sub64 rfl rfl (by omega)) ?_
                      refine st_val (ro_assign (v := .int _ _) rfl) ?_
                      refine st_nil ?_
                      refine nx_block ?_
                      refine nx_then ?_
                      refine cd_region ?_
                      refine st_val (ro_move (v := .int _ _) rfl) ?_
                      refine st_val (ro_addN (b := 1) rfl rfl (by omega)) ?_
                      refine st_val (ro_assign (v := .int _ _) rfl) ?_
                      refine st_nil ?_
                      refine nx_cut (k + 1) ⟨(int_eq (by rw [st_succ (by omega)]; omega)), rfl, trivial⟩ (by (iterate 43 refine agr_cons rfl ?_); exact agr_rfl) ⟨?_, ?_⟩
                      · refine ⟨by omega, fun i h hi => ?_, rfl⟩
                        rcases Nat.lt_or_ge i k with a | a
                        · exact hf i h a
                        · obtain rfl : i = k := by omega
                          omega
                      · omega
            · (try first | replace Q6 := bn_t Q6 | replace Q6 := bn_f Q6)
              (try first | replace Q6 := bx_t Q6 | replace Q6 := bx_f Q6 | replace Q6 := be_t Q6 | replace Q6 := be_f Q6 | replace Q6 := of_decide_eq_true Q6 | replace Q6 := of_decide_eq_false Q6)
              first
               | (exfalso; first | omega | contradiction | (cases Q6; done))
               | skip
                 refine cd_exit ?_
                 refine ex_then ?_
                 refine ex_then ?_
                 refine ex_block ?_
                 refine nx_then ?_
                 refine cd_seq ?_
                 refine cd_region ?_
                 refine st_val (ro_assign (v := .int _ _) rfl) ?_
                 refine st_nil ?_
                 refine nx_then ?_
                 refine cd_ret ?_
                 refine res1 (v := .int _ _) rfl rfl ?_
                 obtain rfl : k = L.length := by omega
                 exact ⟨by rw [lens0 ⟨hpos, by omega, fun i h => hf i h h⟩], rfl⟩
set_option maxRecDepth 100000 in
set_option maxHeartbeats 400000 in
theorem refStart_rt (A : Option Addr) (c i : Nat) (L : List Int) (w : World) (hr : RowOf iV w A L) (hG : Gd L) (hi : i ≤ L.length) :
    Rt Try.prog 12 [.slice A L.length c, .int .i64 (i : Nat)] w (fun v w' => v = .int .i64 (st L i) ∧ w = w') := by
  refine enter (n := 20) Try.func12 rfl rfl rfl ?_
  refine cd_seq ?_
  refine cd_region ?_
  refine st_val (ro_assign (v := .int _ _) rfl) ?_
  refine st_nil ?_
  refine nx_then ?_
  refine cd_seq ?_
  refine cd_region ?_
  refine st_val (ro_assign (v := .int _ _) rfl) ?_
  refine st_nil ?_
  refine nx_then ?_
  refine cd_seq ?_
  refine cd_seq ?_
  refine cd_region ?_
  refine st_val (ro_assign (v := .int _ _) rfl) ?_
  refine st_nil ?_
  refine nx_then ?_
  refine cd_block ?_
  refine cd_loop (G := Nat) [7, 8, 9, 10, 11, 12, 13, 14, 15, 16, 17, 18] (fun k => [(5, .int .i64 (st L k)), (6, .int .i64 (k : Nat))]) (fun k w' => k ≤ i ∧ w = w') (fun k => i - k) (0) ⟨rfl, rfl, trivial⟩ ?_ ?_
  · exact ⟨Nat.zero_le _, rfl⟩
  rintro k ρ1 w1 ⟨hk, rfl⟩
  refine cd_seq ?_
  refine cd_seq ?_
  refine cd_region ?_
  refine st_val (ro_move (v := .int _ _) rfl) ?_
  refine st_val (ro_move (v := .int _ _) rfl) ?_
  refine st_val (ro_lss rfl rfl) ?_
  refine st_nil ?_
  refine nx_then ?_
  refine cd_cond rfl (fun Q2 => ?_) (fun Q2 => ?_)
  · (try first | replace Q2 := bn_t Q2 | replace Q2 := bn_f Q2)
    (try first | replace Q2 := bx_t Q2 | replace Q2 := bx_f Q2 | replace Q2 := be_t Q2 | replace Q2 := be_f Q2 | replace Q2 := of_decide_eq_true Q2 | replace Q2 := of_decide_eq_false Q2)
    obtain ⟨ba, oa, rfl, hca⟩ := hr (by omega)
    have hs1 := hG.st (k := k) (by omega)
    have hs2 := hG.st (k := k + 1) (by omega)
    have hs3 := st_succ (L := L) (i := k) (by omega)
    have hGl := hG.len
    first
     | (exfalso; first | omega | contradiction | (cases Q2; done))
     | skip
       refine cd_skip ?_
       refine nx_then ?_
       refine cd_seq ?_
       refine cd_block ?_
       refine cd_region ?_
       refine st_val (ro_move (v := .int _ _) rfl) ?_
       refine st_val (ro_move (v := .slice _ _ _) rfl) ?_
       refine st_val (ro_move (v := .int _ _) rfl) ?_
       refine st_val (ro_indexAddr1 BndHelp_e22 rfl rfl (by omega)) ?_
       refine st_val (ro_load BndHelp_g3 rfl (by exact hca k (by omega))) ?_
       refine st_val (ro_add64 rfl rfl (by omega)) ?_
       refine st_val (ro_add64 rfl rfl (by omega)) ?_
       refine st_val (ro_assign (v := .int _ _) rfl) ?_
       refine st_nil ?_
       refine nx_block ?_
       refine nx_then ?_
       refine cd_region ?_
       refine st_val (ro_move (v := .int _ _) rfl) ?_
       refine st_val (ro_addN (b := 1) rfl rfl (by omega)) ?_
       refine st_val (ro_assign (v := .int _ _) rfl) ?_
       refine st_nil ?_
       refine nx_cut (k + 1) ⟨(int_eq (st_succ (by omega)).symm), rfl, trivial⟩ (by (iterate 28 refine agr_cons rfl ?_); exact agr_rfl) ⟨?_, ?_⟩
       · exact ⟨by omega, rfl⟩
       · omega
  · (try first | replace Q2 := bn_t Q2 | replace Q2 := bn_f Q2)
    (try first | replace Q2 := bx_t Q2 | replace Q2 := bx_f Q2 | replace Q2 := be_t Q2 | replace Q2 := be_f Q2 | replace Q2 := of_decide_eq_true Q2 | replace Q2 := of_decide_eq_false Q2)
    first
     | (exfalso; first | omega | contradiction | (cases Q2; done))
     | skip
       refine cd_exit ?_
       refine ex_then ?_
       refine ex_then ?_
       refine ex_block ?_
       refine nx_then ?_
       refine cd_seq ?_
       refine cd_region ?_
       refine st_val (ro_move (v := .int _ _) rfl) ?_
       refine st_val (ro_assign (v := .int _ _) rfl) ?_
       refine st_nil ?_
       refine nx_then ?_
       refine cd_ret ?_
       refine res1 (v := .int _ _) rfl rfl ?_
       obtain rfl : k = i := by omega
       exact ⟨rfl, rfl⟩
set_option maxRecDepth 100000 in
set_option maxHeartbeats 400000 in
theorem refWhere_rt (A : Option Addr) (c q : Nat) (a : Int) (L : List Int) (w : World) (hr : RowOf iV w A L) (hG : Gd L) (hq : q < L.length) (h1 : st L q ≤ a) (h2 : a < st L (q + 1)) :
    Rt Try.prog 17 [.slice A L.length c, .int .i64 a] w (fun v w' => v = .tuple #[.int .i64 (q : Nat), .int .i64 (a - st L q)] ∧ w = w') := by
  obtain ⟨ba, oa, rfl, hca⟩ := hr (by omega)
  have hGl := hG.len
  have hs4 := hG.st (k := q + 1) (by omega)
  have hs5 := hG.st (k := q) (by omega)
  refine enter (n := 24) Try.func17 rfl rfl rfl ?_
  refine cd_seq ?_
  refine cd_region ?_
  refine st_val (ro_assign (v := .int _ _) rfl) ?_
  refine st_val (ro_assign (v := .int _ _) rfl) ?_
  refine st_nil ?_
  refine nx_then ?_
  refine cd_seq ?_
  refine cd_region ?_
  refine st_val (ro_assign (v := .int _ _) rfl) ?_
  refine st_nil ?_
  refine nx_then ?_
  refine cd_seq ?_
  refine cd_block ?_
  refine cd_loop (G := Nat) [7, 8, 9, 10, 11, 12, 13, 14, 15, 16, 17, 18, 19, 20, 21] (fun i => [(1, .int .i64 (a - st L i)), (6, .int .i64 (i : Nat))]) (fun i w' => i ≤ q ∧ w = w') (fun i => q - i) (0) ⟨(int_eq (by simp [st])), rfl, trivial⟩ ?_ ?_
  · exact ⟨Nat.zero_le _, rfl⟩
  rintro i ρ1 w1 ⟨hi, rfl⟩
  have hs1 := hG.st (k := i) (by omega)
  have hs3 := st_succ (L := L) (i := i) (by omega)
  have hs6 := hG.st (k := i + 1) (by omega)
  refine cd_seq ?_
  refine cd_seq ?_
  refine cd_region ?_
  refine st_val (ro_move (v := .int _ _) rfl) ?_
  refine st_val (ro_move (v := .slice _ _ _) rfl) ?_
  refine st_val (ro_move (v := .int _ _) rfl) ?_
  refine st_val (ro_indexAddr1 BndHelp_e22 rfl rfl (by omega)) ?_
  refine st_val (ro_load BndHelp_g3 rfl (by exact hca i (by omega))) ?_
  refine st_val (ro_gtr rfl rfl) ?_
  refine st_nil ?_
  refine nx_then ?_
  refine cd_cond rfl (fun Q2 => ?_) (fun Q2 => ?_)
  · (try first | replace Q2 := bn_t Q2 | replace Q2 := bn_f Q2)
    (try first | replace Q2 := bx_t Q2 | replace Q2 := bx_f Q2 | replace Q2 := be_t Q2 | replace Q2 := be_f Q2 | replace Q2 := of_decide_eq_true Q2 | replace Q2 := of_decide_eq_false Q2)
    have hiq : i < q := by
      rcases Nat.lt_or_ge i q with x | x
      · exact x
      · obtain rfl : i = q := by omega
        omega
    first
     | (exfalso; first | omega | contradiction | (cases Q2; done))
     | skip
       refine cd_skip ?_
       refine nx_then ?_
       refine cd_block ?_
       refine cd_seq ?_
       refine cd_region ?_
       refine st_val (ro_move (v := .int _ _) rfl) ?_
       refine st_val (ro_move (v := .slice _ _ _) rfl) ?_
       refine st_val (ro_move (v := .int _ _) rfl) ?_
       refine st_val (ro_indexAddr1 BndHelp_e22 rfl rfl (by omega)) ?_
       refine st_val (ro_load BndHelp_g3 rfl (by exact hca i (by omega))) ?_
       refine st_val (ro_sub64 rfl rfl (by omega)) ?_
       refine st_val (ro_sub64 rfl rfl (by omega)) ?_
       refine st_val (ro_assign (v := .int _ _) rfl) ?_
       refine st_nil ?_
       refine nx_then ?_
       refine cd_region ?_
       refine st_val (ro_move (v := .int _ _) rfl) ?_
       refine st_val (ro_addN (b := 1) rfl rfl (by omega)) ?_
       refine st_val (ro_assign (v := .int _ _) rfl) ?_
       refine st_nil ?_
       refine nx_block ?_
       refine nx_cut (i + 1) ⟨(int_eq (by rw [st_succ (by omega)]; omega)), rfl, trivial⟩ (by (iterate 34 refine agr_cons rfl ?_); exact agr_rfl) ⟨?_, ?_⟩
       · exact ⟨by omega, rfl⟩
       · omega
  · (try first | replace Q2 := bn_t Q2 | replace Q2 := bn_f Q2)
    (try first | replace Q2 := bx_t Q2 | replace Q2 := bx_f Q2 | replace Q2 := be_t Q2 | replace Q2 := be_f Q2 | replace Q2 := of_decide_eq_true Q2 | replace Q2 := of_decide_eq_false Q2)
    obtain rfl : i = q := by
      rcases Nat.lt_or_ge i q with x | x
      · have := st_mono hG.pos (show i + 1 ≤ q by omega)
        omega
      · omega
    first
     | (exfalso; first | omega | contradiction | (cases Q2; done))
     | skip
       refine cd_exit ?_
       refine ex_then ?_
       refine ex_then ?_
       refine ex_block ?_
       refine nx_then ?_
       refine cd_seq ?_
       refine cd_region ?_
       refine st_val (ro_move (v := .int _ _) rfl) ?_
       refine st_val (ro_move (v := .int _ _) rfl) ?_
       refine st_val (ro_assign (v := .int _ _) rfl) ?_
       refine st_val (ro_assign (v := .int _ _) rfl) ?_
       refine st_nil ?_
       refine nx_then ?_
       refine cd_ret ?_
       refine res2 (v := .int _ _) (v' := .int _ _) rfl rfl rfl ?_
       exact ⟨rfl, rfl⟩
theorem wakes_gd : Gd [2, 0] := gd_of (by decide)
set_option maxRecDepth 100000 in
set_option maxHeartbeats 400000 in
theorem wakes_any (w : World) :
    Rt Try.prog 9 [] w (fun v w' => v = .bool true ∧ From w w') := by
  refine enter (n := 35) Try.func9 rfl rfl rfl ?_
  refine cd_seq ?_
  refine cd_region ?_
  refine st_val (ro_assign (v := .bool _) rfl) ?_
  refine st_nil ?_
  refine nx_then ?_
  refine cd_seq ?_
  refine cd_region ?_
  refine st_lits [.const (.int .i64 2), .const (.int .i64 0)] [.int .i64 2, .int .i64 0] BndHelp_q22 rfl rfl rfl rfl (by simp [Value.cells]) ?_
  intro b7 w1 E7 hb7 hk7
  refine st_call BndHelp_k18 (new_rt (some ⟨b7, 0, none⟩) 2 [2, 0] _ (RowOf.blk hk7 (fun i hi => by match i, hi with | 0, _ => rfl | 1, _ => rfl)) (by decide) (by decide)) ?_
  rintro v8 w2 ⟨hn8, E8⟩
  rcases hn8 with ⟨hne, _⟩ | ⟨_, b, rfl, hv⟩
  · exact absurd (lens0 wakes_gd) hne
  · refine st_val (ro_move (v := .tuple _) rfl) ?_
    refine st_val (ro_extract rfl rfl) ?_
    refine st_val (ro_extract rfl rfl) ?_
    refine st_val (ro_assign (v := .pointer _) rfl) ?_
    refine st_val (ro_assign (v := .int _ _) rfl) ?_
    refine st_nil ?_
    refine nx_then ?_
    refine cd_seq ?_
    refine cd_seq ?_
    refine cd_region ?_
    refine st_val (ro_move (v := .int _ _) rfl) ?_
    refine st_call BndHelp_k15 (num_any _ _) ?_
    rintro v12 w3 ⟨rfl, rfl⟩
    refine st_val (ro_neq rfl rfl) ?_
    refine st_val (ro_move (v := .bool _) rfl) ?_
    refine st_split (t := 14) rfl (fun Q4 => ?_) (fun Q4 => ?_)
    · (try first | replace Q4 := bn_t Q4 | replace Q4 := bn_f Q4)
      (try first | replace Q4 := bx_t Q4 | replace Q4 := bx_f Q4 | replace Q4 := be_t Q4 | replace Q4 := be_f Q4 | replace Q4 := of_decide_eq_true Q4 | replace Q4 := of_decide_eq_false Q4)
      first
       | (exfalso; first | omega | contradiction | (cases Q4; done))
       | skip
         refine st_gno rfl rfl ?_
         refine st_gno rfl rfl ?_
         refine st_val (ro_pickT (v := .bool _) rfl rfl) ?_
         refine st_nil ?_
         refine nx_then ?_
         refine cd_condT rfl ?_
         refine cd_seq ?_
         refine cd_region ?_
         refine st_val (ro_assign (v := .bool _) rfl) ?_
         refine st_nil ?_
         refine nx_then ?_
         refine cd_ret ?_
         refine rt_then ?_
         refine res1 (v := .bool _) rfl rfl ?_
         exact ⟨rfl, ((From.rfl_.next E7).next E8)⟩
    · (try first | replace Q4 := bn_t Q4 | replace Q4 := bn_f Q4)
      (try first | replace Q4 := bx_t Q4 | replace Q4 := bx_f Q4 | replace Q4 := be_t Q4 | replace Q4 := be_f Q4 | replace Q4 := of_decide_eq_true Q4 | replace Q4 := of_decide_eq_false Q4)
      first
       | (exfalso; first | omega | contradiction | (cases Q4; done))
       | skip
         refine st_unguard rfl ?_
         refine st_val (ro_move (v := .pointer _) rfl) ?_
         refine st_unguard rfl ?_
         refine st_val (ro_eqlNil BndHelp_p26 rfl rfl) ?_
         refine st_val (ro_pickF (v := .bool _) rfl rfl) ?_
         refine st_nil ?_
         refine nx_then ?_
         refine cd_cond rfl (fun Q5 => ?_) (fun Q5 => ?_)
         · (try first | replace Q5 := bn_t Q5 | replace Q5 := bn_f Q5)
           (try first | replace Q5 := bx_t Q5 | replace Q5 := bx_f Q5 | replace Q5 := be_t Q5 | replace Q5 := be_f Q5 | replace Q5 := of_decide_eq_true Q5 | replace Q5 := of_decide_eq_false Q5)
           first
            | (exfalso; first | omega | contradiction | (cases Q5; done))
            | skip
              refine cd_seq ?_
              refine cd_region ?_
              refine st_val (ro_assign (v := .bool _) rfl) ?_
              refine st_nil ?_
              refine nx_then ?_
              refine cd_ret ?_
              refine rt_then ?_
              refine res1 (v := .bool _) rfl rfl ?_
              exact ⟨rfl, ((From.rfl_.next E7).next E8)⟩
         · (try first | replace Q5 := bn_t Q5 | replace Q5 := bn_f Q5)
           (try first | replace Q5 := bx_t Q5 | replace Q5 := bx_f Q5 | replace Q5 := be_t Q5 | replace Q5 := be_f Q5 | replace Q5 := of_decide_eq_true Q5 | replace Q5 := of_decide_eq_false Q5)
           first
            | (exfalso; first | omega | contradiction | (cases Q5; done))
            | skip
              refine cd_skip ?_
              refine nx_then ?_
              refine cd_seq ?_
              refine cd_region ?_
              refine st_val (ro_move (v := .pointer _) rfl) ?_
              refine st_call BndHelp_k16 (where_is _ b [2, 0] _ (hv.from_ From.rfl_) 3 1 (by decide) (by decide) (by decide)) ?_
              rintro v20 w6 ⟨rfl, E20⟩
              refine st_val (ro_move (v := .tuple _) rfl) ?_
              refine st_val (ro_extract rfl rfl) ?_
              refine st_val (ro_extract rfl rfl) ?_
              refine st_spell (t := 22) (v := .int _ _) (v' := .int .i64 0) rfl (by rfl) ?_
              refine st_val (ro_extract rfl rfl) ?_
              refine st_val (ro_assign (v := .int _ _) rfl) ?_
              refine st_val (ro_assign (v := .int _ _) rfl) ?_
              refine st_val (ro_assign (v := .int _ _) rfl) ?_
              refine st_nil ?_
              refine nx_then ?_
              refine cd_seq ?_
              refine cd_region ?_
              refine st_val (ro_move (v := .int _ _) rfl) ?_
              refine st_call BndHelp_k15 (num_any _ _) ?_
              rintro v25 w7 ⟨rfl, rfl⟩
              refine st_val (ro_eql rfl rfl) ?_
              refine st_val (ro_move (v := .bool _) rfl) ?_
              refine st_split (t := 27) rfl (fun Q8 => ?_) (fun Q8 => ?_)
              · (try first | replace Q8 := bn_t Q8 | replace Q8 := bn_f Q8)
                (try first | replace Q8 := bx_t Q8 | replace Q8 := bx_f Q8 | replace Q8 := be_t Q8 | replace Q8 := be_f Q8 | replace Q8 := of_decide_eq_true Q8 | replace Q8 := of_decide_eq_false Q8)
                first
                 | (exfalso; first | omega | contradiction | (cases Q8; done))
                 | skip
                   refine st_unguard rfl ?_
                   refine st_val (ro_move (v := .int _ _) rfl) ?_
                   refine st_unguard rfl ?_
                   refine st_val (ro_eql rfl rfl) ?_
                   refine st_val (ro_pickT (v := .bool _) rfl rfl) ?_
                   refine st_val (ro_move (v := .bool _) rfl) ?_
                   refine st_split (t := 31) rfl (fun Q9 => ?_) (fun Q9 => ?_)
                   · (try first | replace Q9 := bn_t Q9 | replace Q9 := bn_f Q9)
                     (try first | replace Q9 := bx_t Q9 | replace Q9 := bx_f Q9 | replace Q9 := be_t Q9 | replace Q9 := be_f Q9 | replace Q9 := of_decide_eq_true Q9 | replace Q9 := of_decide_eq_false Q9)
                     first
                      | (exfalso; first | omega | contradiction | (cases Q9; done))
                      | skip
                        refine st_unguard rfl ?_
                        refine st_val (ro_move (v := .int _ _) rfl) ?_
                        refine st_unguard rfl ?_
                        refine st_val (ro_eql rfl rfl) ?_
                        refine st_val (ro_pickT (v := .bool _) rfl rfl) ?_
                        refine st_val (ro_assign (v := .bool _) rfl) ?_
                        refine st_nil ?_
                        refine nx_then ?_
                        refine cd_ret ?_
                        refine res1 (v := .bool _) rfl rfl ?_
                        exact ⟨rfl, (((From.rfl_.next E7).next E8).next E20)⟩
                   · (try first | replace Q9 := bn_t Q9 | replace Q9 := bn_f Q9)
                     (try first | replace Q9 := bx_t Q9 | replace Q9 := bx_f Q9 | replace Q9 := be_t Q9 | replace Q9 := be_f Q9 | replace Q9 := of_decide_eq_true Q9 | replace Q9 := of_decide_eq_false Q9)
                     first
                      | (exfalso; first | omega | contradiction | (cases Q9; done))
                      | skip
                        refine st_gno rfl rfl ?_
                        refine st_gno rfl rfl ?_
                        refine st_val (ro_pickF (v := .bool _) rfl rfl) ?_
                        refine st_val (ro_assign (v := .bool _) rfl) ?_
                        refine st_nil ?_
                        refine nx_then ?_
                        refine cd_ret ?_
                        refine res1 (v := .bool _) rfl rfl ?_
                        exact ⟨rfl, (((From.rfl_.next E7).next E8).next E20)⟩
              · (try first | replace Q8 := bn_t Q8 | replace Q8 := bn_f Q8)
                (try first | replace Q8 := bx_t Q8 | replace Q8 := bx_f Q8 | replace Q8 := be_t Q8 | replace Q8 := be_f Q8 | replace Q8 := of_decide_eq_true Q8 | replace Q8 := of_decide_eq_false Q8)
                first
                 | (exfalso; first | omega | contradiction | (cases Q8; done))
                 | skip
                   refine st_gno rfl rfl ?_
                   refine st_gno rfl rfl ?_
                   refine st_val (ro_pickF (v := .bool _) rfl rfl) ?_
                   refine st_val (ro_move (v := .bool _) rfl) ?_
                   refine st_gno rfl rfl ?_
                   refine st_gno rfl rfl ?_
                   refine st_val (ro_pickF (v := .bool _) rfl rfl) ?_
                   refine st_val (ro_assign (v := .bool _) rfl) ?_
                   refine st_nil ?_
                   refine nx_then ?_
                   refine cd_ret ?_
                   refine res1 (v := .bool _) rfl rfl ?_
                   exact ⟨rfl, (((From.rfl_.next E7).next E8).next E20)⟩
set_option maxRecDepth 100000 in
set_option maxHeartbeats 400000 in
theorem made_rt (A B : Option Addr) (ca m cb : Nat) (L : List Int) (w : World) (hr : RowOf iV w A L) (hb64 : ∀ x ∈ L, -9223372036854775808 ≤ x ∧ x ≤ 9223372036854775807) (hl : L.length ≤ 200) :
    Rt Try.prog 8 [.agg #[.slice A L.length ca, .slice B m cb]] w (fun v w' => NewGot w w' L v ∧ From w w') := by
  refine enter (n := 34) Try.func8 rfl rfl rfl ?_
  refine cd_seq ?_
  refine cd_region ?_
  refine st_box (v := .agg _) rfl ?_
  intro b1 w1 E1 hb1 hk1
  refine st_val (ro_assign (v := .pointer _) rfl) ?_
  refine st_val (ro_assign (v := .int _ _) rfl) ?_
  refine st_nil ?_
  refine nx_then ?_
  refine cd_seq ?_
  refine cd_region ?_
  refine st_val (ro_fieldAddr BndHelp_f24_0 rfl) ?_
  refine st_val (ro_load BndHelp_g22 rfl (by exact (hk1.from_ From.rfl_).rd 0 rfl)) ?_
  have hB10 := (From.rfl_.next E1)
  have hl10 := (hk1.from_ From.rfl_).lt
  refine st_call BndHelp_k19 (copyNums_any A ca L _ (hr.from_ (From.rfl_.next E1)) (by omega)) ?_
  rintro v10 w2 ⟨A10, c10, rfl, ho10, E10⟩
  refine st_val (ro_assign (v := .slice _ _ _) rfl) ?_
  refine st_nil ?_
  refine nx_then ?_
  refine cd_seq ?_
  refine cd_region ?_
  refine st_val (ro_move (v := .slice _ _ _) rfl) ?_
  have hB13 := ((From.rfl_.next E1).next E10)
  refine st_call BndHelp_k18 (new_rt A10 c10 L _ (RowOf.own ho10).2 hb64 (by omega)) ?_
  rintro v13 w3 ⟨hn13, E13⟩
  replace hk1 := hk1.from_ ((From.rfl_.next E10).next E13)
  rcases hn13 with ⟨hne, rfl⟩ | ⟨hz, b, rfl, hv⟩
  · have hb29 : (lensE L != 0) = true := by simpa using hne
    refine st_val (ro_move (v := .tuple _) rfl) ?_
    refine st_val (ro_extract rfl rfl) ?_
    refine st_val (ro_extract rfl rfl) ?_
    refine st_val (ro_assign (v := .pointer _) rfl) ?_
    refine st_val (ro_assign (v := .int _ _) rfl) ?_
    refine st_nil ?_
    refine nx_then ?_
    refine cd_seq ?_
    refine cd_region ?_
    refine st_val (ro_move (v := .slice _ _ _) rfl) ?_
    refine st_call BndHelp_k20 (spoilNums_any _ A10 c10 L _ (ho10.kept_from E13) (by omega) (by have := E10.size; have := E13.size; omega)) ?_
    rintro v17 w4 hg17
    replace hk1 := hk1.grown hg17 (fun k hk => by have := own_at ho10 k hk; omega)
    (try replace hv := hv.grown hg17 (fun k hk => (own_at ho10 k hk).2))
    refine st_nil ?_
    refine nx_then ?_
    refine cd_seq ?_
    refine cd_region ?_
    refine st_val (ro_fieldAddr BndHelp_f24_0 rfl) ?_
    refine st_val (ro_load BndHelp_g22 rfl (by exact (hk1.from_ From.rfl_).rd 0 rfl)) ?_
    refine st_call BndHelp_k21 (refLens_rt A ca L _ (hr.from_ ((((From.rfl_.next E1).next E10).next E13).grew hg17 (fun k hk => Nat.le_trans hB10.size (own_at ho10 k hk).1))) hb64 (by omega)) ?_
    rintro v20 w5 ⟨rfl, rfl⟩
    refine st_val (ro_assign (v := .int _ _) rfl) ?_
    refine st_nil ?_
    refine nx_then ?_
    refine cd_seq ?_
    refine cd_seq ?_
    refine cd_region ?_
    refine st_val (ro_move (v := .int _ _) rfl) ?_
    refine st_call BndHelp_k15 (num_any _ _) ?_
    rintro v22 w6 ⟨rfl, rfl⟩
    refine st_val (ro_move (v := .int _ _) rfl) ?_
    refine st_val (ro_neq rfl rfl) ?_
    refine st_val (ro_move (v := .bool _) rfl) ?_
    refine st_split (t := 25) rfl (fun Q7 => ?_) (fun Q7 => ?_)
    · (try first | replace Q7 := bn_t Q7 | replace Q7 := bn_f Q7)
      (try first | replace Q7 := bx_t Q7 | replace Q7 := bx_f Q7 | replace Q7 := be_t Q7 | replace Q7 := be_f Q7 | replace Q7 := of_decide_eq_true Q7 | replace Q7 := of_decide_eq_false Q7)
      first
       | (exfalso; first | omega | (simp [hb29] at *; done) | contradiction | (cases Q7; done))
       | skip
         refine st_gno rfl rfl ?_
         refine st_gno rfl rfl ?_
         refine st_gno rfl rfl ?_
         refine st_gno rfl rfl ?_
         refine st_gno rfl rfl ?_
         refine st_val (ro_pickT (v := .bool _) rfl rfl) ?_
         refine st_nil ?_
         refine nx_then ?_
         refine cd_condT rfl ?_
         refine cd_seq ?_
         refine cd_region ?_
         refine st_val (ro_assign (v := .pointer _) rfl) ?_
         refine st_val (ro_assign (v := .int _ _) rfl) ?_
         refine st_nil ?_
         refine nx_then ?_
         refine cd_ret ?_
         refine rt_then ?_
         refine res2 (v := .pointer _) (v' := .int _ _) rfl rfl rfl ?_
         exfalso; simp_all
    · (try first | replace Q7 := bn_t Q7 | replace Q7 := bn_f Q7)
      (try first | replace Q7 := bx_t Q7 | replace Q7 := bx_f Q7 | replace Q7 := be_t Q7 | replace Q7 := be_f Q7 | replace Q7 := of_decide_eq_true Q7 | replace Q7 := of_decide_eq_false Q7)
      first
       | (exfalso; first | omega | (simp [hb29] at *; done) | contradiction | (cases Q7; done))
       | skip
         refine st_unguard rfl ?_
         refine st_val (ro_move (v := .pointer _) rfl) ?_
         refine st_unguard rfl ?_
         refine st_val (ro_eqlNil BndHelp_p26 rfl rfl) ?_
         refine st_unguard rfl ?_
         refine st_val (ro_move (v := .int _ _) rfl) ?_
         refine st_unguard rfl ?_
         refine st_val (ro_neq rfl rfl) ?_
         refine st_unguard rfl ?_
         refine st_val (ro_neqB (by kernel_rfl) rfl rfl) ?_
         refine st_val (ro_pickF (v := .bool _) rfl rfl) ?_
         refine st_nil ?_
         refine nx_then ?_
         refine cd_cond rfl (fun Q8 => ?_) (fun Q8 => ?_)
         · (try first | replace Q8 := bn_t Q8 | replace Q8 := bn_f Q8)
           (try first | replace Q8 := bx_t Q8 | replace Q8 := bx_f Q8 | replace Q8 := be_t Q8 | replace Q8 := be_f Q8 | replace Q8 := of_decide_eq_true Q8 | replace Q8 := of_decide_eq_false Q8)
           first
            | (exfalso; first | omega | (simp [hb29] at *; done) | contradiction | (cases Q8; done))
            | skip
              refine cd_seq ?_
              refine cd_region ?_
              refine st_val (ro_assign (v := .pointer _) rfl) ?_
              refine st_val (ro_assign (v := .int _ _) rfl) ?_
              refine st_nil ?_
              refine nx_then ?_
              refine cd_ret ?_
              refine rt_then ?_
              refine res2 (v := .pointer _) (v' := .int _ _) rfl rfl rfl ?_
              exfalso; simp_all
         · (try first | replace Q8 := bn_t Q8 | replace Q8 := bn_f Q8)
           (try first | replace Q8 := bx_t Q8 | replace Q8 := bx_f Q8 | replace Q8 := be_t Q8 | replace Q8 := be_f Q8 | replace Q8 := of_decide_eq_true Q8 | replace Q8 := of_decide_eq_false Q8)
           first
            | (exfalso; first | omega | (simp [hb29] at *; done) | contradiction | (cases Q8; done))
            | skip
              refine cd_skip ?_
              refine nx_then ?_
              refine cd_seq ?_
              refine cd_region ?_
              refine st_val (ro_move (v := .pointer _) rfl) ?_
              refine st_val (ro_move (v := .int _ _) rfl) ?_
              refine st_val (ro_assign (v := .pointer _) rfl) ?_
              refine st_val (ro_assign (v := .int _ _) rfl) ?_
              refine st_nil ?_
              refine nx_then ?_
              refine cd_ret ?_
              refine res2 (v := .pointer _) (v' := .int _ _) rfl rfl rfl ?_
              first
                | exact ⟨.inl ⟨hne, rfl⟩, ((((From.rfl_.next E1).next E10).next E13).grew hg17 (fun k hk => Nat.le_trans hB10.size (own_at ho10 k hk).1))⟩
                | exact ⟨.inr ⟨hz, b, by rw [hz], hv.le hB13.size⟩, ((((From.rfl_.next E1).next E10).next E13).grew hg17 (fun k hk => Nat.le_trans hB10.size (own_at ho10 k hk).1))⟩
  · have hb29 : (lensE L != 0) = false := by simpa using hz
    refine st_val (ro_move (v := .tuple _) rfl) ?_
    refine st_val (ro_extract rfl rfl) ?_
    refine st_val (ro_extract rfl rfl) ?_
    refine st_val (ro_assign (v := .pointer _) rfl) ?_
    refine st_val (ro_assign (v := .int _ _) rfl) ?_
    refine st_nil ?_
    refine nx_then ?_
    refine cd_seq ?_
    refine cd_region ?_
    refine st_val (ro_move (v := .slice _ _ _) rfl) ?_
    refine st_call BndHelp_k20 (spoilNums_any _ A10 c10 L _ (ho10.kept_from E13) (by omega) (by have := E10.size; have := E13.size; omega)) ?_
    rintro v17 w9 hg17
    replace hk1 := hk1.grown hg17 (fun k hk => by have := own_at ho10 k hk; omega)
    (try replace hv := hv.grown hg17 (fun k hk => (own_at ho10 k hk).2))
    refine st_nil ?_
    refine nx_then ?_
    refine cd_seq ?_
    refine cd_region ?_
    refine st_val (ro_fieldAddr BndHelp_f24_0 rfl) ?_
    refine st_val (ro_load BndHelp_g22 rfl (by exact (hk1.from_ From.rfl_).rd 0 rfl)) ?_
    refine st_call BndHelp_k21 (refLens_rt A ca L _ (hr.from_ ((((From.rfl_.next E1).next E10).next E13).grew hg17 (fun k hk => Nat.le_trans hB10.size (own_at ho10 k hk).1))) hb64 (by omega)) ?_
    rintro v20 w10 ⟨rfl, rfl⟩
    refine st_val (ro_assign (v := .int _ _) rfl) ?_
    refine st_nil ?_
    refine nx_then ?_
    refine cd_seq ?_
    refine cd_seq ?_
    refine cd_region ?_
    refine st_val (ro_move (v := .int _ _) rfl) ?_
    refine st_call BndHelp_k15 (num_any _ _) ?_
    rintro v22 w11 ⟨rfl, rfl⟩
    refine st_val (ro_move (v := .int _ _) rfl) ?_
    refine st_val (ro_neq rfl rfl) ?_
    refine st_val (ro_move (v := .bool _) rfl) ?_
    refine st_split (t := 25) rfl (fun Q12 => ?_) (fun Q12 => ?_)
    · (try first | replace Q12 := bn_t Q12 | replace Q12 := bn_f Q12)
      (try first | replace Q12 := bx_t Q12 | replace Q12 := bx_f Q12 | replace Q12 := be_t Q12 | replace Q12 := be_f Q12 | replace Q12 := of_decide_eq_true Q12 | replace Q12 := of_decide_eq_false Q12)
      first
       | (exfalso; first | omega | (simp [hb29] at *; done) | contradiction | (cases Q12; done))
       | skip
         refine st_gno rfl rfl ?_
         refine st_gno rfl rfl ?_
         refine st_gno rfl rfl ?_
         refine st_gno rfl rfl ?_
         refine st_gno rfl rfl ?_
         refine st_val (ro_pickT (v := .bool _) rfl rfl) ?_
         refine st_nil ?_
         refine nx_then ?_
         refine cd_condT rfl ?_
         refine cd_seq ?_
         refine cd_region ?_
         refine st_val (ro_assign (v := .pointer _) rfl) ?_
         refine st_val (ro_assign (v := .int _ _) rfl) ?_
         refine st_nil ?_
         refine nx_then ?_
         refine cd_ret ?_
         refine rt_then ?_
         refine res2 (v := .pointer _) (v' := .int _ _) rfl rfl rfl ?_
         exfalso; simp_all
    · (try first | replace Q12 := bn_t Q12 | replace Q12 := bn_f Q12)
      (try first | replace Q12 := bx_t Q12 | replace Q12 := bx_f Q12 | replace Q12 := be_t Q12 | replace Q12 := be_f Q12 | replace Q12 := of_decide_eq_true Q12 | replace Q12 := of_decide_eq_false Q12)
      first
       | (exfalso; first | omega | (simp [hb29] at *; done) | contradiction | (cases Q12; done))
       | skip
         refine st_unguard rfl ?_
         refine st_val (ro_move (v := .pointer _) rfl) ?_
         refine st_unguard rfl ?_
         refine st_val (ro_eqlNil BndHelp_p26 rfl rfl) ?_
         refine st_unguard rfl ?_
         refine st_val (ro_move (v := .int _ _) rfl) ?_
         refine st_unguard rfl ?_
         refine st_val (ro_neq rfl rfl) ?_
         refine st_unguard rfl ?_
         refine st_val (ro_neqB (by kernel_rfl) rfl rfl) ?_
         refine st_val (ro_pickF (v := .bool _) rfl rfl) ?_
         refine st_nil ?_
         refine nx_then ?_
         refine cd_cond rfl (fun Q13 => ?_) (fun Q13 => ?_)
         · (try first | replace Q13 := bn_t Q13 | replace Q13 := bn_f Q13)
           (try first | replace Q13 := bx_t Q13 | replace Q13 := bx_f Q13 | replace Q13 := be_t Q13 | replace Q13 := be_f Q13 | replace Q13 := of_decide_eq_true Q13 | replace Q13 := of_decide_eq_false Q13)
           first
            | (exfalso; first | omega | (simp [hb29] at *; done) | contradiction | (cases Q13; done))
            | skip
              refine cd_seq ?_
              refine cd_region ?_
              refine st_val (ro_assign (v := .pointer _) rfl) ?_
              refine st_val (ro_assign (v := .int _ _) rfl) ?_
              refine st_nil ?_
              refine nx_then ?_
              refine cd_ret ?_
              refine rt_then ?_
              refine res2 (v := .pointer _) (v' := .int _ _) rfl rfl rfl ?_
              exfalso; simp_all
         · (try first | replace Q13 := bn_t Q13 | replace Q13 := bn_f Q13)
           (try first | replace Q13 := bx_t Q13 | replace Q13 := bx_f Q13 | replace Q13 := be_t Q13 | replace Q13 := be_f Q13 | replace Q13 := of_decide_eq_true Q13 | replace Q13 := of_decide_eq_false Q13)
           first
            | (exfalso; first | omega | (simp [hb29] at *; done) | contradiction | (cases Q13; done))
            | skip
              refine cd_skip ?_
              refine nx_then ?_
              refine cd_seq ?_
              refine cd_region ?_
              refine st_val (ro_move (v := .pointer _) rfl) ?_
              refine st_val (ro_move (v := .int _ _) rfl) ?_
              refine st_val (ro_assign (v := .pointer _) rfl) ?_
              refine st_val (ro_assign (v := .int _ _) rfl) ?_
              refine st_nil ?_
              refine nx_then ?_
              refine cd_ret ?_
              refine res2 (v := .pointer _) (v' := .int _ _) rfl rfl rfl ?_
              first
                | exact ⟨.inl ⟨hne, rfl⟩, ((((From.rfl_.next E1).next E10).next E13).grew hg17 (fun k hk => Nat.le_trans hB10.size (own_at ho10 k hk).1))⟩
                | exact ⟨.inr ⟨hz, b, by rw [hz], hv.le hB13.size⟩, ((((From.rfl_.next E1).next E10).next E13).grew hg17 (fun k hk => Nat.le_trans hB10.size (own_at ho10 k hk).1))⟩
end Go.Proofs.Ytkmcdhllldlbgaa
