/- The law FmTree. -/
import Derived.Test.YtepdgbglaiimaaaDoorMgFmLawT5
import Derived.Test.YtepdgbglaiimaaaDoorMgFmLawT4
set_option maxRecDepth 100000
namespace Go.Proofs.YtepdgbglaiimaaaDoor
open Go.RowKit
open Go.ChangeShapes Go.WideShapes Go.ChangeAt
theorem WavSelW_f59_0 : fieldQ Tryd.prog 59 0 = some 0 := by kernel_rfl
theorem WavSelW_g57 : aggQ Tryd.prog 57 = some false := by kernel_rfl
theorem WavSelW_f59_1 : fieldQ Tryd.prog 59 1 = some 1 := by kernel_rfl
theorem WavSelW_g3 : aggQ Tryd.prog 3 = some false := by kernel_rfl
theorem WavSelW_k41 : callable Tryd.prog 41 = true := by kernel_rfl
theorem WavSelW_k42 : callable Tryd.prog 42 = true := by kernel_rfl
theorem WavSelW_g59 : aggQ Tryd.prog 59 = some true := by kernel_rfl
theorem WavSelW_z59 : sizeQ Tryd.prog 59 = some 3 := by kernel_rfl
theorem WavSelW_f56_0 : fieldQ Tryd.prog 56 0 = some 0 := by kernel_rfl
theorem WavSelW_g54 : aggQ Tryd.prog 54 = some false := by kernel_rfl
theorem WavSelW_l54 : (elemQ Tryd.prog 54).isSome = true := by kernel_rfl
theorem WavSelW_e54 : elemQ Tryd.prog 54 = some (59, 3) := by kernel_rfl
theorem WavSelW_o59 : zeroQ Tryd.prog 59 = some (.agg #[.pointer none, .int .i64 0, .int .i64 0]) := by kernel_rfl
theorem WavSelW_k27 : callable Tryd.prog 27 = true := by kernel_rfl
theorem WavSelW_k25 : callable Tryd.prog 25 = true := by kernel_rfl
theorem WavSelW_k26 : callable Tryd.prog 26 = true := by kernel_rfl
theorem WavSelW_f56_1 : fieldQ Tryd.prog 56 1 = some 1 := by kernel_rfl
theorem WavSelW_g22 : aggQ Tryd.prog 22 = some false := by kernel_rfl
theorem WavSelW_e22 : elemQ Tryd.prog 22 = some (3, 1) := by kernel_rfl
theorem WavSelW_k28 : callable Tryd.prog 28 = true := by kernel_rfl
theorem WavSelW_k29 : callable Tryd.prog 29 = true := by kernel_rfl
theorem down_le {s : Nat} {M : List Nat} {i : Nat} (h : i ≤ M.length) (b : Bool) : downN s M i b ≤ M.length := by
  unfold downN
  have h1 := zo_len s M
  have h2 := zo_len s (M.take i)
  rw [List.length_take] at h2
  have h3 : (onesL s (M.take i)).length ≤ (onesL s M).length := ((List.take_sublist i M).filter (bitN s)).length_le
  cases b <;> simp <;> omega
theorem path_le {n c q : Nat} {L : List Nat} (h : q ≤ L.length) : ∀ m, pathP n L c q m ≤ L.length
  | 0 => h
  | m + 1 => by
    have := down_le (s := n - 1 - m) (M := lvl n L m) (i := pathP n L c q m) (by rw [lvl_len]; exact path_le h m) (bitN (n - 1 - m) c)
    rwa [lvl_len] at this
/-- an occurrence on its way -/
theorem path_occ {n c q : Nat} {L : List Nat} (hq : q < L.length) (hc : L[q] = c) (m : Nat) : ∃ h : pathP n L c q m < (lvl n L m).length, (lvl n L m)[pathP n L c q m] = c := by
  have hX : L = L.take q ++ [c] ++ L.drop (q + 1) := by rw [← hc]; simp
  obtain ⟨X', Z', h1, h2⟩ := path_elem (n := n) hX m
  rw [List.length_take, Nat.min_eq_left (Nat.le_of_lt hq)] at h2
  refine ⟨by rw [h1, ← h2]; simp, ?_⟩
  simp only [h1, ← h2]
  simp
theorem bt_map {s p : Nat} {M : List Nat} (hp : p < M.length) : bt (M.map (bitN s)) p = bitN s M[p] := by
  unfold bt
  rw [List.getD_eq_getElem?_getD, List.getElem?_map, List.getElem?_eq_getElem hp]
  rfl
set_option maxHeartbeats 400000 in
theorem up_l (base v z s p : Nat) (M : List Nat) (w : World) (hv : Vec w base v (M.map (bitN s))) (hp : p < M.length) (hz : z = (zerosL s M).length) (hM : M.length ≤ 131072) (hT : TZ w) (b : Bool) (hb : bitN s M[p] = b) :
    Rt Tryd.prog 29 [.agg (lvlV v z s).toArray, .int .i64 (downN s M p b : Nat), .bool b] w (fun v w' => v = .int .i64 (p : Nat) ∧ From w w') := by
  have hpl : p < (M.map (bitN s)).length := by rw [List.length_map]; exact hp
  have hbt := (bt_map (s := s) hp).trans hb
  refine enter (n := 27) Tryd.func29 rfl rfl rfl ?_
  refine cd_seq (cd_region ?_)
  refine st_box (v := .agg _) rfl ?_
  intro b3 w1 E3 hb3 hk3
  refine asi rfl ?_
  refine st_nil (nx_then (cd_seq (cd_region ?_)))
  refine asi rfl ?_
  refine st_nil (nx_then (cd_seq (cd_seq (cd_region ?_))))
  refine mvb rfl ?_
  refine st_nil (nx_then ?_)
  refine cd_cond rfl (fun Q2 => ?_) (fun Q2 => ?_)
  · (try first | (replace Q2 := bn_t Q2; trace "@MK N up_l:c8+ 1.1") | (replace Q2 := bn_f Q2; trace "@MK N up_l:c8+ 1.2"))
    (try first | (replace Q2 := bx_t Q2; trace "@MK N up_l:c8+ 2.1") | (replace Q2 := bx_f Q2; trace "@MK N up_l:c8+ 2.2") | (replace Q2 := be_t Q2; trace "@MK N up_l:c8+ 2.3") | (replace Q2 := be_f Q2; trace "@MK N up_l:c8+ 2.4") | (replace Q2 := of_decide_eq_true Q2; trace "@MK N up_l:c8+ 2.5") | (replace Q2 := of_decide_eq_false Q2; trace "@MK N up_l:c8+ 2.6"))
    obtain rfl : b = true := by simpa using Q2
    rw [up_ones (Nat.le_of_lt hp)]
    have hrl := rk_le (M.map (bitN s)) p
    subst hz
    refine cd_region ?_
    refine st_val (ro_fieldAddr WavSelW_f59_0 rfl) ?_
    refine st_val (ro_load WavSelW_g57 rfl (by exact (hk3.from_ From.rfl_).rd 0 rfl)) ?_
    refine mvi rfl ?_
    refine st_val (ro_fieldAddr WavSelW_f59_1 rfl) ?_
    refine st_val (ro_load WavSelW_g3 rfl (by exact (hk3.from_ From.rfl_).rd 1 rfl)) ?_
    refine st_val (ro_subN rfl rfl (by have := zo_len s M; omega)) ?_
    refine st_spell (t := 15) (v := .int _ _) (v' := .int .i64 ((rk (M.map (bitN s)) p : Nat) : Int)) rfl (by rw [Nat.add_sub_cancel_left]) ?_
    refine st_call WavSelW_k41 (sel1_is base v p _ _ (hv.from_ (From.rfl_.next E3)) (hT.from_ (From.rfl_.next E3)) hpl hbt) ?_
    rintro v16 w3 ⟨rfl, E16⟩
    refine mvt rfl ?_
    refine st_val (ro_extract rfl rfl) ?_
    refine st_val (ro_extract rfl rfl) ?_
    refine asi rfl ?_
    refine st_nil (nx_then (cd_seq (cd_region ?_)))
    refine mvi rfl ?_
    refine asi rfl ?_
    refine st_nil (nx_then (cd_ret ?_))
    refine res1 (v := .int _ _) rfl rfl ?_
    exact ⟨rfl, ((From.rfl_.next E3).next E16)⟩
  (try first | (replace Q2 := bn_t Q2; trace "@MK N up_l:c8- 1.1") | (replace Q2 := bn_f Q2; trace "@MK N up_l:c8- 1.2"))
  (try first | (replace Q2 := bx_t Q2; trace "@MK N up_l:c8- 2.1") | (replace Q2 := bx_f Q2; trace "@MK N up_l:c8- 2.2") | (replace Q2 := be_t Q2; trace "@MK N up_l:c8- 2.3") | (replace Q2 := be_f Q2; trace "@MK N up_l:c8- 2.4") | (replace Q2 := of_decide_eq_true Q2; trace "@MK N up_l:c8- 2.5") | (replace Q2 := of_decide_eq_false Q2; trace "@MK N up_l:c8- 2.6"))
  obtain rfl : b = false := by simpa using Q2
  rw [up_zeros (Nat.le_of_lt hp)]
  subst hz
  refine cd_region ?_
  refine st_val (ro_fieldAddr WavSelW_f59_0 rfl) ?_
  refine st_val (ro_load WavSelW_g57 rfl (by exact (hk3.from_ From.rfl_).rd 0 rfl)) ?_
  refine mvi rfl ?_
  refine st_call WavSelW_k42 (sel0_is base v p _ _ (hv.from_ (From.rfl_.next E3)) (hT.from_ (From.rfl_.next E3)) hpl hbt) ?_
  rintro v23 w4 ⟨rfl, E23⟩
  refine mvt rfl ?_
  refine st_val (ro_extract rfl rfl) ?_
  refine st_val (ro_extract rfl rfl) ?_
  refine asi rfl ?_
  refine st_nil (nx_then (cd_seq (cd_region ?_)))
  refine mvi rfl ?_
  refine asi rfl ?_
  refine st_nil (nx_then (cd_ret ?_))
  refine res1 (v := .int _ _) rfl rfl ?_
  exact ⟨rfl, ((From.rfl_.next E3).next E23)⟩
set_option maxHeartbeats 400000 in
theorem firstT (base b K : Nat) (L : List Nat) (w : World) (ht : TreeAt w base b K L) (cc : Nat) (hc : cc < 1024) :
    Rt Tryd.prog 28 [.pointer (some ⟨b, 0, none⟩), .int .i64 (cc : Nat)] w (fun v w' => v = .int .i64 (pathP (nlv K) L cc 0 (nlv K) : Nat) ∧ From w w') := by
  obtain ⟨hb0, AT, cT, g, vs, hT, ho, hVs, hg0, hg2, hK1, hK2, hlt, hLl⟩ := ht
  refine enter (n := 25) Tryd.func28 rfl rfl rfl ?_
  refine cd_seq (cd_region ?_)
  refine asi rfl ?_
  refine st_nil (nx_then (cd_seq (cd_region ?_)))
  refine asi rfl ?_
  refine st_nil (nx_then (cd_seq (cd_seq (cd_region ?_))))
  refine mvp rfl ?_
  refine st_val (ro_nilCheck rfl) ?_
  refine st_val (ro_fieldAddr WavSelW_f56_0 rfl) ?_
  refine st_val (ro_load WavSelW_g54 rfl (by exact hT.rd 0 rfl)) ?_
  refine st_val (ro_len WavSelW_l54 rfl) ?_
  refine mvi rfl ?_
  refine st_nil (nx_then (cd_block ?_))
  refine cd_loop (G := Nat) [7, 14, 15, 16, 17, 18, 19, 20, 21, 22, 23] (fun j => [(5, .int .i64 (pathP (nlv K) L cc 0 j : Nat)), (13, .int .i64 (j : Nat))]) (fun j w' => j ≤ nlv K ∧ From w w') (fun j => nlv K - j) (0) ⟨rfl, rfl, trivial⟩ ?_ ?_
  · exact ⟨Nat.zero_le _, From.rfl_⟩
  rintro j ρ1 w1 ⟨hj, hB⟩
  refine cd_seq (cd_region ?_)
  refine st_val (ro_lss rfl rfl) ?_
  refine st_nil (nx_then (cd_seq ?_))
  refine cd_cond rfl (fun Q2 => ?_) (fun Q2 => ?_)
  · replace Q2 := of_decide_eq_true Q2
    have hjn : j < nlv K := by omega
    obtain ⟨gA, rfl, hlv⟩ := lvls_own ho (by omega)
    refine cd_skip (nx_then (cd_seq (cd_block (cd_seq (cd_region ?_)))))
    refine st_val (ro_indexAddr WavSelW_e54 rfl rfl (by omega)) ?_
    refine st_val (ro_loadA (cs := [_, _, _]) WavSelW_g59 WavSelW_z59 rfl (by rw [ix3]; exact rangeF hB (hlv j hjn))) ?_
    refine st_alloc WavSelW_o59 ?_
    intro b7 w3 E7 hb7 hk7
    refine st_putW (vs := [_, _, _]) WavSelW_z59 rfl rfl (by simp [Value.oneCell']) (hk7) rfl ?_
    intro w4 O4 P4
    refine st_nil (nx_then ?_)
    apply cd_drawnD 7 [(17, eqp (.agg (lvlV (vs j) (zerosL (nlv K - 1 - j) (lvl (nlv K) L j)).length (nlv K - 1 - j)).toArray)), (18, eqp _), (19, eqp (.agg (lvlV (vs j) (zerosL (nlv K - 1 - j) (lvl (nlv K) L j)).length (nlv K - 1 - j)).toArray)), (20, eqp _), (21, eqp _), (22, eqp _), (5, eqp _)] (by repeat first | exact pq_body | refine pq_then ?_ | refine pq_block ?_) (by kernel_rfl) (by kernel_rfl) ⟨eqp_mono _, eqp_mono _, eqp_mono _, eqp_mono _, eqp_mono _, eqp_mono _, eqp_mono _, trivial⟩
    case hop =>
     refine ⟨?_, ?_⟩
     · rintro - w6 D6
       show OpOK _ _ _ _ _ _ _
       exact ok_pure (ro_loadA (cs := (lvlV (vs j) (zerosL (nlv K - 1 - j) (lvl (nlv K) L j)).length (nlv K - 1 - j))) WavSelW_g59 WavSelW_z59 rfl ((P4.from_ (From.rfl_.next D6)).whole)) rfl
     refine ⟨?_, ?_⟩
     · rintro - w7 D7
       show OpOK _ _ _ _ _ _ _
       exact ok_pure (ro_move (v := .int _ _) rfl) rfl
     refine ⟨?_, ?_⟩
     · rintro - w8 D8
       show OpOK _ _ _ _ _ _ _
       exact ok_pure (ro_loadA (cs := (lvlV (vs j) (zerosL (nlv K - 1 - j) (lvl (nlv K) L j)).length (nlv K - 1 - j))) WavSelW_g59 WavSelW_z59 rfl ((P4.from_ (From.rfl_.next D8)).whole)) rfl
     refine ⟨?_, ?_⟩
     · rintro - w9 D9
       show OpOK _ _ _ _ _ _ _
       exact ok_pure (ro_move (v := .int _ _) rfl) rfl
     refine ⟨?_, ?_⟩
     · rintro - w10 D10
       rintro v10_19 rfl _ rfl
       show OpOK _ _ _ _ _ _ _
       refine ok_call WavSelW_k27 ((one_l (vs j) _ (nlv K - 1 - j) cc _ (by have := nlv_le hK2; omega) hc).mono ?_)
       rintro v _ ⟨rfl, E10'⟩; exact ⟨E10', rfl⟩
     refine ⟨?_, ?_⟩
     · rintro - w11 D11
       rintro v11_17 rfl _ rfl _ rfl
       show OpOK _ _ _ _ _ _ _
       refine ok_call WavSelW_k25 ((down_l base (vs j) _ (nlv K - 1 - j) (pathP (nlv K) L cc 0 j) (lvl (nlv K) L j) _ ((hVs j hjn).from_ (((hB.next E7).only O4 (by rw [hb7]; exact hB.size)).next D11)) (by rw [lvl_len]; exact path_le (Nat.zero_le _) j) rfl (by rw [lvl_len]; exact hLl) (bitN (nlv K - 1 - j) cc)).mono ?_)
       rintro v _ ⟨rfl, E11'⟩; exact ⟨E11', rfl⟩
     refine ⟨?_, ?_⟩
     · rintro - w12 D12
       rintro _ rfl
       show OpOK _ _ _ _ _ _ _
       exact ok_pure (ro_assign (v := .int _ _) rfl) rfl
     exact trivial
    case hend =>
     intro w13 D13
     rintro v17 rfl _ rfl v19 rfl _ rfl _ rfl _ rfl _ rfl
     show St _ _ _ _ _ _ _
     refine st_nil (nx_block (nx_then (cd_region ?_)))
     refine st_val (ro_addN (b := 1) rfl rfl (by have := nlv_le hK2; omega)) ?_
     refine mvi rfl ?_
     refine st_nil ?_
     refine nx_cut (j + 1) ⟨(by first | rfl | (refine int_eq ?_; omega)), (by first | rfl | (refine int_eq ?_; omega)), trivial⟩ (by (iterate 26 refine agr_cons rfl ?_); exact agr_rfl) ⟨?_, ?_⟩
     · exact ⟨by omega, (((hB.next E7).only O4 (by rw [hb7]; exact hB.size)).next D13)⟩
     · omega
  replace Q2 := of_decide_eq_false Q2
  refine cd_exit ?_
  refine ex_then (ex_then (ex_block (nx_then (cd_seq (cd_region ?_)))))
  refine mvi rfl ?_
  refine asi rfl ?_
  refine st_nil (nx_then (cd_ret ?_))
  refine res1 (v := .int _ _) rfl rfl ?_
  obtain rfl : j = nlv K := by omega
  exact ⟨rfl, hB⟩
def slE (K : Nat) (L : List Nat) (c j : Int) : Int := if 0 ≤ c ∧ c < K then selE (cb L c.toNat) false j else 1
def slV (K : Nat) (L : List Nat) (c j : Int) : Int := if 0 ≤ c ∧ c < K then selP (cb L c.toNat) false j else 0
set_option maxHeartbeats 400000 in
theorem selectT (base b K : Nat) (L : List Nat) (w : World) (ht : TreeAt w base b K L) (hTZ : TZ w) (c i : Int) :
    Rt Tryd.prog 12 [.pointer (some ⟨b, 0, none⟩), .int .i64 c, .int .i64 i] w (fun v w' => v = .tuple #[.int .i64 (slV K L c i), .int .i64 (slE K L c i)] ∧ From w w') := by
  have htt := ht
  obtain ⟨hb0, AT, cT, g, vs, hT, ho, hVs, hg0, hg2, hK1, hK2, hlt, hLl⟩ := ht
  refine enter (n := 70) Tryd.func12 rfl rfl rfl ?_
  refine cd_seq (cd_region ?_)
  refine asi rfl ?_
  refine asi rfl ?_
  refine st_nil (nx_then (cd_seq (cd_seq (cd_region ?_))))
  refine mvp rfl ?_
  refine mvi rfl ?_
  refine st_call WavSelW_k26 (knownT base b K L _ htt c) ?_
  rintro v12 w1 ⟨rfl, rfl⟩
  refine st_val (ro_not rfl) ?_
  refine st_nil (nx_then ?_)
  refine cd_cond rfl (fun Q2 => ?_) (fun Q2 => ?_)
  · replace Q2 := bn_t Q2; replace Q2 := of_decide_eq_false Q2
    have hkn : ¬ (0 ≤ c ∧ c < (K : Nat)) := by simpa using Q2
    refine cd_seq (cd_region ?_)
    refine asi rfl ?_
    refine asi rfl ?_
    refine st_nil (nx_then (cd_ret (rt_then ?_)))
    refine res2 (v := .int _ _) (v' := .int _ _) rfl rfl rfl ?_
    refine ⟨?_, From.rfl_⟩
    unfold slV slE
    rw [if_neg hkn, if_neg hkn]
  replace Q2 := bn_f Q2; replace Q2 := of_decide_eq_true Q2
  have hkn : 0 ≤ c ∧ c < (K : Nat) := by simpa using Q2
  obtain ⟨cc, rfl⟩ : ∃ cc : Nat, c = (cc : Int) := ⟨c.toNat, by omega⟩
  have hcd := cnt_diff (L := L) (c := cc)
  have hcl : cntLt L (cc + 1) ≤ L.length := List.countP_le_length
  refine cd_skip (nx_then (cd_seq (cd_seq ?_)))
  rcases Int.lt_or_le i 0 with hneg | hpos
  · apply cd_drawnD 22 [(14, eqp _), (15, eqp _), (16, eqp _), (17, eqp _), (18, eqp _), (19, eqp _), (20, eqp _), (21, eqp _), (22, eqp _), (23, eqp _), (24, eqp _), (25, eqp _), (26, eqp _), (27, eqp _), (28, eqp _), (29, eqp _), (30, eqp _), (31, eqp _), (32, eqp _), (33, eqp _), (34, eqp _), (35, eqp _)] (by repeat first | exact pq_body | refine pq_then ?_ | refine pq_block ?_) (by kernel_rfl) (by kernel_rfl) ⟨eqp_mono _, eqp_mono _, eqp_mono _, eqp_mono _, eqp_mono _, eqp_mono _, eqp_mono _, eqp_mono _, eqp_mono _, eqp_mono _, eqp_mono _, eqp_mono _, eqp_mono _, eqp_mono _, eqp_mono _, eqp_mono _, eqp_mono _, eqp_mono _, eqp_mono _, eqp_mono _, eqp_mono _, eqp_mono _, trivial⟩
    case hop =>
     refine ⟨?_, ?_⟩
     · rintro - w4 D4
       show OpOK _ _ _ _ _ _ _
       exact ok_pure (ro_move (v := .int _ _) rfl) rfl
     refine ⟨?_, ?_⟩
     · rintro - w5 D5
       rintro _ rfl
       show OpOK _ _ _ _ _ _ _
       exact ok_pure (ro_bt (ro_lss rfl rfl) (decide_eq_true (by omega))) rfl
     refine ⟨?_, ?_⟩
     · rintro - w6 D6
       rintro _ rfl
       show OpOK _ _ _ _ _ _ _
       exact ok_pure (ro_move (v := .bool _) rfl) rfl
     refine ⟨?_, ?_⟩
     · rintro - w7 D7
       rintro _ rfl
       show OpOK _ _ _ _ _ _ _
       exact ok_gno rfl rfl rfl
     refine ⟨?_, ?_⟩
     · rintro - w8 D8
       rintro _ rfl
       show OpOK _ _ _ _ _ _ _
       exact ok_gno rfl rfl rfl
     refine ⟨?_, ?_⟩
     · rintro - w9 D9
       rintro _ rfl _ rfl
       show OpOK _ _ _ _ _ _ _
       exact ok_gno rfl rfl rfl
     refine ⟨?_, ?_⟩
     · rintro - w10 D10
       rintro _ rfl _ rfl
       show OpOK _ _ _ _ _ _ _
       exact ok_gno rfl rfl rfl
     refine ⟨?_, ?_⟩
     · rintro - w11 D11
       rintro _ rfl _ rfl
       show OpOK _ _ _ _ _ _ _
       exact ok_gno rfl rfl rfl
     refine ⟨?_, ?_⟩
     · rintro - w12 D12
       rintro _ rfl
       show OpOK _ _ _ _ _ _ _
       exact ok_gno rfl rfl rfl
     refine ⟨?_, ?_⟩
     · rintro - w13 D13
       rintro _ rfl _ rfl
       show OpOK _ _ _ _ _ _ _
       exact ok_gno rfl rfl rfl
     refine ⟨?_, ?_⟩
     · rintro - w14 D14
       rintro _ rfl _ rfl _ rfl
       show OpOK _ _ _ _ _ _ _
       exact ok_gno rfl rfl rfl
     refine ⟨?_, ?_⟩
     · rintro - w15 D15
       rintro _ rfl _ rfl
       show OpOK _ _ _ _ _ _ _
       exact ok_gno rfl rfl rfl
     refine ⟨?_, ?_⟩
     · rintro - w16 D16
       rintro _ rfl
       show OpOK _ _ _ _ _ _ _
       exact ok_gno rfl rfl rfl
     refine ⟨?_, ?_⟩
     · rintro - w17 D17
       rintro _ rfl _ rfl
       show OpOK _ _ _ _ _ _ _
       exact ok_gno rfl rfl rfl
     refine ⟨?_, ?_⟩
     · rintro - w18 D18
       rintro _ rfl _ rfl
       show OpOK _ _ _ _ _ _ _
       exact ok_gno rfl rfl rfl
     refine ⟨?_, ?_⟩
     · rintro - w19 D19
       rintro _ rfl _ rfl
       show OpOK _ _ _ _ _ _ _
       exact ok_gno rfl rfl rfl
     refine ⟨?_, ?_⟩
     · rintro - w20 D20
       rintro _ rfl
       show OpOK _ _ _ _ _ _ _
       exact ok_gno rfl rfl rfl
     refine ⟨?_, ?_⟩
     · rintro - w21 D21
       rintro _ rfl _ rfl _ rfl
       show OpOK _ _ _ _ _ _ _
       exact ok_gno rfl rfl rfl
     refine ⟨?_, ?_⟩
     · rintro - w22 D22
       rintro _ rfl _ rfl
       show OpOK _ _ _ _ _ _ _
       exact ok_gno rfl rfl rfl
     refine ⟨?_, ?_⟩
     · rintro - w23 D23
       rintro _ rfl _ rfl _ rfl
       show OpOK _ _ _ _ _ _ _
       exact ok_gno rfl rfl rfl
     refine ⟨?_, ?_⟩
     · rintro - w24 D24
       rintro _ rfl _ rfl _ rfl
       show OpOK _ _ _ _ _ _ _
       exact ok_gno rfl rfl rfl
     refine ⟨?_, ?_⟩
     · rintro - w25 D25
       rintro _ rfl _ rfl
       show OpOK _ _ _ _ _ _ _
       exact ok_pure (ro_pickT (v := .bool _) rfl rfl) rfl
     exact trivial
    case hend =>
     intro w26 D26
     rintro _ rfl _ rfl _ rfl _ rfl _ rfl _ rfl _ rfl _ rfl _ rfl _ rfl _ rfl _ rfl _ rfl _ rfl _ rfl _ rfl _ rfl _ rfl _ rfl _ rfl _ rfl _ rfl
     show St _ _ _ _ _ _ _
     refine st_nil (nx_then ?_)
     refine cd_condT rfl ?_
     refine cd_seq (cd_region ?_)
     refine asi rfl ?_
     refine asi rfl ?_
     refine st_nil (nx_then (cd_ret (rt_then ?_)))
     refine res2 (v := .int _ _) (v' := .int _ _) rfl rfl rfl ?_
     refine ⟨?_, (From.rfl_.next D26)⟩
     have ho2 := occ_out (L := L) (c := cc) (j := i) (by omega)
     unfold slV slE
     rw [if_pos hkn, if_pos hkn, Int.toNat_natCast, selP_no ho2]
     unfold selE
     rw [if_neg (by rw [ho2]; decide)]
  apply cd_drawnD 22 [(14, eqp _), (15, eqp _), (16, eqp _), (17, eqp _), (18, eqp _), (19, eqp _), (20, eqp _), (21, eqp (.slice (some ⟨g, 0, none⟩) (K + 1) (K + 1))), (22, eqp _), (23, eqp _), (24, eqp _), (25, eqp (nV (cntLt L (cc + 1)))), (26, eqp _), (27, eqp _), (28, eqp _), (29, eqp (.slice (some ⟨g, 0, none⟩) (K + 1) (K + 1))), (30, eqp _), (31, eqp _), (32, eqp (nV (cntLt L cc))), (33, eqp _), (34, eqp _), (35, eqp _)] (by repeat first | exact pq_body | refine pq_then ?_ | refine pq_block ?_) (by kernel_rfl) (by kernel_rfl) ⟨eqp_mono _, eqp_mono _, eqp_mono _, eqp_mono _, eqp_mono _, eqp_mono _, eqp_mono _, eqp_mono _, eqp_mono _, eqp_mono _, eqp_mono _, eqp_mono _, eqp_mono _, eqp_mono _, eqp_mono _, eqp_mono _, eqp_mono _, eqp_mono _, eqp_mono _, eqp_mono _, eqp_mono _, eqp_mono _, trivial⟩
  case hop =>
   refine ⟨?_, ?_⟩
   · rintro - w28 D28
     show OpOK _ _ _ _ _ _ _
     exact ok_pure (ro_move (v := .int _ _) rfl) rfl
   refine ⟨?_, ?_⟩
   · rintro - w29 D29
     rintro _ rfl
     show OpOK _ _ _ _ _ _ _
     exact ok_pure (ro_bf (ro_lss rfl rfl) (decide_eq_false (by omega))) rfl
   refine ⟨?_, ?_⟩
   · rintro - w30 D30
     rintro _ rfl
     show OpOK _ _ _ _ _ _ _
     exact ok_pure (ro_move (v := .bool _) rfl) rfl
   refine ⟨?_, ?_⟩
   · rintro - w31 D31
     rintro _ rfl
     show OpOK _ _ _ _ _ _ _
     exact ok_gpure rfl (ro_move (v := .int _ _) rfl) rfl
   refine ⟨?_, ?_⟩
   · rintro - w32 D32
     rintro _ rfl
     show OpOK _ _ _ _ _ _ _
     exact ok_gpure rfl (ro_move (v := .pointer _) rfl) rfl
   refine ⟨?_, ?_⟩
   · rintro - w33 D33
     rintro _ rfl _ rfl
     show OpOK _ _ _ _ _ _ _
     exact ok_gpure rfl (ro_nilCheck rfl) rfl
   refine ⟨?_, ?_⟩
   · rintro - w34 D34
     rintro _ rfl _ rfl
     show OpOK _ _ _ _ _ _ _
     exact ok_gpure rfl (ro_fieldAddr WavSelW_f56_1 rfl) rfl
   refine ⟨?_, ?_⟩
   · rintro - w35 D35
     rintro _ rfl _ rfl
     show OpOK _ _ _ _ _ _ _
     exact ok_gpure rfl (ro_load WavSelW_g22 rfl (by exact (hT.from_ D35).rd 1 rfl)) rfl
   refine ⟨?_, ?_⟩
   · rintro - w36 D36
     rintro _ rfl
     show OpOK _ _ _ _ _ _ _
     exact ok_gpure rfl (ro_move (v := .int _ _) rfl) rfl
   refine ⟨?_, ?_⟩
   · rintro - w37 D37
     rintro _ rfl _ rfl
     show OpOK _ _ _ _ _ _ _
     exact ok_gpure rfl (ro_addN (b := 1) rfl rfl (by omega)) rfl
   refine ⟨?_, ?_⟩
   · rintro - w38 D38
     rintro _ rfl v38_21 rfl _ rfl
     show OpOK _ _ _ _ _ _ _
     exact ok_gpure rfl (ro_indexAddr0 WavSelW_e22 rfl rfl (by omega)) rfl
   refine ⟨?_, ?_⟩
   · rintro - w39 D39
     rintro _ rfl _ rfl
     show OpOK _ _ _ _ _ _ _
     exact ok_gpure rfl (ro_load WavSelW_g3 rfl (by exact (hg2.from_ D39).rd (cc + 1) (tab_get (by omega)))) rfl
   refine ⟨?_, ?_⟩
   · rintro - w40 D40
     rintro _ rfl
     show OpOK _ _ _ _ _ _ _
     exact ok_gpure rfl (ro_move (v := .pointer _) rfl) rfl
   refine ⟨?_, ?_⟩
   · rintro - w41 D41
     rintro _ rfl _ rfl
     show OpOK _ _ _ _ _ _ _
     exact ok_gpure rfl (ro_nilCheck rfl) rfl
   refine ⟨?_, ?_⟩
   · rintro - w42 D42
     rintro _ rfl _ rfl
     show OpOK _ _ _ _ _ _ _
     exact ok_gpure rfl (ro_fieldAddr WavSelW_f56_1 rfl) rfl
   refine ⟨?_, ?_⟩
   · rintro - w43 D43
     rintro _ rfl _ rfl
     show OpOK _ _ _ _ _ _ _
     exact ok_gpure rfl (ro_load WavSelW_g22 rfl (by exact (hT.from_ D43).rd 1 rfl)) rfl
   refine ⟨?_, ?_⟩
   · rintro - w44 D44
     rintro _ rfl
     show OpOK _ _ _ _ _ _ _
     exact ok_gpure rfl (ro_move (v := .int _ _) rfl) rfl
   refine ⟨?_, ?_⟩
   · rintro - w45 D45
     rintro _ rfl v45_29 rfl _ rfl
     show OpOK _ _ _ _ _ _ _
     exact ok_gpure rfl (ro_indexAddr0 WavSelW_e22 rfl rfl (by omega)) rfl
   refine ⟨?_, ?_⟩
   · rintro - w46 D46
     rintro _ rfl _ rfl
     show OpOK _ _ _ _ _ _ _
     exact ok_gpure rfl (ro_load WavSelW_g3 rfl (by exact (hg2.from_ D46).rd cc (tab_get (by omega)))) rfl
   refine ⟨?_, ?_⟩
   · rintro - w47 D47
     rintro _ rfl v47_25 rfl v47_32 rfl
     show OpOK _ _ _ _ _ _ _
     exact ok_gpure rfl (ro_sub64 rfl rfl (by omega)) rfl
   refine ⟨?_, ?_⟩
   · rintro - w48 D48
     rintro _ rfl _ rfl _ rfl
     show OpOK _ _ _ _ _ _ _
     exact ok_gpure rfl (ro_geq rfl rfl) rfl
   refine ⟨?_, ?_⟩
   · rintro - w49 D49
     rintro _ rfl _ rfl
     show OpOK _ _ _ _ _ _ _
     exact ok_pure (ro_pickF (v := .bool _) rfl rfl) rfl
   exact trivial
  case hend =>
   intro w50 D50
   rintro _ rfl _ rfl _ rfl _ rfl _ rfl _ rfl _ rfl v21 rfl _ rfl _ rfl _ rfl v25 rfl _ rfl _ rfl _ rfl v29 rfl _ rfl _ rfl v32 rfl _ rfl _ rfl _ rfl
   show St _ _ _ _ _ _ _
   refine st_nil (nx_then ?_)
   refine cd_cond rfl (fun Q51 => ?_) (fun Q51 => ?_)
   · replace Q51 := of_decide_eq_true Q51
     refine cd_seq (cd_region ?_)
     refine asi rfl ?_
     refine asi rfl ?_
     refine st_nil (nx_then (cd_ret (rt_then ?_)))
     refine res2 (v := .int _ _) (v' := .int _ _) rfl rfl rfl ?_
     refine ⟨?_, (From.rfl_.next D50)⟩
     have ho2 := occ_out (L := L) (c := cc) (j := i) (by omega)
     unfold slV slE
     rw [if_pos hkn, if_pos hkn, Int.toNat_natCast, selP_no ho2]
     unfold selE
     rw [if_neg (by rw [ho2]; decide)]
   replace Q51 := of_decide_eq_false Q51
   obtain ⟨jj, rfl⟩ : ∃ jj : Nat, i = (jj : Int) := ⟨i.toNat, by omega⟩
   obtain ⟨q, hq, hqc, hqj, hqs, hqo⟩ := occ_at (L := L) (c := cc) (j := jj) (by omega)
   have hlt2 : ∀ x ∈ L, x < 2 ^ nlv K := fun x hx => Nat.lt_of_lt_of_le (hlt x hx) (nlv_lt hK1 hK2)
   have hcc2 : cc < 2 ^ nlv K := Nat.lt_of_lt_of_le (by omega) (nlv_lt hK1 hK2)
   have hp0 := path_le (n := nlv K) (c := cc) (L := L) (q := 0) (Nat.zero_le _) (nlv K)
   have hn9 := nlv_le hK2
   refine cd_skip (nx_then (cd_seq (cd_region ?_)))
   refine mvp rfl ?_
   refine mvi rfl ?_
   refine st_call WavSelW_k28 (firstT base b K L _ (htt.from_ (From.rfl_.next D50)) cc (by omega)) ?_
   rintro v38 w52 ⟨rfl, E38⟩
   refine mvi rfl ?_
   refine st_val (ro_add64 rfl rfl (by omega)) ?_
   refine asi rfl ?_
   refine st_nil (nx_then (cd_seq (cd_seq (cd_region ?_))))
   refine mvp rfl ?_
   refine st_val (ro_nilCheck rfl) ?_
   refine st_val (ro_fieldAddr WavSelW_f56_0 rfl) ?_
   refine st_val (ro_load WavSelW_g54 rfl (by exact (hT.from_ ((From.rfl_.next D50).next E38)).rd 0 rfl)) ?_
   refine st_val (ro_len WavSelW_l54 rfl) ?_
   refine st_val (ro_sub64 rfl rfl (by omega)) ?_
   refine asi rfl ?_
   refine st_nil (nx_then (cd_block ?_))
   refine cd_loop (G := Nat) [47, 48, 49, 50, 51, 52, 53, 54, 55, 56, 57, 58, 59, 60, 61, 62, 63, 64, 65, 66, 67, 68] (fun m => [(8, .int .i64 (pathP (nlv K) L cc q m : Nat)), (9, .int .i64 ((m : Int) - 1))]) (fun m w' => m ≤ nlv K ∧ From w w') (fun m => m) (nlv K) ⟨(int_eq (by rw [path_rank hlt2 hcc2 (Nat.le_of_lt hq), hqj]; omega)), rfl, trivial⟩ ?_ ?_
   · exact ⟨Nat.le_refl _, ((From.rfl_.next D50).next E38)⟩
   rintro m ρ53 w53 ⟨hm, hB⟩
   refine cd_seq (cd_seq (cd_region ?_))
   refine mvi rfl ?_
   refine st_val (ro_geq rfl rfl) ?_
   refine st_nil (nx_then ?_)
   refine cd_cond rfl (fun Q54 => ?_) (fun Q54 => ?_)
   · replace Q54 := of_decide_eq_true Q54
     obtain ⟨j, rfl⟩ : ∃ j, m = j + 1 := ⟨m - 1, by omega⟩
     have hjn : j < nlv K := by omega
     obtain ⟨gA, rfl, hlv⟩ := lvls_own ho (by omega)
     obtain ⟨hpj, hpe⟩ := path_occ (n := nlv K) hq hqc j
     refine cd_skip (nx_then (cd_seq (cd_block ?_)))
     apply cd_drawnD 19 [(51, eqp _), (52, eqp _), (53, eqp _), (54, eqp (.slice (some ⟨gA, 0, none⟩) (nlv K) cT)), (55, eqp _), (56, eqp _), (57, eqp (.agg (lvlV (vs j) (zerosL (nlv K - 1 - j) (lvl (nlv K) L j)).length (nlv K - 1 - j)).toArray)), (58, eqp _), (59, eqp _), (60, eqp _), (61, eqp _), (62, eqp (.slice (some ⟨gA, 0, none⟩) (nlv K) cT)), (63, eqp _), (64, eqp _), (65, eqp (.agg (lvlV (vs j) (zerosL (nlv K - 1 - j) (lvl (nlv K) L j)).length (nlv K - 1 - j)).toArray)), (66, eqp _), (67, eqp _), (68, eqp _), (8, eqp _)] (by repeat first | exact pq_body | refine pq_then ?_ | refine pq_block ?_) (by kernel_rfl) (by kernel_rfl) ⟨eqp_mono _, eqp_mono _, eqp_mono _, eqp_mono _, eqp_mono _, eqp_mono _, eqp_mono _, eqp_mono _, eqp_mono _, eqp_mono _, eqp_mono _, eqp_mono _, eqp_mono _, eqp_mono _, eqp_mono _, eqp_mono _, eqp_mono _, eqp_mono _, eqp_mono _, trivial⟩
     case hop =>
      refine ⟨?_, ?_⟩
      · rintro - w56 D56
        show OpOK _ _ _ _ _ _ _
        exact ok_pure (ro_move (v := .pointer _) rfl) rfl
      refine ⟨?_, ?_⟩
      · rintro - w57 D57
        rintro _ rfl
        show OpOK _ _ _ _ _ _ _
        exact ok_pure (ro_nilCheck rfl) rfl
      refine ⟨?_, ?_⟩
      · rintro - w58 D58
        rintro _ rfl
        show OpOK _ _ _ _ _ _ _
        exact ok_pure (ro_fieldAddr WavSelW_f56_0 rfl) rfl
      refine ⟨?_, ?_⟩
      · rintro - w59 D59
        rintro _ rfl
        show OpOK _ _ _ _ _ _ _
        exact ok_pure (ro_load WavSelW_g54 rfl (by exact (hT.from_ (hB.next D59)).rd 0 rfl)) rfl
      refine ⟨?_, ?_⟩
      · rintro - w60 D60
        show OpOK _ _ _ _ _ _ _
        exact ok_pure (ro_eq (v' := .int .i64 (j : Nat)) (ro_move (v := .int .i64 (((j + 1 : Nat) : Int) - 1)) rfl) (int_eq (by omega))) rfl
      refine ⟨?_, ?_⟩
      · rintro - w61 D61
        rintro v61_54 rfl _ rfl
        show OpOK _ _ _ _ _ _ _
        exact ok_pure (ro_indexAddr WavSelW_e54 rfl rfl (by omega)) rfl
      refine ⟨?_, ?_⟩
      · rintro - w62 D62
        rintro _ rfl
        show OpOK _ _ _ _ _ _ _
        exact ok_pure (ro_loadA (cs := (lvlV (vs j) (zerosL (nlv K - 1 - j) (lvl (nlv K) L j)).length (nlv K - 1 - j))) WavSelW_g59 WavSelW_z59 rfl (by rw [ix3]; exact rangeF (hB.next D62) (hlv j hjn))) rfl
      refine ⟨?_, ?_⟩
      · rintro - w63 D63
        show OpOK _ _ _ _ _ _ _
        exact ok_pure (ro_move (v := .int _ _) rfl) rfl
      refine ⟨?_, ?_⟩
      · rintro - w64 D64
        show OpOK _ _ _ _ _ _ _
        exact ok_pure (ro_move (v := .pointer _) rfl) rfl
      refine ⟨?_, ?_⟩
      · rintro - w65 D65
        rintro _ rfl
        show OpOK _ _ _ _ _ _ _
        exact ok_pure (ro_nilCheck rfl) rfl
      refine ⟨?_, ?_⟩
      · rintro - w66 D66
        rintro _ rfl
        show OpOK _ _ _ _ _ _ _
        exact ok_pure (ro_fieldAddr WavSelW_f56_0 rfl) rfl
      refine ⟨?_, ?_⟩
      · rintro - w67 D67
        rintro _ rfl
        show OpOK _ _ _ _ _ _ _
        exact ok_pure (ro_load WavSelW_g54 rfl (by exact (hT.from_ (hB.next D67)).rd 0 rfl)) rfl
      refine ⟨?_, ?_⟩
      · rintro - w68 D68
        show OpOK _ _ _ _ _ _ _
        exact ok_pure (ro_eq (v' := .int .i64 (j : Nat)) (ro_move (v := .int .i64 (((j + 1 : Nat) : Int) - 1)) rfl) (int_eq (by omega))) rfl
      refine ⟨?_, ?_⟩
      · rintro - w69 D69
        rintro v69_62 rfl _ rfl
        show OpOK _ _ _ _ _ _ _
        exact ok_pure (ro_indexAddr WavSelW_e54 rfl rfl (by omega)) rfl
      refine ⟨?_, ?_⟩
      · rintro - w70 D70
        rintro _ rfl
        show OpOK _ _ _ _ _ _ _
        exact ok_pure (ro_loadA (cs := (lvlV (vs j) (zerosL (nlv K - 1 - j) (lvl (nlv K) L j)).length (nlv K - 1 - j))) WavSelW_g59 WavSelW_z59 rfl (by rw [ix3]; exact rangeF (hB.next D70) (hlv j hjn))) rfl
      refine ⟨?_, ?_⟩
      · rintro - w71 D71
        show OpOK _ _ _ _ _ _ _
        exact ok_pure (ro_move (v := .int _ _) rfl) rfl
      refine ⟨?_, ?_⟩
      · rintro - w72 D72
        rintro v72_65 rfl _ rfl
        show OpOK _ _ _ _ _ _ _
        refine ok_call WavSelW_k27 ((one_l (vs j) _ (nlv K - 1 - j) cc _ (by have := nlv_le hK2; omega) (by omega)).mono ?_)
        rintro v _ ⟨rfl, E72'⟩; exact ⟨E72', rfl⟩
      refine ⟨?_, ?_⟩
      · rintro - w73 D73
        rintro v73_57 rfl _ rfl _ rfl
        show OpOK _ _ _ _ _ _ _
        refine ok_call WavSelW_k29 ((up_l base (vs j) _ (nlv K - 1 - j) (pathP (nlv K) L cc q j) (lvl (nlv K) L j) _ ((hVs j hjn).from_ (hB.next D73)) hpj rfl (by rw [lvl_len]; exact hLl) (hTZ.from_ (hB.next D73)) (bitN (nlv K - 1 - j) cc) (by rw [hpe])).mono ?_)
        rintro v _ ⟨rfl, E73'⟩; exact ⟨E73', rfl⟩
      refine ⟨?_, ?_⟩
      · rintro - w74 D74
        rintro _ rfl
        show OpOK _ _ _ _ _ _ _
        exact ok_pure (ro_assign (v := .int _ _) rfl) rfl
      exact trivial
     case hend =>
      intro w75 D75
      rintro _ rfl _ rfl _ rfl v54 rfl _ rfl _ rfl v57 rfl _ rfl _ rfl _ rfl _ rfl v62 rfl _ rfl _ rfl v65 rfl _ rfl _ rfl _ rfl _ rfl
      show St _ _ _ _ _ _ _
      refine st_nil (nx_block (nx_then (cd_region ?_)))
      refine mvi rfl ?_
      refine st_val (ro_sub64 rfl rfl (by omega)) ?_
      refine asi rfl ?_
      refine st_nil ?_
      refine nx_cut (j) ⟨rfl, (int_eq (by omega)), trivial⟩ (by (iterate 48 refine agr_cons rfl ?_); exact agr_rfl) ⟨?_, ?_⟩
      · exact ⟨by omega, (hB.next D75)⟩
      · show j < j + 1; omega
   replace Q54 := of_decide_eq_false Q54
   refine cd_exit ?_
   refine ex_then (ex_then (ex_block (nx_then (cd_seq (cd_region ?_)))))
   refine mvi rfl ?_
   refine asi rfl ?_
   refine asi rfl ?_
   refine st_nil (nx_then (cd_ret ?_))
   refine res2 (v := .int _ _) (v' := .int _ _) rfl rfl rfl ?_
   obtain rfl : m = 0 := by omega
   refine ⟨?_, hB⟩
   unfold slV slE
   rw [if_pos hkn, if_pos hkn, Int.toNat_natCast, hqs]
   unfold selE
   rw [if_pos hqo]
   rfl
end Go.Proofs.YtepdgbglaiimaaaDoor

namespace Go.Proofs.YtepdgbglaiimaaaDoor
open Go.RowKit
open Go.ChangeShapes Go.WideShapes Go.ChangeAt
open Go.Proofs.YtepdgbglaiimaaaDoor.SA
theorem FmLawT_e22 : elemQ Tryd.prog 22 = some (3, 1) := by kernel_rfl
theorem FmLawT_l22 : (elemQ Tryd.prog 22).isSome = true := by kernel_rfl
theorem FmLawT_g3 : aggQ Tryd.prog 3 = some false := by kernel_rfl
theorem FmLawT_g25 : aggQ Tryd.prog 25 = some true := by kernel_rfl
theorem FmLawT_z25 : sizeQ Tryd.prog 25 = some 4 := by kernel_rfl
theorem FmLawT_k4 : callable Tryd.prog 4 = true := by kernel_rfl
theorem FmLawT_k5 : callable Tryd.prog 5 = true := by kernel_rfl
theorem FmLawT_p27 : Tryd.prog.underlying 27 = some (.pointer (Tryd.prog.pointee 27)) := by kernel_rfl
theorem FmLawT_k6 : callable Tryd.prog 6 = true := by kernel_rfl
theorem FmLawT_f25_1 : fieldQ Tryd.prog 25 1 = some 1 := by kernel_rfl
theorem FmLawT_g22 : aggQ Tryd.prog 22 = some false := by kernel_rfl
theorem FmLawT_k7 : callable Tryd.prog 7 = true := by kernel_rfl
theorem FmLawT_f38_0 : fieldQ Tryd.prog 38 0 = some 0 := by kernel_rfl
theorem FmLawT_g34 : aggQ Tryd.prog 34 = some false := by kernel_rfl
theorem FmLawT_k8 : callable Tryd.prog 8 = true := by kernel_rfl
theorem FmLawT_k9 : callable Tryd.prog 9 = true := by kernel_rfl
theorem FmLawT_f25_0 : fieldQ Tryd.prog 25 0 = some 0 := by kernel_rfl
theorem FmLawT_k10 : callable Tryd.prog 10 = true := by kernel_rfl
theorem FmLawT_k11 : callable Tryd.prog 11 = true := by kernel_rfl
theorem FmLawT_k12 : callable Tryd.prog 12 = true := by kernel_rfl
theorem FmLawT_k13 : callable Tryd.prog 13 = true := by kernel_rfl
theorem FmLawT_k14 : callable Tryd.prog 14 = true := by kernel_rfl
theorem FmLawT_k15 : callable Tryd.prog 15 = true := by kernel_rfl
theorem FmLawT_k16 : callable Tryd.prog 16 = true := by kernel_rfl
section
variable (base b K : Nat) (B : List Nat) (w : World) (ht : TreeAt w base b K B)
include ht
theorem acc_n (i : Nat) (hi : i < B.length) : Rt Tryd.prog 10 [.pointer (some ⟨b, 0, none⟩), .int .i64 (i : Nat)] w fun v w' => v = .tuple #[.int .i64 ((B.getD i 0 : Nat) : Int), .int .i64 0] ∧ From w w' := by
  have h := accessT base b K B w ht (i : Nat)
  rw [aV_get hi, show aE B (i : Nat) = 0 by unfold aE; rw [if_pos (by omega)]] at h
  exact h
theorem rank_n2 (c i : Nat) (hc : c < K) (hi : i ≤ B.length) : Rt Tryd.prog 11 [.pointer (some ⟨b, 0, none⟩), .int .i64 (c : Nat), .int .i64 (i : Nat)] w fun v w' => v = .tuple #[.int .i64 ((occ (fun i => B.getD i 0) i c : Nat) : Int), .int .i64 0] ∧ From w w' := by
  have h := rankT base b K B w ht (c : Nat) (i : Nat)
  rw [kV_occ hc hi, show kE K B (c : Nat) (i : Nat) = 0 by unfold kE; rw [if_pos (by omega), if_pos (by omega)]] at h
  exact h
theorem less_n2 (c : Nat) (hc : c ≤ K) : Rt Tryd.prog 15 [.pointer (some ⟨b, 0, none⟩), .int .i64 (c : Nat)] w fun v w' => v = .tuple #[.int .i64 ((les B.length (fun i => B.getD i 0) c : Nat) : Int), .int .i64 0] ∧ w = w' := by
  have h := lessT base b K B w ht (c : Nat)
  rw [sV_les hc, show sE K (c : Nat) = 0 by unfold sE; rw [if_pos (by omega)]] at h
  exact h
theorem sel_n2 (hTZ : TZ w) (q : Nat) (hq : q < B.length) (hc : B.getD q 0 < K) : Rt Tryd.prog 12 [.pointer (some ⟨b, 0, none⟩), .int .i64 ((B.getD q 0 : Nat) : Int), .int .i64 ((occ (fun i => B.getD i 0) q (B.getD q 0) : Nat) : Int)] w fun v w' => v = .tuple #[.int .i64 (q : Nat), .int .i64 0] ∧ From w w' := by
  have h := selectT base b K B w ht hTZ ((B.getD q 0 : Nat) : Int) ((occ (fun i => B.getD i 0) q (B.getD q 0) : Nat) : Int)
  have e : B[q] = B.getD q 0 := by rw [List.getD_eq_getElem?_getD, List.getElem?_eq_getElem hq]; rfl
  have h1 : q < (cb B (B.getD q 0)).length := by rw [cb_len]; exact hq
  have h2 : fl (cb B (B.getD q 0)) false q = true := by rw [cb_fl hq]; exact decide_eq_true e
  have h3 : cntB (fl (cb B (B.getD q 0)) false) q = occ (fun i => B.getD i 0) q (B.getD q 0) := by rw [cb_cnt (Nat.le_of_lt hq)]; exact cntC_occ _ _ _ (Nat.le_of_lt hq)
  rw [show slV K B ((B.getD q 0 : Nat) : Int) ((occ (fun i => B.getD i 0) q (B.getD q 0) : Nat) : Int) = (q : Nat) by
    unfold slV; rw [if_pos (by omega), Int.toNat_natCast]; exact selP_at h1 h2 h3,
    show slE K B ((B.getD q 0 : Nat) : Int) ((occ (fun i => B.getD i 0) q (B.getD q 0) : Nat) : Int) = 0 by
    unfold slE selE; rw [if_pos (by omega), Int.toNat_natCast, if_pos (selO_at h1 h2 h3)]] at h
  exact h
end
theorem bw_occ {L B : List Nat} {a : Nat} (hb : IsBw L B a) (c : Nat) : occ (fun i => B.getD i 0) L.length c = occ (fun i => L.getD i 0) L.length c := by
  have ha := hb.le
  have hne : ∀ i, i < L.length → rank (L.length + 1) (endT L) (i + 1) ≠ a := fun i hi => by rw [hb.at0]; exact rank_ne (by omega) (by omega) (by omega)
  have hf : ∀ i, i < L.length → sy a (rank (L.length + 1) (endT L) (i + 1)) < L.length := fun i hi => sy_lt ha (rank_le (by omega)) (hne i hi)
  have hi : ∀ i j, i < L.length → j < L.length → sy a (rank (L.length + 1) (endT L) (i + 1)) = sy a (rank (L.length + 1) (endT L) (j + 1)) → i = j := fun i j h1 h2 e => by
    have := rank_inj (endT_txt L) (show i + 1 < L.length + 1 by omega) (show j + 1 < L.length + 1 by omega) (sy_inj (hne i h1) (hne j h2) e)
    omega
  have hs : ∀ i, i < L.length → B.getD (sy a (rank (L.length + 1) (endT L) (i + 1))) 0 = L.getD i 0 := fun i h => hb.sym (i + 1) (by omega) (by omega)
  exact (cnt_bij (p := fun i => L.getD i 0 = c) (q := fun j => B.getD j 0 = c) hf hi (fun i h => by rw [hs i h])).symm
theorem les_y {n c : Nat} {b : Nat → Nat} (h : b n < c) : les (n + 1) b c = les n b c + 1 := SA.cnt_yes (p := fun j => b j < c) h
theorem les_n {n c : Nat} {b : Nat → Nat} (h : ¬ b n < c) : les (n + 1) b c = les n b c := SA.cnt_no (p := fun j => b j < c) h
theorem bw_les {L B : List Nat} {a : Nat} (hb : IsBw L B a) : ∀ c, les L.length (fun i => B.getD i 0) c = les L.length (fun i => L.getD i 0) c
  | 0 => by rw [les_zero, les_zero]
  | c + 1 => by rw [les_succ, les_succ, bw_les hb c, bw_occ hb]
set_option maxHeartbeats 400000 in
theorem less_ref (A : Option Addr) (ca m c : Nat) (L : List Nat) (w : World) (hr : RowOf iV w A (cI L)) (hm : m = L.length) (hl : m ≤ 1000000) :
    Rt Tryd.prog 16 [.slice A m ca, .int .i64 (c : Nat)] w (fun v w' => v = .int .i64 ((les m (fun i => L.getD i 0) c : Nat) : Int) ∧ From w w') := by
  refine enter (n := 22) Tryd.func16 rfl rfl rfl ?_
  refine cd_seq (cd_region ?_)
  refine asi rfl ?_
  refine st_nil (nx_then (cd_seq (cd_region ?_)))
  refine asi rfl ?_
  refine st_nil (nx_then (cd_seq (cd_seq (cd_region ?_))))
  refine asi rfl ?_
  refine st_nil (nx_then (cd_block ?_))
  refine cd_loop (G := Nat) [7, 8, 9, 10, 11, 12, 13, 14, 15, 16, 17, 18, 19, 20] (fun k => [(5, .int .i64 ((les k (fun i => L.getD i 0) c : Nat) : Int)), (6, .int .i64 (k : Nat))]) (fun k w' => k ≤ m ∧ From w w') (fun k => m - k) (0) ⟨rfl, rfl, trivial⟩ ?_ ?_
  · exact ⟨Nat.zero_le _, From.rfl_⟩
  rintro k ρ1 w1 ⟨hk, hB⟩
  refine cd_seq (cd_seq (cd_region ?_))
  refine mvi rfl ?_
  refine mvs rfl ?_
  refine st_val (ro_len FmLawT_l22 rfl) ?_
  refine st_val (ro_lss rfl rfl) ?_
  refine st_nil (nx_then ?_)
  refine cd_cond rfl (fun Q2 => ?_) (fun Q2 => ?_)
  · with_reducible replace Q2 := of_decide_eq_true Q2
    obtain ⟨b, o, rfl, hc⟩ := rowD hr (by omega)
    have hol := les_le (n := k) (b := fun i => L.getD i 0) c
    refine cd_skip (nx_then ?_)
    refine cd_cut (G := Nat) [13, 14, 15, 16, 17, 18, 19, 20] (fun q => [(5, .int .i64 (q : Nat))]) (fun q w' => q = les (k + 1) (fun i => L.getD i 0) c ∧ w1 = w') ?_ ?_
    · refine cd_block (cd_seq (cd_region ?_))
      refine mvs rfl ?_
      refine mvi rfl ?_
      refine st_val (ro_indexAddr1 FmLawT_e22 rfl rfl (by omega)) ?_
      refine st_val (ro_load FmLawT_g3 rfl (by exact cellF hB (hc k (by omega)))) ?_
      refine mvi rfl ?_
      refine st_val (ro_lss rfl rfl) ?_
      refine st_nil (nx_then ?_)
      refine cd_cond rfl (fun Q3 => ?_) (fun Q3 => ?_)
      · with_reducible replace Q3 := of_decide_eq_true Q3
        refine cd_region ?_
        refine mvi rfl ?_
        refine st_val (ro_addN (b := 1) rfl rfl (by omega)) ?_
        refine asi rfl ?_
        refine st_nil (nx_block ?_)
        refine nx_cut (les k (fun i => L.getD i 0) c + 1) ⟨(by first | rfl | (refine int_eq ?_; omega)), trivial⟩ (by (iterate 9 refine agr_cons rfl ?_); exact agr_rfl) ?_
        exact ⟨(les_y (b := fun i => L.getD i 0) (by show L.getD k 0 < c; omega)).symm, rfl⟩
      with_reducible replace Q3 := of_decide_eq_false Q3
      refine cd_skip (nx_block ?_)
      refine nx_cut (les k (fun i => L.getD i 0) c) ⟨(by first | rfl | (refine int_eq ?_; omega)), trivial⟩ (by (iterate 6 refine agr_cons rfl ?_); exact agr_rfl) ?_
      exact ⟨(les_n (b := fun i => L.getD i 0) (by show ¬ L.getD k 0 < c; omega)).symm, rfl⟩
    rintro q ρ4 w4 ⟨hq, rfl⟩
    refine cd_region ?_
    refine mvi rfl ?_
    refine st_val (ro_addN (b := 1) rfl rfl (by omega)) ?_
    refine asi rfl ?_
    refine st_nil ?_
    refine nx_cut (k + 1) ⟨(int_eq (by rw [hq])), rfl, trivial⟩ (by (iterate 32 refine agr_cons rfl ?_); exact agr_rfl) ⟨?_, ?_⟩
    · exact ⟨by omega, hB⟩
    · show m - (k + 1) < m - k; omega
  with_reducible replace Q2 := of_decide_eq_false Q2
  refine cd_exit ?_
  refine ex_then (ex_then (ex_block (nx_then (cd_seq (cd_region ?_)))))
  refine mvi rfl ?_
  refine asi rfl ?_
  refine st_nil (nx_then (cd_ret ?_))
  refine res1 (v := .int _ _) rfl rfl ?_
  obtain rfl : m = k := by omega
  exact ⟨rfl, hB⟩
set_option maxHeartbeats 400000 in
theorem rank_ref (A : Option Addr) (ca m n c : Nat) (L : List Nat) (w : World) (hr : RowOf iV w A (cI L)) (hm : m = L.length) (hn : n ≤ L.length) (hl : n ≤ 1000000) :
    Rt Tryd.prog 14 [.slice A m ca, .int .i64 (c : Nat), .int .i64 (n : Nat)] w (fun v w' => v = .int .i64 ((occ (fun i => L.getD i 0) n c : Nat) : Int) ∧ From w w') := by
  refine enter (n := 23) Tryd.func14 rfl rfl rfl ?_
  refine cd_seq (cd_region ?_)
  refine asi rfl ?_
  refine st_nil (nx_then (cd_seq (cd_region ?_)))
  refine asi rfl ?_
  refine st_nil (nx_then (cd_seq (cd_seq (cd_region ?_))))
  refine asi rfl ?_
  refine st_nil (nx_then (cd_block ?_))
  refine cd_loop (G := Nat) [9, 10, 11, 12, 13, 14, 15, 16, 17, 18, 19, 20, 21] (fun k => [(7, .int .i64 ((occ (fun i => L.getD i 0) k c : Nat) : Int)), (8, .int .i64 (k : Nat))]) (fun k w' => k ≤ n ∧ From w w') (fun k => n - k) (0) ⟨rfl, rfl, trivial⟩ ?_ ?_
  · exact ⟨Nat.zero_le _, From.rfl_⟩
  rintro k ρ1 w1 ⟨hk, hB⟩
  refine cd_seq (cd_seq (cd_region ?_))
  refine mvi rfl ?_
  refine mvi rfl ?_
  refine st_val (ro_lss rfl rfl) ?_
  refine st_nil (nx_then ?_)
  refine cd_cond rfl (fun Q2 => ?_) (fun Q2 => ?_)
  · with_reducible replace Q2 := of_decide_eq_true Q2
    obtain ⟨b, o, rfl, hc⟩ := rowD hr (by omega)
    have hol := occ_le (b := fun i => L.getD i 0) k c
    refine cd_skip (nx_then ?_)
    refine cd_cut (G := Nat) [14, 15, 16, 17, 18, 19, 20, 21] (fun q => [(7, .int .i64 (q : Nat))]) (fun q w' => q = occ (fun i => L.getD i 0) (k + 1) c ∧ w1 = w') ?_ ?_
    · refine cd_block (cd_seq (cd_region ?_))
      refine mvs rfl ?_
      refine mvi rfl ?_
      refine st_val (ro_indexAddr1 FmLawT_e22 rfl rfl (by omega)) ?_
      refine st_val (ro_load FmLawT_g3 rfl (by exact cellF hB (hc k (by omega)))) ?_
      refine mvi rfl ?_
      refine st_val (ro_eql rfl rfl) ?_
      refine st_nil (nx_then ?_)
      refine cd_cond rfl (fun Q3 => ?_) (fun Q3 => ?_)
      · with_reducible replace Q3 := of_decide_eq_true Q3
        refine cd_region ?_
        refine mvi rfl ?_
        refine st_val (ro_addN (b := 1) rfl rfl (by omega)) ?_
        refine asi rfl ?_
        refine st_nil (nx_block ?_)
        refine nx_cut (occ (fun i => L.getD i 0) k c + 1) ⟨(by first | rfl | (refine int_eq ?_; omega)), trivial⟩ (by (iterate 9 refine agr_cons rfl ?_); exact agr_rfl) ?_
        exact ⟨(occ_yes (by show L.getD k 0 = c; omega)).symm, rfl⟩
      with_reducible replace Q3 := of_decide_eq_false Q3
      refine cd_skip (nx_block ?_)
      refine nx_cut (occ (fun i => L.getD i 0) k c) ⟨(by first | rfl | (refine int_eq ?_; omega)), trivial⟩ (by (iterate 6 refine agr_cons rfl ?_); exact agr_rfl) ?_
      exact ⟨(occ_no (by show L.getD k 0 ≠ c; omega)).symm, rfl⟩
    rintro q ρ4 w4 ⟨hq, rfl⟩
    refine cd_region ?_
    refine mvi rfl ?_
    refine st_val (ro_addN (b := 1) rfl rfl (by omega)) ?_
    refine asi rfl ?_
    refine st_nil ?_
    refine nx_cut (k + 1) ⟨(int_eq (by rw [hq])), rfl, trivial⟩ (by (iterate 30 refine agr_cons rfl ?_); exact agr_rfl) ⟨?_, ?_⟩
    · exact ⟨by omega, hB⟩
    · show n - (k + 1) < n - k; omega
  with_reducible replace Q2 := of_decide_eq_false Q2
  refine cd_exit ?_
  refine ex_then (ex_then (ex_block (nx_then (cd_seq (cd_region ?_)))))
  refine mvi rfl ?_
  refine asi rfl ?_
  refine st_nil (nx_then (cd_ret ?_))
  refine res1 (v := .int _ _) rfl rfl ?_
  obtain rfl : n = k := by omega
  exact ⟨rfl, hB⟩
set_option maxHeartbeats 4000000 in
theorem tree_law (k : Int) (A D B : Option Addr) (ca cp cb : Nat) (L : List Int) (ps : List (List Int)) (is : List Int) (w : World) (ha : AskF w k A D B L ps is) (hTZ : TZ w) :
    Rt Tryd.prog 3 [.agg #[.int .i64 k, .slice A L.length ca, .slice D ps.length cp, .slice B is.length cb]] w (fun v w' => v = .bool true ∧ From w w') := by
  have hlenP := ha.lenP
  refine enter (n := 164) Tryd.func3 rfl rfl rfl ?_
  refine cd_seq (cd_region ?_)
  refine st_box (v := .agg _) rfl ?_
  intro b1 w1 E1 hb1 hk1
  refine asb rfl ?_
  refine st_nil (nx_then (cd_seq (cd_seq (cd_region ?_))))
  refine st_val (ro_loadA (cs := [_, _, _, _]) FmLawT_g25 FmLawT_z25 rfl (by first | (first | exact (hP1.from_ From.rfl_).whole | exact (hP1.from_ From.rfl_).rd 0 rfl | exact (hP1.from_ From.rfl_).rd 1 rfl | exact (hP1.from_ From.rfl_).rd 2 rfl | exact (hP1.from_ From.rfl_).rd 3 rfl | exact (hI.from_ From.rfl_).rd 0 rfl) | (first | exact (hk1.from_ From.rfl_).whole | exact (hk1.from_ From.rfl_).rd 0 rfl | exact (hk1.from_ From.rfl_).rd 1 rfl | exact (hk1.from_ From.rfl_).rd 2 rfl | exact (hk1.from_ From.rfl_).rd 3 rfl | exact (hI.from_ From.rfl_).rd 0 rfl))) ?_
  refine st_call FmLawT_k4 (heavy_rt k A D B ca cp cb L ps is _ (ha.from_ (From.rfl_.next E1))) ?_
  rintro v18 w2 ⟨⟨hv, rfl, hli⟩, E18⟩
  refine st_nil (nx_then ?_)
  refine cd_cond rfl (fun Q3 => ?_) (fun Q3 => ?_)
  · refine cd_seq (cd_region ?_)
    refine asb rfl ?_
    refine st_nil (nx_then (cd_ret (rt_then ?_)))
    refine res1 (v := .bool _) rfl rfl ?_
    exact ⟨rfl, ((From.rfl_.next E1).next E18)⟩
  replace hli := hli (by simpa using Q3)
  have hl40 := hli.l
  have hp40 := hli.p
  have hi40 := hli.i
  refine cd_skip (nx_then (cd_seq (cd_region ?_)))
  refine st_val (ro_loadA (cs := [_, _, _, _]) FmLawT_g25 FmLawT_z25 rfl (by first | (first | exact (hP1.from_ (From.rfl_.next E18)).whole | exact (hP1.from_ (From.rfl_.next E18)).rd 0 rfl | exact (hP1.from_ (From.rfl_.next E18)).rd 1 rfl | exact (hP1.from_ (From.rfl_.next E18)).rd 2 rfl | exact (hP1.from_ (From.rfl_.next E18)).rd 3 rfl | exact (hI.from_ (From.rfl_.next E18)).rd 0 rfl) | (first | exact (hk1.from_ (From.rfl_.next E18)).whole | exact (hk1.from_ (From.rfl_.next E18)).rd 0 rfl | exact (hk1.from_ (From.rfl_.next E18)).rd 1 rfl | exact (hk1.from_ (From.rfl_.next E18)).rd 2 rfl | exact (hk1.from_ (From.rfl_.next E18)).rd 3 rfl | exact (hI.from_ (From.rfl_.next E18)).rd 0 rfl))) ?_
  have hz21 := (((From.rfl_.next E1).next E18)).size
  refine st_call FmLawT_k5 (made_rt k A D B ca cp cb L ps is _ (ha.from_ ((From.rfl_.next E1).next E18)) hli.l) ?_
  rintro v21 w4 ⟨hs21, E21⟩
  replace hk1 := hk1.from_ ((From.rfl_.next E18).next E21)
  rcases hs21 with ⟨hck, rfl⟩ | ⟨hck, K, b, a, Ln, Bs, F, rfl, hLn, hlt, hf, rfl⟩
  · refine mvt rfl ?_
    refine st_val (ro_extract rfl rfl) ?_
    refine st_val (ro_extract rfl rfl) ?_
    refine asp rfl ?_
    refine asi rfl ?_
    refine st_nil (nx_then (cd_seq (cd_seq (cd_region ?_))))
    refine mvp rfl ?_
    refine st_val (ro_eqlNil FmLawT_p27 rfl rfl) ?_
    refine st_nil (nx_then ?_)
    refine cd_cond rfl (fun Q5 => ?_) (fun Q5 => ?_)
    rotate_left
    · exfalso; contradiction
    refine cd_seq (cd_region ?_)
    refine mvi rfl ?_
    refine st_val (ro_neq rfl rfl) ?_
    refine mvb rfl ?_
    refine st_split (t := 28) rfl (fun Q76 => ?_) (fun Q76 => ?_)
    rotate_left
    · with_reducible replace Q76 := bx_f Q76
      exfalso; omega
    with_reducible replace Q76 := bx_t Q76
    refine st_unguard rfl ?_
    refine st_call FmLawT_k6 (wakes_rt _) ?_
    rintro v29 w77 ⟨rfl, E29⟩
    refine st_val (ro_pickT (v := .bool _) rfl rfl) ?_
    refine asb rfl ?_
    refine st_nil (nx_then (cd_ret (rt_then ?_)))
    refine res1 (v := .bool _) rfl rfl ?_
    exact ⟨rfl, ((((From.rfl_.next E1).next E18).next E21).next E29)⟩
  replace hf := hf.le hz21
  have hLl : Ln.length = L.length := by rw [hLn, List.length_map]
  obtain ⟨hb0, hSA, hbw, hLn2, hK2, tb, AS, cs, gr, hI, hT, ho9, hR, hgr⟩ := hf
  have hBl := hbw.len
  have hsB := tree_lt hT
  refine mvt rfl ?_
  refine st_val (ro_extract rfl rfl) ?_
  refine st_val (ro_extract rfl rfl) ?_
  refine asp rfl ?_
  refine asi rfl ?_
  refine st_nil (nx_then (cd_seq (cd_seq (cd_region ?_))))
  refine mvp rfl ?_
  refine st_val (ro_eqlNil FmLawT_p27 rfl rfl) ?_
  refine st_nil (nx_then ?_)
  refine cd_cond rfl (fun Q78 => ?_) (fun Q78 => ?_)
  · exfalso; contradiction
  refine cd_skip (nx_then (cd_seq (cd_region ?_)))
  refine st_val (ro_fieldAddr FmLawT_f25_1 rfl) ?_
  refine st_val (ro_load FmLawT_g22 rfl (by first | (first | exact (hP1.from_ From.rfl_).whole | exact (hP1.from_ From.rfl_).rd 0 rfl | exact (hP1.from_ From.rfl_).rd 1 rfl | exact (hP1.from_ From.rfl_).rd 2 rfl | exact (hP1.from_ From.rfl_).rd 3 rfl | exact (hI.from_ From.rfl_).rd 0 rfl) | (first | exact (hk1.from_ From.rfl_).whole | exact (hk1.from_ From.rfl_).rd 0 rfl | exact (hk1.from_ From.rfl_).rd 1 rfl | exact (hk1.from_ From.rfl_).rd 2 rfl | exact (hk1.from_ From.rfl_).rd 3 rfl | exact (hI.from_ From.rfl_).rd 0 rfl))) ?_
  refine st_call FmLawT_k7 (refMake_rt A ca L.length Ln _ (by rw [← hLn]; exact ha.rowL.from_ (((From.rfl_.next E1).next E18).next E21)) hLl.symm (by omega)) ?_
  rintro v34 w81 ⟨⟨B34, a34, A34, c34, rfl, hbw34, ho34⟩, E34⟩
  obtain ⟨rfl, rfl⟩ := hbw.uniq hbw34
  replace hI := hI.from_ E34
  replace hT := hT.from_ E34
  replace hk1 := hk1.from_ E34
  have hr34 := (RowOf.own ho34).2
  refine mvt rfl ?_
  refine st_val (ro_extract rfl rfl) ?_
  refine st_val (ro_extract rfl rfl) ?_
  refine ass rfl ?_
  refine asi rfl ?_
  refine st_nil (nx_then (cd_seq (cd_seq ?_)))
  have hz0 : (0 : Nat) = 0 := rfl
  apply cd_drawn 18 [(37, eqp _), (38, eqp _), (39, eqp _), (40, eqp _), (41, eqp _), (42, eqp _), (43, eqp _), (44, eqp _), (45, eqp _), (46, eqp _), (47, eqp _), (48, eqp _), (49, eqp _), (50, eqp _), (51, eqp _), (52, eqp _), (53, eqp _), (54, eqp _)] (by kernel_rfl) (by kernel_rfl) ⟨eqp_mono _, eqp_mono _, eqp_mono _, eqp_mono _, eqp_mono _, eqp_mono _, eqp_mono _, eqp_mono _, eqp_mono _, eqp_mono _, eqp_mono _, eqp_mono _, eqp_mono _, eqp_mono _, eqp_mono _, eqp_mono _, eqp_mono _, eqp_mono _, trivial⟩
  case hop =>
   refine ⟨?_, ?_⟩
   · intro w83 D83
     show OpOK _ _ _ _ _ _ _
     exact ok_pure (ro_move (v := .pointer _) rfl) rfl
   refine ⟨?_, ?_⟩
   · intro w84 D84
     rintro _ rfl
     show OpOK _ _ _ _ _ _ _
     exact ok_pure (ro_nilCheck rfl) rfl
   refine ⟨?_, ?_⟩
   · intro w85 D85
     rintro _ rfl
     show OpOK _ _ _ _ _ _ _
     exact ok_pure (ro_fieldAddr FmLawT_f38_0 rfl) rfl
   refine ⟨?_, ?_⟩
   · intro w86 D86
     rintro _ rfl
     show OpOK _ _ _ _ _ _ _
     exact ok_pure (ro_load FmLawT_g34 rfl (by first | (first | exact (hP1.from_ (From.rfl_.next D86)).whole | exact (hP1.from_ (From.rfl_.next D86)).rd 0 rfl | exact (hP1.from_ (From.rfl_.next D86)).rd 1 rfl | exact (hP1.from_ (From.rfl_.next D86)).rd 2 rfl | exact (hP1.from_ (From.rfl_.next D86)).rd 3 rfl | exact (hI.from_ (From.rfl_.next D86)).rd 0 rfl) | (first | exact (hk1.from_ (From.rfl_.next D86)).whole | exact (hk1.from_ (From.rfl_.next D86)).rd 0 rfl | exact (hk1.from_ (From.rfl_.next D86)).rd 1 rfl | exact (hk1.from_ (From.rfl_.next D86)).rd 2 rfl | exact (hk1.from_ (From.rfl_.next D86)).rd 3 rfl | exact (hI.from_ (From.rfl_.next D86)).rd 0 rfl))) rfl
   refine ⟨?_, ?_⟩
   · intro w87 D87
     rintro _ rfl
     show OpOK _ _ _ _ _ _ _
     refine ok_call FmLawT_k8 ((lenT _ tb K Bs _ (hT.from_ (From.rfl_.next D87))).mono ?_)
     rintro v _ ⟨rfl, E87'⟩; exact ⟨E87', rfl⟩
   refine ⟨?_, ?_⟩
   · intro w88 D88
     show OpOK _ _ _ _ _ _ _
     exact ok_pure (ro_move (v := .slice _ _ _) rfl) rfl
   refine ⟨?_, ?_⟩
   · intro w89 D89
     rintro _ rfl
     show OpOK _ _ _ _ _ _ _
     exact ok_pure (ro_len FmLawT_l22 rfl) rfl
   refine ⟨?_, ?_⟩
   · intro w90 D90
     rintro _ rfl _ rfl
     show OpOK _ _ _ _ _ _ _
     exact ok_pure (ro_bf (ro_neq rfl rfl) (bne_self_eq_false _)) rfl
   refine ⟨?_, ?_⟩
   · intro w91 D91
     rintro _ rfl
     show OpOK _ _ _ _ _ _ _
     exact ok_pure (ro_move (v := .bool _) rfl) rfl
   refine ⟨?_, ?_⟩
   · intro w92 D92
     rintro _ rfl
     show OpOK _ _ _ _ _ _ _
     exact ok_gpure rfl (ro_move (v := .pointer _) rfl) rfl
   refine ⟨?_, ?_⟩
   · intro w93 D93
     rintro _ rfl _ rfl
     show OpOK _ _ _ _ _ _ _
     exact ok_gpure rfl (ro_nilCheck rfl) rfl
   refine ⟨?_, ?_⟩
   · intro w94 D94
     rintro _ rfl _ rfl
     show OpOK _ _ _ _ _ _ _
     exact ok_gpure rfl (ro_fieldAddr FmLawT_f38_0 rfl) rfl
   refine ⟨?_, ?_⟩
   · intro w95 D95
     rintro _ rfl _ rfl
     show OpOK _ _ _ _ _ _ _
     exact ok_gpure rfl (ro_load FmLawT_g34 rfl (by first | (first | exact (hP1.from_ (From.rfl_.next D95)).whole | exact (hP1.from_ (From.rfl_.next D95)).rd 0 rfl | exact (hP1.from_ (From.rfl_.next D95)).rd 1 rfl | exact (hP1.from_ (From.rfl_.next D95)).rd 2 rfl | exact (hP1.from_ (From.rfl_.next D95)).rd 3 rfl | exact (hI.from_ (From.rfl_.next D95)).rd 0 rfl) | (first | exact (hk1.from_ (From.rfl_.next D95)).whole | exact (hk1.from_ (From.rfl_.next D95)).rd 0 rfl | exact (hk1.from_ (From.rfl_.next D95)).rd 1 rfl | exact (hk1.from_ (From.rfl_.next D95)).rd 2 rfl | exact (hk1.from_ (From.rfl_.next D95)).rd 3 rfl | exact (hI.from_ (From.rfl_.next D95)).rd 0 rfl))) rfl
   refine ⟨?_, ?_⟩
   · intro w96 D96
     rintro _ rfl _ rfl
     show OpOK _ _ _ _ _ _ _
     refine ok_gcall rfl FmLawT_k9 ((kindsT _ tb K Bs _ (hT.from_ (From.rfl_.next D96))).mono ?_)
     rintro v _ ⟨rfl, rfl⟩; exact ⟨From.rfl_, rfl⟩
   refine ⟨?_, ?_⟩
   · intro w97 D97
     rintro _ rfl
     show OpOK _ _ _ _ _ _ _
     exact ok_gpure rfl (ro_fieldAddr FmLawT_f25_0 rfl) rfl
   refine ⟨?_, ?_⟩
   · intro w98 D98
     rintro _ rfl _ rfl
     show OpOK _ _ _ _ _ _ _
     exact ok_gpure rfl (ro_load FmLawT_g3 rfl (by first | (first | exact (hP1.from_ (From.rfl_.next D98)).whole | exact (hP1.from_ (From.rfl_.next D98)).rd 0 rfl | exact (hP1.from_ (From.rfl_.next D98)).rd 1 rfl | exact (hP1.from_ (From.rfl_.next D98)).rd 2 rfl | exact (hP1.from_ (From.rfl_.next D98)).rd 3 rfl | exact (hI.from_ (From.rfl_.next D98)).rd 0 rfl) | (first | exact (hk1.from_ (From.rfl_.next D98)).whole | exact (hk1.from_ (From.rfl_.next D98)).rd 0 rfl | exact (hk1.from_ (From.rfl_.next D98)).rd 1 rfl | exact (hk1.from_ (From.rfl_.next D98)).rd 2 rfl | exact (hk1.from_ (From.rfl_.next D98)).rd 3 rfl | exact (hI.from_ (From.rfl_.next D98)).rd 0 rfl))) rfl
   refine ⟨?_, ?_⟩
   · intro w99 D99
     rintro _ rfl _ rfl _ rfl
     show OpOK _ _ _ _ _ _ _
     exact ok_gpure rfl (ro_bf (ro_neq rfl rfl) (bne_self_eq_false _)) rfl
   refine ⟨?_, ?_⟩
   · intro w100 D100
     rintro _ rfl _ rfl
     show OpOK _ _ _ _ _ _ _
     exact ok_pure (ro_pickF (v := .bool _) rfl rfl) rfl
   exact trivial
  case hend =>
   intro w101 D101
   rintro _ rfl _ rfl _ rfl _ rfl _ rfl _ rfl _ rfl _ rfl _ rfl _ rfl _ rfl _ rfl _ rfl _ rfl _ rfl _ rfl _ rfl _ rfl
   show St _ _ _ _ _ _ _
   refine st_nil (nx_then ?_)
   refine cd_condF rfl ?_
   refine cd_skip (nx_then (cd_seq (cd_seq (cd_region ?_))))
   refine asi rfl ?_
   refine st_nil (nx_then (cd_block ?_))
   refine cd_loop (G := Nat) [2, 8, 9, 10, 11, 12, 13, 55, 56, 57, 58, 59, 60, 61, 62, 63, 64, 65, 66, 67, 68, 69, 70, 71, 72, 73, 74, 75, 76, 77, 78, 79, 80, 81, 82, 83, 84, 85, 86, 87, 88, 89, 90, 91, 92, 93, 94, 95, 96, 97, 98, 99, 100, 101, 102, 103, 104, 105, 106, 107, 108, 109, 110, 111, 112, 113, 114, 115, 116, 117, 118, 119, 120, 121, 122, 123, 124, 125, 126, 127, 128, 129, 130, 131, 132] (fun i => [(7, .int .i64 (i : Nat))]) (fun i w' => i ≤ Bs.length ∧ RowOf iV w' A34 (cI Bs) ∧ Blk w' b 38 #[.pointer (some ⟨tb, 0, none⟩), .int .i64 (a : Nat), .slice AS (smp Ln F (Ln.length + 1)).length cs, .slice (some ⟨gr, 0, none⟩) (Ln.length / 8 + 1) (Ln.length / 8 + 1)] ∧ TreeAt w' w.heap.size tb K Bs ∧ Blk w' b1 25 #[.int .i64 (K : Nat), .slice A L.length ca, .slice D ps.length cp, .slice B is.length cb] ∧ From w w') (fun i => Bs.length - i) (0) ⟨rfl, trivial⟩ ?_ ?_
   · exact ⟨Nat.zero_le _, hr34.from_ (From.rfl_.next D101), hI.from_ (From.rfl_.next D101), hT.from_ (From.rfl_.next D101), hk1.from_ (From.rfl_.next D101), (((((From.rfl_.next E1).next E18).next E21).next E34).next D101)⟩
   rintro i ρ102 w102 ⟨hi, hr34, hI, hT, hP1, hB⟩
   refine cd_seq (cd_seq (cd_region ?_))
   refine mvi rfl ?_
   refine mvs rfl ?_
   refine st_val (ro_len FmLawT_l22 rfl) ?_
   refine st_val (ro_lss rfl rfl) ?_
   refine st_nil (nx_then ?_)
   refine cd_cond rfl (fun Q103 => ?_) (fun Q103 => ?_)
   · with_reducible replace Q103 := of_decide_eq_true Q103
     obtain ⟨bS, oS, rfl, hcS⟩ := rowD hr34 (by omega)
     have hgK := getD_lt hsB (show i < Bs.length by omega)
     refine cd_skip (nx_then (cd_seq (cd_block (cd_seq (cd_region ?_)))))
     refine mvp rfl ?_
     refine st_val (ro_nilCheck rfl) ?_
     refine st_val (ro_fieldAddr FmLawT_f38_0 rfl) ?_
     refine st_val (ro_load FmLawT_g34 rfl (by first | (first | exact (hP1.from_ From.rfl_).whole | exact (hP1.from_ From.rfl_).rd 0 rfl | exact (hP1.from_ From.rfl_).rd 1 rfl | exact (hP1.from_ From.rfl_).rd 2 rfl | exact (hP1.from_ From.rfl_).rd 3 rfl | exact (hI.from_ From.rfl_).rd 0 rfl) | (first | exact (hk1.from_ From.rfl_).whole | exact (hk1.from_ From.rfl_).rd 0 rfl | exact (hk1.from_ From.rfl_).rd 1 rfl | exact (hk1.from_ From.rfl_).rd 2 rfl | exact (hk1.from_ From.rfl_).rd 3 rfl | exact (hI.from_ From.rfl_).rd 0 rfl))) ?_
     refine mvi rfl ?_
     refine st_call FmLawT_k10 (acc_n _ tb K Bs _ (hT.from_ From.rfl_) i (by omega)) ?_
     rintro v67 w104 ⟨rfl, E67⟩
     refine mvt rfl ?_
     refine st_val (ro_extract rfl rfl) ?_
     refine st_val (ro_extract rfl rfl) ?_
     refine asi rfl ?_
     refine asi rfl ?_
     refine st_nil (nx_then (cd_seq ?_))
     apply cd_drawnD 15 [(71, eqp _), (72, eqp _), (73, eqp _), (74, eqp _), (75, eqp (.slice (some ⟨bS, oS, none⟩) Bs.length c34)), (76, eqp _), (77, eqp _), (78, eqp (iV ((Bs.getD i 0 : Nat) : Int))), (79, eqp _), (80, eqp _), (70, eqp _), (81, eqp _), (82, eqp _), (10, eqp _), (11, eqp _)] (by repeat first | exact pq_body | refine pq_then ?_ | refine pq_block ?_) (by kernel_rfl) (by kernel_rfl) ⟨eqp_mono _, eqp_mono _, eqp_mono _, eqp_mono _, eqp_mono _, eqp_mono _, eqp_mono _, eqp_mono _, eqp_mono _, eqp_mono _, eqp_mono _, eqp_mono _, eqp_mono _, eqp_mono _, eqp_mono _, trivial⟩
     case hop =>
      refine ⟨?_, ?_⟩
      · rintro - w106 D106
        show OpOK _ _ _ _ _ _ _
        exact ok_pure (ro_move (v := .pointer _) rfl) rfl
      refine ⟨?_, ?_⟩
      · rintro - w107 D107
        rintro _ rfl
        show OpOK _ _ _ _ _ _ _
        exact ok_pure (ro_nilCheck rfl) rfl
      refine ⟨?_, ?_⟩
      · rintro - w108 D108
        rintro _ rfl
        show OpOK _ _ _ _ _ _ _
        exact ok_pure (ro_fieldAddr FmLawT_f38_0 rfl) rfl
      refine ⟨?_, ?_⟩
      · rintro - w109 D109
        rintro _ rfl
        show OpOK _ _ _ _ _ _ _
        exact ok_pure (ro_load FmLawT_g34 rfl (by first | (first | exact (hP1.from_ ((From.rfl_.next E67).next D109)).whole | exact (hP1.from_ ((From.rfl_.next E67).next D109)).rd 0 rfl | exact (hP1.from_ ((From.rfl_.next E67).next D109)).rd 1 rfl | exact (hP1.from_ ((From.rfl_.next E67).next D109)).rd 2 rfl | exact (hP1.from_ ((From.rfl_.next E67).next D109)).rd 3 rfl | exact (hI.from_ ((From.rfl_.next E67).next D109)).rd 0 rfl) | (first | exact (hk1.from_ ((From.rfl_.next E67).next D109)).whole | exact (hk1.from_ ((From.rfl_.next E67).next D109)).rd 0 rfl | exact (hk1.from_ ((From.rfl_.next E67).next D109)).rd 1 rfl | exact (hk1.from_ ((From.rfl_.next E67).next D109)).rd 2 rfl | exact (hk1.from_ ((From.rfl_.next E67).next D109)).rd 3 rfl | exact (hI.from_ ((From.rfl_.next E67).next D109)).rd 0 rfl))) rfl
      refine ⟨?_, ?_⟩
      · rintro - w110 D110
        show OpOK _ _ _ _ _ _ _
        exact ok_pure (ro_move (v := .slice _ _ _) rfl) rfl
      refine ⟨?_, ?_⟩
      · rintro - w111 D111
        show OpOK _ _ _ _ _ _ _
        exact ok_pure (ro_move (v := .int _ _) rfl) rfl
      refine ⟨?_, ?_⟩
      · rintro - w112 D112
        rintro v112_75 rfl _ rfl
        show OpOK _ _ _ _ _ _ _
        exact ok_pure (ro_indexAddr1 FmLawT_e22 rfl rfl (by omega)) rfl
      refine ⟨?_, ?_⟩
      · rintro - w113 D113
        rintro _ rfl
        show OpOK _ _ _ _ _ _ _
        exact ok_pure (ro_load (v := iV ((Bs.getD i 0 : Nat) : Int)) FmLawT_g3 rfl (cellF ((From.rfl_.next E67).next D113) (hcS i (by omega)))) rfl
      refine ⟨?_, ?_⟩
      · rintro - w114 D114
        show OpOK _ _ _ _ _ _ _
        exact ok_pure (ro_move (v := .int _ _) rfl) rfl
      refine ⟨?_, ?_⟩
      · rintro - w115 D115
        rintro _ rfl v115_78 rfl _ rfl
        show OpOK _ _ _ _ _ _ _
        refine ok_call FmLawT_k11 ((rank_n2 _ tb K Bs _ (hT.from_ ((From.rfl_.next E67).next D115)) (Bs.getD i 0) i (by omega) (by omega)).mono ?_)
        rintro v _ ⟨rfl, E115'⟩; exact ⟨E115', rfl⟩
      refine ⟨?_, ?_⟩
      · rintro - w116 D116
        rintro _ rfl
        show OpOK _ _ _ _ _ _ _
        exact ok_pure (ro_move (v := .tuple _) rfl) rfl
      refine ⟨?_, ?_⟩
      · rintro - w117 D117
        rintro _ rfl
        show OpOK _ _ _ _ _ _ _
        exact ok_pure (ro_extract rfl rfl) rfl
      refine ⟨?_, ?_⟩
      · rintro - w118 D118
        rintro _ rfl
        show OpOK _ _ _ _ _ _ _
        exact ok_pure (ro_extract rfl rfl) rfl
      refine ⟨?_, ?_⟩
      · rintro - w119 D119
        rintro _ rfl
        show OpOK _ _ _ _ _ _ _
        exact ok_pure (ro_assign (v := .int _ _) rfl) rfl
      refine ⟨?_, ?_⟩
      · rintro - w120 D120
        rintro _ rfl
        show OpOK _ _ _ _ _ _ _
        exact ok_pure (ro_assign (v := .int _ _) rfl) rfl
      exact trivial
     case hend =>
      intro w121 D121
      rintro _ rfl _ rfl _ rfl _ rfl v75 rfl _ rfl _ rfl v78 rfl _ rfl _ rfl _ rfl _ rfl _ rfl _ rfl _ rfl
      show St _ _ _ _ _ _ _
      refine st_nil (nx_then (cd_seq ?_))
      apply cd_drawnD 15 [(84, eqp _), (85, eqp _), (86, eqp _), (87, eqp _), (88, eqp (.slice (some ⟨bS, oS, none⟩) Bs.length c34)), (89, eqp _), (90, eqp _), (91, eqp (iV ((Bs.getD i 0 : Nat) : Int))), (92, eqp _), (93, eqp _), (83, eqp _), (94, eqp _), (95, eqp _), (12, eqp _), (13, eqp _)] (by repeat first | exact pq_body | refine pq_then ?_ | refine pq_block ?_) (by kernel_rfl) (by kernel_rfl) ⟨eqp_mono _, eqp_mono _, eqp_mono _, eqp_mono _, eqp_mono _, eqp_mono _, eqp_mono _, eqp_mono _, eqp_mono _, eqp_mono _, eqp_mono _, eqp_mono _, eqp_mono _, eqp_mono _, eqp_mono _, trivial⟩
      case hop =>
       refine ⟨?_, ?_⟩
       · rintro - w123 D123
         show OpOK _ _ _ _ _ _ _
         exact ok_pure (ro_move (v := .pointer _) rfl) rfl
       refine ⟨?_, ?_⟩
       · rintro - w124 D124
         rintro _ rfl
         show OpOK _ _ _ _ _ _ _
         exact ok_pure (ro_nilCheck rfl) rfl
       refine ⟨?_, ?_⟩
       · rintro - w125 D125
         rintro _ rfl
         show OpOK _ _ _ _ _ _ _
         exact ok_pure (ro_fieldAddr FmLawT_f38_0 rfl) rfl
       refine ⟨?_, ?_⟩
       · rintro - w126 D126
         rintro _ rfl
         show OpOK _ _ _ _ _ _ _
         exact ok_pure (ro_load FmLawT_g34 rfl (by first | (first | exact (hP1.from_ (((From.rfl_.next E67).next D121).next D126)).whole | exact (hP1.from_ (((From.rfl_.next E67).next D121).next D126)).rd 0 rfl | exact (hP1.from_ (((From.rfl_.next E67).next D121).next D126)).rd 1 rfl | exact (hP1.from_ (((From.rfl_.next E67).next D121).next D126)).rd 2 rfl | exact (hP1.from_ (((From.rfl_.next E67).next D121).next D126)).rd 3 rfl | exact (hI.from_ (((From.rfl_.next E67).next D121).next D126)).rd 0 rfl) | (first | exact (hk1.from_ (((From.rfl_.next E67).next D121).next D126)).whole | exact (hk1.from_ (((From.rfl_.next E67).next D121).next D126)).rd 0 rfl | exact (hk1.from_ (((From.rfl_.next E67).next D121).next D126)).rd 1 rfl | exact (hk1.from_ (((From.rfl_.next E67).next D121).next D126)).rd 2 rfl | exact (hk1.from_ (((From.rfl_.next E67).next D121).next D126)).rd 3 rfl | exact (hI.from_ (((From.rfl_.next E67).next D121).next D126)).rd 0 rfl))) rfl
       refine ⟨?_, ?_⟩
       · rintro - w127 D127
         show OpOK _ _ _ _ _ _ _
         exact ok_pure (ro_move (v := .slice _ _ _) rfl) rfl
       refine ⟨?_, ?_⟩
       · rintro - w128 D128
         show OpOK _ _ _ _ _ _ _
         exact ok_pure (ro_move (v := .int _ _) rfl) rfl
       refine ⟨?_, ?_⟩
       · rintro - w129 D129
         rintro v129_88 rfl _ rfl
         show OpOK _ _ _ _ _ _ _
         exact ok_pure (ro_indexAddr1 FmLawT_e22 rfl rfl (by omega)) rfl
       refine ⟨?_, ?_⟩
       · rintro - w130 D130
         rintro _ rfl
         show OpOK _ _ _ _ _ _ _
         exact ok_pure (ro_load (v := iV ((Bs.getD i 0 : Nat) : Int)) FmLawT_g3 rfl (cellF (((From.rfl_.next E67).next D121).next D130) (hcS i (by omega)))) rfl
       refine ⟨?_, ?_⟩
       · rintro - w131 D131
         show OpOK _ _ _ _ _ _ _
         exact ok_pure (ro_move (v := .int _ _) rfl) rfl
       refine ⟨?_, ?_⟩
       · rintro - w132 D132
         rintro _ rfl v132_91 rfl _ rfl
         show OpOK _ _ _ _ _ _ _
         refine ok_call FmLawT_k12 ((sel_n2 _ tb K Bs _ (hT.from_ (((From.rfl_.next E67).next D121).next D132)) (hTZ.from_ (((hB.next E67).next D121).next D132)) i (by omega) (by omega)).mono ?_)
         rintro v _ ⟨rfl, E132'⟩; exact ⟨E132', rfl⟩
       refine ⟨?_, ?_⟩
       · rintro - w133 D133
         rintro _ rfl
         show OpOK _ _ _ _ _ _ _
         exact ok_pure (ro_move (v := .tuple _) rfl) rfl
       refine ⟨?_, ?_⟩
       · rintro - w134 D134
         rintro _ rfl
         show OpOK _ _ _ _ _ _ _
         exact ok_pure (ro_extract rfl rfl) rfl
       refine ⟨?_, ?_⟩
       · rintro - w135 D135
         rintro _ rfl
         show OpOK _ _ _ _ _ _ _
         exact ok_pure (ro_extract rfl rfl) rfl
       refine ⟨?_, ?_⟩
       · rintro - w136 D136
         rintro _ rfl
         show OpOK _ _ _ _ _ _ _
         exact ok_pure (ro_assign (v := .int _ _) rfl) rfl
       refine ⟨?_, ?_⟩
       · rintro - w137 D137
         rintro _ rfl
         show OpOK _ _ _ _ _ _ _
         exact ok_pure (ro_assign (v := .int _ _) rfl) rfl
       exact trivial
      case hend =>
       intro w138 D138
       rintro _ rfl _ rfl _ rfl _ rfl v88 rfl _ rfl _ rfl v91 rfl _ rfl _ rfl _ rfl _ rfl _ rfl _ rfl _ rfl
       show St _ _ _ _ _ _ _
       refine st_nil (nx_then (cd_seq (cd_region ?_)))
       refine mvi rfl ?_
       refine st_call FmLawT_k13 (num_any _ _) ?_
       rintro v97 w139 ⟨rfl, rfl⟩
       refine st_val (ro_bf (ro_neq rfl rfl) (bne_self_eq_false _)) ?_
       refine mvb rfl ?_
       refine st_unguard rfl ?_
       refine mvi rfl ?_
       refine st_unguard rfl ?_
       refine mvs rfl ?_
       refine st_unguard rfl ?_
       refine mvi rfl ?_
       refine st_unguard rfl ?_
       refine st_val (ro_indexAddr1 FmLawT_e22 rfl rfl (by omega)) ?_
       refine st_unguard rfl ?_
       refine st_val (ro_load FmLawT_g3 rfl (by exact cellF (((From.rfl_.next E67).next D121).next D138) (hcS i (by omega)))) ?_
       refine st_unguard rfl ?_
       refine st_val (ro_bf (ro_neq rfl rfl) (bne_self_eq_false _)) ?_
       refine st_val (ro_pickF (v := .bool _) rfl rfl) ?_
       refine mvb rfl ?_
       refine st_unguard rfl ?_
       refine mvi rfl ?_
       refine st_unguard rfl ?_
       refine st_call FmLawT_k13 (num_any _ _) ?_
       rintro v109 w140 ⟨rfl, rfl⟩
       refine st_unguard rfl ?_
       refine st_val (ro_bf (ro_neq rfl rfl) (bne_self_eq_false _)) ?_
       refine st_val (ro_pickF (v := .bool _) rfl rfl) ?_
       refine mvb rfl ?_
       refine st_unguard rfl ?_
       refine mvi rfl ?_
       refine st_unguard rfl ?_
       refine st_call FmLawT_k13 (num_any _ _) ?_
       rintro v114 w141 ⟨rfl, rfl⟩
       refine st_unguard rfl ?_
       refine st_val (ro_bf (ro_neq rfl rfl) (bne_self_eq_false _)) ?_
       refine st_val (ro_pickF (v := .bool _) rfl rfl) ?_
       refine mvb rfl ?_
       refine st_unguard rfl ?_
       refine mvi rfl ?_
       refine st_unguard rfl ?_
       refine mvi rfl ?_
       refine st_unguard rfl ?_
       refine st_val (ro_bf (ro_neq rfl rfl) (bne_self_eq_false _)) ?_
       refine st_val (ro_pickF (v := .bool _) rfl rfl) ?_
       refine mvb rfl ?_
       refine st_unguard rfl ?_
       refine mvi rfl ?_
       refine st_unguard rfl ?_
       refine mvs rfl ?_
       refine st_unguard rfl ?_
       refine mvs rfl ?_
       refine st_unguard rfl ?_
       refine mvi rfl ?_
       refine st_unguard rfl ?_
       refine st_val (ro_indexAddr1 FmLawT_e22 rfl rfl (by omega)) ?_
       refine st_unguard rfl ?_
       refine st_val (ro_load FmLawT_g3 rfl (by exact cellF (((From.rfl_.next E67).next D121).next D138) (hcS i (by omega)))) ?_
       refine st_unguard rfl ?_
       refine mvi rfl ?_
       refine st_unguard rfl ?_
       refine st_call FmLawT_k14 (rank_ref (some ⟨bS, oS, none⟩) c34 Bs.length i (Bs.getD i 0) Bs _ (hr34.from_ (((From.rfl_.next E67).next D121).next D138)) rfl (by omega) (by omega)) ?_
       rintro v130 w142 ⟨rfl, E130⟩
       refine st_unguard rfl ?_
       refine st_val (ro_bf (ro_neq rfl rfl) (bne_self_eq_false _)) ?_
       refine st_val (ro_pickF (v := .bool _) rfl rfl) ?_
       refine st_nil (nx_then ?_)
       refine cd_condF rfl ?_
       refine cd_skip (nx_block (nx_then (cd_region ?_)))
       refine mvi rfl ?_
       refine st_val (ro_addN (b := 1) rfl rfl (by omega)) ?_
       refine asi rfl ?_
       refine st_nil ?_
       refine nx_cut (i + 1) ⟨(by first | rfl | (refine int_eq ?_; omega)), trivial⟩ (by (iterate 171 refine agr_cons rfl ?_); exact agr_rfl) ⟨?_, ?_⟩
       · exact ⟨by omega, hr34.from_ ((((From.rfl_.next E67).next D121).next D138).next E130), hI.from_ ((((From.rfl_.next E67).next D121).next D138).next E130), hT.from_ ((((From.rfl_.next E67).next D121).next D138).next E130), hP1.from_ ((((From.rfl_.next E67).next D121).next D138).next E130), ((((hB.next E67).next D121).next D138).next E130)⟩
       · show Bs.length - (i + 1) < Bs.length - i; omega
   with_reducible replace Q103 := of_decide_eq_false Q103
   refine cd_exit ?_
   refine ex_then (ex_then (ex_block (nx_then (cd_seq (cd_seq (cd_region ?_))))))
   refine asi rfl ?_
   refine st_nil (nx_then (cd_block ?_))
   refine cd_loop (G := Nat) [2, 15, 16, 133, 134, 135, 136, 137, 138, 139, 140, 141, 142, 143, 144, 145, 146, 147, 148, 149, 150, 151, 152, 153, 154, 155, 156, 157, 158, 159, 160, 161, 162] (fun i => [(14, .int .i64 (i : Nat))]) (fun i w' => i ≤ 50 ∧ Blk w' b 38 #[.pointer (some ⟨tb, 0, none⟩), .int .i64 (a : Nat), .slice AS (smp Ln F (Ln.length + 1)).length cs, .slice (some ⟨gr, 0, none⟩) (Ln.length / 8 + 1) (Ln.length / 8 + 1)] ∧ TreeAt w' w.heap.size tb K Bs ∧ Blk w' b1 25 #[.int .i64 (K : Nat), .slice A L.length ca, .slice D ps.length cp, .slice B is.length cb] ∧ From w w') (fun i => 50 - i) (0) ⟨rfl, trivial⟩ ?_ ?_
   · exact ⟨Nat.zero_le _, hI.from_ From.rfl_, hT.from_ From.rfl_, hP1.from_ From.rfl_, hB⟩
   rintro c ρ143 w143 ⟨hc50, hI, hT, hP1, hB⟩
   refine cd_seq (cd_seq (cd_region ?_))
   refine mvi rfl ?_
   refine st_val (ro_fieldAddr FmLawT_f25_0 rfl) ?_
   refine st_val (ro_load FmLawT_g3 rfl (by first | (first | exact (hP1.from_ From.rfl_).whole | exact (hP1.from_ From.rfl_).rd 0 rfl | exact (hP1.from_ From.rfl_).rd 1 rfl | exact (hP1.from_ From.rfl_).rd 2 rfl | exact (hP1.from_ From.rfl_).rd 3 rfl | exact (hI.from_ From.rfl_).rd 0 rfl) | (first | exact (hk1.from_ From.rfl_).whole | exact (hk1.from_ From.rfl_).rd 0 rfl | exact (hk1.from_ From.rfl_).rd 1 rfl | exact (hk1.from_ From.rfl_).rd 2 rfl | exact (hk1.from_ From.rfl_).rd 3 rfl | exact (hI.from_ From.rfl_).rd 0 rfl))) ?_
   refine st_val (ro_leq rfl rfl) ?_
   refine mvb rfl ?_
   refine st_split (t := 137) rfl (fun Q144 => ?_) (fun Q144 => ?_)
   · with_reducible replace Q144 := of_decide_eq_true Q144
     refine st_unguard rfl ?_
     refine mvi rfl ?_
     refine st_unguard rfl ?_
     refine st_val (ro_lss rfl rfl) ?_
     refine st_val (ro_pickT (v := .bool _) rfl rfl) ?_
     refine st_nil (nx_then ?_)
     refine cd_cond rfl (fun Q145 => ?_) (fun Q145 => ?_)
     · with_reducible replace Q145 := of_decide_eq_true Q145
       refine cd_skip (nx_then (cd_seq (cd_block (cd_seq (cd_region ?_)))))
       refine mvp rfl ?_
       refine st_val (ro_nilCheck rfl) ?_
       refine st_val (ro_fieldAddr FmLawT_f38_0 rfl) ?_
       refine st_val (ro_load FmLawT_g34 rfl (by first | (first | exact (hP1.from_ From.rfl_).whole | exact (hP1.from_ From.rfl_).rd 0 rfl | exact (hP1.from_ From.rfl_).rd 1 rfl | exact (hP1.from_ From.rfl_).rd 2 rfl | exact (hP1.from_ From.rfl_).rd 3 rfl | exact (hI.from_ From.rfl_).rd 0 rfl) | (first | exact (hk1.from_ From.rfl_).whole | exact (hk1.from_ From.rfl_).rd 0 rfl | exact (hk1.from_ From.rfl_).rd 1 rfl | exact (hk1.from_ From.rfl_).rd 2 rfl | exact (hk1.from_ From.rfl_).rd 3 rfl | exact (hI.from_ From.rfl_).rd 0 rfl))) ?_
       refine mvi rfl ?_
       refine st_call FmLawT_k15 (less_n2 _ tb K Bs _ (hT.from_ From.rfl_) c (by omega)) ?_
       rintro v149 w146 ⟨rfl, rfl⟩
       refine mvt rfl ?_
       refine st_val (ro_extract rfl rfl) ?_
       refine st_val (ro_extract rfl rfl) ?_
       refine asi rfl ?_
       refine asi rfl ?_
       refine st_nil (nx_then (cd_seq (cd_region ?_)))
       refine mvi rfl ?_
       refine st_call FmLawT_k13 (num_any _ _) ?_
       rintro v153 w147 ⟨rfl, rfl⟩
       refine st_val (ro_bf (ro_neq rfl rfl) (bne_self_eq_false _)) ?_
       refine mvb rfl ?_
       refine st_unguard rfl ?_
       refine mvi rfl ?_
       refine st_unguard rfl ?_
       refine st_val (ro_fieldAddr FmLawT_f25_1 rfl) ?_
       refine st_unguard rfl ?_
       refine st_val (ro_load FmLawT_g22 rfl (by first | (first | exact (hP1.from_ From.rfl_).whole | exact (hP1.from_ From.rfl_).rd 0 rfl | exact (hP1.from_ From.rfl_).rd 1 rfl | exact (hP1.from_ From.rfl_).rd 2 rfl | exact (hP1.from_ From.rfl_).rd 3 rfl | exact (hI.from_ From.rfl_).rd 0 rfl) | (first | exact (hk1.from_ From.rfl_).whole | exact (hk1.from_ From.rfl_).rd 0 rfl | exact (hk1.from_ From.rfl_).rd 1 rfl | exact (hk1.from_ From.rfl_).rd 2 rfl | exact (hk1.from_ From.rfl_).rd 3 rfl | exact (hI.from_ From.rfl_).rd 0 rfl))) ?_
       refine st_unguard rfl ?_
       refine mvi rfl ?_
       refine st_unguard rfl ?_
       refine st_call FmLawT_k16 (less_ref A ca L.length c Ln _ (by rw [← hLn]; exact ha.rowL.from_ hB) hLl.symm (by omega)) ?_
       rintro v160 w148 ⟨rfl, E160⟩
       refine st_unguard rfl ?_
       refine st_val (ro_bf (ro_neq rfl rfl) (by rw [hBl, ← hLl, bw_les hbw]; exact bne_self_eq_false _)) ?_
       refine st_val (ro_pickF (v := .bool _) rfl rfl) ?_
       refine st_nil (nx_then ?_)
       refine cd_condF rfl ?_
       refine cd_skip (nx_block (nx_then (cd_region ?_)))
       refine mvi rfl ?_
       refine st_val (ro_addN (b := 1) rfl rfl (by omega)) ?_
       refine asi rfl ?_
       refine st_nil ?_
       refine nx_cut (c + 1) ⟨(by first | rfl | (refine int_eq ?_; omega)), trivial⟩ (by (iterate 68 refine agr_cons rfl ?_); exact agr_rfl) ⟨?_, ?_⟩
       · exact ⟨by omega, hI.from_ (From.rfl_.next E160), hT.from_ (From.rfl_.next E160), hP1.from_ (From.rfl_.next E160), (hB.next E160)⟩
       · show 50 - (c + 1) < 50 - c; omega
     with_reducible replace Q145 := of_decide_eq_false Q145
     refine cd_exit ?_
     refine ex_then (ex_then (ex_block (nx_then (cd_seq (cd_region ?_)))))
     refine st_call FmLawT_k6 (wakes_rt _) ?_
     rintro v163 w149 ⟨rfl, E163⟩
     refine asb rfl ?_
     refine st_nil (nx_then (cd_ret ?_))
     refine res1 (v := .bool _) rfl rfl ?_
     exact ⟨rfl, (hB.next E163)⟩
   with_reducible replace Q144 := of_decide_eq_false Q144
   refine st_gno rfl rfl ?_
   refine st_gno rfl rfl ?_
   refine st_val (ro_pickF (v := .bool _) rfl rfl) ?_
   refine st_nil (nx_then ?_)
   refine cd_condF rfl ?_
   refine cd_exit ?_
   refine ex_then (ex_then (ex_block (nx_then (cd_seq (cd_region ?_)))))
   refine st_call FmLawT_k6 (wakes_rt _) ?_
   rintro v163 w150 ⟨rfl, E163⟩
   refine asb rfl ?_
   refine st_nil (nx_then (cd_ret ?_))
   refine res1 (v := .bool _) rfl rfl ?_
   exact ⟨rfl, (hB.next E163)⟩
theorem tree_arg (cs : Array Value) (x : (Ty.pr (.int .i64) (.pr (.sl (.int .i64)) (.pr (.sl (.sl (.int .i64))) (.pr (.sl (.int .i64)) .unit)))).den) (w : World) (hs : cs.size = 4) (h : (Ty.pr (.int .i64) (.pr (.sl (.int .i64)) (.pr (.sl (.sl (.int .i64))) (.pr (.sl (.int .i64)) .unit)))).At w (fun j => cs[j]?) x) (hT : TZ w) :
    Rt Tryd.prog 3 [.agg cs] w fun v w' => v = .bool true ∧ From w w' := by
  obtain ⟨k, A, ca, L, D, cp, ps, B, cb, is, rfl, ha, hcap⟩ := ask_of6 hs h
  exact tree_law k A D B ca cp cb L ps is w ha hT
/-- A WORLD FOR THE WITNESS: the settled one, the variables holding what their initialisers lay. -/
noncomputable def FmTree_world (os : Os) : World :=
  { World.holding Tryd.prog os ⟨#[], #[], []⟩ with heap := (World.holding Tryd.prog os ⟨#[], #[], []⟩).heap.modify 0 fun | .cells _ t frozen => .cells #[.int .u8 0, .int .u8 1, .int .u8 56, .int .u8 2, .int .u8 57, .int .u8 49, .int .u8 28, .int .u8 3, .int .u8 61, .int .u8 58, .int .u8 42, .int .u8 50, .int .u8 38, .int .u8 29, .int .u8 17, .int .u8 4, .int .u8 62, .int .u8 47, .int .u8 59, .int .u8 36, .int .u8 45, .int .u8 43, .int .u8 51, .int .u8 22, .int .u8 53, .int .u8 39, .int .u8 33, .int .u8 30, .int .u8 24, .int .u8 18, .int .u8 12, .int .u8 5, .int .u8 63, .int .u8 55, .int .u8 48, .int .u8 27, .int .u8 60, .int .u8 41, .int .u8 37, .int .u8 16, .int .u8 46, .int .u8 35, .int .u8 44, .int .u8 21, .int .u8 52, .int .u8 32, .int .u8 23, .int .u8 11, .int .u8 54, .int .u8 26, .int .u8 40, .int .u8 15, .int .u8 34, .int .u8 20, .int .u8 31, .int .u8 10, .int .u8 25, .int .u8 14, .int .u8 19, .int .u8 9, .int .u8 13, .int .u8 8, .int .u8 7, .int .u8 6] t frozen | o => o }
theorem FmTree_met (os : Os) : laidMet Tryd.prog Rows.fmTreeRow.laid ((FmTree_world os).forCall (fun _ _ => 0) ⟨#[], #[.agg #[.int .i64 0, .slice none 0 0, .slice none 0 0, .slice none 0 0]], []⟩).memory :=
  laidMet_of_run' 8 (by kernel_rfl) (by kernel_rfl)
theorem FmTree_reads (os : Os) {H : Type} (enc : TypeId × Value → H) : ∃ places, DataW.whole enc Tryd.prog ((FmTree_world os).forCall (fun _ _ => 0) ⟨#[], #[.agg #[.int .i64 0, .slice none 0 0, .slice none 0 0, .slice none 0 0]], []⟩).memory Tryd.f3.params.toList Rows.fmTreeSpec.vars false #[(.agg #[.int .i64 0, .slice none 0 0, .slice none 0 0, .slice none 0 0] : Value)].toList 8 = some ([.agg [.lit (.int .i64 0), .nil, .nil, .nil]], [], places) :=
  ⟨[], by kernel_rfl⟩

theorem FmTree_lifted (os : Os) (started : os.Started) (H : Type) (enc : TypeId × Value → H) (F : Stop.Interp) :
    ReturnsInHanded {} Tryd.checked os 3 .any ((OpenSpec.ofChange Rows.fmTreeSpec).preRow enc Tryd.prog Tryd.f3 Rows.fmTreeRow.domain false Rows.fmTreeRow.laid) (((OpenSpec.ofChange Rows.fmTreeSpec).at F).post enc Tryd.prog Tryd.f3 false true false false) := by
  obtain ⟨places, hx⟩ := FmTree_reads os enc
  refine returnsInHanded_of_row (C := Tryd.checked) (s := OpenSpec.ofChange Rows.fmTreeSpec) Tryd.own started (by kernel_rfl) Tryd.func3
    (witness_row_at (enc := enc) (C := Tryd.checked) false (FmTree_world os) #[.agg #[.int .i64 0, .slice none 0 0, .slice none 0 0, .slice none 0 0]] rfl (by kernel_rfl) (by kernel_rfl) (by kernel_rfl)
      (OpenSpec.preRow_of_cond 8 hx (by kernel_rfl) (fun k hk => by cases hk) (by kernel_rfl) (FmTree_met os))) ?_
  intro W base args ds gs before hval hW _ _ hsz hL hS _
  exact law_step_laid 3 Tryd.f3 25 4 Rows.fmTreeSpec Tryd.params3 (by kernel_rfl) Tryd.underlying4 rfl (fun _ => rfl) (by kernel_rfl) (of_decide_eq_true (by kernel_rfl)) Rows.fmTreeRow.laid (walk_laid (.int .i64) (.pr (.sl (.int .i64)) (.pr (.sl (.sl (.int .i64))) (.pr (.sl (.int .i64)) .unit))) (by kernel_rfl) Rows.fmTreeRow.laid (fun _ h => table_of h) tree_arg) W base args ds gs before hval hW hsz hL hS

theorem FmTree_said : Rows.FmTreeSaid :=
  OpenClaim.holds_of_cond 3 Tryd.f3 rfl rfl rfl rfl rfl rfl rfl ⟨rfl, rfl, rfl, rfl, rfl⟩ rfl rfl rfl rfl rfl (by kernel_rfl) Tryd.func3 (by kernel_rfl)
    (of_decide_eq_true (by kernel_rfl)) (by unfold Func.isWrapper; first | (rw [if_pos (by decide +kernel)]; kernel_rfl) | (rw [if_neg (by decide +kernel)]; exact ⟨rfl, rfl⟩))
    (fun os started H enc _ F => by rw [OpenClaim.pre_eq_preRow]; exact FmTree_lifted os started H enc F)

theorem FmTree_plain (f : FuncId) (fn : Func) (hf : Tryd.pinned.checked.prog.funcNamed "lectern/lecternlaw6.FmTree" = some f) (hfn : Tryd.pinned.checked.prog.funcs[f]? = some fn) :
    false = Tryd.pinned.checked.prog.looks [] ∧ ∀ (j : Nat) t, fn.params[j]? = some t → Tryd.pinned.checked.prog.wantsStandIn t = false := by
  obtain rfl : f = 3 := Option.some.inj ((show Tryd.prog.funcNamed "lectern/lecternlaw6.FmTree" = some 3 by kernel_rfl).symm.trans hf) |>.symm
  obtain rfl : fn = Tryd.f3 := (Option.some.inj (Tryd.func3.symm.trans hfn)).symm
  refine ⟨by kernel_rfl, fun j t ht => ?_⟩
  rw [(Tryd.params3)] at ht
  obtain rfl : t = 25 := by simpa using Array.mem_of_getElem? ht
  exact (show Tryd.prog.wantsStandIn 25 = false by kernel_rfl)

theorem FmTree_holds : Rows.FmTreeCardSaid :=
  Claim7.holds_tied_plain_at .later [] _ _ _ _ FmTree_said (fun _ h => by cases h) (by kernel_rfl) (fun _ h => by cases h) fmTree_row_tie rfl ⟨rfl, rfl⟩ (by kernel_rfl) rfl FmTree_plain (by kernel_rfl)
#print axioms FmTree_holds

end Go.Proofs.YtepdgbglaiimaaaDoor
