/- wavelet: first, up, Select. -/
import Derived.Test.YtmiclfhpenjjfaaDoorWavSel
import Derived.Test.YtmiclfhpenjjfaaDoorWavRank
namespace Go.Proofs.YtmiclfhpenjjfaaDoor
open Go.RowKit
open Go.ChangeShapes Go.WideShapes Go.ChangeAt
theorem WavSelW_f49_0 : fieldQ Tryd.prog 49 0 = some 0 := by kernel_rfl
theorem WavSelW_g47 : aggQ Tryd.prog 47 = some false := by kernel_rfl
theorem WavSelW_f49_1 : fieldQ Tryd.prog 49 1 = some 1 := by kernel_rfl
theorem WavSelW_g3 : aggQ Tryd.prog 3 = some false := by kernel_rfl
theorem WavSelW_k32 : callable Tryd.prog 32 = true := by kernel_rfl
theorem WavSelW_k33 : callable Tryd.prog 33 = true := by kernel_rfl
theorem WavSelW_g49 : aggQ Tryd.prog 49 = some true := by kernel_rfl
theorem WavSelW_z49 : sizeQ Tryd.prog 49 = some 3 := by kernel_rfl
theorem WavSelW_f45_0 : fieldQ Tryd.prog 45 0 = some 0 := by kernel_rfl
theorem WavSelW_g43 : aggQ Tryd.prog 43 = some false := by kernel_rfl
theorem WavSelW_l43 : (elemQ Tryd.prog 43).isSome = true := by kernel_rfl
theorem WavSelW_e43 : elemQ Tryd.prog 43 = some (49, 3) := by kernel_rfl
theorem WavSelW_o49 : zeroQ Tryd.prog 49 = some (.agg #[.pointer none, .int .i64 0, .int .i64 0]) := by kernel_rfl
theorem WavSelW_k23 : callable Tryd.prog 23 = true := by kernel_rfl
theorem WavSelW_k29 : callable Tryd.prog 29 = true := by kernel_rfl
theorem WavSelW_k20 : callable Tryd.prog 20 = true := by kernel_rfl
theorem WavSelW_f45_1 : fieldQ Tryd.prog 45 1 = some 1 := by kernel_rfl
theorem WavSelW_g22 : aggQ Tryd.prog 22 = some false := by kernel_rfl
theorem WavSelW_e22 : elemQ Tryd.prog 22 = some (3, 1) := by kernel_rfl
theorem WavSelW_k21 : callable Tryd.prog 21 = true := by kernel_rfl
theorem WavSelW_k22 : callable Tryd.prog 22 = true := by kernel_rfl
theorem down_le {s : Nat} {M : List Nat} {i : Nat} (h : i ≤ M.length) (b : Bool) : downN s M i b ≤ M.length := by
  unfold downN
  have h1 := zo_len s M
  have h2 := zo_len s (M.take i)
  rw [List.length_take] at h2
  have h3 : (onesL s (M.take i)).length ≤ (onesL s M).length := ((List.take_sublist i M).filter (bitN s)).length_le
  cases b <;> simp <;> omega
theorem path_le {n c q : Nat} {L : List Nat} (h : q ≤ L.length) : ∀ m, pathP n L c q m ≤ L.length
  | 0 => h
  | m + 1 => by
    have := down_le (s := n - 1 - m) (M := lvl n L m) (i := pathP n L c q m) (by rw [lvl_len]; exact path_le h m) (bitN (n - 1 - m) c)
    rwa [lvl_len] at this
/-- an occurrence on its way -/
theorem path_occ {n c q : Nat} {L : List Nat} (hq : q < L.length) (hc : L[q] = c) (m : Nat) : ∃ h : pathP n L c q m < (lvl n L m).length, (lvl n L m)[pathP n L c q m] = c := by
  have hX : L = L.take q ++ [c] ++ L.drop (q + 1) := by rw [← hc]; simp
  obtain ⟨X', Z', h1, h2⟩ := path_elem (n := n) hX m
  rw [List.length_take, Nat.min_eq_left (Nat.le_of_lt hq)] at h2
  refine ⟨by rw [h1, ← h2]; simp, ?_⟩
  simp only [h1, ← h2]
  simp
theorem bt_map {s p : Nat} {M : List Nat} (hp : p < M.length) : bt (M.map (bitN s)) p = bitN s M[p] := by
  unfold bt
  rw [List.getD_eq_getElem?_getD, List.getElem?_map, List.getElem?_eq_getElem hp]
  rfl
set_option maxRecDepth 100000 in
set_option maxHeartbeats 400000 in
theorem up_l (base v z s p : Nat) (M : List Nat) (w : World) (hv : Vec w base v (M.map (bitN s))) (hp : p < M.length) (hz : z = (zerosL s M).length) (hM : M.length ≤ 131072) (hT : TZ w) (b : Bool) (hb : bitN s M[p] = b) :
    Rt Tryd.prog 22 [.agg (lvlV v z s).toArray, .int .i64 (downN s M p b : Nat), .bool b] w (fun v w' => v = .int .i64 (p : Nat) ∧ From w w') := by
  have hpl : p < (M.map (bitN s)).length := by rw [List.length_map]; exact hp
  have hbt := (bt_map (s := s) hp).trans hb
  refine enter (n := 27) Tryd.func22 rfl rfl rfl ?_
  refine cd_seq ?_
  refine cd_region ?_
  refine st_box (v := .agg _) rfl ?_
  intro b3 w1 E3 hb3 hk3
  refine st_val (ro_assign (v := .int _ _) rfl) ?_
  refine st_nil ?_
  refine nx_then ?_
  refine cd_seq ?_
  refine cd_region ?_
  refine st_val (ro_assign (v := .int _ _) rfl) ?_
  refine st_nil ?_
  refine nx_then ?_
  refine cd_seq ?_
  refine cd_seq ?_
  refine cd_region ?_
  refine st_val (ro_move (v := .bool _) rfl) ?_
  refine st_nil ?_
  refine nx_then ?_
  refine cd_cond rfl (fun Q2 => ?_) (fun Q2 => ?_)
  · (try first | replace Q2 := bn_t Q2 | replace Q2 := bn_f Q2)
    (try first | replace Q2 := bx_t Q2 | replace Q2 := bx_f Q2 | replace Q2 := be_t Q2 | replace Q2 := be_f Q2 | replace Q2 := of_decide_eq_true Q2 | replace Q2 := of_decide_eq_false Q2)
    obtain rfl : b = true := by simpa using Q2
    rw [up_ones (Nat.le_of_lt hp)]
    have hrl := rk_le (M.map (bitN s)) p
    subst hz
    refine cd_region ?_
    refine st_val (ro_fieldAddr WavSelW_f49_0 rfl) ?_
    refine st_val (ro_load WavSelW_g47 rfl (by exact (hk3.from_ From.rfl_).rd 0 rfl)) ?_
    refine st_val (ro_move (v := .int _ _) rfl) ?_
    refine st_val (ro_fieldAddr WavSelW_f49_1 rfl) ?_
    refine st_val (ro_load WavSelW_g3 rfl (by exact (hk3.from_ From.rfl_).rd 1 rfl)) ?_
    refine st_val (ro_subN rfl rfl (by have := zo_len s M; omega)) ?_
    refine st_spell (t := 15) (v := .int _ _) (v' := .int .i64 ((rk (M.map (bitN s)) p : Nat) : Int)) rfl (by rw [Nat.add_sub_cancel_left]) ?_
    refine st_call WavSelW_k32 (sel1_is base v p _ _ (hv.from_ (From.rfl_.next E3)) (hT.from_ (From.rfl_.next E3)) hpl hbt) ?_
    rintro v16 w3 ⟨rfl, E16⟩
    refine st_val (ro_move (v := .tuple _) rfl) ?_
    refine st_val (ro_extract rfl rfl) ?_
    refine st_val (ro_extract rfl rfl) ?_
    refine st_val (ro_assign (v := .int _ _) rfl) ?_
    refine st_nil ?_
    refine nx_then ?_
    refine cd_seq ?_
    refine cd_region ?_
    refine st_val (ro_move (v := .int _ _) rfl) ?_
    refine st_val (ro_assign (v := .int _ _) rfl) ?_
    refine st_nil ?_
    refine nx_then ?_
    refine cd_ret ?_
    refine res1 (v := .int _ _) rfl rfl ?_
    exact ⟨rfl, ((From.rfl_.next E3).next E16)⟩
  · (try first | replace Q2 := bn_t Q2 | replace Q2 := bn_f Q2)
    (try first | replace Q2 := bx_t Q2 | replace Q2 := bx_f Q2 | replace Q2 := be_t Q2 | replace Q2 := be_f Q2 | replace Q2 := of_decide_eq_true Q2 | replace Q2 := of_decide_eq_false Q2)
    obtain rfl : b = false := by simpa using Q2
    rw [up_zeros (Nat.le_of_lt hp)]
    subst hz
    refine cd_region ?_
    refine st_val (ro_fieldAddr WavSelW_f49_0 rfl) ?_
    refine st_val (ro_load WavSelW_g47 rfl (by exact (hk3.from_ From.rfl_).rd 0 rfl)) ?_
    refine st_val (ro_move (v := .int _ _) rfl) ?_
    refine st_call WavSelW_k33 (sel0_is base v p _ _ (hv.from_ (From.rfl_.next E3)) (hT.from_ (From.rfl_.next E3)) hpl hbt) ?_
    rintro v23 w4 ⟨rfl, E23⟩
    refine st_val (ro_move (v := .tuple _) rfl) ?_
    refine st_val (ro_extract rfl rfl) ?_
    refine st_val (ro_extract rfl rfl) ?_
    refine st_val (ro_assign (v := .int _ _) rfl) ?_
    refine st_nil ?_
    refine nx_then ?_
    refine cd_seq ?_
    refine cd_region ?_
    refine st_val (ro_move (v := .int _ _) rfl) ?_
    refine st_val (ro_assign (v := .int _ _) rfl) ?_
    refine st_nil ?_
    refine nx_then ?_
    refine cd_ret ?_
    refine res1 (v := .int _ _) rfl rfl ?_
    exact ⟨rfl, ((From.rfl_.next E3).next E23)⟩
set_option maxRecDepth 100000 in
set_option maxHeartbeats 400000 in
theorem firstT (base b K : Nat) (L : List Nat) (w : World) (ht : TreeAt w base b K L) (cc : Nat) (hc : cc < 1024) :
    Rt Tryd.prog 21 [.pointer (some ⟨b, 0, none⟩), .int .i64 (cc : Nat)] w (fun v w' => v = .int .i64 (pathP (nlv K) L cc 0 (nlv K) : Nat) ∧ From w w') := by
  obtain ⟨hb0, AT, cT, g, vs, hT, ho, hVs, hg0, hg2, hK1, hK2, hlt, hLl⟩ := ht
  refine enter (n := 25) Tryd.func21 rfl rfl rfl ?_
  refine cd_seq ?_
  refine cd_region ?_
  refine st_val (ro_assign (v := .int _ _) rfl) ?_
  refine st_nil ?_
  refine nx_then ?_
  refine cd_seq ?_
  refine cd_region ?_
  refine st_val (ro_assign (v := .int _ _) rfl) ?_
  refine st_nil ?_
  refine nx_then ?_
  refine cd_seq ?_
  refine cd_seq ?_
  refine cd_region ?_
  refine st_val (ro_move (v := .pointer _) rfl) ?_
  refine st_val (ro_nilCheck rfl) ?_
  refine st_val (ro_fieldAddr WavSelW_f45_0 rfl) ?_
  refine st_val (ro_load WavSelW_g43 rfl (by exact hT.rd 0 rfl)) ?_
  refine st_val (ro_len WavSelW_l43 rfl) ?_
  refine st_val (ro_move (v := .int _ _) rfl) ?_
  refine st_nil ?_
  refine nx_then ?_
  refine cd_block ?_
  refine cd_loop (G := Nat) [7, 14, 15, 16, 17, 18, 19, 20, 21, 22, 23] (fun j => [(5, .int .i64 (pathP (nlv K) L cc 0 j : Nat)), (13, .int .i64 (j : Nat))]) (fun j w' => j ≤ nlv K ∧ From w w') (fun j => nlv K - j) (0) ⟨rfl, rfl, trivial⟩ ?_ ?_
  · exact ⟨Nat.zero_le _, From.rfl_⟩
  rintro j ρ1 w1 ⟨hj, hB⟩
  refine cd_seq ?_
  refine cd_region ?_
  refine st_val (ro_lss rfl rfl) ?_
  refine st_nil ?_
  refine nx_then ?_
  refine cd_seq ?_
  refine cd_cond rfl (fun Q2 => ?_) (fun Q2 => ?_)
  · (try first | replace Q2 := bn_t Q2 | replace Q2 := bn_f Q2)
    (try first | replace Q2 := bx_t Q2 | replace Q2 := bx_f Q2 | replace Q2 := be_t Q2 | replace Q2 := be_f Q2 | replace Q2 := of_decide_eq_true Q2 | replace Q2 := of_decide_eq_false Q2)
    have hjn : j < nlv K := by omega
    obtain ⟨gA, rfl, hlv⟩ := lvls_own ho (by omega)
    first
     | (exfalso; first | omega | contradiction | (cases Q2; done))
     | skip
       refine cd_skip ?_
       refine nx_then ?_
       refine cd_seq ?_
       refine cd_block ?_
       refine cd_seq ?_
       refine cd_region ?_
       refine st_val (ro_indexAddr WavSelW_e43 rfl rfl (by omega)) ?_
       refine st_val (ro_loadA (cs := [_, _, _]) WavSelW_g49 WavSelW_z49 rfl (by rw [ix3]; exact rangeF hB (hlv j hjn))) ?_
       refine st_alloc WavSelW_o49 ?_
       intro b7 w3 E7 hb7 hk7
       refine st_putW (vs := [_, _, _]) WavSelW_z49 rfl rfl (by simp [Value.oneCell']) (hk7) rfl ?_
       intro w4 O4 P4
       refine st_nil ?_
       refine nx_then ?_
       apply cd_drawnD 7 [(17, eqp (.agg (lvlV (vs j) (zerosL (nlv K - 1 - j) (lvl (nlv K) L j)).length (nlv K - 1 - j)).toArray)), (18, eqp _), (19, eqp (.agg (lvlV (vs j) (zerosL (nlv K - 1 - j) (lvl (nlv K) L j)).length (nlv K - 1 - j)).toArray)), (20, eqp _), (21, eqp _), (22, eqp _), (5, eqp _)] (by repeat first | exact pq_body | refine pq_then ?_ | refine pq_block ?_) (by kernel_rfl) (by kernel_rfl) ⟨eqp_mono _, eqp_mono _, eqp_mono _, eqp_mono _, eqp_mono _, eqp_mono _, eqp_mono _, trivial⟩
       case hop =>
        refine ⟨?_, ?_⟩
        · rintro - w6 D6
          show OpOK _ _ _ _ _ _ _
          exact ok_pure (ro_loadA (cs := (lvlV (vs j) (zerosL (nlv K - 1 - j) (lvl (nlv K) L j)).length (nlv K - 1 - j))) WavSelW_g49 WavSelW_z49 rfl ((P4.from_ (From.rfl_.next D6)).whole)) rfl
        refine ⟨?_, ?_⟩
        · rintro - w7 D7
          show OpOK _ _ _ _ _ _ _
          exact ok_pure (ro_move (v := .int _ _) rfl) rfl
        refine ⟨?_, ?_⟩
        · rintro - w8 D8
          show OpOK _ _ _ _ _ _ _
          exact ok_pure (ro_loadA (cs := (lvlV (vs j) (zerosL (nlv K - 1 - j) (lvl (nlv K) L j)).length (nlv K - 1 - j))) WavSelW_g49 WavSelW_z49 rfl ((P4.from_ (From.rfl_.next D8)).whole)) rfl
        refine ⟨?_, ?_⟩
        · rintro - w9 D9
          show OpOK _ _ _ _ _ _ _
          exact ok_pure (ro_move (v := .int _ _) rfl) rfl
        refine ⟨?_, ?_⟩
        · rintro - w10 D10
          rintro v10_19 rfl _ rfl
          show OpOK _ _ _ _ _ _ _
          refine ok_call WavSelW_k23 ((one_l (vs j) _ (nlv K - 1 - j) cc _ (by have := nlv_le hK2; omega) hc).mono ?_)
          rintro v _ ⟨rfl, E10'⟩; exact ⟨E10', rfl⟩
        refine ⟨?_, ?_⟩
        · rintro - w11 D11
          rintro v11_17 rfl _ rfl _ rfl
          show OpOK _ _ _ _ _ _ _
          refine ok_call WavSelW_k29 ((down_l base (vs j) _ (nlv K - 1 - j) (pathP (nlv K) L cc 0 j) (lvl (nlv K) L j) _ ((hVs j hjn).from_ (((hB.next E7).only O4 (by rw [hb7]; exact hB.size)).next D11)) (by rw [lvl_len]; exact path_le (Nat.zero_le _) j) rfl (by rw [lvl_len]; exact hLl) (bitN (nlv K - 1 - j) cc)).mono ?_)
          rintro v _ ⟨rfl, E11'⟩; exact ⟨E11', rfl⟩
        refine ⟨?_, ?_⟩
        · rintro - w12 D12
          rintro _ rfl
          show OpOK _ _ _ _ _ _ _
          exact ok_pure (ro_assign (v := .int _ _) rfl) rfl
        exact trivial
       case hend =>
        intro w13 D13
        rintro v17 rfl _ rfl v19 rfl _ rfl _ rfl _ rfl _ rfl
        show St _ _ _ _ _ _ _
        refine st_nil ?_
        refine nx_block ?_
        refine nx_then ?_
        refine cd_region ?_
        refine st_val (ro_addN (b := 1) rfl rfl (by have := nlv_le hK2; omega)) ?_
        refine st_val (ro_move (v := .int _ _) rfl) ?_
        refine st_nil ?_
        refine nx_cut (j + 1) ⟨(by first | rfl | (refine int_eq ?_; omega)), (by first | rfl | (refine int_eq ?_; omega)), trivial⟩ (by (iterate 26 refine agr_cons rfl ?_); exact agr_rfl) ⟨?_, ?_⟩
        · exact ⟨by omega, (((hB.next E7).only O4 (by rw [hb7]; exact hB.size)).next D13)⟩
        · omega
  · (try first | replace Q2 := bn_t Q2 | replace Q2 := bn_f Q2)
    (try first | replace Q2 := bx_t Q2 | replace Q2 := bx_f Q2 | replace Q2 := be_t Q2 | replace Q2 := be_f Q2 | replace Q2 := of_decide_eq_true Q2 | replace Q2 := of_decide_eq_false Q2)
    first
     | (exfalso; first | omega | contradiction | (cases Q2; done))
     | skip
       refine cd_exit ?_
       refine ex_then ?_
       refine ex_then ?_
       refine ex_block ?_
       refine nx_then ?_
       refine cd_seq ?_
       refine cd_region ?_
       refine st_val (ro_move (v := .int _ _) rfl) ?_
       refine st_val (ro_assign (v := .int _ _) rfl) ?_
       refine st_nil ?_
       refine nx_then ?_
       refine cd_ret ?_
       refine res1 (v := .int _ _) rfl rfl ?_
       obtain rfl : j = nlv K := by omega
       exact ⟨rfl, hB⟩
def slE (K : Nat) (L : List Nat) (c j : Int) : Int := if 0 ≤ c ∧ c < K then selE (cb L c.toNat) false j else 1
def slV (K : Nat) (L : List Nat) (c j : Int) : Int := if 0 ≤ c ∧ c < K then selP (cb L c.toNat) false j else 0
set_option maxRecDepth 100000 in
set_option maxHeartbeats 400000 in
theorem selectT (base b K : Nat) (L : List Nat) (w : World) (ht : TreeAt w base b K L) (hTZ : TZ w) (c i : Int) :
    Rt Tryd.prog 10 [.pointer (some ⟨b, 0, none⟩), .int .i64 c, .int .i64 i] w (fun v w' => v = .tuple #[.int .i64 (slV K L c i), .int .i64 (slE K L c i)] ∧ From w w') := by
  have htt := ht
  obtain ⟨hb0, AT, cT, g, vs, hT, ho, hVs, hg0, hg2, hK1, hK2, hlt, hLl⟩ := ht
  refine enter (n := 70) Tryd.func10 rfl rfl rfl ?_
  refine cd_seq ?_
  refine cd_region ?_
  refine st_val (ro_assign (v := .int _ _) rfl) ?_
  refine st_val (ro_assign (v := .int _ _) rfl) ?_
  refine st_nil ?_
  refine nx_then ?_
  refine cd_seq ?_
  refine cd_seq ?_
  refine cd_region ?_
  refine st_val (ro_move (v := .pointer _) rfl) ?_
  refine st_val (ro_move (v := .int _ _) rfl) ?_
  refine st_call WavSelW_k20 (knownT base b K L _ htt c) ?_
  rintro v12 w1 ⟨rfl, rfl⟩
  refine st_val (ro_not rfl) ?_
  refine st_nil ?_
  refine nx_then ?_
  refine cd_cond rfl (fun Q2 => ?_) (fun Q2 => ?_)
  · (try first | replace Q2 := bn_t Q2 | replace Q2 := bn_f Q2)
    (try first | replace Q2 := bx_t Q2 | replace Q2 := bx_f Q2 | replace Q2 := be_t Q2 | replace Q2 := be_f Q2 | replace Q2 := of_decide_eq_true Q2 | replace Q2 := of_decide_eq_false Q2)
    have hkn : ¬ (0 ≤ c ∧ c < (K : Nat)) := by simpa using Q2
    first
     | (exfalso; first | omega | contradiction | (cases Q2; done))
     | skip
       refine cd_seq ?_
       refine cd_region ?_
       refine st_val (ro_assign (v := .int _ _) rfl) ?_
       refine st_val (ro_assign (v := .int _ _) rfl) ?_
       refine st_nil ?_
       refine nx_then ?_
       refine cd_ret ?_
       refine rt_then ?_
       refine res2 (v := .int _ _) (v' := .int _ _) rfl rfl rfl ?_
       refine ⟨?_, From.rfl_⟩
       unfold slV slE
       rw [if_neg hkn, if_neg hkn]
  · (try first | replace Q2 := bn_t Q2 | replace Q2 := bn_f Q2)
    (try first | replace Q2 := bx_t Q2 | replace Q2 := bx_f Q2 | replace Q2 := be_t Q2 | replace Q2 := be_f Q2 | replace Q2 := of_decide_eq_true Q2 | replace Q2 := of_decide_eq_false Q2)
    have hkn : 0 ≤ c ∧ c < (K : Nat) := by simpa using Q2
    obtain ⟨cc, rfl⟩ : ∃ cc : Nat, c = (cc : Int) := ⟨c.toNat, by omega⟩
    have hcd := cnt_diff (L := L) (c := cc)
    have hcl : cntLt L (cc + 1) ≤ L.length := List.countP_le_length
    first
     | (exfalso; first | omega | contradiction | (cases Q2; done))
     | skip
       refine cd_skip ?_
       refine nx_then ?_
       refine cd_seq ?_
       refine cd_seq ?_
       rcases Int.lt_or_le i 0 with hneg | hpos
       · apply cd_drawnD 22 [(14, eqp _), (15, eqp _), (16, eqp _), (17, eqp _), (18, eqp _), (19, eqp _), (20, eqp _), (21, eqp _), (22, eqp _), (23, eqp _), (24, eqp _), (25, eqp _), (26, eqp _), (27, eqp _), (28, eqp _), (29, eqp _), (30, eqp _), (31, eqp _), (32, eqp _), (33, eqp _), (34, eqp _), (35, eqp _)] (by repeat first | exact pq_body | refine pq_then ?_ | refine pq_block ?_) (by kernel_rfl) (by kernel_rfl) ⟨eqp_mono _, eqp_mono _, eqp_mono _, eqp_mono _, eqp_mono _, eqp_mono _, eqp_mono _, eqp_mono _, eqp_mono _, eqp_mono _, eqp_mono _, eqp_mono _, eqp_mono _, eqp_mono _, eqp_mono _, eqp_mono _, eqp_mono _, eqp_mono _, eqp_mono _, eqp_mono _, eqp_mono _, eqp_mono _, trivial⟩
         case hop =>
          refine ⟨?_, ?_⟩
          · rintro - w4 D4
            show OpOK _ _ _ _ _ _ _
            exact ok_pure (ro_move (v := .int _ _) rfl) rfl
          refine ⟨?_, ?_⟩
          · rintro - w5 D5
            rintro _ rfl
            show OpOK _ _ _ _ _ _ _
            exact ok_pure (ro_bt (ro_lss rfl rfl) (decide_eq_true (by omega))) rfl
          refine ⟨?_, ?_⟩
          · rintro - w6 D6
            rintro _ rfl
            show OpOK _ _ _ _ _ _ _
            exact ok_pure (ro_move (v := .bool _) rfl) rfl
          refine ⟨?_, ?_⟩
          · rintro - w7 D7
            rintro _ rfl
            show OpOK _ _ _ _ _ _ _
            exact ok_gno rfl rfl rfl
          refine ⟨?_, ?_⟩
          · rintro - w8 D8
            rintro _ rfl
            show OpOK _ _ _ _ _ _ _
            exact ok_gno rfl rfl rfl
          refine ⟨?_, ?_⟩
          · rintro - w9 D9
            rintro _ rfl _ rfl
            show OpOK _ _ _ _ _ _ _
            exact ok_gno rfl rfl rfl
          refine ⟨?_, ?_⟩
          · rintro - w10 D10
            rintro _ rfl _ rfl
            show OpOK _ _ _ _ _ _ _
            exact ok_gno rfl rfl rfl
          refine ⟨?_, ?_⟩
          · rintro - w11 D11
            rintro _ rfl _ rfl
            show OpOK _ _ _ _ _ _ _
            exact ok_gno rfl rfl rfl
          refine ⟨?_, ?_⟩
          · rintro - w12 D12
            rintro _ rfl
            show OpOK _ _ _ _ _ _ _
            exact ok_gno rfl rfl rfl
          refine ⟨?_, ?_⟩
          · rintro - w13 D13
            rintro _ rfl _ rfl
            show OpOK _ _ _ _ _ _ _
            exact ok_gno rfl rfl rfl
          refine ⟨?_, ?_⟩
          · rintro - w14 D14
            rintro _ rfl _ rfl _ rfl
            show OpOK _ _ _ _ _ _ _
            exact ok_gno rfl rfl rfl
          refine ⟨?_, ?_⟩
          · rintro - w15 D15
            rintro _ rfl _ rfl
            show OpOK _ _ _ _ _ _ _
            exact ok_gno rfl rfl rfl
          refine ⟨?_, ?_⟩
          · rintro - w16 D16
            rintro _ rfl
            show OpOK _ _ _ _ _ _ _
            exact ok_gno rfl rfl rfl
          refine ⟨?_, ?_⟩
          · rintro - w17 D17
            rintro _ rfl _ rfl
            show OpOK _ _ _ _ _ _ _
            exact ok_gno rfl rfl rfl
          refine ⟨?_, ?_⟩
          · rintro - w18 D18
            rintro _ rfl _ rfl
            show OpOK _ _ _ _ _ _ _
            exact ok_gno rfl rfl rfl
          refine ⟨?_, ?_⟩
          · rintro - w19 D19
            rintro _ rfl _ rfl
            show OpOK _ _ _ _ _ _ _
            exact ok_gno rfl rfl rfl
          refine ⟨?_, ?_⟩
          · rintro - w20 D20
            rintro _ rfl
            show OpOK _ _ _ _ _ _ _
            exact ok_gno rfl rfl rfl
          refine ⟨?_, ?_⟩
          · rintro - w21 D21
            rintro _ rfl _ rfl _ rfl
            show OpOK _ _ _ _ _ _ _
            exact ok_gno rfl rfl rfl
          refine ⟨?_, ?_⟩
          · rintro - w22 D22
            rintro _ rfl _ rfl
            show OpOK _ _ _ _ _ _ _
            exact ok_gno rfl rfl rfl
          refine ⟨?_, ?_⟩
          · rintro - w23 D23
            rintro _ rfl _ rfl _ rfl
            show OpOK _ _ _ _ _ _ _
            exact ok_gno rfl rfl rfl
          refine ⟨?_, ?_⟩
          · rintro - w24 D24
            rintro _ rfl _ rfl _ rfl
            show OpOK _ _ _ _ _ _ _
            exact ok_gno rfl rfl rfl
          refine ⟨?_, ?_⟩
          · rintro - w25 D25
            rintro _ rfl _ rfl
            show OpOK _ _ _ _ _ _ _
            exact ok_pure (ro_pickT (v := .bool _) rfl rfl) rfl
          exact trivial
         case hend =>
          intro w26 D26
          rintro _ rfl _ rfl _ rfl _ rfl _ rfl _ rfl _ rfl _ rfl _ rfl _ rfl _ rfl _ rfl _ rfl _ rfl _ rfl _ rfl _ rfl _ rfl _ rfl _ rfl _ rfl _ rfl
          show St _ _ _ _ _ _ _
          refine st_nil ?_
          refine nx_then ?_
          refine cd_condT rfl ?_
          refine cd_seq ?_
          refine cd_region ?_
          refine st_val (ro_assign (v := .int _ _) rfl) ?_
          refine st_val (ro_assign (v := .int _ _) rfl) ?_
          refine st_nil ?_
          refine nx_then ?_
          refine cd_ret ?_
          refine rt_then ?_
          refine res2 (v := .int _ _) (v' := .int _ _) rfl rfl rfl ?_
          refine ⟨?_, (From.rfl_.next D26)⟩
          have ho2 := occ_out (L := L) (c := cc) (j := i) (by omega)
          unfold slV slE
          rw [if_pos hkn, if_pos hkn, Int.toNat_natCast, selP_no ho2]
          unfold selE
          rw [if_neg (by rw [ho2]; decide)]
       · apply cd_drawnD 22 [(14, eqp _), (15, eqp _), (16, eqp _), (17, eqp _), (18, eqp _), (19, eqp _), (20, eqp _), (21, eqp (.slice (some ⟨g, 0, none⟩) (K + 1) (K + 1))), (22, eqp _), (23, eqp _), (24, eqp _), (25, eqp (nV (cntLt L (cc + 1)))), (26, eqp _), (27, eqp _), (28, eqp _), (29, eqp (.slice (some ⟨g, 0, none⟩) (K + 1) (K + 1))), (30, eqp _), (31, eqp _), (32, eqp (nV (cntLt L cc))), (33, eqp _), (34, eqp _), (35, eqp _)] (by repeat first | exact pq_body | refine pq_then ?_ | refine pq_block ?_) (by kernel_rfl) (by kernel_rfl) ⟨eqp_mono _, eqp_mono _, eqp_mono _, eqp_mono _, eqp_mono _, eqp_mono _, eqp_mono _, eqp_mono _, eqp_mono _, eqp_mono _, eqp_mono _, eqp_mono _, eqp_mono _, eqp_mono _, eqp_mono _, eqp_mono _, eqp_mono _, eqp_mono _, eqp_mono _, eqp_mono _, eqp_mono _, eqp_mono _, trivial⟩
         case hop =>
          refine ⟨?_, ?_⟩
          · rintro - w28 D28
            show OpOK _ _ _ _ _ _ _
            exact ok_pure (ro_move (v := .int _ _) rfl) rfl
          refine ⟨?_, ?_⟩
          · rintro - w29 D29
            rintro _ rfl
            show OpOK _ _ _ _ _ _ _
            exact ok_pure (ro_bf (ro_lss rfl rfl) (decide_eq_false (by omega))) rfl
          refine ⟨?_, ?_⟩
          · rintro - w30 D30
            rintro _ rfl
            show OpOK _ _ _ _ _ _ _
            exact ok_pure (ro_move (v := .bool _) rfl) rfl
          refine ⟨?_, ?_⟩
          · rintro - w31 D31
            rintro _ rfl
            show OpOK _ _ _ _ _ _ _
            exact ok_gpure rfl (ro_move (v := .int _ _) rfl) rfl
          refine ⟨?_, ?_⟩
          · rintro - w32 D32
            rintro _ rfl
            show OpOK _ _ _ _ _ _ _
            exact ok_gpure rfl (ro_move (v := .pointer _) rfl) rfl
          refine ⟨?_, ?_⟩
          · rintro - w33 D33
            rintro _ rfl _ rfl
            show OpOK _ _ _ _ _ _ _
            exact ok_gpure rfl (ro_nilCheck rfl) rfl
          refine ⟨?_, ?_⟩
          · rintro - w34 D34
            rintro _ rfl _ rfl
            show OpOK _ _ _ _ _ _ _
            exact ok_gpure rfl (ro_fieldAddr WavSelW_f45_1 rfl) rfl
          refine ⟨?_, ?_⟩
          · rintro - w35 D35
            rintro _ rfl _ rfl
            show OpOK _ _ _ _ _ _ _
            exact ok_gpure rfl (ro_load WavSelW_g22 rfl (by exact (hT.from_ D35).rd 1 rfl)) rfl
          refine ⟨?_, ?_⟩
          · rintro - w36 D36
            rintro _ rfl
            show OpOK _ _ _ _ _ _ _
            exact ok_gpure rfl (ro_move (v := .int _ _) rfl) rfl
          refine ⟨?_, ?_⟩
          · rintro - w37 D37
            rintro _ rfl _ rfl
            show OpOK _ _ _ _ _ _ _
            exact ok_gpure rfl (ro_addN (b := 1) rfl rfl (by omega)) rfl
          refine ⟨?_, ?_⟩
          · rintro - w38 D38
            rintro _ rfl v38_21 rfl _ rfl
            show OpOK _ _ _ _ _ _ _
            exact ok_gpure rfl (ro_indexAddr0 WavSelW_e22 rfl rfl (by omega)) rfl
          refine ⟨?_, ?_⟩
          · rintro - w39 D39
            rintro _ rfl _ rfl
            show OpOK _ _ _ _ _ _ _
            exact ok_gpure rfl (ro_load WavSelW_g3 rfl (by exact (hg2.from_ D39).rd (cc + 1) (tab_get (by omega)))) rfl
          refine ⟨?_, ?_⟩
          · rintro - w40 D40
            rintro _ rfl
            show OpOK _ _ _ _ _ _ _
            exact ok_gpure rfl (ro_move (v := .pointer _) rfl) rfl
          refine ⟨?_, ?_⟩
          · rintro - w41 D41
            rintro _ rfl _ rfl
            show OpOK _ _ _ _ _ _ _
            exact ok_gpure rfl (ro_nilCheck rfl) rfl
          refine ⟨?_, ?_⟩
          · rintro - w42 D42
            rintro _ rfl _ rfl
            show OpOK _ _ _ _ _ _ _
            exact ok_gpure rfl (ro_fieldAddr WavSelW_f45_1 rfl) rfl
          refine ⟨?_, ?_⟩
          · rintro - w43 D43
            rintro _ rfl _ rfl
            show OpOK _ _ _ _ _ _ _
            exact ok_gpure rfl (ro_load WavSelW_g22 rfl (by exact (hT.from_ D43).rd 1 rfl)) rfl
          refine ⟨?_, ?_⟩
          · rintro - w44 D44
            rintro _ rfl
            show OpOK _ _ _ _ _ _ _
            exact ok_gpure rfl (ro_move (v := .int _ _) rfl) rfl
          refine ⟨?_, ?_⟩
          · rintro - w45 D45
            rintro _ rfl v45_29 rfl _ rfl
            show OpOK _ _ _ _ _ _ _
            exact ok_gpure rfl (ro_indexAddr0 WavSelW_e22 rfl rfl (by omega)) rfl
          refine ⟨?_, ?_⟩
          · rintro - w46 D46
            rintro _ rfl _ rfl
            show OpOK _ _ _ _ _ _ _
            exact ok_gpure rfl (ro_load WavSelW_g3 rfl (by exact (hg2.from_ D46).rd cc (tab_get (by omega)))) rfl
          refine ⟨?_, ?_⟩
          · rintro - w47 D47
            rintro _ rfl v47_25 rfl v47_32 rfl
            show OpOK _ _ _ _ _ _ _
            exact ok_gpure rfl (ro_sub64 rfl rfl (by omega)) rfl
          refine ⟨?_, ?_⟩
          · rintro - w48 D48
            rintro _ rfl _ rfl _ rfl
            show OpOK _ _ _ _ _ _ _
            exact ok_gpure rfl (ro_geq rfl rfl) rfl
          refine ⟨?_, ?_⟩
          · rintro - w49 D49
            rintro _ rfl _ rfl
            show OpOK _ _ _ _ _ _ _
            exact ok_pure (ro_pickF (v := .bool _) rfl rfl) rfl
          exact trivial
         case hend =>
          intro w50 D50
          rintro _ rfl _ rfl _ rfl _ rfl _ rfl _ rfl _ rfl v21 rfl _ rfl _ rfl _ rfl v25 rfl _ rfl _ rfl _ rfl v29 rfl _ rfl _ rfl v32 rfl _ rfl _ rfl _ rfl
          show St _ _ _ _ _ _ _
          refine st_nil ?_
          refine nx_then ?_
          refine cd_cond rfl (fun Q51 => ?_) (fun Q51 => ?_)
          · (try first | replace Q51 := bn_t Q51 | replace Q51 := bn_f Q51)
            (try first | replace Q51 := bx_t Q51 | replace Q51 := bx_f Q51 | replace Q51 := be_t Q51 | replace Q51 := be_f Q51 | replace Q51 := of_decide_eq_true Q51 | replace Q51 := of_decide_eq_false Q51)
            first
             | (exfalso; first | omega | contradiction | (cases Q51; done))
             | skip
               refine cd_seq ?_
               refine cd_region ?_
               refine st_val (ro_assign (v := .int _ _) rfl) ?_
               refine st_val (ro_assign (v := .int _ _) rfl) ?_
               refine st_nil ?_
               refine nx_then ?_
               refine cd_ret ?_
               refine rt_then ?_
               refine res2 (v := .int _ _) (v' := .int _ _) rfl rfl rfl ?_
               refine ⟨?_, (From.rfl_.next D50)⟩
               have ho2 := occ_out (L := L) (c := cc) (j := i) (by omega)
               unfold slV slE
               rw [if_pos hkn, if_pos hkn, Int.toNat_natCast, selP_no ho2]
               unfold selE
               rw [if_neg (by rw [ho2]; decide)]
          · (try first | replace Q51 := bn_t Q51 | replace Q51 := bn_f Q51)
            (try first | replace Q51 := bx_t Q51 | replace Q51 := bx_f Q51 | replace Q51 := be_t Q51 | replace Q51 := be_f Q51 | replace Q51 := of_decide_eq_true Q51 | replace Q51 := of_decide_eq_false Q51)
            obtain ⟨jj, rfl⟩ : ∃ jj : Nat, i = (jj : Int) := ⟨i.toNat, by omega⟩
            obtain ⟨q, hq, hqc, hqj, hqs, hqo⟩ := occ_at (L := L) (c := cc) (j := jj) (by omega)
            have hlt2 : ∀ x ∈ L, x < 2 ^ nlv K := fun x hx => Nat.lt_of_lt_of_le (hlt x hx) (nlv_lt hK1 hK2)
            have hcc2 : cc < 2 ^ nlv K := Nat.lt_of_lt_of_le (by omega) (nlv_lt hK1 hK2)
            have hp0 := path_le (n := nlv K) (c := cc) (L := L) (q := 0) (Nat.zero_le _) (nlv K)
            have hn9 := nlv_le hK2
            first
             | (exfalso; first | omega | contradiction | (cases Q51; done))
             | skip
               refine cd_skip ?_
               refine nx_then ?_
               refine cd_seq ?_
               refine cd_region ?_
               refine st_val (ro_move (v := .pointer _) rfl) ?_
               refine st_val (ro_move (v := .int _ _) rfl) ?_
               refine st_call WavSelW_k21 (firstT base b K L _ (htt.from_ (From.rfl_.next D50)) cc (by omega)) ?_
               rintro v38 w52 ⟨rfl, E38⟩
               refine st_val (ro_move (v := .int _ _) rfl) ?_
               refine st_val (ro_add64 rfl rfl (by omega)) ?_
               refine st_val (ro_assign (v := .int _ _) rfl) ?_
               refine st_nil ?_
               refine nx_then ?_
               refine cd_seq ?_
               refine cd_seq ?_
               refine cd_region ?_
               refine st_val (ro_move (v := .pointer _) rfl) ?_
               refine st_val (ro_nilCheck rfl) ?_
               refine st_val (ro_fieldAddr WavSelW_f45_0 rfl) ?_
               refine st_val (ro_load WavSelW_g43 rfl (by exact (hT.from_ ((From.rfl_.next D50).next E38)).rd 0 rfl)) ?_
               refine st_val (ro_len WavSelW_l43 rfl) ?_
               refine st_val (ro_sub64 rfl rfl (by omega)) ?_
               refine st_val (ro_assign (v := .int _ _) rfl) ?_
               refine st_nil ?_
               refine nx_then ?_
               refine cd_block ?_
               refine cd_loop (G := Nat) [47, 48, 49, 50, 51, 52, 53, 54, 55, 56, 57, 58, 59, 60, 61, 62, 63, 64, 65, 66, 67, 68] (fun m => [(8, .int .i64 (pathP (nlv K) L cc q m : Nat)), (9, .int .i64 ((m : Int) - 1))]) (fun m w' => m ≤ nlv K ∧ From w w') (fun m => m) (nlv K) ⟨(int_eq (by rw [path_rank hlt2 hcc2 (Nat.le_of_lt hq), hqj]; omega)), rfl, trivial⟩ ?_ ?_
               · exact ⟨Nat.le_refl _, ((From.rfl_.next D50).next E38)⟩
               rintro m ρ53 w53 ⟨hm, hB⟩
               refine cd_seq ?_
               refine cd_seq ?_
               refine cd_region ?_
               refine st_val (ro_move (v := .int _ _) rfl) ?_
               refine st_val (ro_geq rfl rfl) ?_
               refine st_nil ?_
               refine nx_then ?_
               refine cd_cond rfl (fun Q54 => ?_) (fun Q54 => ?_)
               · (try first | replace Q54 := bn_t Q54 | replace Q54 := bn_f Q54)
                 (try first | replace Q54 := bx_t Q54 | replace Q54 := bx_f Q54 | replace Q54 := be_t Q54 | replace Q54 := be_f Q54 | replace Q54 := of_decide_eq_true Q54 | replace Q54 := of_decide_eq_false Q54)
                 obtain ⟨j, rfl⟩ : ∃ j, m = j + 1 := ⟨m - 1, by omega⟩
                 have hjn : j < nlv K := by omega
                 obtain ⟨gA, rfl, hlv⟩ := lvls_own ho (by omega)
                 obtain ⟨hpj, hpe⟩ := path_occ (n := nlv K) hq hqc j
                 first
                  | (exfalso; first | omega | contradiction | (cases Q54; done))
                  | skip
                    refine cd_skip ?_
                    refine nx_then ?_
                    refine cd_seq ?_
                    refine cd_block ?_
                    apply cd_drawnD 19 [(51, eqp _), (52, eqp _), (53, eqp _), (54, eqp (.slice (some ⟨gA, 0, none⟩) (nlv K) cT)), (55, eqp _), (56, eqp _), (57, eqp (.agg (lvlV (vs j) (zerosL (nlv K - 1 - j) (lvl (nlv K) L j)).length (nlv K - 1 - j)).toArray)), (58, eqp _), (59, eqp _), (60, eqp _), (61, eqp _), (62, eqp (.slice (some ⟨gA, 0, none⟩) (nlv K) cT)), (63, eqp _), (64, eqp _), (65, eqp (.agg (lvlV (vs j) (zerosL (nlv K - 1 - j) (lvl (nlv K) L j)).length (nlv K - 1 - j)).toArray)), (66, eqp _), (67, eqp _), (68, eqp _), (8, eqp _)] (by repeat first | exact pq_body | refine pq_then ?_ | refine pq_block ?_) (by kernel_rfl) (by kernel_rfl) ⟨eqp_mono _, eqp_mono _, eqp_mono _, eqp_mono _, eqp_mono _, eqp_mono _, eqp_mono _, eqp_mono _, eqp_mono _, eqp_mono _, eqp_mono _, eqp_mono _, eqp_mono _, eqp_mono _, eqp_mono _, eqp_mono _, eqp_mono _, eqp_mono _, eqp_mono _, trivial⟩
                    case hop =>
                     refine ⟨?_, ?_⟩
                     · rintro - w56 D56
                       show OpOK _ _ _ _ _ _ _
                       exact ok_pure (ro_move (v := .pointer _) rfl) rfl
                     refine ⟨?_, ?_⟩
                     · rintro - w57 D57
                       rintro _ rfl
                       show OpOK _ _ _ _ _ _ _
                       exact ok_pure (ro_nilCheck rfl) rfl
                     refine ⟨?_, ?_⟩
                     · rintro - w58 D58
                       rintro _ rfl
                       show OpOK _ _ _ _ _ _ _
                       exact ok_pure (ro_fieldAddr WavSelW_f45_0 rfl) rfl
                     refine ⟨?_, ?_⟩
                     · rintro - w59 D59
                       rintro _ rfl
                       show OpOK _ _ _ _ _ _ _
                       exact ok_pure (ro_load WavSelW_g43 rfl (by exact (hT.from_ (hB.next D59)).rd 0 rfl)) rfl
                     refine ⟨?_, ?_⟩
                     · rintro - w60 D60
                       show OpOK _ _ _ _ _ _ _
                       exact ok_pure (ro_eq (v' := .int .i64 (j : Nat)) (ro_move (v := .int .i64 (((j + 1 : Nat) : Int) - 1)) rfl) (int_eq (by omega))) rfl
                     refine ⟨?_, ?_⟩
                     · rintro - w61 D61
                       rintro v61_54 rfl _ rfl
                       show OpOK _ _ _ _ _ _ _
                       exact ok_pure (ro_indexAddr WavSelW_e43 rfl rfl (by omega)) rfl
                     refine ⟨?_, ?_⟩
                     · rintro - w62 D62
                       rintro _ rfl
                       show OpOK _ _ _ _ _ _ _
                       exact ok_pure (ro_loadA (cs := (lvlV (vs j) (zerosL (nlv K - 1 - j) (lvl (nlv K) L j)).length (nlv K - 1 - j))) WavSelW_g49 WavSelW_z49 rfl (by rw [ix3]; exact rangeF (hB.next D62) (hlv j hjn))) rfl
                     refine ⟨?_, ?_⟩
                     · rintro - w63 D63
                       show OpOK _ _ _ _ _ _ _
                       exact ok_pure (ro_move (v := .int _ _) rfl) rfl
                     refine ⟨?_, ?_⟩
                     · rintro - w64 D64
                       show OpOK _ _ _ _ _ _ _
                       exact ok_pure (ro_move (v := .pointer _) rfl) rfl
                     refine ⟨?_, ?_⟩
                     · rintro - w65 D65
                       rintro _ rfl
                       show OpOK _ _ _ _ _ _ _
                       exact ok_pure (ro_nilCheck rfl) rfl
                     refine ⟨?_, ?_⟩
                     · rintro - w66 D66
                       rintro _ rfl
                       show OpOK _ _ _ _ _ _ _
                       exact ok_pure (ro_fieldAddr WavSelW_f45_0 rfl) rfl
                     refine ⟨?_, ?_⟩
                     · rintro - w67 D67
                       rintro _ rfl
                       show OpOK _ _ _ _ _ _ _
                       exact ok_pure (ro_load WavSelW_g43 rfl (by exact (hT.from_ (hB.next D67)).rd 0 rfl)) rfl
                     refine ⟨?_, ?_⟩
                     · rintro - w68 D68
                       show OpOK _ _ _ _ _ _ _
                       exact ok_pure (ro_eq (v' := .int .i64 (j : Nat)) (ro_move (v := .int .i64 (((j + 1 : Nat) : Int) - 1)) rfl) (int_eq (by omega))) rfl
                     refine ⟨?_, ?_⟩
                     · rintro - w69 D69
                       rintro v69_62 rfl _ rfl
                       show OpOK _ _ _ _ _ _ _
                       exact ok_pure (ro_indexAddr WavSelW_e43 rfl rfl (by omega)) rfl
                     refine ⟨?_, ?_⟩
                     · rintro - w70 D70
                       rintro _ rfl
                       show OpOK _ _ _ _ _ _ _
                       exact ok_pure (ro_loadA (cs := (lvlV (vs j) (zerosL (nlv K - 1 - j) (lvl (nlv K) L j)).length (nlv K - 1 - j))) WavSelW_g49 WavSelW_z49 rfl (by rw [ix3]; exact rangeF (hB.next D70) (hlv j hjn))) rfl
                     refine ⟨?_, ?_⟩
                     · rintro - w71 D71
                       show OpOK _ _ _ _ _ _ _
                       exact ok_pure (ro_move (v := .int _ _) rfl) rfl
                     refine ⟨?_, ?_⟩
                     · rintro - w72 D72
                       rintro v72_65 rfl _ rfl
                       show OpOK _ _ _ _ _ _ _
                       refine ok_call WavSelW_k23 ((one_l (vs j) _ (nlv K - 1 - j) cc _ (by have := nlv_le hK2; omega) (by omega)).mono ?_)
                       rintro v _ ⟨rfl, E72'⟩; exact ⟨E72', rfl⟩
                     refine ⟨?_, ?_⟩
                     · rintro - w73 D73
                       rintro v73_57 rfl _ rfl _ rfl
                       show OpOK _ _ _ _ _ _ _
                       refine ok_call WavSelW_k22 ((up_l base (vs j) _ (nlv K - 1 - j) (pathP (nlv K) L cc q j) (lvl (nlv K) L j) _ ((hVs j hjn).from_ (hB.next D73)) hpj rfl (by rw [lvl_len]; exact hLl) (hTZ.from_ (hB.next D73)) (bitN (nlv K - 1 - j) cc) (by rw [hpe])).mono ?_)
                       rintro v _ ⟨rfl, E73'⟩; exact ⟨E73', rfl⟩
                     refine ⟨?_, ?_⟩
                     · rintro - w74 D74
                       rintro _ rfl
                       show OpOK _ _ _ _ _ _ _
                       exact ok_pure (ro_assign (v := .int _ _) rfl) rfl
                     exact trivial
                    case hend =>
                     intro w75 D75
                     rintro _ rfl _ rfl _ rfl v54 rfl _ rfl _ rfl v57 rfl _ rfl _ rfl _ rfl _ rfl v62 rfl _ rfl _ rfl v65 rfl _ rfl _ rfl _ rfl _ rfl
                     show St _ _ _ _ _ _ _
                     refine st_nil ?_
                     refine nx_block ?_
                     refine nx_then ?_
                     refine cd_region ?_
                     refine st_val (ro_move (v := .int _ _) rfl) ?_
                     refine st_val (ro_sub64 rfl rfl (by omega)) ?_
                     refine st_val (ro_assign (v := .int _ _) rfl) ?_
                     refine st_nil ?_
                     refine nx_cut (j) ⟨rfl, (int_eq (by omega)), trivial⟩ (by (iterate 48 refine agr_cons rfl ?_); exact agr_rfl) ⟨?_, ?_⟩
                     · exact ⟨by omega, (hB.next D75)⟩
                     · show j < j + 1; omega
               · (try first | replace Q54 := bn_t Q54 | replace Q54 := bn_f Q54)
                 (try first | replace Q54 := bx_t Q54 | replace Q54 := bx_f Q54 | replace Q54 := be_t Q54 | replace Q54 := be_f Q54 | replace Q54 := of_decide_eq_true Q54 | replace Q54 := of_decide_eq_false Q54)
                 first
                  | (exfalso; first | omega | contradiction | (cases Q54; done))
                  | skip
                    refine cd_exit ?_
                    refine ex_then ?_
                    refine ex_then ?_
                    refine ex_block ?_
                    refine nx_then ?_
                    refine cd_seq ?_
                    refine cd_region ?_
                    refine st_val (ro_move (v := .int _ _) rfl) ?_
                    refine st_val (ro_assign (v := .int _ _) rfl) ?_
                    refine st_val (ro_assign (v := .int _ _) rfl) ?_
                    refine st_nil ?_
                    refine nx_then ?_
                    refine cd_ret ?_
                    refine res2 (v := .int _ _) (v' := .int _ _) rfl rfl rfl ?_
                    obtain rfl : m = 0 := by omega
                    refine ⟨?_, hB⟩
                    unfold slV slE
                    rw [if_pos hkn, if_pos hkn, Int.toNat_natCast, hqs]
                    unfold selE
                    rw [if_pos hqo]
                    rfl
end Go.Proofs.YtmiclfhpenjjfaaDoor
