/- suffix: symbols, withEnd, Clone; the reference: May. -/
import Derived.Test.YtpafbgdbjambgaaSufData
namespace Go.Proofs.Ytpafbgdbjambgaa
open Go.RowKit
open Go.ChangeShapes Go.WideShapes Go.ChangeAt
open Go.Proofs.Ytpafbgdbjambgaa.SA
theorem SufWalks_e24 : elemQ Try.prog 24 = some (3, 1) := by kernel_rfl
theorem SufWalks_e51 : elemQ Try.prog 51 = some (21, 1) := by kernel_rfl
theorem SufWalks_l24 : (elemQ Try.prog 24).isSome = true := by kernel_rfl
theorem SufWalks_g3 : aggQ Try.prog 3 = some false := by kernel_rfl
theorem SufWalks_m51 : makeQ Try.prog 51 = some (21, 4, (.int .i32 0)) := by kernel_rfl
theorem SufWalks_s3 : (Try.prog.underlying 3).isSome = true := by kernel_rfl
theorem SufWalks_i21 : Try.prog.underlying 21 = some (.int .i32) := by kernel_rfl
theorem SufWalks_z21 : sizeQ Try.prog 21 = some 1 := by kernel_rfl
theorem SufWalks_q51 : litQ Try.prog 51 = some (21, 1, 4, (.int .i32 0)) := by kernel_rfl
theorem SufWalks_l51 : (elemQ Try.prog 51).isSome = true := by kernel_rfl
theorem SufWalks_u51 : Try.prog.underlying 51 = some (.slice 21) := by kernel_rfl
def okS (k x : Int) : Bool := decide (0 ≤ x) && decide (x < k)
theorem okS_no {k x : Int} (h : x < 0 ∨ k ≤ x) : okS k x = false := by
  unfold okS
  rcases h with h | h
  · rw [decide_eq_false (by omega)]; rfl
  · rw [decide_eq_false (p := x < k) (by omega), Bool.and_false]
theorem okS_yes {k x : Int} (h : 0 ≤ x) (g : x < k) : okS k x = true := by
  unfold okS
  rw [decide_eq_true h, decide_eq_true g]; rfl
theorem okS_iff {k x : Int} : okS k x = true ↔ 0 ≤ x ∧ x < k := by simp [okS]
theorem all_take {p : Int → Bool} {l : List Int} {i : Nat} (hi : i < l.length) (h : (l.take i).all p = true) (hp : p l[i] = true) : (l.take (i + 1)).all p = true := by
  rw [List.take_succ_eq_append_getElem hi, List.all_append, h]; simp [hp]
theorem all_end {p : Int → Bool} {l : List Int} {i : Nat} (hi : ¬ i < l.length) (h : (l.take i).all p = true) : l.all p = true := by
  rwa [List.take_of_length_le (by omega)] at h
theorem all_no {p : Int → Bool} {l : List Int} {i : Nat} (hi : i < l.length) (hp : p l[i] = false) : l.all p = false := by
  rw [Bool.eq_false_iff]
  intro h
  have := List.all_eq_true.1 h _ (List.getElem_mem hi)
  rw [hp] at this
  cases this
set_option maxRecDepth 100000 in
set_option maxHeartbeats 400000 in
theorem symbols_rt (A : Option Addr) (c n : Nat) (xs : List Int) (w : World) (hr : RowOf iV w A xs) (hn : n = xs.length) (hl : n ≤ 1000000000000) :
    Rt Try.prog 24 [.slice A n c] w (fun v w' => v = .bool (xs.all (okS 512)) ∧ From w w') := by
  refine enter (n := 18) Try.func24 rfl rfl rfl ?_
  refine cd_seq ?_
  refine cd_region ?_
  refine st_val (ro_assign (v := .bool _) rfl) ?_
  refine st_nil ?_
  refine nx_then ?_
  refine cd_seq ?_
  refine cd_seq ?_
  refine cd_region ?_
  refine st_val (ro_move (v := .slice _ _ _) rfl) ?_
  refine st_val (ro_len SufWalks_l24 rfl) ?_
  refine st_val (ro_move (v := .int _ _) rfl) ?_
  refine st_nil ?_
  refine nx_then ?_
  refine cd_block ?_
  refine cd_loop (G := Nat) [2, 4, 8, 9, 10, 11, 12, 13, 14, 15, 16, 17] (fun k => [(7, .int .i64 (k : Nat))]) (fun k w' => k ≤ n ∧ (xs.take k).all (okS 512) = true ∧ From w w') (fun k => n - k) (0) ⟨rfl, trivial⟩ ?_ ?_
  · exact ⟨Nat.zero_le _, rfl, From.rfl_⟩
  rintro k ρ1 w1 ⟨hk, ht, hB⟩
  refine cd_seq ?_
  refine cd_region ?_
  refine st_val (ro_lss rfl rfl) ?_
  refine st_nil ?_
  refine nx_then ?_
  refine cd_seq ?_
  refine cd_cond rfl (fun Q2 => ?_) (fun Q2 => ?_)
  · (try with_reducible first | replace Q2 := of_decide_eq_true Q2 | replace Q2 := of_decide_eq_false Q2 | replace Q2 := bn_t Q2 | replace Q2 := bn_f Q2)
    (try with_reducible first | replace Q2 := of_decide_eq_true Q2 | replace Q2 := of_decide_eq_false Q2 | replace Q2 := bx_t Q2 | replace Q2 := bx_f Q2 | replace Q2 := be_t Q2 | replace Q2 := be_f Q2)
    have hkn : k < xs.length := by omega
    obtain ⟨ba, oa, rfl, hca⟩ := hr (by omega)
    refine cd_skip ?_
    refine nx_then ?_
    refine cd_seq ?_
    refine cd_block ?_
    refine cd_seq ?_
    refine cd_region ?_
    refine st_val (ro_indexAddr1 SufWalks_e24 rfl rfl (by omega)) ?_
    refine st_val (ro_load SufWalks_g3 rfl (by exact cellF hB (hca k hkn))) ?_
    refine st_val (ro_assign (v := .int _ _) rfl) ?_
    refine st_nil ?_
    refine nx_then ?_
    refine cd_seq ?_
    refine cd_region ?_
    refine st_val (ro_move (v := .int _ _) rfl) ?_
    refine st_val (ro_lss rfl rfl) ?_
    refine st_val (ro_move (v := .bool _) rfl) ?_
    refine st_split (t := 13) rfl (fun Q3 => ?_) (fun Q3 => ?_)
    · (try with_reducible first | replace Q3 := of_decide_eq_true Q3 | replace Q3 := of_decide_eq_false Q3 | replace Q3 := bn_t Q3 | replace Q3 := bn_f Q3)
      (try with_reducible first | replace Q3 := of_decide_eq_true Q3 | replace Q3 := of_decide_eq_false Q3 | replace Q3 := bx_t Q3 | replace Q3 := bx_f Q3 | replace Q3 := be_t Q3 | replace Q3 := be_f Q3)
      refine st_gno rfl rfl ?_
      refine st_gno rfl rfl ?_
      refine st_val (ro_pickT (v := .bool _) rfl rfl) ?_
      refine st_nil ?_
      refine nx_then ?_
      refine cd_condT rfl ?_
      refine cd_seq ?_
      refine cd_region ?_
      refine st_val (ro_assign (v := .bool _) rfl) ?_
      refine st_nil ?_
      refine nx_then ?_
      refine cd_ret ?_
      refine rt_block ?_
      refine rt_then ?_
      refine rt_then ?_
      refine rt_block ?_
      refine rt_then ?_
      refine res1 (v := .bool _) rfl rfl ?_
      exact ⟨by rw [all_no hkn (okS_no (by omega))], hB⟩
    · (try with_reducible first | replace Q3 := of_decide_eq_true Q3 | replace Q3 := of_decide_eq_false Q3 | replace Q3 := bn_t Q3 | replace Q3 := bn_f Q3)
      (try with_reducible first | replace Q3 := of_decide_eq_true Q3 | replace Q3 := of_decide_eq_false Q3 | replace Q3 := bx_t Q3 | replace Q3 := bx_f Q3 | replace Q3 := be_t Q3 | replace Q3 := be_f Q3)
      refine st_unguard rfl ?_
      refine st_val (ro_move (v := .int _ _) rfl) ?_
      refine st_unguard rfl ?_
      refine st_val (ro_geq rfl rfl) ?_
      refine st_val (ro_pickF (v := .bool _) rfl rfl) ?_
      refine st_nil ?_
      refine nx_then ?_
      refine cd_cond rfl (fun Q4 => ?_) (fun Q4 => ?_)
      · (try with_reducible first | replace Q4 := of_decide_eq_true Q4 | replace Q4 := of_decide_eq_false Q4 | replace Q4 := bn_t Q4 | replace Q4 := bn_f Q4)
        (try with_reducible first | replace Q4 := of_decide_eq_true Q4 | replace Q4 := of_decide_eq_false Q4 | replace Q4 := bx_t Q4 | replace Q4 := bx_f Q4 | replace Q4 := be_t Q4 | replace Q4 := be_f Q4)
        refine cd_seq ?_
        refine cd_region ?_
        refine st_val (ro_assign (v := .bool _) rfl) ?_
        refine st_nil ?_
        refine nx_then ?_
        refine cd_ret ?_
        refine rt_block ?_
        refine rt_then ?_
        refine rt_then ?_
        refine rt_block ?_
        refine rt_then ?_
        refine res1 (v := .bool _) rfl rfl ?_
        exact ⟨by rw [all_no hkn (okS_no (by omega))], hB⟩
      · (try with_reducible first | replace Q4 := of_decide_eq_true Q4 | replace Q4 := of_decide_eq_false Q4 | replace Q4 := bn_t Q4 | replace Q4 := bn_f Q4)
        (try with_reducible first | replace Q4 := of_decide_eq_true Q4 | replace Q4 := of_decide_eq_false Q4 | replace Q4 := bx_t Q4 | replace Q4 := bx_f Q4 | replace Q4 := be_t Q4 | replace Q4 := be_f Q4)
        refine cd_skip ?_
        refine nx_block ?_
        refine nx_then ?_
        refine cd_region ?_
        refine st_val (ro_addN (b := 1) rfl rfl (by omega)) ?_
        refine st_val (ro_move (v := .int _ _) rfl) ?_
        refine st_nil ?_
        refine nx_cut (k + 1) ⟨(by first | rfl | (refine int_eq ?_; omega)), trivial⟩ (by (iterate 26 refine agr_cons rfl ?_); exact agr_rfl) ⟨?_, ?_⟩
        · exact ⟨by omega, all_take hkn ht (okS_yes (by omega) (by omega)), hB⟩
        · show n - (k + 1) < n - k; omega
  · (try with_reducible first | replace Q2 := of_decide_eq_true Q2 | replace Q2 := of_decide_eq_false Q2 | replace Q2 := bn_t Q2 | replace Q2 := bn_f Q2)
    (try with_reducible first | replace Q2 := of_decide_eq_true Q2 | replace Q2 := of_decide_eq_false Q2 | replace Q2 := bx_t Q2 | replace Q2 := bx_f Q2 | replace Q2 := be_t Q2 | replace Q2 := be_f Q2)
    refine cd_exit ?_
    refine ex_then ?_
    refine ex_then ?_
    refine ex_block ?_
    refine nx_then ?_
    refine cd_seq ?_
    refine cd_region ?_
    refine st_val (ro_assign (v := .bool _) rfl) ?_
    refine st_nil ?_
    refine nx_then ?_
    refine cd_ret ?_
    refine res1 (v := .bool _) rfl rfl ?_
    exact ⟨by rw [all_end (by omega) ht], hB⟩
set_option maxRecDepth 100000 in
set_option maxHeartbeats 400000 in
theorem may_rt (k0 : Int) (A : Option Addr) (c n : Nat) (xs : List Int) (w : World) (hr : RowOf iV w A xs) (hn : n = xs.length) (hl : n ≤ 1000000000000) :
    Rt Try.prog 10 [.int .i64 k0, .slice A n c] w (fun v w' => v = .bool (xs.all (okS k0)) ∧ From w w') := by
  refine enter (n := 25) Try.func10 rfl rfl rfl ?_
  refine cd_seq ?_
  refine cd_region ?_
  refine st_val (ro_assign (v := .bool _) rfl) ?_
  refine st_nil ?_
  refine nx_then ?_
  refine cd_seq ?_
  refine cd_seq ?_
  refine cd_region ?_
  refine st_val (ro_assign (v := .int _ _) rfl) ?_
  refine st_nil ?_
  refine nx_then ?_
  refine cd_block ?_
  refine cd_loop (G := Nat) [4, 6, 7, 8, 9, 10, 11, 12, 13, 14, 15, 16, 17, 18, 19, 20, 21, 22, 23, 24] (fun k => [(5, .int .i64 (k : Nat))]) (fun k w' => k ≤ n ∧ (xs.take k).all (okS k0) = true ∧ From w w') (fun k => n - k) (0) ⟨rfl, trivial⟩ ?_ ?_
  · exact ⟨Nat.zero_le _, rfl, From.rfl_⟩
  rintro k ρ1 w1 ⟨hk, ht, hB⟩
  refine cd_seq ?_
  refine cd_seq ?_
  refine cd_region ?_
  refine st_val (ro_move (v := .int _ _) rfl) ?_
  refine st_val (ro_move (v := .slice _ _ _) rfl) ?_
  refine st_val (ro_len SufWalks_l24 rfl) ?_
  refine st_val (ro_lss rfl rfl) ?_
  refine st_nil ?_
  refine nx_then ?_
  refine cd_cond rfl (fun Q2 => ?_) (fun Q2 => ?_)
  · (try with_reducible first | replace Q2 := of_decide_eq_true Q2 | replace Q2 := of_decide_eq_false Q2 | replace Q2 := bn_t Q2 | replace Q2 := bn_f Q2)
    (try with_reducible first | replace Q2 := of_decide_eq_true Q2 | replace Q2 := of_decide_eq_false Q2 | replace Q2 := bx_t Q2 | replace Q2 := bx_f Q2 | replace Q2 := be_t Q2 | replace Q2 := be_f Q2)
    have hkn : k < xs.length := by omega
    obtain ⟨ba, oa, rfl, hca⟩ := hr (by omega)
    refine cd_skip ?_
    refine nx_then ?_
    refine cd_seq ?_
    refine cd_block ?_
    refine cd_seq ?_
    refine cd_region ?_
    refine st_val (ro_move (v := .slice _ _ _) rfl) ?_
    refine st_val (ro_move (v := .int _ _) rfl) ?_
    refine st_val (ro_indexAddr1 SufWalks_e24 rfl rfl (by omega)) ?_
    refine st_val (ro_load SufWalks_g3 rfl (by exact cellF hB (hca k hkn))) ?_
    refine st_val (ro_lss rfl rfl) ?_
    refine st_val (ro_move (v := .bool _) rfl) ?_
    refine st_split (t := 17) rfl (fun Q3 => ?_) (fun Q3 => ?_)
    · (try with_reducible first | replace Q3 := of_decide_eq_true Q3 | replace Q3 := of_decide_eq_false Q3 | replace Q3 := bn_t Q3 | replace Q3 := bn_f Q3)
      (try with_reducible first | replace Q3 := of_decide_eq_true Q3 | replace Q3 := of_decide_eq_false Q3 | replace Q3 := bx_t Q3 | replace Q3 := bx_f Q3 | replace Q3 := be_t Q3 | replace Q3 := be_f Q3)
      refine st_gno rfl rfl ?_
      refine st_gno rfl rfl ?_
      refine st_gno rfl rfl ?_
      refine st_gno rfl rfl ?_
      refine st_gno rfl rfl ?_
      refine st_gno rfl rfl ?_
      refine st_val (ro_pickT (v := .bool _) rfl rfl) ?_
      refine st_nil ?_
      refine nx_then ?_
      refine cd_condT rfl ?_
      refine cd_seq ?_
      refine cd_region ?_
      refine st_val (ro_assign (v := .bool _) rfl) ?_
      refine st_nil ?_
      refine nx_then ?_
      refine cd_ret ?_
      refine rt_block ?_
      refine rt_then ?_
      refine rt_then ?_
      refine rt_block ?_
      refine rt_then ?_
      refine res1 (v := .bool _) rfl rfl ?_
      exact ⟨by rw [all_no hkn (okS_no (by omega))], hB⟩
    · (try with_reducible first | replace Q3 := of_decide_eq_true Q3 | replace Q3 := of_decide_eq_false Q3 | replace Q3 := bn_t Q3 | replace Q3 := bn_f Q3)
      (try with_reducible first | replace Q3 := of_decide_eq_true Q3 | replace Q3 := of_decide_eq_false Q3 | replace Q3 := bx_t Q3 | replace Q3 := bx_f Q3 | replace Q3 := be_t Q3 | replace Q3 := be_f Q3)
      refine st_unguard rfl ?_
      refine st_val (ro_move (v := .slice _ _ _) rfl) ?_
      refine st_unguard rfl ?_
      refine st_val (ro_move (v := .int _ _) rfl) ?_
      refine st_unguard rfl ?_
      refine st_val (ro_indexAddr1 SufWalks_e24 rfl rfl (by omega)) ?_
      refine st_unguard rfl ?_
      refine st_val (ro_load SufWalks_g3 rfl (by exact cellF hB (hca k hkn))) ?_
      refine st_unguard rfl ?_
      refine st_val (ro_move (v := .int _ _) rfl) ?_
      refine st_unguard rfl ?_
      refine st_val (ro_geq rfl rfl) ?_
      refine st_val (ro_pickF (v := .bool _) rfl rfl) ?_
      refine st_nil ?_
      refine nx_then ?_
      refine cd_cond rfl (fun Q4 => ?_) (fun Q4 => ?_)
      · (try with_reducible first | replace Q4 := of_decide_eq_true Q4 | replace Q4 := of_decide_eq_false Q4 | replace Q4 := bn_t Q4 | replace Q4 := bn_f Q4)
        (try with_reducible first | replace Q4 := of_decide_eq_true Q4 | replace Q4 := of_decide_eq_false Q4 | replace Q4 := bx_t Q4 | replace Q4 := bx_f Q4 | replace Q4 := be_t Q4 | replace Q4 := be_f Q4)
        refine cd_seq ?_
        refine cd_region ?_
        refine st_val (ro_assign (v := .bool _) rfl) ?_
        refine st_nil ?_
        refine nx_then ?_
        refine cd_ret ?_
        refine rt_block ?_
        refine rt_then ?_
        refine rt_then ?_
        refine rt_block ?_
        refine rt_then ?_
        refine res1 (v := .bool _) rfl rfl ?_
        exact ⟨by rw [all_no hkn (okS_no (by omega))], hB⟩
      · (try with_reducible first | replace Q4 := of_decide_eq_true Q4 | replace Q4 := of_decide_eq_false Q4 | replace Q4 := bn_t Q4 | replace Q4 := bn_f Q4)
        (try with_reducible first | replace Q4 := of_decide_eq_true Q4 | replace Q4 := of_decide_eq_false Q4 | replace Q4 := bx_t Q4 | replace Q4 := bx_f Q4 | replace Q4 := be_t Q4 | replace Q4 := be_f Q4)
        refine cd_skip ?_
        refine nx_block ?_
        refine nx_then ?_
        refine cd_region ?_
        refine st_val (ro_move (v := .int _ _) rfl) ?_
        refine st_val (ro_addN (b := 1) rfl rfl (by omega)) ?_
        refine st_val (ro_assign (v := .int _ _) rfl) ?_
        refine st_nil ?_
        refine nx_cut (k + 1) ⟨(by first | rfl | (refine int_eq ?_; omega)), trivial⟩ (by (iterate 42 refine agr_cons rfl ?_); exact agr_rfl) ⟨?_, ?_⟩
        · exact ⟨by omega, all_take hkn ht (okS_yes (by omega) (by omega)), hB⟩
        · show n - (k + 1) < n - k; omega
  · (try with_reducible first | replace Q2 := of_decide_eq_true Q2 | replace Q2 := of_decide_eq_false Q2 | replace Q2 := bn_t Q2 | replace Q2 := bn_f Q2)
    (try with_reducible first | replace Q2 := of_decide_eq_true Q2 | replace Q2 := of_decide_eq_false Q2 | replace Q2 := bx_t Q2 | replace Q2 := bx_f Q2 | replace Q2 := be_t Q2 | replace Q2 := be_f Q2)
    refine cd_exit ?_
    refine ex_then ?_
    refine ex_then ?_
    refine ex_block ?_
    refine nx_then ?_
    refine cd_seq ?_
    refine cd_region ?_
    refine st_val (ro_assign (v := .bool _) rfl) ?_
    refine st_nil ?_
    refine nx_then ?_
    refine cd_ret ?_
    refine res1 (v := .bool _) rfl rfl ?_
    exact ⟨by rw [all_end (by omega) ht], hB⟩
/-- a list with its end, as a text -/
def endT (L : List Nat) (i : Nat) : Nat := if h : i < L.length then L[i] + 1 else 0
def endTo (L : List Nat) (k : Nat) (i : Nat) : Int := if i < k then (endT L i : Int) else 0
theorem endTo_put {L : List Nat} {k n : Nat} : tabJ n (upd (endTo L k) k (endT L k : Nat)) = tabJ n (endTo L (k + 1)) := tabJ_congr fun i _ => by
  unfold upd endTo
  by_cases e : i = k
  · subst e; rw [if_pos rfl, if_pos (by omega)]
  · rw [if_neg e]
    by_cases h : i < k
    · rw [if_pos h, if_pos (by omega)]
    · rw [if_neg h, if_neg (by omega)]
theorem endTo_all {L : List Nat} : tabJ (L.length + 1) (endTo L L.length) = tabJ (L.length + 1) fun i => (endT L i : Nat) := tabJ_congr fun i hi => by
  unfold endTo
  by_cases h : i < L.length
  · rw [if_pos h]
  · rw [if_neg h]; unfold endT; rw [dif_neg h]; rfl
theorem endT_txt (L : List Nat) : Txt (L.length + 1) (endT L) := ⟨by omega, by unfold endT; rw [dif_neg (by omega)], fun i hi => by unfold endT; rw [dif_pos (by omega)]; omega⟩
set_option maxRecDepth 100000 in
set_option maxHeartbeats 400000 in
theorem withEnd_rt (A : Option Addr) (c n : Nat) (L : List Nat) (w : World) (hr : RowOf iV w A (L.map fun x : Nat => (x : Int))) (hn : n = L.length) (hl : n ≤ 131072) (hx : ∀ x ∈ L, x < 512) :
    Rt Try.prog 28 [.slice A n c] w (fun v w' => (∃ g, v = .slice (some ⟨g, 0, none⟩) (n + 1) (n + 1) ∧ w.heap.size ≤ g ∧ Blk w' g 21 (tabJ (n + 1) fun i => (endT L i : Nat))) ∧ From w w') := by
  refine enter (n := 25) Try.func28 rfl rfl rfl ?_
  refine cd_seq ?_
  refine cd_region ?_
  refine st_val (ro_assign (v := .slice _ _ _) rfl) ?_
  refine st_nil ?_
  refine nx_then ?_
  refine cd_seq ?_
  refine cd_region ?_
  refine st_val (ro_move (v := .slice _ _ _) rfl) ?_
  refine st_val (ro_len SufWalks_l24 rfl) ?_
  refine st_val (ro_addN (b := 1) rfl rfl (by omega)) ?_
  refine st_make SufWalks_m51 rfl rfl rfl (by omega) (by omega) ?_
  intro b9 w1 E9 hb9 hk9
  have hg9 : w.heap.size ≤ b9 := Nat.le_of_eq hb9.symm
  refine st_val (ro_assign (v := .slice _ _ _) rfl) ?_
  refine st_nil ?_
  refine nx_then ?_
  refine cd_seq ?_
  refine cd_seq ?_
  refine cd_region ?_
  refine st_val (ro_move (v := .slice _ _ _) rfl) ?_
  refine st_val (ro_len SufWalks_l24 rfl) ?_
  refine st_val (ro_move (v := .int _ _) rfl) ?_
  refine st_nil ?_
  refine nx_then ?_
  refine cd_block ?_
  refine cd_loop (G := Nat) [4, 5, 13, 14, 15, 16, 17, 18, 19, 20, 21, 22, 23] (fun k => [(12, .int .i64 (k : Nat))]) (fun k w' => k ≤ n ∧ Blk w' b9 21 (tabJ (n + 1) (endTo L k)) ∧ From w w') (fun k => n - k) (0) ⟨rfl, trivial⟩ ?_ ?_
  · refine ⟨Nat.zero_le _, ?_, (From.rfl_.next E9)⟩
    rw [tabJ_zero] at hk9
    exact hk9
  rintro k ρ2 w2 ⟨hk, hT, hB⟩
  refine cd_seq ?_
  refine cd_region ?_
  refine st_val (ro_lss rfl rfl) ?_
  refine st_nil ?_
  refine nx_then ?_
  refine cd_seq ?_
  refine cd_cond rfl (fun Q3 => ?_) (fun Q3 => ?_)
  · (try with_reducible first | replace Q3 := of_decide_eq_true Q3 | replace Q3 := of_decide_eq_false Q3 | replace Q3 := bn_t Q3 | replace Q3 := bn_f Q3)
    (try with_reducible first | replace Q3 := of_decide_eq_true Q3 | replace Q3 := of_decide_eq_false Q3 | replace Q3 := bx_t Q3 | replace Q3 := bx_f Q3 | replace Q3 := be_t Q3 | replace Q3 := be_f Q3)
    have hkn : k < L.length := by omega
    obtain ⟨ba, oa, rfl, hca⟩ := hr (by rw [List.length_map]; omega)
    have hck := hca k (by rw [List.length_map]; omega)
    rw [List.getElem_map] at hck
    have hend : endT L k = L[k] + 1 := by unfold endT; rw [dif_pos hkn]
    have hxk := hx _ (List.getElem_mem hkn)
    refine cd_skip ?_
    refine nx_then ?_
    refine cd_seq ?_
    refine cd_block ?_
    refine cd_seq ?_
    refine cd_region ?_
    refine st_val (ro_move (v := .int _ _) rfl) ?_
    refine st_val (ro_indexAddr1 SufWalks_e24 rfl rfl (by omega)) ?_
    refine st_val (ro_load SufWalks_g3 rfl (by exact cellF hB hck)) ?_
    refine st_val (ro_assign (v := .int _ _) rfl) ?_
    refine st_val (ro_assign (v := .int _ _) rfl) ?_
    refine st_nil ?_
    refine nx_then ?_
    refine cd_region ?_
    refine st_val (ro_move (v := .slice _ _ _) rfl) ?_
    refine st_val (ro_move (v := .int _ _) rfl) ?_
    refine st_val (ro_move (v := .int _ _) rfl) ?_
    refine st_val (ro_conv32 SufWalks_s3 SufWalks_i21 rfl (by omega)) ?_
    refine st_val (ro_add32 rfl rfl (r := (endT L k : Nat)) (by rw [hend]; omega) (by rw [hend]; omega)) ?_
    refine st_val (ro_indexAddr0 SufWalks_e51 rfl rfl (by omega)) ?_
    refine st_put (v := .int _ _) SufWalks_z21 rfl rfl rfl (hT) (by rw [tabJ_size]; omega) ?_
    intro w4 O5 P5
    have P5b : Blk w4 b9 21 (tabJ (n + 1) (endTo L (k + 1))) := by rw [← endTo_put, ← tabJ_set]; exact P5
    refine st_nil ?_
    refine nx_block ?_
    refine nx_then ?_
    refine cd_region ?_
    refine st_val (ro_addN (b := 1) rfl rfl (by omega)) ?_
    refine st_val (ro_move (v := .int _ _) rfl) ?_
    refine st_nil ?_
    refine nx_cut (k + 1) ⟨(by first | rfl | (refine int_eq ?_; omega)), trivial⟩ (by (iterate 28 refine agr_cons rfl ?_); exact agr_rfl) ⟨?_, ?_⟩
    · exact ⟨by omega, P5b, (hB.only O5 (hg9))⟩
    · show n - (k + 1) < n - k; omega
  · (try with_reducible first | replace Q3 := of_decide_eq_true Q3 | replace Q3 := of_decide_eq_false Q3 | replace Q3 := bn_t Q3 | replace Q3 := bn_f Q3)
    (try with_reducible first | replace Q3 := of_decide_eq_true Q3 | replace Q3 := of_decide_eq_false Q3 | replace Q3 := bx_t Q3 | replace Q3 := bx_f Q3 | replace Q3 := be_t Q3 | replace Q3 := be_f Q3)
    refine cd_exit ?_
    refine ex_then ?_
    refine ex_then ?_
    refine ex_block ?_
    refine nx_then ?_
    refine cd_seq ?_
    refine cd_region ?_
    refine st_val (ro_move (v := .slice _ _ _) rfl) ?_
    refine st_val (ro_assign (v := .slice _ _ _) rfl) ?_
    refine st_nil ?_
    refine nx_then ?_
    refine cd_ret ?_
    refine res1 (v := .slice _ _ _) rfl rfl ?_
    obtain rfl : k = n := by omega
    exact ⟨⟨b9, rfl, hg9, by subst hn; rw [← endTo_all]; exact hT⟩, hB⟩
set_option maxRecDepth 100000 in
set_option maxHeartbeats 400000 in
theorem clone32_rt (A : Option Addr) (c n : Nat) (xs : List Value) (w : World) (hx : xs.length = n * 1) (hr : 0 < n → ∃ b o, A = some ⟨b, o, none⟩ ∧ w.rangeAt b o xs) (hn0 : A = none → n = 0 ∧ c = 0) (h1 : ∀ u ∈ xs, u.oneCell' = true) (hl : n ≤ 100000000000) :
    Rt Try.prog 34 [.slice A n c] w (fun v w' => (∃ A' c', v = .slice A' n c' ∧ w'.ownsRow w.heap.size 21 1 (.slice A' n c') n xs) ∧ From w w') := by
  refine enter (n := 8) Try.func34 rfl rfl rfl ?_
  refine cd_seq ?_
  refine cd_region ?_
  refine st_val (ro_assign (v := .slice _ _ _) rfl) ?_
  refine st_nil ?_
  refine nx_then ?_
  refine cd_seq ?_
  refine cd_seq ?_
  refine cd_region ?_
  refine st_val (ro_move (v := .slice _ _ _) rfl) ?_
  refine st_val (ro_eqlNilS SufWalks_u51 rfl rfl) ?_
  refine st_nil ?_
  refine nx_then ?_
  refine cd_cond rfl (fun Q1 => ?_) (fun Q1 => ?_)
  · (try first | replace Q1 := bn_t Q1 | replace Q1 := bn_f Q1)
    (try first | replace Q1 := bx_t Q1 | replace Q1 := bx_f Q1 | replace Q1 := be_t Q1 | replace Q1 := be_f Q1 | replace Q1 := of_decide_eq_true Q1 | replace Q1 := of_decide_eq_false Q1)
    obtain rfl : A = none := Option.isNone_iff_eq_none.1 Q1
    obtain ⟨rfl, rfl⟩ := hn0 rfl
    obtain rfl : xs = [] := List.eq_nil_of_length_eq_zero (by omega)
    refine cd_seq ?_
    refine cd_region ?_
    refine st_val (ro_assign (v := .slice _ _ _) rfl) ?_
    refine st_nil ?_
    refine nx_then ?_
    refine cd_ret ?_
    refine rt_then ?_
    refine res1 (v := .slice _ _ _) rfl rfl ?_
    exact ⟨⟨none, 0, rfl, World.ownsRow_nil _ _ _ _⟩, From.rfl_⟩
  · (try first | replace Q1 := bn_t Q1 | replace Q1 := bn_f Q1)
    (try first | replace Q1 := bx_t Q1 | replace Q1 := bx_f Q1 | replace Q1 := be_t Q1 | replace Q1 := be_f Q1 | replace Q1 := of_decide_eq_true Q1 | replace Q1 := of_decide_eq_false Q1)
    have hA4 : A = none → c = 0 := fun h => by rw [h] at Q1; cases Q1
    refine cd_skip ?_
    refine nx_then ?_
    refine cd_seq ?_
    refine cd_region ?_
    refine st_lit0 SufWalks_q51 _ (From.rfl_.size) ?_
    intro b5 w2 E5 hb5 ho5
    refine st_val (ro_move (v := .slice _ _ _) rfl) ?_
    refine st_append (a0 := w) SufWalks_q51 rfl (by decide) rfl ho5 (From.rfl_.next E5) rfl hx (fun h => (let ⟨b, o, hA, hc⟩ := hr h; ⟨b, o, hA, rangeF (From.rfl_.next E5) hc⟩)) hA4 h1 (by omega) (by omega) ?_
    intro A7 c7 w3 ho7 B7 hg7
    refine st_val (ro_assign (v := .slice _ _ _) rfl) ?_
    refine st_nil ?_
    refine nx_then ?_
    refine cd_ret ?_
    refine res1 (v := .slice _ _ _) rfl rfl ?_
    exact ⟨⟨A7, c7, by rw [Nat.zero_add], by simpa using ho7⟩, B7⟩
theorem clone_vj (g n : Nat) (t : Nat → Int) (w : World) (hb : VJ w g n t) (h0 : 0 < n) (hl : n ≤ 1000000) : Rt Try.prog 34 [.slice (some ⟨g, 0, none⟩) n n] w fun v w' => (∃ g2 c2, v = .slice (some ⟨g2, 0, none⟩) n c2 ∧ w.heap.size ≤ g2 ∧ VJ w' g2 n t) ∧ From w w' := by
  refine (clone32_rt (some ⟨g, 0, none⟩) n n (((List.range n).map t).map jV) w (by simp) (fun _ => ⟨g, 0, rfl, fun j v hv => ?_⟩) (fun h => by cases h) (fun u hu => ?_) (by omega)).mono fun v w' h => ?_
  · have hj : j < n := by
      rcases Nat.lt_or_ge j n with a | a
      · exact a
      · rw [List.getElem?_eq_none (by simpa using a)] at hv
        cases hv
    have e := hb.rd hj
    simp [hj] at hv
    rw [Nat.zero_add, e, ← hv]
  · obtain ⟨x, _, rfl⟩ := List.mem_map.1 hu
    rfl
  · obtain ⟨⟨A2, c2, rfl, ho⟩, hF⟩ := h
    obtain ⟨g2, rfl⟩ := own_some ho h0
    exact ⟨⟨g2, c2, rfl, (VJ.own ho h0).2, (VJ.own ho h0).1⟩, hF⟩
end Go.Proofs.Ytpafbgdbjambgaa
