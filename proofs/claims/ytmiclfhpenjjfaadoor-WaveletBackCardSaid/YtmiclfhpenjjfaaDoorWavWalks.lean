/- wavelet: check, countLess, split, the methods of a level. -/
import Derived.Test.YtmiclfhpenjjfaaDoorBitsRank
import Derived.Test.YtmiclfhpenjjfaaDoorFast13
import Derived.Test.YtmiclfhpenjjfaaDoorWavMath
namespace Go.Proofs.YtmiclfhpenjjfaaDoor
open Go.RowKit
open Go.ChangeShapes Go.WideShapes Go.ChangeAt
theorem WavWalks_e22 : elemQ Tryd.prog 22 = some (3, 1) := by kernel_rfl
theorem WavWalks_e65 : elemQ Tryd.prog 65 = some (4, 1) := by kernel_rfl
theorem WavWalks_q22 : litQ Tryd.prog 22 = some (3, 1, 8, (.int .i64 0)) := by kernel_rfl
theorem WavWalks_l22 : (elemQ Tryd.prog 22).isSome = true := by kernel_rfl
theorem WavWalks_g3 : aggQ Tryd.prog 3 = some false := by kernel_rfl
theorem WavWalks_m22 : makeQ Tryd.prog 22 = some (3, 8, (.int .i64 0)) := by kernel_rfl
theorem WavWalks_z3 : sizeQ Tryd.prog 3 = some 1 := by kernel_rfl
abbrev nV (x : Nat) : Value := .int .i64 (x : Nat)
def badSym (k : Int) (x : Int) : Bool := decide (x < 0 ∨ k ≤ x)
def chkW (k : Int) (xs : List Int) : Int := if k < 1 ∨ 512 < k then 1 else if xs.any (badSym k) then 1 else if 131072 < xs.length then 2 else 0
theorem any_take {xs : List Int} {k : Int} {i : Nat} (hi : i < xs.length) (h : (xs.take i).any (badSym k) = false) (hb : badSym k xs[i] = false) : (xs.take (i + 1)).any (badSym k) = false := by
  rw [List.take_succ_eq_append_getElem hi, List.any_append, h]
  simp [hb]
theorem any_at {xs : List Int} {k : Int} {i : Nat} (hi : i < xs.length) (hb : badSym k xs[i] = true) : xs.any (badSym k) = true := List.any_eq_true.2 ⟨_, List.getElem_mem hi, hb⟩
def cntLt (L : List Nat) (c : Nat) : Nat := L.countP fun x => decide (x < c)
def cntS (L : List Nat) (c : Nat) : Nat := L.countP fun x => decide (x + 1 = c)
theorem cntS_succ {L : List Nat} {i : Nat} (h : i < L.length) (c : Nat) : cntS (L.take (i + 1)) c = cntS (L.take i) c + if c = L[i] + 1 then 1 else 0 := by
  unfold cntS
  rw [List.take_succ_eq_append_getElem h, List.countP_append]
  by_cases hc : c = L[i] + 1
  · rw [if_pos hc]; simp [hc]
  · rw [if_neg hc]
    have : ¬ L[i] + 1 = c := fun e => hc e.symm
    simp [this]
theorem cntLt_succ (L : List Nat) (c : Nat) : cntLt L (c + 1) = cntS L (c + 1) + cntLt L c := by
  unfold cntLt cntS
  induction L with
  | nil => rfl
  | cons x r ih =>
    simp only [List.countP_cons, ih]
    rcases Nat.lt_trichotomy x c with h | h | h
    · rw [decide_eq_true (show x < c + 1 by omega), decide_eq_false (show ¬ x + 1 = c + 1 by omega), decide_eq_true h]
      simp only [if_true, Bool.false_eq_true, if_false]
      omega
    · rw [decide_eq_true (show x < c + 1 by omega), decide_eq_true (show x + 1 = c + 1 by omega), decide_eq_false (show ¬ x < c by omega)]
      simp only [if_true, Bool.false_eq_true, if_false]
      omega
    · rw [decide_eq_false (show ¬ x < c + 1 by omega), decide_eq_false (show ¬ x + 1 = c + 1 by omega), decide_eq_false (show ¬ x < c by omega)]
      simp only [Bool.false_eq_true, if_false]
      omega
theorem cntLt_zero (L : List Nat) : cntLt L 0 = 0 := by unfold cntLt; simp
theorem cntS_le (L : List Nat) (c : Nat) : cntS L c ≤ L.length := List.countP_le_length
theorem cntLt_le (L : List Nat) (c : Nat) : cntLt L c ≤ L.length := List.countP_le_length
def tab (n : Nat) (F : Nat → Nat) : Array Value := ((List.range n).map fun c => nV (F c)).toArray
theorem tab_get {n : Nat} {F : Nat → Nat} {i : Nat} (h : i < n) : (tab n F)[i]? = some (nV (F i)) := by simp [tab, h]
theorem tab_set {n : Nat} {F : Nat → Nat} (i : Nat) (v : Nat) : (tab n F).setIfInBounds i (nV v) = tab n fun c => if c = i then v else F c := by
  unfold tab
  rw [List.setIfInBounds_toArray]
  congr 1
  apply List.ext_getElem
  · simp
  · intro j h1 h2
    simp only [List.length_set, List.length_map, List.length_range] at h1
    rw [List.getElem_set]
    simp only [List.getElem_map, List.getElem_range]
    by_cases hj : i = j
    · subst hj; simp
    · rw [if_neg hj, if_neg (fun e => hj e.symm)]
theorem tab_congr {n : Nat} {F G : Nat → Nat} (h : ∀ c, c < n → F c = G c) : tab n F = tab n G := by
  unfold tab
  congr 1
  apply List.map_congr_left
  intro c hc
  rw [h c (by simpa using hc)]
theorem tab_size (n : Nat) (F : Nat → Nat) : (tab n F).size = n := by simp [tab]
theorem tab_zero (n : Nat) : (List.replicate n (Value.int .i64 0)).toArray = tab n fun _ => 0 := by
  unfold tab
  congr 1
  apply List.ext_getElem
  · simp
  · intro i h1 h2; simp
set_option maxRecDepth 100000 in
set_option maxHeartbeats 400000 in
theorem check_rt (k : Int) (A : Option Addr) (c : Nat) (xs : List Int) (w : World) (hr : RowOf iV w A xs) (hl : xs.length * 8 ≤ 140737488351232) :
    Rt Tryd.prog 24 [.int .i64 k, .slice A xs.length c] w (fun v w' => v = .int .i64 (chkW k xs) ∧ w = w') := by
  refine enter (n := 30) Tryd.func24 rfl rfl rfl ?_
  refine cd_seq ?_
  refine cd_region ?_
  refine st_val (ro_assign (v := .int _ _) rfl) ?_
  refine st_nil ?_
  refine nx_then ?_
  refine cd_seq ?_
  refine cd_seq ?_
  refine cd_region ?_
  refine st_val (ro_move (v := .int _ _) rfl) ?_
  refine st_val (ro_lss rfl rfl) ?_
  refine st_val (ro_move (v := .bool _) rfl) ?_
  refine st_split (t := 9) rfl (fun Q1 => ?_) (fun Q1 => ?_)
  · (try with_reducible first | replace Q1 := of_decide_eq_true Q1 | replace Q1 := of_decide_eq_false Q1 | replace Q1 := bn_t Q1 | replace Q1 := bn_f Q1)
    (try with_reducible first | replace Q1 := of_decide_eq_true Q1 | replace Q1 := of_decide_eq_false Q1 | replace Q1 := bx_t Q1 | replace Q1 := bx_f Q1 | replace Q1 := be_t Q1 | replace Q1 := be_f Q1)
    refine st_gno rfl rfl ?_
    refine st_gno rfl rfl ?_
    refine st_val (ro_pickT (v := .bool _) rfl rfl) ?_
    refine st_nil ?_
    refine nx_then ?_
    refine cd_condT rfl ?_
    refine cd_seq ?_
    refine cd_region ?_
    refine st_val (ro_assign (v := .int _ _) rfl) ?_
    refine st_nil ?_
    refine nx_then ?_
    refine cd_ret ?_
    refine rt_then ?_
    refine res1 (v := .int _ _) rfl rfl ?_
    exact ⟨int_eq (by unfold chkW; rw [if_pos (by omega)]), rfl⟩
  · (try with_reducible first | replace Q1 := of_decide_eq_true Q1 | replace Q1 := of_decide_eq_false Q1 | replace Q1 := bn_t Q1 | replace Q1 := bn_f Q1)
    (try with_reducible first | replace Q1 := of_decide_eq_true Q1 | replace Q1 := of_decide_eq_false Q1 | replace Q1 := bx_t Q1 | replace Q1 := bx_f Q1 | replace Q1 := be_t Q1 | replace Q1 := be_f Q1)
    refine st_unguard rfl ?_
    refine st_val (ro_move (v := .int _ _) rfl) ?_
    refine st_unguard rfl ?_
    refine st_val (ro_gtr rfl rfl) ?_
    refine st_val (ro_pickF (v := .bool _) rfl rfl) ?_
    refine st_nil ?_
    refine nx_then ?_
    refine cd_cond rfl (fun Q2 => ?_) (fun Q2 => ?_)
    · (try with_reducible first | replace Q2 := of_decide_eq_true Q2 | replace Q2 := of_decide_eq_false Q2 | replace Q2 := bn_t Q2 | replace Q2 := bn_f Q2)
      (try with_reducible first | replace Q2 := of_decide_eq_true Q2 | replace Q2 := of_decide_eq_false Q2 | replace Q2 := bx_t Q2 | replace Q2 := bx_f Q2 | replace Q2 := be_t Q2 | replace Q2 := be_f Q2)
      refine cd_seq ?_
      refine cd_region ?_
      refine st_val (ro_assign (v := .int _ _) rfl) ?_
      refine st_nil ?_
      refine nx_then ?_
      refine cd_ret ?_
      refine rt_then ?_
      refine res1 (v := .int _ _) rfl rfl ?_
      exact ⟨int_eq (by unfold chkW; rw [if_pos (by omega)]), rfl⟩
    · (try with_reducible first | replace Q2 := of_decide_eq_true Q2 | replace Q2 := of_decide_eq_false Q2 | replace Q2 := bn_t Q2 | replace Q2 := bn_f Q2)
      (try with_reducible first | replace Q2 := of_decide_eq_true Q2 | replace Q2 := of_decide_eq_false Q2 | replace Q2 := bx_t Q2 | replace Q2 := bx_f Q2 | replace Q2 := be_t Q2 | replace Q2 := be_f Q2)
      refine cd_skip ?_
      refine nx_then ?_
      refine cd_seq ?_
      refine cd_seq ?_
      refine cd_region ?_
      refine st_val (ro_move (v := .slice _ _ _) rfl) ?_
      refine st_val (ro_len WavWalks_l22 rfl) ?_
      refine st_val (ro_move (v := .int _ _) rfl) ?_
      refine st_nil ?_
      refine nx_then ?_
      refine cd_block ?_
      refine cd_loop (G := Nat) [4, 6, 16, 17, 18, 19, 20, 21, 22, 23, 24, 25, 26] (fun i => [(15, .int .i64 (i : Nat))]) (fun i w' => i ≤ xs.length ∧ (xs.take i).any (badSym k) = false ∧ w = w') (fun i => xs.length - i) (0) ⟨rfl, trivial⟩ ?_ ?_
      · exact ⟨Nat.zero_le _, rfl, rfl⟩
      rintro i ρ3 w3 ⟨hi, han, rfl⟩
      refine cd_seq ?_
      refine cd_region ?_
      refine st_val (ro_lss rfl rfl) ?_
      refine st_nil ?_
      refine nx_then ?_
      refine cd_seq ?_
      refine cd_cond rfl (fun Q4 => ?_) (fun Q4 => ?_)
      · (try with_reducible first | replace Q4 := of_decide_eq_true Q4 | replace Q4 := of_decide_eq_false Q4 | replace Q4 := bn_t Q4 | replace Q4 := bn_f Q4)
        (try with_reducible first | replace Q4 := of_decide_eq_true Q4 | replace Q4 := of_decide_eq_false Q4 | replace Q4 := bx_t Q4 | replace Q4 := bx_f Q4 | replace Q4 := be_t Q4 | replace Q4 := be_f Q4)
        have hiL : i < xs.length := by omega
        obtain ⟨ba, oa, hA, hca⟩ := hr (by omega)
        subst hA
        refine cd_skip ?_
        refine nx_then ?_
        refine cd_seq ?_
        refine cd_block ?_
        refine cd_seq ?_
        refine cd_region ?_
        refine st_val (ro_indexAddr1 WavWalks_e22 rfl rfl (by omega)) ?_
        refine st_val (ro_load WavWalks_g3 rfl (by exact hca i hiL)) ?_
        refine st_val (ro_assign (v := .int _ _) rfl) ?_
        refine st_nil ?_
        refine nx_then ?_
        refine cd_seq ?_
        refine cd_region ?_
        refine st_val (ro_move (v := .int _ _) rfl) ?_
        refine st_val (ro_lss rfl rfl) ?_
        refine st_val (ro_move (v := .bool _) rfl) ?_
        refine st_split (t := 21) rfl (fun Q5 => ?_) (fun Q5 => ?_)
        · (try with_reducible first | replace Q5 := of_decide_eq_true Q5 | replace Q5 := of_decide_eq_false Q5 | replace Q5 := bn_t Q5 | replace Q5 := bn_f Q5)
          (try with_reducible first | replace Q5 := of_decide_eq_true Q5 | replace Q5 := of_decide_eq_false Q5 | replace Q5 := bx_t Q5 | replace Q5 := bx_f Q5 | replace Q5 := be_t Q5 | replace Q5 := be_f Q5)
          have hbd : badSym k xs[i] = true := decide_eq_true (by omega)
          refine st_gno rfl rfl ?_
          refine st_gno rfl rfl ?_
          refine st_gno rfl rfl ?_
          refine st_val (ro_pickT (v := .bool _) rfl rfl) ?_
          refine st_nil ?_
          refine nx_then ?_
          refine cd_condT rfl ?_
          refine cd_seq ?_
          refine cd_region ?_
          refine st_val (ro_assign (v := .int _ _) rfl) ?_
          refine st_nil ?_
          refine nx_then ?_
          refine cd_ret ?_
          refine rt_block ?_
          refine rt_then ?_
          refine rt_then ?_
          refine rt_block ?_
          refine rt_then ?_
          refine res1 (v := .int _ _) rfl rfl ?_
          exact ⟨int_eq (by unfold chkW; rw [if_neg (by omega), if_pos (any_at hiL hbd)]), rfl⟩
        · (try with_reducible first | replace Q5 := of_decide_eq_true Q5 | replace Q5 := of_decide_eq_false Q5 | replace Q5 := bn_t Q5 | replace Q5 := bn_f Q5)
          (try with_reducible first | replace Q5 := of_decide_eq_true Q5 | replace Q5 := of_decide_eq_false Q5 | replace Q5 := bx_t Q5 | replace Q5 := bx_f Q5 | replace Q5 := be_t Q5 | replace Q5 := be_f Q5)
          refine st_unguard rfl ?_
          refine st_val (ro_move (v := .int _ _) rfl) ?_
          refine st_unguard rfl ?_
          refine st_val (ro_move (v := .int _ _) rfl) ?_
          refine st_unguard rfl ?_
          refine st_val (ro_geq rfl rfl) ?_
          refine st_val (ro_pickF (v := .bool _) rfl rfl) ?_
          refine st_nil ?_
          refine nx_then ?_
          refine cd_cond rfl (fun Q6 => ?_) (fun Q6 => ?_)
          · (try with_reducible first | replace Q6 := of_decide_eq_true Q6 | replace Q6 := of_decide_eq_false Q6 | replace Q6 := bn_t Q6 | replace Q6 := bn_f Q6)
            (try with_reducible first | replace Q6 := of_decide_eq_true Q6 | replace Q6 := of_decide_eq_false Q6 | replace Q6 := bx_t Q6 | replace Q6 := bx_f Q6 | replace Q6 := be_t Q6 | replace Q6 := be_f Q6)
            have hbd : badSym k xs[i] = true := decide_eq_true (by omega)
            first
             | (exfalso; omega)
             | skip
               refine cd_seq ?_
               refine cd_region ?_
               refine st_val (ro_assign (v := .int _ _) rfl) ?_
               refine st_nil ?_
               refine nx_then ?_
               refine cd_ret ?_
               refine rt_block ?_
               refine rt_then ?_
               refine rt_then ?_
               refine rt_block ?_
               refine rt_then ?_
               refine res1 (v := .int _ _) rfl rfl ?_
               exact ⟨int_eq (by unfold chkW; rw [if_neg (by omega), if_pos (any_at hiL hbd)]), rfl⟩
          · (try with_reducible first | replace Q6 := of_decide_eq_true Q6 | replace Q6 := of_decide_eq_false Q6 | replace Q6 := bn_t Q6 | replace Q6 := bn_f Q6)
            (try with_reducible first | replace Q6 := of_decide_eq_true Q6 | replace Q6 := of_decide_eq_false Q6 | replace Q6 := bx_t Q6 | replace Q6 := bx_f Q6 | replace Q6 := be_t Q6 | replace Q6 := be_f Q6)
            have hbd : badSym k xs[i] = false := decide_eq_false (by omega)
            first
             | (exfalso; omega)
             | skip
               refine cd_skip ?_
               refine nx_block ?_
               refine nx_then ?_
               refine cd_region ?_
               refine st_val (ro_addN (b := 1) rfl rfl (by omega)) ?_
               refine st_val (ro_move (v := .int _ _) rfl) ?_
               refine st_nil ?_
               refine nx_cut (i + 1) ⟨(by first | rfl | (refine int_eq ?_; omega)), trivial⟩ (by (iterate 28 refine agr_cons rfl ?_); exact agr_rfl) ⟨?_, ?_⟩
               · exact ⟨by omega, any_take hiL han hbd, rfl⟩
               · omega
      · (try with_reducible first | replace Q4 := of_decide_eq_true Q4 | replace Q4 := of_decide_eq_false Q4 | replace Q4 := bn_t Q4 | replace Q4 := bn_f Q4)
        (try with_reducible first | replace Q4 := of_decide_eq_true Q4 | replace Q4 := of_decide_eq_false Q4 | replace Q4 := bx_t Q4 | replace Q4 := bx_f Q4 | replace Q4 := be_t Q4 | replace Q4 := be_f Q4)
        refine cd_exit ?_
        refine ex_then ?_
        refine ex_then ?_
        refine ex_block ?_
        refine nx_then ?_
        refine cd_seq ?_
        refine cd_seq ?_
        refine cd_region ?_
        refine st_val (ro_move (v := .slice _ _ _) rfl) ?_
        refine st_val (ro_len WavWalks_l22 rfl) ?_
        refine st_val (ro_gtr rfl rfl) ?_
        refine st_nil ?_
        refine nx_then ?_
        refine cd_cond rfl (fun Q7 => ?_) (fun Q7 => ?_)
        · (try with_reducible first | replace Q7 := of_decide_eq_true Q7 | replace Q7 := of_decide_eq_false Q7 | replace Q7 := bn_t Q7 | replace Q7 := bn_f Q7)
          (try with_reducible first | replace Q7 := of_decide_eq_true Q7 | replace Q7 := of_decide_eq_false Q7 | replace Q7 := bx_t Q7 | replace Q7 := bx_f Q7 | replace Q7 := be_t Q7 | replace Q7 := be_f Q7)
          refine cd_seq ?_
          refine cd_region ?_
          refine st_val (ro_assign (v := .int _ _) rfl) ?_
          refine st_nil ?_
          refine nx_then ?_
          refine cd_ret ?_
          refine rt_then ?_
          refine res1 (v := .int _ _) rfl rfl ?_
          obtain rfl : i = xs.length := by omega
          rw [List.take_length] at han
          exact ⟨int_eq (by unfold chkW; rw [if_neg (by omega), if_neg (by rw [han]; simp), if_pos (by omega)]), rfl⟩
        · (try with_reducible first | replace Q7 := of_decide_eq_true Q7 | replace Q7 := of_decide_eq_false Q7 | replace Q7 := bn_t Q7 | replace Q7 := bn_f Q7)
          (try with_reducible first | replace Q7 := of_decide_eq_true Q7 | replace Q7 := of_decide_eq_false Q7 | replace Q7 := bx_t Q7 | replace Q7 := bx_f Q7 | replace Q7 := be_t Q7 | replace Q7 := be_f Q7)
          refine cd_skip ?_
          refine nx_then ?_
          refine cd_seq ?_
          refine cd_region ?_
          refine st_val (ro_assign (v := .int _ _) rfl) ?_
          refine st_nil ?_
          refine nx_then ?_
          refine cd_ret ?_
          refine res1 (v := .int _ _) rfl rfl ?_
          obtain rfl : i = xs.length := by omega
          rw [List.take_length] at han
          exact ⟨int_eq (by unfold chkW; rw [if_neg (by omega), if_neg (by rw [han]; simp), if_neg (by omega)]), rfl⟩
set_option maxRecDepth 100000 in
set_option maxHeartbeats 1000000 in
theorem countLess_rt (k : Nat) (hk : k ≤ 512) (A : Option Addr) (c : Nat) (L : List Nat) (w : World) (hr : RowOf nV w A L) (hl : L.length ≤ 131072) (hlt : ∀ x ∈ L, x < k) :
    Rt Tryd.prog 25 [.int .i64 (k : Nat), .slice A L.length c] w (fun v w' => (∃ g, v = .slice (some ⟨g, 0, none⟩) (k + 1) (k + 1) ∧ w.heap.size ≤ g ∧ Blk w' g 3 (tab (k + 1) (cntLt L))) ∧ From w w') := by
  refine enter (n := 43) Tryd.func25 rfl rfl rfl ?_
  refine cd_seq ?_
  refine cd_region ?_
  refine st_val (ro_assign (v := .slice _ _ _) rfl) ?_
  refine st_nil ?_
  refine nx_then ?_
  refine cd_seq ?_
  refine cd_region ?_
  refine st_val (ro_move (v := .int _ _) rfl) ?_
  refine st_val (ro_addN (b := 1) rfl rfl (by omega)) ?_
  refine st_make WavWalks_m22 rfl rfl rfl (by omega) (by omega) ?_
  intro b11 w1 E11 hb11 hk11
  have hg11 : w.heap.size ≤ b11 := Nat.le_of_eq hb11.symm
  refine st_val (ro_assign (v := .slice _ _ _) rfl) ?_
  refine st_nil ?_
  refine nx_then ?_
  refine cd_seq ?_
  refine cd_seq ?_
  refine cd_region ?_
  refine st_val (ro_move (v := .slice _ _ _) rfl) ?_
  refine st_val (ro_len WavWalks_l22 rfl) ?_
  refine st_val (ro_move (v := .int _ _) rfl) ?_
  refine st_nil ?_
  refine nx_then ?_
  refine cd_block ?_
  refine cd_loop (G := Nat) [7, 15, 16, 17, 18, 19, 20, 21, 22, 23, 24, 25] (fun i => [(14, .int .i64 (i : Nat))]) (fun i w' => i ≤ L.length ∧ Blk w' b11 3 (tab (k + 1) (cntS (L.take i))) ∧ From w w') (fun i => L.length - i) (0) ⟨rfl, trivial⟩ ?_ ?_
  · exact ⟨Nat.zero_le _, by rw [show (tab (k + 1) (cntS (L.take 0))) = _ from (tab_congr fun c _ => by simp [cntS]).trans (tab_zero (k + 1)).symm]; exact hk11, (From.rfl_.next E11)⟩
  rintro i ρ2 w2 ⟨hi, hT, hB⟩
  refine cd_seq ?_
  refine cd_region ?_
  refine st_val (ro_lss rfl rfl) ?_
  refine st_nil ?_
  refine nx_then ?_
  refine cd_seq ?_
  refine cd_cond rfl (fun Q3 => ?_) (fun Q3 => ?_)
  · (try with_reducible first | replace Q3 := of_decide_eq_true Q3 | replace Q3 := of_decide_eq_false Q3 | replace Q3 := bn_t Q3 | replace Q3 := bn_f Q3)
    (try with_reducible first | replace Q3 := of_decide_eq_true Q3 | replace Q3 := of_decide_eq_false Q3 | replace Q3 := bx_t Q3 | replace Q3 := bx_f Q3 | replace Q3 := be_t Q3 | replace Q3 := be_f Q3)
    have hiL : i < L.length := by omega
    obtain ⟨ba, oa, hA, hca⟩ := hr (by omega)
    subst hA
    have hLk : L[i] < k := hlt _ (List.getElem_mem _)
    refine cd_skip ?_
    refine nx_then ?_
    refine cd_seq ?_
    refine cd_block ?_
    refine cd_seq ?_
    refine cd_region ?_
    refine st_val (ro_indexAddr1 WavWalks_e22 rfl rfl (by omega)) ?_
    refine st_val (ro_load WavWalks_g3 rfl (by exact cellF hB (hca i hiL))) ?_
    refine st_val (ro_assign (v := .int _ _) rfl) ?_
    refine st_nil ?_
    refine nx_then ?_
    refine cd_region ?_
    refine st_val (ro_move (v := .slice _ _ _) rfl) ?_
    refine st_val (ro_move (v := .int _ _) rfl) ?_
    refine st_val (ro_addN (b := 1) rfl rfl (by omega)) ?_
    refine st_val (ro_indexAddr0 WavWalks_e22 rfl rfl (by omega)) ?_
    refine st_val (ro_load WavWalks_g3 rfl (by exact hT.rd _ (tab_get (by omega)))) ?_
    refine st_val (ro_addN (b := 1) rfl rfl (by have := cntS_le (L.take i) (L[i] + 1); rw [List.length_take] at this; omega)) ?_
    refine st_val (ro_indexAddr0 WavWalks_e22 rfl rfl (by omega)) ?_
    refine st_put (v := .int _ _) WavWalks_z3 rfl rfl rfl (hT) (by rw [tab_size]; omega) ?_
    intro w4 O5 P5
    refine st_nil ?_
    refine nx_block ?_
    refine nx_then ?_
    refine cd_region ?_
    refine st_val (ro_addN (b := 1) rfl rfl (by omega)) ?_
    refine st_val (ro_move (v := .int _ _) rfl) ?_
    refine st_nil ?_
    refine nx_cut (i + 1) ⟨(by first | rfl | (refine int_eq ?_; omega)), trivial⟩ (by (iterate 26 refine agr_cons rfl ?_); exact agr_rfl) ⟨?_, ?_⟩
    · refine ⟨by omega, ?_, (hB.only O5 (hg11))⟩
      have e : tab (k + 1) (fun c => if c = L[i] + 1 then cntS (L.take i) (L[i] + 1) + 1 else cntS (L.take i) c) = tab (k + 1) (cntS (L.take (i + 1))) := tab_congr fun c _ => by rw [cntS_succ hiL]; by_cases hc : c = L[i] + 1 <;> simp [hc]
      rw [← e, ← tab_set]
      exact P5
    · omega
  · (try with_reducible first | replace Q3 := of_decide_eq_true Q3 | replace Q3 := of_decide_eq_false Q3 | replace Q3 := bn_t Q3 | replace Q3 := bn_f Q3)
    (try with_reducible first | replace Q3 := of_decide_eq_true Q3 | replace Q3 := of_decide_eq_false Q3 | replace Q3 := bx_t Q3 | replace Q3 := bx_f Q3 | replace Q3 := be_t Q3 | replace Q3 := be_f Q3)
    refine cd_exit ?_
    refine ex_then ?_
    refine ex_then ?_
    refine ex_block ?_
    refine nx_then ?_
    refine cd_seq ?_
    refine cd_seq ?_
    refine cd_region ?_
    refine st_val (ro_move (v := .int _ _) rfl) ?_
    refine st_val (ro_move (v := .int _ _) rfl) ?_
    refine st_nil ?_
    refine nx_then ?_
    refine cd_block ?_
    refine cd_loop (G := Nat) [8, 28, 29, 30, 31, 32, 33, 34, 35, 36, 37, 38, 39, 40, 41] (fun j => [(27, .int .i64 (j : Nat))]) (fun j w' => j ≤ k ∧ Blk w' b11 3 (tab (k + 1) (fun c => if c ≤ j then cntLt L c else cntS L c)) ∧ From w w') (fun j => k - j) (0) ⟨rfl, trivial⟩ ?_ ?_
    · refine ⟨Nat.zero_le _, ?_, hB⟩
      obtain rfl : i = L.length := by omega
      rw [List.take_length] at hT
      have e : tab (k + 1) (fun c => if c ≤ 0 then cntLt L c else cntS L c) = tab (k + 1) (cntS L) := tab_congr fun c _ => by
        split
        · rename_i h; obtain rfl : c = 0 := by omega
          rw [cntLt_zero]; unfold cntS; simp
        · rfl
      rw [e]
      exact hT
    rintro j ρ5 w5 ⟨hj, hT2, hB⟩
    refine cd_seq ?_
    refine cd_region ?_
    refine st_val (ro_lss rfl rfl) ?_
    refine st_nil ?_
    refine nx_then ?_
    refine cd_seq ?_
    refine cd_cond rfl (fun Q6 => ?_) (fun Q6 => ?_)
    · (try with_reducible first | replace Q6 := of_decide_eq_true Q6 | replace Q6 := of_decide_eq_false Q6 | replace Q6 := bn_t Q6 | replace Q6 := bn_f Q6)
      (try with_reducible first | replace Q6 := of_decide_eq_true Q6 | replace Q6 := of_decide_eq_false Q6 | replace Q6 := bx_t Q6 | replace Q6 := bx_f Q6 | replace Q6 := be_t Q6 | replace Q6 := be_f Q6)
      have hjk : j < k := by omega
      refine cd_skip ?_
      refine nx_then ?_
      refine cd_seq ?_
      refine cd_block ?_
      refine cd_seq ?_
      refine cd_region ?_
      refine st_val (ro_move (v := .int _ _) rfl) ?_
      refine st_val (ro_assign (v := .int _ _) rfl) ?_
      refine st_nil ?_
      refine nx_then ?_
      apply cd_drawnD 11 [(30, eqp _), (31, eqp _), (32, eqp _), (33, eqp _), (34, eqp (nV (cntS L (j + 1)))), (35, eqp _), (36, eqp _), (37, eqp _), (38, eqp (nV (cntLt L j))), (39, eqp (nV (cntS L (j + 1) + cntLt L j))), (40, eqp _)] (by repeat first | exact pq_body | refine pq_then ?_ | refine pq_block ?_) (by kernel_rfl) (by kernel_rfl) ⟨eqp_mono _, eqp_mono _, eqp_mono _, eqp_mono _, eqp_mono _, eqp_mono _, eqp_mono _, eqp_mono _, eqp_mono _, eqp_mono _, eqp_mono _, trivial⟩
      case hop =>
       refine ⟨?_, ?_⟩
       · rintro - w8 D8
         show OpOK _ _ _ _ _ _ _
         exact ok_pure (ro_move (v := .slice _ _ _) rfl) rfl
       refine ⟨?_, ?_⟩
       · rintro - w9 D9
         show OpOK _ _ _ _ _ _ _
         exact ok_pure (ro_move (v := .int _ _) rfl) rfl
       refine ⟨?_, ?_⟩
       · rintro - w10 D10
         rintro _ rfl
         show OpOK _ _ _ _ _ _ _
         exact ok_pure (ro_addN (b := 1) rfl rfl (by omega)) rfl
       refine ⟨?_, ?_⟩
       · rintro - w11 D11
         rintro _ rfl _ rfl
         show OpOK _ _ _ _ _ _ _
         exact ok_pure (ro_indexAddr0 WavWalks_e22 rfl rfl (by omega)) rfl
       refine ⟨?_, ?_⟩
       · rintro - w12 D12
         rintro _ rfl
         show OpOK _ _ _ _ _ _ _
         exact ok_pure (ro_load WavWalks_g3 rfl ((hT2.from_ D12).rd _ (by rw [tab_get (by omega), if_neg (by omega)]))) rfl
       refine ⟨?_, ?_⟩
       · rintro - w13 D13
         show OpOK _ _ _ _ _ _ _
         exact ok_pure (ro_move (v := .slice _ _ _) rfl) rfl
       refine ⟨?_, ?_⟩
       · rintro - w14 D14
         show OpOK _ _ _ _ _ _ _
         exact ok_pure (ro_move (v := .int _ _) rfl) rfl
       refine ⟨?_, ?_⟩
       · rintro - w15 D15
         rintro _ rfl _ rfl
         show OpOK _ _ _ _ _ _ _
         exact ok_pure (ro_indexAddr0 WavWalks_e22 rfl rfl (by omega)) rfl
       refine ⟨?_, ?_⟩
       · rintro - w16 D16
         rintro _ rfl
         show OpOK _ _ _ _ _ _ _
         exact ok_pure (ro_load WavWalks_g3 rfl ((hT2.from_ D16).rd _ (by rw [tab_get (by omega), if_pos (Nat.le_refl _)]))) rfl
       refine ⟨?_, ?_⟩
       · rintro - w17 D17
         rintro v17_34 rfl v17_38 rfl
         show OpOK _ _ _ _ _ _ _
         exact ok_pure (ro_addN rfl rfl (by have := cntS_le L (j + 1); have := cntLt_le L j; omega)) rfl
       refine ⟨?_, ?_⟩
       · rintro - w18 D18
         rintro _ rfl _ rfl
         show OpOK _ _ _ _ _ _ _
         exact ok_pure (ro_indexAddr0 WavWalks_e22 rfl rfl (by omega)) rfl
       exact trivial
      case hend =>
       intro w19 D19
       rintro _ rfl _ rfl _ rfl _ rfl v34 rfl _ rfl _ rfl _ rfl v38 rfl v39 rfl _ rfl
       show St _ _ _ _ _ _ _
       have hT3 := hT2.from_ D19
       refine st_put (v := .int _ _) WavWalks_z3 rfl rfl rfl (hT3) (by rw [tab_size]; omega) ?_
       intro w20 O10 P10
       refine st_nil ?_
       refine nx_block ?_
       refine nx_then ?_
       refine cd_region ?_
       refine st_val (ro_addN (b := 1) rfl rfl (by omega)) ?_
       refine st_val (ro_move (v := .int _ _) rfl) ?_
       refine st_nil ?_
       refine nx_cut (j + 1) ⟨(by first | rfl | (refine int_eq ?_; omega)), trivial⟩ (by (iterate 32 refine agr_cons rfl ?_); exact agr_rfl) ⟨?_, ?_⟩
       · refine ⟨by omega, ?_, ((hB.next D19).only O10 (hg11))⟩
         have e : tab (k + 1) (fun c => if c = j + 1 then cntS L (j + 1) + cntLt L j else if c ≤ j then cntLt L c else cntS L c) = tab (k + 1) (fun c => if c ≤ j + 1 then cntLt L c else cntS L c) := tab_congr fun c _ => by
           by_cases h1 : c = j + 1
           · subst h1; rw [if_pos rfl, if_pos (Nat.le_refl _), cntLt_succ]
           · rw [if_neg h1]
             by_cases h2 : c ≤ j
             · rw [if_pos h2, if_pos (by omega)]
             · rw [if_neg h2, if_neg (by omega)]
         rw [← e, ← tab_set]
         exact P10
       · omega
    · (try with_reducible first | replace Q6 := of_decide_eq_true Q6 | replace Q6 := of_decide_eq_false Q6 | replace Q6 := bn_t Q6 | replace Q6 := bn_f Q6)
      (try with_reducible first | replace Q6 := of_decide_eq_true Q6 | replace Q6 := of_decide_eq_false Q6 | replace Q6 := bx_t Q6 | replace Q6 := bx_f Q6 | replace Q6 := be_t Q6 | replace Q6 := be_f Q6)
      refine cd_exit ?_
      refine ex_then ?_
      refine ex_then ?_
      refine ex_block ?_
      refine nx_then ?_
      refine cd_seq ?_
      refine cd_region ?_
      refine st_val (ro_move (v := .slice _ _ _) rfl) ?_
      refine st_val (ro_assign (v := .slice _ _ _) rfl) ?_
      refine st_nil ?_
      refine nx_then ?_
      refine cd_ret ?_
      refine res1 (v := .slice _ _ _) rfl rfl ?_
      obtain rfl : j = k := by omega
      have e : tab (j + 1) (fun c => if c ≤ j then cntLt L c else cntS L c) = tab (j + 1) (cntLt L) := tab_congr fun c hc => if_pos (by omega)
      rw [e] at hT2
      exact ⟨⟨b11, rfl, hg11, hT2⟩, hB⟩
end Go.Proofs.YtmiclfhpenjjfaaDoor
