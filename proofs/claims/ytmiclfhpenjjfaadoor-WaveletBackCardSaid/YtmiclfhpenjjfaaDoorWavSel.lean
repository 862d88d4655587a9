/- THE WAVELET MATRIX: where an occurrence stands; the way back. -/
import Derived.Test.YtmiclfhpenjjfaaDoorWavPath
import Derived.Test.YtmiclfhpenjjfaaDoorBitsSelIs
namespace Go.Proofs.YtmiclfhpenjjfaaDoor

/-- which places hold c -/
def cb (L : List Nat) (c : Nat) : List Bool := L.map fun x => decide (x = c)
theorem cb_len (L : List Nat) (c : Nat) : (cb L c).length = L.length := List.length_map _
theorem cb_at {L : List Nat} {c q : Nat} (h : q < L.length) : bt (cb L c) q = decide (L[q] = c) := by
  unfold bt cb
  rw [List.getD_eq_getElem?_getD, List.getElem?_map, List.getElem?_eq_getElem h]
  rfl
theorem cb_rk {L : List Nat} {c : Nat} : ∀ q, q ≤ L.length → rk (cb L c) q = cntC L c q
  | 0, _ => by simp [rk, cntB, cntC]
  | q + 1, h => by
    have ih := cb_rk (L := L) (c := c) q (by omega)
    have e := rk_succ (cb L c) q
    rw [e, ih, cb_at (by omega)]
    unfold cntC
    rw [List.take_succ_eq_append_getElem (by omega), List.countP_append, List.countP_cons]
    by_cases hx : L[q] = c
    · simp [hx]
    · simp [hx]
theorem cb_cnt {L : List Nat} {c q : Nat} (h : q ≤ L.length) : cntB (fl (cb L c) false) q = cntC L c q := by rw [fl_false, cb_rk q h]
theorem cb_fl {L : List Nat} {c q : Nat} (h : q < L.length) : fl (cb L c) false q = decide (L[q] = c) := by
  unfold fl
  rw [cb_at h]
  simp
theorem cnt_diff {L : List Nat} {c : Nat} : cntLt L (c + 1) = cntLt L c + cntC L c L.length := by
  unfold cntLt cntC
  rw [List.take_length]
  induction L with
  | nil => rfl
  | cons x r ih =>
    simp only [List.countP_cons]
    by_cases h1 : x < c
    · have h2 : x < c + 1 := by omega
      have h3 : ¬ x = c := by omega
      simp [h1, h2, h3]; omega
    · by_cases h2 : x = c
      · have h3 : x < c + 1 := by omega
        simp [h2, ih]; omega
      · have h3 : ¬ x < c + 1 := by omega
        simp [h1, h2, h3]; omega
/-- the occurrence that has j ahead of it -/
theorem occ_at {L : List Nat} {c j : Nat} (h : j < cntC L c L.length) : ∃ q, ∃ h : q < L.length, L[q] = c ∧ cntC L c q = j ∧ selP (cb L c) false (j : Nat) = (q : Nat) ∧ selO (cb L c) false (j : Nat) = true := by
  obtain ⟨q, h1, h2, h3⟩ := exists_nth (fl (cb L c) false) j L.length (by rw [cb_cnt (Nat.le_refl _)]; exact h)
  refine ⟨q, h1, ?_, ?_, selP_at (by rw [cb_len]; exact h1) h2 h3, selO_at (by rw [cb_len]; exact h1) h2 h3⟩
  · rw [cb_fl h1] at h2
    exact of_decide_eq_true h2
  · rw [← h3, cb_cnt (by omega)]
theorem occ_in {L : List Nat} {c j : Nat} (h : j < cntC L c L.length) : selO (cb L c) false (j : Nat) = true := by
  obtain ⟨_, _, _, _, _, h⟩ := occ_at h
  exact h
theorem occ_out {L : List Nat} {c : Nat} {j : Int} (h : ¬ (0 ≤ j ∧ j < (cntC L c L.length : Nat))) : selO (cb L c) false j = false := by
  unfold selO
  rw [cb_len, cb_cnt (Nat.le_refl _)]
  exact decide_eq_false h
end Go.Proofs.YtmiclfhpenjjfaaDoor
