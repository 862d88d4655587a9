/- COUNTS, THE MIDDLE OF A SORTED LIST, VOTES (of no program). -/
import Derived.Test.YtpgcelbodpmajaaFast10
namespace Go.Proofs.Ytpgcelbodpmajaa
open Go.RowKit
def leB (x y : Int) : Bool := decide (x ≤ y)
def srt (L : List Int) : List Int := L.mergeSort leB
def cnt (L : List Int) (x : Int) : Nat := L.countP fun y => decide (x ≤ y)
def med (L : List Int) : Int := (srt L).getD ((L.length - 1) / 2) 0
def Fit (L : List Int) : Prop := 1 ≤ L.length ∧ L.length ≤ 7 ∧ ∀ x ∈ L, 0 ≤ x
theorem srt_perm (L : List Int) : (srt L).Perm L := List.mergeSort_perm L leB
theorem srt_len (L : List Int) : (srt L).length = L.length := (srt_perm L).length_eq
theorem srt_le (L : List Int) : ∀ i j (hi : i < (srt L).length) (hj : j < (srt L).length), i ≤ j → (srt L)[i] ≤ (srt L)[j] := by
  have h := List.pairwise_mergeSort (le := leB) (fun a b c h1 h2 => by simp only [leB, decide_eq_true_eq] at *; omega) (fun a b => by simp only [leB, Bool.or_eq_true, decide_eq_true_eq]; omega) L
  intro i j hi hj hij
  rcases Nat.lt_or_ge i j with h1 | h1
  · have := List.pairwise_iff_getElem.1 h i j hi hj h1
    exact of_decide_eq_true this
  · obtain rfl : i = j := by omega
    exact Int.le_refl _
theorem med_at {L : List Int} (h : 1 ≤ L.length) : ∃ h2 : (L.length - 1) / 2 < (srt L).length, med L = (srt L)[(L.length - 1) / 2] := by
  have h2 : (L.length - 1) / 2 < (srt L).length := by rw [srt_len]; omega
  refine ⟨h2, ?_⟩
  unfold med
  rw [List.getD_eq_getElem?_getD, List.getElem?_eq_getElem h2]
  rfl
theorem med_mem {L : List Int} (h : 1 ≤ L.length) : med L ∈ L := by
  obtain ⟨h2, e⟩ := med_at h
  rw [e]
  exact (srt_perm L).mem_iff.1 (List.getElem_mem _)
theorem cnt_srt (L : List Int) (x : Int) : cnt L x = (srt L).countP fun y => decide (x ≤ y) := ((srt_perm L).countP_eq _).symm
theorem cnt_low {L : List Int} (h : 1 ≤ L.length) {x : Int} (hx : x ≤ med L) : L.length < 2 * cnt L x := by
  obtain ⟨h2, e⟩ := med_at h
  have hl := srt_len L
  rw [cnt_srt]
  have h3 : (srt L).countP (fun y => decide (x ≤ y)) = ((srt L).take ((L.length - 1) / 2)).countP (fun y => decide (x ≤ y)) + ((srt L).drop ((L.length - 1) / 2)).countP (fun y => decide (x ≤ y)) := by
    rw [← List.countP_append, List.take_append_drop]
  have h4 : ((srt L).drop ((L.length - 1) / 2)).countP (fun y => decide (x ≤ y)) = ((srt L).drop ((L.length - 1) / 2)).length := by
    rw [List.countP_eq_length]
    intro y hy
    obtain ⟨i, hi, rfl⟩ := List.getElem_of_mem hy
    rw [List.getElem_drop, decide_eq_true_eq]
    have := srt_le L ((L.length - 1) / 2) ((L.length - 1) / 2 + i) h2 (by rw [List.length_drop] at hi; omega) (by omega)
    omega
  rw [List.length_drop] at h4
  omega
theorem cnt_high {L : List Int} (h : 1 ≤ L.length) {x : Int} (hx : med L < x) : 2 * cnt L x ≤ L.length := by
  obtain ⟨h2, e⟩ := med_at h
  have hl := srt_len L
  rw [cnt_srt]
  have h3 : (srt L).countP (fun y => decide (x ≤ y)) = ((srt L).take ((L.length - 1) / 2 + 1)).countP (fun y => decide (x ≤ y)) + ((srt L).drop ((L.length - 1) / 2 + 1)).countP (fun y => decide (x ≤ y)) := by
    rw [← List.countP_append, List.take_append_drop]
  have h4 : ((srt L).take ((L.length - 1) / 2 + 1)).countP (fun y => decide (x ≤ y)) = 0 := by
    rw [List.countP_eq_zero]
    intro y hy
    obtain ⟨i, hi, rfl⟩ := List.getElem_of_mem hy
    rw [List.length_take] at hi
    rw [List.getElem_take, decide_eq_true_eq]
    have := srt_le L i ((L.length - 1) / 2) (by omega) h2 (by omega)
    omega
  have h5 := List.countP_le_length (p := fun y => decide (x ≤ y)) (l := (srt L).drop ((L.length - 1) / 2 + 1))
  rw [List.length_drop] at h5
  omega
theorem med_rev {L : List Int} (h : 1 ≤ L.length) : med L.reverse = med L := by
  have hr : 1 ≤ L.reverse.length := by simpa using h
  have hc : ∀ x, cnt L.reverse x = cnt L x := fun x => (List.reverse_perm L).countP_eq _
  rcases Int.lt_or_le (med L.reverse) (med L) with h1 | h1
  · have := cnt_high hr h1
    have h3 := cnt_low h (Int.le_refl (med L))
    rw [hc, List.length_reverse] at this
    omega
  · rcases Int.lt_or_le (med L) (med L.reverse) with h2 | h2
    · have := cnt_high h h2
      have h3 := cnt_low hr (Int.le_refl (med L.reverse))
      rw [hc, List.length_reverse] at h3
      omega
    · omega
theorem fit_rev {L : List Int} (h : Fit L) : Fit L.reverse := ⟨by simpa using h.1, by simpa using h.2.1, fun x hx => h.2.2 x (List.mem_reverse.1 hx)⟩
theorem countP_one {L : List Int} {p : Int → Bool} {k : Nat} (h : k < L.length) : (L.take (k + 1)).countP p = (L.take k).countP p + if p L[k] = true then 1 else 0 := by
  rw [List.take_add_one, List.countP_append, List.getElem?_eq_getElem h]
  simp [List.countP_cons]
/-- how many of 1 to n are among the votes -/
def cv (V : List Int) (n : Nat) : Nat := (List.range n).countP fun i => decide (((i + 1 : Nat) : Int) ∈ V)
theorem cv_succ (V : List Int) (j : Nat) : cv V (j + 1) = cv V j + if ((j + 1 : Nat) : Int) ∈ V then 1 else 0 := by
  unfold cv
  rw [List.range_succ, List.countP_append]
  simp [List.countP_cons]
theorem cv_le (V : List Int) (n : Nat) : cv V n ≤ n := by
  have := List.countP_le_length (p := fun i : Nat => decide (((i + 1 : Nat) : Int) ∈ V)) (l := List.range n)
  rw [List.length_range] at this
  exact this
theorem mem_one {V : List Int} {k : Nat} (h : k < V.length) (x : Int) : x ∈ V.take (k + 1) ↔ x ∈ V.take k ∨ x = V[k] := by
  rw [List.take_add_one, List.getElem?_eq_getElem h, List.mem_append]
  simp only [Option.toList, List.mem_singleton]
theorem cv_skip {V : List Int} {k n : Nat} (h : k < V.length) (hx : ¬ (1 ≤ V[k] ∧ V[k] ≤ n) ∨ V[k] ∈ V.take k) : cv (V.take (k + 1)) n = cv (V.take k) n := by
  unfold cv
  apply List.countP_congr
  intro i hi
  rw [List.mem_range] at hi
  simp only [decide_eq_true_eq, mem_one h]
  constructor
  · rintro (h1 | h1)
    · exact h1
    · rcases hx with h2 | h2
      · omega
      · rw [h1]; exact h2
  · exact .inl
theorem cv_new {V : List Int} {k : Nat} (h : k < V.length) (hx : V[k] ∉ V.take k) : ∀ n : Nat, 1 ≤ V[k] → V[k] ≤ n → cv (V.take (k + 1)) n = cv (V.take k) n + 1
  | 0, h1, h2 => by omega
  | n + 1, h1, h2 => by
    rw [cv_succ, cv_succ]
    by_cases he : V[k] = ((n + 1 : Nat) : Int)
    · rw [if_pos ((mem_one h _).2 (.inr he.symm)), if_neg (by rw [← he]; exact hx), cv_skip h (.inl (by omega))]
    · rw [cv_new h hx n h1 (by omega)]
      have : ((n + 1 : Nat) : Int) ∈ V.take (k + 1) ↔ ((n + 1 : Nat) : Int) ∈ V.take k := by
        rw [mem_one h]
        exact ⟨fun hh => hh.elim id fun e => absurd e.symm he, .inl⟩
      simp only [this]
      omega
def vt (V : List Int) (n i : Nat) : Bool := decide (1 ≤ i ∧ i ≤ n ∧ (i : Int) ∈ V)
def vrow (V : List Int) (n : Nat) : List Value := (List.range 8).map fun i => .bool (vt V n i)
theorem vrow_get (V : List Int) (n i : Nat) (h : i < 8) : (vrow V n).toArray[0 + i * 1]? = some (.bool (vt V n i)) := by
  unfold vrow
  simp [h]
theorem vrow_skip {V : List Int} {k n : Nat} (h : k < V.length) (hx : ¬ (1 ≤ V[k] ∧ V[k] ≤ n) ∨ V[k] ∈ V.take k) : vrow (V.take (k + 1)) n = vrow (V.take k) n := by
  unfold vrow
  apply List.map_congr_left
  intro i _
  congr 1
  unfold vt
  rw [decide_eq_decide, mem_one h]
  constructor
  · rintro ⟨h1, h2, h3 | h3⟩
    · exact ⟨h1, h2, h3⟩
    · rcases hx with h4 | h4
      · omega
      · exact ⟨h1, h2, by rw [h3]; exact h4⟩
  · rintro ⟨h1, h2, h3⟩; exact ⟨h1, h2, .inl h3⟩
theorem vrow_new {V : List Int} {k n : Nat} (h : k < V.length) (h1 : 1 ≤ V[k]) (h2 : V[k] ≤ n) (hn : n ≤ 7) : (vrow (V.take k) n).toArray.setIfInBounds (0 + V[k].toNat * 1) (.bool true) = (vrow (V.take (k + 1)) n).toArray := by
  apply Array.ext_getElem?
  intro i
  rw [Array.getElem?_setIfInBounds]
  by_cases hi : i < 8
  · have g := fun U => vrow_get U n i hi
    rw [Nat.zero_add, Nat.mul_one] at g
    rw [g, g]
    by_cases he : 0 + V[k].toNat * 1 = i
    · rw [if_pos he, if_pos (by unfold vrow; simp; omega)]
      congr 2
      symm
      unfold vt
      rw [decide_eq_true_eq, mem_one h]
      exact ⟨by omega, by omega, .inr (by omega)⟩
    · rw [if_neg he]
      congr 2
      unfold vt
      rw [decide_eq_decide, mem_one h]
      constructor
      · rintro ⟨a, b, c⟩; exact ⟨a, b, .inl c⟩
      · rintro ⟨a, b, c | c⟩
        · exact ⟨a, b, c⟩
        · omega
  · have : ∀ U, (vrow U n).toArray[i]? = none := fun U => by unfold vrow; simp; omega
    rw [this, this, if_neg (by omega)]
theorem vrow_nil (n : Nat) : vrow [] n = [.bool false, .bool false, .bool false, .bool false, .bool false, .bool false, .bool false, .bool false] := by
  unfold vrow vt
  simp [List.range_succ]
end Go.Proofs.Ytpgcelbodpmajaa
