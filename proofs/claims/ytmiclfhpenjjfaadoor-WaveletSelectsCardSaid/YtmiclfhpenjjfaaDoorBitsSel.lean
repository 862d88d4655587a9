/- The k-th one of a word; the lowest one; counting trailing noughts; pure. -/
import Derived.Test.YtmiclfhpenjjfaaDoorBitsMath
namespace Go.Proofs.YtmiclfhpenjjfaaDoor
/-! ### the k-th one -/
theorem exists_nth (f : Nat → Bool) (j : Nat) : ∀ n, j < cntB f n → ∃ p, p < n ∧ f p = true ∧ cntB f p = j
  | 0, h => by simp [cntB] at h
  | n + 1, h => by
    by_cases h1 : j < cntB f n
    · obtain ⟨p, a, b, c⟩ := exists_nth f j n h1
      exact ⟨p, by omega, b, c⟩
    · have h2 : cntB f (n + 1) = cntB f n + (f n).toNat := rfl
      cases hb : f n with
      | false => rw [h2, hb] at h; simp at h; omega
      | true => rw [h2, hb] at h; simp at h; exact ⟨n, by omega, hb, by omega⟩
theorem cntB_lt {f : Nat → Bool} {i p : Nat} (h : f i = true) (hip : i < p) : cntB f i < cntB f p := by
  have h1 : cntB f (i + 1) = cntB f i + 1 := by show cntB f i + (f i).toNat = _; rw [h]; rfl
  have h2 := cntB_mono f (show i + 1 ≤ p by omega)
  omega
theorem nth_unique {f : Nat → Bool} {i p : Nat} (hi : f i = true) (hp : f p = true) (h : cntB f i = cntB f p) : i = p := by
  rcases Nat.lt_trichotomy i p with a | a | a
  · have := cntB_lt hi a; omega
  · exact a
  · have := cntB_lt hp a; omega
/-- p is the lowest one of x -/
def Low (x p : Nat) : Prop := x.testBit p = true ∧ ∀ i, i < p → x.testBit i = false
theorem low_form {x p : Nat} (h : Low x p) : x = 2 ^ (p + 1) * (x / 2 ^ (p + 1)) + 2 ^ p := by
  have h1 : x % 2 ^ (p + 1) = 2 ^ p := by
    apply Nat.eq_of_testBit_eq
    intro i
    rw [Nat.testBit_mod_two_pow, Nat.testBit_two_pow]
    rcases Nat.lt_trichotomy i p with a | a | a
    · rw [h.2 i a]; simp; omega
    · subst a; rw [h.1]; simp
    · have e1 : ¬ i < p + 1 := by omega
      have e2 : ¬ p = i := by omega
      simp [e1, e2]
  have h2 := Nat.div_add_mod x (2 ^ (p + 1))
  rw [h1] at h2
  exact h2.symm
theorem low_pred {x p : Nat} (h : Low x p) (i : Nat) : (x - 1).testBit i = if i < p then true else if i = p then false else x.testBit i := by
  have hf := low_form h
  have hp : 0 < 2 ^ p := Nat.pow_pos (by decide)
  have e : x - 1 = 2 ^ (p + 1) * (x / 2 ^ (p + 1)) + (2 ^ p - 1) := by omega
  have hlt : 2 ^ p - 1 < 2 ^ (p + 1) := by rw [Nat.pow_succ]; omega
  have hlt2 : 2 ^ p < 2 ^ (p + 1) := by rw [Nat.pow_succ]; omega
  rw [e, Nat.testBit_two_pow_mul_add _ hlt]
  by_cases h1 : i < p + 1
  · rw [if_pos h1, Nat.testBit_two_pow_sub_one]
    by_cases h2 : i < p
    · rw [if_pos h2]; simp [h2]
    · rw [if_neg h2, if_pos (by omega)]; simp [h2]
  · rw [if_neg h1, if_neg (by omega), if_neg (by omega)]
    conv => rhs; rw [hf]
    rw [Nat.testBit_two_pow_mul_add _ hlt2, if_neg h1]
theorem low_clear {x p : Nat} (h : Low x p) (i : Nat) : (x &&& (x - 1)).testBit i = (x.testBit i && !decide (i = p)) := by
  rw [Nat.testBit_and, low_pred h]
  rcases Nat.lt_trichotomy i p with a | a | a
  · rw [if_pos a, h.2 i a]; simp
  · subst a; rw [if_neg (Nat.lt_irrefl _), if_pos rfl]; simp
  · rw [if_neg (by omega), if_neg (by omega)]
    have e : ¬ i = p := by omega
    simp [e]
theorem low_pos {x p : Nat} (h : Low x p) : 0 < x := by
  rcases Nat.eq_zero_or_pos x with e | e
  · have := h.1; rw [e] at this; simp at this
  · exact e
theorem low_alone {x p : Nat} (h : Low x p) (hx : x < 2 ^ 64) : x &&& (2 ^ 64 - x) = 2 ^ p := by
  have h0 := low_pos h
  have hp : p < 64 := by
    rcases Nat.lt_or_ge p 64 with a | a
    · exact a
    · have := h.1
      rw [Nat.testBit_lt_two_pow (Nat.lt_of_lt_of_le hx (Nat.pow_le_pow_right (by decide) a))] at this
      cases this
  apply Nat.eq_of_testBit_eq
  intro i
  rw [Nat.testBit_and, show 2 ^ 64 - x = 2 ^ 64 - ((x - 1) + 1) by omega, Nat.testBit_two_pow_sub_succ (by omega), low_pred h, Nat.testBit_two_pow]
  rcases Nat.lt_trichotomy i p with a | a | a
  · rw [h.2 i a]
    have e : ¬ p = i := by omega
    simp [e]
  · subst a
    rw [h.1, if_neg (Nat.lt_irrefl _), if_pos rfl]
    simp [hp]
  · rw [if_neg (by omega), if_neg (by omega)]
    have e : ¬ p = i := by omega
    cases x.testBit i <;> simp [e]
/-- a word whose first j ones are struck -/
structure Struck (x y j : Nat) : Prop where
  lt : y < 2 ^ 64
  bit : ∀ i, i < 64 → y.testBit i = (x.testBit i && decide (j ≤ cntB x.testBit i))
theorem Struck.zero {x : Nat} (h : x < 2 ^ 64) : Struck x x 0 := ⟨h, fun i _ => by simp⟩
theorem Struck.low {x y j p : Nat} (h : Struck x y j) (hp : p < 64) (h1 : x.testBit p = true) (h2 : cntB x.testBit p = j) : Low y p := by
  refine ⟨by rw [h.bit p hp, h1, h2]; simp, fun i hi => ?_⟩
  rw [h.bit i (by omega)]
  cases hx : x.testBit i with
  | false => rfl
  | true =>
    have := cntB_lt (f := x.testBit) hx hi
    simp
    omega
theorem Struck.next {x y j p : Nat} (h : Struck x y j) (hp : p < 64) (h1 : x.testBit p = true) (h2 : cntB x.testBit p = j) : Struck x (y &&& (y - 1)) (j + 1) := by
  refine ⟨Nat.lt_of_le_of_lt Nat.and_le_left h.lt, fun i hi => ?_⟩
  rw [low_clear (h.low hp h1 h2), h.bit i hi]
  cases hx : x.testBit i with
  | false => rfl
  | true =>
    simp only [Bool.true_and]
    by_cases e : i = p
    · subst e; rw [h2]; simp
    · have hne : cntB x.testBit i ≠ j := fun hh => e (nth_unique (f := x.testBit) hx h1 (by rw [hh, h2]))
      by_cases hj : j ≤ cntB x.testBit i
      · have : j + 1 ≤ cntB x.testBit i := by omega
        simp [e, hj, this]
      · have : ¬ j + 1 ≤ cntB x.testBit i := by omega
        simp [hj, this]
def tz : List Nat := [0, 1, 56, 2, 57, 49, 28, 3, 61, 58, 42, 50, 38, 29, 17, 4, 62, 47, 59, 36, 45, 43, 51, 22, 53, 39, 33, 30, 24, 18, 12, 5, 63, 55, 48, 27, 60, 41, 37, 16, 46, 35, 44, 21, 52, 32, 23, 11, 54, 26, 40, 15, 34, 20, 31, 10, 25, 14, 19, 9, 13, 8, 7, 6]
def tzI (p : Nat) : Nat := 2 ^ p * 285870213051353865 % 2 ^ 64 / 2 ^ 58
theorem tz_all : allB (fun p => decide (tzI p < 64) && (tz.getD (tzI p) 99 == p)) 64 = true := by decide +kernel
theorem tz_get (q p : Nat) (h1 : q < 64) (h2 : tz.getD q 99 = p) : ∃ (hh : q < tz.length), tz[q] = p := by
  have hl : q < tz.length := h1
  refine ⟨hl, ?_⟩
  rw [List.getD_eq_getElem?_getD, List.getElem?_eq_getElem hl] at h2
  exact h2
theorem tz_at (p : Nat) (h : p < 64) : ∃ (hh : tzI p < tz.length), tz[tzI p] = p := by
  have h1 : (decide (tzI p < 64) && (tz.getD (tzI p) 99 == p)) = true := allB_at tz_all p h
  rw [Bool.and_eq_true, decide_eq_true_eq, beq_iff_eq] at h1
  exact tz_get _ _ h1.1 h1.2
/-- the bits sought: the ones, or the noughts -/
def fl (l : List Bool) (z : Bool) (i : Nat) : Bool := bt l i != z
def flN (z : Bool) : Nat := if z then 18446744073709551615 else 0
theorem fl_word {ws : List Nat} {l : List Bool} (h : WP ws l l.length) (z : Bool) {j i : Nat} (hj : j < ws.length) (hi : i < 64) : (ws[j] ^^^ flN z).testBit i = fl l z (64 * j + i) := by
  rw [Nat.testBit_xor, h.bits hj hi]
  unfold fl flN
  cases z with
  | false => simp
  | true =>
    rw [if_pos rfl, show (18446744073709551615 : Nat) = 2 ^ 64 - 1 from rfl, Nat.testBit_two_pow_sub_one]
    simp [hi]
theorem fl_cnt {ws : List Nat} {l : List Bool} (h : WP ws l l.length) (z : Bool) {j r : Nat} (hj : j < ws.length) (hr : r ≤ 64) : cntB (fl l z) (64 * j + r) = cntB (fl l z) (64 * j) + pop (ws[j] ^^^ flN z) r := by
  unfold pop
  rw [cntB_add]
  congr 1
  exact cntB_congr fun i hi => (fl_word h z hj (by omega)).symm
theorem fl_true (l : List Bool) (i : Nat) : cntB (fl l true) i = i - rk l i := by
  have key : ∀ n, cntB (fl l true) n + rk l n = n := by
    intro n
    induction n with
    | zero => rfl
    | succ n ih =>
      have e1 : cntB (fl l true) (n + 1) = cntB (fl l true) n + (fl l true n).toNat := rfl
      have e2 := rk_succ l n
      have e3 : (fl l true n).toNat + (bt l n).toNat = 1 := by unfold fl; cases bt l n <;> rfl
      omega
  have := key i
  omega
theorem fl_false (l : List Bool) (i : Nat) : cntB (fl l false) i = rk l i := cntB_congr fun k _ => by unfold fl; cases bt l k <;> rfl

end Go.Proofs.YtmiclfhpenjjfaaDoor
