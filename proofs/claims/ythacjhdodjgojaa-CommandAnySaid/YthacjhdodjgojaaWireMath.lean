/- Numbers in groups of seven bits, as lists of bytes: pure. -/
import Derived.Test.YthacjhdodjgojaaBase
namespace Go.Proofs.Ythacjhdodjgojaa

/-- the bytes of a number -/
def nums (n : Nat) : List Nat := if n < 128 then [n] else (n % 128 + 128) :: nums (n / 128)
termination_by n

theorem nums_small {n : Nat} (h : n < 128) : nums n = [n] := by rw [nums, if_pos h]
theorem nums_big {n : Nat} (h : ¬ n < 128) : nums n = (n % 128 + 128) :: nums (n / 128) := by rw [nums, if_neg h]
theorem nums_pos (n : Nat) : 1 ≤ (nums n).length := by
  by_cases h : n < 128
  · simp [nums_small h]
  · simp [nums_big h]
theorem nums_len : ∀ (j n : Nat), n < 128 ^ (j + 1) → (nums n).length ≤ j + 1
  | 0, n, h => by rw [nums_small (by omega)]; simp
  | j + 1, n, h => by
    by_cases hn : n < 128
    · simp [nums_small hn]
    · rw [nums_big hn, List.length_cons]
      have := nums_len j (n / 128) (by rw [Nat.div_lt_iff_lt_mul (by decide), ← Nat.pow_succ]; exact h)
      omega
theorem nums_len9 {n : Nat} (h : n ≤ 9223372036854775807) : (nums n).length ≤ 9 := nums_len 8 n (by omega)
theorem nums_len_ge : ∀ (j n : Nat), 128 ^ j ≤ n → j + 1 ≤ (nums n).length
  | 0, n, _ => nums_pos n
  | j + 1, n, h => by
    have hn : ¬ n < 128 := by
      have : 128 ^ 1 ≤ 128 ^ (j + 1) := Nat.pow_le_pow_right (by decide) (by omega)
      omega
    rw [nums_big hn, List.length_cons]
    have := nums_len_ge j (n / 128) ((Nat.le_div_iff_mul_le (by decide)).2 (by rw [← Nat.pow_succ]; exact h))
    omega
theorem nums_byte : ∀ (j n : Nat), n < 128 ^ (j + 1) → ∀ b ∈ nums n, b < 256
  | 0, n, h, b, hb => by rw [nums_small (by omega)] at hb; simp at hb; omega
  | j + 1, n, h, b, hb => by
    by_cases hn : n < 128
    · rw [nums_small hn] at hb; simp at hb; omega
    · rw [nums_big hn, List.mem_cons] at hb
      rcases hb with rfl | hb
      · omega
      · exact nums_byte j (n / 128) (by rw [Nat.div_lt_iff_lt_mul (by decide), ← Nat.pow_succ]; exact h) b hb
theorem nums_byte9 {n : Nat} (h : n ≤ 9223372036854775807) : ∀ b ∈ nums n, b < 256 := nums_byte 8 n (by omega)

/-- the number that a list of bytes begins with, from place i on, n being there: the number, and how many bytes -/
def getAt : Nat → Nat → List Nat → Option (Nat × Nat)
  | _, _, [] => none
  | i, n, x :: t =>
    if 9 ≤ i then none
    else if 128 ≤ x then getAt (i + 1) (n + (x - 128) * 128 ^ i) t
    else if x = 0 ∧ 0 < i then none
    else some (n + x * 128 ^ i, i + 1)
def getNum (l : List Nat) : Option (Nat × Nat) := getAt 0 0 l

theorem getAt_nums : ∀ (j i n m : Nat) (t : List Nat), m < 128 ^ (j + 1) → i + j < 9 → (0 < i → 0 < m) → getAt i n (nums m ++ t) = some (n + m * 128 ^ i, i + (nums m).length)
  | 0, i, n, m, t, h, hi, h0 => by
    have hm : m < 128 := by omega
    rw [nums_small hm]
    simp only [List.cons_append, List.nil_append, getAt, List.length_cons, List.length_nil]
    rw [if_neg (by omega), if_neg (by omega), if_neg (by omega)]
  | j + 1, i, n, m, t, h, hi, h0 => by
    by_cases hm : m < 128
    · rw [nums_small hm]
      simp only [List.cons_append, List.nil_append, getAt, List.length_cons, List.length_nil]
      rw [if_neg (by omega), if_neg (by omega), if_neg (by omega)]
    · rw [nums_big hm]
      simp only [List.cons_append, getAt, List.length_cons]
      rw [if_neg (by omega), if_pos (by omega), getAt_nums j (i + 1) _ (m / 128) t (by rw [Nat.div_lt_iff_lt_mul (by decide), ← Nat.pow_succ]; exact h) (by omega) (by omega)]
      congr 2
      · have e : m = 128 * (m / 128) + m % 128 := (Nat.div_add_mod m 128).symm
        rw [Nat.pow_succ, Nat.add_sub_cancel, Nat.add_assoc]
        congr 1
        conv => rhs; rw [e, Nat.add_mul]
        rw [Nat.add_comm, Nat.mul_comm (128 ^ i) 128, ← Nat.mul_assoc, Nat.mul_comm (m / 128) 128]
      · omega
theorem getNum_nums {m : Nat} (h : m ≤ 9223372036854775807) (t : List Nat) : getNum (nums m ++ t) = some (m, (nums m).length) := by
  have := getAt_nums 8 0 0 m t (by omega) (by omega) (by omega)
  simpa [getNum] using this

theorem getAt_bound : ∀ (l : List Nat) (i n : Nat) {m k : Nat}, (∀ b ∈ l, b < 256) → getAt i n l = some (m, k) → n < 128 ^ i → m < 128 ^ k ∧ i < k ∧ k ≤ 9 ∧ k ≤ i + l.length
  | [], i, n, m, k, _, h, _ => by simp [getAt] at h
  | x :: t, i, n, m, k, hb, h, hn => by
    have hx := hb x (by simp)
    simp only [getAt] at h
    split at h
    · cases h
    · split at h
      · have hp : n + (x - 128) * 128 ^ i < 128 ^ (i + 1) := by
          have : (x - 128) * 128 ^ i ≤ 127 * 128 ^ i := Nat.mul_le_mul_right _ (by omega)
          rw [Nat.pow_succ]; omega
        have := getAt_bound t (i + 1) _ (fun b h => hb b (by simp [h])) h hp
        simp only [List.length_cons]
        omega
      · split at h
        · cases h
        · simp only [Option.some.injEq, Prod.mk.injEq] at h
          obtain ⟨rfl, rfl⟩ := h
          have : x * 128 ^ i ≤ 127 * 128 ^ i := Nat.mul_le_mul_right _ (by omega)
          simp only [List.length_cons, Nat.pow_succ]
          omega
/-- what is read is told by just these bytes -/
theorem getAt_back : ∀ (l : List Nat) (i n : Nat) {m k : Nat}, (∀ b ∈ l, b < 256) → getAt i n l = some (m, k) → ∃ q, m = n + q * 128 ^ i ∧ (0 < i → 0 < q) ∧ l.take (k - i) = nums q
  | [], i, n, m, k, _, h => by simp [getAt] at h
  | x :: t, i, n, m, k, hb, h => by
    have hx := hb x (by simp)
    simp only [getAt] at h
    split at h
    · cases h
    · split at h
      · rename_i h9 h128
        obtain ⟨q, hq, hq0, ht⟩ := getAt_back t (i + 1) _ (fun b h => hb b (by simp [h])) h
        have hq1 := hq0 (by omega)
        have hk : i + 1 < k := by
          by_cases hk : i + 1 < k
          · exact hk
          · exfalso
            have : k - (i + 1) = 0 := by omega
            rw [this] at ht
            have := nums_pos q
            rw [← ht] at this
            simp at this
        refine ⟨(x - 128) + 128 * q, ?_, by omega, ?_⟩
        · rw [hq, Nat.pow_succ, Nat.add_mul, Nat.add_assoc]
          congr 2
          rw [Nat.mul_comm (128 ^ i) 128, ← Nat.mul_assoc, Nat.mul_comm q 128]
        · rw [nums_big (by omega), show k - i = (k - (i + 1)) + 1 by omega, List.take_succ_cons, ht]
          congr 1
          · omega
          · congr 1; omega
      · split at h
        · cases h
        · simp only [Option.some.injEq, Prod.mk.injEq] at h
          obtain ⟨rfl, rfl⟩ := h
          exact ⟨x, rfl, by omega, by rw [nums_small (by omega), show i + 1 - i = 1 by omega]; simp⟩
theorem getNum_bound {l : List Nat} {m k : Nat} (hb : ∀ b ∈ l, b < 256) (h : getNum l = some (m, k)) : m ≤ 9223372036854775807 ∧ 0 < k ∧ k ≤ 9 ∧ k ≤ l.length := by
  have h1 := getAt_bound l 0 0 hb h (by decide)
  have h2 : 128 ^ k ≤ 128 ^ 9 := Nat.pow_le_pow_right (by decide) h1.2.2.1
  omega
theorem getNum_back {l : List Nat} {m k : Nat} (hb : ∀ b ∈ l, b < 256) (h : getNum l = some (m, k)) : l.take k = nums m := by
  obtain ⟨q, hq, _, ht⟩ := getAt_back l 0 0 hb h
  simp only [Nat.pow_zero, Nat.mul_one, Nat.zero_add] at hq
  subst hq
  simpa using ht

end Go.Proofs.Ythacjhdodjgojaa
