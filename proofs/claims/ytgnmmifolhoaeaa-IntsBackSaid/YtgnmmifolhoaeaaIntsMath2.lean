/- Packed integers: what putting a number does to the bits; pure. -/
import Derived.Test.YtgnmmifolhoaeaaIntsPut
namespace Go.Proofs.Ytgnmmifolhoaeaa

theorem testBit_big {x W j : Nat} (hx : x < 2 ^ W) (hj : W ≤ j) : x.testBit j = false := Nat.testBit_lt_two_pow (Nat.lt_of_lt_of_le hx (Nat.pow_le_pow_right (by decide) hj))
theorem testBit_shl (x r j : Nat) : (x * 2 ^ r % 2 ^ 64).testBit j = (decide (j < 64) && (decide (r ≤ j) && x.testBit (j - r))) := by
  rw [Nat.testBit_mod_two_pow, ← Nat.shiftLeft_eq, Nat.testBit_shiftLeft]
theorem testBit_shr (x s j : Nat) : (x / 2 ^ s).testBit j = x.testBit (j + s) := by
  rw [← Nat.shiftRight_eq_div_pow, Nat.testBit_shiftRight, Nat.add_comm]
theorem getD_lt {ws : List Nat} {k : Nat} (h : ∀ x ∈ ws, x < 2 ^ 64) : ws.getD k 0 < 2 ^ 64 := by
  rw [List.getD_eq_getElem?_getD]
  by_cases hk : k < ws.length
  · rw [List.getElem?_eq_getElem hk]
    exact h _ (List.getElem_mem hk)
  · rw [List.getElem?_eq_none (by omega)]
    decide
theorem putW_bit {ws : List Nat} {W p x k : Nat} (hW : W ≤ 64) (hx : x < 2 ^ W) (hfit : p + W ≤ ws.length * 64) (hW0 : 0 < W) :
    bitAt 64 (putW ws W p x) k = (bitAt 64 ws k || (decide (p ≤ k) && x.testBit (k - p))) := by
  obtain ⟨q, hq⟩ : ∃ q, q = p / 64 := ⟨_, rfl⟩
  obtain ⟨r, hr⟩ : ∃ r, r = p % 64 := ⟨_, rfl⟩
  obtain ⟨a, ha⟩ : ∃ a, a = k / 64 := ⟨_, rfl⟩
  obtain ⟨j, hj⟩ : ∃ j, j = k % 64 := ⟨_, rfl⟩
  have hp : p = 64 * q + r := by rw [hq, hr]; exact (Nat.div_add_mod p 64).symm
  have hk : k = 64 * a + j := by rw [ha, hj]; exact (Nat.div_add_mod k 64).symm
  have hr6 : r < 64 := by rw [hr]; exact Nat.mod_lt _ (by decide)
  have hj6 : j < 64 := by rw [hj]; exact Nat.mod_lt _ (by decide)
  have hql : q < ws.length := by
    clear hq hr ha hj hx
    omega
  have bw : bitAt 64 ws k = (ws.getD a 0).testBit j := by unfold bitAt; rw [← ha, ← hj]
  unfold putW
  rw [← hq, ← hr]
  by_cases hov : 64 < r + W
  · rw [if_pos hov]
    have hq1 : q + 1 < ws.length := next_word hp hfit hov
    rw [bitAt_set (by decide) (by rw [List.length_set]; exact hq1), bitAt_set (by decide) hql, ← ha, ← hj]
    by_cases h1 : a = q + 1
    · rw [if_pos h1, Nat.testBit_or, testBit_shr, bw, h1]
      have e1 : p ≤ k := by clear hq hr ha hj hx bw; omega
      have e2 : k - p = j + (64 - r) := by clear hq hr ha hj hx bw; omega
      rw [decide_eq_true e1, Bool.true_and, e2]
    · rw [if_neg h1]
      by_cases h2 : a = q
      · rw [if_pos h2, Nat.testBit_or, testBit_shl, decide_eq_true hj6, Bool.true_and, bw, h2]
        by_cases h3 : r ≤ j
        · have e1 : p ≤ k := by clear hq hr ha hj hx bw; omega
          have e2 : k - p = j - r := by clear hq hr ha hj hx bw; omega
          rw [decide_eq_true h3, decide_eq_true e1, e2]
        · have e1 : ¬ p ≤ k := by clear hq hr ha hj hx bw; omega
          rw [decide_eq_false h3, decide_eq_false e1, Bool.false_and, Bool.false_and]
      · rw [if_neg h2]
        by_cases e1 : p ≤ k
        · have e2 : W ≤ k - p := by clear hq hr ha hj hx bw; omega
          rw [testBit_big hx e2]
          simp
        · rw [decide_eq_false e1]
          simp
  · rw [if_neg hov, bitAt_set (by decide) hql, ← ha, ← hj]
    by_cases h2 : a = q
    · rw [if_pos h2, Nat.testBit_or, testBit_shl, decide_eq_true hj6, Bool.true_and, bw, h2]
      by_cases h3 : r ≤ j
      · have e1 : p ≤ k := by clear hq hr ha hj hx bw; omega
        have e2 : k - p = j - r := by clear hq hr ha hj hx bw; omega
        rw [decide_eq_true h3, decide_eq_true e1, e2]
      · have e1 : ¬ p ≤ k := by clear hq hr ha hj hx bw; omega
        rw [decide_eq_false h3, decide_eq_false e1, Bool.false_and, Bool.false_and]
    · rw [if_neg h2]
      by_cases e1 : p ≤ k
      · have e2 : W ≤ k - p := by clear hq hr ha hj hx bw; omega
        rw [testBit_big hx e2]
        simp
      · rw [decide_eq_false e1]
        simp
theorem putW_length (ws : List Nat) (W p x : Nat) : (putW ws W p x).length = ws.length := by
  unfold putW
  split <;> simp
theorem putW_lt {ws : List Nat} {W p x : Nat} (h : ∀ x ∈ ws, x < 2 ^ 64) (hx : x < 2 ^ 64) : ∀ y ∈ putW ws W p x, y < 2 ^ 64 := by
  intro y hy
  have hA : ws.getD (p / 64) 0 ||| (x * 2 ^ (p % 64) % 2 ^ 64) < 2 ^ 64 := Nat.or_lt_two_pow (getD_lt h) (Nat.mod_lt _ (by decide))
  have hB : ws.getD (p / 64 + 1) 0 ||| x / 2 ^ (64 - p % 64) < 2 ^ 64 := Nat.or_lt_two_pow (getD_lt h) (Nat.lt_of_le_of_lt (Nat.div_le_self _ _) hx)
  unfold putW at hy
  split at hy
  · rcases List.mem_or_eq_of_mem_set hy with hy | rfl
    · rcases List.mem_or_eq_of_mem_set hy with hy | rfl
      · exact h y hy
      · exact hA
    · exact hB
  · rcases List.mem_or_eq_of_mem_set hy with hy | rfl
    · exact h y hy
    · exact hA
/-- one number more -/
theorem packs_put {ws l : List Nat} {W x : Nat} (h : Packs ws W l) (hW0 : 0 < W) (hW : W ≤ 64) (hx : x < 2 ^ W) (hfit : (l.length + 1) * W ≤ ws.length * 64) : Packs (putW ws W (l.length * W) x) W (l ++ [x]) := by
  have hx64 : x < 2 ^ 64 := Nat.lt_of_lt_of_le hx (Nat.pow_le_pow_right (by decide) hW)
  rw [Nat.succ_mul] at hfit
  refine ⟨putW_lt h.1 hx64, fun k => ?_⟩
  rw [putW_bit hW hx hfit hW0, h.2 k, bitAt_app hW0, List.length_append, List.length_cons, List.length_nil, Nat.zero_add, Nat.succ_mul]
  generalize l.length * W = p
  by_cases h1 : k < p
  · rw [if_pos h1, if_pos (Nat.lt_add_right _ h1), if_pos h1, decide_eq_false (by omega)]
    simp
  · rw [if_neg h1, if_neg h1, decide_eq_true (by omega)]
    by_cases h2 : k < p + W
    · rw [if_pos h2, if_pos h2]
      simp
    · rw [if_neg h2, testBit_big hx (by omega)]
      rfl
/-- a number is read as it was put -/
theorem packs_num {ws l : List Nat} {W i : Nat} (h : Packs ws W l) (hW0 : 0 < W) (hW : W ≤ 64) (hl : ∀ x ∈ l, x < 2 ^ W) (hi : i < l.length) : numOf ws W (i * W) = l[i] := by
  apply Nat.eq_of_testBit_eq
  intro j
  unfold numOf
  rw [Nat.testBit_mod_two_pow]
  by_cases hj : j < W
  · rw [decide_eq_true hj, Bool.true_and]
    obtain ⟨p, hp⟩ : ∃ p, p = i * W := ⟨_, rfl⟩
    rw [← hp]
    have hk := h.2 (p + j)
    have hpb : p + j < l.length * W := by
      have := Nat.mul_le_mul_right W hi
      rw [Nat.succ_mul, ← hp] at this
      omega
    rw [if_pos hpb] at hk
    have e1 : bitAt W l (p + j) = (l[i]).testBit j := by
      unfold bitAt
      have d1 : (p + j) / W = i := by rw [hp, Nat.mul_comm, Nat.mul_add_div hW0, Nat.div_eq_of_lt hj, Nat.add_zero]
      have d2 : (p + j) % W = j := by rw [hp, Nat.mul_comm, Nat.mul_add_mod, Nat.mod_eq_of_lt hj]
      rw [d1, d2]
      simp [List.getD_eq_getElem?_getD, hi]
    rw [e1] at hk
    rw [← hk]
    unfold bitAt
    obtain ⟨q, hq⟩ : ∃ q, q = p / 64 := ⟨_, rfl⟩
    obtain ⟨r, hr⟩ : ∃ r, r = p % 64 := ⟨_, rfl⟩
    have hpq : p = 64 * q + r := by rw [hq, hr]; exact (Nat.div_add_mod p 64).symm
    have hr6 : r < 64 := by rw [hr]; exact Nat.mod_lt _ (by decide)
    rw [← hq, ← hr]
    by_cases hin : r + j < 64
    · have d1 : (p + j) / 64 = q := by clear hq hr hk hp; omega
      have d2 : (p + j) % 64 = r + j := by clear hq hr hk hp; omega
      rw [d1, d2]
      split
      · rw [Nat.testBit_or, testBit_shr, testBit_shl, Nat.add_comm j r]
        by_cases h3 : 64 - r ≤ j
        · exfalso; omega
        · rw [decide_eq_false h3]
          simp
      · rw [testBit_shr, Nat.add_comm j r]
    · have d1 : (p + j) / 64 = q + 1 := by clear hq hr hk hp; omega
      have d2 : (p + j) % 64 = j - (64 - r) := by clear hq hr hk hp; omega
      rw [d1, d2, if_pos (by omega), Nat.testBit_or, testBit_shr, testBit_shl, decide_eq_true (show j < 64 by omega), decide_eq_true (show 64 - r ≤ j by omega), testBit_big (getD_lt h.1) (show 64 ≤ j + r by omega)]
      simp
  · rw [decide_eq_false hj, Bool.false_and, testBit_big (hl _ (List.getElem_mem hi)) (by omega)]
end Go.Proofs.Ytgnmmifolhoaeaa
