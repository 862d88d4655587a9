/- Packed integers: bits of lists of words and of bytes; pure. -/
import Derived.Test.YtgnmmifolhoaeaaRowsPush
namespace Go.Proofs.Ytgnmmifolhoaeaa

/-- bit k of a list of numbers of s bits each, one behind the other -/
def bitAt (s : Nat) (l : List Nat) (k : Nat) : Bool := (l.getD (k / s) 0).testBit (k % s)
theorem bitAt_set {s : Nat} {l : List Nat} {i x k : Nat} (hs : 0 < s) (hi : i < l.length) : bitAt s (l.set i x) k = if k / s = i then x.testBit (k % s) else bitAt s l k := by
  unfold bitAt
  by_cases h : k / s = i
  · rw [if_pos h, ← h]
    simp [List.getD_eq_getElem?_getD, h, hi]
  · rw [if_neg h]
    simp only [List.getD_eq_getElem?_getD]
    rw [List.getElem?_set_ne (fun e => h e.symm)]
theorem bitAt_ext {s : Nat} {l m : List Nat} (hs : 0 < s) (hl : l.length = m.length) (h1 : ∀ x ∈ l, x < 2 ^ s) (h2 : ∀ x ∈ m, x < 2 ^ s) (h : ∀ k, k < l.length * s → bitAt s l k = bitAt s m k) : l = m := by
  apply List.ext_getElem hl
  intro i hi hi'
  apply Nat.eq_of_testBit_eq
  intro t
  by_cases ht : t < s
  · have hk : i * s + t < l.length * s := by
      have : (i + 1) * s ≤ l.length * s := Nat.mul_le_mul_right _ hi
      rw [Nat.succ_mul] at this
      omega
    have := h (i * s + t) hk
    unfold bitAt at this
    have e1 : (i * s + t) / s = i := by rw [Nat.mul_comm, Nat.mul_add_div hs, Nat.div_eq_of_lt ht, Nat.add_zero]
    have e2 : (i * s + t) % s = t := by rw [Nat.mul_comm, Nat.mul_add_mod, Nat.mod_eq_of_lt ht]
    rw [e1, e2] at this
    simpa [List.getD_eq_getElem?_getD, hi, hi'] using this
  · have big : ∀ x, x < 2 ^ s → x.testBit t = false := fun x hx => Nat.testBit_lt_two_pow (Nat.lt_of_lt_of_le hx (Nat.pow_le_pow_right (by decide) (by omega)))
    rw [big _ (h1 _ (List.getElem_mem hi)), big _ (h2 _ (List.getElem_mem hi'))]
/-- these words are these numbers of w bits, and nothing else -/
def Packs (ws : List Nat) (w : Nat) (l : List Nat) : Prop := (∀ x ∈ ws, x < 2 ^ 64) ∧ ∀ k, bitAt 64 ws k = if k < l.length * w then bitAt w l k else false
theorem bitAt_app {w : Nat} {l : List Nat} {x k : Nat} (hw : 0 < w) : bitAt w (l ++ [x]) k = if k < l.length * w then bitAt w l k else if k < (l.length + 1) * w then x.testBit (k - l.length * w) else false := by
  unfold bitAt
  simp only [List.getD_eq_getElem?_getD]
  by_cases h : k < l.length * w
  · rw [if_pos h, List.getElem?_append_left ((Nat.div_lt_iff_lt_mul hw).2 h)]
  · rw [if_neg h]
    have h1 : l.length ≤ k / w := (Nat.le_div_iff_mul_le hw).2 (by omega)
    rw [List.getElem?_append_right h1]
    by_cases h2 : k < (l.length + 1) * w
    · rw [if_pos h2]
      have h3 : k / w = l.length := by
        have := (Nat.div_lt_iff_lt_mul hw).2 h2
        omega
      have h4 : k % w = k - l.length * w := by
        have := Nat.div_add_mod k w
        rw [h3, Nat.mul_comm] at this
        omega
      rw [h3, h4]
      simp
    · rw [if_neg h2]
      have h3 : l.length + 1 ≤ k / w := (Nat.le_div_iff_mul_le hw).2 (by omega)
      rw [List.getElem?_eq_none (by simp; omega)]
      simp
end Go.Proofs.Ytgnmmifolhoaeaa
