/- What neighbours have in common: the walk over the suffixes in the text's order. -/
import Derived.Test.YtpafbgdbjambgaaSaE
namespace Go.Proofs.Ytpafbgdbjambgaa.SA
section
variable {n : Nat} {t : Nat → Nat}
/-- what lies between two that agree agrees with them -/
theorem sandwich {a b c h : Nat} (he : ∀ m, m < h → t (a + m) = t (c + m)) (hab : a = b ∨ sl n t a b) (hbc : sl n t b c) : ∀ m, m < h → t (b + m) = t (c + m) := by
  rcases hab with rfl | hab
  · exact he
  · obtain ⟨k, k1, k2, k3, k4⟩ := hbc
    obtain ⟨q, q1, q2, q3, q4⟩ := hab
    intro m hm
    rcases Nat.lt_or_ge m k with x | x
    · exact k1 m x
    · exfalso
      have e1 := he k (by omega)
      rcases Nat.lt_trichotomy q k with y | y | y
      · have a1 := k1 q y
        have a2 := he q (by omega)
        omega
      · subst y
        omega
      · have a1 := q1 k y
        omega
theorem sl_tail {a c h : Nat} (he : ∀ m, m < h → t (a + m) = t (c + m)) (h0 : 0 < h) (hs : sl n t a c) : sl n t (a + 1) (c + 1) := by
  have e := he 0 h0
  rw [Nat.add_zero, Nat.add_zero] at e
  rcases sl_iff.1 hs with ⟨_, _, x⟩ | ⟨_, x⟩
  · omega
  · exact x
/-- the next suffix has with the one ahead of it at most one symbol less in common -/
theorem kasai {i j k h : Nat} (he : ∀ m, m < h → t (j + m) = t (i + m)) (hj : sl n t j i) (hk : sl n t k (i + 1)) (hp : ∀ x, sl n t x (i + 1) → x = k ∨ sl n t x k) : ∀ m, m < h - 1 → t (k + m) = t (i + 1 + m) := by
  intro m hm
  have hs := sl_tail he (by omega) hj
  refine sandwich (a := j + 1) (h := h - 1) (fun q hq => ?_) ?_ hk m hm
  · have := he (q + 1) (by omega)
    rw [show j + 1 + q = j + (q + 1) by omega, show i + 1 + q = i + (q + 1) by omega]
    exact this
  · exact hp _ hs
end
end Go.Proofs.Ytpafbgdbjambgaa.SA
