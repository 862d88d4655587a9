/- THE WAVELET MATRIX: the way of an element through the levels; the way of a place; their difference is a rank. -/
import Derived.Test.YtmiclfhpenjjfaaDoorWavRank
namespace Go.Proofs.YtmiclfhpenjjfaaDoor

/-- where place q of L comes to, if it goes with c -/
def pathP (n : Nat) (L : List Nat) (c q : Nat) : Nat → Nat
  | 0 => q
  | m + 1 => downN (n - 1 - m) (lvl n L m) (pathP n L c q m) (bitN (n - 1 - m) c)
theorem path_elem {n c : Nat} {L X Z : List Nat} (h : L = X ++ [c] ++ Z) : ∀ m, ∃ X' Z', lvl n L m = X' ++ [c] ++ Z' ∧ X'.length = pathP n L c X.length m
  | 0 => ⟨X, Z, h, rfl⟩
  | m + 1 => by
    obtain ⟨X', Z', h1, h2⟩ := path_elem h m
    obtain ⟨X2, Z2, h3, h4⟩ := one_down (n - 1 - m) X' Z' c
    rw [← h1] at h3 h4
    exact ⟨X2, Z2, h3, by rw [h4, h2]; rfl⟩
theorem path_seg {n c q : Nat} {L : List Nat} (hL : ∀ x ∈ L, x < 2 ^ n) (hc : c < 2 ^ n) (hq : q ≤ L.length) : ∀ m, m ≤ n → ∃ X Z, lvl n L m = X ++ yL L q c n m ++ Z ∧ X.length = pathP n L c 0 m ∧ X.length + (yL L q c n m).length = pathP n L c q m
  | 0, _ => ⟨[], L.drop q, by rw [yL_zero hL hc]; show L = _; simp, rfl, by rw [yL_zero hL hc, List.length_take, List.length_nil]; show _ = q; omega⟩
  | m + 1, hm => by
    obtain ⟨X, Z, h1, h2, h3⟩ := path_seg hL hc hq m (by omega)
    obtain ⟨X2, Z2, h4, h5, h6⟩ := seg_down (n - 1 - m) X (yL L q c n m) Z (bitN (n - 1 - m) c)
    rw [yL_step (by omega)] at h4 h6
    rw [← h1] at h4 h5 h6
    exact ⟨X2, Z2, h4, by rw [h5, h2]; rfl, by rw [h6, h3]; rfl⟩
theorem path_rank {n c q : Nat} {L : List Nat} (hL : ∀ x ∈ L, x < 2 ^ n) (hc : c < 2 ^ n) (hq : q ≤ L.length) : pathP n L c q n = pathP n L c 0 n + cntC L c q := by
  obtain ⟨X, Z, _, h2, h3⟩ := path_seg hL hc hq n (Nat.le_refl n)
  rw [yL_all] at h3
  rw [← h3, h2]
/-- the way back: among the ones, or among the noughts, of a level -/
theorem up_ones {s : Nat} {M : List Nat} {p : Nat} (hp : p ≤ M.length) : downN s M p true = (zerosL s M).length + rk (M.map (bitN s)) p := by
  unfold downN
  rw [if_pos rfl, rk_ones s M p hp]
theorem up_zeros {s : Nat} {M : List Nat} {p : Nat} (hp : p ≤ M.length) : downN s M p false = p - rk (M.map (bitN s)) p := by
  unfold downN
  rw [if_neg (by simp), rk_ones s M p hp]
end Go.Proofs.YtmiclfhpenjjfaaDoor
