/-
  DERIVED: THE SHELF's CONTRACTS AT THIS DUMP, IN PLAIN WORDS (tools/lay-plain.mjs out of 'TryShelf.lean', which tools/lay-shelf.mjs wrote): THE SAME DECLARATIONS UNDER THE SAME NAMES: 'import', 'namespace', 'open', 'def', 'theorem' AND NOTHING ELSE: no command of the shelf's: FOR A HAND-IN. Each laying: the table of numbers ('.._ren') and one theorem, a field a fact of the dump's own or the kernel's comparison; each contract: ONE APPLICATION.
-/
import Derived.WalkKit
import Derived.WalkSpells
import Derived.OwnWalk
import Derived.Lib.Hide
import Derived.Still
import Derived.Deep.Draws
import Derived.Deep.LoopGhost
import Derived.Deep.MidRow
import Derived.Great.BuildSlice
import Derived.Test.YtllpcjdljgmilaaProg
import Derived.WalkLawsBesides
import Derived.Deep.QuietTactic
import Derived.BigQuiet
import Derived.Deep.RegionHeld3
import Derived.KernelRfl
import Derived.Laws.AppendOwnNone
import Derived.Test.YtllpcjdljgmilaaRows
import Derived.ProofKit
import Derived.Deep.Slices
import Derived.Deep.Fields
import Derived.ChangeSame
import Derived.SizedLaws
import Derived.Deep.DeepHandedRow
import Derived.Lib.LaidTab
import Derived.OpenShut
import Derived.Laws.CopyRow
import Derived.Lib.LazyBuf
import Derived.Lib.AppendZerosOnto
import Derived.Lib.Overlaps
import Derived.Sort.Walk0
import Derived.Deep.AppendLies
import Derived.Lib.Bytealg
import Derived.Shelf.Small.Bits
import Derived.Shelf.Small.Strs
import Derived.Shelf.Strconv.Itoa0
set_option maxRecDepth 100000
namespace Go.Proofs.Ytllpcjdljgmilaa
namespace SM
section
variable {α : Type} (d : α)
/-- element k -/
def G (xs : List α) (k : Nat) : α := xs.getD k d
theorem G_get {xs : List α} {k : Nat} (h : k < xs.length) : G d xs k = xs[k] := by
  unfold G; rw [List.getD_eq_getElem?_getD, List.getElem?_eq_getElem h]; rfl
theorem G_set {xs : List α} {i k : Nat} {x : α} (h : i < xs.length) : G d (xs.set i x) k = if k = i then x else G d xs k := by
  unfold G
  rw [List.getD_eq_getElem?_getD, List.getD_eq_getElem?_getD, List.getElem?_set]
  by_cases e : k = i
  · subst e; simp [h]
  · rw [if_neg (fun q => e q.symm), if_neg e]
/-- two elements change places -/
def swp (xs : List α) (i j : Nat) : List α := (xs.set i (G d xs j)).set j (G d xs i)
theorem swp_G {xs : List α} {i j : Nat} (hi : i < xs.length) (hj : j < xs.length) (k : Nat) : G d (swp d xs i j) k = if k = j then G d xs i else if k = i then G d xs j else G d xs k := by
  unfold swp
  rw [G_set d (by rw [List.length_set]; exact hj), G_set d hi]
theorem swp_perm {xs : List α} {i j : Nat} (hi : i < xs.length) (hj : j < xs.length) : (swp d xs i j).Perm xs := by
  have := Array.swap_perm (xs := xs.toArray) (i := i) (j := j) (by simpa using hi) (by simpa using hj)
  rw [Array.perm_iff_toList_perm] at this
  unfold swp
  rw [G_get d hi, G_get d hj]
  simpa [Array.swap] using this
/-- from xs to ys by moves within [a, b) -/
structure PW (a b : Nat) (xs ys : List α) : Prop where
  perm : ys.Perm xs
  out : ∀ k, (k < a ∨ b ≤ k) → G d ys k = G d xs k
  inn : ∀ k, a ≤ k → k < b → ∃ l, a ≤ l ∧ l < b ∧ G d ys k = G d xs l
variable {d} {a b : Nat} {xs ys zs : List α}
theorem PW.rfl_ : PW d a b xs xs := ⟨.refl _, fun _ _ => rfl, fun k h1 h2 => ⟨k, h1, h2, rfl⟩⟩
theorem PW.len (h : PW d a b xs ys) : ys.length = xs.length := h.perm.length_eq
theorem PW.trans (h : PW d a b xs ys) (k : PW d a b ys zs) : PW d a b xs zs := ⟨k.perm.trans h.perm, fun i hi => (k.out i hi).trans (h.out i hi), fun i h1 h2 => by
  obtain ⟨l, l1, l2, e⟩ := k.inn i h1 h2
  obtain ⟨m, m1, m2, e2⟩ := h.inn l l1 l2
  exact ⟨m, m1, m2, e.trans e2⟩⟩
theorem PW.wide {a' b' : Nat} (h : PW d a b xs ys) (ha : a' ≤ a) (hb : b ≤ b') : PW d a' b' xs ys := ⟨h.perm, fun k hk => h.out k (by omega), fun k h1 h2 => by
  by_cases c : a ≤ k ∧ k < b
  · obtain ⟨l, l1, l2, e⟩ := h.inn k c.1 c.2
    exact ⟨l, by omega, by omega, e⟩
  · exact ⟨k, h1, h2, h.out k (by omega)⟩⟩
theorem PW.swap {i j : Nat} (hi : a ≤ i ∧ i < b) (hj : a ≤ j ∧ j < b) (hl : b ≤ xs.length) : PW d a b xs (swp d xs i j) := by
  have hi2 : i < xs.length := by omega
  have hj2 : j < xs.length := by omega
  refine ⟨swp_perm d hi2 hj2, fun k hk => ?_, fun k h1 h2 => ?_⟩
  · rw [swp_G d hi2 hj2, if_neg (by omega), if_neg (by omega)]
  · rw [swp_G d hi2 hj2]
    split
    · exact ⟨i, hi.1, hi.2, rfl⟩
    · split
      · exact ⟨j, hj.1, hj.2, rfl⟩
      · exact ⟨k, h1, h2, rfl⟩
variable (d) (lt : α → α → Prop)
/-- a run that doesn't fall -/
def Srt (a b : Nat) (xs : List α) : Prop := ∀ i j, a ≤ i → i ≤ j → j < b → ¬ lt (G d xs j) (G d xs i)
/-- an order of values that may be equal -/
structure Ord : Prop where
  irr : ∀ x, ¬ lt x x
  asy : ∀ {x y}, lt x y → ¬ lt y x
  tr : ∀ {x y z}, ¬ lt y x → ¬ lt z y → ¬ lt z x
variable {d lt} (O : Ord lt)
include O in
theorem Srt.one (h : b ≤ a + 1) : Srt d lt a b xs ↔ True := ⟨fun _ => trivial, fun _ i j h1 h2 h3 => by
  obtain rfl : i = j := by omega
  exact O.irr _⟩
theorem Srt.sub {a' b' : Nat} (h : Srt d lt a b xs) (ha : a ≤ a') (hb : b' ≤ b) : Srt d lt a' b' xs := fun i j h1 h2 h3 => h i j (by omega) h2 (by omega)
theorem Srt.off {a' b' : Nat} (h : Srt d lt a b xs) (k : PW d a' b' xs ys) (hd : b ≤ a' ∨ b' ≤ a) : Srt d lt a b ys := fun i j h1 h2 h3 => by
  rw [k.out i (by omega), k.out j (by omega)]
  exact h i j h1 h2 h3
/-! ### insertion -/
/-- all but element j stands right; element j is not above those behind it -/
def Ins (d : α) (lt : α → α → Prop) (a i j : Nat) (xs : List α) : Prop := ∀ p q, a ≤ p → p < q → q ≤ i → q ≠ j → ¬ lt (G d xs q) (G d xs p)
theorem Ins.start {i : Nat} (h : Srt d lt a i xs) : Ins d lt a i i xs := fun p q h1 h2 h3 h4 => h p q h1 (by omega) (by omega)
include O in
theorem Ins.low {i : Nat} (h : Ins d lt a i a xs) : Srt d lt a (i + 1) xs := fun p q h1 h2 h3 => by
  rcases Nat.eq_or_lt_of_le h2 with e | e
  · subst e; exact O.irr _
  · exact h p q h1 e (by omega) (by omega)
include O in
theorem Ins.stop {i j : Nat} (h : Ins d lt a i j xs) (hj : a < j) (hn : ¬ lt (G d xs j) (G d xs (j - 1))) : Srt d lt a (i + 1) xs := fun p q h1 h2 h3 => by
  rcases Nat.eq_or_lt_of_le h2 with e | e
  · subst e; exact O.irr _
  · by_cases hq : q = j
    · subst hq
      by_cases hp : p = q - 1
      · subst hp; exact hn
      · exact O.tr (h p (q - 1) h1 (by omega) (by omega) (by omega)) hn
    · exact h p q h1 e (by omega) hq
include O in
theorem Ins.step {i j : Nat} (h : Ins d lt a i j xs) (hj : a < j) (hji : j ≤ i) (hl : i < xs.length) (hn : lt (G d xs j) (G d xs (j - 1))) : Ins d lt a i (j - 1) (swp d xs j (j - 1)) := fun p q h1 h2 h3 h4 => by
  rw [swp_G d (by omega) (by omega), swp_G d (by omega) (by omega), if_neg h4]
  by_cases hq : q = j
  · rw [if_pos hq]
    by_cases hp : p = j - 1
    · rw [if_pos hp]; exact O.asy hn
    · rw [if_neg hp, if_neg (by omega)]
      exact h p (j - 1) h1 (by omega) (by omega) (by omega)
  · rw [if_neg hq]
    by_cases hp : p = j - 1
    · rw [if_pos hp]; exact h j q (by omega) (by omega) h3 hq
    · rw [if_neg hp]
      by_cases hp2 : p = j
      · rw [if_pos hp2]; exact h (j - 1) q (by omega) (by omega) h3 hq
      · rw [if_neg hp2]; exact h p q h1 h2 h3 hq
/-! ### rotation -/
/-- [s, m) and [m, e) change places -/
def rot (s m e : Nat) (f : Nat → α) (k : Nat) : α := if s ≤ k ∧ k < s + (e - m) then f (k + (m - s)) else if s + (e - m) ≤ k ∧ k < e then f (k - (e - m)) else f k
/-- [a, a + n) and [b, b + n) change places -/
def swr (a b n : Nat) (f : Nat → α) (k : Nat) : α := if a ≤ k ∧ k < a + n then f (k + (b - a)) else if b ≤ k ∧ k < b + n then f (k - (b - a)) else f k
theorem swr_zero (a b : Nat) (f : Nat → α) (k : Nat) : swr a b 0 f k = f k := by
  unfold swr; rw [if_neg (by omega), if_neg (by omega)]
theorem swr_succ {a b n l : Nat} {xs ys : List α} (h : ∀ k, G d ys k = swr a b n (G d xs) k) (hab : a + n < b) (hl : ys.length = l) (hb : b + n < l) (k : Nat) : G d (swp d ys (a + n) (b + n)) k = swr a b (n + 1) (G d xs) k := by
  subst hl
  rw [swp_G d (by omega) hb, h, h, h]
  unfold swr
  by_cases h1 : k = b + n
  · rw [if_pos h1, if_neg (by omega), if_neg (by omega), if_neg (by omega), if_pos (by omega)]
    congr 1; omega
  · rw [if_neg h1]
    by_cases h2 : k = a + n
    · rw [if_pos h2, if_neg (by omega), if_neg (by omega), if_pos (by omega)]
      congr 1; omega
    · rw [if_neg h2]
      by_cases h3 : a ≤ k ∧ k < a + n
      · rw [if_pos h3, if_pos (by omega)]
      · rw [if_neg h3]
        by_cases h4 : b ≤ k ∧ k < b + n
        · rw [if_pos h4, if_neg (by omega), if_pos (by omega)]
        · rw [if_neg h4, if_neg (by omega), if_neg (by omega)]
theorem rot_left {m i j : Nat} {f g : Nat → α} (hj : 0 < j) (hij : j < i) (hm : i ≤ m) (h : ∀ k, g k = swr (m - i) m j f k) (k : Nat) : rot (m - (i - j)) m (m + j) g k = rot (m - i) m (m + j) f k := by
  unfold rot
  by_cases h1 : m - (i - j) ≤ k ∧ k < m - (i - j) + (m + j - m)
  · rw [if_pos h1, h, swr, if_neg (by omega)]
    by_cases h2 : m ≤ k + (m - (m - (i - j))) ∧ k + (m - (m - (i - j))) < m + j
    · rw [if_pos h2]
      by_cases h3 : m - i ≤ k ∧ k < m - i + (m + j - m)
      · omega
      · rw [if_neg h3, if_pos (by omega)]; congr 1; omega
    · omega
  · rw [if_neg h1]
    by_cases h2 : m - (i - j) + (m + j - m) ≤ k ∧ k < m + j
    · rw [if_pos h2, h, swr]
      by_cases h3 : m - i ≤ k - (m + j - m) ∧ k - (m + j - m) < m - i + j
      · omega
      · rw [if_neg h3, if_neg (by omega), if_neg (by omega), if_pos (by omega)]
    · rw [if_neg h2, h, swr]
      by_cases h3 : m - i ≤ k ∧ k < m - i + j
      · rw [if_pos h3, if_pos (by omega)]
      · rw [if_neg h3, if_neg (by omega), if_neg (by omega), if_neg (by omega)]
theorem rot_right {m i j : Nat} {f g : Nat → α} (hi : 0 < i) (hij : i < j) (hm : i ≤ m) (h : ∀ k, g k = swr (m - i) (m + j - i) i f k) (k : Nat) : rot (m - i) m (m + (j - i)) g k = rot (m - i) m (m + j) f k := by
  unfold rot
  by_cases h1 : m - i ≤ k ∧ k < m - i + (m + (j - i) - m)
  · rw [if_pos h1, if_pos (by omega), h, swr, if_neg (by omega)]
    by_cases h2 : m + j - i ≤ k + (m - (m - i)) ∧ k + (m - (m - i)) < m + j - i + i
    · omega
    · rw [if_neg h2]
  · rw [if_neg h1]
    by_cases h2 : m - i + (m + (j - i) - m) ≤ k ∧ k < m + (j - i)
    · rw [if_pos h2, h, swr, if_pos (by omega), if_pos (by omega)]
      congr 1; omega
    · rw [if_neg h2, h, swr, if_neg (by omega)]
      by_cases h3 : m + j - i ≤ k ∧ k < m + j - i + i
      · rw [if_pos h3, if_neg (by omega), if_pos (by omega)]; congr 1; omega
      · rw [if_neg h3, if_neg (by omega), if_neg (by omega)]
theorem rot_same {m i : Nat} {f g : Nat → α} (hm : i ≤ m) (h : ∀ k, g k = swr (m - i) m i f k) (k : Nat) : g k = rot (m - i) m (m + i) f k := by
  rw [h]
  unfold rot swr
  by_cases h1 : m - i ≤ k ∧ k < m - i + i
  · rw [if_pos h1, if_pos (by omega)]
  · rw [if_neg h1]
    by_cases h2 : m ≤ k ∧ k < m + i
    · rw [if_pos h2, if_neg (by omega), if_pos (by omega)]; congr 1; omega
    · rw [if_neg h2, if_neg (by omega), if_neg (by omega)]
theorem rot_none {s m e : Nat} {f : Nat → α} (h : s = m ∨ e = m) (k : Nat) : rot s m e f k = f k := by
  unfold rot
  by_cases h1 : s ≤ k ∧ k < s + (e - m)
  · rw [if_pos h1]; congr 1; omega
  · rw [if_neg h1]
    by_cases h2 : s + (e - m) ≤ k ∧ k < e
    · rw [if_pos h2]; congr 1; omega
    · rw [if_neg h2]
/-! ### one element moves -/
/-- element a stands at k, those between one place before -/
def mvl (a k : Nat) (f : Nat → α) (t : Nat) : α := if a ≤ t ∧ t < k then f (t + 1) else if t = k then f a else f t
theorem mvl_zero (f : Nat → α) (t : Nat) : mvl a a f t = f t := by
  unfold mvl
  rw [if_neg (by omega)]
  by_cases h : t = a
  · rw [if_pos h, h]
  · rw [if_neg h]
theorem mvl_succ {k : Nat} (h : ∀ t, G d ys t = mvl a k (G d xs) t) (hk : a ≤ k) (hl : k + 1 < ys.length) (t : Nat) : G d (swp d ys k (k + 1)) t = mvl a (k + 1) (G d xs) t := by
  rw [swp_G d (by omega) hl, h, h, h]
  unfold mvl
  by_cases h1 : t = k + 1
  · rw [if_pos h1, if_neg (by omega), if_pos rfl, if_neg (by omega), if_pos h1]
  · rw [if_neg h1]
    by_cases h2 : t = k
    · rw [if_pos h2, if_neg (by omega), if_neg (by omega), if_pos (by omega), h2]
    · rw [if_neg h2]
      by_cases h3 : a ≤ t ∧ t < k
      · rw [if_pos h3, if_pos (by omega)]
      · rw [if_neg h3, if_neg h2, if_neg (by omega), if_neg h1]
/-- element m stands at i, those between one place behind -/
def mvr (i m : Nat) (f : Nat → α) (t : Nat) : α := if t = i then f m else if i < t ∧ t ≤ m then f (t - 1) else f t
theorem mvr_zero (m : Nat) (f : Nat → α) (t : Nat) : mvr m m f t = f t := by
  unfold mvr
  by_cases h : t = m
  · rw [if_pos h, h]
  · rw [if_neg h, if_neg (by omega)]
theorem mvr_succ {k m : Nat} (h : ∀ t, G d ys t = mvr k m (G d xs) t) (h0 : 0 < k) (hk : k ≤ m) (hl : k < ys.length) (t : Nat) : G d (swp d ys k (k - 1)) t = mvr (k - 1) m (G d xs) t := by
  rw [swp_G d hl (by omega), h, h, h]
  unfold mvr
  by_cases h1 : t = k - 1
  · rw [if_pos h1, if_pos rfl, if_pos h1]
  · rw [if_neg h1]
    by_cases h2 : t = k
    · rw [if_pos h2, if_neg (by omega), if_neg (by omega), if_neg h1, if_pos (by omega), h2]
    · rw [if_neg h2, if_neg h2, if_neg h1]
      by_cases h3 : k < t ∧ t ≤ m
      · rw [if_pos h3, if_pos (by omega)]
      · rw [if_neg h3, if_neg (by omega)]
/-! ### the merge -/
include O in
/-- one element ahead of a run -/
theorem mrg_first {m i : Nat} (h1 : m = a + 1) (hs : Srt d lt m b xs) (hi : m ≤ i ∧ i ≤ b) (hlo : i = m ∨ lt (G d xs (i - 1)) (G d xs a)) (hhi : i = b ∨ ¬ lt (G d xs i) (G d xs a))
    (h : ∀ k, G d ys k = if a ≤ k ∧ k < i - 1 then G d xs (k + 1) else if k = i - 1 then G d xs a else G d xs k) : Srt d lt a b ys := fun p q hp hpq hq => by
  rcases Nat.eq_or_lt_of_le hpq with e | e
  · subst e; exact O.irr _
  · rw [h p, h q]
    by_cases p1 : a ≤ p ∧ p < i - 1
    · rw [if_pos p1]
      by_cases q1 : a ≤ q ∧ q < i - 1
      · rw [if_pos q1]; exact hs _ _ (by omega) (by omega) (by omega)
      · rw [if_neg q1]
        by_cases q2 : q = i - 1
        · rw [if_pos q2]
          have h2 := hs (p + 1) (i - 1) (by omega) (by omega) (by omega)
          rcases hlo with h3 | h3
          · omega
          · exact O.tr h2 (O.asy h3)
        · rw [if_neg q2]; exact hs _ _ (by omega) (by omega) (by omega)
    · rw [if_neg p1]
      by_cases p2 : p = i - 1
      · rw [if_pos p2, if_neg (by omega), if_neg (by omega)]
        rcases hhi with h3 | h3
        · omega
        · exact O.tr h3 (hs i q (by omega) (by omega) (by omega))
      · rw [if_neg p2, if_neg (by omega), if_neg (by omega)]
        exact hs _ _ (by omega) (by omega) (by omega)
include O in
/-- one element behind a run -/
theorem mrg_last {m i : Nat} (h1 : b = m + 1) (hs : Srt d lt a m xs) (hi : a ≤ i ∧ i ≤ m) (hlo : i = a ∨ ¬ lt (G d xs m) (G d xs (i - 1))) (hhi : i = m ∨ lt (G d xs m) (G d xs i))
    (h : ∀ k, G d ys k = if k = i then G d xs m else if i < k ∧ k ≤ m then G d xs (k - 1) else G d xs k) : Srt d lt a b ys := fun p q hp hpq hq => by
  rcases Nat.eq_or_lt_of_le hpq with e | e
  · subst e; exact O.irr _
  · rw [h p, h q]
    by_cases p1 : p = i
    · rw [if_pos p1, if_neg (by omega), if_pos (by omega)]
      rcases hhi with h3 | h3
      · omega
      · exact O.tr (O.asy h3) (hs i (q - 1) (by omega) (by omega) (by omega))
    · rw [if_neg p1]
      by_cases q1 : q = i
      · rw [if_pos q1, if_neg (by omega)]
        rcases hlo with h3 | h3
        · omega
        · exact O.tr (hs p (i - 1) (by omega) (by omega) (by omega)) h3
      · rw [if_neg q1]
        by_cases p2 : i < p ∧ p ≤ m
        · rw [if_pos p2, if_pos (by omega)]; exact hs _ _ (by omega) (by omega) (by omega)
        · rw [if_neg p2]
          by_cases q2 : i < q ∧ q ≤ m
          · rw [if_pos q2]; exact hs _ _ (by omega) (by omega) (by omega)
          · rw [if_neg q2]; exact hs _ _ (by omega) (by omega) (by omega)
/-- what the search for the cut tells -/
structure Cut (d : α) (lt : α → α → Prop) (a m b mid s : Nat) (xs : List α) : Prop where
  le1 : a ≤ s ∧ s ≤ m ∧ s ≤ mid
  le2 : m ≤ mid + m - s ∧ mid + m - s ≤ b
  lo : (s = a ∨ mid + m - s = b) ∨ ¬ lt (G d xs (mid + m - s)) (G d xs (s - 1)) ∧ a < s
  hi : (s = m ∨ s = mid) ∨ lt (G d xs (mid + m - 1 - s)) (G d xs s) ∧ s < mid ∧ s < m
section
variable {m mid s : Nat}
include O
theorem cut_lo (h1 : Srt d lt a m xs) (h2 : Srt d lt m b xs) (c : Cut d lt a m b mid s xs) (hm : a ≤ m ∧ m ≤ b) {p q : Nat} (hp : a ≤ p ∧ p < s) (hq : mid + m - s ≤ q ∧ q < b) : ¬ lt (G d xs q) (G d xs p) := by
  obtain ⟨⟨c1, c2, c3⟩, ⟨c4, c5⟩, c6, c7⟩ := c
  rcases c6 with c6 | ⟨c6, c8⟩
  · omega
  · exact O.tr (O.tr (h1 p (s - 1) hp.1 (by omega) (by omega)) c6) (h2 (mid + m - s) q (by omega) hq.1 hq.2)
theorem cut_hi (h1 : Srt d lt a m xs) (h2 : Srt d lt m b xs) (c : Cut d lt a m b mid s xs) (hm : a ≤ m ∧ m ≤ b) {p q : Nat} (hp : m ≤ p ∧ p < mid + m - s) (hq : s ≤ q ∧ q < m) : ¬ lt (G d xs q) (G d xs p) := by
  obtain ⟨⟨c1, c2, c3⟩, ⟨c4, c5⟩, c6, c7⟩ := c
  rcases c7 with c7 | ⟨c7, c8⟩
  · omega
  · exact O.tr (O.tr (h2 p (mid + m - 1 - s) hp.1 (by omega) (by omega)) (O.asy c7)) (h1 s q (by omega) hq.1 hq.2)
theorem cut_all (h1 : Srt d lt a m xs) (h2 : Srt d lt m b xs) (c : Cut d lt a m b mid s xs) (hm : a ≤ m ∧ m ≤ b) (hmid : a ≤ mid ∧ mid ≤ b) (h : ∀ k, G d ys k = rot s m (mid + m - s) (G d xs) k) :
    Srt d lt a s ys ∧ Srt d lt s mid ys ∧ Srt d lt mid (mid + m - s) ys ∧ Srt d lt (mid + m - s) b ys ∧ ∀ p q, a ≤ p → p < mid → mid ≤ q → q < b → ¬ lt (G d ys q) (G d ys p) := by
  have c' := c
  obtain ⟨⟨c1, c2, c3⟩, ⟨c4, c5⟩, c6, c7⟩ := c'
  have f1 : ∀ k, k < s → G d ys k = G d xs k := fun k hk => by rw [h, rot, if_neg (by omega), if_neg (by omega)]
  have f2 : ∀ k, s ≤ k → k < mid → G d ys k = G d xs (k + (m - s)) := fun k h1 h2 => by rw [h, rot, if_pos (by omega)]
  have f3 : ∀ k, mid ≤ k → k < mid + m - s → G d ys k = G d xs (k - (mid - s)) := fun k h1 h2 => by
    rw [h, rot, if_neg (by omega), if_pos (by omega)]; congr 1; omega
  have f4 : ∀ k, mid + m - s ≤ k → G d ys k = G d xs k := fun k hk => by rw [h, rot, if_neg (by omega), if_neg (by omega)]
  refine ⟨fun i j a1 a2 a3 => ?_, fun i j a1 a2 a3 => ?_, fun i j a1 a2 a3 => ?_, fun i j a1 a2 a3 => ?_, fun p q a1 a2 a3 a4 => ?_⟩
  · rw [f1 i (by omega), f1 j (by omega)]; exact h1 _ _ (by omega) (by omega) (by omega)
  · rw [f2 i (by omega) (by omega), f2 j (by omega) (by omega)]; exact h2 _ _ (by omega) (by omega) (by omega)
  · rw [f3 i (by omega) (by omega), f3 j (by omega) (by omega)]; exact h1 _ _ (by omega) (by omega) (by omega)
  · rw [f4 i (by omega), f4 j (by omega)]; exact h2 _ _ (by omega) (by omega) (by omega)
  · by_cases p1 : p < s
    · rw [f1 p p1]
      by_cases q1 : q < mid + m - s
      · rw [f3 q a3 q1]; exact h1 _ _ (by omega) (by omega) (by omega)
      · rw [f4 q (by omega)]; exact cut_lo O h1 h2 c hm ⟨a1, p1⟩ ⟨by omega, a4⟩
    · rw [f2 p (by omega) a2]
      by_cases q1 : q < mid + m - s
      · rw [f3 q a3 q1]; exact cut_hi O h1 h2 c hm (by omega) (by omega)
      · rw [f4 q (by omega)]; exact h2 _ _ (by omega) (by omega) (by omega)
end
/-- two halves, each sorted by itself -/
theorem half_half {mid : Nat} {us : List α} (hx : ∀ p q, a ≤ p → p < mid → mid ≤ q → q < b → ¬ lt (G d xs q) (G d xs p)) (h1 : PW d a mid xs ys) (s1 : Srt d lt a mid ys) (h2 : PW d mid b ys us) (s2 : Srt d lt mid b us) : Srt d lt a b us := fun p q a1 a2 a3 => by
  by_cases q1 : q < mid
  · rw [h2.out p (by omega), h2.out q (by omega)]; exact s1 p q a1 a2 q1
  · by_cases p1 : p < mid
    · obtain ⟨l, l1, l2, e⟩ := h2.inn q (by omega) a3
      obtain ⟨k, k1, k2, e2⟩ := h1.inn p a1 p1
      rw [h2.out p (by omega), e, e2, h1.out l (by omega)]
      exact hx k l k1 k2 l1 l2
    · exact s2 p q (by omega) a2 a3
/-! ### runs of one length -/
/-- every run of length s that begins at a multiple of s at a or behind is sorted -/
def Runs (d : α) (lt : α → α → Prop) (s n : Nat) (xs : List α) : Prop := ∀ a, s ∣ a → Srt d lt a (min (a + s) n) xs
/-- runs of length 2 s up to a, of length s from there on -/
def Runs2 (d : α) (lt : α → α → Prop) (s n a : Nat) (xs : List α) : Prop := (∀ k, 2 * s ∣ k → k < a → Srt d lt k (min (k + 2 * s) n) xs) ∧ (∀ k, s ∣ k → a ≤ k → Srt d lt k (min (k + s) n) xs)
theorem Runs2.start {s n : Nat} (h : Runs d lt s n xs) : Runs2 d lt s n 0 xs := ⟨fun k _ hk => absurd hk (by omega), fun k hk _ => h k hk⟩
theorem Runs2.step {s n a b : Nat} (h0 : 0 < s) (ha : 2 * s ∣ a) (h : Runs2 d lt s n a xs) (hb : b = min (a + 2 * s) n) (hp : PW d a b xs ys) (hs : Srt d lt a b ys) : Runs2 d lt s n (a + 2 * s) ys := by
  refine ⟨fun k hk hl => ?_, fun k hk hl => ?_⟩
  · rcases Nat.lt_or_ge k a with h1 | h1
    · obtain ⟨x, hx⟩ := ha
      obtain ⟨y, hy⟩ := hk
      have hxy : y + 1 ≤ x := by
        rcases Nat.lt_or_ge y x with h2 | h2
        · exact h2
        · have := Nat.mul_le_mul_left (2 * s) h2; omega
      have h3 := Nat.mul_le_mul_left (2 * s) hxy
      rw [Nat.mul_add, Nat.mul_one] at h3
      exact (h.1 k ⟨y, hy⟩ h1).off hp (by omega)
    · have hd : 2 * s ∣ k - a := Nat.dvd_sub hk ha
      have := Nat.eq_zero_of_dvd_of_lt hd (by omega)
      obtain rfl : k = a := by omega
      rw [← hb]; exact hs
  · exact (h.2 k hk (by omega)).off hp (by omega)
theorem Runs2.end_ {s n a : Nat} (h0 : 0 < s) (ha : 2 * s ∣ a) (h : Runs2 d lt s n a xs) (hn : n ≤ a) : Runs d lt (2 * s) n xs := fun k hk => by
  rcases Nat.lt_or_ge k a with h1 | h1
  · exact h.1 k hk h1
  · intro i j h2 h3 h4; omega
/-- what lies behind is one run, which may stay -/
theorem Runs2.last {s n a : Nat} (h0 : 0 < s) (ha : 2 * s ∣ a) (h : Runs2 d lt s n a xs) (hn : n ≤ a + s) : Runs2 d lt s n (a + 2 * s) xs :=
  h.step h0 ha rfl .rfl_ (fun i j h1 h2 h3 => h.2 a (Nat.dvd_trans (Nat.dvd_mul_left ..) ha) (Nat.le_refl _) i j h1 h2 (by omega))
theorem Runs.all {s n : Nat} (h : Runs d lt s n xs) (hn : n ≤ s) : Srt d lt 0 n xs := by
  have := h 0 (Nat.dvd_zero _)
  rwa [show min (0 + s) n = n by omega] at this
/-- blocks of length s that are sorted up to a -/
def Blks (d : α) (lt : α → α → Prop) (s n a : Nat) (xs : List α) : Prop := ∀ k, s ∣ k → k < a → Srt d lt k (min (k + s) n) xs
theorem Blks.step {s n a b : Nat} (h0 : 0 < s) (ha : s ∣ a) (h : Blks d lt s n a xs) (hb : b = min (a + s) n) (hp : PW d a b xs ys) (hs : Srt d lt a b ys) : Blks d lt s n (a + s) ys := fun k hk hl => by
  rcases Nat.lt_or_ge k a with h1 | h1
  · obtain ⟨x, hx⟩ := ha
    obtain ⟨y, hy⟩ := hk
    have hxy : y + 1 ≤ x := by
      rcases Nat.lt_or_ge y x with h2 | h2
      · exact h2
      · have := Nat.mul_le_mul_left s h2; omega
    have h3 := Nat.mul_le_mul_left s hxy
    rw [Nat.mul_add, Nat.mul_one] at h3
    exact (h k ⟨y, hy⟩ h1).off hp (by omega)
  · have hd : s ∣ k - a := Nat.dvd_sub hk ha
    have := Nat.eq_zero_of_dvd_of_lt hd (by omega)
    obtain rfl : k = a := by omega
    rw [← hb]; exact hs
theorem Blks.end_ {s n a : Nat} (h : Blks d lt s n a xs) (hn : n ≤ a) : Runs d lt s n xs := fun k hk => by
  rcases Nat.lt_or_ge k a with h1 | h1
  · exact h k hk h1
  · intro i j h2 h3 h4; omega
end
end SM
end Go.Proofs.Ytllpcjdljgmilaa

namespace Go.Proofs.Ytllpcjdljgmilaa
open Go.RowKit

/-! ### the frame -/
def look : List (Nat × Value) → Nat → Value
  | [], _ => undef
  | (k, v) :: r, i => bif Nat.beq i k then v else look r i
theorem look_cons (k : Nat) (v : Value) (r : List (Nat × Value)) (i : Nat) : look ((k, v) :: r) i = if i = k then v else look r i := by
  show cond (Nat.beq i k) v (look r i) = _
  by_cases h : i = k
  · subst h; simp
  · have : Nat.beq i k = false := by rw [← Bool.not_eq_true, Nat.beq_eq]; exact h
    rw [this, if_neg h]; rfl
def mkT (n : Nat) (L : List (Nat × Value)) : Array Value := Array.ofFn (n := n) fun i => look L i
/-- a frame: how many slots, and what waits for its end (behind a loop over an iterator: the block of the rounds' own) -/
structure Fr where
  n : Nat
  ds : List Deferred
instance (k : Nat) : OfNat Fr k := ⟨⟨k, []⟩⟩
def mkA (n : Fr) (L : List (Nat × Value)) : Act := { tmps := mkT n.n L, defers := n.ds }
theorem mkT_get (n : Nat) (L : List (Nat × Value)) (t : Nat) : (mkT n L)[t]? = if t < n then some (look L t) else none := by
  unfold mkT
  rw [Array.getElem?_ofFn]
  rfl
def ev (n : Fr) (L : List (Nat × Value)) : Operand → Value
  | .tmp t => bif Nat.blt t n.n then look L t else undef
  | .const v => v
  | .global g => .pointer (some ⟨g, 0, none⟩)
  | .func f => .func (.func f) #[] #[]
theorem blt_iff (t n : Nat) : Nat.blt t n = decide (t < n) := by
  by_cases h : t < n
  · rw [decide_eq_true h]; exact Nat.ble_eq_true_of_le h
  · rw [decide_eq_false h, ← Bool.not_eq_true]; intro h2; exact h (Nat.le_of_ble_eq_true h2)
theorem getD_mkT (n : Nat) (L : List (Nat × Value)) (t : Nat) : (mkT n L).getD t undef = bif Nat.blt t n then look L t else undef := by
  rw [Array.getD_eq_getD_getElem?, mkT_get, blt_iff]
  by_cases h : t < n
  · simp [h]
  · simp [h]
theorem eval_mkA (n : Fr) (L : List (Nat × Value)) : (mkA n L).eval = ev n L := by
  funext x
  cases x with
  | tmp t => exact getD_mkT n.n L t
  | _ => rfl
theorem mkT_congr {n : Nat} {L L' : List (Nat × Value)} (h : ∀ t, t < n → look L t = look L' t) : mkT n L = mkT n L' := by
  unfold mkT
  congr 1
  funext i
  exact h i i.2
theorem mkA_congr {n : Fr} {L L' : List (Nat × Value)} (h : ∀ t, t < n.n → look L t = look L' t) : mkA n L = mkA n L' := by
  unfold mkA
  rw [mkT_congr h]
theorem put_mkA (n : Fr) (L : List (Nat × Value)) (d : Nat) (v : Value) : (mkA n L).put (some d) v = mkA n ((d, v) :: L) := by
  show (⟨(mkT n.n L).setIfInBounds d v, n.ds⟩ : Act) = ⟨mkT n.n ((d, v) :: L), n.ds⟩
  obtain ⟨n, ds⟩ := n
  show (⟨(mkT n L).setIfInBounds d v, ds⟩ : Act) = ⟨mkT n ((d, v) :: L), ds⟩
  congr 1
  apply Array.ext_getElem?
  intro i
  rw [Array.getElem?_setIfInBounds, mkT_get, mkT_get, look_cons]
  by_cases h : i < n
  · by_cases hd : d = i
    · subst hd
      have hs : (mkT n L).size = n := by simp [mkT]
      simp [h, hs]
    · have hd' : ¬ i = d := fun e => hd e.symm
      simp [hd, hd', h]
  · by_cases hd : d = i
    · subst hd
      have hs : (mkT n L).size = n := by simp [mkT]
      simp [h, hs]
    · simp [hd, h]
def putL : Option Nat → Value → List (Nat × Value) → List (Nat × Value)
  | some d, v, L => (d, v) :: L
  | none, _, L => L
def argsL : Nat → List Value → List (Nat × Value)
  | _, [] => []
  | i, v :: r => (i, v) :: argsL (i + 1) r
theorem look_argsL (l : List Value) : ∀ (i t : Nat), look (argsL i l) t = if i ≤ t then (l[t - i]?).getD undef else undef := by
  induction l with
  | nil => intro i t; simp [argsL, look]
  | cons v r ih =>
    intro i t
    rw [argsL, look_cons, ih]
    by_cases h : t = i
    · subst h; simp
    · by_cases h2 : i ≤ t
      · have : t - i = (t - (i + 1)) + 1 := by omega
        rw [if_neg h, if_pos h2, if_pos (by omega), this, List.getElem?_cons_succ]
      · rw [if_neg h, if_neg h2, if_neg (by omega)]
theorem args_mkT (n : Nat) (l : List Value) (h : l.length ≤ n) : l.toArray ++ Array.replicate (n - l.toArray.size) undef = mkT n (argsL 0 l) := by
  apply Array.ext_getElem?
  intro i
  rw [mkT_get, look_argsL, Array.getElem?_append]
  simp only [List.size_toArray, List.getElem?_toArray, Nat.zero_le, if_true, Nat.sub_zero, Array.getElem?_replicate]
  by_cases h1 : i < l.length
  · rw [if_pos h1, if_pos (by omega), List.getElem?_eq_getElem h1]; rfl
  · rw [if_neg h1]
    by_cases h2 : i < n
    · rw [if_pos h2, if_pos (by omega), List.getElem?_eq_none (by omega)]; rfl
    · rw [if_neg h2, if_neg (by omega)]

theorem int_eq {k : IntKind} {a b : Int} (h : a = b) : Value.int k a = Value.int k b := by rw [h]
/-! ### what a test's Bool says -/
theorem bn_t {b : Bool} (h : (!b) = true) : b = false := by cases b <;> simp_all
theorem bn_f {b : Bool} (h : (!b) = false) : b = true := by cases b <;> simp_all
theorem be_t {α : Type} [BEq α] [LawfulBEq α] {a b : α} (h : (a == b) = true) : a = b := eq_of_beq h
theorem be_f {α : Type} [BEq α] [LawfulBEq α] {a b : α} (h : (a == b) = false) : ¬ a = b := ne_of_beq_false h
theorem bx_t {α : Type} [BEq α] [LawfulBEq α] {a b : α} (h : (a != b) = true) : ¬ a = b := by simpa using h
theorem bx_f {α : Type} [BEq α] [LawfulBEq α] {a b : α} (h : (a != b) = false) : a = b := by simpa using h
/-! ### the judgements -/
structure Cd (P : Program) (c : Code) (Q : Exit → Act → World → Prop) (n : Fr) (L : List (Nat × Value)) (w : World) : Prop where
  out : c.wp P Q (mkA n L) w
structure St (P : Program) (ops : Array Oper) (Q : Exit → Act → World → Prop) (rest : List Oper) (n : Fr) (L : List (Nat × Value)) (w : World) : Prop where
  out : wpList P ops Q rest (mkA n L) w
/-- what is asked of a function: it returns, so -/
def Rt (P : Program) (f : FuncId) (l : List Value) (w : World) (R : Value → World → Prop) : Prop := Calls P f l.toArray w fun e w' => ∃ v, e = .returned v ∧ R v w'
theorem Rt.mono {P : Program} {f : FuncId} {l : List Value} {w : World} {R R' : Value → World → Prop} (h : Rt P f l w R) (hr : ∀ v w', R v w' → R' v w') : Rt P f l w R' :=
  Calls.mono h fun _ _ ⟨v, e, r⟩ => ⟨v, e, hr v _ r⟩
/-- from a contract of the elder form -/
theorem Rt.of {P : Program} {f : FuncId} {l : List Value} {w : World} {v : Value} {R : World → Prop} (h : Calls P f l.toArray w fun e w' => e = .returned v ∧ R w') : Rt P f l w fun v' w' => v' = v ∧ R w' :=
  Calls.mono h fun _ _ ⟨e, r⟩ => ⟨v, e, rfl, r⟩
theorem Rt.to {P : Program} {f : FuncId} {l : List Value} {w : World} {v : Value} {R : World → Prop} (h : Rt P f l w fun v' w' => v' = v ∧ R w') : Calls P f l.toArray w fun e w' => e = .returned v ∧ R w' :=
  Calls.mono h fun _ _ ⟨_, e, e2, r⟩ => ⟨by rw [e, e2], r⟩

section control
variable {P : Program} {Q : Exit → Act → World → Prop} {n : Fr} {L : List (Nat × Value)} {w : World}
theorem enter {f : FuncId} {fn : Func} {c : Code} {l : List Value} {R : Value → World → Prop} {n : Nat} (hf : P.funcs[f]? = some fn) (hb : fn.body = some c) (hn : fn.ntmps = n) (hl : Nat.ble l.length n = true)
    (h : Cd P c (bodyPost P fn fun e w' => ∃ v, e = .returned v ∧ R v w') ⟨n, []⟩ (argsL 0 l) w) : Rt P f l w R := by
  refine calls_of_wp hf hb ?_
  rw [hn, args_mkT n l (Nat.le_of_ble_eq_true hl)]
  exact h.out
theorem cd_skip (h : Q .normal (mkA n L) w) : Cd P .skip Q n L w := ⟨wp_skip h⟩
theorem cd_seq {x y : Code} (h : Cd P x (Exit.then (fun a w => y.wp P Q a w) Q) n L w) : Cd P (.seq x y) Q n L w := ⟨wp_seq h.out⟩
theorem cd_block {id : Nat} {c : Code} (h : Cd P c (Exit.inBlock id Q) n L w) : Cd P (.block id c) Q n L w := ⟨wp_block h.out⟩
theorem cd_exit {id : Nat} (h : Q (.exit id) (mkA n L) w) : Cd P (.exit id) Q n L w := ⟨wp_exit h⟩
theorem cd_ret (h : Q .ret (mkA n L) w) : Cd P .ret Q n L w := ⟨wp_ret h⟩
theorem cd_cond {c : Operand} {x y : Code} {t : Bool} (hc : ev n L c = .bool t) (ht : t = true → Cd P x Q n L w) (hf : t = false → Cd P y Q n L w) : Cd P (.cond c x y) Q n L w :=
  ⟨wp_cond_split (by rw [eval_mkA]; exact hc) (fun h => (ht h).out) (fun h => (hf h).out)⟩
theorem cd_condF {c : Operand} {x y : Code} (hc : ev n L c = .bool false) (ht : Cd P y Q n L w) : Cd P (.cond c x y) Q n L w :=
  ⟨wp_cond_false (by rw [eval_mkA]; exact hc) ht.out⟩
theorem cd_region {id : Nat} {l : List Oper} (h : St P l.toArray Q l n L w) : Cd P (.region id l.toArray false) Q n L w := ⟨wp_region_lit h.out⟩
theorem st_nil {ops : Array Oper} (h : Q .normal (mkA n L) w) : St P ops Q [] n L w := ⟨h⟩
variable {y : Code} {K : Act → World → Prop} {a : Act}
theorem nx_then (h : Cd P y Q n L w) : Exit.then (fun a w => y.wp P Q a w) Q .normal (mkA n L) w := h.out
theorem nx_block {id : Nat} (h : Q .normal a w) : Exit.inBlock id Q .normal a w := h
theorem ex_then {id : Nat} (h : Q (.exit id) a w) : Exit.then K Q (.exit id) a w := h
theorem ex_block {id : Nat} (h : Q .normal a w) : Exit.inBlock id Q (.exit id) a w := by
  show (if id = id then Q .normal a w else Q (.exit id) a w)
  rw [if_pos rfl]
  exact h
theorem rt_then (h : Q .ret a w) : Exit.then K Q .ret a w := h
theorem rt_block {id : Nat} (h : Q .ret a w) : Exit.inBlock id Q .ret a w := h
/-- the ends -/
theorem res1 {fn : Func} {m : Nat} {t : Nat} {R : Value → World → Prop} {v : Value} (hr : fn.results = #[.tmp t]) (hv : ev ⟨m, []⟩ L (.tmp t) = v) (h : R v w) :
    bodyPost P fn (fun e w' => ∃ v, e = .returned v ∧ R v w') .ret (mkA ⟨m, []⟩ L) w :=
  bodyPost_ret (results_tmp hr _ _ _) rfl ⟨v, by rw [← hv]; exact congrArg Ending.returned (getD_mkT m L t), h⟩
theorem res2 {fn : Func} {m : Nat} {t u : Nat} {R : Value → World → Prop} {v v' : Value} (hr : fn.results = #[.tmp t, .tmp u]) (hv : ev ⟨m, []⟩ L (.tmp t) = v) (hv' : ev ⟨m, []⟩ L (.tmp u) = v') (h : R (.tuple #[v, v']) w) :
    bodyPost P fn (fun e w' => ∃ v, e = .returned v ∧ R v w') .ret (mkA ⟨m, []⟩ L) w :=
  bodyPost_ret (results_tmp2 hr _ _ _) rfl ⟨.tuple #[v, v'], by rw [← hv, ← hv']; show Ending.returned (.tuple #[(mkT m L).getD t undef, (mkT m L).getD u undef]) = _; rw [getD_mkT, getD_mkT]; rfl, h⟩
theorem res0 {fn : Func} {m : Nat} {R : Value → World → Prop} (hr : fn.results = #[]) (h : R (.tuple #[]) w) :
    bodyPost P fn (fun e w' => ∃ v, e = .returned v ∧ R v w') .ret (mkA ⟨m, []⟩ L) w :=
  bodyPost_ret (results_none hr _ _ _) rfl ⟨_, rfl, h⟩
theorem end_ret {fn : Func} {R : Ending → World → Prop} (h : bodyPost P fn R .ret a w) : bodyPost P fn R .normal a w := h
end control

/-! ### loops and meeting points -/
def Agr (Wr : List Nat) (L' L : List (Nat × Value)) : Prop := ∀ t, Wr.elem t = false → look L' t = look L t
theorem agr_rfl {Wr : List Nat} {L : List (Nat × Value)} : Agr Wr L L := fun _ _ => rfl
theorem agr_cons {Wr : List Nat} {L' L : List (Nat × Value)} {d : Nat} {v : Value} (hd : Wr.elem d = true) (h : Agr Wr L' L) : Agr Wr ((d, v) :: L') L := fun t ht => by
  rw [look_cons, if_neg (fun e => by subst e; rw [hd] at ht; cases ht)]
  exact h t ht
def AllV (L' : List (Nat × Value)) : List (Nat × Value) → Prop
  | [] => True
  | (t, v) :: r => look L' t = v ∧ AllV L' r
def junk (J : List Nat) (ρ : Nat → Value) (L : List (Nat × Value)) : List (Nat × Value) := J.foldr (fun t r => (t, ρ t) :: r) L
theorem look_junk (J : List Nat) (ρ : Nat → Value) (L : List (Nat × Value)) (t : Nat) : look (junk J ρ L) t = if J.elem t then ρ t else look L t := by
  induction J with
  | nil => rfl
  | cons j J ih =>
    show look ((j, ρ j) :: junk J ρ L) t = _
    rw [look_cons, ih]
    by_cases h : t = j
    · subst h; simp
    · have : (j :: J).elem t = J.elem t := by simp [List.elem_cons, h]
      rw [if_neg h, this]
theorem look_app (V L : List (Nat × Value)) (t : Nat) : look (V ++ L) t = if (V.map (·.1)).elem t then look V t else look L t := by
  induction V with
  | nil => rfl
  | cons x V ih =>
    obtain ⟨k, v⟩ := x
    show look ((k, v) :: (V ++ L)) t = if ((k :: V.map (·.1)).elem t) then look ((k, v) :: V) t else _
    rw [look_cons, look_cons, ih]
    by_cases h : t = k
    · subst h; simp
    · have : (k :: V.map (·.1)).elem t = (V.map (·.1)).elem t := by simp [List.elem_cons, h]
      rw [if_neg h, this, if_neg h]
theorem allV_look {L' : List (Nat × Value)} : ∀ {V : List (Nat × Value)}, AllV L' V → ∀ t, (V.map (·.1)).elem t = true → look L' t = look V t
  | [], _, t, h => by simp at h
  | (k, v) :: V, ⟨h1, h2⟩, t, h => by
    rw [look_cons]
    by_cases e : t = k
    · subst e; rw [if_pos rfl]; exact h1
    · rw [if_neg e]
      exact allV_look h2 t (by simpa [List.elem_cons, e] using h)
/-- the frame at a head: these slots hold these values, those hold anything, the others hold what L has -/
def hd (V : List (Nat × Value)) (J : List Nat) (ρ : Nat → Value) (L : List (Nat × Value)) : List (Nat × Value) := V ++ junk J ρ L
theorem hd_of {n : Fr} {V : List (Nat × Value)} {J : List Nat} {L' L : List (Nat × Value)} (hv : AllV L' V) (hj : Agr (V.map (·.1) ++ J) L' L) : mkA n L' = mkA n (hd V J (look L') L) := by
  refine mkA_congr fun t _ => ?_
  unfold hd
  rw [look_app, look_junk]
  by_cases h1 : (V.map (·.1)).elem t = true
  · rw [if_pos h1]; exact allV_look hv t h1
  · rw [if_neg h1]
    by_cases h2 : J.elem t = true
    · rw [if_pos h2]
    · rw [if_neg h2]
      refine hj t ?_
      rw [Bool.not_eq_true] at h1 h2
      simp only [List.elem_eq_mem, decide_eq_false_iff_not] at h1 h2 ⊢
      simp only [List.mem_append, not_or]
      exact ⟨h1, h2⟩
/-- what is known at a head -/
def At (n : Fr) (L : List (Nat × Value)) (J : List Nat) {G : Type} (V : G → List (Nat × Value)) (F : G → World → Prop) (a : Act) (w : World) : Prop := ∃ g ρ, a = mkA n (hd (V g) J ρ L) ∧ F g w
theorem at_mk {n : Fr} {L L' : List (Nat × Value)} {J : List Nat} {G : Type} {V : G → List (Nat × Value)} {F : G → World → Prop} {w : World} (g : G) (hv : AllV L' (V g)) (hj : Agr ((V g).map (·.1) ++ J) L' L) (hF : F g w) :
    At n L J V F (mkA n L') w := ⟨g, look L', hd_of hv hj, hF⟩
section
variable {P : Program} {Q : Exit → Act → World → Prop} {n : Fr} {L : List (Nat × Value)} {w : World} {G : Type}
theorem cd_cut {x y : Code} (J : List Nat) (V : G → List (Nat × Value)) (F : G → World → Prop) (hx : Cd P x (Exit.then (At n L J V F) Q) n L w)
    (hy : ∀ g ρ w', F g w' → Cd P y Q n (hd (V g) J ρ L) w') : Cd P (.seq x y) Q n L w := by
  refine ⟨wp_seq (wp_mono hx.out fun e a w' q => ?_)⟩
  cases e <;> first
    | exact q
    | (obtain ⟨g, ρ, rfl, hF⟩ := q; exact (hy g ρ w' hF).out)
theorem nx_cut {L0 : List (Nat × Value)} {J : List Nat} {V : G → List (Nat × Value)} {F : G → World → Prop} (g : G) (hv : AllV L (V g)) (hj : Agr ((V g).map (·.1) ++ J) L L0) (hF : F g w) : Exit.then (At n L0 J V F) Q .normal (mkA n L) w :=
  at_mk g hv hj hF
/-- a loop: its head, a measure on what is named there -/
theorem cd_loop {c : Code} (J : List Nat) (V : G → List (Nat × Value)) (F : G → World → Prop) (μ : G → Nat) (g0 : G) (hv : AllV L (V g0)) (hF : F g0 w)
    (round : ∀ g ρ w', F g w' → Cd P c (Exit.then (At n L J V (fun g' w'' => F g' w'' ∧ μ g' < μ g)) Q) n (hd (V g) J ρ L) w') : Cd P (.loop c) Q n L w := by
  refine ⟨wp_loop_ghost (fun m a w => At n L J V (fun g w => F g w ∧ μ g = m) a w) (μ g0) ⟨g0, look L, hd_of hv fun t _ => rfl, hF, rfl⟩ ?_⟩
  rintro m a w ⟨g, ρ, rfl, hF, rfl⟩
  refine wp_mono (round g ρ w hF).out fun e a' w' q => ?_
  cases e <;> first
    | exact q
    | (obtain ⟨g', ρ', rfl, hF', hlt⟩ := q; exact ⟨μ g', hlt, g', ρ', rfl, hF', rfl⟩)
end
end Go.Proofs.Ytllpcjdljgmilaa

namespace Go.Proofs.Ytllpcjdljgmilaa
open Go.RowKit

/-- this operation, in this world, over slots that read so: this value, that world -/
def RO (P : Program) (ρ : Operand → Value) (op : Op) (w : World) (v : Value) (w' : World) : Prop :=
  ∀ dst ty pos after g, (execOp ρ ⟨dst, op, ty, pos, after, g⟩).run P w = .ok (.value v) w'
/-- a store -/
def RS (P : Program) (ρ : Operand → Value) (op : Op) (w w' : World) : Prop :=
  ∀ dst ty pos after g, (execOp ρ ⟨dst, op, ty, pos, after, g⟩).run P w = .ok .skip w'

/-! ### what a table of types tells -/
def aggQ (P : Program) (t : TypeId) : Option Bool := (P.underlying t).map fun | .struct _ | .array _ _ => true | _ => false
def sizeQ (P : Program) (t : TypeId) : Option Nat := (P.info? t).map (·.size)
def elemQ (P : Program) (t : TypeId) : Option (Nat × Nat) := match P.underlying t with | some (.slice e) => (P.info? e).map fun i => (e, i.size) | _ => none
def arrQ (P : Program) (t : TypeId) : Option (Nat × Nat) := match P.underlying t with | some (.array n e) => (P.info? e).map fun i => (n, i.size) | _ => none
def fieldQ (P : Program) (t : TypeId) (f : Nat) : Option Nat := match P.underlying t with
  | some (.struct fs) => match fs[f]? with
    | some fl => match P.info? fl.type with
      | some i => if i.size = 0 then none else some fl.offset
      | none => none
    | none => none
  | _ => none
def zeroQ (P : Program) (t : TypeId) : Option Value := (P.info? t).bind (·.zero)

section
variable {P : Program} {ρ : Operand → Value} {w : World}
theorem isAgg_of {t : TypeId} {b : Bool} (h : aggQ P t = some b) : (isAgg t).run P w = .ok b w := by
  unfold aggQ at h
  cases hu : P.underlying t with
  | none => simp [hu] at h
  | some d =>
    rw [hu] at h
    simp only [Option.map_some, Option.some.injEq] at h
    subst h
    unfold isAgg
    rw [Sem.run_bind, run_underlying hu w]
    cases d <;> rfl
theorem sizeOf_of {t : TypeId} {s : Nat} (h : sizeQ P t = some s) : (sizeOf t).run P w = .ok s w := by
  unfold sizeQ at h
  cases hi : P.info? t with
  | none => simp [hi] at h
  | some i =>
    simp only [hi, Option.map_some, Option.some.injEq] at h
    simp [sizeOf, typeInfo, hi, h]
theorem elem_of {t e s : Nat} (h : elemQ P t = some (e, s)) : P.underlying t = some (.slice e) ∧ sizeQ P e = some s := by
  unfold elemQ at h
  split at h
  · rename_i e' hu
    cases hi : P.info? e' with
    | none => simp [hi] at h
    | some i =>
      simp only [hi, Option.map_some, Option.some.injEq, Prod.mk.injEq] at h
      obtain ⟨rfl, rfl⟩ := h
      exact ⟨hu, by simp [sizeQ, hi]⟩
  · cases h
/-! ### slots -/
theorem ro_move {x : Operand} {v : Value} (hx : ρ x = v) : RO P ρ (.move x) w v w := fun _ _ _ _ _ => by subst hx; rfl
theorem ro_assign {x : Operand} {v : Value} (hx : ρ x = v) : RO P ρ (.assign x) w v w := fun _ _ _ _ _ => by subst hx; rfl
theorem ro_pickT {c x y : Operand} {v : Value} (hc : ρ c = .bool true) (hv : ρ x = v) : RO P ρ (.pick c x y) w v w := fun _ _ _ _ _ => by subst hv; simp [execOp, hc, asBool]
theorem ro_pickF {c x y : Operand} {v : Value} (hc : ρ c = .bool false) (hv : ρ y = v) : RO P ρ (.pick c x y) w v w := fun _ _ _ _ _ => by subst hv; simp [execOp, hc, asBool]

/-! ### integers -/
variable {t yt : TypeId} {x y : Operand} {k : IntKind} {a b : Int}
theorem ro_bin {op : BinOp} {u v r : Value} (hx : ρ x = u) (hy : ρ y = v) (hg : (eqGuard op t x y u v).run P w = .ok () w) (hr : (binOp op t u v).run P w = .ok r w) : RO P ρ (.binOp op t x y yt) w r w := fun _ _ _ _ _ => by
  subst hx; subst hy; simp [execOp, hg, hr]
theorem guard_int (op : BinOp) : (eqGuard op t x y (.int k a) (.int k b)).run P w = .ok () w := by unfold eqGuard; split <;> rfl
theorem ro_int {op : BinOp} {r : Value} (hx : ρ x = .int k a) (hy : ρ y = .int k b) (hr : (binOp op t (.int k a) (.int k b)).run P w = .ok r w) : RO P ρ (.binOp op t x y yt) w r w :=
  ro_bin hx hy (guard_int op) hr
theorem ro_add (hx : ρ x = .int k a) (hy : ρ y = .int k b) : RO P ρ (.binOp .add t x y yt) w (.int k (k.wrap (a + b))) w := ro_int hx hy (by simp [binOp, Op.intArith])
theorem ro_sub (hx : ρ x = .int k a) (hy : ρ y = .int k b) : RO P ρ (.binOp .sub t x y yt) w (.int k (k.wrap (a - b))) w := ro_int hx hy (by simp [binOp, Op.intArith])
theorem ro_mul (hx : ρ x = .int k a) (hy : ρ y = .int k b) : RO P ρ (.binOp .mul t x y yt) w (.int k (k.wrap (a * b))) w := ro_int hx hy (by simp [binOp, Op.intArith])
theorem ro_add64 (hx : ρ x = .int .i64 a) (hy : ρ y = .int .i64 b) (h : -9223372036854775808 ≤ a + b ∧ a + b ≤ 9223372036854775807) : RO P ρ (.binOp .add t x y yt) w (.int .i64 (a + b)) w := by
  have := ro_add (P := P) (ρ := ρ) (w := w) (t := t) (yt := yt) hx hy; rwa [IntWalk.i64_in _ h] at this
theorem ro_sub64 (hx : ρ x = .int .i64 a) (hy : ρ y = .int .i64 b) (h : -9223372036854775808 ≤ a - b ∧ a - b ≤ 9223372036854775807) : RO P ρ (.binOp .sub t x y yt) w (.int .i64 (a - b)) w := by
  have := ro_sub (P := P) (ρ := ρ) (w := w) (t := t) (yt := yt) hx hy; rwa [IntWalk.i64_in _ h] at this
theorem ro_mul64 (hx : ρ x = .int .i64 a) (hy : ρ y = .int .i64 b) (h : -9223372036854775808 ≤ a * b ∧ a * b ≤ 9223372036854775807) : RO P ρ (.binOp .mul t x y yt) w (.int .i64 (a * b)) w := by
  have := ro_mul (P := P) (ρ := ρ) (w := w) (t := t) (yt := yt) hx hy; rwa [IntWalk.i64_in _ h] at this
theorem ro_add64' {r : Int} (hx : ρ x = .int .i64 a) (hy : ρ y = .int .i64 b) (he : a + b = r) (h : -9223372036854775808 ≤ r ∧ r ≤ 9223372036854775807) : RO P ρ (.binOp .add t x y yt) w (.int .i64 r) w := by
  subst he; exact ro_add64 hx hy h
theorem ro_sub64' {r : Int} (hx : ρ x = .int .i64 a) (hy : ρ y = .int .i64 b) (he : a - b = r) (h : -9223372036854775808 ≤ r ∧ r ≤ 9223372036854775807) : RO P ρ (.binOp .sub t x y yt) w (.int .i64 r) w := by
  subst he; exact ro_sub64 hx hy h
theorem ro_mul64' {r : Int} (hx : ρ x = .int .i64 a) (hy : ρ y = .int .i64 b) (he : a * b = r) (h : -9223372036854775808 ≤ r ∧ r ≤ 9223372036854775807) : RO P ρ (.binOp .mul t x y yt) w (.int .i64 r) w := by
  subst he; exact ro_mul64 hx hy h
theorem ro_shl {k' : IntKind} (hx : ρ x = .int k a) (hy : ρ y = .int k' b) (h : 0 ≤ b) : RO P ρ (.binOp .shl t x y yt) w (.int k (k.wrap (a * 2 ^ (min b.toNat k.bits)))) w :=
  ro_bin hx hy (by unfold eqGuard; rfl) (by
    have : ¬ b < 0 := by omega
    simp [binOp, Op.shift, this])
theorem ro_shr {k' : IntKind} (hx : ρ x = .int k a) (hy : ρ y = .int k' b) (h : 0 ≤ b) : RO P ρ (.binOp .shr t x y yt) w (.int k (a.fdiv (2 ^ (min b.toNat k.bits)))) w :=
  ro_bin hx hy (by unfold eqGuard; rfl) (by
    have : ¬ b < 0 := by omega
    simp [binOp, Op.shift, this])
theorem ro_eql (hx : ρ x = .int k a) (hy : ρ y = .int k b) : RO P ρ (.binOp .eql t x y yt) w (.bool (a == b)) w := ro_int hx hy (by simp [binOp, Op.intCmp])
theorem ro_neq (hx : ρ x = .int k a) (hy : ρ y = .int k b) : RO P ρ (.binOp .neq t x y yt) w (.bool (a != b)) w := ro_int hx hy (by simp [binOp, Op.intCmp])
theorem ro_lss (hx : ρ x = .int k a) (hy : ρ y = .int k b) : RO P ρ (.binOp .lss t x y yt) w (.bool (decide (a < b))) w := ro_int hx hy (by simp [binOp, Op.intCmp])
theorem ro_leq (hx : ρ x = .int k a) (hy : ρ y = .int k b) : RO P ρ (.binOp .leq t x y yt) w (.bool (decide (a ≤ b))) w := ro_int hx hy (by simp [binOp, Op.intCmp])
theorem ro_gtr (hx : ρ x = .int k a) (hy : ρ y = .int k b) : RO P ρ (.binOp .gtr t x y yt) w (.bool (decide (a > b))) w := ro_int hx hy (by simp [binOp, Op.intCmp])
/-! ### bools, strings, pointers -/
variable {p q : Bool} {s s' : ByteArray}
theorem ro_eqlS (hx : ρ x = .string s) (hy : ρ y = .string s') : RO P ρ (.binOp .eql t x y yt) w (.bool (s.toList == s'.toList)) w :=
  ro_bin hx hy (by unfold eqGuard; rfl) (by simp [binOp, Op.stringOp])
theorem ro_not (hx : ρ x = .bool p) : RO P ρ (.unOp .not t x) w (.bool (!p)) w := fun _ _ _ _ _ => by simp [execOp, hx, Op.unary]
theorem ro_conv {src dst : TypeId} {k' : IntKind} (hs : (P.underlying src).isSome = true) (hd : P.underlying dst = some (.int k')) (hx : ρ x = .int k a) : RO P ρ (.convert src dst x) w (.int k' (k'.wrap a)) w := fun _ _ _ _ _ => by
  obtain ⟨d, hd'⟩ := Option.isSome_iff_exists.mp hs
  simp [execOp, hx, convert, run_underlying hd', run_underlying hd, Conv.intToInt]
/-- from one kind to the same, or to one that holds it -/
theorem ro_conv' {src dst : TypeId} {k' : IntKind} {r : Int} (hs : (P.underlying src).isSome = true) (hd : P.underlying dst = some (.int k')) (hx : ρ x = .int k a) (hr : k'.wrap a = r) : RO P ρ (.convert src dst x) w (.int k' r) w := by
  subst hr; exact ro_conv hs hd hx
/-! ### numbers that are casts of natural ones -/
theorem ro_addN {a b : Nat} (hx : ρ x = .int .i64 (a : Nat)) (hy : ρ y = .int .i64 (b : Nat)) (h : a + b ≤ 9223372036854775807) : RO P ρ (.binOp .add t x y yt) w (.int .i64 ((a + b : Nat) : Int)) w :=
  ro_add64' hx hy (by omega) (by omega)
theorem ro_subN {a b : Nat} (hx : ρ x = .int .i64 (a : Nat)) (hy : ρ y = .int .i64 (b : Nat)) (h : b ≤ a ∧ a ≤ 9223372036854775807) : RO P ρ (.binOp .sub t x y yt) w (.int .i64 ((a - b : Nat) : Int)) w :=
  ro_sub64' hx hy (by omega) (by omega)
theorem ro_mulN {a b : Nat} (hx : ρ x = .int .i64 (a : Nat)) (hy : ρ y = .int .i64 (b : Nat)) (h : a * b ≤ 9223372036854775807) : RO P ρ (.binOp .mul t x y yt) w (.int .i64 ((a * b : Nat) : Int)) w :=
  ro_mul64' hx hy (by rw [Int.natCast_mul]) (by omega)
theorem ro_shrN {a b : Nat} {k k' : IntKind} (hx : ρ x = .int k (a : Nat)) (hy : ρ y = .int k' (b : Nat)) (h : b ≤ k.bits) : RO P ρ (.binOp .shr t x y yt) w (.int k ((a / 2 ^ b : Nat) : Int)) w := by
  have := ro_shr (P := P) (ρ := ρ) (w := w) (t := t) (yt := yt) hx hy (by omega)
  have e : min ((b : Nat) : Int).toNat k.bits = b := by rw [Int.toNat_natCast]; omega
  rw [e] at this
  have e2 : ((a : Nat) : Int).fdiv (2 ^ b) = ((a / 2 ^ b : Nat) : Int) := by
    rw [Int.fdiv_eq_ediv_of_nonneg _ (Int.pow_nonneg (by decide)), Int.natCast_ediv]
    norm_cast
  rwa [e2] at this
/-- a byte as a word -/
theorem ro_conv64 {src dst : TypeId} {a : Nat} {k : IntKind} (hs : (P.underlying src).isSome = true) (hd : P.underlying dst = some (.int .u64)) (hx : ρ x = .int k (a : Nat)) (h : a < 2 ^ 64) : RO P ρ (.convert src dst x) w (.int .u64 (a : Nat)) w :=
  ro_conv' hs hd hx (IntWalk.u64_in _ (by omega))
theorem ro_convI {src dst : TypeId} {a : Nat} {k : IntKind} (hs : (P.underlying src).isSome = true) (hd : P.underlying dst = some (.int .i64)) (hx : ρ x = .int k (a : Nat)) (h : a ≤ 9223372036854775807) : RO P ρ (.convert src dst x) w (.int .i64 (a : Nat)) w :=
  ro_conv' hs hd hx (IntWalk.i64_in _ (by omega))
/-! ### slices and memory -/
variable {A : Option Addr} {ad : Addr} {n c : Nat}
theorem ro_len (ht : (elemQ P t).isSome = true) (hx : ρ x = .slice A n c) : RO P ρ (.call { callee := .builtin .len, args := #[x], argTypes := #[t] }) w (.int .i64 n) w := fun _ _ _ _ _ => by
  obtain ⟨⟨e, sz⟩, he⟩ := Option.isSome_iff_exists.mp ht
  obtain ⟨hu, _⟩ := elem_of he
  simp [BigFrame.execOp_builtin, BigFrame.builtin_len, Builtin.len_, run_underlying hu, hx, goInt]
theorem ro_lenS (ht : P.underlying t = some .string) (hx : ρ x = .string s) : RO P ρ (.call { callee := .builtin .len, args := #[x], argTypes := #[t] }) w (.int .i64 s.size) w := fun _ _ _ _ _ => by
  simp [BigFrame.execOp_builtin, BigFrame.builtin_len, Builtin.len_, run_underlying ht, hx, goInt]
theorem ro_fieldAddr {f o b off : Nat} (hf : fieldQ P t f = some o) (hx : ρ x = .pointer (some ⟨b, off, none⟩)) : RO P ρ (.fieldAddr t x f) w (.pointer (some ⟨b, off + o, none⟩)) w := fun _ _ _ _ _ => by
  unfold fieldQ at hf
  split at hf
  · rename_i fs hu
    split at hf
    · rename_i fl hfl
      split at hf
      · rename_i i hi
        split at hf
        · cases hf
        · rename_i hs
          obtain rfl := Option.some.inj hf
          simp [execOp, hx, Instr.fieldAt, run_underlying hu, hfl, Instr.sureAddr, fieldPlace, sizeOf, typeInfo, hi, hs, Addr.add_mid]
      · cases hf
    · cases hf
  · cases hf
theorem ro_indexAddr {e sz b off : Nat} {i : Int} {k : IntKind} (ht : elemQ P t = some (e, sz)) (hx : ρ x = .slice (some ⟨b, off, none⟩) n c) (hy : ρ y = .int k i) (h : 0 ≤ i ∧ i < n) :
    RO P ρ (.indexAddr t x y) w (.pointer (some ⟨b, off + i.toNat * sz, none⟩)) w := fun _ _ _ _ _ => by
  obtain ⟨hu, hs⟩ := elem_of ht
  simp [execOp, hx, hy, Instr.indexAt, asIntOf, run_underlying hu, h, sizeOf_of hs, Addr.add_mid]
/-- the index a Nat -/
theorem ro_indexAddrN {e sz b off i : Nat} {k : IntKind} (ht : elemQ P t = some (e, sz)) (hx : ρ x = .slice (some ⟨b, off, none⟩) n c) (hy : ρ y = .int k (i : Nat)) (h : i < n) :
    RO P ρ (.indexAddr t x y) w (.pointer (some ⟨b, off + i * sz, none⟩)) w := ro_indexAddr ht hx hy ⟨by omega, by omega⟩
/-- cells of one value -/
theorem ro_indexAddr1 {e b off i : Nat} {k : IntKind} (ht : elemQ P t = some (e, 1)) (hx : ρ x = .slice (some ⟨b, off, none⟩) n c) (hy : ρ y = .int k (i : Nat)) (h : i < n) :
    RO P ρ (.indexAddr t x y) w (.pointer (some ⟨b, off + i, none⟩)) w := by
  have := ro_indexAddrN (P := P) (ρ := ρ) (w := w) ht hx hy h
  rwa [Nat.mul_one] at this
theorem ro_load {v : Value} (ht : aggQ P t = some false) (hx : ρ x = .pointer (some ad)) (hc : w.cell? ad = some v) : RO P ρ (.load t x) w v w := fun _ _ _ _ _ => by
  simp [execOp, hx, Instr.loadAt, Instr.sureAddr, loadVar, isAgg_of ht, hc]
theorem ro_loadA {b off : Nat} {cs : List Value} (ht : aggQ P t = some true) (hs : sizeQ P t = some cs.length) (hx : ρ x = .pointer (some ⟨b, off, none⟩)) (hc : w.rangeAt b off cs) : RO P ρ (.load t x) w (.agg cs.toArray) w := fun _ _ _ _ _ => by
  have hl : (loadCells ⟨b, off, none⟩ cs.length).run P w = .ok cs.toArray w :=
    run_loadCells_list (P := P) w ⟨b, off, none⟩ cs (fun j v hv => by rw [Addr.add_mid]; exact hc j v hv)
  simp [execOp, hx, Instr.loadAt, Instr.sureAddr, loadVar, isAgg_of ht, sizeOf_of hs, hl]
theorem rs_storeA {b off : Nat} {cs : List Value} (hs : sizeQ P t = some cs.length) (hx : ρ x = .pointer (some ⟨b, off, none⟩)) (hy : ρ y = .agg cs.toArray) (h1 : ∀ v ∈ cs, v.oneCell' = true) (hc : w.there b off cs.length) :
    RS P ρ (.store t x y) w (w.setCells b off cs) := fun _ _ _ _ _ => by
  have hr := run_storeAt_mid (P := P) w b off t cs.toArray (by simpa using hc) (by simpa [sizeQ] using hs) (all_oneCell_toArray h1)
  simp [execOp, hx, hy, hr]
theorem ro_box {v : Value} (hx : ρ x = v) : RO P ρ (.box t x) w (.pointer (some ⟨w.heap.size, 0, none⟩)) (w.alloc (.cells v.cells t)) := fun _ _ _ _ _ => by
  simp [execOp, Instr.box, hx, newVar, newRow]
theorem ro_buildSlice {e m : Nat} {l : List (Nat × Operand)} {cells : Array Value} {ie : TypeInfo} {z : Value} (hu : P.underlying t = some (.slice e)) (hie : P.info? e = some ie) (hz : ie.zero = some z) (hsmall : ¬ m * ie.size > 2 ^ 24) (hpos : ¬ m * ie.size = 0)
    (hf : Instr.fill (fun i => some (i * ie.size, ie.size)) ((Array.range (m * ie.size)).map (z.cells[· % z.cells.size]!)) (l.map fun p => (p.1, ρ p.2)) = some cells) :
    RO P ρ (.buildSlice t m l.toArray) w (.slice (some ⟨w.heap.size, 0, none⟩) m m) (w.alloc (.cells cells e)) := fun _ _ _ _ _ => by
  have := run_buildSlice (P := P) w t e m ((l.map fun p => (p.1, ρ p.2)).toArray) cells ie z hu hie hz hsmall hpos (by simpa using hf)
  simp only [execOp, List.map_toArray, Sem.run_bind]
  rw [this]
  rfl
theorem ro_extract {i : Nat} {l : List Value} {v : Value} (hx : ρ x = .tuple l.toArray) (hv : l[i]? = some v) : RO P ρ (.extract x i) w v w := fun _ _ _ _ _ => by
  simp [execOp, hx, Instr.extract, hv]
/-! ### pieces of a slice -/
end

/-! ### steps -/
section steps
variable {P : Program} {ops : Array Oper} {Q : Exit → Act → World → Prop} {rest : List Oper} {n : Fr} {L : List (Nat × Value)} {w w' : World} {op : Op} {ty : TypeId} {pos : String} {after : Array Edge} {d : Nat}
theorem st_val {v : Value} (hr : RO P (ev n L) op w v w') (k : St P ops Q rest n ((d, v) :: L) w') : St P ops Q (⟨some d, op, ty, pos, after, none⟩ :: rest) n L w := by
  refine ⟨wpList_plain rfl fun K hK => ?_⟩
  unfold Oper.wp
  rw [eval_mkA, hr]
  rw [Oper.upon_value, put_mkA]
  exact hK _ _ k.out
/-- what a guard's slot says -/
def nthDst : List Oper → Nat → Option Nat
  | [], _ => none
  | o :: _, 0 => o.dst
  | _ :: r, j + 1 => nthDst r j
theorem nthDst_eq : ∀ (l : List Oper) (j : Nat), nthDst l j = (l[j]?).bind (·.dst)
  | [], _ => by simp [nthDst]
  | o :: _, 0 => by simp [nthDst]
  | _ :: r, j + 1 => by simpa [nthDst] using nthDst_eq r j
def wantQ (ops : Array Oper) (n : Fr) (L : List (Nat × Value)) (j : Nat) : Value := match nthDst ops.toList j with | some t => ev n L (.tmp t) | none => undef
theorem yielded_mkT {j : Nat} {b : Bool} (h : wantQ ops n L j = .bool b) : yielded ops (mkT n.n L) j = some b := by
  unfold wantQ at h
  rw [nthDst_eq, Array.getElem?_toList] at h
  unfold yielded
  cases hd : (ops[j]?).bind (·.dst) with
  | none => rw [hd] at h; simp [undef] at h
  | some t =>
    rw [hd] at h
    simp only [Option.bind_some, mkT_get]
    simp only [ev, blt_iff] at h
    by_cases ht : t < n.n
    · simp only [ht, decide_true, cond_true] at h
      simp [ht, h]
    · simp [ht, undef] at h
theorem mvi {x : Operand} {k : IntKind} {a : Int} (hx : ev n L x = .int k a) (h : St P ops Q rest n ((d, .int k a) :: L) w) : St P ops Q (⟨some d, .move x, ty, pos, after, none⟩ :: rest) n L w := st_val (ro_move hx) h
theorem mvs {x : Operand} {A : Option Addr} {m c : Nat} (hx : ev n L x = .slice A m c) (h : St P ops Q rest n ((d, .slice A m c) :: L) w) : St P ops Q (⟨some d, .move x, ty, pos, after, none⟩ :: rest) n L w := st_val (ro_move hx) h
theorem mvb {x : Operand} {b : Bool} (hx : ev n L x = .bool b) (h : St P ops Q rest n ((d, .bool b) :: L) w) : St P ops Q (⟨some d, .move x, ty, pos, after, none⟩ :: rest) n L w := st_val (ro_move hx) h
theorem mvt {x : Operand} {l : Array Value} (hx : ev n L x = .tuple l) (h : St P ops Q rest n ((d, .tuple l) :: L) w) : St P ops Q (⟨some d, .move x, ty, pos, after, none⟩ :: rest) n L w := st_val (ro_move hx) h
theorem asi {x : Operand} {k : IntKind} {a : Int} (hx : ev n L x = .int k a) (h : St P ops Q rest n ((d, .int k a) :: L) w) : St P ops Q (⟨some d, .assign x, ty, pos, after, none⟩ :: rest) n L w := st_val (ro_assign hx) h
theorem ass {x : Operand} {A : Option Addr} {m c : Nat} (hx : ev n L x = .slice A m c) (h : St P ops Q rest n ((d, .slice A m c) :: L) w) : St P ops Q (⟨some d, .assign x, ty, pos, after, none⟩ :: rest) n L w := st_val (ro_assign hx) h
theorem asb {x : Operand} {b : Bool} (hx : ev n L x = .bool b) (h : St P ops Q rest n ((d, .bool b) :: L) w) : St P ops Q (⟨some d, .assign x, ty, pos, after, none⟩ :: rest) n L w := st_val (ro_assign hx) h
theorem st_gno {j : Nat} {b b' : Bool} (hg : wantQ ops n L j = .bool b') (hb : (b' == b) = false) (k : St P ops Q rest n ((d, undef) :: L) w) : St P ops Q (⟨some d, op, ty, pos, after, some (j, b)⟩ :: rest) n L w := by
  refine ⟨wpList_step fun K hK => ?_⟩
  have hw : Region.wanted ⟨some d, op, ty, pos, after, some (j, b)⟩ (yielded ops (mkA n L).tmps) = false := by
    show (yielded ops (mkT n.n L) j == some b) = false
    rw [yielded_mkT hg]; simpa using hb
  rw [if_neg (by rw [hw]; simp), put_mkA]
  exact hK _ _ k.out
/-- a guard that says yes -/
theorem st_unguard {dst : Option Tmp} {j : Nat} {b : Bool} (hg : wantQ ops n L j = .bool b) (k : St P ops Q (⟨dst, op, ty, pos, after, none⟩ :: rest) n L w) : St P ops Q (⟨dst, op, ty, pos, after, some (j, b)⟩ :: rest) n L w := by
  have hw : Region.wanted ⟨dst, op, ty, pos, after, some (j, b)⟩ (yielded ops (mkA n L).tmps) = true := by
    show (yielded ops (mkT n.n L) j == some b) = true
    rw [yielded_mkT hg]; simp
  have hk := k.out
  constructor
  unfold wpList at hk ⊢
  rw [if_pos hw]
  exact hk
/-- by cases on the bool that a slot holds -/
theorem st_split {t : Nat} {e : Bool} (h : look L t = .bool e) (hT : e = true → St P ops Q rest n ((t, .bool true) :: L) w) (hF : e = false → St P ops Q rest n ((t, .bool false) :: L) w) : St P ops Q rest n L w := by
  have key : ∀ v, look L t = v → mkA n ((t, v) :: L) = mkA n L := fun v hv => mkA_congr fun i _ => by
    rw [look_cons]
    split
    · rename_i hi; subst hi; exact hv.symm
    · rfl
  cases e with
  | true => have := (hT rfl).out; rw [key _ h] at this; exact ⟨this⟩
  | false => have := (hF rfl).out; rw [key _ h] at this; exact ⟨this⟩
/-- a slot's value, spelled otherwise -/
theorem st_spell {t : Nat} {v v' : Value} (h : look L t = v) (he : v = v') (k : St P ops Q rest n ((t, v') :: L) w) : St P ops Q rest n L w := by
  have key : mkA n ((t, v') :: L) = mkA n L := mkA_congr fun i _ => by
    rw [look_cons]
    split
    · rename_i hi; subst hi; rw [h, he]
    · rfl
  have := k.out
  rw [key] at this
  exact ⟨this⟩
/-! calls -/
def callable (P : Program) (f : FuncId) : Bool := match P.funcs[f]? with | some fn => !(fn.name == "runtime.NumGoroutine") && fn.body.isSome | none => false
theorem run_call {f : FuncId} (hf : callable P f = true) (args : Array Value) : (callFunc f args).run P w = .ok (.enter f args) w := by
  unfold callable at hf
  cases h : P.funcs[f]? with
  | none => simp [h] at hf
  | some fn =>
    simp only [h, Bool.and_eq_true, Bool.not_eq_true'] at hf
    have hb : fn.body.isNone = false := by cases hb : fn.body <;> simp_all
    simp only [callFunc, Sem.run_bind, run_program, Result.andThen_ok, h, hf.1, hb, Bool.false_eq_true, if_false]
    rfl
theorem exec_call {ρ : Operand → Value} (hρ : ∀ f, ρ (.func f) = .func (.func f) #[] #[]) {f : FuncId} {l : List Operand} {ats : Array TypeId} {g : Option (Nat × Bool)} {dst : Option Tmp} :
    execOp ρ ⟨dst, .call { callee := .value (.func f), args := l.toArray, argTypes := ats }, ty, pos, after, g⟩ = callFunc f (l.map ρ).toArray := by
  have : execOp ρ ⟨dst, .call { callee := .value (.func f), args := l.toArray, argTypes := ats }, ty, pos, after, g⟩ = (do let d ← Deferred.ofValue (ρ (.func f)) (l.toArray.map ρ); invoke d.target d.args) := rfl
  rw [this, hρ]
  show callFunc f (#[] ++ l.toArray.map ρ ++ #[]) = _
  simp
theorem st_call {f : FuncId} {l : List Operand} {ats : Array TypeId} {R : Value → World → Prop} (hf : callable P f = true) (hc : Rt P f (l.map (ev n L)) w R) (k : ∀ v w', R v w' → St P ops Q rest n ((d, v) :: L) w') :
    St P ops Q (⟨some d, .call { callee := .value (.func f), args := l.toArray, argTypes := ats }, ty, pos, after, none⟩ :: rest) n L w := by
  refine ⟨wpList_plain rfl fun K hK => ?_⟩
  unfold Oper.wp
  rw [eval_mkA, exec_call (fun _ => rfl), run_call hf, Oper.upon_enter]
  refine Calls.mono hc fun e w' ⟨v, he, hR⟩ => ?_
  subst he
  show K ((mkA n L).put (some d) v) w'
  rw [put_mkA]
  exact hK _ _ (k v w' hR).out
end steps
end Go.Proofs.Ytllpcjdljgmilaa

namespace Go.Proofs.Ytllpcjdljgmilaa
open Go.RowKit

/-- all that was there in a is in w as it was -/
abbrev From (a w : World) : Prop := Below a.heap.size a w

section
variable {a b w w' : World}
theorem From.rfl_ : From a a := Below.refl _ _
theorem From.new (h : From a w) (o : Obj) : From a (w.alloc o) := Below.alloc h h.size o
theorem From.dn (h : From a w) (n : Nat) : From a (w.drewN n) := below_drewN h n
theorem From.d1 (h : From a w) : From a w.drew := Below.drew h
theorem From.next (h : From a w) (k : From w w') : From a w' := Below.trans h (Below.mono k h.size)
theorem From.grew (h : From a w) {row : Option Nat} (hg : w.grownBy w' row) (hr : ∀ k, row = some k → a.heap.size ≤ k) : From a w' := Below.grown h hg h.size hr
theorem From.cells (h : From a w) : ∀ k o, k < a.heap.size → w.cell? ⟨k, o, none⟩ = a.cell? ⟨k, o, none⟩ := fun k o hk => Below.cell (p := ⟨k, o, none⟩) h hk
end

/-- a block that is known whole -/
def Blk (w : World) (g : Nat) (t : TypeId) (cs : Array Value) : Prop := w.heap[g]? = some (.cells cs t (0, 0))
section
variable {w w' : World} {g : Nat} {t : TypeId} {cs : Array Value}
theorem Blk.lt (h : Blk w g t cs) : g < w.heap.size := by
  rcases Nat.lt_or_ge g w.heap.size with hlt | hge
  · exact hlt
  · unfold Blk at h; rw [Array.getElem?_eq_none hge] at h; cases h
theorem Blk.cell (h : Blk w g t cs) (i : Nat) : w.cell? ⟨g, i, none⟩ = cs[i]? := cell_of_row w g i cs t (0, 0) h
theorem Blk.frozen (h : Blk w g t cs) (i : Nat) : w.frozen? ⟨g, i, none⟩ = false := by
  unfold Blk at h
  simp [World.frozen?, h]
theorem Blk.new (w : World) (t : TypeId) (cs : Array Value) : Blk (w.alloc (.cells cs t)) w.heap.size t cs := heap_alloc_new w _
theorem Blk.set_ (h : Blk w g t cs) (i : Nat) (u : Value) : Blk (w.setCell ⟨g, i, none⟩ u) g t (cs.setIfInBounds i u) := by
  unfold Blk at h ⊢
  simp [World.setCell, Array.getElem?_modify, h]
theorem Blk.below {B : Nat} (h : Blk w g t cs) (hb : Below B w w') (hg : g < B) : Blk w' g t cs := (hb.block g hg).trans h
theorem Blk.from_ (h : Blk w g t cs) (hb : From w w') : Blk w' g t cs := h.below hb h.lt
end

/-- the slice value v reads as these one-cell values -/
def Row (w : World) (v : Value) (vs : List Value) : Prop :=
  ∃ (A : Option Addr) (cap : Nat), v = .slice A vs.length cap ∧ (0 < vs.length → ∃ b o, A = some ⟨b, o, none⟩ ∧ b < w.heap.size ∧ ∀ i u, vs[i]? = some u → w.cell? ⟨b, o + i, none⟩ = some u)
theorem Row.blk {w : World} {g : Nat} {t : TypeId} {cs : Array Value} (h : Blk w g t cs) (cap : Nat) : Row w (.slice (some ⟨g, 0, none⟩) cs.size cap) cs.toList := by
  refine ⟨some ⟨g, 0, none⟩, cap, by simp, fun _ => ⟨g, 0, rfl, h.lt, fun i u hu => ?_⟩⟩
  rw [Nat.zero_add, h.cell i]
  simpa using hu

/-- the values that a slice value reads as, by index -/
theorem row_vals {α : Type} {f : α → Value} {w : World} {v : Value} {xs : List α} (hr : Row w v (xs.map f)) : ∃ A cap, v = .slice A xs.length cap ∧
    (0 < xs.length → ∃ b o, A = some ⟨b, o, none⟩ ∧ b < w.heap.size ∧ ∀ i (h : i < xs.length), w.cell? ⟨b, o + i, none⟩ = some (f xs[i])) := by
  obtain ⟨A, cap, rfl, hp⟩ := hr
  rw [List.length_map] at hp ⊢
  refine ⟨A, cap, rfl, fun h0 => ?_⟩
  obtain ⟨b, o, hA, hb, hc⟩ := hp h0
  refine ⟨b, o, hA, hb, fun i hi => hc i _ ?_⟩
  rw [List.getElem?_map, List.getElem?_eq_getElem hi]
  rfl

theorem own_form {w : World} {base : Nat} {e : TypeId} {size : Nat} {v : Value} {n : Nat} {xs : List Value} (h : w.ownsRow base e size v n xs) : ∃ A cap, v = .slice A n cap := by
  rcases h.2 with ⟨rfl, rfl⟩ | ⟨g, cap, cur, rfl, _⟩
  · exact ⟨none, 0, rfl⟩
  · exact ⟨_, cap, rfl⟩

theorem _root_.Go.World.ownsRow.kept_from {w w' : World} {base : Nat} {e : TypeId} {size : Nat} {v : Value} {n : Nat} {xs : List Value} (h : w.ownsRow base e size v n xs) (hw : From w w') : w'.ownsRow base e size v n xs := by
  refine ⟨h.1, ?_⟩
  rcases h.2 with h2 | ⟨g, cap, cur, hv, hg, hh, r⟩
  · exact .inl h2
  · refine .inr ⟨g, cap, cur, hv, hg, ?_, r⟩
    rw [hw.block g (by
      rcases Nat.lt_or_ge g w.heap.size with hlt | hge
      · exact hlt
      · rw [Array.getElem?_eq_none hge] at hh; cases hh)]
    exact hh
end Go.Proofs.Ytllpcjdljgmilaa

namespace Go.Proofs.Ytllpcjdljgmilaa
open Go.RowKit

/-- no more than this value -/
def eqp (x : Value) : Value → World → Prop := fun v _ => v = x
def lookR : List (Nat × (Value → World → Prop)) → Nat → Value → World → Prop
  | [], _ => fun _ _ => True
  | (k, R) :: r, i => bif Nat.beq i k then R else lookR r i
def MonoR : List (Nat × (Value → World → Prop)) → Prop
  | [] => True
  | (_, R) :: r => (∀ v w1 w2, From w1 w2 → R v w1 → R v w2) ∧ MonoR r
theorem eqp_mono (x : Value) : ∀ v w1 w2, From w1 w2 → eqp x v w1 → eqp x v w2 := fun _ _ _ _ h => h
theorem lookR_mono : ∀ {l : List (Nat × (Value → World → Prop))}, MonoR l → ∀ t v w1 w2, From w1 w2 → lookR l t v w1 → lookR l t v w2
  | [], _, _, _, _, _, _, _ => trivial
  | (k, R) :: r, ⟨h1, h2⟩, t, v, w1, w2, hF, h => by
    have e : lookR ((k, R) :: r) t = bif Nat.beq t k then R else lookR r t := rfl
    rw [e] at h ⊢
    cases hb : Nat.beq t k with
    | true => rw [hb] at h; exact h1 _ _ _ hF h
    | false => rw [hb] at h; exact lookR_mono h2 t v w1 w2 hF h
/-- for whatever values of these slots that fit -/
def AllF (R : Nat → Value → World → Prop) (w : World) : List Nat → (List (Nat × Value) → Prop) → Prop
  | [], K => K []
  | d :: r, K => ∀ v, R d v w → AllF R w r fun M => K ((d, v) :: M)
theorem allF_at {R : Nat → Value → World → Prop} {w : World} (ρ : Nat → Value) : ∀ (l : List Nat) {K : List (Nat × Value) → Prop}, (∀ d ∈ l, R d (ρ d) w) → AllF R w l K → K (l.map fun d => (d, ρ d))
  | [], _, _, h => h
  | d :: r, _, hr, h => allF_at ρ r (fun e he => hr e (List.mem_cons_of_mem _ he)) (h (ρ d) (hr d (List.mem_cons_self ..)))
theorem look_map (ρ : Nat → Value) (l : List Nat) (L : List (Nat × Value)) (t : Nat) : look (l.map (fun d => (d, ρ d)) ++ L) t = if l.elem t then ρ t else look L t := by
  induction l with
  | nil => rfl
  | cons d l ih =>
    show look ((d, ρ d) :: (l.map (fun d => (d, ρ d)) ++ L)) t = _
    rw [look_cons, ih]
    by_cases h : t = d
    · subst h; simp
    · have : (d :: l).elem t = l.elem t := by simp [List.elem_cons, h]
      rw [if_neg h, this]

/-- one operation: it yields a value that fits, and the world only grows -/
def OpOK (P : Program) (ops : Array Oper) (n : Fr) (L : List (Nat × Value)) (o : Oper) (w : World) (R : Value → World → Prop) : Prop :=
  (Region.wanted o (yielded ops (mkT n.n L)) = true ∧ ((∃ v w', (execOp (ev n L) o).run P w = .ok (.value v) w' ∧ From w w' ∧ R v w') ∨
    (∃ f l, (execOp (ev n L) o).run P w = .ok (.enter f (List.toArray l)) w ∧ Rt P f l w fun v w' => From w w' ∧ R v w'))) ∨
  (Region.wanted o (yielded ops (mkT n.n L)) = false ∧ R undef w)
section
variable {P : Program} {ops : Array Oper} {n : Fr} {L : List (Nat × Value)} {w w' : World} {op : Op} {ty : TypeId} {pos : String} {after : Array Edge} {d : Option Nat} {R : Value → World → Prop}
theorem ok_val {v : Value} (hr : RO P (ev n L) op w v w') (hF : From w w') (hR : R v w') : OpOK P ops n L ⟨d, op, ty, pos, after, none⟩ w R :=
  .inl ⟨rfl, .inl ⟨v, w', hr _ _ _ _ _, hF, hR⟩⟩
theorem ok_pure {v : Value} (hr : RO P (ev n L) op w v w) (hR : R v w) : OpOK P ops n L ⟨d, op, ty, pos, after, none⟩ w R := ok_val hr From.rfl_ hR
theorem ok_gpure {v : Value} {j : Nat} {b : Bool} (hg : wantQ ops n L j = .bool b) (hr : RO P (ev n L) op w v w) (hR : R v w) : OpOK P ops n L ⟨d, op, ty, pos, after, some (j, b)⟩ w R :=
  .inl ⟨by show (yielded ops (mkT n.n L) j == some b) = true; rw [yielded_mkT hg]; simp, .inl ⟨v, w, hr _ _ _ _ _, From.rfl_, hR⟩⟩
theorem ok_gcall {f : FuncId} {l : List Operand} {ats : Array TypeId} {j : Nat} {b : Bool} (hg : wantQ ops n L j = .bool b) (hf : callable P f = true) (hc : Rt P f (l.map (ev n L)) w fun v w' => From w w' ∧ R v w') :
    OpOK P ops n L ⟨d, .call { callee := .value (.func f), args := l.toArray, argTypes := ats }, ty, pos, after, some (j, b)⟩ w R :=
  .inl ⟨by show (yielded ops (mkT n.n L) j == some b) = true; rw [yielded_mkT hg]; simp, .inr ⟨f, l.map (ev n L), by rw [exec_call (fun _ => rfl), run_call hf], hc⟩⟩
theorem ok_gno {j : Nat} {b b' : Bool} (hg : wantQ ops n L j = .bool b') (hb : (b' == b) = false) (hR : R undef w) : OpOK P ops n L ⟨d, op, ty, pos, after, some (j, b)⟩ w R :=
  .inr ⟨by show (yielded ops (mkT n.n L) j == some b) = false; rw [yielded_mkT hg]; simpa using hb, hR⟩
end

/-- the slots that an operation looks at, of those that the region's head writes -/
def slotsOf (ops : Array Oper) (pre : List Nat) (o : Oper) : List Nat := (pre.filter fun t => (o.looksAt ops).elem t)
def isSelect : Op → Bool | .select _ _ => true | _ => false
def hasEdge (o : Oper) (i : Nat) : Bool := o.after.toList.any fun e => Region.binds .any e && e.on == i
/-- the region's shape -/
def monoB (l : List Oper) (K : Nat) : Bool :=
  let ops := l.toArray
  let dst (i : Nat) : Option Nat := (l[i]?).bind (·.dst)
  decide (K ≤ l.length) &&
  (List.range l.length).all fun i => match l[i]? with
    | none => false
    | some o =>
      (o.after.toList.all fun e => !Region.binds .any e || decide (e.on < i)) && !isSelect o.op &&
      (if i < K then
        (match o.dst with
         | none => false
         | some d => (List.range K).all (fun j => j == i || dst j != some d) && !((o.looksAt ops).elem d)) &&
        (List.range K).all (fun j => match dst j with
          | none => false
          | some d => !(o.looksAt ops).elem d || (decide (j < i) && hasEdge o j))
       else (List.range i).all (fun j => hasEdge o j))
def OpsOK (P : Program) (ops : Array Oper) (n : Fr) (L : List (Nat × Value)) (w : World) (R : Nat → Value → World → Prop) (pre : List Nat) : List Oper → Prop
  | [] => True
  | o :: r => (∀ w', From w w' → AllF R w' (slotsOf ops pre o) fun M => OpOK P ops n (M ++ L) o w' (R (o.dst.getD 0))) ∧ OpsOK P ops n L w R pre r
def preOf (l : List Oper) (K : Nat) : List Nat := (l.take K).filterMap (·.dst)

theorem count_set_true : ∀ {l : List Bool} {i : Nat}, l[i]? = some false → (l.set i true).count false + 1 = l.count false
  | [], i, h => by simp at h
  | x :: r, 0, h => by
    simp only [List.getElem?_cons_zero, Option.some.injEq] at h
    subst h
    simp
  | x :: r, i + 1, h => by
    have := count_set_true (l := r) (i := i) (by simpa using h)
    simp only [List.set_cons_succ, List.count_cons]
    omega
section main
variable {P : Program} {Q : Exit → Act → World → Prop} {n : Fr} {L : List (Nat × Value)} {w : World} {l : List Oper} {K : Nat} {R : Nat → Value → World → Prop}
theorem getD_true_false {listed : Array Bool} {i : Nat} (h : i < listed.size) : listed.getD i true = listed.getD i false := by
  simp [Array.getD, h]
theorem looksAt_agree {ops : Array Oper} {o : Oper} {L1 L2 : List (Nat × Value)} (hs : isSelect o.op = false) (h : ∀ t, (o.looksAt ops).elem t = true → look L1 t = look L2 t) :
    execOp (ev n L1) o = execOp (ev n L2) o ∧ Region.wanted o (yielded ops (mkT n.n L1)) = Region.wanted o (yielded ops (mkT n.n L2)) := by
  constructor
  · refine execOp_congr o (fun cs b e => by rw [e] at hs; simp [isSelect] at hs) fun x hx => ?_
    cases x with
    | tmp t =>
      have : look L1 t = look L2 t := h t (by
        simp only [List.elem_eq_mem, decide_eq_true_eq]
        exact List.mem_append_left _ (List.mem_filterMap.2 ⟨.tmp t, by simpa using hx, rfl⟩))
      simp only [ev, this]
    | _ => rfl
  · unfold Region.wanted
    cases hg : o.guard with
    | none => rfl
    | some gw =>
      obtain ⟨g, want⟩ := gw
      have hy : yielded ops (mkT n.n L1) g = yielded ops (mkT n.n L2) g := by
        unfold yielded
        cases ht : (ops[g]?).bind (·.dst) with
        | none => rfl
        | some t =>
          have : look L1 t = look L2 t := h t (by
            simp only [List.elem_eq_mem, decide_eq_true_eq]
            exact List.mem_append_right _ (by simp [hg, ht]))
          simp only [Option.bind_some, mkT_get, this]
      simp only [hy]

end main
end Go.Proofs.Ytllpcjdljgmilaa

namespace Go.Proofs.Ytllpcjdljgmilaa
open Go.RowKit

/-- nothing but block g has changed -/
structure Only (g : Nat) (w w' : World) : Prop where
  os : w'.os = w.os
  tape : w'.tape = w.tape
  output : w'.output = w.output
  size : w'.heap.size = w.heap.size
  block : ∀ k, k ≠ g → w'.heap[k]? = w.heap[k]?
theorem Only.setCell (w : World) (g i : Nat) (v : Value) : Only g w (w.setCell ⟨g, i, none⟩ v) := ⟨rfl, rfl, rfl, by simp, fun k hk => Below.heap_setCell w ⟨g, i, none⟩ v k hk⟩
theorem Only.trans {g : Nat} {w w1 w2 : World} (h : Only g w w1) (k : Only g w1 w2) : Only g w w2 := ⟨k.os.trans h.os, k.tape.trans h.tape, k.output.trans h.output, k.size.trans h.size, fun i hi => (k.block i hi).trans (h.block i hi)⟩
theorem Only.rfl_ {g : Nat} {w : World} : Only g w w := ⟨rfl, rfl, rfl, rfl, fun _ _ => rfl⟩
/-- a cell that is there stays as the world grows -/
theorem cellF {w w' : World} {a : Addr} {v : Value} (h : From w w') (hc : w.cell? a = some v) : w'.cell? a = some v :=
  (Below.cell h (World.block_lt_of_cell? w a hc)).trans hc
theorem Blk.rd {w : World} {g : Nat} {t : TypeId} {cs : Array Value} (h : Blk w g t cs) (i : Nat) {v : Value} (hv : cs[i]? = some v) : w.cell? ⟨g, i, none⟩ = some v := by rw [h.cell i]; exact hv
def over (cs : List Value) (o : Nat) (vs : List Value) : List Value := cs.take o ++ vs ++ cs.drop (o + vs.length)
theorem set_over (cs : List Value) (o : Nat) (v : Value) (vs : List Value) (h : o < cs.length) : over (cs.set o v) (o + 1) vs = over cs o (v :: vs) := by
  unfold over
  have h1 : (cs.set o v).take (o + 1) = cs.take o ++ [v] := by
    rw [List.take_set]
    have : cs.take (o + 1) = cs.take o ++ [cs[o]] := (List.take_append_getElem h).symm
    rw [this, List.set_append_right _ _ (by simp; omega)]
    have hm : min o cs.length = o := by omega
    simp [hm]
  have h2 : (cs.set o v).drop (o + 1 + vs.length) = cs.drop (o + (v :: vs).length) := by
    rw [List.drop_set_of_lt (by omega)]
    simp only [List.length_cons]
    congr 1
    omega
  rw [h1, h2]
  simp
theorem Blk.sets {t : TypeId} {g : Nat} : ∀ (vs : List Value) (o : Nat) {w : World} {cs : List Value}, Blk w g t cs.toArray → o + vs.length ≤ cs.length → Blk (w.setCells g o vs) g t (over cs o vs).toArray
  | [], o, w, cs, h, _ => by
    have : over cs o [] = cs := by simp [over]
    rw [this]
    exact h
  | v :: vs, o, w, cs, h, hl => by
    simp only [List.length_cons] at hl
    have h1 := h.set_ o v
    rw [List.setIfInBounds_toArray] at h1
    have := Blk.sets vs (o + 1) h1 (by simp; omega)
    rw [set_over cs o v vs (by omega)] at this
    exact this
theorem Only.sets {g : Nat} : ∀ (vs : List Value) (o : Nat) (w : World), Only g w (w.setCells g o vs)
  | [], _, _ => Only.rfl_
  | v :: vs, o, w => (Only.setCell w g o v).trans (Only.sets vs (o + 1) _)
theorem Blk.there {w : World} {g : Nat} {t : TypeId} {cs : Array Value} (h : Blk w g t cs) (o n : Nat) (hl : o + n ≤ cs.size) : w.there g o n := fun j hj =>
  ⟨by rw [h.cell]; simp [show o + j < cs.size by omega], h.frozen _⟩
theorem Blk.range {w : World} {g : Nat} {t : TypeId} {cs : List Value} (h : Blk w g t cs.toArray) (o : Nat) (vs : List Value) (hl : ∀ j v, vs[j]? = some v → cs[o + j]? = some v) : w.rangeAt g o vs := fun j v hv => by
  rw [h.cell]
  simpa using hl j v hv
theorem Blk.whole {w : World} {g : Nat} {t : TypeId} {cs : List Value} (h : Blk w g t cs.toArray) : w.rangeAt g 0 cs := h.range 0 cs fun j v hv => by rw [Nat.zero_add]; exact hv
theorem rangeF {w w' : World} {b o : Nat} {cs : List Value} (h : From w w') (hc : w.rangeAt b o cs) : w'.rangeAt b o cs := fun j v hv => cellF h (hc j v hv)

section
variable {P : Program} {ops : Array Oper} {Q : Exit → Act → World → Prop} {rest : List Oper} {n : Fr} {L : List (Nat × Value)} {w : World} {ty : TypeId} {pos : String} {after : Array Edge} {d : Nat} {t : TypeId} {x y : Operand}
theorem st_box {v : Value} (hx : ev n L x = v) (k : ∀ b w', From w w' → b = w.heap.size → Blk w' b t v.cells → St P ops Q rest n ((d, .pointer (some ⟨b, 0, none⟩)) :: L) w') :
    St P ops Q (⟨some d, .box t x, ty, pos, after, none⟩ :: rest) n L w :=
  st_val (ro_box hx) (k _ _ (From.rfl_.new _) rfl (Blk.new w t _))
/-- make -/
def makeQ (P : Program) (t : TypeId) : Option (TypeId × Nat × Value) := match P.underlying t with | some (.slice e) => (P.info? e).bind fun i => if i.size = 1 then i.zero.map fun z => (e, i.bytes, z) else none | _ => none
end
end Go.Proofs.Ytllpcjdljgmilaa

namespace Go.Proofs.Ytllpcjdljgmilaa
open Go.RowKit

/-- from this address on lie these, a cell each -/
def RowOf {α : Type} (f : α → Value) (w : World) (A : Option Addr) (l : List α) : Prop :=
  0 < l.length → ∃ b o, A = some ⟨b, o, none⟩ ∧ ∀ i (h : i < l.length), w.cell? ⟨b, o + i, none⟩ = some (f l[i])
theorem RowOf.from_ {α : Type} {f : α → Value} {w w' : World} {A : Option Addr} {l : List α} (h : RowOf f w A l) (hw : From w w') : RowOf f w' A l := fun h0 =>
  let ⟨b, o, hA, hc⟩ := h h0
  ⟨b, o, hA, fun i hi => cellF hw (hc i hi)⟩
theorem RowOf.of_row {α : Type} {f : α → Value} {w : World} {A : Option Addr} {n cap : Nat} {l : List α} (h : Row w (.slice A n cap) (l.map f)) : n = l.length ∧ RowOf f w A l := by
  obtain ⟨A', c', he, hp⟩ := row_vals h
  simp only [Value.slice.injEq] at he
  obtain ⟨rfl, rfl, rfl⟩ := he
  exact ⟨rfl, fun h0 => let ⟨b, o, hA, _, hc⟩ := hp h0; ⟨b, o, hA, hc⟩⟩
/-- nothing but block g may have changed; more may be there -/
structure But (g : Nat) (w w' : World) : Prop where
  os : w'.os = w.os
  tape : w'.tape = w.tape
  output : w'.output = w.output
  size : w.heap.size ≤ w'.heap.size
  block : ∀ k, k < w.heap.size → k ≠ g → w'.heap[k]? = w.heap[k]?
/-! ### bytes, words -/
abbrev bV (x : Nat) : Value := .int .u8 x
abbrev uV (x : Nat) : Value := .int .u64 x
abbrev iV (x : Int) : Value := .int .i64 x
end Go.Proofs.Ytllpcjdljgmilaa

namespace Go.Proofs.Ytllpcjdljgmilaa
open Go.RowKit

def litQ (P : Program) (t : TypeId) : Option (TypeId × Nat × Nat × Value) := match P.underlying t with | some (.slice e) => (P.info? e).bind fun i => i.zero.map fun z => (e, i.size, i.bytes, z) | _ => none
theorem lit_of {P : Program} {t e size by_ : Nat} {z : Value} (h : litQ P t = some (e, size, by_, z)) : ∃ i, P.underlying t = some (.slice e) ∧ P.info? e = some i ∧ i.size = size ∧ i.bytes = by_ ∧ i.zero = some z := by
  unfold litQ at h
  split at h
  · rename_i e' hu
    cases hi : P.info? e' with
    | none => simp [hi] at h
    | some i =>
      rw [hi] at h
      cases hz : i.zero with
      | none => simp [hz] at h
      | some z' =>
        simp only [Option.bind_some, hz, Option.map_some, Option.some.injEq, Prod.mk.injEq] at h
        obtain ⟨rfl, rfl, rfl, rfl⟩ := h
        exact ⟨i, hu, hi, rfl, rfl, hz⟩
  · cases h
section
variable {P : Program} {ops : Array Oper} {Q : Exit → Act → World → Prop} {rest : List Oper} {n : Fr} {L : List (Nat × Value)} {w : World} {ty : TypeId} {pos : String} {after : Array Edge} {d : Nat} {t : TypeId} {x s : Operand}
theorem ro_lit {ρ : Operand → Value} {e m size by_ : Nat} {l : List (Nat × Operand)} {cells : Array Value} {z : Value} (hq : litQ P t = some (e, size, by_, z)) (hsmall : Nat.ble (m * size) 16777216 = true) (hpos : Nat.beq (m * size) 0 = false)
    (hf : Instr.fill (fun i => some (i * size, size)) ((Array.range (m * size)).map (z.cells[· % z.cells.size]!)) (l.map fun p => (p.1, ρ p.2)) = some cells) :
    RO P ρ (.buildSlice t m l.toArray) w (.slice (some ⟨w.heap.size, 0, none⟩) m m) (w.alloc (.cells cells e)) := by
  obtain ⟨i, hu, hi, hs, _, hz⟩ := lit_of hq
  subst hs
  refine ro_buildSlice hu hi hz ?_ ?_ hf
  · have := Nat.le_of_ble_eq_true hsmall; omega
  · intro h0; rw [h0] at hpos; cases hpos
theorem st_lit {e m size by_ : Nat} {l : List (Nat × Operand)} {cells : Array Value} {z : Value} (hq : litQ P t = some (e, size, by_, z)) (hsmall : Nat.ble (m * size) 16777216 = true) (hpos : Nat.beq (m * size) 0 = false)
    (hf : Instr.fill (fun i => some (i * size, size)) ((Array.range (m * size)).map (z.cells[· % z.cells.size]!)) (l.map fun p => (p.1, ev n L p.2)) = some cells)
    (k : ∀ g w', From w w' → g = w.heap.size → Blk w' g e cells → St P ops Q rest n ((d, .slice (some ⟨g, 0, none⟩) m m) :: L) w') : St P ops Q (⟨some d, .buildSlice t m l.toArray, ty, pos, after, none⟩ :: rest) n L w :=
  st_val (ro_lit hq hsmall hpos hf) (k _ _ (From.rfl_.new _) rfl (Blk.new w e _))
/-- one element of one cell -/
theorem st_lit1 {e by_ : Nat} {z v : Value} (hq : litQ P t = some (e, 1, by_, z)) (hz : z.cells.size = 1) (hx : ev n L x = v) (hv : v.cells = #[v])
    (k : ∀ g w', From w w' → g = w.heap.size → Blk w' g e #[v] → St P ops Q rest n ((d, .slice (some ⟨g, 0, none⟩) 1 1) :: L) w') : St P ops Q (⟨some d, .buildSlice t 1 #[(0, x)], ty, pos, after, none⟩ :: rest) n L w := by
  refine st_lit (l := [(0, x)]) (cells := #[v]) hq rfl rfl ?_ k
  have e1 : (Array.range (1 * 1)).map (z.cells[· % z.cells.size]!) = #[z.cells[0]!] := by
    rw [show Array.range (1 * 1) = #[0] from rfl]
    simp
  rw [e1]
  simp [Instr.fill, hx, hv]

def litParts {α : Type} : Nat → List α → List (Nat × α)
  | _, [] => []
  | i, x :: r => (i, x) :: litParts (i + 1) r
theorem litParts_map {α β : Type} (f : α → β) : ∀ (i : Nat) (l : List α), (litParts i l).map (fun p => (p.1, f p.2)) = litParts i (l.map f)
  | _, [] => rfl
  | i, x :: r => by simp [litParts, litParts_map f (i + 1) r]
theorem fill_parts : ∀ (vs : List Value) (k : Nat) (cells : Array Value), (∀ v ∈ vs, v.cells = #[v]) → k + vs.length ≤ cells.size →
    ∃ R : Array Value, Instr.fill (fun i => some (i * 1, 1)) cells (litParts k vs) = some R ∧ R.size = cells.size ∧ ∀ j, R[j]? = if k ≤ j ∧ j < k + vs.length then vs[j - k]? else cells[j]?
  | [], k, cells, _, _ => ⟨cells, rfl, rfl, fun j => by rw [if_neg (by simp only [List.length_nil]; omega)]⟩
  | v :: r, k, cells, h, hl => by
    simp only [List.length_cons] at hl
    have hv : v.cells = #[v] := h v (List.mem_cons_self ..)
    obtain ⟨R, hR, hs, hc⟩ := fill_parts r (k + 1) (cells.setIfInBounds k v) (fun u hu => h u (List.mem_cons_of_mem _ hu)) (by rw [Array.size_setIfInBounds]; omega)
    have hcond : ¬ (cells.size < k + 1) := by omega
    refine ⟨R, ?_, by simpa using hs, fun j => ?_⟩
    · simp only [litParts, Instr.fill, Nat.mul_one, hv]
      simpa [hcond] using hR
    · rw [hc]
      by_cases hj : j = k
      · subst hj
        rw [if_neg (by omega), if_pos (by simp)]
        simp [show j < cells.size by omega]
      · by_cases h2 : k + 1 ≤ j ∧ j < k + 1 + r.length
        · rw [if_pos h2, if_pos (by simp; omega)]
          obtain ⟨d, hd⟩ : ∃ d, j - k = d + 1 := ⟨j - k - 1, by omega⟩
          rw [hd, show j - (k + 1) = d by omega, List.getElem?_cons_succ]
        · rw [if_neg h2, if_neg (by simp; omega), Array.getElem?_setIfInBounds_ne (fun e => hj e.symm)]
/-- a literal of one-cell elements -/
theorem st_lits {e by_ m : Nat} {z : Value} (xs : List Operand) (vs : List Value) (hq : litQ P t = some (e, 1, by_, z)) (hm : xs.length = m) (hsmall : Nat.ble m 16777216 = true) (hpos : Nat.beq m 0 = false) (hx : xs.map (ev n L) = vs) (hv : ∀ v ∈ vs, v.cells = #[v])
    (k : ∀ g w', From w w' → g = w.heap.size → Blk w' g e vs.toArray → St P ops Q rest n ((d, .slice (some ⟨g, 0, none⟩) m m) :: L) w') : St P ops Q (⟨some d, .buildSlice t m (litParts 0 xs).toArray, ty, pos, after, none⟩ :: rest) n L w := by
  have hlen : vs.length = m := by rw [← hx, List.length_map, hm]
  obtain ⟨R, hR, hs, hc⟩ := fill_parts vs 0 ((Array.range (m * 1)).map (z.cells[· % z.cells.size]!)) hv (by simp; omega)
  have hRe : R = vs.toArray := by
    apply Array.ext_getElem?
    intro j
    rw [hc]
    by_cases hj : j < m
    · rw [if_pos ⟨by omega, by omega⟩, Nat.sub_zero, List.getElem?_toArray]
    · rw [if_neg (by omega), Array.getElem?_eq_none (by rw [Array.size_map, Array.size_range]; omega), Array.getElem?_eq_none (by rw [List.size_toArray]; omega)]
  subst hRe
  refine st_lit hq (by rw [Nat.mul_one]; exact hsmall) (by rw [Nat.mul_one]; exact hpos) ?_ k
  rw [litParts_map, hx]
  exact hR
theorem st_appendB {base : Nat} {A A2 : Option Addr} {m j cap c2 e size by_ : Nat} {z : Value} {xs news : List Value} (hq : litQ P t = some (e, size, by_, z)) (hzs : z.cells.size = size) (hs0 : 0 < size)
    (hs : ev n L s = .slice A m cap) (hown : w.ownsRow base e size (.slice A m cap) m xs) (hB : base ≤ w.heap.size)
    (hx : ev n L x = .slice A2 j c2) (hl : news.length = j * size) (hsrc : 0 < j → ∃ b o, A2 = some ⟨b, o, none⟩ ∧ w.rangeAt b o news) (hnil : A2 = none → c2 = 0) (h1 : ∀ u ∈ news, u.oneCell' = true) (h63 : m + j ≤ 9223372036854775807) (hby : (m + j) * by_ ≤ 140737488355328)
    (k : ∀ A' cap' w', w'.ownsRow base e size (.slice A' (m + j) cap') (m + j) (xs ++ news) → w.grownBy w' (A.map (·.block)) → St P ops Q rest n ((d, .slice A' (m + j) cap') :: L) w') :
    St P ops Q (⟨some d, .call { callee := .builtin .append, args := #[s, x], argTypes := #[t, t] }, ty, pos, after, none⟩ :: rest) n L w := by
  obtain ⟨i, hu, hi, hsz, hb, hz⟩ := lit_of hq
  have hobl : (Value.slice A m cap).ownBlock = A.map (·.block) := by cases A <;> rfl
  cases A2 with
  | none =>
    have hj : j = 0 := by
      rcases Nat.eq_zero_or_pos j with h | h
      · exact h
      · obtain ⟨b, o, hA, _⟩ := hsrc h; cases hA
    subst hj
    have hnn : news = [] := List.eq_nil_of_length_eq_zero (by simpa using hl)
    subst hnn
    have hc := hnil rfl
    subst hc
    refine ⟨wpList_append_own_none (P := P) (a := mkA n L) rfl s x t rfl base e i size hu hi _ m xs (by rw [eval_mkA]; exact hs) hown (by rw [eval_mkA]; exact hx) ?_⟩
    rw [put_mkA]
    have := k A cap w (by simpa using hown) (World.grownBy.refl _ _)
    simpa using this.out
  | some ad =>
    by_cases hj : j = 0
    · subst hj
      have hnn : news = [] := List.eq_nil_of_length_eq_zero (by simpa using hl)
      subst hnn
      refine ⟨wpList_append_own (P := P) w (a := mkA n L) rfl s x t rfl base e i z size by_ hu hi hz hsz hb hzs hs0 _ m xs (by rw [eval_mkA]; exact hs) hown ad 0 c2 [] (by rw [eval_mkA]; exact hx) (by simp) (by simp) (by simp) (by unfold maxLen; omega) hby hB ?_⟩
      intro v' w' hown' hg _
      obtain ⟨A', cap', rfl⟩ := own_form hown'
      rw [put_mkA]
      exact (k A' cap' w' hown' (by rw [← hobl]; exact hg)).out
    · obtain ⟨b, o, hA, hr⟩ := hsrc (by omega)
      cases hA
      refine ⟨wpList_append_own (P := P) w (a := mkA n L) rfl s x t rfl base e i z size by_ hu hi hz hsz hb hzs hs0 _ m xs (by rw [eval_mkA]; exact hs) hown ⟨b, o, none⟩ j c2 news (by rw [eval_mkA]; exact hx) hl (fun i u hu => by rw [Addr.add_mid]; exact hr i u hu) h1 (by unfold maxLen; omega) hby hB ?_⟩
      intro v' w' hown' hg _
      obtain ⟨A', cap', rfl⟩ := own_form hown'
      rw [put_mkA]
      exact (k A' cap' w' hown' (by rw [← hobl]; exact hg)).out
theorem st_append {a0 : World} {A A2 : Option Addr} {m j cap c2 e size by_ : Nat} {z : Value} {xs news : List Value} (hq : litQ P t = some (e, size, by_, z)) (hzs : z.cells.size = size) (hs0 : 0 < size)
    (hs : ev n L s = .slice A m cap) (hown : w.ownsRow a0.heap.size e size (.slice A m cap) m xs) (hB : From a0 w)
    (hx : ev n L x = .slice A2 j c2) (hl : news.length = j * size) (hsrc : 0 < j → ∃ b o, A2 = some ⟨b, o, none⟩ ∧ w.rangeAt b o news) (hnil : A2 = none → c2 = 0) (h1 : ∀ u ∈ news, u.oneCell' = true) (h63 : m + j ≤ 9223372036854775807) (hby : (m + j) * by_ ≤ 140737488355328)
    (k : ∀ A' cap' w', w'.ownsRow a0.heap.size e size (.slice A' (m + j) cap') (m + j) (xs ++ news) → From a0 w' → w.grownBy w' (A.map (·.block)) → St P ops Q rest n ((d, .slice A' (m + j) cap') :: L) w') :
    St P ops Q (⟨some d, .call { callee := .builtin .append, args := #[s, x], argTypes := #[t, t] }, ty, pos, after, none⟩ :: rest) n L w :=
  st_appendB hq hzs hs0 hs hown hB.size hx hl hsrc hnil h1 h63 hby fun A' cap' w' ho hg => k A' cap' w' ho (hB.grew hg (fun k' hk => (hown.lt k' (by rw [← hk]; cases A <;> rfl)).1)) hg
/-- one more element of one cell, that lies in a block of its own -/
theorem st_push1 {a0 : World} {A : Option Addr} {m cap e by_ b : Nat} {z v : Value} {xs : List Value} (hq : litQ P t = some (e, 1, by_, z)) (hzs : z.cells.size = 1)
    (hs : ev n L s = .slice A m cap) (hown : w.ownsRow a0.heap.size e 1 (.slice A m cap) m xs) (hB : From a0 w)
    (hx : ev n L x = .slice (some ⟨b, 0, none⟩) 1 1) (hb : Blk w b e #[v]) (h1 : v.oneCell' = true) (h63 : m + 1 ≤ 9223372036854775807) (hby : (m + 1) * by_ ≤ 140737488355328)
    (k : ∀ A' cap' w', w'.ownsRow a0.heap.size e 1 (.slice A' (m + 1) cap') (m + 1) (xs ++ [v]) → From a0 w' → w.grownBy w' (A.map (·.block)) → St P ops Q rest n ((d, .slice A' (m + 1) cap') :: L) w') :
    St P ops Q (⟨some d, .call { callee := .builtin .append, args := #[s, x], argTypes := #[t, t] }, ty, pos, after, none⟩ :: rest) n L w :=
  st_append hq hzs (by decide) hs hown hB hx rfl (fun _ => ⟨b, 0, rfl, fun i u hu => by
    cases i with
    | zero => simp at hu; subst hu; rw [hb.cell]; rfl
    | succ i => simp at hu⟩) (fun h => by cases h) (by simpa using h1) h63 hby k
end
theorem own_some {w : World} {base e s n c : Nat} {A : Option Addr} {xs : List Value} (h : w.ownsRow base e s (.slice A n c) n xs) (hn : 0 < n) : ∃ g, A = some ⟨g, 0, none⟩ := by
  rcases h.2 with ⟨_, h0⟩ | ⟨g, cap, cur, hv, _⟩
  · omega
  · simp only [Value.slice.injEq] at hv
    exact ⟨g, hv.1⟩
theorem grown_trans {w w1 w2 : World} {r : Option Nat} (h : w.grownBy w1 r) (k : w1.grownBy w2 r) : w.grownBy w2 r :=
  ⟨k.os.trans h.os, k.tape.trans h.tape, k.output.trans h.output, Nat.le_trans h.size k.size, fun i hi hg => (k.block i (Nat.lt_of_lt_of_le hi h.size) hg).trans (h.block i hi hg)⟩
theorem Only.grown {g : Nat} {w w' : World} (h : Only g w w') : w.grownBy w' (some g) := ⟨h.os, h.tape, h.output, by rw [h.size]; exact Nat.le_refl _, fun k _ hk => h.block k (fun e => hk (by rw [e]))⟩
theorem From.grown {w w' : World} (h : From w w') (r : Option Nat) : w.grownBy w' r := ⟨h.os, h.tape, h.output, h.size, fun k hk _ => h.block k hk⟩
end Go.Proofs.Ytllpcjdljgmilaa

namespace Go.Proofs.Ytllpcjdljgmilaa
open Go.RowKit

/-- a result is read as v -/
structure RV (P : Program) (n : Fr) (L : List (Nat × Value)) (w : World) (r : ResultVar) (v : Value) : Prop where
  out : match r with
    | .tmp t => (mkT n.n L)[t]?.getD undef = v
    | .cell a t => ∃ ad, (mkT n.n L)[a]?.getD undef = .pointer (some ad) ∧ (loadVar t ad).run P w = .ok v w
section
variable {P : Program} {n : Fr} {L : List (Nat × Value)} {w : World} {fn : Func}
theorem ro_eq {ρ : Operand → Value} {op : Op} {w' : World} {v v' : Value} (h : RO P ρ op w v w') (he : v = v') : RO P ρ op w v' w' := he ▸ h
theorem ro_bt {ρ : Operand → Value} {op : Op} {w' : World} {b : Bool} (h : RO P ρ op w (.bool b) w') (he : b = true) : RO P ρ op w (.bool true) w' := he ▸ h
theorem ro_bf {ρ : Operand → Value} {op : Op} {w' : World} {b : Bool} (h : RO P ρ op w (.bool b) w') (he : b = false) : RO P ρ op w (.bool false) w' := he ▸ h
def restOf (A : Option Addr) (c l sz : Nat) : Option Addr := if c = l then A else A.map fun x => x.add (l * sz)
/-- a piece of any slice; the bounds are integers that are casts -/
theorem ro_sliceO {ρ : Operand → Value} {x : Operand} {t e sz l h m c : Nat} {A : Option Addr} (ht : elemQ P t = some (e, sz)) {lo hi : Option Operand} (hx : ρ x = .slice A m c)
    (hl : (lo = none ∧ l = 0) ∨ ∃ y k i, lo = some y ∧ ρ y = .int k i ∧ i = (l : Int)) (hh : (hi = none ∧ h = m) ∨ ∃ y k i, hi = some y ∧ ρ y = .int k i ∧ i = (h : Int)) (h1 : l ≤ h) (h2 : h ≤ c) :
    RO P ρ (.slice t x lo hi none) w (.slice (restOf A c l sz) (h - l) (c - l)) w := fun _ _ _ _ _ => by
  obtain ⟨hu, hs⟩ := elem_of ht
  have hE : P.elem t = e := by simp [Program.elem, hu]
  have hu' : P.underlying t = some (.slice (P.elem t)) := by rw [hE]; exact hu
  have fin : (Result.ok (sliced A l h c sz) w : Result Value) = .ok (.slice (restOf A c l sz) (h - l) (c - l)) w := by
    simp only [sliced, restOf]
  rcases hl with ⟨rfl, rfl⟩ | ⟨y1, k1, _, rfl, hy1, rfl⟩ <;> rcases hh with ⟨rfl, rfl⟩ | ⟨y2, k2, _, rfl, hy2, rfl⟩
  · simp only [execOp, hx, Option.map_none, Sem.run_bind]
    rw [run_sliceAt_slice w t _ _ _ _ hu', run_slice_all w t _ _ c hu', hE, sizeOf_of hs, Result.andThen_ok, fin]; rfl
  · simp only [execOp, hx, hy2, Option.map_none, Option.map_some, Sem.run_bind]
    rw [run_sliceAt_slice w t _ _ _ _ hu', run_slice_h w t _ m c hu' k2 (h : Int) (by omega) (by omega), hE, sizeOf_of hs, Result.andThen_ok, Int.toNat_natCast, fin]; rfl
  · simp only [execOp, hx, hy1, Option.map_none, Option.map_some, Sem.run_bind]
    rw [run_sliceAt_slice w t _ _ _ _ hu', run_slice_l w t _ _ c hu' k1 (l : Int) (by omega) (by omega), hE, sizeOf_of hs, Result.andThen_ok, Int.toNat_natCast, fin]; rfl
  · simp only [execOp, hx, hy1, hy2, Option.map_none, Option.map_some, Sem.run_bind]
    rw [run_sliceAt_slice w t _ _ _ _ hu', run_slice_lh w t _ m c hu' k1 k2 (l : Int) (h : Int) (by omega) (by omega) (by omega), hE, sizeOf_of hs, Result.andThen_ok, Int.toNat_natCast, Int.toNat_natCast, fin]; rfl
end
end Go.Proofs.Ytllpcjdljgmilaa

namespace Go.Proofs.Ytllpcjdljgmilaa
open Go.RowKit

/-- a panic speaks of no slot -/
structure PQ (Q : Exit → Act → World → Prop) : Prop where
  out : ∀ (d : Option Nat) (v : Value) (c : List PanicEntry) (a : Act) (w : World), Q (.panic c) (a.put d v) w → Q (.panic c) a w
theorem pq_then {K : Act → World → Prop} {Q : Exit → Act → World → Prop} (h : PQ Q) : PQ (Exit.then K Q) := ⟨fun d v c a w hq => h.out d v c a w hq⟩
theorem pq_block {id : Nat} {Q : Exit → Act → World → Prop} (h : PQ Q) : PQ (Exit.inBlock id Q) := ⟨fun d v c a w hq => h.out d v c a w hq⟩
theorem pq_body {P : Program} {fn : Func} {R : Ending → World → Prop} : PQ (bodyPost P fn R) := ⟨fun d v c a w hq => by
  cases d with
  | none => exact hq
  | some d => exact hq⟩

/-- operations that reckon without memory -/
def lateK : Op → Bool | .move _ => true | .assign _ => true | .extract _ _ => true | _ => false
theorem late_run {P : Program} {ρ : Operand → Value} {o : Oper} (h : lateK o.op = true) {w w' : World} {r : Next} (hr : (execOp ρ o).run P w = .ok r w') : w' = w ∧ ∀ w2, (execOp ρ o).run P w2 = .ok r w2 := by
  obtain ⟨dst, op, ty, pos, after, guard⟩ := o
  cases op <;> simp only [lateK, Bool.false_eq_true] at h
  · simp only [execOp, Sem.run_pure, Result.ok.injEq] at hr ⊢
    exact ⟨hr.2.symm, fun w2 => ⟨hr.1, trivial⟩⟩
  · simp only [execOp, Sem.run_pure, Result.ok.injEq] at hr ⊢
    exact ⟨hr.2.symm, fun w2 => ⟨hr.1, trivial⟩⟩
  · rename_i x i
    simp only [execOp, Sem.run_bind] at hr ⊢
    cases hx : ρ x <;> simp only [hx, Instr.extract] at hr ⊢ <;> (try (simp at hr; done))
    rename_i vs
    cases hv : vs[i]? <;> simp [hv] at hr ⊢
    exact ⟨hr.2.symm, hr.1⟩

def isLate (l : List Oper) (K j : Nat) : Bool := (List.range l.length).any fun i => decide (K ≤ i) && (match l[i]? with | some o => !hasEdge o j | none => false)
def lateB (l : List Oper) (K : Nat) : Bool :=
  (List.range K).all fun j => !isLate l K j || match l[j]? with
    | none => false
    | some o => lateK o.op && o.guard.isNone && o.dst.isSome && (List.range l.length).all fun i => i == j || match l[i]? with
      | none => false
      | some y => (if i < K then !isLate l K i else hasEdge y j) || o.apart l.toArray y
/-- the region's shape -/
def monoL (l : List Oper) (K : Nat) : Bool :=
  let ops := l.toArray
  let dst (i : Nat) : Option Nat := (l[i]?).bind (·.dst)
  (decide (K ≤ l.length) &&
  (List.range l.length).all fun i => match l[i]? with
    | none => false
    | some o =>
      (o.after.toList.all fun e => !Region.binds .any e || decide (e.on < i)) && !isSelect o.op &&
      (if i < K then
        (match o.dst with
         | none => false
         | some d => (List.range K).all (fun j => j == i || dst j != some d) && !((o.looksAt ops).elem d)) &&
        (List.range K).all (fun j => match dst j with
          | none => false
          | some d => !(o.looksAt ops).elem d || (decide (j < i) && hasEdge o j))
       else (List.range i).all (fun j => hasEdge o j || decide (j < K)))) && lateB l K

section late
variable {P : Program} {Q : Exit → Act → World → Prop} {n : Fr} {L : List (Nat × Value)} {w : World} {l : List Oper} {K : Nat} {R : Nat → Value → World → Prop}
/-- values that are still to be put -/
def pend (l : List Oper) (f : Nat → Value) : List Nat → Act → Act
  | [], a => a
  | i :: r, a => (pend l f r a).put ((l[i]?).bind (·.dst)) (f i)
theorem pend_put {f : Nat → Value} {x : Option Nat} {v : Value} : ∀ (U : List Nat) (a : Act), (∀ i ∈ U, ∀ d, x = some d → (l[i]?).bind (·.dst) ≠ some d) → pend l f U (a.put x v) = (pend l f U a).put x v
  | [], _, _ => rfl
  | i :: r, a, h => by
    show (pend l f r (a.put x v)).put _ _ = ((pend l f r a).put _ _).put _ _
    rw [pend_put r a (fun j hj => h j (List.mem_cons_of_mem _ hj))]
    exact Act.put_comm _ _ _ (h i (List.mem_cons_self ..))
theorem pend_erase {f : Nat → Value} {i : Nat} : ∀ (U : List Nat) (a : Act), i ∈ U → U.Nodup → (∀ j ∈ U, j ≠ i → ∀ d, (l[i]?).bind (·.dst) = some d → (l[j]?).bind (·.dst) ≠ some d) → pend l f (U.erase i) (a.put ((l[i]?).bind (·.dst)) (f i)) = pend l f U a
  | [], _, h, _, _ => by cases h
  | j :: r, a, h, hn, hd => by
    obtain ⟨hn1, hn2⟩ := List.nodup_cons.1 hn
    by_cases e : j = i
    · subst e
      rw [List.erase_cons_head]
      exact pend_put r a (fun k hk => hd k (List.mem_cons_of_mem _ hk) (fun e => hn1 (e ▸ hk)))
    · rw [List.erase_cons_tail (by simpa using e)]
      show (pend l f (r.erase i) _).put _ _ = (pend l f r a).put _ _
      rw [pend_erase r a ((List.mem_cons.1 h).resolve_left (fun h => e h.symm)) hn2 (fun k hk => hd k (List.mem_cons_of_mem _ hk))]
theorem yields_put {o y : Oper} {v u : Value} {a : Act} (hs : isSelect o.op = false) (hap : o.apart l.toArray y = true) : Yields P l.toArray o v (a.put y.dst u) ↔ Yields P l.toArray o v a := by
  have h3 := (Oper.apart_spec hap).2.2
  have hs' : ∀ cs b, o.op ≠ .select cs b := fun cs b e => by rw [e] at hs; simp [isSelect] at hs
  exact ⟨fun h => h.of_same (execOp_put o hs' a y.dst u h3).symm (wanted_put o a y.dst u h3).symm, fun h => h.of_same (execOp_put o hs' a y.dst u h3) (wanted_put o a y.dst u h3)⟩
theorem yields_pend {f : Nat → Value} {o : Oper} {v : Value} (hs : isSelect o.op = false) : ∀ (U : List Nat) (a : Act), (∀ i ∈ U, ∃ y, l[i]? = some y ∧ o.apart l.toArray y = true) → (Yields P l.toArray o v (pend l f U a) ↔ Yields P l.toArray o v a)
  | [], _, _ => Iff.rfl
  | i :: r, a, h => by
    obtain ⟨y, hy, hap⟩ := h i (List.mem_cons_self ..)
    show Yields P l.toArray o v ((pend l f r a).put _ _) ↔ _
    rw [hy]
    exact (yields_put hs hap).trans (yields_pend hs r a (fun j hj => h j (List.mem_cons_of_mem _ hj)))
theorem wpOp_pend (hQ : PQ Q) {f : Nat → Value} {k : Nat} {o : Oper} (ho : l[k]? = some o) (hs : isSelect o.op = false) : ∀ (U : List Nat) (Kk : Act → World → Prop) (a : Act), U.Nodup →
    (∀ i ∈ U, ∃ y, l[i]? = some y ∧ isSelect y.op = false ∧ y.apart l.toArray o = true ∧ Yields P l.toArray y (f i) a ∧ ∀ j ∈ U, j ≠ i → ∃ z, l[j]? = some z ∧ y.apart l.toArray z = true) →
    wpOp P l.toArray Q k Kk (pend l f U a) w → wpOp P l.toArray Q k (fun a' w' => (∀ i ∈ U, ∀ y, l[i]? = some y → Yields P l.toArray y (f i) a') ∧ Kk (pend l f U a') w') a w
  | [], Kk, a, _, _, h => wpOp_mono (fun a w h => ⟨by simp, h⟩) h
  | i :: r, Kk, a, hn, hU, h => by
    obtain ⟨hn1, hn2⟩ := List.nodup_cons.1 hn
    obtain ⟨y, hy, hsy, hap, hyl, hoth⟩ := hU i (List.mem_cons_self ..)
    have hr : ∀ j ∈ r, ∃ z, l[j]? = some z ∧ y.apart l.toArray z = true := fun j hj => hoth j (List.mem_cons_of_mem _ hj) (fun e => hn1 (e ▸ hj))
    have hsel : ∀ {x : Oper}, isSelect x.op = false → ∀ cs b, x.op ≠ .select cs b := fun hs cs b e => by rw [e] at hs; simp [isSelect] at hs
    have e0 : pend l f (i :: r) a = (pend l f r a).put y.dst (f i) := by
      show (pend l f r a).put _ _ = _
      rw [hy]; rfl
    rw [e0] at h
    have h1 := wpOp_put (P := P) (ops := l.toArray) (by rw [List.getElem?_toArray]; exact ho) hap (hsel hsy) (hsel hs) (fun c a w => hQ.out _ _ c a w) ((yields_pend hsy r a hr).2 hyl) h
    have h2 := wpOp_pend hQ ho hs r _ a hn2 (fun j hj => by
      obtain ⟨z, h1, h2, h3, h4, h5⟩ := hU j (List.mem_cons_of_mem _ hj)
      exact ⟨z, h1, h2, h3, h4, fun k hk => h5 k (List.mem_cons_of_mem _ hk)⟩) h1
    refine wpOp_mono (fun a' w' hh => ?_) h2
    obtain ⟨g1, g2, g3⟩ := hh
    refine ⟨fun j hj z hz => ?_, ?_⟩
    · rcases List.mem_cons.1 hj with rfl | hj
      · rw [hy] at hz
        cases hz
        exact (yields_pend hsy r a' hr).1 g2
      · exact g1 j hj z hz
    · show Kk ((pend l f r a').put _ _) w'
      rw [hy]
      exact g3
theorem pend_mkA {f : Nat → Value} : ∀ (U : List Nat) (L' : List (Nat × Value)), pend l f U (mkA n L') = mkA n ((U.filterMap fun i => ((l[i]?).bind (·.dst)).map fun d => (d, f i)) ++ L')
  | [], _ => rfl
  | i :: r, L' => by
    show (pend l f r (mkA n L')).put _ _ = _
    rw [pend_mkA r L', List.filterMap_cons]
    cases hd : (l[i]?).bind (·.dst) with
    | none => rfl
    | some d =>
      rw [put_mkA]
      rfl
theorem look_pend {f : Nat → Value} {L' : List (Nat × Value)} {t : Nat} : ∀ (U : List Nat), (∀ i ∈ U, (l[i]?).bind (·.dst) ≠ some t) → look ((U.filterMap fun i => ((l[i]?).bind (·.dst)).map fun d => (d, f i)) ++ L') t = look L' t
  | [], _ => rfl
  | i :: r, h => by
    rw [List.filterMap_cons]
    have h1 := h i (List.mem_cons_self ..)
    cases hd : (l[i]?).bind (·.dst) with
    | none => exact look_pend r (fun j hj => h j (List.mem_cons_of_mem _ hj))
    | some d =>
      simp only [Option.map_some, List.cons_append]
      rw [look_cons, if_neg (fun e => h1 (by rw [hd, e]))]
      exact look_pend r (fun j hj => h j (List.mem_cons_of_mem _ hj))
theorem look_pend_at {f : Nat → Value} {L' : List (Nat × Value)} {i d : Nat} : ∀ (U : List Nat), i ∈ U → (l[i]?).bind (·.dst) = some d → (∀ j ∈ U, j ≠ i → (l[j]?).bind (·.dst) ≠ some d) → look ((U.filterMap fun i => ((l[i]?).bind (·.dst)).map fun d => (d, f i)) ++ L') d = f i
  | [], h, _, _ => by cases h
  | j :: r, h, hd, hne => by
    rw [List.filterMap_cons]
    by_cases e : j = i
    · subst e
      rw [hd]
      simp only [Option.map_some, List.cons_append]
      rw [look_cons, if_pos rfl]
    · have h1 := hne j (List.mem_cons_self ..) e
      have ih := look_pend_at (f := f) (L' := L') r ((List.mem_cons.1 h).resolve_left (fun h => e h.symm)) hd (fun k hk => hne k (List.mem_cons_of_mem _ hk))
      cases hdj : (l[j]?).bind (·.dst) with
      | none => exact ih
      | some d' =>
        simp only [Option.map_some, List.cons_append]
        rw [look_cons, if_neg (fun e => h1 (by rw [hdj, e]))]
        exact ih
end late
end Go.Proofs.Ytllpcjdljgmilaa

namespace Go.Proofs.Ytllpcjdljgmilaa
open Go.RowKit

/-- of the slots Ex nothing is claimed any more -/
def lookE (Ex : List Nat) (RL : List (Nat × (Value → World → Prop))) (t : Nat) : Value → World → Prop := bif Ex.elem t then fun _ _ => True else lookR RL t
theorem lookE_mono {Ex : List Nat} {l : List (Nat × (Value → World → Prop))} (h : MonoR l) : ∀ t v w1 w2, From w1 w2 → lookE Ex l t v w1 → lookE Ex l t v w2 := by
  intro t v w1 w2 hF h1
  unfold lookE at h1 ⊢
  cases hb : Ex.elem t with
  | true => trivial
  | false => rw [hb] at h1; exact lookR_mono h t v w1 w2 hF h1
theorem lookE_of {Ex : List Nat} {l : List (Nat × (Value → World → Prop))} : ∀ t v w, lookR l t v w → lookE Ex l t v w := by
  intro t v w h
  unfold lookE
  cases hb : Ex.elem t with
  | true => trivial
  | false => exact h
/-- what the slots' predicates bear of the change: from w1 to w2; d is the slot that the change yields -/
def MuR (Ex : List Nat) (d : Nat) (w1 w2 : World) : List (Nat × (Value → World → Prop)) → Prop
  | [] => True
  | (k, R) :: r => ((Ex.elem k || Nat.beq k d) = true ∨ ∀ u, R u w1 → R u w2) ∧ MuR Ex d w1 w2 r
/-- it waits for j: itself, or by one that it waits for -/
def dep2 (l : List Oper) (o : Oper) (j : Nat) : Bool := hasEdge o j || o.after.toList.any fun e => Region.binds .any e && match l[e.on]? with | some o' => hasEdge o' j | none => false
/-- what is done has all done that it waited for -/
def ClosedD (l : List Oper) (listed : Array Bool) : Prop := ∀ i o, l[i]? = some o → listed.getD i false = true → ∀ e ∈ o.after, Region.binds .any e = true → listed.getD e.on false = true
theorem dep_listed {l : List Oper} {listed : Array Bool} (hcl : ClosedD l listed) {o : Oper} {j : Nat} (hall : ∀ e ∈ o.after, Region.binds .any e = true → listed.getD e.on false = true) (h : dep2 l o j = true) : listed.getD j false = true := by
  have direct : ∀ (x : Oper), (∀ e ∈ x.after, Region.binds .any e = true → listed.getD e.on false = true) → hasEdge x j = true → listed.getD j false = true := by
    intro x hx he
    obtain ⟨e, he, he2⟩ := List.any_eq_true.1 he
    simp only [Bool.and_eq_true, beq_iff_eq] at he2
    have := hx e (by simpa using he) he2.1
    rwa [he2.2] at this
  unfold dep2 at h
  rcases Bool.or_eq_true_iff.1 h with h | h
  · exact direct o hall h
  · obtain ⟨e, he, he2⟩ := List.any_eq_true.1 h
    simp only [Bool.and_eq_true] at he2
    have h1 := hall e (by simpa using he) he2.1
    cases ho : l[e.on]? with
    | none => rw [ho] at he2; cases he2.2
    | some o' =>
      rw [ho] at he2
      exact direct o' (hcl e.on o' ho h1) he2.2
theorem closed_set {l : List Oper} {listed : Array Bool} (hcl : ClosedD l listed) {i : Nat} {o : Oper} (ho : l[i]? = some o) (hall : ∀ e ∈ o.after, Region.binds .any e = true → listed.getD e.on false = true) : ClosedD l (listed.setIfInBounds i true) := by
  have up : ∀ k, listed.getD k false = true → (listed.setIfInBounds i true).getD k false = true := by
    intro k hk
    by_cases e : i = k
    · subst e
      have : i < listed.size := by
        rcases Nat.lt_or_ge i listed.size with h | h
        · exact h
        · simp [Array.getD, show ¬ i < listed.size by omega] at hk
      simp [this]
    · rw [getD_set_ne false e]; exact hk
  intro k x hx hk e he hb
  by_cases h : i = k
  · subst h
    rw [ho] at hx
    cases hx
    exact up _ (hall e he hb)
  · rw [getD_set_ne false h] at hk
    exact up _ (hcl k x hx hk e he hb)
theorem closed_none (l : List Oper) (n : Nat) : ClosedD l (Array.replicate n false) := by
  intro i o _ h
  simp [Array.getD] at h
/-- the slots that operation i of the head looks at as its writer has left them (not those whose writer waits for i) -/
def oldD (l : List Oper) (K i t : Nat) : Bool := (List.range K).any fun j => match l[j]? with | some oj => (oj.dst == some t) && dep2 l oj i | none => false
def slotsD (l : List Oper) (K i : Nat) (o : Oper) : List Nat := (preOf l K).filter fun t => (o.looksAt l.toArray).elem t && !oldD l K i t
def OpsOK8 (P : Program) (ops : Array Oper) (n : Fr) (L : List (Nat × Value)) (I2 : World → Prop) (R1 R2 : Nat → Value → World → Prop) (l0 : List Oper) (K : Nat) (mu : Nat) : Nat → List Oper → Prop
  | _, [] => True
  | i, o :: r => (Nat.beq i mu = false → ∀ w', I2 w' → AllF R2 w' (slotsD l0 K i o) fun M => OpOK P ops n (M ++ L) o w' (R1 (o.dst.getD 0))) ∧ OpsOK8 P ops n L I2 R1 R2 l0 K mu (i + 1) r
theorem opsOK8_at {P : Program} {ops : Array Oper} {n : Fr} {L : List (Nat × Value)} {I2 : World → Prop} {R1 R2 : Nat → Value → World → Prop} {l0 : List Oper} {K mu : Nat} : ∀ {l : List Oper} {k : Nat}, OpsOK8 P ops n L I2 R1 R2 l0 K mu k l → ∀ (i : Nat) (o : Oper), l[i]? = some o → k + i ≠ mu →
    ∀ w', I2 w' → AllF R2 w' (slotsD l0 K (k + i) o) fun M => OpOK P ops n (M ++ L) o w' (R1 (o.dst.getD 0))
  | [], _, _, i, o, h, _ => by simp at h
  | x :: r, k, ⟨h1, h2⟩, 0, o, h, hne => by
    simp only [List.getElem?_cons_zero, Option.some.injEq] at h
    subst h
    rw [Nat.add_zero] at hne ⊢
    refine h1 ?_
    rw [← Bool.not_eq_true]
    intro hb
    exact hne (Nat.eq_of_beq_eq_true hb)
  | x :: r, k, ⟨h1, h2⟩, i + 1, o, h, hne => by
    have := opsOK8_at h2 i o (by simpa using h) (by omega)
    rwa [show k + 1 + i = k + (i + 1) by omega] at this
theorem opsOK8_at0 {P : Program} {ops : Array Oper} {n : Fr} {L : List (Nat × Value)} {I2 : World → Prop} {R1 R2 : Nat → Value → World → Prop} {l0 : List Oper} {K mu : Nat} {l : List Oper} (h : OpsOK8 P ops n L I2 R1 R2 l0 K mu 0 l) (i : Nat) (o : Oper) (ho : l[i]? = some o) (hne : i ≠ mu)
    (w' : World) (hw : I2 w') : AllF R2 w' (slotsD l0 K i o) fun M => OpOK P ops n (M ++ L) o w' (R1 (o.dst.getD 0)) := by
  have := opsOK8_at h i o ho (by rw [Nat.zero_add]; exact hne) w' hw
  rwa [Nat.zero_add] at this
/-- the change: it yields a value, in a world, so -/
def MuOK (P : Program) (ops : Array Oper) (n : Fr) (L : List (Nat × Value)) (o : Oper) (w : World) (post : Value → World → Prop) : Prop :=
  Region.wanted o (yielded ops (mkT n.n L)) = true ∧ ((∃ v w', (execOp (ev n L) o).run P w = .ok (.value v) w' ∧ post v w') ∨ (∃ f l, (execOp (ev n L) o).run P w = .ok (.enter f (List.toArray l)) w ∧ Rt P f l w post))
def MuAt (P : Program) (ops : Array Oper) (n : Fr) (L : List (Nat × Value)) (I1 I2 : World → Prop) (R1 R2 : Nat → Value → World → Prop) (l0 : List Oper) (K mu : Nat) : Option Oper → Prop
  | none => True
  | some o => ∀ w', I1 w' → AllF R1 w' (slotsD l0 K mu o) fun M => MuOK P ops n (M ++ L) o w' fun v w'' => I2 w'' ∧ R2 (o.dst.getD 0) v w'' ∧ ∀ t u, t ≠ o.dst.getD 0 → R1 t u w' → R2 t u w''
def isLateD (l : List Oper) (K j : Nat) : Bool := (List.range l.length).any fun i => decide (K ≤ i) && (match l[i]? with | some o => !dep2 l o j | none => false)
def lateD (l : List Oper) (K : Nat) : Bool :=
  (List.range K).all fun j => !isLateD l K j || match l[j]? with
    | none => false
    | some o => lateK o.op && o.guard.isNone && o.dst.isSome && (List.range l.length).all fun i => i == j || match l[i]? with
      | none => false
      | some y => (if i < K then !isLateD l K i else dep2 l y j) || o.apart l.toArray y
/-- the region's shape -/
def monoD (l : List Oper) (K : Nat) : Bool :=
  let ops := l.toArray
  let dst (i : Nat) : Option Nat := (l[i]?).bind (·.dst)
  (decide (K ≤ l.length) &&
  (List.range l.length).all fun i => match l[i]? with
    | none => false
    | some o =>
      (o.after.toList.all fun e => !Region.binds .any e || decide (e.on < i)) && !isSelect o.op &&
      (if i < K then
        (match o.dst with
         | none => false
         | some d => (List.range K).all (fun j => j == i || dst j != some d) && !((o.looksAt ops).elem d)) &&
        (List.range K).all (fun j => match dst j with
          | none => false
          | some d => !(o.looksAt ops).elem d || oldD l K i d || (decide (j < i) && dep2 l o j))
       else (List.range i).all (fun j => dep2 l o j || decide (j < K)))) && lateD l K

section late
variable {P : Program} {Q : Exit → Act → World → Prop} {n : Fr} {L : List (Nat × Value)} {w : World} {l : List Oper} {K : Nat} {R : Nat → Value → World → Prop}
theorem late_specD (hc : lateD l K = true) {j : Nat} {o : Oper} (hj : j < K) (ho : l[j]? = some o) (hl : isLateD l K j = true) :
    lateK o.op = true ∧ o.guard = none ∧ ∀ i y, l[i]? = some y → i ≠ j → ((i < K ∧ isLateD l K i = true) ∨ (K ≤ i ∧ dep2 l y j = false)) → o.apart l.toArray y = true := by
  have h := List.all_eq_true.1 hc j (List.mem_range.2 hj)
  rw [hl, ho] at h
  simp only [Bool.not_true, Bool.false_or, Bool.and_eq_true] at h
  refine ⟨h.1.1.1, by simpa using h.1.1.2, fun i y hi hne hcase => ?_⟩
  have h2 := List.all_eq_true.1 h.2 i (List.mem_range.2 (List.getElem?_eq_some_iff.1 hi).1)
  rw [hi] at h2
  simp only [beq_iff_eq, hne, Bool.or_eq_true, false_or] at h2
  rcases hcase with ⟨h3, h4⟩ | ⟨h3, h4⟩
  · simp [h3, h4] at h2
    exact h2
  · simp [show ¬ i < K by omega, h4] at h2
    exact h2
theorem nonlate_edgeD {i j : Nat} {o : Oper} (hl : isLateD l K j = false) (ho : l[i]? = some o) (hi : K ≤ i) : dep2 l o j = true := by
  unfold isLateD at hl
  have := List.any_eq_false.1 hl i (List.mem_range.2 (List.getElem?_eq_some_iff.1 ho).1)
  rw [ho] at this
  simpa [hi] using this
/-- behind the head: one order, but for the late ones -/
theorem tail_lateD (hQ : PQ Q) (hc : monoD l K = true) {f : Nat → Value} : ∀ (m k : Nat) (listed : Array Bool) (U : List Nat) (a : Act) (w' : World), ClosedD l listed → listed.toList.count false = m → listed.size = l.length → K ≤ k → k ≤ l.length →
    (∀ j, K ≤ j → j < l.length → listed.getD j true = decide (j < k)) → U.Nodup → (∀ j, j < K → (listed.getD j true = false ↔ j ∈ U)) → (∀ j ∈ U, j < K ∧ isLateD l K j = true ∧ ∃ o, l[j]? = some o ∧ Yields P l.toArray o (f j) a) →
    wpList P l.toArray Q (l.drop k) (pend l f U a) w' → wpAny P .any l.toArray Q m listed a w' := by
  have hc1 := (Bool.and_eq_true_iff.1 hc).1
  have hlate := (Bool.and_eq_true_iff.1 hc).2
  have hKl : K ≤ l.length := of_decide_eq_true (Bool.and_eq_true_iff.1 hc1).1
  have hck := (List.all_eq_true.1 (Bool.and_eq_true_iff.1 hc1).2)
  intro m
  induction m with
  | zero =>
    intro k listed U a w' hcl hcount hs hK hkl htail hn hU hUl h
    have hall : ∀ j, j < l.length → listed.getD j true = true := by
      intro j hj
      have hm : listed[j]'(by omega) ∈ listed.toList := by simp
      cases hb : listed[j]'(by omega) with
      | true => simp [Array.getD, show j < listed.size by omega, hb]
      | false =>
        rw [hb] at hm
        exact absurd hcount (Nat.pos_iff_ne_zero.1 (List.count_pos_iff.2 hm))
    have hU0 : U = [] := by
      rw [List.eq_nil_iff_forall_not_mem]
      intro j hj
      have h1 := (hU j (hUl j hj).1).2 hj
      rw [hall j (by have := (hUl j hj).1; omega)] at h1
      cases h1
    have hke : k = l.length := by
      rcases Nat.lt_or_ge k l.length with hlt | hge
      · have h1 := htail k hK hlt
        rw [hall k hlt] at h1
        simp at h1
      · omega
    subst hU0 hke
    refine ⟨?_, by simpa [pend, wpList] using h⟩
    rw [List.eq_nil_iff_forall_not_mem]
    intro j hj
    obtain ⟨h0, o, ho, _⟩ := mem_ready.1 hj
    rw [List.getElem?_toArray] at ho
    rw [hall j (List.getElem?_eq_some_iff.1 ho).1] at h0
    cases h0
  | succ m ih =>
    intro k listed U a w' hcl hcount hs hK hkl htail hn hU hUl h
    have hex : ∃ i, i < l.length ∧ listed.getD i true = false := by
      obtain ⟨i, hi, hb⟩ := List.mem_iff_getElem.1 (List.count_pos_iff.1 (by rw [hcount]; omega : 0 < listed.toList.count false))
      have hi' : i < listed.size := by simpa using hi
      exact ⟨i, by omega, by simpa [Array.getD, hi'] using hb⟩
    obtain ⟨i0, hi0, hmin⟩ := exists_least hex
    have hready : i0 ∈ Region.ready .any l.toArray listed := by
      refine mem_ready.2 ⟨hi0.2, l[i0]'hi0.1, by rw [List.getElem?_toArray, List.getElem?_eq_getElem hi0.1], fun e he hb => ?_⟩
      have hx := hck i0 (List.mem_range.2 hi0.1)
      rw [List.getElem?_eq_getElem hi0.1] at hx
      simp only [Bool.and_eq_true] at hx
      have he2 := List.all_eq_true.1 hx.1.1 e (by simpa using he)
      rw [hb] at he2
      simp at he2
      rw [← getD_true_false (by omega)]
      cases hb2 : listed.getD e.on true with
      | true => rfl
      | false => exact absurd (hmin e.on ⟨by omega, hb2⟩) (by omega)
    refine ⟨fun h0 => (by rw [h0] at hready; cases hready), fun i hi => ?_⟩
    obtain ⟨h0, o, ho, hall⟩ := mem_ready.1 hi
    rw [List.getElem?_toArray] at ho
    have hil : i < l.length := (List.getElem?_eq_some_iff.1 ho).1
    have hx := hck i (List.mem_range.2 hil)
    rw [ho] at hx
    simp only [Bool.and_eq_true] at hx
    have hsel : isSelect o.op = false := by simpa using hx.1.2
    have hcnt : (listed.setIfInBounds i true).toList.count false = m := by
      have hil' : i < listed.size := by omega
      have hfalse : listed.toList[i]? = some false := by
        rw [Array.getElem?_toList, Array.getElem?_eq_getElem hil']
        simp [Array.getD, hil'] at h0
        rw [h0]
      rw [Array.toList_setIfInBounds]
      have := count_set_true (l := listed.toList) (i := i) hfalse
      omega
    by_cases hiK : i < K
    · -- a late one
      have hiU := (hU i hiK).1 h0
      obtain ⟨_, hil8, o', ho', hy⟩ := hUl i hiU
      rw [ho] at ho'
      cases ho'
      obtain ⟨_, _, hap⟩ := late_specD hlate hiK ho hil8
      refine Yields.wpOp (by rw [List.getElem?_toArray]; exact ho) hy ?_
      have he : a.put o.dst (f i) = a.put ((l[i]?).bind (·.dst)) (f i) := by rw [ho]; rfl
      refine ih k _ (U.erase i) _ w' (closed_set hcl ho hall) hcnt (by simpa using hs) hK hkl (fun j h1 h2 => by rw [getD_set_ne true (by omega)]; exact htail j h1 h2) (hn.erase i) (fun j hj => ?_) (fun j hj => ?_) ?_
      · by_cases e : i = j
        · subst e
          simp [hs, hil, hn.not_mem_erase]
        · rw [getD_set_ne true e, hU j hj]
          exact (List.mem_erase_of_ne (Ne.symm e)).symm
      · have hjU := List.mem_of_mem_erase hj
        obtain ⟨h1, h2, oj, h3, h4⟩ := hUl j hjU
        have hne : i ≠ j := fun e => by subst e; exact (hn.not_mem_erase) hj
        obtain ⟨_, _, hapj⟩ := late_specD hlate h1 h3 h2
        have hxj := hck j (List.mem_range.2 (by omega))
        rw [h3] at hxj
        simp only [Bool.and_eq_true] at hxj
        exact ⟨h1, h2, oj, h3, (yields_put (by simpa using hxj.1.2) (hapj i o ho hne (.inl ⟨hiK, hil8⟩))).2 h4⟩
      · rw [he, pend_erase U a hiU hn (fun j hj hne d hd => ?_)]
        · exact h
        · obtain ⟨h1, h2, oj, h3, h4⟩ := hUl j hj
          have h5 := (Oper.apart_spec (hap j oj h3 hne (.inl ⟨h1, h2⟩))).2.1 d (by rw [ho] at hd; exact hd)
          rw [h3]
          exact h5
    · -- the next of the tail
      have hik : i = k := by
        rw [htail i (by omega) hil] at h0
        have h0' : k ≤ i := by simpa using h0
        rcases Nat.eq_or_lt_of_le h0' with e | hlt
        · exact e.symm
        · exfalso
          have h3 := hx.2
          rw [if_neg hiK] at h3
          have h4 := List.all_eq_true.1 h3 k (List.mem_range.2 hlt)
          simp only [show ¬ k < K by omega, decide_false, Bool.or_false] at h4
          have h5 := dep_listed hcl hall h4
          rw [← getD_true_false (by omega), htail k hK (by omega)] at h5
          simp at h5
      subst hik
      have hdrop : l.drop i = o :: l.drop (i + 1) := by
        rw [List.drop_eq_getElem_cons hil]
        rw [List.getElem?_eq_getElem hil] at ho
        cases ho
        rfl
      rw [hdrop] at h
      have hk2 : wpOp P l.toArray Q i (wpList P l.toArray Q (l.drop (i + 1))) (pend l f U a) w' := by
        unfold wpOp
        rw [List.getElem?_toArray, ho]
        exact h
      have hne : ∀ j ∈ U, j ≠ i := fun j hj e => by have := (hUl j hj).1; omega
      have hk3 := wpOp_pend hQ ho hsel U _ a hn (fun j hj => by
        obtain ⟨h1, h2, oj, h3, h4⟩ := hUl j hj
        obtain ⟨_, _, hapj⟩ := late_specD hlate h1 h3 h2
        have hxj := hck j (List.mem_range.2 (by omega))
        rw [h3] at hxj
        simp only [Bool.and_eq_true] at hxj
        refine ⟨oj, h3, by simpa using hxj.1.2, hapj i o ho (Ne.symm (hne j hj)) (.inr ⟨by omega, ?_⟩), h4, fun j' hj' hne' => ?_⟩
        · cases hE : dep2 l o j with
          | false => rfl
          | true =>
            have h5 := dep_listed hcl hall hE
            rw [← getD_true_false (by omega), (hU j h1).2 hj] at h5
            cases h5
        · obtain ⟨h1', h2', oj', h3', _⟩ := hUl j' hj'
          exact ⟨oj', h3', hapj j' oj' h3' hne' (.inl ⟨h1', h2'⟩)⟩) hk2
      refine wpOp_mono (fun a' w'' hh => ?_) hk3
      refine ih (i + 1) _ U a' w'' (closed_set hcl ho hall) hcnt (by simpa using hs) (by omega) (by omega) (fun j h1 h2 => ?_) hn (fun j hj => ?_) (fun j hj => ?_) hh.2
      · by_cases e : i = j
        · subst e
          simp [hs, hil]
        · rw [getD_set_ne true e, htail j h1 h2]
          have : (j < i + 1) ↔ (j < i) := by omega
          simp [this]
      · rw [getD_set_ne true (by omega)]
        exact hU j hj
      · obtain ⟨h1, h2, oj, h3, _⟩ := hUl j hj
        exact ⟨h1, h2, oj, h3, hh.1 j hj oj h3⟩
end late
section late
variable {P : Program} {Q : Exit → Act → World → Prop} {n : Fr} {L : List (Nat × Value)} {w : World} {l : List Oper} {K mu : Nat} {I1 I2 : World → Prop} {R1 R : Nat → Value → World → Prop}
theorem uniqD (hc : monoD l K = true) {j j' : Nat} {oj oj' : Oper} {t : Nat} (hj : j < K) (hj' : j' < K) (hoj : l[j]? = some oj) (hoj' : l[j']? = some oj') (hd : oj.dst = some t) (hd' : oj'.dst = some t) : j = j' := by
  have hc1 := (Bool.and_eq_true_iff.1 hc).1
  have hck := (List.all_eq_true.1 (Bool.and_eq_true_iff.1 hc1).2)
  have hx := hck j' (List.mem_range.2 (List.getElem?_eq_some_iff.1 hoj').1)
  rw [hoj'] at hx
  simp only [Bool.and_eq_true] at hx
  have h3 := hx.2
  rw [if_pos hj'] at h3
  simp only [Bool.and_eq_true] at h3
  have h3a := h3.1
  rw [hd'] at h3a
  simp only [Bool.and_eq_true] at h3a
  have h5 := List.all_eq_true.1 h3a.1 j (List.mem_range.2 hj)
  rw [hoj] at h5
  simpa [hd] using h5
theorem oldD_spec {i t : Nat} (h : oldD l K i t = true) : ∃ j oj, j < K ∧ l[j]? = some oj ∧ oj.dst = some t ∧ dep2 l oj i = true := by
  obtain ⟨j, hj, h2⟩ := List.any_eq_true.1 h
  cases hoj : l[j]? with
  | none => rw [hoj] at h2; cases h2
  | some oj =>
    rw [hoj] at h2
    simp only [Bool.and_eq_true, beq_iff_eq] at h2
    exact ⟨j, oj, List.mem_range.1 hj, hoj, h2.1, h2.2⟩
theorem slotsD_spec (hc : monoD l K = true) {i t : Nat} {o : Oper} (hi : i < K) (ho : l[i]? = some o) (ht : t ∈ slotsD l K i o) : (o.looksAt l.toArray).elem t = true ∧ ∃ j oj, j < K ∧ l[j]? = some oj ∧ oj.dst = some t ∧ j < i ∧ dep2 l o j = true := by
  obtain ⟨ht1, ht2⟩ := List.mem_filter.1 ht
  simp only [Bool.and_eq_true, Bool.not_eq_true'] at ht2
  obtain ⟨oj, hoj, hdj⟩ := List.mem_filterMap.1 ht1
  obtain ⟨j, hj⟩ := List.mem_iff_getElem?.1 hoj
  rw [List.getElem?_take] at hj
  split at hj
  · rename_i hjK
    refine ⟨ht2.1, j, oj, hjK, hj, hdj, ?_⟩
    have hc1 := (Bool.and_eq_true_iff.1 hc).1
    have hck := (List.all_eq_true.1 (Bool.and_eq_true_iff.1 hc1).2)
    have hx := hck i (List.mem_range.2 (List.getElem?_eq_some_iff.1 ho).1)
    rw [ho] at hx
    simp only [Bool.and_eq_true] at hx
    have h3 := hx.2
    rw [if_pos hi] at h3
    simp only [Bool.and_eq_true] at h3
    have h5 := List.all_eq_true.1 h3.2 j (List.mem_range.2 hjK)
    rw [hj] at h5
    have h6 : t ∈ o.looksAt l.toArray := by simpa using ht2.1
    simpa [hdj, h6, ht2.2] using h5
  · cases hj
theorem looksD (hc : monoD l K = true) {listed : Array Bool} (hcl : ClosedD l listed) (hs : listed.size = l.length) {i : Nat} {o : Oper} (_ho : l[i]? = some o) (hil : i < l.length) (h0 : listed.getD i true = false) {L' : List (Nat × Value)}
    (hfr : ∀ t, (∀ i o, i < K → l[i]? = some o → listed.getD i true = true → o.dst ≠ some t) → look L' t = look L t) : ∀ t, (o.looksAt l.toArray).elem t = true → look ((slotsD l K i o).map (fun d => (d, look L' d)) ++ L) t = look L' t := by
  intro t ht
  rw [look_map]
  split
  · rfl
  · rename_i hne
    refine (hfr t fun j oj hj hoj hlj hd => ?_).symm
    have hmem : t ∈ preOf l K := List.mem_filterMap.2 ⟨oj, List.mem_iff_getElem?.2 ⟨j, by rw [List.getElem?_take, if_pos hj]; exact hoj⟩, hd⟩
    cases hb : oldD l K i t with
    | false =>
      apply hne
      simp only [List.elem_eq_mem, decide_eq_true_eq]
      exact List.mem_filter.2 ⟨hmem, by rw [ht, hb]; rfl⟩
    | true =>
      obtain ⟨j', oj', hj', hoj', hd', hdep⟩ := oldD_spec hb
      have hjj := uniqD hc hj hj' hoj hoj' hd hd'
      subst hjj
      rw [hoj] at hoj'
      cases hoj'
      have hjl : j < l.length := (List.getElem?_eq_some_iff.1 hoj).1
      have h1 := dep_listed hcl (hcl j oj hoj (by rw [← getD_true_false (by omega)]; exact hlj)) hdep
      rw [← getD_true_false (by omega), h0] at h1
      cases h1
theorem late_fin8 (hQ : PQ Q) (hc : monoD l K = true) (hop : OpsOK8 P l.toArray n L I2 R1 R l K mu 0 (l.take K)) (h12 : ∀ t v w, R1 t v w → R t v w) (hmuL : mu < K → isLateD l K mu = false)
    (hend : ∀ w', I2 w' → AllF R w' (preOf l K) fun M => St P l.toArray Q (l.drop K) n (M ++ L) w') (m : Nat) (listed : Array Bool) (L' : List (Nat × Value)) (w' : World) (hcl : ClosedD l listed) (hcount : listed.toList.count false = m) (hs : listed.size = l.length)
    (htail : ∀ j, K ≤ j → j < l.length → listed.getD j true = false) (hF : I2 w')
    (hfr : ∀ t, (∀ i o, i < K → l[i]? = some o → listed.getD i true = true → o.dst ≠ some t) → look L' t = look L t)
    (hR : ∀ i o d, i < K → l[i]? = some o → listed.getD i true = true → o.dst = some d → R d (look L' d) w') (hpre : ∀ i, i < K → listed.getD i true = false → isLateD l K i = true) : wpAny P .any l.toArray Q m listed (mkA n L') w' := by
  have hc1 := (Bool.and_eq_true_iff.1 hc).1
  have hlate := (Bool.and_eq_true_iff.1 hc).2
  have hKl : K ≤ l.length := of_decide_eq_true (Bool.and_eq_true_iff.1 hc1).1
  have hck := (List.all_eq_true.1 (Bool.and_eq_true_iff.1 hc1).2)
  -- what is known of an operation of the head
  have hhead : ∀ i, i < K → ∃ o d, l[i]? = some o ∧ o.dst = some d ∧ isSelect o.op = false ∧ (∀ j oj, j < K → j ≠ i → l[j]? = some oj → oj.dst ≠ some d) := by
    intro i hi
    have hil : i < l.length := by omega
    have hx := hck i (List.mem_range.2 hil)
    rw [List.getElem?_eq_getElem hil] at hx
    simp only [Bool.and_eq_true] at hx
    have h3 := hx.2
    rw [if_pos hi] at h3
    simp only [Bool.and_eq_true] at h3
    obtain ⟨h3a, h3b⟩ := h3
    cases hod : (l[i]).dst with
    | none => rw [hod] at h3a; cases h3a
    | some d =>
      rw [hod] at h3a
      simp only [Bool.and_eq_true] at h3a
      refine ⟨l[i], d, List.getElem?_eq_getElem hil, hod, by simpa using hx.1.2, fun j oj hj hne hoj e => ?_⟩
      have h5 := List.all_eq_true.1 h3a.1 j (List.mem_range.2 hj)
      rw [hoj] at h5
      simp [hne, e] at h5
  -- the values of those that are still to come
  have hval : ∀ i, i < K → listed.getD i true = false → ∃ v, ∀ o d, l[i]? = some o → o.dst = some d → Yields P l.toArray o v (mkA n L') ∧ R d v w' := by
    intro i hi hf
    have hil8 := hpre i hi hf
    obtain ⟨o, d, ho, hd, hsel, _⟩ := hhead i hi
    obtain ⟨hk, hg, hap⟩ := late_specD hlate hi ho hil8
    have hfact : ∀ t ∈ slotsD l K i o, R t (look L' t) w' := by
      intro t ht
      obtain ⟨ht2, j, oj, hjK, hj, hdj, hji, _⟩ := slotsD_spec hc hi ho ht
      refine hR j oj t hjK hj ?_ hdj
      cases hb : listed.getD j true with
      | true => rfl
      | false =>
        have h6 := hpre j hjK hb
        have h7 := (Oper.apart_spec (hap j oj hj (by omega) (.inl ⟨hjK, h6⟩))).2.2 t hdj
        exact absurd (by simpa using ht2) h7
    have hlooks := looksD (L := L) hc hcl hs ho (by omega) hf hfr
    have hok := allF_at (look L') _ hfact (opsOK8_at0 hop i o (by rw [List.getElem?_take, if_pos hi]; exact ho) (by intro e; rw [e, hmuL (by omega)] at hil8; cases hil8) w' hF)
    obtain ⟨hE, hW⟩ := looksAt_agree (n := n) (ops := l.toArray) (o := o) hsel hlooks
    rw [hd] at hok
    simp only [Option.getD_some] at hok
    have hyl : ∃ v, Yields P l.toArray o v (mkA n L') ∧ R d v w' := by
      unfold OpOK at hok
      rw [hE, hW] at hok
      rcases hok with ⟨hw, ⟨v, w'', hr, hF', hRv⟩ | ⟨f, args, hr, hcall⟩⟩ | ⟨hw, hRv⟩
      · obtain ⟨rfl, hall⟩ := late_run hk hr
        refine ⟨v, .inl ⟨hw, fun w2 => ?_⟩, h12 _ _ _ hRv⟩
        rw [eval_mkA]
        exact hall w2
      · exfalso
        obtain ⟨dst, op, ty, pos, after, guard⟩ := o
        cases op <;> simp only [lateK, Bool.false_eq_true] at hk <;> simp only [execOp, Sem.run_pure, Sem.run_bind, Result.ok.injEq] at hr
        · cases hr.1
        · cases hr.1
        · rename_i x i'
          cases hx : ev n L' x <;> simp only [hx, Instr.extract] at hr <;> (try (simp at hr; done))
          rename_i vs
          cases hv : vs[i']? <;> simp [hv] at hr
      · exact ⟨undef, .inr ⟨hw, rfl⟩, h12 _ _ _ hRv⟩
    obtain ⟨v, hv1, hv2⟩ := hyl
    refine ⟨v, fun o' d' ho' hd' => ?_⟩
    rw [ho] at ho'
    cases ho'
    rw [hd] at hd'
    cases hd'
    exact ⟨hv1, hv2⟩
  obtain ⟨f, hf⟩ : ∃ f : Nat → Value, ∀ i, i < K → listed.getD i true = false → ∀ o d, l[i]? = some o → o.dst = some d → Yields P l.toArray o (f i) (mkA n L') ∧ R d (f i) w' := by
    refine ⟨fun i => open Classical in if h : ∃ v, ∀ o d, l[i]? = some o → o.dst = some d → Yields P l.toArray o v (mkA n L') ∧ R d v w' then h.choose else undef, fun i hi hl => ?_⟩
    have h := hval i hi hl
    simp only [dif_pos h]
    exact h.choose_spec
  have hUm : ∀ i, i ∈ (List.range K).filter (fun i => !listed.getD i true) ↔ i < K ∧ listed.getD i true = false := fun i => by
    rw [List.mem_filter, List.mem_range]
    simp
  obtain ⟨U, hU, hUn⟩ : ∃ U : List Nat, (∀ i, i ∈ U ↔ i < K ∧ listed.getD i true = false) ∧ U.Nodup := ⟨_, hUm, List.nodup_range.sublist (List.filter_sublist ..)⟩
  have hbind : ∀ {i : Nat} {o : Oper}, l[i]? = some o → (l[i]?).bind (·.dst) = o.dst := fun h => by rw [h]; rfl
  -- the frame with all of them
  have hRall : ∀ d ∈ preOf l K, R d (look ((U.filterMap fun i => ((l[i]?).bind (·.dst)).map fun d => (d, f i)) ++ L') d) w' := by
    intro d hd
    obtain ⟨o, ho, hod⟩ := List.mem_filterMap.1 hd
    obtain ⟨i, hi⟩ := List.mem_iff_getElem?.1 ho
    rw [List.getElem?_take] at hi
    split at hi
    · rename_i hiK
      obtain ⟨o', d', ho', hd', _, hdist⟩ := hhead i hiK
      rw [hi] at ho'
      cases ho'
      rw [hod] at hd'
      cases hd'
      have hne : ∀ j ∈ U, j ≠ i → (l[j]?).bind (·.dst) ≠ some d := fun j hj hji => by
        have hjK := ((hU j).1 hj).1
        obtain ⟨oj, dj, hoj, _⟩ := hhead j hjK
        rw [hbind hoj]
        exact hdist j oj hjK hji hoj
      cases hb : listed.getD i true with
      | true =>
        rw [look_pend U fun j hj => hne j hj (fun e => by subst e; have := ((hU j).1 hj).2; rw [hb] at this; cases this)]
        exact hR i o d hiK hi hb hod
      | false =>
        rw [look_pend_at U ((hU i).2 ⟨hiK, hb⟩) ((hbind hi).trans hod) hne]
        exact (hf i hiK hb o d hi hod).2
    · cases hi
  have he := allF_at _ (preOf l K) hRall (hend w' hF)
  have hL : mkA n ((preOf l K).map (fun d => (d, look ((U.filterMap fun i => ((l[i]?).bind (·.dst)).map fun d => (d, f i)) ++ L') d)) ++ L) = pend l f U (mkA n L') := by
    rw [pend_mkA]
    refine mkA_congr fun t _ => ?_
    rw [look_map]
    split
    · rfl
    · rename_i hne
      have hnd : ∀ i, i < K → ∀ o, l[i]? = some o → o.dst ≠ some t := fun i hi o ho hod => hne (by
        simp only [List.elem_eq_mem, decide_eq_true_eq]
        exact List.mem_filterMap.2 ⟨o, List.mem_iff_getElem?.2 ⟨i, by rw [List.getElem?_take, if_pos hi]; exact ho⟩, hod⟩)
      rw [look_pend U fun j hj => by
        have hjK := ((hU j).1 hj).1
        obtain ⟨oj, dj, hoj, _⟩ := hhead j hjK
        rw [hbind hoj]
        exact hnd j hjK oj hoj]
      exact (hfr t fun i o hi ho _ hod => hnd i hi o ho hod).symm
  replace he := he.out
  rw [hL] at he
  refine tail_lateD hQ hc m K listed U _ w' hcl hcount hs (Nat.le_refl _) hKl (fun j h1 h2 => by rw [htail j h1 h2]; simp [h1]) hUn (fun j hj => ⟨fun h => (hU j).2 ⟨hj, h⟩, fun h => ((hU j).1 h).2⟩) (fun j hj => ?_) he
  obtain ⟨h1, h2⟩ := (hU j).1 hj
  obtain ⟨oj, dj, hoj, hdj, _⟩ := hhead j h1
  exact ⟨h1, hpre j h1 h2, oj, hoj, (hf j h1 h2 oj dj hoj hdj).1⟩
theorem mono_mu (hQ : PQ Q) (hc : monoD l K = true) (hm1 : ∀ w1 w2, From w1 w2 → I1 w1 → I1 w2) (hm2 : ∀ w1 w2, From w1 w2 → I2 w1 → I2 w2) (hmono1 : ∀ t v w1 w2, From w1 w2 → R1 t v w1 → R1 t v w2) (hmono : ∀ t v w1 w2, From w1 w2 → R t v w1 → R t v w2)
    (hop : OpsOK8 P l.toArray n L I2 R1 R l K mu 0 (l.take K)) (h12 : ∀ t v w, R1 t v w → R t v w) (hmuL : mu < K → isLateD l K mu = false) (hmu : MuAt P l.toArray n L I1 I2 R1 R l K mu l[mu]?)
    (hend : ∀ w', I2 w' → AllF R w' (preOf l K) fun M => St P l.toArray Q (l.drop K) n (M ++ L) w') :
    ∀ (m : Nat) (listed : Array Bool) (L' : List (Nat × Value)) (w' : World), ClosedD l listed → listed.toList.count false = m → listed.size = l.length → (∀ j, K ≤ j → j < l.length → listed.getD j true = false) → I2 w' → (listed.getD mu true = false → I1 w') →
      (∀ t, (∀ i o, i < K → l[i]? = some o → listed.getD i true = true → o.dst ≠ some t) → look L' t = look L t) →
      (∀ i o d, i < K → l[i]? = some o → listed.getD i true = true → o.dst = some d → R d (look L' d) w') → (listed.getD mu true = false → ∀ i o d, i < K → l[i]? = some o → listed.getD i true = true → o.dst = some d → R1 d (look L' d) w') → wpAny P .any l.toArray Q m listed (mkA n L') w' := by
  have hc1 := (Bool.and_eq_true_iff.1 hc).1
  have hlate := (Bool.and_eq_true_iff.1 hc).2
  have hKl : K ≤ l.length := of_decide_eq_true (Bool.and_eq_true_iff.1 hc1).1
  have hck := (List.all_eq_true.1 (Bool.and_eq_true_iff.1 hc1).2)
  intro m
  induction m with
  | zero =>
    intro listed L' w' hcl hcount hs htail hF hF1 hfr hR hR1
    exact late_fin8 hQ hc hop h12 hmuL hend 0 listed L' w' hcl hcount hs htail hF hfr hR (fun i hi h => by
      have hm : listed[i]'(by omega) ∈ listed.toList := by simp
      have hb : listed[i]'(by omega) = false := by simpa [Array.getD, show i < listed.size by omega] using h
      rw [hb] at hm
      exact absurd hcount (Nat.pos_iff_ne_zero.1 (List.count_pos_iff.2 hm)))
  | succ m ih =>
    intro listed L' w' hcl hcount hs htail hF hF1 hfr hR hR1
    by_cases hpre : ∀ i, i < K → listed.getD i true = false → isLateD l K i = true
    · exact late_fin8 hQ hc hop h12 hmuL hend (m + 1) listed L' w' hcl hcount hs htail hF hfr hR hpre
    · -- some operation of the head is still to come
      have hn0 : ∃ i, i < K ∧ listed.getD i true = false ∧ isLateD l K i = false := by
        refine Classical.byContradiction fun hno => hpre fun i hi hf => ?_
        cases hb : isLateD l K i with
        | true => rfl
        | false => exact absurd ⟨i, hi, hf, hb⟩ hno
      obtain ⟨n0, hn0⟩ := hn0
      obtain ⟨i0, hi0, hmin⟩ := exists_least (p := fun i => i < K ∧ listed.getD i true = false) ⟨n0, hn0.1, hn0.2.1⟩
      have hi0l : i0 < l.length := by omega
      have hready : i0 ∈ Region.ready .any l.toArray listed := by
        refine mem_ready.2 ⟨hi0.2, l[i0], by rw [List.getElem?_toArray, List.getElem?_eq_getElem hi0l], fun e he hb => ?_⟩
        have hx := hck i0 (List.mem_range.2 hi0l)
        rw [List.getElem?_eq_getElem hi0l] at hx
        simp only [Bool.and_eq_true] at hx
        have he2 := List.all_eq_true.1 hx.1.1 e (by simpa using he)
        rw [hb] at he2
        simp at he2
        rw [← getD_true_false (by omega)]
        cases hb2 : listed.getD e.on true with
        | true => rfl
        | false => exact absurd (hmin e.on ⟨by omega, hb2⟩) (by omega)
      refine ⟨fun h0 => (by rw [h0] at hready; cases hready), fun i hi => ?_⟩
      obtain ⟨h0, o, ho, hall⟩ := mem_ready.1 hi
      rw [List.getElem?_toArray] at ho
      have hil : i < l.length := (List.getElem?_eq_some_iff.1 ho).1
      have hx := hck i (List.mem_range.2 hil)
      rw [ho] at hx
      simp only [Bool.and_eq_true] at hx
      have hiK : i < K := by
        rcases Nat.lt_or_ge i K with h | h
        · exact h
        · exfalso
          have h5 := dep_listed hcl hall (nonlate_edgeD hn0.2.2 ho h)
          rw [← getD_true_false (by omega), hn0.2.1] at h5
          cases h5
      have h3 := hx.2
      rw [if_pos hiK] at h3
      simp only [Bool.and_eq_true] at h3
      obtain ⟨h3a, h3b⟩ := h3
      cases hod : o.dst with
      | none => rw [hod] at h3a; cases h3a
      | some d =>
        rw [hod] at h3a
        simp only [Bool.and_eq_true] at h3a
        have hlooks := looksD (L := L) hc hcl hs ho hil h0 hfr
        have hfactG : ∀ (RR : Nat → Value → World → Prop), (∀ i o d, i < K → l[i]? = some o → listed.getD i true = true → o.dst = some d → RR d (look L' d) w') → ∀ t ∈ slotsD l K i o, RR t (look L' t) w' := by
          intro RR hRR t ht
          obtain ⟨_, j, oj, hjK, hj, hd, _, hdep⟩ := slotsD_spec hc hiK ho ht
          have h6 := dep_listed hcl hall hdep
          exact hRR j oj t hjK hj (by rw [getD_true_false (by omega)]; exact h6) hd
        have hsel : isSelect o.op = false := by simpa using hx.1.2
        obtain ⟨hE, hW⟩ := looksAt_agree (n := n) (ops := l.toArray) (o := o) hsel hlooks
        have next : ∀ v w'', I2 w'' → (i ≠ mu → listed.getD mu true = false → I1 w'') → R d v w'' → (i ≠ mu → R1 d v w'') → (∀ t u, t ≠ d → R t u w' → (i = mu → R1 t u w') → R t u w'') → (i ≠ mu → ∀ t u, R1 t u w' → R1 t u w'') → wpAny P .any l.toArray Q m (listed.setIfInBounds i true) ((mkA n L').put (some d) v) w'' := by
          intro v w'' hI2' hI1' hRv hR1v hst hst1
          rw [put_mkA]
          have hne : ∀ j oj d', j < K → l[j]? = some oj → j ≠ i → oj.dst = some d' → d' ≠ d := by
            intro j oj d' hj hoj hji hd e
            have h5 := List.all_eq_true.1 h3a.1 j (List.mem_range.2 hj)
            rw [hoj] at h5
            simp [hji, hd, e] at h5
          refine ih _ _ w'' (closed_set hcl ho hall) ?_ (by simpa using hs) (fun j hj1 hj2 => ?_) hI2' (fun hml => ?_) (fun t ht => ?_) (fun j oj d' hj hoj hlj hd => ?_) (fun hml j oj d' hj hoj hlj hd => ?_)
          · have hil' : i < listed.size := by omega
            have hfalse : listed.toList[i]? = some false := by
              rw [Array.getElem?_toList, Array.getElem?_eq_getElem hil']
              simp [Array.getD, hil'] at h0
              rw [h0]
            rw [Array.toList_setIfInBounds]
            have := count_set_true (l := listed.toList) (i := i) hfalse
            omega
          · rw [getD_set_ne true (by omega)]
            exact htail j hj1 hj2
          · have him : i ≠ mu := fun e => by subst e; simp [show i < listed.size by omega] at hml
            rw [getD_set_ne true him] at hml
            exact hI1' him hml
          · have htd : t ≠ d := fun e => ht i o hiK ho (by simp [show i < listed.size by omega]) (by rw [hod, e])
            rw [look_cons, if_neg htd]
            refine hfr t fun j oj hj hoj hlj => ht j oj hj hoj ?_
            by_cases e : i = j
            · subst e; rw [h0] at hlj; cases hlj
            · rw [getD_set_ne true e]; exact hlj
          · rw [look_cons]
            by_cases e : j = i
            · subst e
              rw [ho] at hoj
              cases hoj
              rw [hod] at hd
              cases hd
              rw [if_pos rfl]
              exact hRv
            · have hdd := hne j oj d' hj hoj e hd
              rw [if_neg hdd]
              rw [getD_set_ne true (Ne.symm e)] at hlj
              refine hst _ _ hdd (hR j oj d' hj hoj hlj hd) (fun e2 => ?_)
              subst e2
              exact hR1 h0 j oj d' hj hoj hlj hd
          · have him : i ≠ mu := fun e => by subst e; simp [show i < listed.size by omega] at hml
            rw [getD_set_ne true him] at hml
            rw [look_cons]
            by_cases e : j = i
            · subst e
              rw [ho] at hoj
              cases hoj
              rw [hod] at hd
              cases hd
              rw [if_pos rfl]
              exact hR1v him
            · rw [if_neg (hne j oj d' hj hoj e hd)]
              rw [getD_set_ne true (Ne.symm e)] at hlj
              exact hst1 him _ _ (hR1 hml j oj d' hj hoj hlj hd)
        unfold wpOp
        rw [List.getElem?_toArray, ho]
        show if Region.wanted o (yielded l.toArray (mkT n.n L')) = true then _ else _
        by_cases him : i = mu
        · subst him
          rw [ho] at hmu
          have hok := allF_at (look L') _ (hfactG R1 (hR1 h0)) (hmu w' (hF1 h0))
          rw [hod] at hok
          simp only [Option.getD_some] at hok
          unfold MuOK at hok
          rw [hE, hW] at hok
          obtain ⟨hw, ⟨v, w'', hr, hI, hRv, hst⟩ | ⟨f, args, hr, hcall⟩⟩ := hok
          · rw [if_pos hw]
            refine .inl ?_
            unfold Oper.wp
            rw [eval_mkA, hr, Oper.upon_value, hod]
            exact next v w'' hI (fun h => absurd rfl h) hRv (fun h => absurd rfl h) (fun t u ht _ h1 => hst t u ht (h1 rfl)) (fun h => absurd rfl h)
          · rw [if_pos hw]
            refine .inl ?_
            unfold Oper.wp
            rw [eval_mkA, hr, Oper.upon_enter, hod]
            refine Calls.mono hcall fun e w'' ⟨v, he, hI, hRv, hst⟩ => ?_
            subst he
            exact next v w'' hI (fun h => absurd rfl h) hRv (fun h => absurd rfl h) (fun t u ht _ h1 => hst t u ht (h1 rfl)) (fun h => absurd rfl h)
        · have hok := allF_at (look L') _ (hfactG R hR) (opsOK8_at0 hop i o (by rw [List.getElem?_take, if_pos hiK]; exact ho) him w' hF)
          rw [hod] at hok
          simp only [Option.getD_some] at hok
          unfold OpOK at hok
          rw [hE, hW] at hok
          have next' : ∀ v w'', From w' w'' → R1 d v w'' → wpAny P .any l.toArray Q m (listed.setIfInBounds i true) ((mkA n L').put (some d) v) w'' := fun v w'' hF' hRv =>
            next v w'' (hm2 _ _ hF' hF) (fun _ h => hm1 _ _ hF' (hF1 h)) (h12 _ _ _ hRv) (fun _ => hRv) (fun t u _ h _ => hmono _ _ _ _ hF' h) (fun _ t u h => hmono1 _ _ _ _ hF' h)
          rcases hok with ⟨hw, ⟨v, w'', hr, hF', hRv⟩ | ⟨f, args, hr, hcall⟩⟩ | ⟨hw, hRv⟩
          · rw [if_pos hw]
            refine .inl ?_
            unfold Oper.wp
            rw [eval_mkA, hr, Oper.upon_value, hod]
            exact next' v w'' hF' hRv
          · rw [if_pos hw]
            refine .inl ?_
            unfold Oper.wp
            rw [eval_mkA, hr, Oper.upon_enter, hod]
            refine Calls.mono hcall fun e w'' ⟨v, he, hF', hRv⟩ => ?_
            subst he
            exact next' v w'' hF' hRv
          · rw [if_neg (by rw [hw]; simp), hod]
            exact next' undef w' From.rfl_ hRv

/-- a region that draws its order, with one change -/
theorem cd_mu {id : Nat} (K mu : Nat) (Ex : List Nat) (RL : List (Nat × (Value → World → Prop))) (I1 I2 : World → Prop) (hQ : PQ Q) (hm : P.follows .mixedOrders = true) (hc : monoD l K = true) (hl : isLateD l K mu = false) (hmono : MonoR RL)
    (h0 : I1 { w with drawn := w.drawn + 1 }) (h0' : I2 { w with drawn := w.drawn + 1 }) (hm1 : ∀ w1 w2, From w1 w2 → I1 w1 → I1 w2) (hm2 : ∀ w1 w2, From w1 w2 → I2 w1 → I2 w2)
    (hop : OpsOK8 P l.toArray n L I2 (lookR RL) (lookE Ex RL) l K mu 0 (l.take K)) (hmu : MuAt P l.toArray n L I1 I2 (lookR RL) (lookE Ex RL) l K mu l[mu]?)
    (hend : ∀ w', I2 w' → AllF (lookE Ex RL) w' (preOf l K) fun M => St P l.toArray Q (l.drop K) n (M ++ L) w') : Cd P (.region id l.toArray true) Q n L w := by
  refine ⟨wp_region_any hm ?_⟩
  have hKl : K ≤ l.length := of_decide_eq_true (Bool.and_eq_true_iff.1 (Bool.and_eq_true_iff.1 hc).1).1
  have := mono_mu (Q := Q) hQ hc hm1 hm2 (lookR_mono hmono) (lookE_mono hmono) hop lookE_of (fun _ => hl) hmu hend l.length (Array.replicate l.length false) L { w with drawn := w.drawn + 1 } (closed_none l _) (by simp) (by simp)
    (fun j _ hj => by simp [Array.getD, hj]) h0' (fun _ => h0) (fun _ _ => rfl) (fun i o d hi _ hl => by
      have : i < l.length := by omega
      simp [Array.getD, this] at hl) (fun _ i o d hi _ hl => by
      have : i < l.length := by omega
      simp [Array.getD, this] at hl)
  simpa using this
/-- a region that draws its order, with late operations; what waits for one that waits for another waits for that other -/
theorem cd_drawnD {id : Nat} (K : Nat) (RL : List (Nat × (Value → World → Prop))) (hQ : PQ Q) (hm : P.follows .mixedOrders = true) (hc : monoD l K = true) (hmono : MonoR RL)
    (hop : OpsOK8 P l.toArray n L (From w) (lookR RL) (lookR RL) l K l.length 0 (l.take K)) (hend : ∀ w', From w w' → AllF (lookR RL) w' (preOf l K) fun M => St P l.toArray Q (l.drop K) n (M ++ L) w') : Cd P (.region id l.toArray true) Q n L w := by
  refine ⟨wp_region_any hm ?_⟩
  have hKl : K ≤ l.length := of_decide_eq_true (Bool.and_eq_true_iff.1 (Bool.and_eq_true_iff.1 hc).1).1
  have := mono_mu (Q := Q) (mu := l.length) (I1 := From w) (I2 := From w) (R1 := lookR RL) hQ hc (fun _ _ hF h => h.next hF) (fun _ _ hF h => h.next hF) (lookR_mono hmono) (lookR_mono hmono) hop (fun _ _ _ h => h) (fun h => absurd h (by omega)) (by simp [MuAt]) hend l.length (Array.replicate l.length false) L { w with drawn := w.drawn + 1 } (closed_none l _) (by simp) (by simp)
    (fun j _ hj => by simp [Array.getD, hj]) From.rfl_.d1 (fun _ => From.rfl_.d1) (fun _ _ => rfl) (fun i o d hi _ hl => by
      have : i < l.length := by omega
      simp [Array.getD, this] at hl) (fun _ i o d hi _ hl => by
      have : i < l.length := by omega
      simp [Array.getD, this] at hl)
  simpa using this
end late
section
variable {P : Program} {ρ : Operand → Value} {w : World} {t yt : TypeId} {x y : Operand}
end
end Go.Proofs.Ytllpcjdljgmilaa
namespace Go.Proofs.Ytllpcjdljgmilaa
open Go.RowKit
section
variable {P : Program} {ops : Array Oper} {n : Fr} {L : List (Nat × Value)} {w : World} {ty : TypeId} {pos : String} {after : Array Edge} {dst : Option Nat} {t : TypeId} {x s : Operand}
end
theorem own_at {w : World} {bs e s n c m : Nat} {A : Option Addr} {l : List Value} (h : w.ownsRow bs e s (.slice A n c) m l) : ∀ k, A.map (·.block) = some k → bs ≤ k ∧ k < w.heap.size := fun k hk => h.lt k (by rw [← hk]; cases A <;> rfl)
end Go.Proofs.Ytllpcjdljgmilaa

namespace Go.Proofs.Ytllpcjdljgmilaa
open Go.RowKit
section
variable {P : Program} {ops : Array Oper} {Q : Exit → Act → World → Prop} {rest : List Oper} {n : Fr} {L : List (Nat × Value)} {w : World} {ty : TypeId} {pos : String} {after : Array Edge} {d : Nat} {x : Operand}
theorem exec_callF {ρ : Operand → Value} {f : FuncId} {l : List Operand} {caps : List Value} {ats : Array TypeId} {g : Option (Nat × Bool)} {dst : Option Tmp} (hx : ρ x = .func (.func f) #[] caps.toArray) :
    execOp ρ ⟨dst, .call { callee := .value x, args := l.toArray, argTypes := ats }, ty, pos, after, g⟩ = callFunc f (l.map ρ ++ caps).toArray := by
  have : execOp ρ ⟨dst, .call { callee := .value x, args := l.toArray, argTypes := ats }, ty, pos, after, g⟩ = (do let d ← Deferred.ofValue (ρ x) (l.toArray.map ρ); invoke d.target d.args) := rfl
  rw [this, hx]
  show callFunc f (#[] ++ l.toArray.map ρ ++ caps.toArray) = _
  simp
theorem ok_callF {f : FuncId} {l : List Operand} {caps : List Value} {ats : Array TypeId} {R : Value → World → Prop} {dst : Option Nat} (hx : ev n L x = .func (.func f) #[] caps.toArray) (hf : callable P f = true) (hc : Rt P f (l.map (ev n L) ++ caps) w fun v w' => From w w' ∧ R v w') :
    OpOK P ops n L ⟨dst, .call { callee := .value x, args := l.toArray, argTypes := ats }, ty, pos, after, none⟩ w R :=
  .inl ⟨rfl, .inr ⟨f, l.map (ev n L) ++ caps, by rw [exec_callF hx, run_call hf], hc⟩⟩
end
end Go.Proofs.Ytllpcjdljgmilaa

namespace Go.Proofs.Ytllpcjdljgmilaa
open Go.ChangeShapes Go.WideShapes Go.ChangeAt Go.RowKit

theorem Try.own : ownKnob Try.prog.godebug = none := by kernel_rfl
theorem Try.laidOut : laidOutB Try.prog = true := by kernel_rfl

section
variable {H : Type} {enc : TypeId × Value → H} {P : Program}
theorem post_of_below {f : Func} {s : ChangeSpec} {apart fresh handsOn again : Bool} {W W' : World} {args : Array Value} {v : Value} {ds gs : List (DataW H)} {before pa pv : List MemPlace}
    (hW : DataW.Whole enc P f.params.toList s.vars apart W args.toList ds gs before)
    (hres : ∀ (b : Nat) (sp : Nat → Bool) (hd : Bool), DataW.TrodAll enc P W' b sp hd f.resultTypes.toList (v.resultList f.resultTypes.size) (s.fn H (ds ++ gs)).results [])
    (hargs : ∀ sp : Nat → Bool, (∀ p ∈ before, sp p.block = true) → DataW.TrodAll enc P W' 0 sp true f.params.toList args.toList (s.fn H (ds ++ gs)).args pa)
    (hvars : ∀ sp : Nat → Bool, (∀ p ∈ before, sp p.block = true) → DataW.TrodVars enc P W' sp s.vars (s.fn H (ds ++ gs)).vars pv)
    (hps : before = pa ++ pv) (hb : Below W.heap.size W W')
    (hok : ∀ (j : Nat) (t : TypeId) (r : Value), f.resultTypes[j]? = some t → (v.resultList f.resultTypes.size)[j]? = some r → Value.okWide P W' .any 0 t r) :
    s.post enc P f apart fresh handsOn again W args v W' := by
  have hlt : ∀ p ∈ before, p.block < W.heap.size := fun p hp => hW.lt p hp
  have hold : ∀ p ∈ before, (fun b => decide (b < W.heap.size)) p.block = true := fun p hp => by simpa using hlt p hp
  refine ⟨ds, gs, before, [], pa, pv, hW, hres _ _ _, hargs _ hold, hvars _ hold, World.keptBut_mono (fun p hp => ⟨hp, ?_⟩) (hb.frame (· ∈ before)), fun _ => ?_⟩
  · rw [hps, List.mem_append] at hp
    exact Or.inr hp
  · obtain ⟨_, _, _, _, _, hz, hn⟩ := hW
    refine ⟨hok, _, _, ([] ++ pa) ++ pv, ⟨[] ++ pa, pv, trodAll_append (hargs _ (fun _ _ => rfl)) (hres _ _ _), hvars _ (fun _ _ => rfl), rfl, ?_, ?_⟩, ?_⟩
    · intro b off hp
      have hin : MemPlace.cell b off ∈ before := by rw [hps]; simpa using hp
      rw [hb.frozen (hlt _ hin)]
      exact hz b off hin
    · intro ha
      have := hn ha
      rw [hps] at this
      simpa using this
    · intro p hp _
      rw [hps]
      simpa using hp
end

/-- THE STEP of a law with one argument. -/
theorem law_step {H : Type} {enc : TypeId × Value → H} (F : FuncId) (f : Func) (T Tb : TypeId) (s : ChangeSpec) (hp : f.params = #[T]) (hr : f.resultTypes = #[Tb]) (hTb : Try.prog.underlying Tb = some .bool)
    (hvars : s.vars = []) (hfn : ∀ d : DataW H, s.fn H [d] = { results := [.lit (.bool true)], args := [d] }) (hrec : Try.prog.readableRec T = true) (hrow : T < Try.prog.types.size)
    (walk : ∀ (W : World) (base : Nat) (v : Value) (d : DataW H) (p : List MemPlace), Value.okWide Try.prog W .any base T v → DataW.Trod enc Try.prog W 0 (fun _ => true) true T v d p → (∀ n ∈ d.weights Try.prog T, n ≤ 140737488351232) →
      Calls Try.prog F #[v] W fun e W' => e = .returned (.bool true) ∧ From W W')
    (W : World) (base : Nat) (args : Array Value) (ds gs : List (DataW H)) (before : List MemPlace)
    (hval0 : ∀ (j : Nat) t v, f.params[j]? = some t → args[j]? = some v → Value.okWide Try.prog W .any base t v)
    (hW : DataW.Whole enc Try.prog f.params.toList s.vars false W args.toList ds gs before)
    (hsz : (DataW.weightsEach Try.prog (f.params.toList ++ s.plain.varTypes Try.prog) (ds ++ gs)).all (· ≤ reachBytes) = true) :
    Calls Try.prog F args W fun e W' => ∃ v, e = .returned v ∧ s.post enc Try.prog f false true false false W args v W' := by
  have hlt : ∀ x ∈ before, x.block < W.heap.size := fun x hx => hW.lt x hx
  have hW' := hW
  obtain ⟨p, q, hA, hV, rfl, hfz, hnd⟩ := hW
  rw [hp] at hA hval0 hsz
  rw [hvars] at hV
  obtain ⟨v0, d0, rfl, rfl, h0⟩ := trodAll_one hA
  obtain ⟨rfl, rfl⟩ := trodVars_none hV
  simp only [List.append_nil] at hW' hlt
  refine (walk W base v0 d0 p (hval0 0 T v0 rfl rfl) h0 (fun n hn => Nat.le_trans (by simpa using List.all_eq_true.1 hsz n (DataW.weights_mem_each (j := 0) (t := T) (d := d0) rfl rfl n hn)) (show reachBytes ≤ 140737488351232 by decide))).mono fun e W' ⟨he, hb⟩ => ?_
  subst he
  refine ⟨_, rfl, post_of_below (pa := p) (pv := []) hW' ?_ ?_ ?_ (by simp) hb ?_⟩
  · intro b sp hd
    rw [List.append_nil, hfn, hr]
    exact trodAll_mk1 (shut_bool hTb _)
  · intro sp hsp
    rw [List.append_nil, hfn, hp]
    exact trodAll_mk1 (WideElems.Trod_stays Try.laidOut hrec hrow h0 (fun x hx => hb.same (hlt x hx)) hsp)
  · intro sp hsp
    rw [List.append_nil, hfn, hvars]
    simp [DataW.TrodVars]
  · exact ok_one hr rfl (okWide_bool_mk hTb _)

end Go.Proofs.Ytllpcjdljgmilaa

namespace Go.Proofs.Ytllpcjdljgmilaa
open Go.ChangeShapes Go.WideShapes Go.ChangeAt Go.RowKit

/-- a shape; a struct is its fields in a row of 'pr', closed by 'unit' -/
inductive Ty where
  | int (k : IntKind) | bool | str | sl (t : Ty) | pr (t u : Ty) | unit

def Ty.den : Ty → Type
  | .int _ => Int | .bool => Bool | .str => ByteArray | .sl t => List t.den | .pr t u => t.den × u.den | .unit => Unit

def Ty.size : Ty → Nat
  | .pr t u => t.size + u.size | .unit => 0 | _ => 1

/-- at least so many bytes -/
def Ty.bytes : Ty → Nat
  | .int .i8 | .int .u8 | .bool => 1 | .int .i16 | .int .u16 => 2 | .int .i32 | .int .u32 => 4 | .int _ => 8 | .str => 16 | .sl _ => 24 | .pr t u => t.bytes + u.bytes | .unit => 0

/-- does this shape fit a type (inl), or the fields from this offset on (inr)? -/
def Ty.fits (P : Program) : Ty → TypeId ⊕ (List Field × Nat) → Bool
  | .int k, .inl T => match P.underlying T with | some (.int k') => decide (k' = k) | _ => false
  | .bool, .inl T => match P.underlying T with | some .bool => true | _ => false
  | .str, .inl T => match P.underlying T with | some .string => true | _ => false
  | .sl t, .inl T => match P.underlying T with | some (.slice e) => t.fits P (.inl e) && P.cellsOf e == t.size && decide (0 < t.size) && decide (t.bytes ≤ P.bytesOf e) | _ => false
  | .pr t u, .inl T => match P.underlying T with
    | some (.struct fs) => match fs.toList with
      | f :: r => f.offset == 0 && P.cellsOf f.type == t.size && t.fits P (.inl f.type) && u.fits P (.inr (r, t.size)) && P.cellsOf T == t.size + u.size
      | [] => false
    | _ => false
  | .pr t u, .inr (f :: r, o) => f.offset == o && P.cellsOf f.type == t.size && t.fits P (.inl f.type) && u.fits P (.inr (r, o + t.size))
  | .unit, .inr _ => true
  | _, _ => false

/-- the cells 'c' read as this -/
def Ty.At (w : World) : (t : Ty) → (Nat → Option Value) → t.den → Prop
  | .int k, c, n => c 0 = some (.int k n) ∧ (Lit.int k n).wf = true
  | .bool, c, b => c 0 = some (.bool b)
  | .str, c, s => c 0 = some (.string s) ∧ ByteArray.size s ≤ 140737488351232
  | .sl t, c, xs => ∃ (A : Option Addr) (cap : Nat), c 0 = some (.slice A (List.length xs) cap) ∧ List.length xs * t.bytes ≤ 140737488351232 ∧ (List.length xs ≤ cap ∧ cap ≤ 9223372036854775807 ∧ (A = none → cap = 0)) ∧
      (0 < List.length xs → ∃ b o, A = some ⟨b, o, none⟩ ∧ b < w.heap.size ∧ ∀ (i : Nat) (x : t.den), @getElem? (List t.den) Nat t.den _ _ xs i = some x → Ty.At w t (fun j => w.cell? ⟨b, o + i * t.size + j, none⟩) x)
  | .pr t u, c, x => Ty.At w t c x.1 ∧ Ty.At w u (fun j => c (t.size + j)) x.2
  | .unit, _, _ => True

theorem Ty.At.congr {w : World} : ∀ (t : Ty) {c c' : Nat → Option Value} {x : t.den}, (∀ j, j < t.size → c' j = c j) → t.At w c x → t.At w c' x
  | .int k, c, c', n, hc, h => ⟨(hc 0 (by simp [Ty.size])).trans h.1, h.2⟩
  | .bool, c, c', n, hc, h => (hc 0 (by simp [Ty.size])).trans h
  | .str, c, c', n, hc, h => ⟨(hc 0 (by simp [Ty.size])).trans h.1, h.2⟩
  | .sl t, c, c', n, hc, h => by
    obtain ⟨A, cap, h0, r⟩ := h
    exact ⟨A, cap, (hc 0 (by simp [Ty.size])).trans h0, r⟩
  | .pr t u, c, c', x, hc, h => ⟨Ty.At.congr t (fun j hj => hc j (by simp only [Ty.size]; omega)) h.1, Ty.At.congr u (fun j hj => hc _ (by simp only [Ty.size]; omega)) h.2⟩
  | .unit, _, _, _, _, _ => trivial

theorem lt_of_cell {w : World} {a : Addr} {v : Value} (h : w.cell? a = some v) : a.block < w.heap.size := by
  rcases Nat.lt_or_ge a.block w.heap.size with hlt | hge
  · exact hlt
  · unfold World.cell? at h
    rw [Array.getElem?_eq_none hge] at h
    cases h

section
variable {H : Type} {enc : TypeId × Value → H} {P : Program} {w : World} {base : Nat} {spare : Nat → Bool} {held : Bool}

theorem exists_list {α : Type} {n : Nat} {p : Nat → α → Prop} (h : ∀ i, i < n → ∃ x, p i x) : ∃ xs : List α, xs.length = n ∧ ∀ i x, xs[i]? = some x → p i x := by
  induction n with
  | zero => exact ⟨[], rfl, fun i x hx => by simp at hx⟩
  | succ n ih =>
    obtain ⟨xs, hl, hx⟩ := ih fun i hi => h i (by omega)
    obtain ⟨x, hp⟩ := h n (by omega)
    refine ⟨xs ++ [x], by simp [hl], fun i y hy => ?_⟩
    rcases Nat.lt_or_ge i xs.length with hlt | hge
    · rw [List.getElem?_append_left hlt] at hy
      exact hx i y hy
    · rw [List.getElem?_append_right hge] at hy
      have h0 : i - xs.length = 0 := by
        rcases Nat.eq_zero_or_pos (i - xs.length) with h0 | h0
        · exact h0
        · rw [List.getElem?_eq_none (by simp; omega)] at hy; cases hy
      rw [h0] at hy
      simp at hy
      subst hy
      obtain rfl : i = n := by omega
      exact hp

theorem weights_all {H : Type} {P : Program} {e : TypeId} : ∀ (l : List (DataW H)) (d : DataW H), d ∈ l → ∀ q ∈ d.weights P e, q ∈ DataW.weightsAll P e l
  | x :: r, d, h, q, hq => by
    simp only [DataW.weightsAll, List.mem_append]
    rcases List.mem_cons.1 h with rfl | h
    · exact .inl hq
    · exact .inr (weights_all r d h q hq)

/-- DOWN: what the row reads, and what the struct's fields read, this shape reads. -/
theorem Ty.of_trod : ∀ (t : Ty),
    (∀ (T : TypeId), t.fits P (.inl T) = true → ∀ (fuel : Nat) (cs : List Value) (y : DataW H × List MemPlace), DataW.trod enc P w base spare held fuel T cs = some y → (∀ n ∈ y.1.weights P T, n ≤ 140737488351232) → ∃ x, t.At w (fun j => cs[j]?) x) ∧
    (∀ (fs : List Field) (o : Nat), t.fits P (.inr (fs, o)) = true → ∀ (cs : List Value), cs.length = o + t.size → (∀ (j : Nat) (f : Field), fs[j]? = some f → ∃ (fuel : Nat) (y : DataW H × List MemPlace), DataW.trod enc P w base spare held fuel f.type ((cs.drop f.offset).take (P.cellsOf f.type)) = some y ∧ ∀ n ∈ y.1.weights P f.type, n ≤ 140737488351232) →
      ∃ x, t.At w (fun j => cs[o + j]?) x)
  | .int k => by
    refine ⟨fun T hf fuel cs y h hsz => ?_, fun fs o hf => by simp [Ty.fits] at hf⟩
    simp only [Ty.fits] at hf
    split at hf
    · rename_i k' hu
      obtain rfl : k' = k := by simpa using hf
      obtain ⟨n, rfl, _, hn⟩ := DataW.trod_int hu h
      exact ⟨n, rfl, hn⟩
    · cases hf
  | .bool => by
    refine ⟨fun T hf fuel cs y h hsz => ?_, fun fs o hf => by simp [Ty.fits] at hf⟩
    simp only [Ty.fits] at hf
    split at hf
    · rename_i hu
      obtain ⟨n, rfl, _⟩ := DataW.trod_bool hu h
      exact ⟨n, rfl⟩
    · cases hf
  | .str => by
    refine ⟨fun T hf fuel cs y h hsz => ?_, fun fs o hf => by simp [Ty.fits] at hf⟩
    simp only [Ty.fits] at hf
    split at hf
    · rename_i hu
      obtain ⟨n, rfl, rfl, hn⟩ := DataW.trod_string hu h
      exact ⟨n, rfl, by have := hsz n.data.toList.length (by simp [DataW.weights]); simpa using this⟩
    · cases hf
  | .sl t => by
    refine ⟨fun T hf fuel cs y h hsz => ?_, fun fs o hf => by simp [Ty.fits] at hf⟩
    simp only [Ty.fits] at hf
    split at hf
    · rename_i e hu
      simp only [Bool.and_eq_true, beq_iff_eq, decide_eq_true_eq] at hf
      obtain ⟨⟨⟨hft, hC⟩, hpos⟩, hby⟩ := hf
      rcases Go.Deep.open_slice hu h with ⟨rfl, _⟩ | ⟨a, len, cap, m, n, D, Pl, rfl, hb, hl, hm, hmm, rfl, hi⟩
      · exact ⟨[], none, 0, rfl, by simp, by simp, fun h0 => absurd h0 (by simp)⟩
      · have hlm : len ≤ m := by rw [hmm]; split <;> omega
        have key : ∀ i, i < len → ∃ x, t.At w (fun j => w.cell? ((a.add (i * t.size)).add j)) x := by
          intro i hil
          obtain ⟨cs', hc, ht'⟩ := hi i (by omega)
          obtain ⟨_, hcl, hat⟩ := World.cells?_some hc
          obtain ⟨x, hx⟩ := (Ty.of_trod t).1 e hft n cs' _ ht' (fun q hq => hsz q (by
            simp only [DataW.weights, hu, List.mem_cons, List.mem_append]
            exact .inr (.inl (weights_all ((List.range len).map D) (D i) (List.mem_map.2 ⟨i, List.mem_range.2 hil, rfl⟩) q hq))))
          rw [hC] at hat hcl
          exact ⟨x, Ty.At.congr t (fun j hj => hat j hj) hx⟩
        obtain ⟨xs, hxl, hxs⟩ := exists_list key
        have hwt := hsz ((((List.range len).map D).length + ((List.range (m - len)).map fun j => D (len + j)).length) * P.bytesOf e) (by simp [DataW.weights, hu])
        have hwt2 : len * t.bytes ≤ 140737488351232 := by
          refine Nat.le_trans (Nat.mul_le_mul ?_ hby) hwt
          simp
        unfold maxLen at hm
        refine ⟨xs, some a, cap, by rw [hxl]; rfl, by rw [hxl]; exact hwt2, ⟨by omega, by omega, fun hn => by cases hn⟩, fun h0 => ?_⟩
        have hc0 : ∃ v, w.cell? (a.add 0) = some v := by
          obtain ⟨cs', hc, _⟩ := hi 0 (by omega)
          obtain ⟨_, hcl, hat⟩ := World.cells?_some hc
          have h1 := hat 0 (by omega)
          rw [Go.Deep.add_add] at h1
          simp only [Nat.zero_mul, Nat.add_zero] at h1
          exact ⟨cs'[0]'(by omega), by rw [h1, List.getElem?_eq_getElem (by omega)]⟩
        obtain ⟨v, hv⟩ := hc0
        obtain ⟨b, o, spot⟩ := a
        have hspot : spot = none := by simpa [Addr.add] using World.cell?_spot hv
        subst hspot
        have hblt : b < w.heap.size := by simpa [Addr.add] using lt_of_cell hv
        refine ⟨b, o, rfl, hblt, fun i x hx => ?_⟩
        refine Ty.At.congr t (fun j hj => ?_) (hxs i x hx)
        rw [Go.Deep.add_add, Go.WideShapes.add_plain, Nat.add_assoc]
    · cases hf
  | .pr t u => by
    have main : ∀ (f : Field) (r : List Field) (o : Nat), (f.offset == o && P.cellsOf f.type == t.size && t.fits P (.inl f.type) && u.fits P (.inr (r, o + t.size))) = true → ∀ (cs : List Value), cs.length = o + (t.size + u.size) →
        (∀ (j : Nat) (g : Field), (f :: r)[j]? = some g → ∃ (fuel : Nat) (y : DataW H × List MemPlace), DataW.trod enc P w base spare held fuel g.type ((cs.drop g.offset).take (P.cellsOf g.type)) = some y ∧ ∀ n ∈ y.1.weights P g.type, n ≤ 140737488351232) →
        ∃ x, Ty.At w (.pr t u) (fun j => cs[o + j]?) x := by
      intro f r o hf cs hcs hall
      simp only [Bool.and_eq_true, beq_iff_eq] at hf
      obtain ⟨⟨⟨ho, hc⟩, ht⟩, hu⟩ := hf
      obtain ⟨fuel, y, hy, hyw⟩ := hall 0 f rfl
      obtain ⟨x1, h1⟩ := (Ty.of_trod t).1 _ ht _ _ _ hy hyw
      obtain ⟨x2, h2⟩ := (Ty.of_trod u).2 r (o + t.size) hu cs (by omega) (fun j g hg => hall (j + 1) g (by simpa using hg))
      refine ⟨(x1, x2), Ty.At.congr t (fun j hj => ?_) h1, Ty.At.congr u (fun j hj => ?_) h2⟩
      · simp only [hc, ho]
        rw [List.getElem?_take, if_pos hj, List.getElem?_drop]
      · simp only [Nat.add_assoc]
    refine ⟨fun T hf fuel cs y h hsz => ?_, fun fs o hf cs hcs hall => ?_⟩
    · simp only [Ty.fits] at hf
      split at hf
      · rename_i fs hu
        split at hf
        · rename_i f r hfs
          simp only [Bool.and_eq_true, beq_iff_eq] at hf
          obtain ⟨⟨⟨⟨ho, hc⟩, ht⟩, hu'⟩, hsz⟩ := hf
          obtain ⟨ys, n', _, rfl, hlen, _, hall⟩ := DataW.trod_struct hu h
          have hm := main f r 0 (by simp [ho, hc, ht, hu']) cs (by omega) (fun j g hg => by
            have hg' : fs[j]? = some g := by rw [← hfs] at hg; simpa using hg
            have := hall j g hg'
            have hjl : j < ys.length := by
              have : j < fs.size := (Array.getElem?_eq_some_iff.1 hg').1
              omega
            refine ⟨n', ys[j], by rw [hall j g hg', List.getElem?_eq_getElem hjl], fun q hq => hsz q ?_⟩
            simp only [DataW.weights, hu]
            exact DataW.weights_mem_each (j := j) (t := g.type) (d := ys[j].1) (by rw [List.getElem?_map, Array.getElem?_toList, hg']; rfl) (by rw [List.getElem?_map, List.getElem?_eq_getElem hjl]; rfl) q hq)
          simpa using hm
        · cases hf
      · cases hf
    · match fs, hf with
      | f :: r, hf =>
        simp only [Ty.fits] at hf
        exact main f r o hf cs (by simpa [Ty.size] using hcs) hall
      | [], hf => simp [Ty.fits] at hf
  | .unit => by
    refine ⟨fun T hf => by simp [Ty.fits] at hf, fun fs o hf cs hcs hall => ⟨(), trivial⟩⟩

end

/-- AN ARGUMENT that is a struct by value: its cells read. -/
theorem arg_st {H : Type} {enc : TypeId × Value → H} {w : World} {base : Nat} {T : TypeId} {v : Value} {d : DataW H} {p : List MemPlace} (t u : Ty) (hf : (Ty.pr t u).fits Try.prog (.inl T) = true)
    (hv : Value.okWide Try.prog w .any base T v) (h : DataW.Trod enc Try.prog w 0 (fun _ => true) true T v d p) (hsz : ∀ n ∈ d.weights Try.prog T, n ≤ 140737488351232) :
    ∃ (cs : Array Value) (x : (Ty.pr t u).den), v = .agg cs ∧ cs.size = (Ty.pr t u).size ∧ (Ty.pr t u).At w (fun j => cs[j]?) x := by
  have hu : ∃ fs, Try.prog.underlying T = some (.struct fs) ∧ Try.prog.cellsOf T = (Ty.pr t u).size := by
    have hf' := hf
    simp only [Ty.fits] at hf'
    split at hf'
    · rename_i fs hu
      split at hf'
      · simp only [Bool.and_eq_true, beq_iff_eq] at hf'
        exact ⟨fs, hu, hf'.2⟩
      · cases hf'
    · cases hf'
  obtain ⟨fs, hu, hC⟩ := hu
  obtain ⟨cs, rfl, hcs⟩ := okWide_struct hu hv
  obtain ⟨fuel, hfu⟩ := h
  obtain ⟨x, hx⟩ := (Ty.of_trod (.pr t u)).1 T hf fuel _ _ hfu hsz
  refine ⟨cs, x, rfl, hcs.trans hC, ?_⟩
  simpa [Value.cells] using hx

/-- a slice of integers that reads: its value, its numbers -/
theorem at_ints {w : World} {k : IntKind} {c : Nat → Option Value} {xs : List Int} (h : (Ty.sl (.int k)).At w c xs) :
    ∃ (A : Option Addr) (cap : Nat), c 0 = some (.slice A xs.length cap) ∧ Row w (.slice A xs.length cap) (xs.map fun x => .int k x) ∧ (∀ x ∈ xs, (Lit.int k x).wf = true) ∧ xs.length * (Ty.int k).bytes ≤ 140737488351232 ∧ (xs.length ≤ cap ∧ cap ≤ 9223372036854775807) := by
  obtain ⟨A, cap, h0, h1, h2, h3⟩ := h
  refine ⟨A, cap, h0, ⟨A, cap, by rw [List.length_map], fun hp => ?_⟩, ?_, h1, ⟨h2.1, h2.2.1⟩⟩
  · obtain ⟨b, o, hA, hb, hi⟩ := h3 (by rw [List.length_map] at hp; exact hp)
    refine ⟨b, o, hA, hb, fun i u hu => ?_⟩
    rw [List.getElem?_map] at hu
    cases hx : xs[i]? with
    | none => rw [hx] at hu; cases hu
    | some x =>
      rw [hx] at hu
      simp only [Option.map_some, Option.some.injEq] at hu
      subst hu
      have := (hi i x hx).1
      simpa [Ty.size] using this
  · intro x hx
    obtain ⟨i, hi, rfl⟩ := List.mem_iff_getElem.1 hx
    obtain ⟨b, o, hA, hb, hii⟩ := h3 (Nat.lt_of_le_of_lt (Nat.zero_le _) hi)
    exact (hii i _ (List.getElem?_eq_getElem hi)).2

end Go.Proofs.Ytllpcjdljgmilaa

namespace Go.Proofs.Ytllpcjdljgmilaa
open Go.RowKit Go.ChangeShapes Go.WideShapes Go.ChangeAt

theorem wf_bounds {k : IntKind} {x : Int} (h : (Lit.int k x).wf = true) : k.min ≤ x ∧ x ≤ k.max := by simpa [Lit.wf] using h
theorem wf_i64 {x : Int} (h : (Lit.int .i64 x).wf = true) : -9223372036854775808 ≤ x ∧ x ≤ 9223372036854775807 := by
  have := wf_bounds h
  have e1 : IntKind.i64.min = -9223372036854775808 := by decide
  have e2 : IntKind.i64.max = 9223372036854775807 := by decide
  omega
/-- a slice of numbers -/
theorem at_nums {w : World} {c : Nat → Option Value} {xs : List Int} (h : (Ty.sl (.int .i64)).At w c xs) :
    ∃ (A : Option Addr) (cap : Nat), c 0 = some (.slice A xs.length cap) ∧ RowOf iV w A xs ∧ (∀ x ∈ xs, -9223372036854775808 ≤ x ∧ x ≤ 9223372036854775807) ∧ xs.length * 8 ≤ 140737488351232 ∧ xs.length ≤ cap := by
  obtain ⟨A, cap, h0, hr, hw, hb, hc⟩ := at_ints h
  exact ⟨A, cap, h0, (RowOf.of_row hr).2, fun x hx => wf_i64 (hw x hx), hb, hc.1⟩
theorem Blk.grown {w w' : World} {g : Nat} {t : TypeId} {cs : Array Value} {r : Option Nat} (h : Blk w g t cs) (hg : w.grownBy w' r) (hne : ∀ k, r = some k → k ≠ g) : Blk w' g t cs :=
  (hg.block g h.lt (fun e => hne g e.symm rfl)).trans h
end Go.Proofs.Ytllpcjdljgmilaa
namespace Go.Proofs.Ytllpcjdljgmilaa
open Go.RowKit Go.ChangeShapes Go.WideShapes Go.ChangeAt
end Go.Proofs.Ytllpcjdljgmilaa

namespace Go.Proofs.Ytllpcjdljgmilaa
open Go.RowKit Go.ChangeShapes Go.WideShapes Go.ChangeAt
/-- a row's block is not one of another type -/
theorem own_off {w : World} {base e s n c m g t : Nat} {A : Option Addr} {xs : List Value} {cs : Array Value} (h : w.ownsRow base e s (.slice A n c) m xs) (hb : Blk w g t cs) (hne : t ≠ e) : ∀ k, A.map (·.block) = some k → k ≠ g := by
  rintro k hk rfl
  rcases h.2 with ⟨h0, _⟩ | ⟨g', cap, cur, hv, hg, hh, r⟩
  · simp only [Value.slice.injEq] at h0
    rw [h0.1] at hk
    cases hk
  · simp only [Value.slice.injEq] at hv
    rw [hv.1] at hk
    simp only [Option.map_some, Option.some.injEq] at hk
    subst hk
    unfold Blk at hb
    rw [hh] at hb
    simp only [Option.some.injEq, Obj.cells.injEq] at hb
    exact hne hb.2.1.symm
theorem own_le {w : World} {base base' size n : Nat} {e : TypeId} {v : Value} {xs : List Value} (h : w.ownsRow base e size v n xs) (hb : base' ≤ base) : w.ownsRow base' e size v n xs := by
  refine ⟨h.1, ?_⟩
  rcases h.2 with h0 | ⟨g, cap, cur, hv, hg, r⟩
  · exact .inl h0
  · exact .inr ⟨g, cap, cur, hv, by omega, r⟩
theorem walk_struct {H : Type} {enc : TypeId × Value → H} {F : FuncId} {T : TypeId} (t u : Ty) (hf : (Ty.pr t u).fits Try.prog (.inl T) = true)
    (h : ∀ (cs : Array Value) (x : (Ty.pr t u).den) (w : World), cs.size = (Ty.pr t u).size → (Ty.pr t u).At w (fun j => cs[j]?) x → Rt Try.prog F [.agg cs] w fun v w' => v = .bool true ∧ From w w')
    (W : World) (base : Nat) (v : Value) (d : DataW H) (p : List MemPlace) (hok : Value.okWide Try.prog W .any base T v) (ht : DataW.Trod enc Try.prog W 0 (fun _ => true) true T v d p) (hsz : ∀ n ∈ d.weights Try.prog T, n ≤ 140737488351232) :
    Calls Try.prog F #[v] W fun e W' => e = .returned (.bool true) ∧ From W W' := by
  obtain ⟨cs, x, rfl, hs, ha⟩ := arg_st t u hf hok ht hsz
  exact Rt.to (h cs x W hs ha)
end Go.Proofs.Ytllpcjdljgmilaa

namespace Go.Proofs.Ytllpcjdljgmilaa
open Go.RowKit

/-! ### lists of elements, flat -/
section
variable {α : Type} {f : α → List Value} {s : Nat}
theorem flat_len (hf : ∀ x, (f x).length = s) : ∀ (L : List α), (L.flatMap f).length = L.length * s
  | [] => by simp
  | x :: r => by rw [List.flatMap_cons, List.length_append, hf, flat_len hf r, List.length_cons, Nat.succ_mul]; omega
theorem flat_take (hf : ∀ x, (f x).length = s) : ∀ (L : List α) (k : Nat), (L.flatMap f).take (k * s) = (L.take k).flatMap f
  | [], k => by simp
  | x :: r, 0 => by simp
  | x :: r, k + 1 => by
    rw [List.flatMap_cons, List.take_succ_cons, List.flatMap_cons, ← flat_take hf r k, List.take_append, hf]
    rw [show (k + 1) * s - s = k * s by rw [Nat.succ_mul]; omega, List.take_of_length_le (by rw [hf, Nat.succ_mul]; omega)]
theorem flat_drop (hf : ∀ x, (f x).length = s) : ∀ (L : List α) (k : Nat), (L.flatMap f).drop (k * s) = (L.drop k).flatMap f
  | [], k => by simp
  | x :: r, 0 => by simp
  | x :: r, k + 1 => by
    rw [List.flatMap_cons, List.drop_succ_cons, ← flat_drop hf r k, List.drop_append, hf]
    rw [show (k + 1) * s - s = k * s by rw [Nat.succ_mul]; omega, List.drop_of_length_le (by rw [hf, Nat.succ_mul]; omega), List.nil_append]
theorem flat_at (hf : ∀ x, (f x).length = s) (L : List α) (i : Nat) (hi : i < L.length) (j : Nat) (hj : j < s) : (L.flatMap f)[i * s + j]? = (f L[i])[j]? := by
  have h1 : ((L.flatMap f).drop (i * s))[j]? = (L.flatMap f)[i * s + j]? := by rw [List.getElem?_drop]
  rw [← h1, flat_drop hf, List.drop_eq_getElem_cons hi, List.flatMap_cons, List.getElem?_append_left (by rw [hf]; exact hj)]
theorem flat_one {L : List α} (h : ∀ x ∈ L, ∀ u ∈ f x, u.oneCell' = true) : ∀ u ∈ L.flatMap f, u.oneCell' = true := fun u hu => by
  obtain ⟨x, hx, hu⟩ := List.mem_flatMap.1 hu
  exact h x hx u hu
/-- from this address on lie these, s cells each -/
def RowK (s : Nat) (f : α → List Value) (w : World) (A : Option Addr) (L : List α) : Prop := 0 < L.length → ∃ b o, A = some ⟨b, o, none⟩ ∧ ∀ i (h : i < L.length), w.rangeAt b (o + i * s) (f L[i])
theorem RowK.from_ {w w' : World} {A : Option Addr} {L : List α} (h : RowK s f w A L) (hF : From w w') : RowK s f w' A L := fun h0 =>
  let ⟨b, o, hA, hc⟩ := h h0
  ⟨b, o, hA, fun i hi => rangeF hF (hc i hi)⟩
theorem RowK.flat (hf : ∀ x, (f x).length = s) {w : World} {A : Option Addr} {L : List α} (h : RowK s f w A L) : 0 < L.length → ∃ b o, A = some ⟨b, o, none⟩ ∧ w.rangeAt b o (L.flatMap f) := fun h0 => by
  obtain ⟨b, o, hA, hc⟩ := h h0
  refine ⟨b, o, hA, fun j v hv => ?_⟩
  have hlt : j < L.length * s := by
    rw [← flat_len hf]
    rcases Nat.lt_or_ge j (L.flatMap f).length with a | a
    · exact a
    · rw [List.getElem?_eq_none a] at hv; cases hv
  have hs : 0 < s := by
    rcases Nat.eq_zero_or_pos s with h | h
    · subst h; omega
    · exact h
  have hi : j / s < L.length := by rw [Nat.div_lt_iff_lt_mul hs]; exact hlt
  have hj : j / s * s + j % s = j := by rw [Nat.mul_comm]; exact Nat.div_add_mod j s
  rw [← hj, flat_at hf L _ hi _ (Nat.mod_lt _ hs)] at hv
  have := hc _ hi _ v hv
  rwa [Nat.add_assoc, hj] at this
theorem RowK.own (hf : ∀ x, (f x).length = s) (hs : 0 < s) {w : World} {base e n c : Nat} {A : Option Addr} {L : List α} (h : w.ownsRow base e s (.slice A n c) n (L.flatMap f)) : L.length = n ∧ RowK s f w A L := by
  have hn : L.length = n := by
    have := h.1
    rw [flat_len hf] at this
    exact Nat.eq_of_mul_eq_mul_right hs this
  refine ⟨hn, fun h0 => ?_⟩
  obtain ⟨g, rfl⟩ := own_some h (by omega)
  refine ⟨g, 0, rfl, fun i hi j v hv => ?_⟩
  have hj : j < s := by
    rw [← hf L[i]]
    rcases Nat.lt_or_ge j (f L[i]).length with a | a
    · exact a
    · rw [List.getElem?_eq_none a] at hv; cases hv
  have hlt : i * s + j < n * s := by
    have : (i + 1) * s ≤ n * s := Nat.mul_le_mul_right s (by omega)
    rw [Nat.succ_mul] at this
    omega
  rw [Nat.zero_add, h.cellAt _ hlt, flat_at hf L i hi j hj]
  exact hv
end

/-! ### an own row as a block -/
theorem own_blk {w : World} {base e size n c : Nat} {A : Option Addr} {xs : List Value} (h : w.ownsRow base e size (.slice A n c) n xs) (hn : 0 < n) :
    ∃ g cur, A = some ⟨g, 0, none⟩ ∧ base ≤ g ∧ Blk w g e (List.toArray cur) ∧ n ≤ c ∧ c ≤ maxLen ∧ cur.length = c * size ∧ cur.take (n * size) = xs := by
  rcases h.2 with ⟨_, h0⟩ | ⟨g, cap, cur, hv, hg, hh, h1, h2, h3, h4⟩
  · omega
  · simp only [Value.slice.injEq, true_and] at hv
    obtain ⟨rfl, rfl⟩ := hv
    exact ⟨g, cur.toList, rfl, hg, by simpa [Blk] using hh, h1, h2, by simpa using h3, h4⟩
theorem own_of {w : World} {base e size n c g : Nat} {cur xs : List Value} (hg : base ≤ g) (hb : Blk w g e cur.toArray) (h1 : n ≤ c) (h2 : c ≤ maxLen) (h3 : cur.length = c * size) (h4 : cur.take (n * size) = xs) :
    w.ownsRow base e size (.slice (some ⟨g, 0, none⟩) n c) n xs := by
  refine ⟨?_, .inr ⟨g, c, cur.toArray, rfl, hg, hb, h1, h2, by simpa using h3, by simpa using h4⟩⟩
  rw [← h4, List.length_take, h3]
  exact Nat.min_eq_left (Nat.mul_le_mul_right _ h1)
theorem over_len (cs vs : List Value) (o : Nat) (h : o + vs.length ≤ cs.length) : (over cs o vs).length = cs.length := by simp [over]; omega
theorem over_take (cs vs : List Value) (o k : Nat) (h : o + vs.length ≤ k) (hk : k ≤ cs.length) : (over cs o vs).take k = over (cs.take k) o vs := by
  unfold over
  rw [List.take_append, List.take_of_length_le (by simp; omega)]
  rw [List.take_take, Nat.min_eq_left (by omega), List.drop_take]
  congr 2
  simp
  omega
theorem over_nil (cs : List Value) (o : Nat) : over cs o [] = cs := by simp [over]
section
variable {P : Program} {ρ : Operand → Value} {w : World}
/-- cells written over a block that is known whole -/
theorem run_overB {g o : Nat} {u : TypeId} {cur vs : List Value} {A : Option Addr} (hA : 0 < vs.length → A = some ⟨g, o, none⟩) (hb : Blk w g u cur.toArray) (hfit : o + vs.length ≤ cur.length) (h1 : ∀ v ∈ vs, v.oneCell' = true) :
    ∃ w', (match A with | some a => storeCells a vs | none => (pure () : Sem Unit)).run P w = .ok () w' ∧ Only g w w' ∧ Blk w' g u (over cur o vs).toArray := by
  cases vs with
  | nil =>
    refine ⟨w, ?_, Only.rfl_, by rw [over_nil]; exact hb⟩
    cases A <;> simp [storeCells]
  | cons v vs =>
    obtain rfl := hA (by simp)
    have := run_storeCells_at P g o u (v :: vs) 0 cur.toArray w hb (by simpa using hfit) h1
    refine ⟨_, this, ?_, ?_⟩
    · exact ⟨rfl, rfl, rfl, by simp [World.setRow], fun k hk => setRow_other w g k _ hk⟩
    · have h2 := setRow_heap w g cur.toArray ((cur.toArray.toList.take (o + 0) ++ (v :: vs) ++ cur.toArray.toList.drop (o + 0 + (v :: vs).length)).toArray) u (0, 0) hb
      exact h2
theorem run_loadB {cs : List Value} {n : Nat} {A : Option Addr} (hn : cs.length = n) (h : 0 < cs.length → ∃ b o, A = some ⟨b, o, none⟩ ∧ w.rangeAt b o cs) :
    (match A with | some a => loadCells a n | none => (pure #[] : Sem (Array Value))).run P w = .ok cs.toArray w := by
  subst hn
  cases cs with
  | nil => cases A <;> simp [loadCells, loadCellsFrom]
  | cons c cs =>
    obtain ⟨b, o, rfl, hr⟩ := h (by simp)
    exact run_loadCells_list (P := P) w ⟨b, o, none⟩ (c :: cs) (fun j v hv => by rw [Addr.add_mid]; exact hr j v hv)
/-- append(s, make(T, k)...) beyond the room -/
theorem ro_appendZ {s x : Operand} {t tn e size by_ m cap k : Nat} {A : Option Addr} {z : Value} {kn : IntKind} {olds : List Value} (hq : litQ P t = some (e, size, by_, z)) (htn : P.underlying tn = some (.int kn)) (hzs : z.cells.size = size) (hs0 : 0 < size)
    (hs : ρ s = .slice A m cap) (hx : ρ x = .int .i64 (k : Nat)) (hol : olds.length = m * size) (hold : 0 < olds.length → ∃ b o, A = some ⟨b, o, none⟩ ∧ w.rangeAt b o olds) (h0 : 0 < k) (hg : cap < m + k) (h63 : m + k ≤ maxLen) (hby : (m + k) * by_ ≤ 140737488355328) (hmc : m ≤ cap) :
    ∃ c' w' cur, RO P ρ (.call { callee := .builtin .append, args := #[s, x], argTypes := #[t, tn] }) w (.slice (some ⟨w.heap.size, 0, none⟩) (m + k) c') w' ∧ From w w' ∧ Blk w' w.heap.size e (List.toArray cur) ∧ m + k ≤ c' ∧ c' ≤ maxLen ∧ cur.length = c' * size ∧ cur.take (m * size) = olds := by
  obtain ⟨i, hu, hi, hsz, hb, hz⟩ := lit_of hq
  subst hsz
  subst hb
  have hld : (Builtin.firstCells i.size m (.slice A m cap)).run P w.drew = .ok olds.toArray w.drew := by
    have := run_loadB (P := P) (w := w.drew) (n := m * i.size) hol (fun h => let ⟨b, o, h1, h2⟩ := hold h; ⟨b, o, h1, fun j v hv => h2 j v hv⟩)
    cases A <;> exact this
  have hnx : Builtin.nextslicecap (m + k) cap * i.bytes ≤ 281474976710656 := growslice_fits hg hby
  have hrun := fun ty => Lib.run_append_grow_zeros (P := P) w t tn ty e i z .i64 kn hu htn hi hz A m cap olds hld k h0 hs0 hg (by unfold maxLen at h63; omega) (by
    have : k * i.bytes ≤ (m + k) * i.bytes := Nat.mul_le_mul_right _ (by omega)
    omega) hnx
  have hcge := grownCap_ge w (m + k) cap e
  have hcle := grownCap_le_maxLen w (m + k) cap e h63
  generalize grownCap w (m + k) cap e = c' at hrun hcge hcle
  refine ⟨c', w.drew.alloc (.cells (olds.toArray ++ Builtin.zeroCells z.cells k ++ Builtin.zeroCells z.cells (c' - (m + k))) e), olds ++ (Builtin.zeroCells z.cells k).toList ++ (Builtin.zeroCells z.cells (c' - (m + k))).toList, fun dst ty pos after gg => ?_, From.rfl_.d1.new _, ?_, hcge, hcle, ?_, ?_⟩
  · unfold execOp
    simp only [resolve, invoke, builtin, Sem.run_bind, Sem.run_pure, Result.andThen_ok, List.map_toArray, List.map_cons, List.map_nil, hs, hx, hrun]
  · have := Blk.new w.drew e (olds.toArray ++ Builtin.zeroCells z.cells k ++ Builtin.zeroCells z.cells (c' - (m + k)))
    have e1 : (olds ++ (Builtin.zeroCells z.cells k).toList ++ (Builtin.zeroCells z.cells (c' - (m + k))).toList).toArray = olds.toArray ++ Builtin.zeroCells z.cells k ++ Builtin.zeroCells z.cells (c' - (m + k)) := by
      apply Array.toList_inj.1
      simp
    rw [e1]
    exact this
  · simp only [List.length_append, Array.length_toList, size_zeroCells, hzs, hol, ← Nat.add_mul]
    congr 1
    omega
  · rw [List.append_assoc, List.take_append_of_le_length (by omega), List.take_of_length_le (by omega)]
end
end Go.Proofs.Ytllpcjdljgmilaa

namespace Go.Proofs.Ytllpcjdljgmilaa
open Go.RowKit
section
variable {P : Program} {ops : Array Oper} {Q : Exit → Act → World → Prop} {rest : List Oper} {n : Fr} {L : List (Nat × Value)} {w : World} {ty : TypeId} {pos : String} {after : Array Edge} {d : Nat} {t : TypeId} {x s : Operand}
theorem st_appendZ {tn e size by_ m cap k0 : Nat} {A : Option Addr} {z : Value} {kn : IntKind} {olds : List Value} (hq : litQ P t = some (e, size, by_, z)) (htn : P.underlying tn = some (.int kn)) (hzs : z.cells.size = size) (hs0 : 0 < size)
    (hs : ev n L s = .slice A m cap) (hx : ev n L x = .int .i64 (k0 : Nat)) (hol : olds.length = m * size) (hold : 0 < olds.length → ∃ b o, A = some ⟨b, o, none⟩ ∧ w.rangeAt b o olds) (h0 : 0 < k0) (hg : cap < m + k0) (h63 : m + k0 ≤ maxLen) (hby : (m + k0) * by_ ≤ 140737488355328) (hmc : m ≤ cap)
    (k : ∀ g c' w' cur, g = w.heap.size → From w w' → Blk w' g e (List.toArray cur) → m + k0 ≤ c' → c' ≤ maxLen → cur.length = c' * size → cur.take (m * size) = olds → St P ops Q rest n ((d, .slice (some ⟨g, 0, none⟩) (m + k0) c') :: L) w') :
    St P ops Q (⟨some d, .call { callee := .builtin .append, args := #[s, x], argTypes := #[t, tn] }, ty, pos, after, none⟩ :: rest) n L w :=
  let ⟨c', w', cur, hr, hF, hb, h1, h2, h3, h4⟩ := ro_appendZ hq htn hzs hs0 hs hx hol hold h0 hg h63 hby hmc
  st_val hr (k _ c' w' cur rfl hF hb h1 h2 h3 h4)
theorem ro_cap {ρ : Operand → Value} {A : Option Addr} {m c : Nat} (ht : (elemQ P t).isSome = true) (hx : ρ x = .slice A m c) : RO P ρ (.call { callee := .builtin .cap, args := #[x], argTypes := #[t] }) w (.int .i64 c) w := fun _ _ _ _ _ => by
  obtain ⟨⟨e, sz⟩, he⟩ := Option.isSome_iff_exists.mp ht
  obtain ⟨hu, _⟩ := elem_of he
  simp [BigFrame.execOp_builtin, BigFrame.builtin_cap, Builtin.cap_, run_underlying hu, hx, goInt]
end
/-! ### an own row written over -/
theorem own_over {w w' : World} {base e size n c g o : Nat} {xs vs : List Value} (h : w.ownsRow base e size (.slice (some ⟨g, 0, none⟩) n c) n xs) (hn : 0 < n) (hv : o + vs.length ≤ n * size) (hb : ∀ cur, Blk w g e (List.toArray cur) → o + vs.length ≤ cur.length → Blk w' g e (over cur o vs).toArray) :
    w'.ownsRow base e size (.slice (some ⟨g, 0, none⟩) n c) n (over xs o vs) := by
  obtain ⟨g', cur, hA, hg, hbk, h1, h2, h3, h4⟩ := own_blk h hn
  simp only [Option.some.injEq, Addr.mk.injEq, and_true] at hA
  subst hA
  have hle : n * size ≤ cur.length := by rw [h3]; exact Nat.mul_le_mul_right _ h1
  refine own_of hg (hb cur hbk (by omega)) h1 h2 ?_ ?_
  · rw [over_len _ _ _ (by omega), h3]
  · rw [over_take _ _ _ _ hv hle, h4]
section
variable {P : Program} {ops : Array Oper} {Q : Exit → Act → World → Prop} {rest : List Oper} {n : Fr} {L : List (Nat × Value)} {w : World} {ty : TypeId} {pos : String} {after : Array Edge} {t : TypeId} {x y : Operand}
end
section
variable {α : Type} {f : α → List Value} {s : Nat}
theorem over_flat (hf : ∀ x, (f x).length = s) (L : List α) (i : Nat) (hi : i < L.length) (x : α) : over (L.flatMap f) (i * s) (f x) = (L.set i x).flatMap f := by
  unfold over
  rw [flat_take hf, hf, ← Nat.succ_mul, flat_drop hf]
  conv => rhs; rw [List.set_eq_take_append_cons_drop, if_pos hi]
  simp
end
end Go.Proofs.Ytllpcjdljgmilaa
namespace Go.Proofs.Ytllpcjdljgmilaa
open Go.RowKit
theorem restOf_head {A : Option Addr} {c s : Nat} : restOf A c 0 s = A := by
  unfold restOf
  split
  · rfl
  · cases A with
    | none => rfl
    | some a => simp [Addr.add_zero']
end Go.Proofs.Ytllpcjdljgmilaa

namespace Go.Proofs.Ytllpcjdljgmilaa
open Go.RowKit Go.ChangeShapes Go.WideShapes Go.ChangeAt
/-! ### strings -/
/-- the order of strings -/
def sLt (a b : ByteArray) : Prop := a.toList < b.toList
theorem sLt_dec (a b : ByteArray) : Op.bytesLess a.toList b.toList = true ↔ sLt a b := by
  rw [Go.Proofs.bytesLess_eq]
  exact decide_eq_true_iff
theorem sLt_irrefl (a : ByteArray) : ¬ sLt a a := List.lt_irrefl _
theorem sLt_trans {a b c : ByteArray} (h : sLt a b) (k : sLt b c) : sLt a c := List.lt_trans h k
theorem sLt_asymm {a b : ByteArray} (h : sLt a b) : ¬ sLt b a := fun k => sLt_irrefl a (sLt_trans h k)
theorem str_inj {a b : ByteArray} (h : a.toList = b.toList) : a = b := by
  have := congrArg List.toArray h
  rw [Lib.toList_data, Lib.toList_data] at this
  exact ByteArray.ext (by simpa using this)
theorem str_eq {a b : ByteArray} : (a.toList == b.toList) = true ↔ a = b := ⟨fun h => str_inj (eq_of_beq h), fun h => by rw [h]; exact beq_self_eq_true _⟩
theorem sLt_tri (a b : ByteArray) : sLt a b ∨ a = b ∨ sLt b a := by
  by_cases h : sLt a b
  · exact .inl h
  · by_cases k : sLt b a
    · exact .inr (.inr k)
    · exact .inr (.inl (str_inj (List.le_antisymm (List.not_lt.1 k) (List.not_lt.1 h))))
/-! ### documents -/
abbrev Dc := ByteArray × ByteArray
def dV (d : Dc) : List Value := [.string d.1, .string d.2]
theorem dV_len (d : Dc) : (dV d).length = 2 := rfl
theorem dV_one (l : List Dc) : ∀ u ∈ l.flatMap dV, u.oneCell' = true := flat_one fun x _ u hu => by
  rcases List.mem_cons.1 hu with rfl | hu
  · rfl
  · rcases List.mem_cons.1 hu with rfl | hu
    · rfl
    · cases hu
/-- the bytes of a text, each by one more -/
def txt (s : ByteArray) : List Nat := s.toList.map fun b => b.toNat + 1
def syms : List Dc → List Nat
  | [] => []
  | d :: ds => txt d.2 ++ 0 :: syms ds
/-- the bytes of all texts -/
def dsz : List Dc → Nat
  | [] => 0
  | d :: ds => d.2.size + dsz ds
/-- the places in one text -/
def ks (t q : List Nat) : List Nat := (List.range (t.length + 1)).filter fun i => q.isPrefixOf (t.drop i)
/-- the document of an offset, and the offset in its text -/
def loc : List Dc → Nat → Nat × Nat
  | [], at_ => (0, at_)
  | d :: ds, at_ => if at_ ≤ d.2.size then (0, at_) else ((loc ds (at_ - (d.2.size + 1))).1 + 1, (loc ds (at_ - (d.2.size + 1))).2)
abbrev Ht := ByteArray × Int
def hV (h : Ht) : List Value := [.string h.1, .int .i64 h.2]
/-- all hits -/
def hits : List Dc → ByteArray → List Ht
  | [], _ => []
  | d :: ds, p => (ks (txt d.2) (txt p)).map (fun k => (d.1, ((k : Nat) : Int))) ++ hits ds p
def hitAt (ds : List Dc) (at_ : Nat) : Ht := ((ds.getD (loc ds at_).1 (⟨#[]⟩, ⟨#[]⟩)).1, (((loc ds at_).2 : Nat) : Int))
end Go.Proofs.Ytllpcjdljgmilaa

namespace Go.Proofs.Ytllpcjdljgmilaa
open Go.RowKit
/-- by names, each one once -/
def SD (l : List Dc) : Prop := l.Pairwise fun a b => sLt a.1 b.1
/-- no name twice -/
def Dif (l : List Dc) : Prop := l.Pairwise fun a b => a.1 ≠ b.1
def ltD (a b : Dc) : Prop := sLt a.1 b.1
theorem ltD_ord : SM.Ord ltD := ⟨fun x => sLt_irrefl _, fun h => sLt_asymm h, fun {x y z} h k q => by
  rcases sLt_tri z.1 y.1 with e | e | e
  · exact k e
  · unfold ltD at *; rw [e] at q; exact h q
  · exact h (sLt_trans e q)⟩
theorem sLt_ne {a b : ByteArray} (h : sLt a b) : a ≠ b := fun e => by rw [e] at h; exact sLt_irrefl _ h
theorem SD.dif {l : List Dc} (h : SD l) : Dif l := h.imp fun h => sLt_ne h
theorem Dif.perm {a b : List Dc} (h : Dif a) (k : a.Perm b) : Dif b := (k.pairwise_iff (fun h => fun e => h e.symm)).1 h
theorem SD.uniq : ∀ {a b : List Dc}, SD a → SD b → a.Perm b → a = b
  | [], b, _, _, h => (List.nil_perm.1 h).symm
  | x :: a, [], _, _, h => absurd h.length_eq (by simp)
  | x :: a, y :: b, ha, hb, h => by
    obtain ⟨h1, h2⟩ := List.pairwise_cons.1 ha
    obtain ⟨k1, k2⟩ := List.pairwise_cons.1 hb
    have e : x = y := by
      rcases List.mem_cons.1 (h.mem_iff.1 (List.mem_cons_self .. : x ∈ x :: a)) with e | e
      · exact e
      · rcases List.mem_cons.1 (h.mem_iff.2 (List.mem_cons_self .. : y ∈ y :: b)) with e2 | e2
        · exact e2.symm
        · exact absurd (k1 x e) (sLt_asymm (h1 y e2))
    subst e
    rw [SD.uniq h2 k2 ((List.perm_cons x).1 h)]
def Dz : Dc := (⟨#[]⟩, ⟨#[]⟩)
theorem G_d0 {xs : List Dc} {k : Nat} (h : k < xs.length) : SM.G Dz xs k = xs[k] := SM.G_get Dz h
/-- neighbours suffice -/
theorem SD.near {l : List Dc} (h : ∀ i, 0 < i → i < l.length → sLt (SM.G Dz l (i - 1)).1 (SM.G Dz l i).1) : SD l := by
  have key : ∀ i j, i < j → j < l.length → sLt (SM.G Dz l i).1 (SM.G Dz l j).1 := by
    intro i j hij
    induction j with
    | zero => omega
    | succ j ih =>
      intro hj
      have h1 := h (j + 1) (by omega) hj
      rw [show j + 1 - 1 = j by omega] at h1
      rcases Nat.eq_or_lt_of_le (Nat.le_of_lt_succ hij) with e | e
      · subst e; exact h1
      · exact sLt_trans (ih e (by omega)) h1
  unfold SD
  rw [List.pairwise_iff_getElem]
  intro i j hi hj hij
  have := key i j hij hj
  rwa [G_d0 hi, G_d0 hj] at this
theorem SD.get {l : List Dc} (h : SD l) {i j : Nat} (hij : i < j) (hj : j < l.length) : sLt (SM.G Dz l i).1 (SM.G Dz l j).1 := by
  rw [G_d0 (Nat.lt_trans hij hj), G_d0 hj]
  exact List.pairwise_iff_getElem.1 h i j _ hj hij
/-- sorted, and no two neighbours of one name -/
theorem SD.of_srt {l : List Dc} (h : SM.Srt Dz ltD 0 l.length l) (hn : ∀ i, 0 < i → i < l.length → (SM.G Dz l (i - 1)).1 ≠ (SM.G Dz l i).1) : SD l := SD.near fun i h1 h2 => by
  have h3 := h (i - 1) i (Nat.zero_le _) (by omega) h2
  rcases sLt_tri (SM.G Dz l (i - 1)).1 (SM.G Dz l i).1 with e | e | e
  · exact e
  · exact absurd e (hn i h1 h2)
  · exact absurd e h3
theorem Dif.not {l : List Dc} {i j : Nat} (hij : i < j) (hj : j < l.length) (e : (SM.G Dz l i).1 = (SM.G Dz l j).1) : ¬ Dif l := fun h => by
  rw [G_d0 (Nat.lt_trans hij hj), G_d0 hj] at e
  exact List.pairwise_iff_getElem.1 h i j _ hj hij e
open Classical in
/-- the documents by their names -/
noncomputable def srtD (l : List Dc) : List Dc := if h : ∃ ds, SD ds ∧ ds.Perm l then Classical.choose h else []
theorem srtD_eq {l ds : List Dc} (h : SD ds) (k : ds.Perm l) : srtD l = ds := by
  have hx : ∃ ds, SD ds ∧ ds.Perm l := ⟨ds, h, k⟩
  unfold srtD
  rw [dif_pos hx]
  obtain ⟨h1, h2⟩ := Classical.choose_spec hx
  exact h1.uniq h (h2.trans k.symm)
theorem srtD_perm {a b : List Dc} (h : a.Perm b) : srtD a = srtD b := by
  by_cases hx : ∃ ds, SD ds ∧ ds.Perm a
  · obtain ⟨ds, h1, h2⟩ := hx
    rw [srtD_eq h1 h2, srtD_eq h1 (h2.trans h)]
  · unfold srtD
    rw [dif_neg hx, dif_neg]
    rintro ⟨ds, h1, h2⟩
    exact hx ⟨ds, h1, h2.trans h.symm⟩
open Classical in
theorem srt_ex {l : List Dc} (h : Dif l) : ∃ ds, SD ds ∧ ds.Perm l := by
  have h1 := List.pairwise_mergeSort (le := fun a b : Dc => decide (¬ ltD b a)) (fun a b c h k => decide_eq_true (ltD_ord.tr (of_decide_eq_true h) (of_decide_eq_true k)))
    (fun a b => by
      by_cases h : ltD b a
      · rw [Bool.or_eq_true]; exact .inr (decide_eq_true (ltD_ord.asy h))
      · rw [Bool.or_eq_true]; exact .inl (decide_eq_true h)) l
  have h2 := List.mergeSort_perm l (fun a b : Dc => decide (¬ ltD b a))
  refine ⟨_, ?_, h2⟩
  have h3 := h.perm h2.symm
  refine (h1.and h3).imp fun {a b} h => ?_
  rcases sLt_tri a.1 b.1 with e | e | e
  · exact e
  · exact absurd e h.2
  · exact absurd e (of_decide_eq_true h.1)
theorem srtD_sd {l : List Dc} (h : Dif l) : SD (srtD l) ∧ (srtD l).Perm l := by
  obtain ⟨ds, h1, h2⟩ := srt_ex h
  rw [srtD_eq h1 h2]
  exact ⟨h1, h2⟩
theorem srtD_self {ds : List Dc} (h : SD ds) : srtD ds = ds := srtD_eq h (.refl _)
open Classical in
/-- what is wrong with lists that are to be one -/
noncomputable def mE (ls : List (List Dc)) : Int := if ∀ l ∈ ls, SD l then (if Dif ls.flatten then 0 else 4) else 1
open Classical in
/-- the lists as one -/
noncomputable def mD (ls : List (List Dc)) : List Dc := if mE ls = 0 then srtD ls.flatten else []
theorem mE_1 {ls : List (List Dc)} {l : List Dc} (h : l ∈ ls) (k : ¬ SD l) : mE ls = 1 := by unfold mE; rw [if_neg (fun q => k (q l h))]
theorem mE_4 {ls : List (List Dc)} (h : ∀ l ∈ ls, SD l) (k : ¬ Dif ls.flatten) : mE ls = 4 := by unfold mE; rw [if_pos h, if_neg k]
theorem mE_0 {ls : List (List Dc)} (h : ∀ l ∈ ls, SD l) (k : Dif ls.flatten) : mE ls = 0 := by unfold mE; rw [if_pos h, if_pos k]
theorem mE_ok {ls : List (List Dc)} (h : mE ls = 0) : (∀ l ∈ ls, SD l) ∧ Dif ls.flatten := by
  unfold mE at h
  split at h
  · split at h
    · exact ⟨by assumption, by assumption⟩
    · cases h
  · cases h
theorem mD_ok {ls : List (List Dc)} {ds : List Dc} (h : ∀ l ∈ ls, SD l) (k : SD ds) (p : ds.Perm ls.flatten) : mE ls = 0 ∧ mD ls = ds := by
  have := mE_0 h (k.dif.perm p)
  refine ⟨this, ?_⟩
  unfold mD
  rw [if_pos this]
  exact srtD_eq k p
theorem mD_len {ls : List (List Dc)} {N : Nat} (h : ls.flatten.length ≤ N) : (mD ls).length ≤ N := by
  unfold mD
  split
  · rename_i h0
    rw [(srtD_sd (mE_ok h0).2).2.length_eq]; exact h
  · exact Nat.zero_le _
theorem mD_no {ls : List (List Dc)} (h : mE ls ≠ 0) : mD ls = [] := by unfold mD; rw [if_neg h]
end Go.Proofs.Ytllpcjdljgmilaa

namespace Go.Proofs.Ytllpcjdljgmilaa
open Go.RowKit
def depMu (l : List Oper) (K mu i : Nat) : Bool := Nat.blt mu K && match l[mu]? with | some om => dep2 l om i | none => false
def OpsOK9 (P : Program) (ops : Array Oper) (n : Fr) (L : List (Nat × Value)) (I1 I2 : World → Prop) (R1 R2 : Nat → Value → World → Prop) (l0 : List Oper) (K : Nat) (mu : Nat) : Nat → List Oper → Prop
  | _, [] => True
  | i, o :: r => (Nat.beq i mu = false → match depMu l0 K mu i with
      | true => ∀ w', I1 w' → AllF R1 w' (slotsD l0 K i o) fun M => OpOK P ops n (M ++ L) o w' (R1 (o.dst.getD 0))
      | false => ∀ w', I2 w' → AllF R2 w' (slotsD l0 K i o) fun M => OpOK P ops n (M ++ L) o w' (R1 (o.dst.getD 0))) ∧ OpsOK9 P ops n L I1 I2 R1 R2 l0 K mu (i + 1) r
section late
variable {P : Program} {Q : Exit → Act → World → Prop} {n : Fr} {L : List (Nat × Value)} {w : World} {l : List Oper} {K mu : Nat} {I1 I2 : World → Prop} {R1 R : Nat → Value → World → Prop}
end late
section
variable {P : Program} {ops : Array Oper} {n : Fr} {L : List (Nat × Value)} {w : World} {ty : TypeId} {pos : String} {after : Array Edge} {dst : Option Nat}
end
end Go.Proofs.Ytllpcjdljgmilaa

namespace Go.Proofs.Ytllpcjdljgmilaa
open Go.RowKit

def edgesB (l : List Oper) : Bool := (List.range l.length).all fun i => match l[i]? with
  | none => false
  | some o => o.guard.isNone && o.after.toList.all fun e => !Region.binds .any e || decide (e.on < i)
def setB (S : Nat → Bool) (i : Nat) : Nat → Bool := fun j => if j = i then true else S j
/-- one operation runs, and the invariant holds behind it -/
def StepI (P : Program) (n : Fr) (o : Oper) (Inv : List (Nat × Value) → World → Prop) (L' : List (Nat × Value)) (w' : World) : Prop :=
  (∃ d v w'', o.dst = some d ∧ (execOp (ev n L') o).run P w' = .ok (.value v) w'' ∧ Inv ((d, v) :: L') w'') ∨
  (∃ w'', o.dst = none ∧ (execOp (ev n L') o).run P w' = .ok .skip w'' ∧ Inv L' w'') ∨
  (∃ d f args, o.dst = some d ∧ (execOp (ev n L') o).run P w' = .ok (.enter f (List.toArray args)) w' ∧ Rt P f args w' fun v w'' => Inv ((d, v) :: L') w'')
section
variable {P : Program} {Q : Exit → Act → World → Prop} {n : Fr} {L : List (Nat × Value)} {w : World} {l : List Oper}
theorem inv_any {Inv : (Nat → Bool) → List (Nat × Value) → World → Prop} (hwf : edgesB l = true)
    (hstep : ∀ (i : Nat) (o : Oper) (S : Nat → Bool) (L' : List (Nat × Value)) (w' : World), l[i]? = some o → Inv S L' w' → S i = false → (∀ e ∈ o.after, Region.binds .any e = true → S e.on = true) → StepI P n o (Inv (setB S i)) L' w')
    (hend : ∀ L' w', Inv (fun i => decide (i < l.length)) L' w' → Q .normal (mkA n L') w') :
    ∀ (m : Nat) (listed : Array Bool) (L' : List (Nat × Value)) (w' : World), listed.toList.count false = m → listed.size = l.length → Inv (fun i => listed.getD i false) L' w' → wpAny P .any l.toArray Q m listed (mkA n L') w' := by
  have hck := List.all_eq_true.1 hwf
  intro m
  induction m with
  | zero =>
    intro listed L' w' hcount hs hI
    have hall : ∀ i, i < l.length → listed.getD i false = true := fun i hi => by
      have hm : listed[i]'(by omega) ∈ listed.toList := by simp
      cases hb : listed[i]'(by omega) with
      | true => simp [Array.getD, show i < listed.size by omega, hb]
      | false => rw [hb] at hm; exact absurd hcount (Nat.pos_iff_ne_zero.1 (List.count_pos_iff.2 hm))
    have e : (fun i => listed.getD i false) = fun i => decide (i < l.length) := by
      funext i
      by_cases hi : i < l.length
      · rw [hall i hi, decide_eq_true hi]
      · rw [decide_eq_false hi]
        simp [Array.getD, show ¬ i < listed.size by omega]
    rw [e] at hI
    refine ⟨?_, hend L' w' hI⟩
    cases hr : Region.ready .any l.toArray listed with
    | nil => rfl
    | cons i r =>
      exfalso
      obtain ⟨h0, o, ho, _⟩ := mem_ready.1 (show i ∈ Region.ready .any l.toArray listed by rw [hr]; simp)
      rw [List.getElem?_toArray] at ho
      have hil : i < l.length := (List.getElem?_eq_some_iff.1 ho).1
      have := hall i hil
      rw [← getD_true_false (by omega), h0] at this
      cases this
  | succ m ih =>
    intro listed L' w' hcount hs hI
    have hn0 : ∃ i, i < l.length ∧ listed.getD i true = false := by
      have hpos : 0 < listed.toList.count false := by omega
      obtain ⟨i, hi, hb⟩ := List.getElem_of_mem (List.count_pos_iff.1 hpos)
      rw [Array.length_toList] at hi
      refine ⟨i, by omega, ?_⟩
      rw [Array.getElem_toList] at hb
      simp [Array.getD, hi, hb]
    obtain ⟨i0, hi0, hmin⟩ := exists_least (p := fun i => i < l.length ∧ listed.getD i true = false) hn0
    have hready : i0 ∈ Region.ready .any l.toArray listed := by
      refine mem_ready.2 ⟨hi0.2, l[i0]'hi0.1, by rw [List.getElem?_toArray, List.getElem?_eq_getElem hi0.1], fun e he hb => ?_⟩
      have hx := hck i0 (List.mem_range.2 hi0.1)
      rw [List.getElem?_eq_getElem hi0.1] at hx
      simp only [Bool.and_eq_true] at hx
      have he2 := List.all_eq_true.1 hx.2 e (by simpa using he)
      rw [hb] at he2
      simp at he2
      have := hi0.1
      rw [← getD_true_false (by omega)]
      cases hb2 : listed.getD e.on true with
      | true => rfl
      | false => exact absurd (hmin e.on ⟨by omega, hb2⟩) (by omega)
    refine ⟨fun h0 => (by rw [h0] at hready; cases hready), fun i hi => ?_⟩
    obtain ⟨h0, o, ho, hall⟩ := mem_ready.1 hi
    rw [List.getElem?_toArray] at ho
    have hil : i < l.length := (List.getElem?_eq_some_iff.1 ho).1
    have hx := hck i (List.mem_range.2 hil)
    rw [ho] at hx
    simp only [Bool.and_eq_true] at hx
    have hg : o.guard = none := by simpa using hx.1
    have h0f : listed.getD i false = false := by rw [← getD_true_false (by omega)]; exact h0
    have hset : (fun j => (listed.setIfInBounds i true).getD j false) = setB (fun j => listed.getD j false) i := by
      funext j
      unfold setB
      by_cases e : j = i
      · subst e
        simp [Array.getD, show j < listed.size by omega]
      · rw [if_neg e, getD_set_ne false (Ne.symm e)]
    have hcnt : (listed.setIfInBounds i true).toList.count false = m := by
      have hil' : i < listed.size := by omega
      have hfalse : listed.toList[i]? = some false := by
        rw [Array.getElem?_toList, Array.getElem?_eq_getElem hil']
        simp [Array.getD, hil'] at h0
        rw [h0]
      rw [Array.toList_setIfInBounds]
      have := count_set_true (l := listed.toList) (i := i) hfalse
      omega
    have next : ∀ L2 w2, Inv (setB (fun j => listed.getD j false) i) L2 w2 → wpAny P .any l.toArray Q m (listed.setIfInBounds i true) (mkA n L2) w2 := fun L2 w2 h =>
      ih _ L2 w2 hcnt (by simpa using hs) (by rw [hset]; exact h)
    unfold wpOp
    rw [List.getElem?_toArray, ho]
    show if Region.wanted o (yielded l.toArray (mkT n.n L')) = true then _ else _
    rw [if_pos (by unfold Region.wanted; rw [hg])]
    refine .inl ?_
    unfold Oper.wp
    rw [eval_mkA]
    rcases hstep i o _ L' w' ho hI h0f hall with ⟨d, v, w'', hd, hr, hI2⟩ | ⟨w'', hd, hr, hI2⟩ | ⟨d, f, args, hd, hr, hc⟩
    · rw [hr, Oper.upon_value, hd, put_mkA]
      exact next _ _ hI2
    · rw [hr, Oper.upon_skip, hd]
      exact next _ _ hI2
    · rw [hr, Oper.upon_enter, hd]
      refine Calls.mono hc fun e w'' ⟨v, he, hI2⟩ => ?_
      subst he
      show wpAny P .any l.toArray Q m (listed.setIfInBounds i true) ((mkA n L').put (some d) v) w''
      rw [put_mkA]
      exact next _ _ hI2
/-- a region that draws its order, by an invariant -/
theorem cd_inv {id : Nat} (Inv : (Nat → Bool) → List (Nat × Value) → World → Prop) (hm : P.follows .mixedOrders = true) (hwf : edgesB l = true) (h0 : Inv (fun _ => false) L { w with drawn := w.drawn + 1 })
    (hstep : ∀ (i : Nat) (o : Oper) (S : Nat → Bool) (L' : List (Nat × Value)) (w' : World), l[i]? = some o → Inv S L' w' → S i = false → (∀ e ∈ o.after, Region.binds .any e = true → S e.on = true) → StepI P n o (Inv (setB S i)) L' w')
    (hend : ∀ L' w', Inv (fun i => decide (i < l.length)) L' w' → Q .normal (mkA n L') w') : Cd P (.region id l.toArray true) Q n L w := by
  refine ⟨wp_region_any hm ?_⟩
  have := inv_any (Q := Q) hwf hstep hend l.length (Array.replicate l.length false) L { w with drawn := w.drawn + 1 } (by simp) (by simp) (by
    have e : (fun i => (Array.replicate l.length false).getD i false) = fun _ => false := by
      funext i
      by_cases hi : i < l.length <;> simp [Array.getD, hi]
    rw [e]
    exact h0)
  simpa using this
theorem step_ro {d : Nat} {op : Op} {ty : TypeId} {pos : String} {after : Array Edge} {v : Value} {w' w'' : World} {L' : List (Nat × Value)} {Inv : List (Nat × Value) → World → Prop} (h : RO P (ev n L') op w' v w'') (hI : Inv ((d, v) :: L') w'') : StepI P n ⟨some d, op, ty, pos, after, none⟩ Inv L' w' :=
  .inl ⟨d, v, w'', rfl, h _ _ _ _ _, hI⟩
theorem step_rs {op : Op} {ty : TypeId} {pos : String} {after : Array Edge} {w' w'' : World} {L' : List (Nat × Value)} {Inv : List (Nat × Value) → World → Prop} (h : RS P (ev n L') op w' w'') (hI : Inv L' w'') : StepI P n ⟨none, op, ty, pos, after, none⟩ Inv L' w' :=
  .inr (.inl ⟨w'', rfl, h _ _ _ _ _, hI⟩)
/-! ### the values of the slots, by a table: (operation, slot, value) -/
def InvL (L : List (Nat × Value)) (T : List (Nat × Nat × Value)) (S : Nat → Bool) (L' : List (Nat × Value)) : Prop :=
  (∀ t, (∀ p ∈ T, p.2.1 ≠ t) → look L' t = look L t) ∧ (∀ p ∈ T, S p.1 = true → look L' p.2.1 = p.2.2) ∧ ∀ p ∈ T, S p.1 = false → look L' p.2.1 = look L p.2.1
def UniT : List (Nat × Nat × Value) → Prop
  | [] => True
  | p :: r => (∀ q ∈ r, q.1 ≠ p.1 ∧ q.2.1 ≠ p.2.1) ∧ UniT r
theorem uni_eq : ∀ {T : List (Nat × Nat × Value)}, UniT T → ∀ {p q : Nat × Nat × Value}, p ∈ T → q ∈ T → p.1 = q.1 ∨ p.2.1 = q.2.1 → p = q
  | _ :: _, ⟨h1, h2⟩, p, q, hp, hq, he => by
    rcases List.mem_cons.1 hp with rfl | hp' <;> rcases List.mem_cons.1 hq with rfl | hq'
    · rfl
    · rcases he with e | e
      · exact absurd e.symm (h1 _ hq').1
      · exact absurd e.symm (h1 _ hq').2
    · rcases he with e | e
      · exact absurd e (h1 _ hp').1
      · exact absurd e (h1 _ hp').2
    · exact uni_eq h2 hp' hq' he
theorem InvL.put {T : List (Nat × Nat × Value)} {S : Nat → Bool} {L' : List (Nat × Value)} {i d : Nat} {v : Value} (h : InvL L T S L') (hU : UniT T) (hp : (i, d, v) ∈ T) : InvL L T (setB S i) ((d, v) :: L') := by
  refine ⟨fun t ht => ?_, fun p hq hs => ?_, fun p hq hs => ?_⟩
  · rw [look_cons, if_neg (fun e => ht _ hp e.symm)]
    exact h.1 t ht
  · rw [look_cons]
    by_cases e : p.2.1 = d
    · rw [if_pos e, uni_eq hU hq hp (.inr e)]
    · rw [if_neg e]
      refine h.2.1 p hq ?_
      unfold setB at hs
      by_cases e2 : p.1 = i
      · exact absurd (congrArg (·.2.1) (uni_eq hU hq hp (.inl e2))) e
      · rwa [if_neg e2] at hs
  · unfold setB at hs
    by_cases e2 : p.1 = i
    · rw [if_pos e2] at hs; cases hs
    · rw [if_neg e2] at hs
      rw [look_cons, if_neg (fun e => e2 (congrArg (·.1) (uni_eq hU hq hp (.inr e))))]
      exact h.2.2 p hq hs
theorem InvL.skip {T : List (Nat × Nat × Value)} {S : Nat → Bool} {L' : List (Nat × Value)} {i : Nat} (h : InvL L T S L') (hi : ∀ p ∈ T, p.1 ≠ i) : InvL L T (setB S i) L' := by
  refine ⟨h.1, fun p hq hs => h.2.1 p hq ?_, fun p hq hs => h.2.2 p hq ?_⟩ <;> (unfold setB at hs; rwa [if_neg (hi p hq)] at hs)
theorem InvL.get {T : List (Nat × Nat × Value)} {S : Nat → Bool} {L' : List (Nat × Value)} {i d : Nat} {v : Value} (h : InvL L T S L') (hp : (i, d, v) ∈ T) (hs : S i = true) : look L' d = v := h.2.1 _ hp hs
def EdgesOn (S : Nat → Bool) : List Edge → Prop
  | [] => True
  | e :: r => (bif Region.binds .any e then S e.on = true else True) ∧ EdgesOn S r
theorem edges_on {S : Nat → Bool} : ∀ {es : List Edge}, (∀ e ∈ es, Region.binds .any e = true → S e.on = true) → EdgesOn S es
  | [], _ => trivial
  | e :: r, h => by
    refine ⟨?_, edges_on fun e' he => h e' (.tail _ he)⟩
    cases hb : Region.binds .any e with
    | true => exact h e (.head _) hb
    | false => trivial
def StepsT (P : Program) (n : Fr) (L : List (Nat × Value)) (T : List (Nat × Nat × Value)) (Mem : (Nat → Bool) → World → Prop) : Nat → List Oper → Prop
  | _, [] => True
  | i, o :: r => (∀ S L' w', InvL L T S L' → Mem S w' → S i = false → EdgesOn S o.after.toList → StepI P n o (fun L2 w2 => InvL L T (setB S i) L2 ∧ Mem (setB S i) w2) L' w') ∧ StepsT P n L T Mem (i + 1) r
theorem stepsT_at {T : List (Nat × Nat × Value)} {Mem : (Nat → Bool) → World → Prop} : ∀ {r : List Oper} {k : Nat}, StepsT P n L T Mem k r → ∀ (i : Nat) (o : Oper), r[i]? = some o → ∀ S L' w', InvL L T S L' → Mem S w' → S (k + i) = false → EdgesOn S o.after.toList → StepI P n o (fun L2 w2 => InvL L T (setB S (k + i)) L2 ∧ Mem (setB S (k + i)) w2) L' w'
  | [], _, _, i, o, h => by simp at h
  | x :: r, k, ⟨h1, h2⟩, 0, o, h => by
    simp only [List.getElem?_cons_zero, Option.some.injEq] at h
    subst h
    exact h1
  | x :: r, k, ⟨h1, h2⟩, i + 1, o, h => by
    have := stepsT_at h2 i o (by simpa using h)
    rwa [show k + 1 + i = k + (i + 1) by omega] at this
theorem look_tab {T : List (Nat × Nat × Value)} (hU : UniT T) {L L' : List (Nat × Value)} {S : Nat → Bool} (h : InvL L T S L') (hS : ∀ p ∈ T, S p.1 = true) (t : Nat) : look L' t = look (T.map (fun p => (p.2.1, p.2.2)) ++ L) t := by
  have key : ∀ T' : List (Nat × Nat × Value), (∀ p ∈ T', p ∈ T) → (∃ p ∈ T', p.2.1 = t) ∨ (∀ p ∈ T', p.2.1 ≠ t) → (∃ p ∈ T', p.2.1 = t ∧ look (T'.map (fun p => (p.2.1, p.2.2)) ++ L) t = p.2.2) ∨ ((∀ p ∈ T', p.2.1 ≠ t) ∧ look (T'.map (fun p => (p.2.1, p.2.2)) ++ L) t = look L t) := by
    intro T'
    induction T' with
    | nil => exact fun _ _ => .inr ⟨fun p hp => by simp at hp, rfl⟩
    | cons q r ih =>
      intro hsub _
      rw [List.map_cons, List.cons_append, look_cons]
      by_cases e : q.2.1 = t
      · rw [if_pos e.symm]
        exact .inl ⟨q, .head _, e, rfl⟩
      · rw [if_neg (Ne.symm e)]
        rcases ih (fun p hp => hsub p (.tail _ hp)) (by by_cases hx : ∃ p ∈ r, p.2.1 = t; exact .inl hx; exact .inr fun p hp he => hx ⟨p, hp, he⟩) with ⟨p, hp, h1, h2⟩ | ⟨h1, h2⟩
        · exact .inl ⟨p, .tail _ hp, h1, h2⟩
        · refine .inr ⟨fun p hp => ?_, h2⟩
          rcases List.mem_cons.1 hp with rfl | hp2
          · exact e
          · exact h1 p hp2
  rcases key T (fun _ hp => hp) (by by_cases hx : ∃ p ∈ T, p.2.1 = t; exact .inl hx; exact .inr fun p hp he => hx ⟨p, hp, he⟩) with ⟨p, hp, h1, h2⟩ | ⟨h1, h2⟩
  · rw [h2, ← h1]
    exact h.2.1 p hp (hS p hp)
  · rw [h2]
    exact h.1 t h1
theorem cd_invT {id : Nat} (T : List (Nat × Nat × Value)) (Mem : (Nat → Bool) → World → Prop) (hm : P.follows .mixedOrders = true) (hwf : edgesB l = true) (hU : UniT T) (hlt : ∀ p ∈ T, p.1 < l.length) (h0 : Mem (fun _ => false) { w with drawn := w.drawn + 1 })
    (hstep : StepsT P n L T Mem 0 l) (hend : ∀ w', Mem (fun i => decide (i < l.length)) w' → Q .normal (mkA n (T.map (fun p => (p.2.1, p.2.2)) ++ L)) w') : Cd P (.region id l.toArray true) Q n L w := by
  refine cd_inv (fun S L' w' => InvL L T S L' ∧ Mem S w') hm hwf ⟨⟨fun _ _ => rfl, fun _ _ h => (by cases h), fun _ _ _ => rfl⟩, h0⟩ (fun i o S L' w' ho ⟨hI, hM⟩ hS hE => ?_) fun L' w' ⟨hI, hM⟩ => ?_
  · have := stepsT_at hstep i o ho S L' w' hI hM (by rw [Nat.zero_add]; exact hS) (edges_on fun e he => hE e (by simpa using he))
    rwa [Nat.zero_add] at this
  · have h := hend w' hM
    have e : mkA n L' = mkA n (T.map (fun p => (p.2.1, p.2.2)) ++ L) := by
      unfold mkA
      rw [mkT_congr fun t _ => look_tab hU hI (fun p hp => decide_eq_true (hlt p hp)) t]
    rw [e]
    exact h
end
end Go.Proofs.Ytllpcjdljgmilaa

namespace Go.Proofs.Ytllpcjdljgmilaa
open Go.RowKit

/-- a row of the call's own, from an offset on, of one cell an element -/
def OwnO (w : World) (base : Nat) (e : TypeId) (A : Option Addr) (n c : Nat) (xs : List Value) : Prop :=
  xs.length = n ∧ n ≤ c ∧ c ≤ maxLen ∧ ∃ g off cs, A = some ⟨g, off, none⟩ ∧ base ≤ g ∧ Blk w g e cs ∧ off + c ≤ cs.size ∧ (cs.toList.drop off).take n = xs
/-! ### a drawn region by an invariant, operation by operation -/
section
variable {P : Program} {Q : Exit → Act → World → Prop} {n : Fr} {L : List (Nat × Value)} {w : World} {l : List Oper}
def StepsI (P : Program) (n : Fr) (Inv : (Nat → Bool) → List (Nat × Value) → World → Prop) : Nat → List Oper → Prop
  | _, [] => True
  | i, o :: r => (∀ S L' w', Inv S L' w' → S i = false → EdgesOn S o.after.toList → StepI P n o (Inv (setB S i)) L' w') ∧ StepsI P n Inv (i + 1) r
end
section
variable {P : Program} {ρ : Operand → Value} {w : World} {t : TypeId} {x : Operand} {e g off c n : Nat}
end
end Go.Proofs.Ytllpcjdljgmilaa

namespace Go.Proofs.Ytllpcjdljgmilaa
open Go.RowKit Go.ChangeShapes Go.WideShapes Go.ChangeAt
/-- rows in blocks of their own -/
def Apart (A B : Option Addr) : Prop := ∀ p, A.map (·.block) = some p → ∀ q, B.map (·.block) = some q → p ≠ q
/-- an own row behind a change of another's block -/
theorem own_aside {w w' : World} {base e s n c : Nat} {A B : Option Addr} {xs : List Value} (h : w.ownsRow base e s (.slice A n c) n xs) (hg : w.grownBy w' (B.map (·.block))) (hne : Apart B A) : w'.ownsRow base e s (.slice A n c) n xs := by
  refine ⟨h.1, ?_⟩
  rcases h.2 with h0 | ⟨g, cap, cur, h1, h2, h3, h4⟩
  · exact .inl h0
  · refine .inr ⟨g, cap, cur, h1, h2, ?_, h4⟩
    simp only [Value.slice.injEq] at h1
    obtain ⟨rfl, _, _⟩ := h1
    have hlt : g < w.heap.size := by
      rcases Nat.lt_or_ge g w.heap.size with a | a
      · exact a
      · rw [Array.getElem?_eq_none a] at h3; cases h3
    exact (hg.block g hlt fun e => hne g e.symm g rfl rfl).trans h3
theorem own_none {w : World} {base e s n c : Nat} {xs : List Value} (h : w.ownsRow base e s (.slice none n c) n xs) : c = 0 := by
  rcases h.2 with ⟨h1, _⟩ | ⟨g, cap, cur, hv, _⟩
  · simp only [Value.slice.injEq] at h1; omega
  · simp only [Value.slice.injEq] at hv; cases hv.1
theorem own_apart {w : World} {b1 b2 e1 e2 s1 s2 n1 n2 c1 c2 : Nat} {A1 A2 : Option Addr} {xs1 xs2 : List Value} (h1 : w.ownsRow b1 e1 s1 (.slice A1 n1 c1) n1 xs1) (h2 : w.ownsRow b2 e2 s2 (.slice A2 n2 c2) n2 xs2) (hne : e1 ≠ e2) : Apart A1 A2 := fun p hp q hq e => by
  rcases h1.2 with ⟨k1, _⟩ | ⟨g1, cap1, cur1, k1, _, k2, _⟩
  · simp only [Value.slice.injEq] at k1; rw [k1.1] at hp; cases hp
  · rcases h2.2 with ⟨j1, _⟩ | ⟨g2, cap2, cur2, j1, _, j2, _⟩
    · simp only [Value.slice.injEq] at j1; rw [j1.1] at hq; cases hq
    · simp only [Value.slice.injEq] at k1 j1
      rw [k1.1] at hp
      rw [j1.1] at hq
      cases hp
      cases hq
      have e : g1 = g2 := e
      rw [e, j2] at k2
      simp only [Option.some.injEq, Obj.cells.injEq] at k2
      exact hne k2.2.1.symm
section
variable {P : Program} {ops : Array Oper} {Q : Exit → Act → World → Prop} {rest : List Oper} {n : Fr} {L : List (Nat × Value)} {w : World} {ty : TypeId} {pos : String} {after : Array Edge} {d : Nat} {t : TypeId} {s x y : Operand}
end
end Go.Proofs.Ytllpcjdljgmilaa

namespace Go.Proofs.Ytllpcjdljgmilaa
open Go.RowKit Go.ChangeShapes Go.WideShapes Go.ChangeAt
section
variable {P : Program} {ρ : Operand → Value} {x y : Operand} {t yt : TypeId} {s s' : ByteArray} {w : World}
theorem ro_geqS (hx : ρ x = .string s) (hy : ρ y = .string s') : RO P ρ (.binOp .geq t x y yt) w (.bool !(Op.bytesLess s.toList s'.toList)) w :=
  ro_bin hx hy (by unfold eqGuard; rfl) (by simp [binOp, Op.stringOp])
end
/-- what the library's comparison tells -/
def cmpS (a b : ByteArray) : Int := Lib.compareBytes a.toList b.toList
theorem cmp_lt : ∀ {a b : List UInt8}, Lib.compareBytes a b < 0 ↔ a < b
  | [], [] => by simp [Lib.compareBytes]
  | [], _ :: _ => by simp [Lib.compareBytes]
  | _ :: _, [] => by simp [Lib.compareBytes]
  | a :: r, b :: s => by
    unfold Lib.compareBytes
    rw [List.cons_lt_cons_iff]
    by_cases h : a < b
    · rw [if_pos h]; simp [h]
    · rw [if_neg h]
      by_cases k : b < a
      · rw [if_pos k]
        have : ¬ a = b := fun e => by subst e; exact absurd k (by simp)
        simp [h, this]
      · rw [if_neg k, cmp_lt]
        have : a = b := UInt8.le_antisymm (UInt8.not_lt.1 k) (UInt8.not_lt.1 h)
        simp [h, this]
theorem cmpS_lt {a b : ByteArray} : cmpS a b < 0 ↔ sLt a b := cmp_lt
end Go.Proofs.Ytllpcjdljgmilaa

namespace Go.Proofs.Ytllpcjdljgmilaa
open Go.RowKit Go.ChangeShapes Go.WideShapes Go.ChangeAt
section
variable {P : Program} {ops : Array Oper} {n : Fr} {L : List (Nat × Value)} {w : World} {ty : TypeId} {pos : String} {after : Array Edge} {x y : Operand} {t : TypeId}
theorem ok_gcallF {f : FuncId} {l : List Operand} {caps : List Value} {ats : Array TypeId} {R : Value → World → Prop} {dst : Option Nat} {j : Nat} {b : Bool} (hg : wantQ ops n L j = .bool b) (hx : ev n L x = .func (.func f) #[] caps.toArray) (hf : callable P f = true) (hc : Rt P f (l.map (ev n L) ++ caps) w fun v w' => From w w' ∧ R v w') :
    OpOK P ops n L ⟨dst, .call { callee := .value x, args := l.toArray, argTypes := ats }, ty, pos, after, some (j, b)⟩ w R :=
  .inl ⟨by show (yielded ops (mkT n.n L) j == some b) = true; rw [yielded_mkT hg]; simp, .inr ⟨f, l.map (ev n L) ++ caps, by rw [exec_callF hx, run_call hf], hc⟩⟩
/-- one element of two cells written over -/
theorem rs_putOwnD {α : Type} {f : α → List Value} (hf : ∀ x, (f x).length = 2) (hone : ∀ x, ∀ u ∈ f x, u.oneCell' = true) {base e m c g i : Nat} {xs : List α} {d : α} (ht : sizeQ P t = some 2) (hx : ev n L x = .pointer (some ⟨g, 0 + i * 2, none⟩)) (hy : ev n L y = .agg (f d).toArray)
    (ho : w.ownsRow base e 2 (.slice (some ⟨g, 0, none⟩) m c) m (xs.flatMap f)) (hi : i < m) :
    ∃ w', RS P (ev n L) (.store t x y) w w' ∧ Only g w w' ∧ w'.ownsRow base e 2 (.slice (some ⟨g, 0, none⟩) m c) m ((xs.set i d).flatMap f) := by
  have hxl : xs.length = m := (RowK.own hf (by decide) ho).1
  have ho' := ho
  obtain ⟨g', cur, hA, hg, hbk, h2, h3, h4, h5⟩ := own_blk ho' (by omega)
  simp only [Option.some.injEq, Addr.mk.injEq, and_true] at hA
  subst hA
  rw [Nat.zero_add] at hx
  have hv : i * 2 + (f d).length ≤ m * 2 := by rw [hf]; omega
  have hle : m * 2 ≤ cur.length := by rw [h4]; exact Nat.mul_le_mul_right _ h2
  refine ⟨_, rs_storeA (by rw [hf]; exact ht) hx hy (hone d) (hbk.there (i * 2) (f d).length (by simp; omega)), Only.sets (f d) (i * 2) w, ?_⟩
  have := own_over ho (by omega) hv fun cur' hb' hl => Blk.sets (f d) (i * 2) hb' hl
  rwa [over_flat hf xs i (by omega)] at this
end
theorem own_rd {α : Type} {f : α → List Value} (hf : ∀ x, (f x).length = 2) {w : World} {base e n c g i : Nat} {xs : List α} (d : α) (h : w.ownsRow base e 2 (.slice (some ⟨g, 0, none⟩) n c) n (xs.flatMap f)) (hi : i < n) : w.rangeAt g (0 + i * 2) (f (SM.G d xs i)) := by
  obtain ⟨hl, hr⟩ := RowK.own hf (by decide) h
  obtain ⟨b, o, e, hc⟩ := hr (by omega)
  cases e
  rw [SM.G_get d (by omega)]
  exact hc i (by omega)
theorem dV_each (x : Dc) : ∀ u ∈ dV x, u.oneCell' = true := by simp [dV, Value.oneCell']
theorem own_leng {α : Type} {f : α → List Value} (hf : ∀ x, (f x).length = 2) {w : World} {base e n c : Nat} {A : Option Addr} {xs : List α} (h : w.ownsRow base e 2 (.slice A n c) n (xs.flatMap f)) : xs.length = n := (RowK.own hf (by decide) h).1
theorem bc_lt {a b : Dc} : (cmpS a.1 b.1 < 0) ↔ ltD a b := cmpS_lt
end Go.Proofs.Ytllpcjdljgmilaa

namespace Go.Proofs
open Go.Shelf
def Try.lays128_ren : Go.Shelf.Ren := ⟨fun | 128 => 24 | n => n, fun | 51 => 53 | 3 => 3 | 4 => 4 | 46 => 49 | 5 => 5 | 9 => 9 | n => n, fun | n => n⟩
def Try.lays125_ren : Go.Shelf.Ren := ⟨fun | 125 => 20 | 128 => 24 | 129 => 25 | n => n, fun | 46 => 49 | 3 => 3 | 51 => 53 | 53 => 55 | 4 => 4 | 5 => 5 | 9 => 9 | n => n, fun | n => n⟩
theorem Try.lays125 : Go.Proofs.Lays.n125 Try.prog Try.lays125_ren := {
  mixed := by kernel_rfl
  f125 := Try.func20.trans (congrArg some (by kernel_rfl))
  f128 := Try.func24.trans (congrArg some (by kernel_rfl))
  f129 := Try.func25.trans (congrArg some (by kernel_rfl))
  t3 := Try.underlying3
  a3 := Try.isAgg3
  z3 := Try.sizeOf3
  v3 := Try.zeroValue3
  t4 := Try.underlying4
  a4 := Try.isAgg4
  z4 := Try.sizeOf4
  v4 := Try.zeroValue4
  t5 := Try.underlying5
  a5 := Try.isAgg5
  z5 := Try.sizeOf5
  v5 := Try.zeroValue5
  t9 := Try.underlying9
  a9 := Try.isAgg9
  z9 := Try.sizeOf9
  v9 := Try.zeroValue9
  t46 := Try.underlying49
  a46 := Try.isAgg49
  z46 := Try.sizeOf49
  v46 := Try.zeroValue49
  t51 := Try.underlying53
  a51 := Try.isAgg53
  z51 := Try.sizeOf53
  v51 := Try.zeroValue53
  t53 := Try.underlying55
  a53 := Try.isAgg55
  z53 := Try.sizeOf55
  v53 := Try.zeroValue55 }
/-- bits.Len: "Len returns the minimum number of bits required to represent x; the result is 0 for x == 0.": IT RETURNS 'Lib.bitLen x'; the world is as it was. (A uint has 64 bits in the model.) ITS CALLEE bits.Len64 IS MET BY ITS OWN CONTRACT OFF THE SHELF (lay that first). (LAID: no walk: one application.) -/
theorem Try.bits_Len (x : Int) (w : World) (h0 : 0 ≤ x) (h1 : x ≤ 18446744073709551615) :
    Calls Try.prog 20 #[.int .u64 x] w fun e w' => e = .returned (.int .i64 (Lib.bitLen x.toNat)) ∧ w' = w := Any.bits_Len Try.lays125 x w h0 h1
def Try.lays213_ren : Go.Shelf.Ren := ⟨fun | 213 => 23 | 265 => 28 | n => n, fun | 9 => 9 | 3 => 3 | n => n, fun | n => n⟩
def Try.lays106_ren : Go.Shelf.Ren := ⟨fun | 106 => 19 | 213 => 23 | 265 => 28 | n => n, fun | 9 => 9 | 3 => 3 | n => n, fun | n => n⟩
theorem Try.lays106 : Go.Proofs.Lays.n106 Try.prog Try.lays106_ren := {
  mixed := by kernel_rfl
  f106 := Try.func19.trans (congrArg some (by kernel_rfl))
  f213 := Try.func23.trans (congrArg some (by kernel_rfl))
  f265 := Try.func28.trans (congrArg some (by kernel_rfl))
  t3 := Try.underlying3
  a3 := Try.isAgg3
  z3 := Try.sizeOf3
  v3 := Try.zeroValue3
  t9 := Try.underlying9
  a9 := Try.isAgg9
  z9 := Try.sizeOf9
  v9 := Try.zeroValue9 }
open Go.RowKit in
/-- strings.Compare: "Compare returns an integer comparing two strings lexicographically. The result will be 0 if a == b, -1 if a < b, and +1 if a > b.": IT RETURNS 'Lib.compareBytes a b'; the world is as it was. (LAID: no walk: one application.) -/
theorem Try.strings_Compare (a b : ByteArray) (w : World) :
    Calls Try.prog 19 #[.string a, .string b] w fun e w' => e = .returned (.int .i64 (Lib.compareBytes a.data.toList b.data.toList)) ∧ w' = w := Any.strings_Compare Try.lays106 a b w
def Try.lays129_ren : Go.Shelf.Ren := ⟨fun | 129 => 25 | n => n, fun | 53 => 55 | 3 => 3 | 4 => 4 | 46 => 49 | 5 => 5 | 9 => 9 | n => n, fun | n => n⟩
end Go.Proofs
