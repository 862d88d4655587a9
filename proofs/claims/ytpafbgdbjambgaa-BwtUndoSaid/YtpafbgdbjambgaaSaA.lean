/- Counting; lists of numbers in their order; suffixes of a text that ends with its only least symbol. -/
import Derived.Test.YtpafbgdbjambgaaBase
namespace Go.Proofs.Ytpafbgdbjambgaa.SA
open Classical
/-! ### counting -/
noncomputable def cnt : Nat → (Nat → Prop) → Nat
  | 0, _ => 0
  | n + 1, p => cnt n p + if p n then 1 else 0
theorem cnt_le_n (n : Nat) (p : Nat → Prop) : cnt n p ≤ n := by
  induction n with
  | zero => exact Nat.le_refl _
  | succ n ih => unfold cnt; split <;> omega
theorem cnt_mono {n : Nat} {p q : Nat → Prop} (h : ∀ i, i < n → p i → q i) : cnt n p ≤ cnt n q := by
  induction n with
  | zero => exact Nat.le_refl _
  | succ n ih =>
    have ih := ih fun i hi => h i (by omega)
    have := h n (by omega)
    unfold cnt
    by_cases a : p n
    · rw [if_pos a, if_pos (this a)]; omega
    · rw [if_neg a]; omega
theorem cnt_congr {n : Nat} {p q : Nat → Prop} (h : ∀ i, i < n → (p i ↔ q i)) : cnt n p = cnt n q :=
  Nat.le_antisymm (cnt_mono fun i hi => (h i hi).1) (cnt_mono fun i hi => (h i hi).2)
theorem cnt_or {n : Nat} {p q : Nat → Prop} (h : ∀ i, i < n → p i → ¬ q i) : cnt n (fun i => p i ∨ q i) = cnt n p + cnt n q := by
  induction n with
  | zero => rfl
  | succ n ih =>
    have ih := ih fun i hi => h i (by omega)
    have := h n (by omega)
    unfold cnt
    rw [ih]
    by_cases a : p n
    · rw [if_pos a, if_pos (.inl a), if_neg (this a)]; omega
    · by_cases b : q n
      · rw [if_neg a, if_pos b, if_pos (.inr b)]; omega
      · rw [if_neg a, if_neg b, if_neg (fun c => c.elim a b)]; omega
theorem cnt_is {n x : Nat} (hx : x < n) : cnt n (fun i => i = x) = 1 := by
  induction n with
  | zero => omega
  | succ n ih =>
    unfold cnt
    by_cases h : n = x
    · subst h
      rw [if_pos rfl, cnt_congr (q := fun _ => False) (fun i hi => ⟨fun e => by omega, fun e => e.elim⟩)]
      have : ∀ m, cnt m (fun _ => False) = 0 := by
        intro m
        induction m with
        | zero => rfl
        | succ m ih => unfold cnt; rw [ih, if_neg (fun h => h)]
      rw [this]
    · rw [if_neg h, ih (by omega)]
theorem cnt_add {n x : Nat} {p q : Nat → Prop} (hx : x < n) (hp : ¬ p x) (h : ∀ i, i < n → (q i ↔ p i ∨ i = x)) : cnt n q = cnt n p + 1 := by
  rw [cnt_congr h, cnt_or (p := p) (q := fun i => i = x) (fun i _ a b => hp (by subst b; exact a)), cnt_is hx]
theorem cnt_lt {n x : Nat} {p q : Nat → Prop} (h : ∀ i, i < n → p i → q i) (hx : x < n) (hp : ¬ p x) (hq : q x) : cnt n p < cnt n q := by
  have := cnt_add (p := p) (q := fun i => p i ∨ i = x) hx hp (fun i _ => Iff.rfl)
  have h2 : cnt n (fun i => p i ∨ i = x) ≤ cnt n q := cnt_mono fun i hi a => a.elim (h i hi) (fun e => e ▸ hq)
  omega
theorem cnt_full {n : Nat} {p : Nat → Prop} (h : cnt n p = n) : ∀ i, i < n → p i := by
  intro i hi
  by_cases a : p i
  · exact a
  · have h1 := cnt_lt (p := p) (q := fun _ => True) (fun _ _ _ => trivial) hi a trivial
    have := cnt_le_n n (fun _ => True)
    omega
theorem surj {n : Nat} {f : Nat → Nat} (hf : ∀ i, i < n → f i < n) (hi : ∀ i j, i < n → j < n → f i = f j → i = j) : ∀ r, r < n → ∃ i, i < n ∧ f i = r := by
  have key : ∀ m, m ≤ n → cnt n (fun r => ∃ i, i < m ∧ f i = r) = m := by
    intro m
    induction m with
    | zero =>
      intro _
      have := cnt_mono (n := n) (p := fun r => ∃ i, i < 0 ∧ f i = r) (q := fun r => r < 0 ∧ False) (fun r _ ⟨i, h, _⟩ => by omega)
      have h2 : ∀ k, cnt k (fun r => r < 0 ∧ False) = 0 := by
        intro k
        induction k with
        | zero => rfl
        | succ k ih => unfold cnt; rw [ih, if_neg (fun h => h.2)]
      rw [h2] at this
      omega
    | succ m ih =>
      intro hm
      rw [cnt_add (p := fun r => ∃ i, i < m ∧ f i = r) (x := f m) (hf m (by omega)) (fun ⟨i, h1, h2⟩ => by have := hi i m (by omega) (by omega) h2; omega), ih (by omega)]
      intro r _
      constructor
      · rintro ⟨i, h1, h2⟩
        by_cases e : i = m
        · subst e; exact .inr h2.symm
        · exact .inl ⟨i, by omega, h2⟩
      · rintro (⟨i, h1, h2⟩ | h)
        · exact ⟨i, by omega, h2⟩
        · exact ⟨m, by omega, h.symm⟩
  exact cnt_full (key n (Nat.le_refl _))
/-! ### lists of numbers in their order -/
def lx : List Nat → List Nat → Prop
  | [], [] => False
  | [], _ :: _ => True
  | _ :: _, [] => False
  | a :: x, b :: y => a < b ∨ (a = b ∧ lx x y)
theorem lx_irr : ∀ x, ¬ lx x x
  | [], h => h
  | a :: x, h => by
    rcases h with h | ⟨_, h⟩
    · omega
    · exact lx_irr x h
theorem lx_trans : ∀ {x y z : List Nat}, lx x y → lx y z → lx x z
  | [], [], _, h, _ => h.elim
  | [], _ :: _, [], _, h => h.elim
  | [], _ :: _, _ :: _, _, _ => trivial
  | _ :: _, [], _, h, _ => h.elim
  | _ :: _, _ :: _, [], _, h => h.elim
  | a :: x, b :: y, c :: z, h, k => by
    rcases h with h | ⟨rfl, h⟩
    · rcases k with k | ⟨rfl, k⟩
      · exact .inl (by omega)
      · exact .inl h
    · rcases k with k | ⟨rfl, k⟩
      · exact .inl k
      · exact .inr ⟨rfl, lx_trans h k⟩
theorem lx_tri : ∀ {x y : List Nat}, x ≠ y → lx x y ∨ lx y x
  | [], [], h => (h rfl).elim
  | [], _ :: _, _ => .inl trivial
  | _ :: _, [], _ => .inr trivial
  | a :: x, b :: y, h => by
    rcases Nat.lt_trichotomy a b with h1 | rfl | h1
    · exact .inl (.inl h1)
    · rcases lx_tri (x := x) (y := y) (fun e => h (by rw [e])) with h2 | h2
      · exact .inl (.inr ⟨rfl, h2⟩)
      · exact .inr (.inr ⟨rfl, h2⟩)
    · exact .inr (.inl h1)
theorem lx_asymm {x y : List Nat} (h : lx x y) : ¬ lx y x := fun k => lx_irr _ (lx_trans h k)
theorem lx_cons {a : Nat} {x y : List Nat} : lx (a :: x) (a :: y) ↔ lx x y :=
  ⟨fun h => h.elim (fun h => absurd h (Nat.lt_irrefl _)) (fun h => h.2), fun h => .inr ⟨rfl, h⟩⟩
theorem lx_head {a b : Nat} {x y : List Nat} (h : a < b) : lx (a :: x) (b :: y) := .inl h
theorem lx_head_no {a b : Nat} {x y : List Nat} (h : b < a) : ¬ lx (a :: x) (b :: y) := fun k => by
  rcases k with k | ⟨k, _⟩ <;> omega
/-! ### suffixes of a text that ends with its only least symbol -/
structure Txt (n : Nat) (t : Nat → Nat) : Prop where
  pos : 0 < n
  last : t (n - 1) = 0
  more : ∀ i, i + 1 < n → 0 < t i
section
variable {n : Nat} {t : Nat → Nat}
/-- the suffix i is less than the suffix j -/
def sl (n : Nat) (t : Nat → Nat) (i j : Nat) : Prop := ∃ k, (∀ m, m < k → t (i + m) = t (j + m)) ∧ i + k < n ∧ j + k < n ∧ t (i + k) < t (j + k)
theorem sl_iff {i j : Nat} : sl n t i j ↔ (i < n ∧ j < n ∧ t i < t j) ∨ (t i = t j ∧ sl n t (i + 1) (j + 1)) := by
  constructor
  · rintro ⟨k, h1, h2, h3, h4⟩
    cases k with
    | zero => exact .inl ⟨h2, h3, h4⟩
    | succ k =>
      refine .inr ⟨h1 0 (by omega), k, fun m hm => ?_, by omega, by omega, ?_⟩
      · have := h1 (m + 1) (by omega)
        rw [show i + (m + 1) = i + 1 + m by omega, show j + (m + 1) = j + 1 + m by omega] at this
        exact this
      · rw [show i + (k + 1) = i + 1 + k by omega, show j + (k + 1) = j + 1 + k by omega] at h4
        exact h4
  · rintro (⟨h1, h2, h3⟩ | ⟨h, k, h1, h2, h3, h4⟩)
    · exact ⟨0, fun m hm => by omega, h1, h2, h3⟩
    · refine ⟨k + 1, fun m hm => ?_, by omega, by omega, ?_⟩
      · cases m with
        | zero => exact h
        | succ m =>
          rw [show i + (m + 1) = i + 1 + m by omega, show j + (m + 1) = j + 1 + m by omega]
          exact h1 m (by omega)
      · rw [show i + (k + 1) = i + 1 + k by omega, show j + (k + 1) = j + 1 + k by omega]
        exact h4
theorem sl_lt {i j : Nat} (h : sl n t i j) : i < n ∧ j < n := by
  obtain ⟨k, _, h2, h3, _⟩ := h
  omega
theorem sl_irr (i : Nat) : ¬ sl n t i i := fun ⟨_, _, _, _, h⟩ => Nat.lt_irrefl _ h
theorem sl_asymm {i j : Nat} (h : sl n t i j) : ¬ sl n t j i := by
  rintro ⟨k', g1, g2, g3, g4⟩
  obtain ⟨k, h1, h2, h3, h4⟩ := h
  rcases Nat.lt_trichotomy k k' with a | a | a
  · have := g1 k a; omega
  · subst a; omega
  · have := h1 k' a; omega
theorem Txt.zero (h : Txt n t) {i : Nat} (hi : i < n) (h0 : t i = 0) : i = n - 1 := by
  by_cases e : i + 1 < n
  · have := h.more i e; omega
  · omega
theorem sl_tri (h : Txt n t) : ∀ {m i j : Nat}, m = n - i → i < n → j < n → i ≠ j → sl n t i j ∨ sl n t j i := by
  intro m
  induction m with
  | zero => intro i j hm hi; omega
  | succ m ih =>
    intro i j hm hi hj hne
    rcases Nat.lt_trichotomy (t i) (t j) with a | a | a
    · exact .inl (sl_iff.2 (.inl ⟨hi, hj, a⟩))
    · have h1 : i + 1 < n := by
        rcases Nat.lt_or_ge (i + 1) n with b | b
        · exact b
        · have hi0 : i = n - 1 := by omega
          rw [hi0, h.last] at a
          have := h.zero hj a.symm
          omega
      have h2 : j + 1 < n := by
        rcases Nat.lt_or_ge (j + 1) n with b | b
        · exact b
        · have hj0 : j = n - 1 := by omega
          rw [hj0, h.last] at a
          have := h.zero hi a
          omega
      rcases ih (i := i + 1) (j := j + 1) (by omega) h1 h2 (by omega) with b | b
      · exact .inl (sl_iff.2 (.inr ⟨a, b⟩))
      · exact .inr (sl_iff.2 (.inr ⟨a.symm, b⟩))
    · exact .inr (sl_iff.2 (.inl ⟨hj, hi, a⟩))
/-- rising: less than the next one -/
def rz (n : Nat) (t : Nat → Nat) (i : Nat) : Prop := i + 1 = n ∨ sl n t i (i + 1)
theorem rz_last (h : Txt n t) : rz n t (n - 1) := .inl (by have := h.pos; omega)
theorem rz_iff (h : Txt n t) {i : Nat} (hi : i + 1 < n) : rz n t i ↔ t i < t (i + 1) ∨ (t i = t (i + 1) ∧ rz n t (i + 1)) := by
  unfold rz
  constructor
  · rintro (a | a)
    · omega
    · rcases sl_iff.1 a with ⟨_, _, b⟩ | ⟨b, c⟩
      · exact .inl b
      · exact .inr ⟨b, .inr c⟩
  · rintro (a | ⟨a, b⟩)
    · exact .inr (sl_iff.2 (.inl ⟨by omega, hi, a⟩))
    · rcases b with b | b
      · have := h.last
        rw [show n - 1 = i + 1 by omega] at this
        have := h.more i hi
        omega
      · exact .inr (sl_iff.2 (.inr ⟨a, b⟩))
theorem fall_lt (_ : Txt n t) {i : Nat} (hi : i < n) (hf : ¬ rz n t i) : i + 1 < n := by
  rcases Nat.lt_or_ge (i + 1) n with a | a
  · exact a
  · exact absurd (.inl (by omega)) hf
theorem fall_ge (h : Txt n t) {i : Nat} (hi : i < n) (hf : ¬ rz n t i) : t (i + 1) ≤ t i ∧ (t (i + 1) = t i → ¬ rz n t (i + 1)) := by
  have h1 := fall_lt h hi hf
  rw [rz_iff h h1] at hf
  refine ⟨?_, fun e r => hf (.inr ⟨e.symm, r⟩)⟩
  rcases Nat.lt_or_ge (t i) (t (i + 1)) with a | a
  · exact absurd (.inl a) hf
  · exact a
theorem rise_le (h : Txt n t) {i : Nat} (hi : i + 1 < n) (hr : rz n t i) : t i ≤ t (i + 1) ∧ (t i = t (i + 1) → rz n t (i + 1)) := by
  rcases (rz_iff h hi).1 hr with a | ⟨a, b⟩
  · exact ⟨by omega, fun e => by omega⟩
  · exact ⟨by omega, fun _ => b⟩
theorem fall_sl (h : Txt n t) {i : Nat} (hi : i < n) (hf : ¬ rz n t i) : sl n t (i + 1) i := by
  have h1 := fall_lt h hi hf
  rcases sl_tri h rfl hi h1 (by omega) with a | a
  · exact absurd (.inr a) hf
  · exact a
/-- of equal symbols the falling suffix is less -/
theorem fall_rise (h : Txt n t) : ∀ {m i j : Nat}, m = n - i → i < n → j < n → t i = t j → ¬ rz n t i → rz n t j → sl n t i j := by
  intro m
  induction m with
  | zero => intro i j hm hi; omega
  | succ m ih =>
    intro i j hm hi hj he hf hr
    have h1 := fall_lt h hi hf
    have h2 : j + 1 < n := by
      rcases Nat.lt_or_ge (j + 1) n with b | b
      · exact b
      · have hj0 : j = n - 1 := by omega
        rw [hj0, h.last] at he
        have := h.more i h1
        omega
    obtain ⟨a1, a2⟩ := fall_ge h hi hf
    obtain ⟨b1, b2⟩ := rise_le h h2 hr
    refine sl_iff.2 (.inr ⟨he, ?_⟩)
    rcases Nat.lt_or_ge (t (i + 1)) (t (j + 1)) with c | c
    · exact sl_iff.2 (.inl ⟨h1, h2, c⟩)
    · exact ih (by omega) h1 h2 (by omega) (a2 (by omega)) (b2 (by omega))
end
end Go.Proofs.Ytpafbgdbjambgaa.SA
