/- Induced sorting: the names of pieces, the text of names. -/
import Derived.Test.YtpafbgdbjambgaaSaD
namespace Go.Proofs.Ytpafbgdbjambgaa.SA
open Classical
section
variable {n : Nat} {t idx : Nat → Nat}
theorem eL_spec (h : Txt n t) : ∀ {m i : Nat}, m = n - i → FS n t i → lms n t (eL n t m i) ∧ i ≤ eL n t m i ∧ ∀ x, i ≤ x → x < eL n t m i → ¬ rz n t x := by
  intro m
  induction m with
  | zero => intro i hm hi; have := hi.1; omega
  | succ m ih =>
    intro i hm hi
    unfold eL
    by_cases a : rz n t i
    · simp only [if_pos a]
      exact ⟨FS_lms hi a, Nat.le_refl _, fun x h1 h2 => by omega⟩
    · simp only [if_neg a]
      obtain ⟨h1, h2, h3⟩ := ih (i := i + 1) (by omega) (FS_next h hi.1 a)
      refine ⟨h1, by omega, fun x g1 g2 => ?_⟩
      by_cases e : x = i
      · subst e; exact a
      · exact h3 x (by omega) g2
theorem eS_spec (h : Txt n t) : ∀ {m i : Nat}, m = n - i → i + 1 < n → lms n t (eS n t m i) ∧ i < eS n t m i ∧ ∀ x, i < x → x < eS n t m i → ¬ lms n t x := by
  intro m
  induction m with
  | zero => intro i hm hi; omega
  | succ m ih =>
    intro i hm hi
    by_cases a : rz n t i
    · have hi2 : i + 1 + 1 < n := by
        rcases Nat.lt_or_ge (i + 1 + 1) n with b | b
        · exact b
        · have h1 := (rise_le h hi a).1
          rw [show i + 1 = n - 1 by omega, h.last] at h1
          have := h.more i hi
          omega
      have e : eS n t (m + 1) i = eS n t m (i + 1) := by
        conv => lhs; unfold eS
        rw [if_pos a, if_neg (by omega)]
      rw [e]
      obtain ⟨h1, h2, h3⟩ := ih (i := i + 1) (by omega) hi2
      refine ⟨h1, by omega, fun x g1 g2 => ?_⟩
      by_cases e : x = i + 1
      · subst e; exact fun l => l.2.2.2 (by simpa using a)
      · exact h3 x (by omega) g2
    · have e : eS n t (m + 1) i = eL n t m (i + 1) := by
        conv => lhs; unfold eS
        rw [if_neg a]
        conv => lhs; unfold eL
        rw [if_neg a]
      rw [e]
      obtain ⟨h1, h2, h3⟩ := eL_spec h (m := m) (i := i + 1) (by omega) (FS_next h (by omega) a)
      exact ⟨h1, by omega, fun x g1 g2 l => h3 x (by omega) g2 l.2.2.1⟩
theorem pend_spec (h : Txt n t) {i : Nat} (hi : i + 1 < n) : lms n t (pend n t i) ∧ i < pend n t i ∧ ∀ x, i < x → x < pend n t i → ¬ lms n t x := eS_spec h rfl hi
noncomputable def code (n : Nat) (t : Nat → Nat) (i : Nat) : Nat := 2 * t i + (if rz n t i then 1 else 0)
noncomputable def cseg (n : Nat) (t : Nat → Nat) : Nat → Nat → List Nat
  | _, 0 => []
  | i, m + 1 => code n t i :: cseg n t (i + 1) m
theorem gL_seg (h : Txt n t) : ∀ {m i : Nat}, m = n - i → FS n t i → gL n t nil_ m i = cseg n t i (eL n t m i - i + 1) := by
  intro m
  induction m with
  | zero => intro i hm hi; have := hi.1; omega
  | succ m ih =>
    intro i hm hi
    unfold gL eL
    by_cases a : rz n t i
    · simp only [if_pos a, Nat.sub_self]
      unfold cseg code cseg
      rw [if_pos a]
    · simp only [if_neg a]
      obtain ⟨_, h2, _⟩ := eL_spec h (m := m) (i := i + 1) (by omega) (FS_next h hi.1 a)
      rw [ih (i := i + 1) (by omega) (FS_next h hi.1 a), show eL n t m (i + 1) - i + 1 = (eL n t m (i + 1) - (i + 1) + 1) + 1 by omega]
      conv => rhs; unfold cseg code
      rw [if_neg a]
      rfl
theorem gS_seg (h : Txt n t) : ∀ {m i : Nat}, m = n - i → i + 1 < n → gS n t nil_ m i = cseg n t i (eS n t m i - i + 1) := by
  intro m
  induction m with
  | zero => intro i hm hi; omega
  | succ m ih =>
    intro i hm hi
    by_cases a : rz n t i
    · have hi2 : i + 1 + 1 < n := by
        rcases Nat.lt_or_ge (i + 1 + 1) n with b | b
        · exact b
        · have h1 := (rise_le h hi a).1
          rw [show i + 1 = n - 1 by omega, h.last] at h1
          have := h.more i hi
          omega
      have e : eS n t (m + 1) i = eS n t m (i + 1) := by
        conv => lhs; unfold eS
        rw [if_pos a, if_neg (by omega)]
      have e2 : gS n t nil_ (m + 1) i = (2 * t i + 1) :: gS n t nil_ m (i + 1) := by
        conv => lhs; unfold gS
        rw [if_pos a, if_neg (by omega)]
      obtain ⟨_, h2, _⟩ := eS_spec h (m := m) (i := i + 1) (by omega) hi2
      rw [e, e2, ih (i := i + 1) (by omega) hi2, show eS n t m (i + 1) - i + 1 = (eS n t m (i + 1) - (i + 1) + 1) + 1 by omega]
      conv => rhs; unfold cseg code
      rw [if_pos a]
    · have e : eS n t (m + 1) i = eL n t (m + 1) i := by unfold eS; rw [if_neg a]
      have e2 : gS n t nil_ (m + 1) i = gL n t nil_ (m + 1) i := by unfold gS; rw [if_neg a]
      rw [e, e2]
      exact gL_seg h hm ⟨by omega, .inl a⟩
theorem cseg_len : ∀ (m i : Nat), (cseg n t i m).length = m
  | 0, _ => rfl
  | m + 1, i => by unfold cseg; rw [List.length_cons, cseg_len m]
theorem cseg_eq : ∀ (m i j : Nat), cseg n t i m = cseg n t j m ↔ ∀ k, k < m → code n t (i + k) = code n t (j + k)
  | 0, _, _ => ⟨fun _ k hk => by omega, fun _ => rfl⟩
  | m + 1, i, j => by
    unfold cseg
    rw [List.cons.injEq, cseg_eq m]
    constructor
    · rintro ⟨a, b⟩ k hk
      cases k with
      | zero => exact a
      | succ k => rw [show i + (k + 1) = i + 1 + k by omega, show j + (k + 1) = j + 1 + k by omega]; exact b k (by omega)
    · intro a
      refine ⟨a 0 (by omega), fun k hk => ?_⟩
      have := a (k + 1) (by omega)
      rwa [show i + (k + 1) = i + 1 + k by omega, show j + (k + 1) = j + 1 + k by omega] at this
/-- equal pieces are equal parts of the text -/
theorem piece_seg (h : Txt n t) {i j : Nat} (hi : i + 1 < n) (hj : j + 1 < n) : piece n t i = piece n t j ↔ pend n t i - i = pend n t j - j ∧ ∀ k, k ≤ pend n t i - i → t (i + k) = t (j + k) := by
  obtain ⟨a1, a2, a3⟩ := pend_spec h hi
  obtain ⟨b1, b2, b3⟩ := pend_spec h hj
  unfold piece
  rw [gS_seg h rfl hi, gS_seg h rfl hj]
  show cseg n t i (pend n t i - i + 1) = cseg n t j (pend n t j - j + 1) ↔ _
  constructor
  · intro e
    have hl := congrArg List.length e
    rw [cseg_len, cseg_len] at hl
    have hd : pend n t i - i = pend n t j - j := by omega
    rw [hd] at e ⊢
    refine ⟨rfl, fun k hk => ?_⟩
    have := (cseg_eq _ _ _).1 e k (by omega)
    unfold code at this
    split at this <;> split at this <;> omega
  · rintro ⟨hd, hk⟩
    rw [hd] at hk ⊢
    rw [cseg_eq]
    have rzs : ∀ d k, k + d = pend n t j - j → (rz n t (i + k) ↔ rz n t (j + k)) := by
      intro d
      induction d with
      | zero =>
        intro k hkd
        rw [show i + k = pend n t i by omega, show j + k = pend n t j by omega]
        exact ⟨fun _ => b1.2.2.1, fun _ => a1.2.2.1⟩
      | succ d ih =>
        intro k hkd
        have e1 := hk k (by omega)
        have e2 := hk (k + 1) (by omega)
        have e3 := ih (k + 1) (by omega)
        rw [rz_iff h (i := i + k) (by have := a1.2.1; omega), rz_iff h (i := j + k) (by have := b1.2.1; omega)]
        rw [show i + k + 1 = i + (k + 1) by omega, show j + k + 1 = j + (k + 1) by omega, e1, e2, e3]
    intro k hk2
    unfold code
    rw [hk k (by omega)]
    have := rzs (pend n t j - j - k) k (by omega)
    by_cases r : rz n t (j + k)
    · rw [if_pos r, if_pos (this.2 r)]
    · rw [if_neg r, if_neg (fun x => r (this.1 x))]
theorem piece_last (h : Txt n t) {i : Nat} (hi : i < n) (he : piece n t i = piece n t (n - 1)) : i = n - 1 := by
  have e1 : piece n t (n - 1) = [1] := by
    have := h.pos
    unfold piece
    rw [show n - (n - 1) = 0 + 1 by omega]
    unfold gS
    rw [if_pos (rz_last h), if_pos (by omega)]
  rw [e1] at he
  rcases Nat.lt_or_ge (i + 1) n with a | a
  · unfold piece at he
    rw [gS_seg h rfl a] at he
    unfold cseg code at he
    simp only [List.cons.injEq] at he
    have := h.more i a
    omega
  · omega
/-! ### the starts, one behind the other -/
structure Starts (n : Nat) (t : Nat → Nat) (m : Nat) (ss : Nat → Nat) : Prop where
  is : ∀ k, k < m → lms n t (ss k)
  up : ∀ a b, a < b → b < m → ss a < ss b
  all : ∀ s, lms n t s → ∃ k, k < m ∧ ss k = s
variable {m : Nat} {ss : Nat → Nat}
theorem Starts.inj (H : Starts n t m ss) {a b : Nat} (ha : a < m) (hb : b < m) (he : ss a = ss b) : a = b := by
  rcases Nat.lt_trichotomy a b with c | c | c
  · have := H.up a b c hb; omega
  · exact c
  · have := H.up b a c ha; omega
theorem Starts.pos (H : Starts n t m ss) (h : Txt n t) (h2 : 2 ≤ n) : 0 < m := by
  obtain ⟨k, hk, _⟩ := H.all _ (lms_last h h2)
  omega
theorem Starts.last (H : Starts n t m ss) (h : Txt n t) (h2 : 2 ≤ n) : ss (m - 1) = n - 1 := by
  obtain ⟨k, hk, e⟩ := H.all _ (lms_last h h2)
  by_cases c : k = m - 1
  · rw [← c]; exact e
  · have := H.up k (m - 1) (by omega) (by omega)
    have := (H.is (m - 1) (by omega)).2.1
    omega
theorem Starts.next (H : Starts n t m ss) (h : Txt n t) {k : Nat} (hk : k + 1 < m) : ss k + 1 < n ∧ pend n t (ss k) = ss (k + 1) := by
  have h1 := H.up k (k + 1) (by omega) hk
  have h2 := (H.is (k + 1) hk).2.1
  have h3 : ss k + 1 < n := by omega
  obtain ⟨a1, a2, a3⟩ := pend_spec h h3
  obtain ⟨q, hq, e⟩ := H.all _ a1
  refine ⟨h3, ?_⟩
  rcases Nat.lt_trichotomy q (k + 1) with c | c | c
  · rcases Nat.lt_or_ge q k with d | d
    · have := H.up q k d (by omega); omega
    · obtain rfl : q = k := by omega
      omega
  · subst c; exact e.symm
  · have := H.up (k + 1) q c hq
    exact absurd (H.is (k + 1) hk) (a3 _ h1 (by omega))
theorem Starts.less (H : Starts n t m ss) (h : Txt n t) (h2 : 2 ≤ n) : m < n := by
  have : ∀ k, k < m → k + 1 ≤ ss k := by
    intro k
    induction k with
    | zero => intro hk; have := (H.is 0 hk).1; omega
    | succ k ih => intro hk; have := ih (by omega); have := H.up k (k + 1) (by omega) hk; omega
  have hm := H.pos h h2
  have := this (m - 1) (by omega)
  rw [H.last h h2] at this
  omega
/-! ### names of pieces -/
def updN (f : Nat → Nat) (k v : Nat) : Nat → Nat := fun x => if x = k then v else f x
theorem updN_same (f : Nat → Nat) (k v : Nat) : updN f k v k = v := if_pos rfl
theorem updN_ne (f : Nat → Nat) {k x : Nat} (v : Nat) (h : x ≠ k) : updN f k v x = f x := if_neg h
structure InvN (n : Nat) (t idx : Nat → Nat) (m : Nat) (ss : Nat → Nat) (r : Nat) (nm : Nat → Nat) (kinds : Nat) : Prop where
  eq : ∀ a b, a < m → b < m → pos n t idx (ss a) < r → pos n t idx (ss b) < r → (nm a = nm b ↔ piece n t (ss a) = piece n t (ss b))
  le : ∀ a b, a < m → b < m → pos n t idx (ss a) < r → pos n t idx (ss b) < r → pos n t idx (ss a) ≤ pos n t idx (ss b) → nm a ≤ nm b
  top : ∀ a, a < m → pos n t idx (ss a) < r → nm a ≤ kinds
  some : ∀ c, c ≤ kinds → (∃ a, a < m ∧ pos n t idx (ss a) < r) → ∃ a, a < m ∧ pos n t idx (ss a) < r ∧ nm a = c
  none : (∀ a, a < m → r ≤ pos n t idx (ss a)) → kinds = 0
/-- the last one that was named -/
def LastN (n : Nat) (t idx : Nat → Nat) (m : Nat) (ss : Nat → Nat) (r : Nat) (nm : Nat → Nat) (kinds b : Nat) : Prop := b < m ∧ pos n t idx (ss b) < r ∧ nm b = kinds ∧ ∀ a, a < m → pos n t idx (ss a) < r → pos n t idx (ss a) ≤ pos n t idx (ss b)
theorem invN_start : InvN n t idx m ss 0 (fun _ => 0) 0 :=
  ⟨fun _ _ _ _ h => by omega, fun _ _ _ _ h => by omega, fun _ _ h => by omega, fun _ _ ⟨_, _, h⟩ => by omega, fun _ => rfl⟩
theorem invN_skip {r : Nat} {nm : Nat → Nat} {kinds : Nat} (hI : InvN n t idx m ss r nm kinds) (hno : ∀ a, a < m → pos n t idx (ss a) ≠ r) : InvN n t idx m ss (r + 1) nm kinds ∧ ∀ b, LastN n t idx m ss r nm kinds b → LastN n t idx m ss (r + 1) nm kinds b := by
  have k : ∀ a, a < m → pos n t idx (ss a) < r + 1 → pos n t idx (ss a) < r := fun a ha hp => by have := hno a ha; omega
  refine ⟨⟨fun a b ha hb p q => hI.eq a b ha hb (k a ha p) (k b hb q), fun a b ha hb p q => hI.le a b ha hb (k a ha p) (k b hb q), fun a ha p => hI.top a ha (k a ha p), fun c hc ⟨a, ha, p⟩ => ?_, fun h => hI.none fun a ha => by have := h a ha; omega⟩, fun b hb => ⟨hb.1, by have := hb.2.1; omega, hb.2.2.1, fun a ha p => hb.2.2.2 a ha (k a ha p)⟩⟩
  obtain ⟨x, x1, x2, x3⟩ := hI.some c hc ⟨a, ha, k a ha p⟩
  exact ⟨x, x1, by omega, x3⟩
theorem invN_put (h : Txt n t) (ho : Ord n t idx) (H : Starts n t m ss) {r : Nat} {nm : Nat → Nat} {kinds kinds2 s : Nat} (hI : InvN n t idx m ss r nm kinds) (hs : s < m) (hp : pos n t idx (ss s) = r)
    (hk : (kinds2 = 0 ∧ ∀ a, a < m → r ≤ pos n t idx (ss a)) ∨ ∃ b, LastN n t idx m ss r nm kinds b ∧ ((piece n t (ss b) = piece n t (ss s) ∧ kinds2 = kinds) ∨ (piece n t (ss b) ≠ piece n t (ss s) ∧ kinds2 = kinds + 1))) :
    InvN n t idx m ss (r + 1) (updN nm s kinds2) kinds2 ∧ LastN n t idx m ss (r + 1) (updN nm s kinds2) kinds2 s := by
  have lt : ∀ a, a < m → lms n t (ss a) := H.is
  have pin : ∀ a, a < m → pos n t idx (ss a) = r → a = s := fun a ha he => H.inj ha hs (pos_inj h ho (lt a ha).2.1 (lt s hs).2.1 (by rw [he, hp]))
  have old : ∀ a, a < m → pos n t idx (ss a) < r + 1 → a ≠ s → pos n t idx (ss a) < r := fun a ha p e => by
    have : pos n t idx (ss a) ≠ r := fun e2 => e (pin a ha e2)
    omega
  have ne : ∀ a, a < m → pos n t idx (ss a) < r → a ≠ s := fun a _ p e => by subst e; omega
  -- what is known of those that were named
  have key : ∀ a, a < m → pos n t idx (ss a) < r → nm a ≤ kinds2 ∧ (nm a = kinds2 ↔ piece n t (ss a) = piece n t (ss s)) := by
    intro a ha p
    rcases hk with ⟨_, hn⟩ | ⟨b, hb, hk⟩
    · have := hn a ha; omega
    · have e1 := hI.eq a b ha hb.1 p hb.2.1
      have e2 := hI.top a ha p
      rw [hb.2.2.1] at e1
      rcases hk with ⟨g1, rfl⟩ | ⟨g1, rfl⟩
      · exact ⟨e2, by rw [e1, g1]⟩
      · refine ⟨by omega, ⟨fun e => by omega, fun e => ?_⟩⟩
        exfalso
        have hb3 := hb.2.2.2 a ha p
        by_cases c : a = b
        · subst c; exact g1 e
        · have hlt : pos n t idx (ss a) < pos n t idx (ss b) := by
            have : pos n t idx (ss a) ≠ pos n t idx (ss b) := fun x => c (H.inj ha hb.1 (pos_inj h ho (lt a ha).2.1 (lt b hb.1).2.1 x))
            omega
          have m1 := (pos_iff h ho (lt a ha).2.1 (lt b hb.1).2.1).1 hlt
          have m2 := (pos_iff h ho (lt b hb.1).2.1 (lt s hs).2.1).1 (by have := hb.2.1; omega)
          exact g1 ((piece_mid h (lt a ha).2.1 (lt b hb.1).2.1 (lt s hs).2.1 e m1 m2).symm.trans e)
  refine ⟨⟨fun a b ha hb p q => ?_, fun a b ha hb p q o => ?_, fun a ha p => ?_, fun c hc _ => ?_, fun hn => ?_⟩, hs, by omega, updN_same _ _ _, fun a ha p => by omega⟩
  · by_cases e1 : a = s <;> by_cases e2 : b = s
    · subst e1; subst e2; simp
    · subst e1
      rw [updN_same, updN_ne _ _ e2]
      have := (key b hb (old b hb q e2)).2
      exact ⟨fun x => (this.1 x.symm).symm, fun x => (this.2 x.symm).symm⟩
    · subst e2
      rw [updN_same, updN_ne _ _ e1]
      exact (key a ha (old a ha p e1)).2
    · rw [updN_ne _ _ e1, updN_ne _ _ e2]
      exact hI.eq a b ha hb (old a ha p e1) (old b hb q e2)
  · by_cases e1 : a = s <;> by_cases e2 : b = s
    · subst e1; subst e2; exact Nat.le_refl _
    · subst e1
      have := old b hb q e2
      omega
    · subst e2
      rw [updN_same, updN_ne _ _ e1]
      exact (key a ha (old a ha p e1)).1
    · rw [updN_ne _ _ e1, updN_ne _ _ e2]
      exact hI.le a b ha hb (old a ha p e1) (old b hb q e2) o
  · by_cases e1 : a = s
    · subst e1; rw [updN_same]; exact Nat.le_refl _
    · rw [updN_ne _ _ e1]
      exact (key a ha (old a ha p e1)).1
  · by_cases e : c = kinds2
    · exact ⟨s, hs, by omega, by rw [updN_same, e]⟩
    · rcases hk with ⟨g0, _⟩ | ⟨b, hb, hk⟩
      · omega
      · obtain ⟨a, a1, a2, a3⟩ := hI.some c (by omega) ⟨b, hb.1, hb.2.1⟩
        exact ⟨a, a1, by omega, by rw [updN_ne _ _ (ne a a1 a2)]; exact a3⟩
  · have := hn s hs; omega
/-! ### the text of names -/
theorem red_txt (h : Txt n t) (h2 : 2 ≤ n) (ho : Ord n t idx) (H : Starts n t m ss) {nm : Nat → Nat} {kinds : Nat} (hI : InvN n t idx m ss n nm kinds) : Txt m nm ∧ ∀ k, k < m → nm k ≤ kinds := by
  have hm := H.pos h h2
  have hl := H.last h h2
  have pl : ∀ a, a < m → pos n t idx (ss a) < n := fun a ha => pos_lt (H.is a ha).2.1
  obtain ⟨a, a1, a2, a3⟩ := hI.some 0 (Nat.zero_le _) ⟨0, hm, pl 0 hm⟩
  have hz : nm (m - 1) = 0 := by
    have := hI.le (m - 1) a (by omega) a1 (pl _ (by omega)) a2 (by rw [hl, (pos_last h h2).1]; exact Nat.zero_le _)
    omega
  refine ⟨⟨hm, hz, fun i hi => ?_⟩, fun k hk => hI.top k hk (pl k hk)⟩
  rcases Nat.eq_zero_or_pos (nm i) with e | e
  · have e2 := (hI.eq i (m - 1) (by omega) (by omega) (pl _ (by omega)) (pl _ (by omega))).1 (by rw [e, hz])
    rw [hl] at e2
    have e3 := piece_last h (H.is i (by omega)).2.1 e2
    have := H.up i (m - 1) (by omega) (by omega)
    omega
  · exact e
theorem red_sl (h : Txt n t) (h2 : 2 ≤ n) (ho : Ord n t idx) (H : Starts n t m ss) {nm : Nat → Nat} {kinds : Nat} (hI : InvN n t idx m ss n nm kinds) :
    ∀ {d a b : Nat}, d = m - a → a < m → b < m → sl m nm a b → sl n t (ss a) (ss b) := by
  have pl : ∀ a, a < m → pos n t idx (ss a) < n := fun a ha => pos_lt (H.is a ha).2.1
  have ln : ∀ a, a < m → ss a < n := fun a ha => (H.is a ha).2.1
  intro d
  induction d with
  | zero => intro a b hd ha; omega
  | succ d ih =>
    intro a b hd ha hb hs
    rcases sl_iff.1 hs with ⟨_, _, c⟩ | ⟨c, g⟩
    · have hne : piece n t (ss a) ≠ piece n t (ss b) := fun e => by
        have := (hI.eq a b ha hb (pl a ha) (pl b hb)).2 e; omega
      refine (piece_ne (idx := idx) h (ln a ha) (ln b hb) hne).1.1 ?_
      rw [← pos_iff h ho (ln a ha) (ln b hb)]
      rcases Nat.lt_or_ge (pos n t idx (ss a)) (pos n t idx (ss b)) with x | x
      · exact x
      · have := hI.le b a hb ha (pl b hb) (pl a ha) x; omega
    · obtain ⟨g1, g2⟩ := sl_lt g
      have he := (hI.eq a b ha hb (pl a ha) (pl b hb)).1 c
      obtain ⟨a1, a2⟩ := H.next h g1
      obtain ⟨b1, b2⟩ := H.next h g2
      have hne : ss a ≠ ss b := fun e => by
        have := H.inj ha hb e
        subst this
        exact sl_irr _ hs
      rw [piece_eq h (ln a ha) (ln b hb) he hne (by rw [a2]; exact ln _ g1) (by rw [b2]; exact ln _ g2), a2, b2]
      exact ih (by omega) g1 g2 g
theorem red_iff (h : Txt n t) (h2 : 2 ≤ n) (ho : Ord n t idx) (H : Starts n t m ss) {nm : Nat → Nat} {kinds : Nat} (hI : InvN n t idx m ss n nm kinds) {a b : Nat} (ha : a < m) (hb : b < m) : sl m nm a b ↔ sl n t (ss a) (ss b) := by
  refine ⟨red_sl h h2 ho H hI rfl ha hb, fun hs => ?_⟩
  by_cases e : a = b
  · subst e; exact absurd hs (sl_irr _)
  · rcases sl_tri (red_txt h h2 ho H hI).1 rfl ha hb e with c | c
    · exact c
    · exact absurd (red_sl h h2 ho H hI rfl hb ha c) (sl_asymm hs)
/-- where all names differ, the pieces' order is the suffixes' -/
theorem names_sorted (h : Txt n t) (ho : Ord n t idx) (H : Starts n t m ss) {nm : Nat → Nat} {kinds : Nat} (hI : InvN n t idx m ss n nm kinds) (hk : kinds + 1 = m) {a b : Nat} (ha : a < m) (hb : b < m) : pos n t idx (ss a) < pos n t idx (ss b) ↔ sl n t (ss a) (ss b) := by
  have pl : ∀ a, a < m → pos n t idx (ss a) < n := fun a ha => pos_lt (H.is a ha).2.1
  have ln : ∀ a, a < m → ss a < n := fun a ha => (H.is a ha).2.1
  rw [pos_iff h ho (ln a ha) (ln b hb)]
  by_cases e : a = b
  · subst e; exact ⟨fun x => absurd x (lx_irr _), fun x => absurd x (sl_irr _)⟩
  · refine (piece_ne (idx := idx) h (ln a ha) (ln b hb) fun he => ?_).1
    have hnm := (hI.eq a b ha hb (pl a ha) (pl b hb)).2 he
    -- each name has a start: so no two have one
    have hs : ∀ c, c < m → ∃ x, x < m ∧ nm x = c := fun c hc => by
      obtain ⟨x, x1, _, x3⟩ := hI.some c (by omega) ⟨a, ha, pl a ha⟩
      exact ⟨x, x1, x3⟩
    let g : Nat → Nat := fun c => if hc : c < m then Classical.choose (hs c hc) else 0
    have hg : ∀ c, c < m → g c < m ∧ nm (g c) = c := fun c hc => by
      have := Classical.choose_spec (hs c hc)
      show (if hc : c < m then Classical.choose (hs c hc) else 0) < m ∧ nm (if hc : c < m then Classical.choose (hs c hc) else 0) = c
      rw [dif_pos hc]; exact this
    have sg := surj (n := m) (f := g) (fun c hc => (hg c hc).1) (fun c d hc hd x => by
      have h1 := (hg c hc).2
      have h2 := (hg d hd).2
      rw [x] at h1
      omega)
    obtain ⟨c, c1, c2⟩ := sg a ha
    obtain ⟨d, d1, d2⟩ := sg b hb
    have h1 := (hg c c1).2
    have h2 := (hg d d1).2
    rw [c2] at h1
    rw [d2] at h2
    have : c = d := by omega
    subst this
    omega
end
end Go.Proofs.Ytpafbgdbjambgaa.SA
