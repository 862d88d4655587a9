/- Induced sorting: with sorted starts the rows are in the suffixes order; pieces. -/
import Derived.Test.YtpafbgdbjambgaaSaC
namespace Go.Proofs.Ytpafbgdbjambgaa.SA
open Classical
section
variable {n : Nat} {t idx : Nat → Nat}
theorem sl_trans {i j k : Nat} (h : sl n t i j) (g : sl n t j k) : sl n t i k := by
  obtain ⟨a, h1, h2, h3, h4⟩ := h
  obtain ⟨b, g1, g2, g3, g4⟩ := g
  rcases Nat.lt_trichotomy a b with c | c | c
  · exact ⟨a, fun m hm => (h1 m hm).trans (g1 m (by omega)), h2, by omega, by rw [← g1 a c]; exact h4⟩
  · subst c
    exact ⟨a, fun m hm => (h1 m hm).trans (g1 m hm), h2, g3, by omega⟩
  · exact ⟨b, fun m hm => (h1 m (by omega)).trans (g1 m hm), by omega, g3, by rw [h1 b c]; exact g4⟩
/-! ### starts in the order of their suffixes -/
def Sorted (n : Nat) (t idx : Nat → Nat) : Prop := ∀ i j, lms n t i → lms n t j → sl n t i j → idx i < idx j
theorem keyL_sl (h : Txt n t) (hso : Sorted n t idx) : ∀ {m i j : Nat}, m = n - i → FS n t i → FS n t j → sl n t i j → lx (keyL n t idx i) (keyL n t idx j) := by
  intro m
  induction m with
  | zero => intro i j hm hi; have := hi.1; omega
  | succ m ih =>
    intro i j hm hi hj hs
    rcases sl_iff.1 hs with ⟨_, _, c⟩ | ⟨c, d⟩
    · by_cases a : rz n t i <;> by_cases b : rz n t j
      · rw [keyL_r hi.1 a, keyL_r hj.1 b]; exact lx_head (by omega)
      · rw [keyL_r hi.1 a, keyL_f hj.1 b]; exact lx_head (by omega)
      · rw [keyL_f hi.1 a, keyL_r hj.1 b]; exact lx_head (by omega)
      · rw [keyL_f hi.1 a, keyL_f hj.1 b]; exact lx_head (by omega)
    · by_cases a : rz n t i <;> by_cases b : rz n t j
      · rw [keyL_r hi.1 a, keyL_r hj.1 b, c]
        exact lx_cons.2 (lx_head (hso i j (FS_lms hi a) (FS_lms hj b) hs))
      · exact absurd (fall_rise h rfl hj.1 hi.1 c.symm b a) (sl_asymm hs)
      · rw [keyL_f hi.1 a, keyL_r hj.1 b]; exact lx_head (by omega)
      · rw [keyL_f hi.1 a, keyL_f hj.1 b, c]
        exact lx_cons.2 (ih (by omega) (FS_next h hi.1 a) (FS_next h hj.1 b) d)
theorem keyS_sl (h : Txt n t) (hso : Sorted n t idx) : ∀ {m i j : Nat}, m = n - i → i < n → j < n → sl n t i j → lx (keyS n t idx i) (keyS n t idx j) := by
  intro m
  induction m with
  | zero => intro i j hm hi; omega
  | succ m ih =>
    intro i j hm hi hj hs
    rcases sl_iff.1 hs with ⟨_, _, c⟩ | ⟨c, d⟩
    · exact key_char h hi hj c
    · obtain ⟨d1, d2⟩ := sl_lt d
      by_cases a : rz n t i <;> by_cases b : rz n t j
      · rw [keyS_r d1 a, keyS_r d2 b, c]
        exact lx_cons.2 (ih (by omega) d1 d2 d)
      · exact absurd (fall_rise h rfl hj hi c.symm b a) (sl_asymm hs)
      · exact key_type h hi hj c a b
      · rw [keyS_f hi a, keyS_f hj b]
        exact keyL_sl h hso rfl ⟨hi, .inl a⟩ ⟨hj, .inl b⟩ hs
theorem keyS_iff (h : Txt n t) (hso : Sorted n t idx) {i j : Nat} (hi : i < n) (hj : j < n) : lx (keyS n t idx i) (keyS n t idx j) ↔ sl n t i j := by
  refine ⟨fun a => ?_, keyS_sl h hso rfl hi hj⟩
  by_cases e : i = j
  · subst e; exact absurd a (lx_irr _)
  · rcases sl_tri h rfl hi hj e with b | b
    · exact b
    · exact absurd a (lx_asymm (keyS_sl h hso rfl hj hi b))
/-- how many suffixes are less -/
noncomputable def rank (n : Nat) (t : Nat → Nat) (i : Nat) : Nat := cnt n fun j => sl n t j i
theorem pos_rank (h : Txt n t) (hso : Sorted n t idx) {i : Nat} (hi : i < n) : pos n t idx i = rank n t i :=
  cnt_congr fun _ hj => keyS_iff h hso hj hi
theorem rank_mono {i j : Nat} (h : sl n t i j) : rank n t i < rank n t j := cnt_lt (fun _ _ a => sl_trans a h) (sl_lt h).1 (sl_irr _) h
theorem rank_sorted : Sorted n t (rank n t) := fun _ _ _ _ h => rank_mono h
theorem rank_iff (h : Txt n t) {i j : Nat} (hi : i < n) (hj : j < n) : rank n t i < rank n t j ↔ sl n t i j := by
  refine ⟨fun a => ?_, rank_mono⟩
  by_cases e : i = j
  · subst e; omega
  · rcases sl_tri h rfl hi hj e with b | b
    · exact b
    · have := rank_mono b; omega
theorem rank_lt {i : Nat} (hi : i < n) : rank n t i < n := by
  have h1 := cnt_lt (n := n) (p := fun j => sl n t j i) (q := fun _ => True) (fun _ _ _ => trivial) hi (sl_irr _) trivial
  have := cnt_le_n n (fun _ => True)
  unfold rank
  omega
theorem rank_inj (h : Txt n t) {i j : Nat} (hi : i < n) (hj : j < n) (he : rank n t i = rank n t j) : i = j := by
  by_cases e : i = j
  · exact e
  · rcases sl_tri h rfl hi hj e with b | b
    · have := rank_mono b; omega
    · have := rank_mono b; omega
/-! ### pieces: from a start to the next one -/
noncomputable def gL (n : Nat) (t : Nat → Nat) (e : Nat → List Nat) : Nat → Nat → List Nat
  | 0, _ => []
  | m + 1, i => if rz n t i then (2 * t i + 1) :: e i else 2 * t i :: gL n t e m (i + 1)
noncomputable def gS (n : Nat) (t : Nat → Nat) (e : Nat → List Nat) : Nat → Nat → List Nat
  | 0, _ => []
  | m + 1, i => if rz n t i then (if i + 1 = n then [1] else (2 * t i + 1) :: gS n t e m (i + 1)) else gL n t e (m + 1) i
theorem gL_key : ∀ (m i : Nat), kL n t idx m i = gL n t (fun i => [idx i]) m i
  | 0, _ => rfl
  | m + 1, i => by unfold kL gL; rw [gL_key m]
theorem gS_key : ∀ (m i : Nat), kS n t idx m i = gS n t (fun i => [idx i]) m i
  | 0, _ => rfl
  | m + 1, i => by unfold kS gS; rw [gS_key m, gL_key]
/-- where a run ends -/
noncomputable def eL (n : Nat) (t : Nat → Nat) : Nat → Nat → Nat
  | 0, i => i
  | m + 1, i => if rz n t i then i else eL n t m (i + 1)
noncomputable def eS (n : Nat) (t : Nat → Nat) : Nat → Nat → Nat
  | 0, i => i
  | m + 1, i => if rz n t i then (if i + 1 = n then i else eS n t m (i + 1)) else eL n t (m + 1) i
abbrev nil_ : Nat → List Nat := fun _ => []
theorem gL_two (h : Txt n t) : ∀ {m1 m2 i j : Nat}, m1 = n - i → m2 = n - j → FS n t i → FS n t j →
    (gL n t nil_ m1 i = gL n t nil_ m2 j ∧ ∀ e, lx (gL n t e m1 i) (gL n t e m2 j) ↔ lx (e (eL n t m1 i)) (e (eL n t m2 j))) ∨
    (gL n t nil_ m1 i ≠ gL n t nil_ m2 j ∧ ∀ e e', lx (gL n t e m1 i) (gL n t e m2 j) ↔ lx (gL n t e' m1 i) (gL n t e' m2 j)) := by
  have heads : ∀ {a b : Nat} (_ : a ≠ b) (x y x' y' : List Nat), lx (a :: x) (b :: y) ↔ lx (a :: x') (b :: y') := fun {a b} hab x y x' y' => by
    rcases Nat.lt_or_ge a b with c | c
    · exact ⟨fun _ => lx_head c, fun _ => lx_head c⟩
    · have : b < a := by omega
      exact ⟨fun k => absurd k (lx_head_no this), fun k => absurd k (lx_head_no this)⟩
  intro m1
  induction m1 with
  | zero => intro m2 i j h1 h2 hi; have := hi.1; omega
  | succ m1 ih =>
    intro m2 i j h1 h2 hi hj
    have hj1 := hj.1
    obtain ⟨m2, rfl⟩ : ∃ k, m2 = k + 1 := ⟨m2 - 1, by omega⟩
    unfold gL eL
    by_cases a : rz n t i <;> by_cases b : rz n t j
    · simp only [if_pos a, if_pos b]
      by_cases c : 2 * t i + 1 = 2 * t j + 1
      · refine .inl ⟨by rw [c], fun e => by rw [c]; exact lx_cons⟩
      · exact .inr ⟨fun k => c (by simp only [List.cons.injEq] at k; exact k.1), fun e e' => heads c _ _ _ _⟩
    · simp only [if_pos a, if_neg b]
      have c : 2 * t i + 1 ≠ 2 * t j := by omega
      exact .inr ⟨fun k => c (by simp only [List.cons.injEq] at k; exact k.1), fun e e' => heads c _ _ _ _⟩
    · simp only [if_neg a, if_pos b]
      have c : 2 * t i ≠ 2 * t j + 1 := by omega
      exact .inr ⟨fun k => c (by simp only [List.cons.injEq] at k; exact k.1), fun e e' => heads c _ _ _ _⟩
    · simp only [if_neg a, if_neg b]
      by_cases c : 2 * t i = 2 * t j
      · rw [c]
        rcases ih (m2 := m2) (i := i + 1) (j := j + 1) (by omega) (by omega) (FS_next h hi.1 a) (FS_next h hj.1 b) with ⟨d1, d2⟩ | ⟨d1, d2⟩
        · exact .inl ⟨by rw [d1], fun e => lx_cons.trans (d2 e)⟩
        · refine .inr ⟨fun k => d1 (by simp only [List.cons.injEq] at k; exact k.2), fun e e' => ?_⟩
          rw [lx_cons, lx_cons]
          exact d2 e e'
      · exact .inr ⟨fun k => c (by simp only [List.cons.injEq] at k; exact k.1), fun e e' => heads c _ _ _ _⟩
theorem gS_two (h : Txt n t) : ∀ {m1 m2 i j : Nat}, m1 = n - i → m2 = n - j → i < n → j < n →
    (gS n t nil_ m1 i = gS n t nil_ m2 j ∧ (i = j ∨ ∀ e, lx (gS n t e m1 i) (gS n t e m2 j) ↔ lx (e (eS n t m1 i)) (e (eS n t m2 j)))) ∨
    (gS n t nil_ m1 i ≠ gS n t nil_ m2 j ∧ ∀ e e', lx (gS n t e m1 i) (gS n t e m2 j) ↔ lx (gS n t e' m1 i) (gS n t e' m2 j)) := by
  have heads : ∀ {a b : Nat} (_ : a ≠ b) (x y x' y' : List Nat), lx (a :: x) (b :: y) ↔ lx (a :: x') (b :: y') := fun {a b} hab x y x' y' => by
    rcases Nat.lt_or_ge a b with c | c
    · exact ⟨fun _ => lx_head c, fun _ => lx_head c⟩
    · have : b < a := by omega
      exact ⟨fun k => absurd k (lx_head_no this), fun k => absurd k (lx_head_no this)⟩
  intro m1
  induction m1 with
  | zero => intro m2 i j h1 h2 hi; omega
  | succ m1 ih =>
    intro m2 i j h1 h2 hi hj
    obtain ⟨m2, rfl⟩ : ∃ k, m2 = k + 1 := ⟨m2 - 1, by omega⟩
    by_cases a : rz n t i <;> by_cases b : rz n t j
    · unfold gS eS
      simp only [if_pos a, if_pos b]
      by_cases e1 : i + 1 = n <;> by_cases e2 : j + 1 = n
      · simp only [if_pos e1, if_pos e2]
        exact .inl ⟨trivial, .inl (by omega)⟩
      · simp only [if_pos e1, if_neg e2]
        have := h.more j (by omega)
        have c : 1 ≠ 2 * t j + 1 := by omega
        exact .inr ⟨fun k => c (by simp only [List.cons.injEq] at k; exact k.1), fun e e' => heads c _ _ _ _⟩
      · simp only [if_neg e1, if_pos e2]
        have := h.more i (by omega)
        have c : 2 * t i + 1 ≠ 1 := by omega
        exact .inr ⟨fun k => c (by simp only [List.cons.injEq] at k; exact k.1), fun e e' => heads c _ _ _ _⟩
      · simp only [if_neg e1, if_neg e2]
        by_cases c : 2 * t i + 1 = 2 * t j + 1
        · rw [c]
          rcases ih (m2 := m2) (i := i + 1) (j := j + 1) (by omega) (by omega) (by omega) (by omega) with ⟨d1, d2⟩ | ⟨d1, d2⟩
          · refine .inl ⟨by rw [d1], ?_⟩
            rcases d2 with d2 | d2
            · exact .inl (by omega)
            · exact .inr fun e => lx_cons.trans (d2 e)
          · refine .inr ⟨fun k => d1 (by simp only [List.cons.injEq] at k; exact k.2), fun e e' => ?_⟩
            rw [lx_cons, lx_cons]
            exact d2 e e'
        · exact .inr ⟨fun k => c (by simp only [List.cons.injEq] at k; exact k.1), fun e e' => heads c _ _ _ _⟩
    · unfold gS gL
      simp only [if_pos a, if_neg b]
      by_cases e1 : i + 1 = n
      · simp only [if_pos e1]
        have c : 1 ≠ 2 * t j := by omega
        exact .inr ⟨fun k => c (by simp only [List.cons.injEq] at k; exact k.1), fun e e' => heads c _ _ _ _⟩
      · simp only [if_neg e1]
        have c : 2 * t i + 1 ≠ 2 * t j := by omega
        exact .inr ⟨fun k => c (by simp only [List.cons.injEq] at k; exact k.1), fun e e' => heads c _ _ _ _⟩
    · unfold gS gL
      simp only [if_neg a, if_pos b]
      by_cases e2 : j + 1 = n
      · simp only [if_pos e2]
        have c : 2 * t i ≠ 1 := by omega
        exact .inr ⟨fun k => c (by simp only [List.cons.injEq] at k; exact k.1), fun e e' => heads c _ _ _ _⟩
      · simp only [if_neg e2]
        have c : 2 * t i ≠ 2 * t j + 1 := by omega
        exact .inr ⟨fun k => c (by simp only [List.cons.injEq] at k; exact k.1), fun e e' => heads c _ _ _ _⟩
    · have ex : ∀ e, gS n t e (m1 + 1) i = gL n t e (m1 + 1) i := fun e => by unfold gS; rw [if_neg a]
      have ey : ∀ e, gS n t e (m2 + 1) j = gL n t e (m2 + 1) j := fun e => by unfold gS; rw [if_neg b]
      have ez : eS n t (m1 + 1) i = eL n t (m1 + 1) i := by unfold eS; rw [if_neg a]
      have ew : eS n t (m2 + 1) j = eL n t (m2 + 1) j := by unfold eS; rw [if_neg b]
      simp only [ex, ey, ez, ew]
      rcases gL_two h h1 h2 ⟨hi, .inl a⟩ ⟨hj, .inl b⟩ with ⟨d1, d2⟩ | d
      · exact .inl ⟨d1, .inr d2⟩
      · exact .inr d
/-- the piece of a suffix, where it ends -/
noncomputable def piece (n : Nat) (t : Nat → Nat) (i : Nat) : List Nat := gS n t nil_ (n - i) i
noncomputable def pend (n : Nat) (t : Nat → Nat) (i : Nat) : Nat := eS n t (n - i) i
/-- pieces that differ tell the order, whatever the starts' order is -/
theorem piece_ne (h : Txt n t) {i j : Nat} (hi : i < n) (hj : j < n) (hne : piece n t i ≠ piece n t j) :
    (lx (keyS n t idx i) (keyS n t idx j) ↔ sl n t i j) ∧ (lx (keyS n t idx i) (keyS n t idx j) ↔ lx (piece n t i) (piece n t j)) := by
  rcases gS_two h rfl rfl hi hj with ⟨d, _⟩ | ⟨_, d⟩
  · exact absurd d hne
  · have e1 : ∀ x, keyS n t idx x = gS n t (fun i => [idx i]) (n - x) x := fun x => gS_key _ _
    have e2 : ∀ x, keyS n t (rank n t) x = gS n t (fun i => [rank n t i]) (n - x) x := fun x => gS_key _ _
    rw [← keyS_iff h rank_sorted hi hj, e1, e1, e2, e2]
    exact ⟨d _ _, d _ _⟩
/-- of equal pieces the ends tell the order -/
theorem piece_eq (h : Txt n t) {i j : Nat} (hi : i < n) (hj : j < n) (he : piece n t i = piece n t j) (hne : i ≠ j) (p1 : pend n t i < n) (p2 : pend n t j < n) : sl n t i j ↔ sl n t (pend n t i) (pend n t j) := by
  rcases gS_two h rfl rfl hi hj with ⟨_, d | d⟩ | ⟨d, _⟩
  · exact absurd d hne
  · have e2 : ∀ x, keyS n t (rank n t) x = gS n t (fun i => [rank n t i]) (n - x) x := fun x => gS_key _ _
    rw [← keyS_iff h rank_sorted hi hj, e2, e2, d (fun i => [rank n t i]), ← rank_iff h p1 p2]
    exact ⟨fun a => a.elim id (fun a => a.2.elim), fun a => .inl a⟩
  · exact absurd he d
/-- a piece between two others -/
theorem piece_mid (h : Txt n t) {i j k : Nat} (hi : i < n) (hj : j < n) (hk : k < n) (he : piece n t i = piece n t k) (h1 : lx (keyS n t idx i) (keyS n t idx j)) (h2 : lx (keyS n t idx j) (keyS n t idx k)) : piece n t i = piece n t j := by
  by_cases e : piece n t i = piece n t j
  · exact e
  · have a := (piece_ne (idx := idx) h hi hj e).2.1 h1
    have b := (piece_ne (idx := idx) h hj hk (fun x => e (he.trans x.symm))).2.1 h2
    rw [he] at a
    exact absurd a (lx_asymm b)
end
end Go.Proofs.Ytpafbgdbjambgaa.SA
