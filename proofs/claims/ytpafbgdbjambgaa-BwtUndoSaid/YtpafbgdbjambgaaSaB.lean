/- Induced sorting: what the passes sort by; the row of a suffix. -/
import Derived.Test.YtpafbgdbjambgaaSaA
namespace Go.Proofs.Ytpafbgdbjambgaa.SA
open Classical
section
variable {n : Nat} {t idx : Nat → Nat}
/-- a start: the first of several rising suffixes, not the suffix 0 -/
def lms (n : Nat) (t : Nat → Nat) (i : Nat) : Prop := 0 < i ∧ i < n ∧ rz n t i ∧ ¬ rz n t (i - 1)
/-- what the passes sort by -/
noncomputable def kL (n : Nat) (t idx : Nat → Nat) : Nat → Nat → List Nat
  | 0, _ => []
  | m + 1, i => if rz n t i then [2 * t i + 1, idx i] else 2 * t i :: kL n t idx m (i + 1)
noncomputable def keyL (n : Nat) (t idx : Nat → Nat) (i : Nat) : List Nat := kL n t idx (n - i) i
noncomputable def kS (n : Nat) (t idx : Nat → Nat) : Nat → Nat → List Nat
  | 0, _ => []
  | m + 1, i => if rz n t i then (if i + 1 = n then [1] else (2 * t i + 1) :: kS n t idx m (i + 1)) else kL n t idx (m + 1) i
noncomputable def keyS (n : Nat) (t idx : Nat → Nat) (i : Nat) : List Nat := kS n t idx (n - i) i
theorem keyL_r {i : Nat} (hi : i < n) (h : rz n t i) : keyL n t idx i = [2 * t i + 1, idx i] := by
  unfold keyL
  rw [show n - i = (n - (i + 1)) + 1 by omega]
  unfold kL
  rw [if_pos h]
theorem keyL_f {i : Nat} (hi : i < n) (h : ¬ rz n t i) : keyL n t idx i = 2 * t i :: keyL n t idx (i + 1) := by
  unfold keyL
  rw [show n - i = (n - (i + 1)) + 1 by omega]
  conv => lhs; unfold kL
  rw [if_neg h]
theorem keyS_f {i : Nat} (hi : i < n) (h : ¬ rz n t i) : keyS n t idx i = keyL n t idx i := by
  unfold keyS keyL
  rw [show n - i = (n - (i + 1)) + 1 by omega]
  unfold kS
  rw [if_neg h]
theorem keyS_r {i : Nat} (hi : i + 1 < n) (h : rz n t i) : keyS n t idx i = (2 * t i + 1) :: keyS n t idx (i + 1) := by
  unfold keyS
  rw [show n - i = (n - (i + 1)) + 1 by omega]
  conv => lhs; unfold kS
  rw [if_pos h, if_neg (by omega)]
theorem keyS_last (h : Txt n t) : keyS n t idx (n - 1) = [1] := by
  have := h.pos
  unfold keyS
  rw [show n - (n - 1) = 0 + 1 by omega]
  unfold kS
  rw [if_pos (rz_last h), if_pos (by omega)]
theorem keyS_head (h : Txt n t) {i : Nat} (hi : i < n) (hr : rz n t i) : ∃ x, keyS n t idx i = (2 * t i + 1) :: x := by
  rcases Nat.lt_or_ge (i + 1) n with a | a
  · exact ⟨_, keyS_r a hr⟩
  · obtain rfl : i = n - 1 := by omega
    exact ⟨[], by rw [keyS_last h, h.last]⟩
/-- where the first pass puts starts: what is asked of the order -/
structure Ord (n : Nat) (t idx : Nat → Nat) : Prop where
  inj : ∀ i j, lms n t i → lms n t j → idx i = idx j → i = j
/-- the falling ones, and the starts -/
def FS (n : Nat) (t : Nat → Nat) (i : Nat) : Prop := i < n ∧ (¬ rz n t i ∨ lms n t i)
theorem FS_next (h : Txt n t) {i : Nat} (hi : i < n) (hf : ¬ rz n t i) : FS n t (i + 1) := by
  have h1 := fall_lt h hi hf
  refine ⟨h1, ?_⟩
  by_cases hr : rz n t (i + 1)
  · exact .inr ⟨by omega, h1, hr, by simpa using hf⟩
  · exact .inl hr
theorem FS_lms {i : Nat} (h : FS n t i) (hr : rz n t i) : lms n t i := h.2.elim (fun a => absurd hr a) id
theorem keyL_inj (h : Txt n t) (ho : Ord n t idx) : ∀ {m i j : Nat}, m = n - i → FS n t i → FS n t j → keyL n t idx i = keyL n t idx j → i = j := by
  intro m
  induction m with
  | zero => intro i j hm hi; have := hi.1; omega
  | succ m ih =>
    intro i j hm hi hj he
    by_cases a : rz n t i <;> by_cases b : rz n t j
    · rw [keyL_r hi.1 a, keyL_r hj.1 b] at he
      simp only [List.cons.injEq, and_true] at he
      exact ho.inj i j (FS_lms hi a) (FS_lms hj b) he.2
    · rw [keyL_r hi.1 a, keyL_f hj.1 b] at he
      simp only [List.cons.injEq] at he
      omega
    · rw [keyL_f hi.1 a, keyL_r hj.1 b] at he
      simp only [List.cons.injEq] at he
      omega
    · rw [keyL_f hi.1 a, keyL_f hj.1 b] at he
      simp only [List.cons.injEq] at he
      have := ih (i := i + 1) (j := j + 1) (by omega) (FS_next h hi.1 a) (FS_next h hj.1 b) he.2
      omega
theorem keyS_inj (h : Txt n t) (ho : Ord n t idx) : ∀ {m i j : Nat}, m = n - i → i < n → j < n → keyS n t idx i = keyS n t idx j → i = j := by
  intro m
  induction m with
  | zero => intro i j hm hi; omega
  | succ m ih =>
    intro i j hm hi hj he
    by_cases a : rz n t i <;> by_cases b : rz n t j
    · rcases Nat.lt_or_ge (i + 1) n with a1 | a1
      · rcases Nat.lt_or_ge (j + 1) n with b1 | b1
        · rw [keyS_r a1 a, keyS_r b1 b] at he
          simp only [List.cons.injEq] at he
          have := ih (i := i + 1) (j := j + 1) (by omega) a1 b1 he.2
          omega
        · obtain rfl : j = n - 1 := by omega
          rw [keyS_r a1 a, keyS_last h] at he
          simp only [List.cons.injEq] at he
          have := h.more i a1
          omega
      · obtain rfl : i = n - 1 := by omega
        rcases Nat.lt_or_ge (j + 1) n with b1 | b1
        · rw [keyS_r b1 b, keyS_last h] at he
          simp only [List.cons.injEq] at he
          have := h.more j b1
          omega
        · omega
    · obtain ⟨x, hx⟩ := keyS_head (idx := idx) h hi a
      rw [hx, keyS_f hj b, keyL_f hj b] at he
      simp only [List.cons.injEq] at he
      omega
    · obtain ⟨x, hx⟩ := keyS_head (idx := idx) h hj b
      rw [hx, keyS_f hi a, keyL_f hi a] at he
      simp only [List.cons.injEq] at he
      omega
    · rw [keyS_f hi a, keyS_f hj b] at he
      exact keyL_inj h ho rfl ⟨hi, .inl a⟩ ⟨hj, .inl b⟩ he
/-- the row of a suffix -/
noncomputable def pos (n : Nat) (t idx : Nat → Nat) (i : Nat) : Nat := cnt n fun j => lx (keyS n t idx j) (keyS n t idx i)
/-- how many symbols are less -/
noncomputable def less (n : Nat) (t : Nat → Nat) (c : Nat) : Nat := cnt n fun j => t j < c
theorem less_succ (c : Nat) : less n t (c + 1) = less n t c + cnt n (fun j => t j = c) := by
  unfold less
  rw [← cnt_or (fun i _ a b => by omega)]
  exact cnt_congr fun i _ => by omega
theorem less_mono {c d : Nat} (h : c ≤ d) : less n t c ≤ less n t d := cnt_mono fun i _ a => by omega
theorem pos_lt {i : Nat} (hi : i < n) : pos n t idx i < n := by
  have h1 := cnt_lt (n := n) (p := fun j => lx (keyS n t idx j) (keyS n t idx i)) (q := fun _ => True) (fun _ _ _ => trivial) hi (lx_irr _) trivial
  have := cnt_le_n n (fun _ => True)
  unfold pos
  omega
theorem pos_mono {i j : Nat} (hi : i < n) (h : lx (keyS n t idx i) (keyS n t idx j)) : pos n t idx i < pos n t idx j :=
  cnt_lt (fun _ _ a => lx_trans a h) hi (lx_irr _) h
theorem pos_inj (h : Txt n t) (ho : Ord n t idx) {i j : Nat} (hi : i < n) (hj : j < n) (he : pos n t idx i = pos n t idx j) : i = j := by
  by_cases e : keyS n t idx i = keyS n t idx j
  · exact keyS_inj h ho rfl hi hj e
  · rcases lx_tri e with a | a
    · have := pos_mono hi a; omega
    · have := pos_mono hj a; omega
theorem pos_iff (h : Txt n t) (ho : Ord n t idx) {i j : Nat} (hi : i < n) (hj : j < n) : pos n t idx i < pos n t idx j ↔ lx (keyS n t idx i) (keyS n t idx j) := by
  refine ⟨fun a => ?_, pos_mono hi⟩
  by_cases e : keyS n t idx i = keyS n t idx j
  · have := keyS_inj h ho rfl hi hj e
    subst this
    omega
  · rcases lx_tri e with b | b
    · exact b
    · have := pos_mono hj b; omega
/-- every row has its suffix -/
theorem pos_surj (h : Txt n t) (ho : Ord n t idx) {r : Nat} (hr : r < n) : ∃ i, i < n ∧ pos n t idx i = r :=
  surj (fun _ hi => pos_lt hi) (fun _ _ hi hj e => pos_inj h ho hi hj e) r hr
theorem key_char (h : Txt n t) {i j : Nat} (hi : i < n) (hj : j < n) (hc : t i < t j) : lx (keyS n t idx i) (keyS n t idx j) := by
  by_cases a : rz n t i <;> by_cases b : rz n t j
  · obtain ⟨x, hx⟩ := keyS_head (idx := idx) h hi a
    obtain ⟨y, hy⟩ := keyS_head (idx := idx) h hj b
    rw [hx, hy]; exact lx_head (by omega)
  · obtain ⟨x, hx⟩ := keyS_head (idx := idx) h hi a
    rw [hx, keyS_f hj b, keyL_f hj b]; exact lx_head (by omega)
  · obtain ⟨y, hy⟩ := keyS_head (idx := idx) h hj b
    rw [hy, keyS_f hi a, keyL_f hi a]; exact lx_head (by omega)
  · rw [keyS_f hi a, keyL_f hi a, keyS_f hj b, keyL_f hj b]; exact lx_head (by omega)
theorem key_type (h : Txt n t) {i j : Nat} (hi : i < n) (hj : j < n) (hc : t i = t j) (a : ¬ rz n t i) (b : rz n t j) : lx (keyS n t idx i) (keyS n t idx j) := by
  obtain ⟨y, hy⟩ := keyS_head (idx := idx) h hj b
  rw [hy, keyS_f hi a, keyL_f hi a]; exact lx_head (by omega)
/-- the row of a falling suffix, by its symbol's rows -/
theorem pos_fall (h : Txt n t) {i : Nat} (hi : i < n) (hf : ¬ rz n t i) : pos n t idx i = less n t (t i) + cnt n (fun j => ¬ rz n t j ∧ t j = t i ∧ lx (keyS n t idx j) (keyS n t idx i)) := by
  unfold pos less
  rw [← cnt_or (fun j _ a b => by omega)]
  refine cnt_congr fun j hj => ⟨fun a => ?_, fun a => ?_⟩
  · rcases Nat.lt_trichotomy (t j) (t i) with c | c | c
    · exact .inl c
    · by_cases r : rz n t j
      · exact absurd a (lx_asymm (key_type h hi hj c.symm hf r))
      · exact .inr ⟨r, c, a⟩
    · exact absurd a (lx_asymm (key_char h hi hj c))
  · rcases a with a | ⟨_, _, a⟩
    · exact key_char h hj hi a
    · exact a
/-- the row of a rising suffix -/
theorem pos_rise (h : Txt n t) (ho : Ord n t idx) {i : Nat} (hi : i < n) (hr : rz n t i) : pos n t idx i + 1 + cnt n (fun j => rz n t j ∧ t j = t i ∧ lx (keyS n t idx i) (keyS n t idx j)) = less n t (t i + 1) := by
  have e1 : cnt n (fun j => lx (keyS n t idx j) (keyS n t idx i) ∨ j = i) = pos n t idx i + 1 := by
    unfold pos
    exact cnt_add hi (lx_irr _) fun _ _ => Iff.rfl
  rw [← e1, ← cnt_or]
  · unfold less
    refine cnt_congr fun j hj => ⟨fun a => ?_, fun a => ?_⟩
    · rcases a with (a | a) | ⟨_, a, _⟩
      · rcases Nat.lt_or_ge (t i) (t j) with c | c
        · exact absurd a (lx_asymm (key_char h hi hj c))
        · omega
      · subst a; omega
      · omega
    · rcases Nat.lt_or_ge (t j) (t i) with c | c
      · exact .inl (.inl (key_char h hj hi c))
      · have hc : t j = t i := by omega
        by_cases r : rz n t j
        · by_cases e : j = i
          · exact .inl (.inr e)
          · rcases lx_tri (fun e2 => e (keyS_inj h ho rfl hj hi e2)) with b | b
            · exact .inl (.inl b)
            · exact .inr ⟨r, hc, b⟩
        · exact .inl (.inl (key_type h hj hi hc r hr))
  · intro j hj a ⟨_, _, b⟩
    rcases a with a | a
    · exact lx_asymm a b
    · subst a; exact lx_irr _ b
end
end Go.Proofs.Ytpafbgdbjambgaa.SA
