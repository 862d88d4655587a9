/- Induced sorting: the three passes, by what holds at each row. -/
import Derived.Test.YtpafbgdbjambgaaSaB
namespace Go.Proofs.Ytpafbgdbjambgaa.SA
open Classical
section
variable {n : Nat} {t idx : Nat → Nat}
/-- where the first pass puts a start -/
noncomputable def pos1 (n : Nat) (t idx : Nat → Nat) (s : Nat) : Nat := less n t (t s + 1) - 1 - cnt n fun x => lms n t x ∧ t x = t s ∧ idx s < idx x
theorem less_same {c : Nat} {p : Nat → Prop} {x : Nat} (h : ∀ i, i < n → p i → t i = c) (hx : x < n) (hp : ¬ p x) (hc : t x = c) : cnt n p + 1 ≤ cnt n (fun j => t j = c) := cnt_lt h hx hp hc
theorem pos1_eq {s : Nat} (hs : lms n t s) : pos1 n t idx s + 1 + cnt n (fun x => lms n t x ∧ t x = t s ∧ idx s < idx x) = less n t (t s + 1) ∧ less n t (t s) ≤ pos1 n t idx s := by
  have h1 := less_same (c := t s) (p := fun x => lms n t x ∧ t x = t s ∧ idx s < idx x) (x := s) (fun i _ a => a.2.1) hs.2.1 (fun a => Nat.lt_irrefl _ a.2.2) rfl
  have h2 := less_succ (n := n) (t := t) (t s)
  unfold pos1
  omega
theorem fall_row (h : Txt n t) {i : Nat} (hi : i < n) (hf : ¬ rz n t i) : pos n t idx i < less n t (t i) + cnt n (fun j => ¬ rz n t j ∧ t j = t i) := by
  rw [pos_fall h hi hf]
  have := cnt_lt (n := n) (p := fun j => ¬ rz n t j ∧ t j = t i ∧ lx (keyS n t idx j) (keyS n t idx i)) (q := fun j => ¬ rz n t j ∧ t j = t i) (x := i) (fun j _ a => ⟨a.1, a.2.1⟩) hi (fun a => lx_irr _ a.2.2) ⟨hf, rfl⟩
  omega
theorem fall_top (c : Nat) : cnt n (fun j => ¬ rz n t j ∧ t j = c) ≤ cnt n (fun j => t j = c) := cnt_mono fun _ _ a => a.2
theorem fall_lms (c : Nat) : cnt n (fun j => ¬ rz n t j ∧ t j = c) + cnt n (fun j => lms n t j ∧ t j = c) ≤ cnt n (fun j => t j = c) := by
  rw [← cnt_or (fun j _ a b => a.1 b.1.2.2.1)]
  exact cnt_mono fun j _ a => a.elim (fun a => a.2) (fun a => a.2)
/-- where the second pass has a falling suffix, or a start -/
noncomputable def p2 (n : Nat) (t idx : Nat → Nat) (i : Nat) : Nat := if rz n t i then pos1 n t idx i else pos n t idx i
theorem p2_r {i : Nat} (h : rz n t i) : p2 n t idx i = pos1 n t idx i := if_pos h
theorem p2_f {i : Nat} (h : ¬ rz n t i) : p2 n t idx i = pos n t idx i := if_neg h
theorem p2_mono (h : Txt n t) {i j : Nat} (hi : FS n t i) (hj : FS n t j) (hk : lx (keyL n t idx i) (keyL n t idx j)) : p2 n t idx i < p2 n t idx j := by
  have m1 := less_succ (n := n) (t := t) (t i)
  have m2 := less_succ (n := n) (t := t) (t j)
  have m3 := fall_top (n := n) (t := t) (t i)
  by_cases a : rz n t i <;> by_cases b : rz n t j
  · have li := FS_lms hi a
    have lj := FS_lms hj b
    obtain ⟨e1, e2⟩ := pos1_eq (idx := idx) li
    obtain ⟨e3, e4⟩ := pos1_eq (idx := idx) lj
    rw [keyL_r hi.1 a, keyL_r hj.1 b] at hk
    rw [p2_r a, p2_r b]
    rcases hk with hk | ⟨hk, hk2⟩
    · have := less_mono (n := n) (t := t) (show t i + 1 ≤ t j by omega)
      omega
    · have hc : t i = t j := by omega
      have hx : idx i < idx j := by
        rcases hk2 with c | ⟨_, c⟩
        · exact c
        · exact c.elim
      have := cnt_lt (n := n) (p := fun x => lms n t x ∧ t x = t j ∧ idx j < idx x) (q := fun x => lms n t x ∧ t x = t i ∧ idx i < idx x) (x := j) (fun x _ a => ⟨a.1, by omega, by omega⟩) hj.1 (fun a => Nat.lt_irrefl _ a.2.2) ⟨lj, by omega, hx⟩
      rw [hc] at e1 this
      omega
  · have li := FS_lms hi a
    obtain ⟨e1, e2⟩ := pos1_eq (idx := idx) li
    rw [keyL_r hi.1 a, keyL_f hj.1 b] at hk
    rw [p2_r a, p2_f b, pos_fall h hj.1 b]
    have hc : t i < t j := by
      rcases hk with hk | ⟨hk, _⟩ <;> omega
    have := less_mono (n := n) (t := t) (show t i + 1 ≤ t j by omega)
    omega
  · have lj := FS_lms hj b
    obtain ⟨e3, e4⟩ := pos1_eq (idx := idx) lj
    have f1 := fall_row (idx := idx) h hi.1 a
    rw [keyL_f hi.1 a, keyL_r hj.1 b] at hk
    rw [p2_f a, p2_r b]
    rcases Nat.lt_or_ge (t i) (t j) with c | c
    · have := less_mono (n := n) (t := t) (show t i + 1 ≤ t j by omega)
      omega
    · have hc : t i = t j := by
        rcases hk with hk | ⟨hk, _⟩ <;> omega
      have f2 := fall_lms (n := n) (t := t) (t j)
      have f3 := cnt_lt (n := n) (p := fun x => lms n t x ∧ t x = t j ∧ idx j < idx x) (q := fun x => lms n t x ∧ t x = t j) (x := j) (fun x _ a => ⟨a.1, a.2.1⟩) hj.1 (fun a => Nat.lt_irrefl _ a.2.2) ⟨lj, rfl⟩
      rw [hc] at f1
      omega
  · rw [p2_f a, p2_f b]
    rw [← keyS_f hi.1 a, ← keyS_f hj.1 b] at hk
    exact pos_mono hi.1 hk
theorem p2_inj (h : Txt n t) (ho : Ord n t idx) {i j : Nat} (hi : FS n t i) (hj : FS n t j) (he : p2 n t idx i = p2 n t idx j) : i = j := by
  by_cases e : keyL n t idx i = keyL n t idx j
  · exact keyL_inj h ho rfl hi hj e
  · rcases lx_tri e with a | a
    · have := p2_mono h hi hj a; omega
    · have := p2_mono h hj hi a; omega
theorem p2_iff (h : Txt n t) (ho : Ord n t idx) {i j : Nat} (hi : FS n t i) (hj : FS n t j) : p2 n t idx i < p2 n t idx j ↔ lx (keyL n t idx i) (keyL n t idx j) := by
  refine ⟨fun a => ?_, p2_mono h hi hj⟩
  by_cases e : keyL n t idx i = keyL n t idx j
  · have := keyL_inj h ho rfl hi hj e
    subst this
    omega
  · rcases lx_tri e with b | b
    · exact b
    · have := p2_mono h hj hi b; omega
theorem pos1_lt {s : Nat} (hs : lms n t s) : pos1 n t idx s < n := by
  obtain ⟨e1, _⟩ := pos1_eq (idx := idx) hs
  have := cnt_le_n n (fun j => t j < t s + 1)
  unfold less at e1
  omega
theorem keyL_step (h : Txt n t) : ∀ {m j : Nat}, m = n - j → j < n → ¬ rz n t j → lx (keyL n t idx (j + 1)) (keyL n t idx j) := by
  intro m
  induction m with
  | zero => intro j hm hj; omega
  | succ m ih =>
    intro j hm hj hf
    have h1 := fall_lt h hj hf
    obtain ⟨a1, a2⟩ := fall_ge h hj hf
    rw [keyL_f hj hf]
    by_cases r : rz n t (j + 1)
    · rw [keyL_r h1 r]
      refine lx_head ?_
      have : t (j + 1) ≠ t j := fun e => a2 e r
      omega
    · have hi := ih (j := j + 1) (by omega) h1 r
      rcases Nat.lt_or_ge (t (j + 1)) (t j) with c | c
      · rw [keyL_f h1 r]; exact lx_head (by omega)
      · have e : t j = t (j + 1) := by omega
        rw [e]
        conv => arg 1; rw [keyL_f h1 r]
        exact lx_cons.2 hi
theorem keyS_step (h : Txt n t) : ∀ {m j : Nat}, m = n - j → j + 1 < n → rz n t j → lx (keyS n t idx j) (keyS n t idx (j + 1)) := by
  intro m
  induction m with
  | zero => intro j hm hj; omega
  | succ m ih =>
    intro j hm hj hr
    obtain ⟨a1, a2⟩ := rise_le h hj hr
    rcases Nat.lt_or_ge (t j) (t (j + 1)) with c | c
    · exact key_char h (by omega) hj c
    · have e : t j = t (j + 1) := by omega
      have r2 := a2 e
      have h2 : j + 1 + 1 < n := by
        rcases Nat.lt_or_ge (j + 1 + 1) n with b | b
        · exact b
        · have hl := h.last
          rw [show n - 1 = j + 1 by omega] at hl
          have := h.more j hj
          omega
      have hi := ih (j := j + 1) (by omega) h2 r2
      rw [keyS_r hj hr, e]
      conv => arg 2; rw [keyS_r h2 r2]
      exact lx_cons.2 hi
/-! ### the passes -/
def upd (f : Nat → Int) (k : Nat) (v : Int) : Nat → Int := fun x => if x = k then v else f x
theorem upd_same (f : Nat → Int) (k : Nat) (v : Int) : upd f k v k = v := if_pos rfl
theorem upd_ne (f : Nat → Int) {k x : Nat} (v : Int) (h : x ≠ k) : upd f k v x = f x := if_neg h
/-- the first pass, behind the starts whose numbers in the order are at least q -/
structure Inv1 (n : Nat) (t idx : Nat → Nat) (q : Nat) (xs ts : Nat → Int) : Prop where
  there : ∀ s, lms n t s → q ≤ idx s → xs (pos1 n t idx s) = s
  none : ∀ x, x < n → (∀ s, lms n t s → q ≤ idx s → pos1 n t idx s ≠ x) → xs x = -1
  tails : ∀ c, ts c = (less n t (c + 1) : Nat) - (cnt n (fun s => lms n t s ∧ t s = c ∧ q ≤ idx s) : Nat)
theorem cnt_none {p : Nat → Prop} (h : ∀ i, i < n → ¬ p i) : cnt n p = 0 := by
  have h1 := cnt_mono (n := n) (p := p) (q := fun _ => False) (fun i hi a => h i hi a)
  have h2 : ∀ k, cnt k (fun _ => False) = 0 := by
    intro k
    induction k with
    | zero => rfl
    | succ k ih => unfold cnt; rw [ih, if_neg (fun h => h)]
  rw [h2] at h1
  omega
theorem inv1_start {q : Nat} (hq : ∀ s, lms n t s → idx s < q) : Inv1 n t idx q (fun _ => -1) (fun c => (less n t (c + 1) : Nat)) := by
  refine ⟨fun s hs h => ?_, fun _ _ _ => rfl, fun c => ?_⟩
  · have := hq s hs; omega
  · have := cnt_none (n := n) (p := fun s => lms n t s ∧ t s = c ∧ q ≤ idx s) (fun i _ a => by have := hq i a.1; omega)
    simp only [this]
    omega
theorem inv1_put (h : Txt n t) (ho : Ord n t idx) {q s : Nat} {xs ts : Nat → Int} (hI : Inv1 n t idx (q + 1) xs ts) (hs : lms n t s) (hq : idx s = q) :
    ts (t s) - 1 = (pos1 n t idx s : Nat) ∧ Inv1 n t idx q (upd xs (pos1 n t idx s) s) (upd ts (t s) (ts (t s) - 1)) := by
  obtain ⟨e1, e2⟩ := pos1_eq (idx := idx) hs
  have e3 := hI.tails (t s)
  have e4 : cnt n (fun x => lms n t x ∧ t x = t s ∧ q + 1 ≤ idx x) = cnt n (fun x => lms n t x ∧ t x = t s ∧ idx s < idx x) := cnt_congr fun x _ => by rw [hq]; exact ⟨fun a => ⟨a.1, a.2.1, by omega⟩, fun a => ⟨a.1, a.2.1, by omega⟩⟩
  have p1 : ∀ s', lms n t s' → pos1 n t idx s' = pos1 n t idx s → s' = s := fun s' h' he => p2_inj h ho ⟨h'.2.1, .inr h'⟩ ⟨hs.2.1, .inr hs⟩ (by rw [p2_r h'.2.2.1, p2_r hs.2.2.1, he])
  refine ⟨by omega, fun s' h' hq' => ?_, fun x hx hn => ?_, fun c => ?_⟩
  · by_cases e : pos1 n t idx s' = pos1 n t idx s
    · rw [e, upd_same, p1 s' h' e]
    · rw [upd_ne _ _ e]
      refine hI.there s' h' ?_
      rcases Nat.lt_or_ge q (idx s') with a | a
      · exact a
      · exact absurd (congrArg _ (ho.inj s' s h' hs (by omega))) e
  · have hne := hn s hs (by omega)
    rw [upd_ne _ _ (Ne.symm hne)]
    exact hI.none x hx fun s' h' hq' => hn s' h' (by omega)
  · by_cases e : c = t s
    · subst e
      rw [upd_same, e3]
      have := cnt_add (n := n) (p := fun x => lms n t x ∧ t x = t s ∧ q + 1 ≤ idx x) (q := fun x => lms n t x ∧ t x = t s ∧ q ≤ idx x) (x := s) hs.2.1 (fun a => by omega) (fun i hi => ⟨fun a => by
        rcases Nat.lt_or_ge q (idx i) with b | b
        · exact .inl ⟨a.1, a.2.1, b⟩
        · exact .inr (ho.inj i s a.1 hs (by omega)), fun a => a.elim (fun a => ⟨a.1, a.2.1, by omega⟩) (fun a => by subst a; exact ⟨hs, rfl, by omega⟩)⟩)
      omega
    · rw [upd_ne _ _ e, hI.tails c]
      have : cnt n (fun x => lms n t x ∧ t x = c ∧ q + 1 ≤ idx x) = cnt n (fun x => lms n t x ∧ t x = c ∧ q ≤ idx x) := cnt_congr fun i _ => ⟨fun a => ⟨a.1, a.2.1, by omega⟩, fun a => ⟨a.1, a.2.1, by
        rcases Nat.lt_or_ge q (idx i) with b | b
        · exact b
        · have := ho.inj i s a.1 hs (by omega)
          subst this
          exact absurd a.2.1.symm e⟩⟩
      rw [this]
/-- the second pass, at row r -/
structure Inv2 (n : Nat) (t idx : Nat → Nat) (r : Nat) (xs hs : Nat → Int) : Prop where
  fall : ∀ i, i < n → ¬ rz n t i → p2 n t idx (i + 1) < r → xs (pos n t idx i) = i
  starts : ∀ s, lms n t s → xs (pos1 n t idx s) = s
  none : ∀ x, x < n → (∀ i, i < n → ¬ rz n t i → p2 n t idx (i + 1) < r → pos n t idx i ≠ x) → (∀ s, lms n t s → pos1 n t idx s ≠ x) → xs x = -1
  heads : ∀ c, hs c = (less n t c : Nat) + (cnt n (fun i => ¬ rz n t i ∧ t i = c ∧ p2 n t idx (i + 1) < r) : Nat)
theorem inv2_start {xs ts : Nat → Int} (hI : Inv1 n t idx 0 xs ts) : Inv2 n t idx 0 xs (fun c => (less n t c : Nat)) := by
  refine ⟨fun i _ _ h => by omega, fun s hs => hI.there s hs (Nat.zero_le _), fun x hx _ h => hI.none x hx fun s hs _ => h s hs, fun c => ?_⟩
  have := cnt_none (n := n) (p := fun i => ¬ rz n t i ∧ t i = c ∧ p2 n t idx (i + 1) < 0) (fun i _ a => by omega)
  rw [this]
  omega
theorem inv2_at (h : Txt n t) {r : Nat} {xs hs : Nat → Int} (hI : Inv2 n t idx r xs hs) (hr : r < n) :
    (∃ j, FS n t j ∧ p2 n t idx j = r ∧ xs r = j) ∨ (xs r = -1 ∧ ∀ j, FS n t j → p2 n t idx j ≠ r) := by
  by_cases e : ∃ j, FS n t j ∧ p2 n t idx j = r
  · obtain ⟨j, hj, rfl⟩ := e
    refine .inl ⟨j, hj, rfl, ?_⟩
    by_cases a : rz n t j
    · rw [p2_r a]; exact hI.starts j (FS_lms hj a)
    · have := hI.fall j hj.1 a (p2_mono h (FS_next h hj.1 a) hj (keyL_step h rfl hj.1 a))
      rw [p2_f a]; exact this
  · have hno : ∀ j, FS n t j → p2 n t idx j ≠ r := fun j hj he => e ⟨j, hj, he⟩
    refine .inr ⟨hI.none r hr (fun i hi hf _ he => hno i ⟨hi, .inl hf⟩ (by rw [p2_f hf, he])) (fun s hs he => hno s ⟨hs.2.1, .inr hs⟩ (by rw [p2_r hs.2.2.1, he])), hno⟩
theorem inv2_skip {r : Nat} {xs hs : Nat → Int} (hI : Inv2 n t idx r xs hs) (hno : ∀ i, i < n → ¬ rz n t i → p2 n t idx (i + 1) ≠ r) : Inv2 n t idx (r + 1) xs hs := by
  refine ⟨fun i hi hf hp => hI.fall i hi hf (by have := hno i hi hf; omega), hI.starts, fun x hx h1 h2 => hI.none x hx (fun i hi hf hp => h1 i hi hf (by omega)) h2, fun c => ?_⟩
  rw [hI.heads c, cnt_congr (p := fun i => ¬ rz n t i ∧ t i = c ∧ p2 n t idx (i + 1) < r) (q := fun i => ¬ rz n t i ∧ t i = c ∧ p2 n t idx (i + 1) < r + 1)]
  exact fun i hi => ⟨fun a => ⟨a.1, a.2.1, by omega⟩, fun a => ⟨a.1, a.2.1, by have := hno i hi a.1; omega⟩⟩
theorem inv2_put (h : Txt n t) (ho : Ord n t idx) {r i : Nat} {xs hs : Nat → Int} (hI : Inv2 n t idx r xs hs) (hi : i < n) (hf : ¬ rz n t i) (hp : p2 n t idx (i + 1) = r) :
    hs (t i) = (pos n t idx i : Nat) ∧ Inv2 n t idx (r + 1) (upd xs (pos n t idx i) i) (upd hs (t i) (hs (t i) + 1)) := by
  have e1 := hI.heads (t i)
  have e2 := pos_fall (idx := idx) h hi hf
  have e3 : cnt n (fun j => ¬ rz n t j ∧ t j = t i ∧ p2 n t idx (j + 1) < r) = cnt n (fun j => ¬ rz n t j ∧ t j = t i ∧ lx (keyS n t idx j) (keyS n t idx i)) := by
    refine cnt_congr fun j hj => and_congr_right fun a => and_congr_right fun b => ?_
    rw [← hp, p2_iff h ho (FS_next h hj a) (FS_next h hi hf), keyS_f hj a, keyS_f hi hf, keyL_f hj a, keyL_f hi hf, b, lx_cons]
  have pin : ∀ j, j < n → pos n t idx j = pos n t idx i → j = i := fun j hj he => pos_inj h ho hj hi he
  have pnx : ∀ j, j < n → ¬ rz n t j → p2 n t idx (j + 1) = r → j = i := fun j hj a he => by
    have := p2_inj h ho (FS_next h hj a) (FS_next h hi hf) (by rw [he, hp])
    omega
  refine ⟨by omega, fun j hj a hq => ?_, fun s hs => ?_, fun x hx h1 h2 => ?_, fun c => ?_⟩
  · by_cases e : j = i
    · subst e; exact upd_same _ _ _
    · rw [upd_ne _ _ (fun e2 => e (pin j hj e2))]
      exact hI.fall j hj a (by
        have : p2 n t idx (j + 1) ≠ r := fun e2 => e (pnx j hj a e2)
        omega)
  · have : pos1 n t idx s ≠ pos n t idx i := fun e => by
      have := p2_inj h ho ⟨hs.2.1, .inr hs⟩ ⟨hi, .inl hf⟩ (by rw [p2_r hs.2.2.1, p2_f hf, e])
      subst this
      exact hf hs.2.2.1
    rw [upd_ne _ _ this]
    exact hI.starts s hs
  · rw [upd_ne _ _ (Ne.symm (h1 i hi hf (by omega)))]
    exact hI.none x hx (fun j hj a hq => h1 j hj a (by omega)) h2
  · by_cases e : c = t i
    · subst e
      rw [upd_same, e1, cnt_add (n := n) (p := fun j => ¬ rz n t j ∧ t j = t i ∧ p2 n t idx (j + 1) < r) (q := fun j => ¬ rz n t j ∧ t j = t i ∧ p2 n t idx (j + 1) < r + 1) (x := i) hi (fun a => by omega)]
      · omega
      · intro j hj
        constructor
        · rintro ⟨a, b, c⟩
          by_cases e2 : j = i
          · exact .inr e2
          · have : p2 n t idx (j + 1) ≠ r := fun e3 => e2 (pnx j hj a e3)
            exact .inl ⟨a, b, by omega⟩
        · rintro (⟨a, b, c⟩ | rfl)
          · exact ⟨a, b, by omega⟩
          · exact ⟨hf, rfl, by omega⟩
    · rw [upd_ne _ _ e, hI.heads c, cnt_congr (p := fun i => ¬ rz n t i ∧ t i = c ∧ p2 n t idx (i + 1) < r) (q := fun i => ¬ rz n t i ∧ t i = c ∧ p2 n t idx (i + 1) < r + 1)]
      exact fun j hj => ⟨fun a => ⟨a.1, a.2.1, by omega⟩, fun a => ⟨a.1, a.2.1, by
        have : p2 n t idx (j + 1) ≠ r := fun e3 => by
          have := pnx j hj a.1 e3
          subst this
          exact e a.2.1.symm
        omega⟩⟩
/-- the third pass, behind the rows from r on -/
structure Inv3 (n : Nat) (t idx : Nat → Nat) (r : Nat) (xs ts : Nat → Int) : Prop where
  fall : ∀ i, i < n → ¬ rz n t i → xs (pos n t idx i) = i
  rise : ∀ i, i + 1 < n → rz n t i → r ≤ pos n t idx (i + 1) → xs (pos n t idx i) = i
  last : xs (pos n t idx (n - 1)) = (n - 1 : Nat)
  tails : ∀ c, ts c = (less n t (c + 1) : Nat) - (cnt n (fun i => i + 1 < n ∧ rz n t i ∧ t i = c ∧ r ≤ pos n t idx (i + 1)) : Nat)
theorem lms_last (h : Txt n t) (h2 : 2 ≤ n) : lms n t (n - 1) := by
  refine ⟨by omega, by omega, rz_last h, fun hr => ?_⟩
  have h3 : n - 1 - 1 + 1 < n := by omega
  have := (rise_le h h3 hr).1
  rw [show n - 1 - 1 + 1 = n - 1 by omega, h.last] at this
  have := h.more (n - 1 - 1) h3
  omega
theorem zero_one (h : Txt n t) (p : Nat → Prop) (hp : ∀ i, i < n → p i → t i = 0 ∧ i ≠ n - 1) : cnt n p = 0 := cnt_none fun i hi a => (hp i hi a).2 (h.zero hi (hp i hi a).1)
theorem less_one (h : Txt n t) : less n t 1 = 1 := by
  unfold less
  rw [cnt_congr (q := fun i => i = n - 1)]
  · exact cnt_is (by have := h.pos; omega)
  · exact fun i hi => ⟨fun a => h.zero hi (by omega), fun a => by rw [a, h.last]; omega⟩
theorem pos_last (h : Txt n t) (h2 : 2 ≤ n) : pos n t idx (n - 1) = 0 ∧ pos1 n t idx (n - 1) = 0 := by
  constructor
  · unfold pos
    refine cnt_none fun i hi a => ?_
    rw [keyS_last h] at a
    by_cases e : i = n - 1
    · rw [e, keyS_last h] at a; exact lx_irr _ a
    · have hm := h.more i (by omega)
      by_cases r : rz n t i
      · obtain ⟨x, hx⟩ := keyS_head (idx := idx) h hi r
        rw [hx] at a
        exact lx_head_no (by omega) a
      · rw [keyS_f hi r, keyL_f hi r] at a
        exact lx_head_no (by omega) a
  · obtain ⟨e1, _⟩ := pos1_eq (idx := idx) (lms_last h h2)
    rw [h.last, Nat.zero_add, less_one h] at e1
    omega
theorem inv3_start (h : Txt n t) (h2 : 2 ≤ n) {xs hs : Nat → Int} (hI : Inv2 n t idx n xs hs) : Inv3 n t idx n xs (fun c => (less n t (c + 1) : Nat)) := by
  refine ⟨fun i hi hf => hI.fall i hi hf ?_, fun i hi _ hp => ?_, ?_, fun c => ?_⟩
  · have hn := FS_next h hi hf
    by_cases r : rz n t (i + 1)
    · rw [p2_r r]; exact pos1_lt (FS_lms hn r)
    · rw [p2_f r]; exact pos_lt hn.1
  · have := pos_lt (idx := idx) (t := t) hi; omega
  · have := hI.starts _ (lms_last h h2)
    obtain ⟨a, b⟩ := pos_last (idx := idx) h h2
    rw [b] at this
    rw [a]; exact this
  · have := cnt_none (n := n) (p := fun i => i + 1 < n ∧ rz n t i ∧ t i = c ∧ n ≤ pos n t idx (i + 1)) (fun i _ a => by have := pos_lt (idx := idx) (t := t) a.1; omega)
    simp only [this]
    omega
theorem inv3_at (h : Txt n t) (ho : Ord n t idx) {r : Nat} {xs ts : Nat → Int} (hI : Inv3 n t idx (r + 1) xs ts) (hr : r < n) : ∃ j, j < n ∧ pos n t idx j = r ∧ xs r = j := by
  obtain ⟨j, hj, rfl⟩ := pos_surj h ho hr
  refine ⟨j, hj, rfl, ?_⟩
  by_cases a : rz n t j
  · rcases Nat.lt_or_ge (j + 1) n with b | b
    · exact hI.rise j b a (pos_mono hj (keyS_step h rfl b a))
    · obtain rfl : j = n - 1 := by omega
      exact hI.last
  · exact hI.fall j hj a
theorem inv3_skip {r : Nat} {xs ts : Nat → Int} (hI : Inv3 n t idx (r + 1) xs ts) (hno : ∀ i, i + 1 < n → rz n t i → pos n t idx (i + 1) ≠ r) : Inv3 n t idx r xs ts := by
  refine ⟨hI.fall, fun i hi hr hp => hI.rise i hi hr (by have := hno i hi hr; omega), hI.last, fun c => ?_⟩
  rw [hI.tails c, cnt_congr (p := fun i => i + 1 < n ∧ rz n t i ∧ t i = c ∧ r + 1 ≤ pos n t idx (i + 1)) (q := fun i => i + 1 < n ∧ rz n t i ∧ t i = c ∧ r ≤ pos n t idx (i + 1))]
  exact fun i hi => ⟨fun a => ⟨a.1, a.2.1, a.2.2.1, by omega⟩, fun a => ⟨a.1, a.2.1, a.2.2.1, by have := hno i a.1 a.2.1; omega⟩⟩
theorem inv3_put (h : Txt n t) (ho : Ord n t idx) {r i : Nat} {xs ts : Nat → Int} (hI : Inv3 n t idx (r + 1) xs ts) (hi : i + 1 < n) (hz : rz n t i) (hp : pos n t idx (i + 1) = r) :
    ts (t i) - 1 = (pos n t idx i : Nat) ∧ Inv3 n t idx r (upd xs (pos n t idx i) i) (upd ts (t i) (ts (t i) - 1)) := by
  have hin : i < n := by omega
  have e1 := hI.tails (t i)
  have e2 := pos_rise (idx := idx) h ho hin hz
  have nl : ∀ j, j < n → t j = t i → j + 1 < n := fun j hj he => by
    rcases Nat.lt_or_ge (j + 1) n with b | b
    · exact b
    · obtain rfl : j = n - 1 := by omega
      rw [h.last] at he
      have := h.more i hi
      omega
  have e3 : cnt n (fun j => j + 1 < n ∧ rz n t j ∧ t j = t i ∧ r + 1 ≤ pos n t idx (j + 1)) = cnt n (fun j => rz n t j ∧ t j = t i ∧ lx (keyS n t idx i) (keyS n t idx j)) := by
    refine cnt_congr fun j hj => ⟨fun ⟨a, b, c, d⟩ => ⟨b, c, ?_⟩, fun ⟨b, c, d⟩ => ⟨nl j hj c, b, c, ?_⟩⟩
    · rw [keyS_r hi hz, keyS_r a b, c, lx_cons, ← pos_iff h ho hi a]
      omega
    · have a := nl j hj c
      rw [keyS_r hi hz, keyS_r a b, c, lx_cons, ← pos_iff h ho hi a] at d
      omega
  have pin : ∀ j, j < n → pos n t idx j = pos n t idx i → j = i := fun j hj he => pos_inj h ho hj hin he
  have pnx : ∀ j, j + 1 < n → pos n t idx (j + 1) = r → j = i := fun j hj he => by
    have := pos_inj h ho hj hi (by rw [he, hp])
    omega
  refine ⟨by omega, fun j hj a => ?_, fun j hj a hq => ?_, ?_, fun c => ?_⟩
  · rw [upd_ne _ _ (fun e => by have := pin j hj e; subst this; exact a hz)]
    exact hI.fall j hj a
  · by_cases e : j = i
    · subst e; exact upd_same _ _ _
    · rw [upd_ne _ _ (fun e2 => e (pin j (by omega) e2))]
      exact hI.rise j hj a (by
        have : pos n t idx (j + 1) ≠ r := fun e2 => e (pnx j hj e2)
        omega)
  · rw [upd_ne _ _ (fun e => by have := pin _ (by omega) e; omega)]
    exact hI.last
  · by_cases e : c = t i
    · subst e
      rw [upd_same, e1, cnt_add (n := n) (p := fun j => j + 1 < n ∧ rz n t j ∧ t j = t i ∧ r + 1 ≤ pos n t idx (j + 1)) (q := fun j => j + 1 < n ∧ rz n t j ∧ t j = t i ∧ r ≤ pos n t idx (j + 1)) (x := i) hin (fun a => by omega)]
      · omega
      · intro j hj
        constructor
        · rintro ⟨a, b, c, d⟩
          by_cases e2 : j = i
          · exact .inr e2
          · have : pos n t idx (j + 1) ≠ r := fun e3 => e2 (pnx j a e3)
            exact .inl ⟨a, b, c, by omega⟩
        · rintro (⟨a, b, c, d⟩ | rfl)
          · exact ⟨a, b, c, by omega⟩
          · exact ⟨hi, hz, rfl, by omega⟩
    · rw [upd_ne _ _ e, hI.tails c, cnt_congr (p := fun i => i + 1 < n ∧ rz n t i ∧ t i = c ∧ r + 1 ≤ pos n t idx (i + 1)) (q := fun i => i + 1 < n ∧ rz n t i ∧ t i = c ∧ r ≤ pos n t idx (i + 1))]
      exact fun j hj => ⟨fun a => ⟨a.1, a.2.1, a.2.2.1, by omega⟩, fun a => ⟨a.1, a.2.1, a.2.2.1, by
        have : pos n t idx (j + 1) ≠ r := fun e3 => by
          have := pnx j a.1 e3
          subst this
          exact e a.2.2.1.symm
        omega⟩⟩
/-- behind the passes every suffix is in its row -/
theorem inv3_end {xs ts : Nat → Int} (hI : Inv3 n t idx 0 xs ts) : ∀ i, i < n → xs (pos n t idx i) = i := fun i hi => by
  by_cases a : rz n t i
  · rcases Nat.lt_or_ge (i + 1) n with b | b
    · exact hI.rise i b a (Nat.zero_le _)
    · obtain rfl : i = n - 1 := by omega
      exact hI.last
  · exact hI.fall i hi a
end
end Go.Proofs.Ytpafbgdbjambgaa.SA
