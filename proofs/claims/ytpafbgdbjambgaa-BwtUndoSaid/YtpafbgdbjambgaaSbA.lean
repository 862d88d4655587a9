/- The Burrows-Wheeler transform: rows, the way back, and what is kept. -/
import Derived.Test.YtpafbgdbjambgaaSufCommon
namespace Go.Proofs.Ytpafbgdbjambgaa.SA
open Classical
theorem inc_id {N : Nat} {h : Nat → Nat} (hl : ∀ i, i < N → h i < N) (hm : ∀ i j, i < j → j < N → h i < h j) : ∀ i, i < N → h i = i := by
  have lo : ∀ i, i < N → i ≤ h i := by
    intro i
    induction i with
    | zero => intro _; exact Nat.zero_le _
    | succ i ih => intro hi; have := ih (by omega); have := hm i (i + 1) (by omega) hi; omega
  have hi : ∀ d i, i < N → N = i + 1 + d → h i ≤ i := by
    intro d
    induction d with
    | zero => intro i hi hd; have := hl i hi; omega
    | succ d ih => intro i hi hd; have := ih (i + 1) (by omega) (by omega); have := hm i (i + 1) (by omega) (by omega); omega
  intro i hi'
  have := lo i hi'
  have := hi (N - (i + 1)) i hi' (by omega)
  omega
/-- two ways to number that keep one order are one -/
theorem mono_uniq {N : Nat} {R : Nat → Nat → Prop} {f h : Nat → Nat} (hf : ∀ i, i < N → f i < N) (hh : ∀ i, i < N → h i < N) (tot : ∀ i j, i < N → j < N → i ≠ j → R i j ∨ R j i) (mf : ∀ i j, i < N → j < N → R i j → f i < f j) (mh : ∀ i j, i < N → j < N → R i j → h i < h j) : ∀ i, i < N → f i = h i := by
  have inj : ∀ i j, i < N → j < N → f i = f j → i = j := fun i j hi hj e => by
    by_cases x : i = j
    · exact x
    · rcases tot i j hi hj x with r | r
      · have := mf i j hi hj r; omega
      · have := mf j i hj hi r; omega
  have sf := surj hf inj
  have : ∀ r, ∃ v, r < N → ∃ i, i < N ∧ f i = r ∧ h i = v := fun r => by
    by_cases hr : r < N
    · obtain ⟨i, hi, e⟩ := sf r hr
      exact ⟨h i, fun _ => ⟨i, hi, e, rfl⟩⟩
    · exact ⟨0, fun x => absurd x hr⟩
  obtain ⟨g, hg⟩ := Classical.axiomOfChoice this
  have key := inc_id (N := N) (h := g) (fun r hr => by obtain ⟨i, hi, _, e⟩ := hg r hr; rw [← e]; exact hh i hi) (fun r s hrs hs => by
    obtain ⟨i, hi, ei, e⟩ := hg r (by omega)
    obtain ⟨j, hj, ej, e2⟩ := hg s hs
    rw [← e, ← e2]
    rcases tot i j hi hj (fun x => by subst x; omega) with r | r
    · exact mh i j hi hj r
    · have := mf j i hj hi r; omega)
  intro i hi
  obtain ⟨j, hj, ej, e⟩ := hg (f i) (hf i hi)
  have := inj j i hj hi ej
  subst this
  rw [e, key _ (hf j hi)]
section
variable {n : Nat} {b : Nat → Nat} {at_ : Nat}
/-- which symbol stands ahead of a row -/
def sy (at_ r : Nat) : Nat := if at_ < r then r - 1 else r
theorem sy_lt (h : at_ ≤ n) {r : Nat} (hr : r ≤ n) (hne : r ≠ at_) : sy at_ r < n := by unfold sy; split <;> omega
theorem sy_mono {r s : Nat} (hr : r ≠ at_) (hs : s ≠ at_) (h : r < s) : sy at_ r < sy at_ s := by unfold sy; split <;> split <;> omega
theorem sy_inj {r s : Nat} (hr : r ≠ at_) (hs : s ≠ at_) (h : sy at_ r = sy at_ s) : r = s := by
  rcases Nat.lt_trichotomy r s with x | x | x
  · have := sy_mono hr hs x; omega
  · exact x
  · have := sy_mono hs hr x; omega
/-- the order of symbols, by places where they are the same -/
def ahd (b : Nat → Nat) (i j : Nat) : Prop := b i < b j ∨ (b i = b j ∧ i < j)
theorem ahd_trans {i j k : Nat} (h : ahd b i j) (g : ahd b j k) : ahd b i k := by unfold ahd at *; omega
theorem ahd_irr (i : Nat) : ¬ ahd b i i := by unfold ahd; omega
theorem ahd_tot {i j : Nat} (h : i ≠ j) : ahd b i j ∨ ahd b j i := by unfold ahd; omega
/-- the row of the suffix that is one symbol longer -/
noncomputable def lf (n : Nat) (b : Nat → Nat) (at_ r : Nat) : Nat := if r = at_ then 0 else 1 + cnt n (fun j => ahd b j (sy at_ r))
theorem lf_at : lf n b at_ at_ = 0 := by unfold lf; rw [if_pos rfl]
theorem lf_ne {r : Nat} (h : r ≠ at_) : lf n b at_ r = 1 + cnt n (fun j => ahd b j (sy at_ r)) := by unfold lf; rw [if_neg h]
theorem lf_le (h : at_ ≤ n) {r : Nat} (hr : r ≤ n) : lf n b at_ r < n + 1 := by
  by_cases e : r = at_
  · rw [e, lf_at]; omega
  · rw [lf_ne e]
    have h1 := cnt_lt (n := n) (p := fun j => ahd b j (sy at_ r)) (q := fun _ => True) (fun _ _ _ => trivial) (sy_lt h hr e) (ahd_irr _) trivial
    have := cnt_le_n n (fun _ => True)
    omega
/-- the order of the rows by what stands ahead of them -/
def ro (b : Nat → Nat) (at_ r s : Nat) : Prop := (r = at_ ∧ s ≠ at_) ∨ (r ≠ at_ ∧ s ≠ at_ ∧ ahd b (sy at_ r) (sy at_ s))
theorem ro_tot {r s : Nat} (h : r ≠ s) : ro b at_ r s ∨ ro b at_ s r := by
  unfold ro
  by_cases e : r = at_
  · exact .inl (.inl ⟨e, fun x => h (e.trans x.symm)⟩)
  · by_cases e2 : s = at_
    · exact .inr (.inl ⟨e2, e⟩)
    · rcases ahd_tot (b := b) (i := sy at_ r) (j := sy at_ s) (fun x => h (sy_inj e e2 x)) with a | a
      · exact .inl (.inr ⟨e, e2, a⟩)
      · exact .inr (.inr ⟨e2, e, a⟩)
theorem lf_mono (h : at_ ≤ n) {r s : Nat} (hr : r ≤ n) (hs : s ≤ n) (ho : ro b at_ r s) : lf n b at_ r < lf n b at_ s := by
  rcases ho with ⟨e, e2⟩ | ⟨e, e2, a⟩
  · rw [e, lf_at, lf_ne e2]; omega
  · rw [lf_ne e, lf_ne e2]
    have := cnt_lt (n := n) (p := fun j => ahd b j (sy at_ r)) (q := fun j => ahd b j (sy at_ s)) (fun _ _ x => ahd_trans x a) (sy_lt h hr e) (ahd_irr _) a
    omega
/-- the walk back -/
noncomputable def wk (n : Nat) (b : Nat → Nat) (at_ : Nat) : Nat → Nat
  | 0 => 0
  | j + 1 => lf n b at_ (wk n b at_ j)
theorem wk_le (h : at_ ≤ n) (j : Nat) : wk n b at_ j ≤ n := by
  induction j with
  | zero => exact Nat.zero_le _
  | succ j ih => exact Nat.le_of_lt_succ (lf_le h ih)
/-- it is one circle -/
def Circ (n : Nat) (b : Nat → Nat) (at_ : Nat) : Prop := (∀ j, j < n → wk n b at_ j ≠ at_) ∧ wk n b at_ n = at_
end
/-- what is made of a list -/
structure IsBw (L B : List Nat) (at_ : Nat) : Prop where
  len : B.length = L.length
  at0 : at_ = rank (L.length + 1) (endT L) 0
  sym : ∀ i, 0 < i → i ≤ L.length → B.getD (sy at_ (rank (L.length + 1) (endT L) i)) 0 = L.getD (i - 1) 0
theorem rank_le {L : List Nat} {i : Nat} (h : i ≤ L.length) : rank (L.length + 1) (endT L) i ≤ L.length := Nat.le_of_lt_succ (rank_lt (by omega))
theorem rank_ne {L : List Nat} {i j : Nat} (hi : i ≤ L.length) (hj : j ≤ L.length) (h : i ≠ j) : rank (L.length + 1) (endT L) i ≠ rank (L.length + 1) (endT L) j := fun e => h (rank_inj (endT_txt L) (by omega) (by omega) e)
theorem rank_sur {L : List Nat} {r : Nat} (hr : r ≤ L.length) : ∃ i, i ≤ L.length ∧ rank (L.length + 1) (endT L) i = r := by
  obtain ⟨i, hi, e⟩ := surj (n := L.length + 1) (f := rank (L.length + 1) (endT L)) (fun i hi => rank_lt hi) (fun i j hi hj e => rank_inj (endT_txt L) hi hj e) r (by omega)
  exact ⟨i, by omega, e⟩
theorem rank_n (L : List Nat) : rank (L.length + 1) (endT L) L.length = 0 := rank_last (endT_txt L)
theorem rank_pos {L : List Nat} {i : Nat} (h : i < L.length) : 0 < rank (L.length + 1) (endT L) i := by
  have := rank_ne (L := L) (i := i) (j := L.length) (by omega) (by omega) (by omega)
  rw [rank_n] at this
  omega
theorem IsBw.uniq {L B B2 : List Nat} {a a2 : Nat} (h : IsBw L B a) (k : IsBw L B2 a2) : B = B2 ∧ a = a2 := by
  obtain rfl : a = a2 := h.at0.trans k.at0.symm
  refine ⟨?_, rfl⟩
  apply List.ext_getElem (by rw [h.len, k.len])
  intro q h1 h2
  have hl := h.len
  have hq : q < L.length := by omega
  have ha : a ≤ L.length := by rw [h.at0]; exact rank_le (by omega)
  obtain ⟨i, hi, e⟩ := rank_sur (L := L) (r := if q < a then q else q + 1) (by split <;> omega)
  have hne : rank (L.length + 1) (endT L) i ≠ a := by rw [e]; split <;> omega
  have hi0 : 0 < i := by
    rcases Nat.eq_zero_or_pos i with x | x
    · subst x; exact absurd h.at0.symm hne
    · exact x
  have hs : sy a (rank (L.length + 1) (endT L) i) = q := by rw [e]; unfold sy; split <;> split <;> omega
  have e1 := h.sym i hi0 hi
  have e2 := k.sym i hi0 hi
  rw [hs, List.getD_eq_getElem?_getD, List.getElem?_eq_getElem h1] at e1
  rw [hs, List.getD_eq_getElem?_getD, List.getElem?_eq_getElem h2] at e2
  exact e1.trans e2.symm
theorem endT_n {L : List Nat} : endT L L.length = 0 := endT_end
/-- what is made of a list is a circle, and reads back -/
theorem circ_of {L B : List Nat} {a : Nat} (h : IsBw L B a) : ∀ j, j ≤ L.length → wk L.length (fun i => B.getD i 0) a j = rank (L.length + 1) (endT L) (L.length - j) := by
  have ht := endT_txt L
  have ha : a ≤ L.length := by rw [h.at0]; exact rank_le (by omega)
  have key := mono_uniq (N := L.length + 1) (R := fun i j => ro (fun i => B.getD i 0) a (rank (L.length + 1) (endT L) i) (rank (L.length + 1) (endT L) j)) (f := fun i => lf L.length (fun i => B.getD i 0) a (rank (L.length + 1) (endT L) i)) (h := fun i => if i = 0 then 0 else rank (L.length + 1) (endT L) (i - 1))
    (fun i hi => lf_le ha (rank_le (by omega))) (fun i hi => by show (if _ then _ else _) < _; split; omega; exact rank_lt (by omega))
    (fun i j hi hj e => ro_tot (rank_ne (by omega) (by omega) e)) (fun i j hi hj r => lf_mono ha (rank_le (by omega)) (rank_le (by omega)) r) (fun i j hi hj r => by
      show (if _ then _ else _) < (if _ then _ else _)
      rcases r with ⟨e, e2⟩ | ⟨e, e2, r⟩
      · have i0 : i = 0 := rank_inj ht hi (by omega) (by rw [e]; exact h.at0)
        have j0 : j ≠ 0 := fun x => by subst x; exact e2 h.at0.symm
        rw [if_pos i0, if_neg j0]
        exact rank_pos (by omega)
      · have i0 : i ≠ 0 := fun x => by subst x; exact e h.at0.symm
        have j0 : j ≠ 0 := fun x => by subst x; exact e2 h.at0.symm
        rw [if_neg i0, if_neg j0]
        have s1 := h.sym i (by omega) (by omega)
        have s2 := h.sym j (by omega) (by omega)
        have t1 := endT_getD (L := L) (i := i - 1) (by omega)
        have t2 := endT_getD (L := L) (i := j - 1) (by omega)
        apply rank_mono
        rw [sl_iff]
        rcases r with r | ⟨r, r2⟩
        · refine .inl ⟨by omega, by omega, ?_⟩
          dsimp only at r
          rw [t1, t2]
          omega
        · refine .inr ⟨?_, ?_⟩
          · dsimp only at r
            rw [t1, t2]
            omega
          · rw [show i - 1 + 1 = i by omega, show j - 1 + 1 = j by omega]
            refine (rank_iff ht hi hj).1 ?_
            rcases Nat.lt_trichotomy (rank (L.length + 1) (endT L) i) (rank (L.length + 1) (endT L) j) with x | x | x
            · exact x
            · rw [x] at r2; omega
            · have := sy_mono e2 e x; omega)
  intro j
  induction j with
  | zero => intro _; rw [Nat.sub_zero, rank_n]; rfl
  | succ j ih =>
    intro hj
    show lf _ _ _ (wk _ _ _ j) = _
    rw [ih (by omega)]
    have := key (L.length - j) (by omega)
    rw [this, if_neg (by omega), show L.length - j - 1 = L.length - (j + 1) by omega]
/-- the list that a walk reads -/
noncomputable def wl (n : Nat) (b : Nat → Nat) (a : Nat) : List Nat := (List.range n).map fun i => b (sy a (wk n b a (n - 1 - i)))
theorem wl_len {n : Nat} {b : Nat → Nat} {a : Nat} : (wl n b a).length = n := by simp [wl]
theorem wl_get {n : Nat} {b : Nat → Nat} {a i : Nat} (h : i < n) : (wl n b a).getD i 0 = b (sy a (wk n b a (n - 1 - i))) := by
  unfold wl
  rw [List.getD_eq_getElem?_getD, List.getElem?_map, List.getElem?_range h]
  rfl
theorem undo {L B : List Nat} {a : Nat} (h : IsBw L B a) : Circ L.length (fun i => B.getD i 0) a ∧ wl L.length (fun i => B.getD i 0) a = L := by
  have hw := circ_of h
  refine ⟨⟨fun j hj e => ?_, ?_⟩, ?_⟩
  · rw [hw j (by omega), h.at0] at e
    exact rank_ne (by omega) (by omega) (by omega) e
  · rw [hw _ (Nat.le_refl _), Nat.sub_self, ← h.at0]
  · apply List.ext_getElem wl_len
    intro i h1 h2
    have e : (wl L.length (fun i => B.getD i 0) a).getD i 0 = L.getD i 0 := by
      rw [wl_get h2, hw _ (by omega), h.sym _ (by omega) (by omega)]
      congr 1
      omega
    rw [List.getD_eq_getElem?_getD, List.getD_eq_getElem?_getD, List.getElem?_eq_getElem h1, List.getElem?_eq_getElem h2] at e
    exact e
/-- a circle is what is made of the list that it reads -/
theorem redo {n : Nat} {B : List Nat} {a : Nat} (hn : B.length = n) (ha : a ≤ n) (hc : Circ n (fun i => B.getD i 0) a) : IsBw (wl n (fun i => B.getD i 0) a) B a := by
  generalize hb : (fun i => B.getD i 0) = b at hc ⊢
  generalize hL : wl n b a = L
  have hl : L.length = n := by rw [← hL, wl_len]
  have hg : ∀ i, i < n → L.getD i 0 = b (sy a (wk n b a (n - 1 - i))) := fun i hi => by rw [← hL]; exact wl_get hi
  have ht := endT_txt L
  have hw := fun j => wk_le (n := n) (b := b) ha j
  have mf : ∀ m i j, m = n - i → sl (n + 1) (endT L) i j → wk n b a (n - i) < wk n b a (n - j) := by
    intro m
    induction m with
    | zero =>
      intro i j hm hs
      have h1 := sl_lt hs
      obtain rfl : i = n := by omega
      have hj : j < i := by
        rcases Nat.lt_or_ge j i with x | x
        · exact x
        · exfalso
          obtain rfl : j = i := by omega
          exact sl_irr _ hs
      rw [Nat.sub_self, show i - j = (i - 1 - j) + 1 by omega]
      show 0 < lf _ _ _ _
      rw [lf_ne (hc.1 _ (by omega))]
      omega
    | succ m ih =>
      intro i j hm hs
      have h1 := sl_lt hs
      have t1 := endT_getD (L := L) (i := i) (by omega)
      have e1 := hg i (by omega)
      have lt : j < n → ro b a (wk n b a (n - 1 - i)) (wk n b a (n - 1 - j)) → wk n b a (n - i) < wk n b a (n - j) := fun hj r => by
        rw [show n - i = (n - 1 - i) + 1 by omega, show n - j = (n - 1 - j) + 1 by omega]
        exact lf_mono ha (hw _) (hw _) r
      rcases sl_iff.1 hs with ⟨_, h2, x⟩ | ⟨x, y⟩
      · have hj : j < n := by
          rcases Nat.lt_or_ge j n with z | z
          · exact z
          · rw [show j = L.length by omega, endT_end] at x; omega
        have t2 := endT_getD (L := L) (i := j) (by omega)
        have e2 := hg j hj
        refine lt hj (.inr ⟨hc.1 _ (by omega), hc.1 _ (by omega), .inl ?_⟩)
        omega
      · have y1 := sl_lt y
        have hj : j < n := by omega
        have t2 := endT_getD (L := L) (i := j) (by omega)
        have e2 := hg j hj
        have := ih (i + 1) (j + 1) (by omega) y
        refine lt hj (.inr ⟨hc.1 _ (by omega), hc.1 _ (by omega), .inr ⟨by omega, sy_mono (hc.1 _ (by omega)) (hc.1 _ (by omega)) ?_⟩⟩)
        rw [show n - 1 - i = n - (i + 1) by omega, show n - 1 - j = n - (j + 1) by omega]
        exact this
  have hr := mono_uniq (N := n + 1) (R := sl (n + 1) (endT L)) (f := fun i => wk n b a (n - i)) (h := rank (n + 1) (endT L)) (fun i hi => Nat.lt_succ_of_le (hw _)) (fun i hi => rank_lt hi) (fun i j hi hj e => sl_tri (by rw [← hl]; exact ht) rfl hi hj e) (fun i j _ _ h => mf _ i j rfl h) (fun i j _ _ h => rank_mono h)
  refine ⟨by omega, ?_, fun i h0 hi => ?_⟩
  · rw [hl, ← hr 0 (by omega)]
    show a = wk n b a (n - 0)
    rw [Nat.sub_zero, hc.2]
  · rw [hl] at hi
    rw [hl, ← hr i (by omega), hg (i - 1) (by omega), show n - 1 - (i - 1) = n - i by omega]
    exact congrFun hb _
/-! ### numbers of the rows, as they are counted -/
section
variable {n : Nat} {b : Nat → Nat} {at_ : Nat}
noncomputable def les (n : Nat) (b : Nat → Nat) (c : Nat) : Nat := cnt n fun j => b j < c
noncomputable def occ (b : Nat → Nat) (i c : Nat) : Nat := cnt i fun j => b j = c
theorem cnt_upto {p : Nat → Prop} {i : Nat} : ∀ {n : Nat}, i ≤ n → cnt n (fun j => p j ∧ j < i) = cnt i p
  | 0, h => by obtain rfl : i = 0 := by omega
               rfl
  | n + 1, h => by
    rcases Nat.eq_or_lt_of_le h with e | e
    · subst e
      exact cnt_congr fun j hj => ⟨fun x => x.1, fun x => ⟨x, hj⟩⟩
    · show cnt n _ + _ = _
      rw [cnt_upto (by omega), if_neg (by omega)]
      rfl
theorem lf_count {r : Nat} (h : at_ ≤ n) (hr : r ≤ n) (hne : r ≠ at_) : lf n b at_ r = 1 + les n b (b (sy at_ r)) + occ b (sy at_ r) (b (sy at_ r)) := by
  have hs := sy_lt h hr hne
  rw [lf_ne hne]
  unfold ahd les occ
  rw [cnt_or (p := fun j => b j < b (sy at_ r)) (q := fun j => b j = b (sy at_ r) ∧ j < sy at_ r) (fun i _ a => by omega), cnt_upto (p := fun j => b j = b (sy at_ r)) (Nat.le_of_lt hs)]
  omega
theorem cnt_yes {p : Nat → Prop} {i : Nat} (h : p i) : cnt (i + 1) p = cnt i p + 1 := by
  show _ + (if p i then 1 else 0) = _
  rw [if_pos h]
theorem cnt_no {p : Nat → Prop} {i : Nat} (h : ¬ p i) : cnt (i + 1) p = cnt i p := by
  show _ + (if p i then 1 else 0) = _
  rw [if_neg h]
  rfl
theorem occ_yes {i c : Nat} (e : b i = c) : occ b (i + 1) c = occ b i c + 1 := cnt_yes (p := fun j => b j = c) e
theorem occ_no {i c : Nat} (e : b i ≠ c) : occ b (i + 1) c = occ b i c := cnt_no (p := fun j => b j = c) e
theorem les_succ (c : Nat) : les n b (c + 1) = les n b c + occ b n c := by
  unfold les occ
  rw [← cnt_or (fun i _ a => by omega)]
  exact cnt_congr fun j _ => by omega
theorem les_zero : les n b 0 = 0 := cnt_none fun j _ => by omega
end
end Go.Proofs.Ytpafbgdbjambgaa.SA
