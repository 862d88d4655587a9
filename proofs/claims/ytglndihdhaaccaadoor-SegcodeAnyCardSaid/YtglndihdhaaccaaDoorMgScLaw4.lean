/- Walks of package bounds and of its reference. -/
import Derived.Test.YtglndihdhaaccaaDoorMgScLaw3
import Derived.Test.YtglndihdhaaccaaDoorMgScLaw2
import Derived.Test.YtglndihdhaaccaaDoorMgScLaw1
import Derived.Shelf.Small.Bits
import Derived.Shelf.Strconv.Itoa0
import Derived.Shelf.Bytes.SlSearch0
import Derived.Shelf.Bytes.SlEqualAll
import Derived.Shelf.Bytes.Small
import Derived.Test.YtglndihdhaaccaaDoorProg
import Derived.Sort.OwnSortedInts
set_option maxRecDepth 100000
namespace Go.Proofs.YtglndihdhaaccaaDoor.SA
open Classical
section
variable {n : Nat} {b : Nat → Nat} {at_ : Nat}
/-- which symbol stands ahead of a row -/
def sy (at_ r : Nat) : Nat := if at_ < r then r - 1 else r
theorem sy_lt (h : at_ ≤ n) {r : Nat} (hr : r ≤ n) (hne : r ≠ at_) : sy at_ r < n := by unfold sy; split <;> omega
/-- the order of symbols, by places where they are the same -/
def ahd (b : Nat → Nat) (i j : Nat) : Prop := b i < b j ∨ (b i = b j ∧ i < j)
/-- the row of the suffix that is one symbol longer -/
noncomputable def lf (n : Nat) (b : Nat → Nat) (at_ r : Nat) : Nat := if r = at_ then 0 else 1 + cnt n (fun j => ahd b j (sy at_ r))
/-- the order of the rows by what stands ahead of them -/
def ro (b : Nat → Nat) (at_ r s : Nat) : Prop := (r = at_ ∧ s ≠ at_) ∨ (r ≠ at_ ∧ s ≠ at_ ∧ ahd b (sy at_ r) (sy at_ s))
/-- the walk back -/
noncomputable def wk (n : Nat) (b : Nat → Nat) (at_ : Nat) : Nat → Nat
  | 0 => 0
  | j + 1 => lf n b at_ (wk n b at_ j)
/-- it is one circle -/
def Circ (n : Nat) (b : Nat → Nat) (at_ : Nat) : Prop := (∀ j, j < n → wk n b at_ j ≠ at_) ∧ wk n b at_ n = at_
end
/-- what is made of a list -/
structure IsBw (L B : List Nat) (at_ : Nat) : Prop where
  len : B.length = L.length
  at0 : at_ = rank (L.length + 1) (endT L) 0
  sym : ∀ i, 0 < i → i ≤ L.length → B.getD (sy at_ (rank (L.length + 1) (endT L) i)) 0 = L.getD (i - 1) 0
theorem rank_le {L : List Nat} {i : Nat} (h : i ≤ L.length) : rank (L.length + 1) (endT L) i ≤ L.length := Nat.le_of_lt_succ (rank_lt (by omega))
theorem rank_ne {L : List Nat} {i j : Nat} (hi : i ≤ L.length) (hj : j ≤ L.length) (h : i ≠ j) : rank (L.length + 1) (endT L) i ≠ rank (L.length + 1) (endT L) j := fun e => h (rank_inj (endT_txt L) (by omega) (by omega) e)
theorem rank_sur {L : List Nat} {r : Nat} (hr : r ≤ L.length) : ∃ i, i ≤ L.length ∧ rank (L.length + 1) (endT L) i = r := by
  obtain ⟨i, hi, e⟩ := surj (n := L.length + 1) (f := rank (L.length + 1) (endT L)) (fun i hi => rank_lt hi) (fun i j hi hj e => rank_inj (endT_txt L) hi hj e) r (by omega)
  exact ⟨i, by omega, e⟩
theorem rank_n (L : List Nat) : rank (L.length + 1) (endT L) L.length = 0 := rank_last (endT_txt L)
/-- the list that a walk reads -/
noncomputable def wl (n : Nat) (b : Nat → Nat) (a : Nat) : List Nat := (List.range n).map fun i => b (sy a (wk n b a (n - 1 - i)))
/-! ### numbers of the rows, as they are counted -/
section
variable {n : Nat} {b : Nat → Nat} {at_ : Nat}
noncomputable def les (n : Nat) (b : Nat → Nat) (c : Nat) : Nat := cnt n fun j => b j < c
noncomputable def occ (b : Nat → Nat) (i c : Nat) : Nat := cnt i fun j => b j = c
end
end Go.Proofs.YtglndihdhaaccaaDoor.SA

namespace Go.Proofs.YtglndihdhaaccaaDoor.SA
open Classical
section
variable {n : Nat} {b : Nat → Nat} {a : Nat}
noncomputable def ctT (b : Nat → Nat) (i x : Nat) : Nat := if x = 0 then 0 else occ b i (x - 1)
noncomputable def smT (o n : Nat) (b : Nat → Nat) (c x : Nat) : Nat := if x ≤ c then o + les n b x else occ b n (x - 1)
noncomputable def frT (o n : Nat) (b : Nat → Nat) (i x : Nat) : Nat := if x < 512 then o + les n b x + occ b i x else o + les n b 512
noncomputable def nxT (n : Nat) (b : Nat → Nat) (a k r : Nat) : Nat := if r < k then lf n b a r else 0
noncomputable def nxR (n : Nat) (b : Nat → Nat) (a i r : Nat) : Nat := if sy a r < i ∧ r ≠ a then lf n b a r else 0
theorem nx_zero (r : Nat) : nxT n b a 0 r = 0 := by unfold nxT; rw [if_neg (by omega)]
theorem sy_gt {k : Nat} (h : a < k) : sy a k = k - 1 := by unfold sy; rw [if_pos h]
theorem sy_le {k : Nat} (h : k ≤ a) : sy a k = k := by unfold sy; rw [if_neg (by omega)]
end
/-- the suffix of a row -/
def rowS (L F : List Nat) (r : Nat) : Nat := if r = 0 then L.length else F.getD (r - 1) 0
theorem rowS_zero {L F : List Nat} : rowS L F 0 = L.length := rfl
theorem rowS_succ {L F : List Nat} (k : Nat) : rowS L F (k + 1) = F.getD k 0 := by unfold rowS; rw [if_neg (by omega)]; rfl
theorem rowS_rank {L F : List Nat} (hS : IsSA L F) {i : Nat} (hi : i ≤ L.length) : rowS L F (rank (L.length + 1) (endT L) i) = i := by
  rcases Nat.eq_or_lt_of_le hi with e | e
  · rw [e, rank_n]; rfl
  · obtain ⟨a, b, c⟩ := isSA_inv hS e
    unfold rowS
    rw [if_neg (by omega)]
    exact c
theorem rank_rowS {L F : List Nat} (hS : IsSA L F) {r : Nat} (hr : r ≤ L.length) : rowS L F r ≤ L.length ∧ rank (L.length + 1) (endT L) (rowS L F r) = r := by
  unfold rowS
  split
  · rename_i e; rw [e]; exact ⟨Nat.le_refl _, rank_n L⟩
  · obtain ⟨a, b⟩ := isSA_getD hS (show r - 1 < L.length by omega)
    exact ⟨Nat.le_of_lt a, by omega⟩
/-- what is made of the first m rows -/
structure BwT (L F : List Nat) (m : Nat) (B : List Nat) (a : Nat) : Prop where
  nil : L = [] → B = [] ∧ a = 0
  no : L ≠ [] → a = 0 → B.length = m ∧ (∀ r, r < m → rowS L F r ≠ 0) ∧ ∀ r, r < m → B.getD r 0 = L.getD (rowS L F r - 1) 0
  yes : L ≠ [] → 0 < a → a < m ∧ rowS L F a = 0 ∧ B.length + 1 = m ∧ ∀ r, r < m → r ≠ a → B.getD (sy a r) 0 = L.getD (rowS L F r - 1) 0
theorem BwT.zero {L F : List Nat} : BwT L F 0 [] 0 := ⟨fun _ => ⟨rfl, rfl⟩, fun _ _ => ⟨rfl, fun r h => absurd h (by omega), fun r h => absurd h (by omega)⟩, fun _ h => absurd h (by omega)⟩
theorem BwT.push {L F B : List Nat} {m a : Nat} (h : BwT L F m B a) (hS : IsSA L F) (hm : m ≤ L.length) (hne : rowS L F m ≠ 0) : BwT L F (m + 1) (B ++ [L.getD (rowS L F m - 1) 0]) a := by
  have h0 : L ≠ [] := fun e => by
    subst e
    have := (rank_rowS hS hm).1
    simp at this
    exact hne this
  refine ⟨fun e => absurd e h0, fun _ ha => ?_, fun _ ha => ?_⟩
  · obtain ⟨h1, h2, h3⟩ := h.no h0 ha
    refine ⟨by simp [h1], fun r hr => ?_, fun r hr => ?_⟩
    · rcases Nat.eq_or_lt_of_le (Nat.le_of_lt_succ hr) with e | e
      · subst e; exact hne
      · exact h2 r e
    · rw [getD_app, h1]
      rcases Nat.eq_or_lt_of_le (Nat.le_of_lt_succ hr) with e | e
      · subst e; rw [if_neg (by omega), if_pos rfl]
      · rw [if_pos e]; exact h3 r e
  · obtain ⟨h1, h2, h3, h4⟩ := h.yes h0 ha
    refine ⟨by omega, h2, by simp [h3], fun r hr hra => ?_⟩
    rw [getD_app]
    rcases Nat.eq_or_lt_of_le (Nat.le_of_lt_succ hr) with e | e
    · subst e
      rw [sy_gt h1, if_neg (by omega), if_pos (by omega)]
    · have := sy_lt (n := m - 1) (at_ := a) (by omega) (r := r) (by omega) hra
      rw [if_pos (by omega)]; exact h4 r e hra
theorem BwT.skip {L F B : List Nat} {m a : Nat} (h : BwT L F m B a) (hS : IsSA L F) (hm : m ≤ L.length) (hz : rowS L F m = 0) : BwT L F (m + 1) B m := by
  refine ⟨fun e => ⟨(h.nil e).1, by subst e; simpa using hm⟩, fun h0 ha => ?_, fun h0 ha => ?_⟩
  · subst ha
    rw [rowS_zero] at hz
    exact absurd (List.eq_nil_of_length_eq_zero hz) h0
  · rcases Nat.eq_zero_or_pos a with e | e
    · obtain ⟨h1, h2, h3⟩ := h.no h0 e
      refine ⟨by omega, hz, by omega, fun r hr hra => ?_⟩
      rw [sy_le (by omega)]
      exact h3 r (by omega)
    · obtain ⟨h1, h2, h3, h4⟩ := h.yes h0 e
      have a1 := (rank_rowS hS (show a ≤ L.length by omega)).2
      have a2 := (rank_rowS hS hm).2
      rw [h2] at a1
      rw [hz] at a2
      omega
theorem BwT.fin {L F B : List Nat} {a : Nat} (h : BwT L F (L.length + 1) B a) (hS : IsSA L F) : IsBw L B a := by
  by_cases h0 : L = []
  · obtain ⟨e1, e2⟩ := h.nil h0
    subst e1
    subst e2
    subst h0
    refine ⟨rfl, (rank_n []).symm, fun i hi hi2 => absurd hi2 (by simp; omega)⟩
  · have hp : 0 < L.length := List.length_pos_iff.2 h0
    have hr := rowS_rank hS (Nat.zero_le L.length)
    have hl := rank_le (L := L) (Nat.zero_le _)
    have ha : 0 < a := by
      rcases Nat.eq_zero_or_pos a with e | e
      · exact absurd hr ((h.no h0 e).2.1 _ (by omega))
      · exact e
    obtain ⟨h1, h2, h3, h4⟩ := h.yes h0 ha
    have a1 := (rank_rowS hS (show a ≤ L.length by omega)).2
    rw [h2] at a1
    refine ⟨by omega, a1.symm, fun i hi hi2 => ?_⟩
    have hne := rank_ne (L := L) (i := i) (j := 0) hi2 (by omega) (by omega)
    have := h4 _ (Nat.lt_succ_of_le (rank_le hi2)) (by rw [← a1]; exact hne)
    rw [rowS_rank hS hi2] at this
    exact this
theorem IsBw.le {L B : List Nat} {a : Nat} (h : IsBw L B a) : a ≤ L.length := by rw [h.at0]; exact rank_le (Nat.zero_le _)
end Go.Proofs.YtglndihdhaaccaaDoor.SA

namespace Go.Proofs.YtglndihdhaaccaaDoor.SA
open Classical
section
variable {n : Nat} {t : Nat → Nat}
/-- the suffix i is less than a pattern, and does not begin with it -/
def pLt (t : Nat → Nat) : Nat → List Nat → Prop
  | _, [] => False
  | i, c :: q => t i < c + 1 ∨ (t i = c + 1 ∧ pLt t (i + 1) q)
/-- it begins with it -/
def pBg (t : Nat → Nat) : Nat → List Nat → Prop
  | _, [] => True
  | i, c :: q => t i = c + 1 ∧ pBg t (i + 1) q
/-- less, or begins with it -/
def pLe (t : Nat → Nat) : Nat → List Nat → Prop
  | _, [] => True
  | i, c :: q => t i < c + 1 ∨ (t i = c + 1 ∧ pLe t (i + 1) q)
theorem pLe_iff : ∀ {q : List Nat} {i : Nat}, pLe t i q ↔ pLt t i q ∨ pBg t i q
  | [], i => by simp [pLe, pLt, pBg]
  | c :: q, i => by
    simp only [pLe, pLt, pBg]
    rw [pLe_iff (q := q)]
    constructor
    · rintro (a | ⟨a, b | b⟩)
      · exact .inl (.inl a)
      · exact .inl (.inr ⟨a, b⟩)
      · exact .inr ⟨a, b⟩
    · rintro ((a | ⟨a, b⟩) | ⟨a, b⟩)
      · exact .inl a
      · exact .inr ⟨a, .inl b⟩
      · exact .inr ⟨a, .inr b⟩
theorem pLt_not : ∀ {q : List Nat} {i : Nat}, pLt t i q → ¬ pBg t i q
  | [], _, h, _ => h
  | c :: q, i, h, ⟨k1, k2⟩ => by
    rcases h with h | ⟨_, h⟩
    · omega
    · exact pLt_not h k2
theorem pLt_down : ∀ {q : List Nat} {i j : Nat}, sl n t j i → pLt t i q → pLt t j q
  | [], _, _, _, h => h
  | c :: q, i, j, hs, h => by
    rcases sl_iff.1 hs with ⟨_, _, x⟩ | ⟨x, y⟩
    · rcases h with h | ⟨h, _⟩ <;> exact .inl (by omega)
    · rcases h with h | ⟨h, k⟩
      · exact .inl (by omega)
      · exact .inr ⟨by omega, pLt_down y k⟩
theorem pLe_down : ∀ {q : List Nat} {i j : Nat}, sl n t j i → pLe t i q → pLe t j q
  | [], _, _, _, _ => trivial
  | c :: q, i, j, hs, h => by
    rcases sl_iff.1 hs with ⟨_, _, x⟩ | ⟨x, y⟩
    · rcases h with h | ⟨h, _⟩ <;> exact .inl (by omega)
    · rcases h with h | ⟨h, k⟩
      · exact .inl (by omega)
      · exact .inr ⟨by omega, pLe_down y k⟩
/-- what is closed downward are the first rows -/
theorem down_rank (h : Txt n t) {p : Nat → Prop} (hd : ∀ i j, sl n t j i → p i → p j) {i : Nat} (hi : i < n) : p i ↔ rank n t i < cnt n p := by
  constructor
  · intro hp
    exact cnt_lt (fun j _ hj => hd i j hj hp) hi (sl_irr _) hp
  · intro hr
    by_cases hp : p i
    · exact hp
    · exfalso
      have : cnt n p ≤ rank n t i := cnt_mono fun j hj hpj => by
        by_cases e : j = i
        · subst e; exact absurd hpj hp
        · rcases sl_tri h rfl hj hi e with a | a
          · exact a
          · exact absurd (hd j i a hpj) hp
      omega
end
/-- the first row of a pattern, and one more than the last -/
noncomputable def frP (L q : List Nat) : Nat := cnt (L.length + 1) fun i => pLt (endT L) i q
noncomputable def toP (L q : List Nat) : Nat := cnt (L.length + 1) fun i => pLe (endT L) i q
theorem toP_le (L q : List Nat) : toP L q ≤ L.length + 1 := cnt_le_n _ _
theorem fr_le_to (L q : List Nat) : frP L q ≤ toP L q := cnt_mono fun _ _ h => pLe_iff.2 (.inl h)
theorem frP_row {L F q : List Nat} (hS : IsSA L F) {r : Nat} (hr : r ≤ L.length) : pLt (endT L) (rowS L F r) q ↔ r < frP L q := by
  obtain ⟨h1, h2⟩ := rank_rowS hS hr
  have := down_rank (endT_txt L) (p := fun i => pLt (endT L) i q) (fun i j a b => pLt_down a b) (Nat.lt_succ_of_le h1)
  rw [h2] at this
  exact this
theorem toP_row {L F q : List Nat} (hS : IsSA L F) {r : Nat} (hr : r ≤ L.length) : pLe (endT L) (rowS L F r) q ↔ r < toP L q := by
  obtain ⟨h1, h2⟩ := rank_rowS hS hr
  have := down_rank (endT_txt L) (p := fun i => pLe (endT L) i q) (fun i j a b => pLe_down a b) (Nat.lt_succ_of_le h1)
  rw [h2] at this
  exact this
/-- the rows that begin with a pattern -/
theorem bg_row {L F q : List Nat} (hS : IsSA L F) {r : Nat} (hr : r ≤ L.length) : pBg (endT L) (rowS L F r) q ↔ frP L q ≤ r ∧ r < toP L q := by
  have h1 := frP_row (q := q) hS hr
  have h2 := toP_row (q := q) hS hr
  rw [pLe_iff] at h2
  constructor
  · intro h
    have := h2.1 (.inr h)
    refine ⟨?_, this⟩
    rcases Nat.lt_or_ge r (frP L q) with x | x
    · exact absurd h (pLt_not (h1.2 x))
    · exact x
  · rintro ⟨a, b⟩
    rcases h2.2 b with x | x
    · have := h1.1 x; omega
    · exact x
section
variable {L B : List Nat} {a : Nat}
end
theorem bg_le {L : List Nat} : ∀ {q : List Nat} {i : Nat}, i ≤ L.length → pBg (endT L) i q → i + q.length ≤ L.length
  | [], i, h, _ => by simpa using h
  | c :: q, i, h, ⟨h1, h2⟩ => by
    have hi : i < L.length := by
      rcases Nat.lt_or_ge i L.length with x | x
      · exact x
      · rw [show i = L.length by omega, endT_end] at h1; omega
    have := bg_le (q := q) (i := i + 1) (by omega) h2
    rw [List.length_cons]
    omega
end Go.Proofs.YtglndihdhaaccaaDoor.SA

namespace Go.Proofs.YtglndihdhaaccaaDoor.SA
open Classical
theorem rowS_inj {L F : List Nat} (hS : IsSA L F) {r s : Nat} (hr : r ≤ L.length) (hs : s ≤ L.length) (h : rowS L F r = rowS L F s) : r = s := by
  have a := (rank_rowS hS hr).2
  have b := (rank_rowS hS hs).2
  rw [h] at a
  omega
theorem asc_uniq : ∀ {a b : List Nat}, a.Pairwise (· < ·) → b.Pairwise (· < ·) → (∀ x, x ∈ a ↔ x ∈ b) → a = b
  | [], [], _, _, _ => rfl
  | [], y :: b, _, _, h => absurd ((h y).2 (List.mem_cons_self ..)) (by simp)
  | x :: a, [], _, _, h => absurd ((h x).1 (List.mem_cons_self ..)) (by simp)
  | x :: a, y :: b, ha, hb, h => by
    rw [List.pairwise_cons] at ha hb
    have e : x = y := by
      rcases List.mem_cons.1 ((h x).1 (List.mem_cons_self ..)) with e | e
      · exact e
      · rcases List.mem_cons.1 ((h y).2 (List.mem_cons_self ..)) with e2 | e2
        · exact e2.symm
        · have := hb.1 x e
          have := ha.1 y e2
          omega
    subst e
    congr 1
    refine asc_uniq ha.2 hb.2 fun z => ⟨fun hz => ?_, fun hz => ?_⟩
    · rcases List.mem_cons.1 ((h z).1 (List.mem_cons_of_mem _ hz)) with e | e
      · subst e; have := ha.1 z hz; omega
      · exact e
    · rcases List.mem_cons.1 ((h z).2 (List.mem_cons_of_mem _ hz)) with e | e
      · subst e; have := hb.1 z hz; omega
      · exact e
/-- all places of a pattern, rising -/
noncomputable def fndL (L p : List Nat) : List Nat := (List.range L.length).filter fun i => decide (pBg (endT L) i p)
noncomputable def fndTo (L p : List Nat) (k : Nat) : List Nat := (List.range k).filter fun i => decide (pBg (endT L) i p)
theorem fndL_asc (L p : List Nat) : (fndL L p).Pairwise (· < ·) := List.Pairwise.filter _ (List.pairwise_lt_range (n := L.length))
theorem mem_fndL {L p : List Nat} {i : Nat} : i ∈ fndL L p ↔ i < L.length ∧ pBg (endT L) i p := by
  unfold fndL
  rw [List.mem_filter, List.mem_range, decide_eq_true_iff]
/-- the places, by rows -/
def plc (L F : List Nat) (fr k : Nat) : List Nat := (List.range k).map fun j => rowS L F (fr + j)
theorem plc_len {L F : List Nat} {fr k : Nat} : (plc L F fr k).length = k := by simp [plc]
theorem plc_mem {L F p : List Nat} (hS : IsSA L F) (hp : p ≠ []) {x : Nat} : x ∈ plc L F (frP L p) (toP L p - frP L p) ↔ x ∈ fndL L p := by
  have hle := toP_le L p
  unfold plc
  rw [List.mem_map, mem_fndL]
  constructor
  · rintro ⟨j, hj, rfl⟩
    have hj := List.mem_range.1 hj
    have hr : frP L p + j ≤ L.length := by omega
    have h1 := (bg_row (q := p) hS hr).2 ⟨by omega, by omega⟩
    refine ⟨?_, h1⟩
    have := bg_le (rank_rowS hS hr).1 h1
    have := List.length_pos_iff.2 hp
    omega
  · rintro ⟨h1, h2⟩
    have hs := rowS_rank hS (Nat.le_of_lt h1)
    rw [← hs] at h2
    have := (bg_row hS (rank_le (Nat.le_of_lt h1))).1 h2
    exact ⟨rank (L.length + 1) (endT L) x - frP L p, List.mem_range.2 (by omega), by rw [show frP L p + (rank (L.length + 1) (endT L) x - frP L p) = rank (L.length + 1) (endT L) x by omega]; exact hs⟩
theorem plc_nodup {L F : List Nat} (hS : IsSA L F) {fr k : Nat} (h : fr + k ≤ L.length + 1) : (plc L F fr k).Nodup := by
  unfold plc
  refine List.pairwise_map.2 ((List.pairwise_lt_range (n := k)).imp_of_mem fun {i j} hi hj hij e => ?_)
  have h1 := List.mem_range.1 hi
  have h2 := List.mem_range.1 hj
  have := rowS_inj hS (show fr + i ≤ L.length by omega) (show fr + j ≤ L.length by omega) e
  omega
/-- the span that is found, as far as rows are looked at -/
noncomputable def spF (L p : List Nat) (i : Nat) : Nat := if frP L p < min i (toP L p) then frP L p else 0
noncomputable def spT (L p : List Nat) (i : Nat) : Nat := if frP L p < min i (toP L p) then min i (toP L p) else 0
/-- what Rows tells -/
noncomputable def rwF (L p : List Nat) : Nat := if frP L p < toP L p then frP L p else 0
noncomputable def rwT (L p : List Nat) : Nat := if frP L p < toP L p then toP L p else 0
theorem rw_sub (L p : List Nat) : rwF L p ≤ rwT L p ∧ rwT L p ≤ L.length + 1 := by
  have := toP_le L p
  unfold rwF rwT
  split <;> omega
/-! ### stored rows -/
noncomputable def smp (L F : List Nat) (k : Nat) : List Nat := (List.range k).filter fun r => decide (rowS L F r % 8 = 0)
theorem smp_yes {L F : List Nat} {k : Nat} (h : rowS L F k % 8 = 0) : smp L F (k + 1) = smp L F k ++ [k] := by
  unfold smp
  rw [List.range_succ, List.filter_append, List.filter_cons_of_pos (by simpa using h)]
  rfl
theorem smp_no {L F : List Nat} {k : Nat} (h : rowS L F k % 8 ≠ 0) : smp L F (k + 1) = smp L F k := by
  unfold smp
  rw [List.range_succ, List.filter_append, List.filter_cons_of_neg (by simpa using h)]
  simp
theorem smp_le {L F : List Nat} {k : Nat} : (smp L F k).length ≤ k := by
  have := List.length_filter_le (fun r => decide (rowS L F r % 8 = 0)) (List.range k)
  rw [List.length_range] at this
  exact this
end Go.Proofs.YtglndihdhaaccaaDoor.SA

namespace Go.Proofs.YtglndihdhaaccaaDoor
open Go.RowKit Go.ChangeShapes Go.WideShapes Go.ChangeAt
open Go.Proofs.YtglndihdhaaccaaDoor.SA
/-! ### places -/
/-- where a pattern stands in a list -/
def pls (L q : List Nat) : List Nat := (List.range L.length).filter fun i => q.isPrefixOf (L.drop i)
end Go.Proofs.YtglndihdhaaccaaDoor

namespace Go.Proofs.YtglndihdhaaccaaDoor
open Go.RowKit
open Go.ChangeShapes Go.WideShapes Go.ChangeAt
open Go.Proofs.YtglndihdhaaccaaDoor.SA
end Go.Proofs.YtglndihdhaaccaaDoor

namespace Go.Proofs.YtglndihdhaaccaaDoor
open Go.RowKit
open Go.ChangeShapes Go.WideShapes Go.ChangeAt
open Go.Proofs.YtglndihdhaaccaaDoor.SA
theorem BwtMake_e60 : elemQ Tryd.prog 60 = some (3, 1) := by kernel_rfl
theorem BwtMake_m60 : makeQ Tryd.prog 60 = some (3, 8, (.int .i64 0)) := by kernel_rfl
theorem BwtMake_q60 : litQ Tryd.prog 60 = some (3, 1, 8, (.int .i64 0)) := by kernel_rfl
theorem BwtMake_k32 : callable Tryd.prog 32 = true := by kernel_rfl
theorem BwtMake_l60 : (elemQ Tryd.prog 60).isSome = true := by kernel_rfl
theorem BwtMake_g3 : aggQ Tryd.prog 3 = some false := by kernel_rfl
section
variable {P : Program} {ρ : Operand → Value} {w : World} {t : TypeId} {x y : Operand}
/-- room for later -/
theorem ro_make0 {e by_ m : Nat} {z : Value} {kl kc : IntKind} (ht : makeQ P t = some (e, by_, z)) (hz : z.cells = #[z]) (hx : ρ x = .int kl 0) (hy : ρ y = .int kc (m : Nat)) (hm : m ≤ 9223372036854775807) (hb : by_ * m ≤ 281474976710656) :
    ∃ cs : Array Value, cs.size = m ∧ RO P ρ (.makeSlice t x y) w (.slice (some ⟨w.heap.size, 0, none⟩) 0 m) (w.alloc (.cells cs e)) := by
  unfold makeQ at ht
  split at ht
  · rename_i e' hu
    cases hi : P.info? e' with
    | none => simp [hi] at ht
    | some i =>
      rw [hi] at ht
      simp only [Option.bind_some] at ht
      split at ht
      · rename_i hs
        cases hzz : i.zero with
        | none => simp [hzz] at ht
        | some z' =>
          simp only [hzz, Option.map_some, Option.some.injEq, Prod.mk.injEq] at ht
          obtain ⟨rfl, rfl, rfl⟩ := ht
          have hr := run_make (P := P) w t e' i z' hu hi hzz kl kc 0 (m : Int) (by omega) (by omega) (by
            have : ((i.bytes * m : Nat) : Int) ≤ 281474976710656 := by omega
            rwa [Int.natCast_mul] at this) (by omega)
          rw [Int.toNat_natCast] at hr
          exact ⟨madeCells z'.cells (m * i.size), by simp [madeCells, hs], fun _ _ _ _ _ => by simp [execOp, hx, hy, hr]⟩
      · cases ht
  · cases ht
end
theorem ok_make0 {P : Program} {ρ : Operand → Value} {w : World} {t : TypeId} {x y : Operand} {e by_ m base : Nat} {z : Value} {kl kc : IntKind} (ht : makeQ P t = some (e, by_, z)) (hz : z.cells = #[z]) (hx : ρ x = .int kl 0) (hy : ρ y = .int kc (m : Nat)) (hm : m ≤ 9007199254740992) (hb : by_ * m ≤ 281474976710656) (hbs : base ≤ w.heap.size) :
    ∃ v w', RO P ρ (.makeSlice t x y) w v w' ∧ From w w' ∧ ∃ g, v = .slice (some ⟨g, 0, none⟩) 0 m ∧ w'.ownsRow base e 1 (.slice (some ⟨g, 0, none⟩) 0 m) 0 [] := by
  obtain ⟨cs, h1, h2⟩ := ro_make0 (w := w) ht hz hx hy (by omega) hb
  exact ⟨_, _, h2, From.rfl_.new _, _, rfl, by simp, .inr ⟨_, m, cs, rfl, hbs, heap_alloc_new _ _, Nat.zero_le _, by unfold maxLen; omega, by simpa using h1, by simp⟩⟩
theorem ok_ex {P : Program} {ops : Array Oper} {n : Fr} {L : List (Nat × Value)} {w : World} {d : Nat} {op : Op} {ty : TypeId} {pos : String} {after : Array Edge} {R : Value → World → Prop} (h : ∃ v w', RO P (ev n L) op w v w' ∧ From w w' ∧ R v w') : OpOK P ops n L ⟨d, op, ty, pos, after, none⟩ w R := by
  obtain ⟨v, w', a, b, c⟩ := h
  exact ok_val a b c
/-- what Make tells -/
def MakeA (w' : World) (base : Nat) (xs : List Int) (v : Value) : Prop :=
  (xs.all (okS 512) = false ∧ v = .tuple #[.slice none 0 0, .int .i64 0, .int .i64 1]) ∨
  (∃ L B a A' c', xs = cI L ∧ (∀ x ∈ L, x < 512) ∧ IsBw L B a ∧ v = .tuple #[.slice A' B.length c', .int .i64 (a : Nat), .int .i64 0] ∧ w'.ownsRow base 3 1 (.slice A' B.length c') B.length ((cI B).map iV))
theorem bw_nil : IsBw [] [] 0 := ⟨rfl, (rank_n []).symm, fun i hi hi2 => absurd hi2 (by simp; omega)⟩
theorem cI_push {B : List Nat} {x : Nat} : (cI (B ++ [x])).map iV = (cI B).map iV ++ [iV ((x : Nat) : Int)] := by simp [cI]
theorem SA.BwT.len_le {L F B : List Nat} {m a : Nat} (h : BwT L F m B a) : B.length ≤ m := by
  by_cases h0 : L = []
  · rw [(h.nil h0).1]; exact Nat.zero_le _
  · rcases Nat.eq_zero_or_pos a with e | e
    · rw [(h.no h0 e).1]; exact Nat.le_refl _
    · have := (h.yes h0 e).2.2.1; omega
set_option maxHeartbeats 4000000 in
theorem make_rt (A : Option Addr) (c n : Nat) (xs : List Int) (w : World) (hr : RowOf iV w A xs) (hn : n = xs.length) (hl : n ≤ 131072) :
    Rt Tryd.prog 30 [.slice A n c] w (fun v w' => MakeA w' w.heap.size xs v ∧ From w w') := by
  refine enter (n := 54) Tryd.func30 rfl rfl rfl ?_
  refine cd_seq (cd_region ?_)
  refine ass rfl ?_
  refine asi rfl ?_
  refine asi rfl ?_
  refine st_nil (nx_then (cd_seq (cd_region ?_)))
  refine mvs rfl ?_
  refine st_call BwtMake_k32 (sort_rt A c n xs _ (hr.from_ From.rfl_) hn hl) ?_
  rintro v10 w1 ⟨hs10, E10⟩
  rcases hs10 with ⟨hbad, rfl⟩ | ⟨Ln, F, A', hLn, hlt, hSA, rfl, ho10⟩
  · refine mvt rfl ?_
    refine st_val (ro_extract rfl rfl) ?_
    refine st_val (ro_extract rfl rfl) ?_
    refine ass rfl ?_
    refine asi rfl ?_
    refine st_nil (nx_then (cd_seq (cd_seq (cd_region ?_))))
    refine mvi rfl ?_
    refine st_val (ro_neq rfl rfl) ?_
    refine mvb rfl ?_
    refine st_split (t := 15) rfl (fun Q2 => ?_) (fun Q2 => ?_)
    rotate_left
    · with_reducible replace Q2 := bx_f Q2
      exfalso; omega
    with_reducible replace Q2 := bx_t Q2
    refine st_gno rfl rfl ?_
    refine st_gno rfl rfl ?_
    refine st_gno rfl rfl ?_
    refine st_val (ro_pickT (v := .bool _) rfl rfl) ?_
    refine st_nil (nx_then ?_)
    refine cd_condT rfl ?_
    refine cd_seq (cd_region ?_)
    refine mvi rfl ?_
    refine ass rfl ?_
    refine asi rfl ?_
    refine asi rfl ?_
    refine st_nil (nx_then (cd_ret (rt_then ?_)))
    refine res3 (v := .slice _ _ _) (v' := .int _ _) (v'' := .int _ _) rfl rfl rfl rfl ?_
    first
      | exact ⟨.inl ⟨hbad, rfl⟩, (From.rfl_.next E10)⟩
      | (obtain rfl : Ln = [] := List.eq_nil_of_length_eq_zero (by omega)
         exact ⟨.inr ⟨[], [], 0, none, 0, hLn, hlt, bw_nil, rfl, World.ownsRow_nil _ _ _ _⟩, (From.rfl_.next E10)⟩)
  have hLl : Ln.length = n := by rw [hn, hLn, List.length_map]
  have hBz : From w w1 := E10
  have hrF := (sortA_own ho10).2
  have hFl := hSA.len
  have hrL : RowOf iV w A (cI Ln) := by rw [cI, ← hLn]; exact hr
  refine mvt rfl ?_
  refine st_val (ro_extract rfl rfl) ?_
  refine st_val (ro_extract rfl rfl) ?_
  refine ass rfl ?_
  refine asi rfl ?_
  refine st_nil (nx_then (cd_seq (cd_seq (cd_region ?_))))
  refine mvi rfl ?_
  refine st_val (ro_neq rfl rfl) ?_
  refine mvb rfl ?_
  refine st_split (t := 15) rfl (fun Q24 => ?_) (fun Q24 => ?_)
  · with_reducible replace Q24 := bx_t Q24
    exfalso; omega
  with_reducible replace Q24 := bx_f Q24
  refine st_unguard rfl ?_
  refine mvs rfl ?_
  refine st_unguard rfl ?_
  refine st_val (ro_len BwtMake_l60 rfl) ?_
  refine st_unguard rfl ?_
  refine st_val (ro_eql rfl rfl) ?_
  refine st_val (ro_pickF (v := .bool _) rfl rfl) ?_
  refine st_nil (nx_then ?_)
  refine cd_cond rfl (fun Q25 => ?_) (fun Q25 => ?_)
  · with_reducible replace Q25 := of_decide_eq_true Q25
    refine cd_seq (cd_region ?_)
    refine mvi rfl ?_
    refine ass rfl ?_
    refine asi rfl ?_
    refine asi rfl ?_
    refine st_nil (nx_then (cd_ret (rt_then ?_)))
    refine res3 (v := .slice _ _ _) (v' := .int _ _) (v'' := .int _ _) rfl rfl rfl rfl ?_
    first
      | exact ⟨.inl ⟨hbad, rfl⟩, (From.rfl_.next E10)⟩
      | (obtain rfl : Ln = [] := List.eq_nil_of_length_eq_zero (by omega)
         exact ⟨.inr ⟨[], [], 0, none, 0, hLn, hlt, bw_nil, rfl, World.ownsRow_nil _ _ _ _⟩, (From.rfl_.next E10)⟩)
  with_reducible replace Q25 := of_decide_eq_false Q25
  obtain ⟨bl, ol, rfl, hcl⟩ := rowD hrL (by omega)
  obtain ⟨bF, oF, rfl, hcF⟩ := rowD hrF (by omega)
  have hfirst : BwT Ln F 1 [Ln.getD (n - 1) 0] 0 := by
    have := BwT.zero.push hSA (Nat.zero_le _) (by rw [rowS_zero]; omega)
    rw [rowS_zero, hLl] at this
    exact this
  have hFz : From w1 w1 := From.rfl_
  have hT : BwT Ln F 0 [] 0 := BwT.zero
  refine cd_skip (nx_then (cd_seq ?_))
  apply cd_mu 11 10 [23, 30] [(21, eqp _), (22, eqp _), (23, fun v w' => ∃ g, v = .slice (some ⟨g, 0, none⟩) 0 n ∧ w'.ownsRow w1.heap.size 3 1 (.slice (some ⟨g, 0, none⟩) 0 n) 0 []), (24, eqp _), (25, eqp _), (26, eqp _), (27, eqp _), (28, eqp _), (29, eqp _), (30, fun v w' => ∃ g, v = .slice (some ⟨g, 0, none⟩) 1 1 ∧ Blk w' g 3 #[.int .i64 ((Ln.getD (n - 1) 0 : Nat) : Int)]), (31, fun v w' => ∃ A3 c3, v = .slice A3 1 c3 ∧ w'.ownsRow w1.heap.size 3 1 (.slice A3 1 c3) 1 [iV ((Ln.getD (n - 1) 0 : Nat) : Int)])] (fun w' => From w1 w') (fun w' => From w1 w') (by repeat first | exact pq_body | refine pq_then ?_ | refine pq_block ?_) (by kernel_rfl) (by kernel_rfl) (by kernel_rfl) ⟨eqp_mono _, eqp_mono _, (fun _ _ _ hF ⟨g, h1, h2⟩ => ⟨g, h1, h2.kept_from hF⟩), eqp_mono _, eqp_mono _, eqp_mono _, eqp_mono _, eqp_mono _, eqp_mono _, (fun _ _ _ hF ⟨g, h1, h2⟩ => ⟨g, h1, h2.from_ hF⟩), (fun _ _ _ hF ⟨A2, c2, h1, h2⟩ => ⟨A2, c2, h1, h2.kept_from hF⟩), trivial⟩ (From.rfl_.d1) (From.rfl_.d1) (fun _ _ hF h => h.next hF) (fun _ _ hF h => h.next hF)
  case hop =>
   refine ⟨?_, ?_⟩
   · rintro - w27 D27
     show OpOK _ _ _ _ _ _ _
     exact ok_pure (ro_move (v := .slice _ _ _) rfl) rfl
   refine ⟨?_, ?_⟩
   · rintro - w28 D28
     rintro _ rfl
     show OpOK _ _ _ _ _ _ _
     exact ok_pure (ro_len BwtMake_l60 rfl) rfl
   refine ⟨?_, ?_⟩
   · rintro - w29 D29
     rintro _ rfl
     show OpOK _ _ _ _ _ _ _
     refine ok_ex (ok_make0 (m := n) (base := w1.heap.size) BwtMake_m60 rfl rfl rfl (by omega) (by omega) D29.size)
   refine ⟨?_, ?_⟩
   · rintro - w30 D30
     show OpOK _ _ _ _ _ _ _
     exact ok_pure (ro_move (v := .slice _ _ _) rfl) rfl
   refine ⟨?_, ?_⟩
   · rintro - w31 D31
     show OpOK _ _ _ _ _ _ _
     exact ok_pure (ro_move (v := .slice _ _ _) rfl) rfl
   refine ⟨?_, ?_⟩
   · rintro - w32 D32
     rintro _ rfl
     show OpOK _ _ _ _ _ _ _
     exact ok_pure (ro_len BwtMake_l60 rfl) rfl
   refine ⟨?_, ?_⟩
   · rintro - w33 D33
     rintro _ rfl
     show OpOK _ _ _ _ _ _ _
     exact ok_pure (ro_subN (b := 1) rfl rfl (by omega)) rfl
   refine ⟨?_, ?_⟩
   · rintro - w34 D34
     rintro _ rfl _ rfl
     show OpOK _ _ _ _ _ _ _
     exact ok_pure (ro_indexAddr1 BwtMake_e60 rfl rfl (by omega)) rfl
   refine ⟨?_, ?_⟩
   · rintro - w35 D35
     rintro _ rfl
     show OpOK _ _ _ _ _ _ _
     exact ok_pure (ro_load BwtMake_g3 rfl (by exact cellF (hBz.next D35) (hcl (n - 1) (by omega)))) rfl
   refine ⟨?_, ?_⟩
   · rintro - w36 D36
     rintro _ rfl
     show OpOK _ _ _ _ _ _ _
     exact ok_val (ro_lit1 BwtMake_q60 rfl rfl rfl) (From.rfl_.new _) ⟨_, rfl, Blk.new _ _ _⟩
   refine ⟨?_, ?_⟩
   · intro h; cases h
   exact trivial
  case hmu =>
   rintro w38 D38
   rintro v38_23 ⟨g23, rfl, ho23⟩ v38_30 ⟨b30, rfl, hk30⟩
   show MuOK _ _ _ _ _ _ _
   refine mu_append BwtMake_q60 rfl (by decide) rfl ho23 D38.size rfl rfl ⟨_, _, rfl, hk30.whole⟩ (by simp [Value.oneCell']) (by omega) (by omega) ?_
   intro A3 c3 w3 ho3 hg3
   exact ⟨D38.grew hg3 (fun k hk => (own_at ho23 k hk).1), ⟨A3, c3, rfl, ho3⟩, fun t u ht h => muR_look (by repeat first | exact trivial | refine ⟨.inl rfl, ?_⟩ | refine ⟨.inr (fun _ h => h), ?_⟩) t u ht h⟩
  case hend =>
   rintro w39 D39
   rintro _ rfl _ rfl v23 _ _ rfl _ rfl _ rfl _ rfl _ rfl _ rfl v30 _ v31 ⟨A31, c31, rfl, ho31⟩
   show St _ _ _ _ _ _ _
   have HF31 := D39
   refine ass rfl ?_
   refine st_nil (nx_then (cd_seq (cd_seq (cd_region ?_))))
   refine mvs rfl ?_
   refine st_val (ro_len BwtMake_l60 rfl) ?_
   refine mvi rfl ?_
   refine st_nil (nx_then (cd_block ?_))
   refine cd_loop (G := Nat × List Nat × Option Addr × Nat × Nat) [6, 7, 35, 36, 37, 38, 39, 40, 41, 42, 43, 44, 45, 46, 47, 48, 49, 50, 51] (fun (k, Bs, A2, c2, a) => [(2, .slice A2 Bs.length c2), (3, .int .i64 (a : Nat)), (34, .int .i64 (k : Nat))]) (fun (k, Bs, A2, c2, a) w' => k ≤ n ∧ BwT Ln F (k + 1) Bs a ∧ w'.ownsRow w1.heap.size 3 1 (.slice A2 Bs.length c2) Bs.length ((cI Bs).map iV) ∧ From w1 w') (fun (k, _) => n - k) ((0, [Ln.getD (n - 1) 0], A31, c31, 0)) ⟨rfl, rfl, rfl, trivial⟩ ?_ ?_
   · exact ⟨Nat.zero_le _, hfirst, by simpa [cI] using ho31.kept_from From.rfl_, HF31.next From.rfl_⟩
   rintro ⟨k, Bs, A2, c2, a⟩ ρ40 w40 ⟨hk, hT, ho, hFz⟩
   refine cd_seq (cd_region ?_)
   refine st_val (ro_lss rfl rfl) ?_
   refine st_nil (nx_then (cd_seq ?_))
   refine cd_cond rfl (fun Q41 => ?_) (fun Q41 => ?_)
   · with_reducible replace Q41 := of_decide_eq_true Q41
     have hfk := (isSA_getD hSA (show k < Ln.length by omega)).1
     refine cd_skip (nx_then ?_)
     refine cd_cut (G := List Nat × Option Addr × Nat × Nat) [6, 7, 36, 37, 38, 39, 40, 41, 42, 43, 44, 45, 46, 47, 48, 49, 50] (fun (Bs', A2', c2', a') => [(2, .slice A2' Bs'.length c2'), (3, .int .i64 (a' : Nat))]) (fun (Bs', A2', c2', a') w' => BwT Ln F (k + 1 + 1) Bs' a' ∧ w'.ownsRow w1.heap.size 3 1 (.slice A2' Bs'.length c2') Bs'.length ((cI Bs').map iV) ∧ From w1 w') ?_ ?_
     · refine cd_block (cd_seq (cd_region ?_))
       refine mvi rfl ?_
       refine st_val (ro_indexAddr1 BwtMake_e60 rfl rfl (by omega)) ?_
       refine st_val (ro_load BwtMake_g3 rfl (by exact cellF (hFz.next From.rfl_) (hcF k (by omega)))) ?_
       refine asi rfl ?_
       refine asi rfl ?_
       refine st_nil (nx_then (cd_seq (cd_seq (cd_region ?_))))
       refine mvi rfl ?_
       refine st_val (ro_eql rfl rfl) ?_
       refine st_nil (nx_then ?_)
       refine cd_cond rfl (fun Q42 => ?_) (fun Q42 => ?_)
       · with_reducible replace Q42 := of_decide_eq_true Q42
         refine cd_seq (cd_region ?_)
         refine mvi rfl ?_
         refine st_val (ro_addN (b := 1) rfl rfl (by omega)) ?_
         refine asi rfl ?_
         refine st_nil (nx_then ?_)
         refine cd_exit ?_
         refine ex_then (ex_block ?_)
         refine nx_cut ((Bs, A2, c2, k + 1)) ⟨rfl, rfl, trivial⟩ (by (iterate 10 refine agr_cons rfl ?_); exact agr_rfl) ?_
         exact ⟨hT.skip hSA (by omega) (by rw [rowS_succ]; omega), ho.kept_from From.rfl_, hFz.next From.rfl_⟩
       with_reducible replace Q42 := of_decide_eq_false Q42
       refine cd_skip (nx_then (cd_region ?_))
       refine mvs rfl ?_
       refine mvs rfl ?_
       refine mvi rfl ?_
       refine st_val (ro_subN (b := 1) rfl rfl (by omega)) ?_
       refine st_val (ro_indexAddr1 BwtMake_e60 rfl rfl (by omega)) ?_
       refine st_val (ro_load BwtMake_g3 rfl (by exact cellF (hBz.next hFz) (hcl (F.getD k 0 - 1) (by omega)))) ?_
       refine st_lit1 (v := .int _ _) BwtMake_q60 rfl rfl rfl ?_
       intro b49 w43 E49 hb49 hk49
       have hap50 := hT.len_le
       refine st_appendB BwtMake_q60 rfl (by decide) rfl (A := A2) (xs := (cI Bs).map iV) (news := [iV ((Ln.getD (F.getD k 0 - 1) 0 : Nat) : Int)]) (ho.kept_from (From.rfl_.next E49)) ((hFz.next (From.rfl_.next E49)).size) rfl rfl (fun _ => ⟨b49, 0, rfl, hk49.whole⟩) (fun h => by cases h) (by simp [Value.oneCell']) (by omega) (by omega) ?_
       intro A50 c50 w44 ho50 hg50
       have HF50 := (hFz.next (From.rfl_.next E49)).grew hg50 (fun k hk => (own_at (ho.kept_from (From.rfl_.next E49)) k hk).1)
       refine ass rfl ?_
       refine st_nil (nx_block ?_)
       refine nx_cut ((Bs ++ [Ln.getD (F.getD k 0 - 1) 0], A50, c50, a)) ⟨(by rw [List.length_append]; rfl), rfl, trivial⟩ (by (iterate 16 refine agr_cons rfl ?_); exact agr_rfl) ?_
       exact ⟨by have := hT.push hSA (by omega) (by rw [rowS_succ]; omega); rw [rowS_succ] at this; exact this, by rw [List.length_append, cI_push]; exact ho50.kept_from From.rfl_, HF50.next From.rfl_⟩
     rintro ⟨Bs', A2', c2', a'⟩ ρ45 w45 ⟨hT', ho', hFz'⟩
     refine cd_region ?_
     refine st_val (ro_add64 rfl rfl (by omega)) ?_
     refine mvi rfl ?_
     refine st_nil ?_
     refine nx_cut ((k + 1, Bs', A2', c2', a')) ⟨(by first | rfl | (refine int_eq ?_; omega)), (by first | rfl | (refine int_eq ?_; omega)), (by first | rfl | (refine int_eq ?_; omega)), trivial⟩ (by (iterate 44 refine agr_cons rfl ?_); exact agr_rfl) ⟨?_, ?_⟩
     · exact ⟨by omega, hT', ho'.kept_from From.rfl_, hFz'.next From.rfl_⟩
     · show n - (k + 1) < n - k; omega
   with_reducible replace Q41 := of_decide_eq_false Q41
   refine cd_exit ?_
   refine ex_then (ex_then (ex_block (nx_then (cd_seq (cd_region ?_)))))
   refine mvs rfl ?_
   refine mvi rfl ?_
   refine ass rfl ?_
   refine asi rfl ?_
   refine asi rfl ?_
   refine st_nil (nx_then (cd_ret ?_))
   refine res3 (v := .slice _ _ _) (v' := .int _ _) (v'' := .int _ _) rfl rfl rfl rfl ?_
   obtain rfl : n = k := by omega
   have hb := (show BwT Ln F (Ln.length + 1) Bs a by rw [hLl]; exact hT).fin hSA
   exact ⟨.inr ⟨Ln, Bs, a, A2, c2, hLn, hlt, hb, rfl, own_le (ho.kept_from From.rfl_) hBz.size⟩, (hBz.next hFz)⟩
end Go.Proofs.YtglndihdhaaccaaDoor

namespace Go.Proofs.YtglndihdhaaccaaDoor
/-- how many of f 0 .. f (n - 1) hold -/
def cntB (f : Nat → Bool) : Nat → Nat
  | 0 => 0
  | n + 1 => cntB f n + (f n).toNat
theorem cntB_congr {f g : Nat → Bool} : ∀ {n : Nat}, (∀ i, i < n → f i = g i) → cntB f n = cntB g n
  | 0, _ => rfl
  | n + 1, h => by
    show cntB f n + (f n).toNat = cntB g n + (g n).toNat
    rw [cntB_congr fun i hi => h i (Nat.lt_succ_of_lt hi), h n (Nat.lt_succ_self n)]
theorem cntB_add (f : Nat → Bool) (m : Nat) : ∀ k, cntB f (m + k) = cntB f m + cntB (fun i => f (m + i)) k
  | 0 => rfl
  | k + 1 => by
    show cntB f (m + k) + (f (m + k)).toNat = cntB f m + (cntB (fun i => f (m + i)) k + (f (m + k)).toNat)
    rw [cntB_add f m k, Nat.add_assoc]
theorem cntB_false (n : Nat) : cntB (fun _ => false) n = 0 := by
  induction n with
  | zero => rfl
  | succ n ih => show cntB _ n + 0 = 0; rw [ih]
theorem cntB_le (f : Nat → Bool) : ∀ n, cntB f n ≤ n
  | 0 => Nat.le_refl _
  | n + 1 => by
    have := cntB_le f n
    show cntB f n + (f n).toNat ≤ n + 1
    have : (f n).toNat ≤ 1 := Bool.toNat_le _
    omega
/-- the bits of a word -/
def pop (x n : Nat) : Nat := cntB x.testBit n
theorem pop_split (x n : Nat) : pop x (8 + n) = pop (x % 256) 8 + pop (x / 256) n := by
  unfold pop
  rw [cntB_add]
  congr 1
  · exact cntB_congr fun i hi => by rw [show (256 : Nat) = 2 ^ 8 from rfl, Nat.testBit_mod_two_pow]; simp [hi]
  · exact cntB_congr fun i hi => by
      rw [show (256 : Nat) = 2 ^ 8 from rfl, ← Nat.shiftRight_eq_div_pow, Nat.testBit_shiftRight]
theorem and_split (a y c d : Nat) (ha : a < 256) (hc : c < 256) : (a + 256 * y) &&& (c + 256 * d) = (a &&& c) + 256 * (y &&& d) := by
  have h1 : ((a + 256 * y) &&& (c + 256 * d)) % 2 ^ 8 = a &&& c := by
    rw [Nat.and_mod_two_pow]
    congr 1 <;> omega
  have h2 : ((a + 256 * y) &&& (c + 256 * d)) / 2 ^ 8 = y &&& d := by
    rw [Nat.and_div_two_pow]
    congr 1 <;> omega
  have h3 := Nat.div_add_mod ((a + 256 * y) &&& (c + 256 * d)) (2 ^ 8)
  rw [h1, h2] at h3
  omega
def msk (c : Nat) : Nat → Nat
  | 0 => 0
  | n + 1 => c + 256 * msk c n
def q1 (n x : Nat) : Nat := (x / 2 &&& msk 85 n) + (x &&& msk 85 n)
def q2 (n x : Nat) : Nat := (x / 4 &&& msk 51 n) + (x &&& msk 51 n)
def q3 (n x : Nat) : Nat := (x / 16 + x) &&& msk 15 n
def b1 (b : Nat) : Nat := (b / 2 &&& 85) + (b &&& 85)
def b2 (b : Nat) : Nat := (b / 4 &&& 51) + (b &&& 51)
def b3 (b : Nat) : Nat := (b / 16 + b) &&& 15
def allB (p : Nat → Bool) : Nat → Bool
  | 0 => true
  | n + 1 => allB p n && p n
theorem allB_at {p : Nat → Bool} : ∀ {n : Nat}, allB p n = true → ∀ i, i < n → p i = true
  | 0, _, i, h => by omega
  | n + 1, h, i, hi => by
    have h' : (allB p n && p n) = true := h
    rw [Bool.and_eq_true] at h'
    rcases Nat.eq_or_lt_of_le (Nat.le_of_lt_succ hi) with e | e
    · subst e; exact h'.2
    · exact allB_at h'.1 i e
theorem b1_hi : allB (fun b => allB (fun y => ((b / 2 + 128 * y) &&& 85) == (b / 2 &&& 85)) 2) 256 = true := by decide +kernel
theorem b2_hi : allB (fun b => allB (fun y => ((b / 4 + 64 * y) &&& 51) == (b / 4 &&& 51)) 4) 256 = true := by decide +kernel
theorem b1_lt : allB (fun b => decide (b1 b < 256)) 256 = true := by decide +kernel
theorem b2_lt : allB (fun b => decide (b2 (b1 b) ≤ 68) && decide (b2 (b1 b) % 16 ≤ 4)) 256 = true := by decide +kernel
theorem b3_hi : allB (fun b => allB (fun y => ((b / 16 + 16 * y + b) &&& 15) == b3 b) 5) 69 = true := by decide +kernel
theorem b3_pop : allB (fun b => b3 (b2 (b1 b)) == pop b 8) 256 = true := by decide +kernel
def sp : Nat → Nat → Nat
  | 0, _ => 0
  | n + 1, x => pop (x % 256) 8 + 256 * sp n (x / 256)
theorem q1_step (n b y : Nat) (hb : b < 256) : q1 (n + 1) (b + 256 * y) = b1 b + 256 * q1 n y := by
  unfold q1
  show ((b + 256 * y) / 2 &&& (85 + 256 * msk 85 n)) + ((b + 256 * y) &&& (85 + 256 * msk 85 n)) = _
  have e : (b + 256 * y) / 2 = (b / 2 + 128 * (y % 2)) + 256 * (y / 2) := by omega
  rw [e, and_split _ _ _ _ (by omega) (by omega), and_split _ _ _ _ hb (by omega), eq_of_beq (allB_at (allB_at b1_hi b hb) (y % 2) (by omega))]
  unfold b1
  omega
theorem q2_step (n b y : Nat) (hb : b < 256) : q2 (n + 1) (b + 256 * y) = b2 b + 256 * q2 n y := by
  unfold q2
  show ((b + 256 * y) / 4 &&& (51 + 256 * msk 51 n)) + ((b + 256 * y) &&& (51 + 256 * msk 51 n)) = _
  have e : (b + 256 * y) / 4 = (b / 4 + 64 * (y % 4)) + 256 * (y / 4) := by omega
  rw [e, and_split _ _ _ _ (by omega) (by omega), and_split _ _ _ _ hb (by omega), eq_of_beq (allB_at (allB_at b2_hi b hb) (y % 4) (by omega))]
  unfold b2
  omega
theorem q3_step (n b y : Nat) (hb : b ≤ 68) (hy : y % 16 ≤ 4) : q3 (n + 1) (b + 256 * y) = b3 b + 256 * q3 n y := by
  unfold q3
  show ((b + 256 * y) / 16 + (b + 256 * y) &&& (15 + 256 * msk 15 n)) = _
  have e : (b + 256 * y) / 16 + (b + 256 * y) = (b / 16 + 16 * (y % 16) + b) + 256 * (y / 16 + y) := by omega
  rw [e, and_split _ _ _ _ (by omega) (by omega), eq_of_beq (allB_at (allB_at b3_hi b (by omega)) (y % 16) (by omega))]
theorem q_all : ∀ (n x : Nat), x < 256 ^ n → q2 n (q1 n x) % 16 ≤ 4 ∧ q3 n (q2 n (q1 n x)) = sp n x
  | 0, x, h => by
    have : x = 0 := by simp at h; omega
    subst this
    exact ⟨by decide, by decide⟩
  | n + 1, x, h => by
    have hx : x = x % 256 + 256 * (x / 256) := by omega
    have hb : x % 256 < 256 := by omega
    have hy : x / 256 < 256 ^ n := by rw [Nat.pow_succ] at h; omega
    obtain ⟨h1, h2⟩ := q_all n (x / 256) hy
    have k1 := of_decide_eq_true (allB_at b1_lt _ hb)
    have k2 := allB_at b2_lt _ hb
    simp only [Bool.and_eq_true, decide_eq_true_eq] at k2
    have k3 := eq_of_beq (allB_at b3_pop _ hb)
    have e : q2 (n + 1) (q1 (n + 1) x) = b2 (b1 (x % 256)) + 256 * q2 n (q1 n (x / 256)) := by
      conv => lhs; rw [hx]
      rw [q1_step n _ _ hb, q2_step n _ _ k1]
    rw [e]
    refine ⟨by omega, ?_⟩
    rw [q3_step n _ _ k2.1 h1, h2, k3]
    rfl
theorem pop_le (x n : Nat) : pop x n ≤ n := cntB_le _ _
theorem dv (K r q : Nat) (h : r < K) : (r + K * q) / K = q := by
  rw [Nat.add_mul_div_left _ _ (by omega), Nat.div_eq_of_lt h, Nat.zero_add]
theorem swar (v0 v1 v2 v3 v4 v5 v6 v7 : Nat) (p0 : v0 ≤ 8) (p1 : v1 ≤ 8) (p2 : v2 ≤ 8) (p3 : v3 ≤ 8) (p4 : v4 ≤ 8) (p5 : v5 ≤ 8) (p6 : v6 ≤ 8) (p7 : v7 ≤ 8)
    (a b c d : Nat) (ha : a = v0 + 256 * (v1 + 256 * (v2 + 256 * (v3 + 256 * (v4 + 256 * (v5 + 256 * (v6 + 256 * (v7 + 256 * 0)))))))) (hb : b = a + a / 256) (hc : c = b + b / 65536) (hd : d = c + c / 4294967296) :
    d % 128 = v0 + (v1 + (v2 + (v3 + (v4 + (v5 + (v6 + (v7 + 0))))))) := by
  have ea : a / 256 = v1 + 256 * (v2 + 256 * (v3 + 256 * (v4 + 256 * (v5 + 256 * (v6 + 256 * v7))))) := by
    rw [show a = v0 + 256 * (v1 + 256 * (v2 + 256 * (v3 + 256 * (v4 + 256 * (v5 + 256 * (v6 + 256 * v7)))))) by omega]
    exact dv _ _ _ (by omega)
  have eb : b = (v0 + v1) + 256 * ((v1 + v2) + 256 * ((v2 + v3) + 256 * ((v3 + v4) + 256 * ((v4 + v5) + 256 * ((v5 + v6) + 256 * ((v6 + v7) + 256 * v7)))))) := by
    rw [hb, ea, ha]; omega
  have eb2 : b / 65536 = (v2 + v3) + 256 * ((v3 + v4) + 256 * ((v4 + v5) + 256 * ((v5 + v6) + 256 * ((v6 + v7) + 256 * v7)))) := by
    rw [show b = ((v0 + v1) + 256 * (v1 + v2)) + 65536 * ((v2 + v3) + 256 * ((v3 + v4) + 256 * ((v4 + v5) + 256 * ((v5 + v6) + 256 * ((v6 + v7) + 256 * v7))))) by rw [eb]; omega]
    exact dv _ _ _ (by omega)
  have ec : c = ((v0 + v1 + v2 + v3) + 256 * (v1 + v2 + v3 + v4) + 65536 * (v2 + v3 + v4 + v5) + 16777216 * (v3 + v4 + v5 + v6)) + 4294967296 * ((v4 + v5 + v6 + v7) + 256 * ((v5 + v6 + v7) + 256 * ((v6 + v7) + 256 * v7))) := by
    rw [hc, eb2, eb]; omega
  have ec2 : c / 4294967296 = (v4 + v5 + v6 + v7) + 256 * ((v5 + v6 + v7) + 256 * ((v6 + v7) + 256 * v7)) := by
    rw [ec]
    exact dv _ _ _ (by omega)
  have ed : d = (v0 + v1 + v2 + v3 + v4 + v5 + v6 + v7) + 128 * (2 * (v1 + v2 + v3 + v4 + v5 + v6 + v7) + 512 * (v2 + v3 + v4 + v5 + v6 + v7) + 131072 * (v3 + v4 + v5 + v6 + v7) + 33554432 * ((v4 + v5 + v6 + v7) + 256 * ((v5 + v6 + v7) + 256 * ((v6 + v7) + 256 * v7)))) := by
    rw [hd, ec2, ec]; clear hd hc hb ha ea eb eb2 ec ec2 p0 p1 p2 p3 p4 p5 p6 p7; omega
  rw [ed]
  clear hd hc hb ha ea eb eb2 ec ec2 ed
  rw [Nat.add_mul_mod_self_left, Nat.mod_eq_of_lt (by omega)]
  omega
/-- the bits of a word, as the library counts them -/
def ones (x : Nat) : Nat :=
  let a := q3 8 (q2 8 (q1 8 x))
  let b := a + a / 256
  let c := b + b / 65536
  let d := c + c / 4294967296
  d % 128
theorem ones_pop {x : Nat} (h : x < 2 ^ 64) : ones x = pop x 64 := by
  have h2 := (q_all 8 x (by simpa using h)).2
  unfold ones
  rw [h2]
  have e : pop x 64 = pop (x % 256) 8 + (pop (x / 256 % 256) 8 + (pop (x / 256 / 256 % 256) 8 + (pop (x / 256 / 256 / 256 % 256) 8 + (pop (x / 256 / 256 / 256 / 256 % 256) 8 + (pop (x / 256 / 256 / 256 / 256 / 256 % 256) 8 + (pop (x / 256 / 256 / 256 / 256 / 256 / 256 % 256) 8 + (pop (x / 256 / 256 / 256 / 256 / 256 / 256 / 256 % 256) 8 + pop (x / 256 / 256 / 256 / 256 / 256 / 256 / 256 / 256) 0))))))) := by
    rw [show 64 = 8 + 56 from rfl, pop_split, show 56 = 8 + 48 from rfl, pop_split, show 48 = 8 + 40 from rfl, pop_split, show 40 = 8 + 32 from rfl, pop_split, show 32 = 8 + 24 from rfl, pop_split,
      show 24 = 8 + 16 from rfl, pop_split, show 16 = 8 + 8 from rfl, pop_split, show pop (x / 256 / 256 / 256 / 256 / 256 / 256 / 256) 8 = pop (x / 256 / 256 / 256 / 256 / 256 / 256 / 256) (8 + 0) from rfl, pop_split]
  rw [e]
  have p0 := pop_le (x % 256) 8
  have p1 := pop_le (x / 256 % 256) 8
  have p2 := pop_le (x / 256 / 256 % 256) 8
  have p3 := pop_le (x / 256 / 256 / 256 % 256) 8
  have p4 := pop_le (x / 256 / 256 / 256 / 256 % 256) 8
  have p5 := pop_le (x / 256 / 256 / 256 / 256 / 256 % 256) 8
  have p6 := pop_le (x / 256 / 256 / 256 / 256 / 256 / 256 % 256) 8
  have p7 := pop_le (x / 256 / 256 / 256 / 256 / 256 / 256 / 256 % 256) 8
  show (let a := pop (x % 256) 8 + 256 * (pop (x / 256 % 256) 8 + 256 * (pop (x / 256 / 256 % 256) 8 + 256 * (pop (x / 256 / 256 / 256 % 256) 8 + 256 * (pop (x / 256 / 256 / 256 / 256 % 256) 8 + 256 * (pop (x / 256 / 256 / 256 / 256 / 256 % 256) 8 + 256 * (pop (x / 256 / 256 / 256 / 256 / 256 / 256 % 256) 8 + 256 * (pop (x / 256 / 256 / 256 / 256 / 256 / 256 / 256 % 256) 8 + 256 * 0)))))));
    let b := a + a / 256; let c := b + b / 65536; let d := c + c / 4294967296; d % 128) = _
  have p8 : pop (x / 256 / 256 / 256 / 256 / 256 / 256 / 256 / 256) 0 = 0 := rfl
  rw [p8]
  generalize pop (x % 256) 8 = v0 at *
  generalize pop (x / 256 % 256) 8 = v1 at *
  generalize pop (x / 256 / 256 % 256) 8 = v2 at *
  generalize pop (x / 256 / 256 / 256 % 256) 8 = v3 at *
  generalize pop (x / 256 / 256 / 256 / 256 % 256) 8 = v4 at *
  generalize pop (x / 256 / 256 / 256 / 256 / 256 % 256) 8 = v5 at *
  generalize pop (x / 256 / 256 / 256 / 256 / 256 / 256 % 256) 8 = v6 at *
  generalize pop (x / 256 / 256 / 256 / 256 / 256 / 256 / 256 % 256) 8 = v7 at *
  clear h h2 e
  exact swar v0 v1 v2 v3 v4 v5 v6 v7 p0 p1 p2 p3 p4 p5 p6 p7 _ _ _ _ rfl rfl rfl rfl
/-! ### words of a list of bits; ranks -/
def bt (l : List Bool) (k : Nat) : Bool := l.getD k false
theorem bt_past {l : List Bool} {k : Nat} (h : l.length ≤ k) : bt l k = false := by
  unfold bt
  rw [List.getD_eq_getElem?_getD, List.getElem?_eq_none h]
  rfl
theorem bt_at {l : List Bool} {k : Nat} (h : k < l.length) : bt l k = l[k] := by
  unfold bt
  rw [List.getD_eq_getElem?_getD, List.getElem?_eq_getElem h]
  rfl
def rk (l : List Bool) (i : Nat) : Nat := cntB (bt l) i
theorem rk_le (l : List Bool) (i : Nat) : rk l i ≤ i := cntB_le _ _
theorem rk_past {l : List Bool} {i : Nat} (h : l.length ≤ i) : rk l i = rk l l.length := by
  obtain ⟨k, rfl⟩ := Nat.exists_eq_add_of_le h
  unfold rk
  rw [cntB_add, show cntB (fun i => bt l (l.length + i)) k = cntB (fun _ => false) k from cntB_congr fun i _ => bt_past (by omega), cntB_false, Nat.add_zero]
/-- these words hold the first k bits -/
structure WP (ws : List Nat) (l : List Bool) (k : Nat) : Prop where
  len : ws.length = (l.length + 63) / 64
  lt : ∀ x ∈ ws, x < 2 ^ 64
  bit : ∀ j (h : j < ws.length) i, i < 64 → ws[j].testBit i = (decide (64 * j + i < k) && bt l (64 * j + i))
theorem WP.zero (l : List Bool) : WP (List.replicate ((l.length + 63) / 64) 0) l 0 := by
  refine ⟨by simp, fun x hx => ?_, fun j h i hi => ?_⟩
  · rw [List.eq_of_mem_replicate hx]; decide
  · simp
theorem WP.skip {ws : List Nat} {l : List Bool} {k : Nat} (h : WP ws l k) (hb : bt l k = false) : WP ws l (k + 1) := by
  refine ⟨h.len, h.lt, fun j hj i hi => ?_⟩
  rw [h.bit j hj i hi]
  by_cases e : 64 * j + i = k
  · rw [e, hb]; simp
  · congr 1
    exact decide_eq_decide.2 (by omega)
theorem WP.put {ws : List Nat} {l : List Bool} {k : Nat} (h : WP ws l k) (hb : bt l k = true) (hk : k / 64 < ws.length) : WP (ws.set (k / 64) (ws[k / 64] ||| 1 * 2 ^ (k % 64) % 2 ^ 64)) l (k + 1) := by
  have hlt : ws[k / 64] ||| 1 * 2 ^ (k % 64) % 2 ^ 64 < 2 ^ 64 := Nat.or_lt_two_pow (h.lt _ (List.getElem_mem hk)) (Nat.mod_lt _ (by decide))
  refine ⟨by rw [List.length_set]; exact h.len, fun x hx => ?_, fun j hj i hi => ?_⟩
  · rcases List.mem_or_eq_of_mem_set hx with hx | rfl
    · exact h.lt x hx
    · exact hlt
  · rw [List.length_set] at hj
    have hk6 : k % 64 < 64 := Nat.mod_lt _ (by decide)
    by_cases e : j = k / 64
    · subst e
      rw [List.getElem_set_self, Nat.testBit_or, h.bit _ hj i hi, Nat.testBit_mod_two_pow, Nat.one_mul, Nat.testBit_two_pow]
      by_cases e2 : 64 * (k / 64) + i = k
      · rw [e2, hb]
        have : k % 64 = i := by omega
        simp [this, hi]
      · have h3 : ¬ k % 64 = i := by omega
        simp only [h3, decide_false, Bool.and_false, Bool.or_false]
        congr 1
        exact decide_eq_decide.2 (by omega)
    · rw [List.getElem_set_ne (fun e' => e e'.symm), h.bit j hj i hi]
      congr 1
      exact decide_eq_decide.2 (by omega)
theorem WP.bits {ws : List Nat} {l : List Bool} (h : WP ws l l.length) {j : Nat} (hj : j < ws.length) {i : Nat} (hi : i < 64) : ws[j].testBit i = bt l (64 * j + i) := by
  rw [h.bit j hj i hi]
  by_cases e : 64 * j + i < l.length
  · simp [e]
  · rw [bt_past (by omega)]; simp
theorem WP.rank {ws : List Nat} {l : List Bool} (h : WP ws l l.length) {j r : Nat} (hj : j < ws.length) (hr : r ≤ 64) : rk l (64 * j + r) = rk l (64 * j) + pop ws[j] r := by
  unfold rk pop
  rw [cntB_add]
  congr 1
  exact cntB_congr fun i hi => (h.bits hj (by omega)).symm
theorem WP.rankw {ws : List Nat} {l : List Bool} (h : WP ws l l.length) {j : Nat} (hj : j < ws.length) : rk l (64 * (j + 1)) = rk l (64 * j) + pop ws[j] 64 := by
  rw [← h.rank hj (Nat.le_refl _), Nat.mul_succ]
theorem q1_eq (x : Nat) : q1 8 x = (x / 2 ^ 1 &&& 6148914691236517205) + (x &&& 6148914691236517205) := rfl
theorem q2_eq (x : Nat) : q2 8 x = (x / 2 ^ 2 &&& 3689348814741910323) + (x &&& 3689348814741910323) := rfl
theorem q3_eq (x : Nat) : q3 8 x = (x / 2 ^ 4 + x) &&& 1085102592571150095 := rfl
theorem and_le2 (a b m : Nat) : (a &&& m) + (b &&& m) ≤ 2 * m := by
  have h1 : a &&& m ≤ m := Nat.and_le_right
  have h2 : b &&& m ≤ m := Nat.and_le_right
  omega

end Go.Proofs.YtglndihdhaaccaaDoor

namespace Go.Proofs.YtglndihdhaaccaaDoor
open Go.RowKit

theorem BitsNew_s106 : (Tryd.prog.underlying 106).isSome = true := by kernel_rfl
theorem BitsNew_i3 : Tryd.prog.underlying 3 = some (.int .i64) := by kernel_rfl
theorem BitsNew_o119 : zeroQ Tryd.prog 119 = some (.agg #[.slice none 0 0, .int .i64 0]) := by kernel_rfl
theorem BitsNew_l107 : (elemQ Tryd.prog 107).isSome = true := by kernel_rfl
theorem BitsNew_m117 : makeQ Tryd.prog 117 = some (106, 8, (.int .u64 0)) := by kernel_rfl
theorem BitsNew_b119_0_1 : ∀ (a0 : Option Addr) (a1 a2 : Nat) (a3 : Int), Tryd.prog.built 119 [(0, .slice a0 a1 a2), (1, .int .i64 a3)] = some #[.slice a0 a1 a2, .int .i64 a3] := by intros; kernel_rfl
theorem BitsNew_z119 : sizeQ Tryd.prog 119 = some 2 := by kernel_rfl
theorem BitsNew_e107 : elemQ Tryd.prog 107 = some (4, 1) := by kernel_rfl
theorem BitsNew_g4 : aggQ Tryd.prog 4 = some false := by kernel_rfl
theorem BitsNew_f119_0 : fieldQ Tryd.prog 119 0 = some 0 := by kernel_rfl
theorem BitsNew_g117 : aggQ Tryd.prog 117 = some false := by kernel_rfl
theorem BitsNew_e117 : elemQ Tryd.prog 117 = some (106, 1) := by kernel_rfl
theorem BitsNew_g106 : aggQ Tryd.prog 106 = some false := by kernel_rfl
theorem BitsNew_z106 : sizeQ Tryd.prog 106 = some 1 := by kernel_rfl
theorem BitsNew_g119 : aggQ Tryd.prog 119 = some true := by kernel_rfl
theorem BitsNew_q46 : litQ Tryd.prog 81 = some (21, 1, 4, (.int .i32 0)) := by kernel_rfl
theorem BitsNew_k49 : callable Tryd.prog 49 = true := by kernel_rfl
theorem BitsNew_b122_0 : ∀ (a0 : Option Addr) (a1 a2 : Nat) (a3 : Int), Tryd.prog.built 122 [(0, .agg #[.slice a0 a1 a2, .int .i64 a3])] = some #[.slice a0 a1 a2, .int .i64 a3, .slice none 0 0, .int .i64 0] := by intros; kernel_rfl
theorem BitsNew_f122_0 : fieldQ Tryd.prog 122 0 = some 0 := by kernel_rfl
theorem BitsNew_l117 : (elemQ Tryd.prog 117).isSome = true := by kernel_rfl
theorem BitsNew_f122_1 : fieldQ Tryd.prog 122 1 = some 2 := by kernel_rfl
theorem BitsNew_g81 : aggQ Tryd.prog 81 = some false := by kernel_rfl
theorem BitsNew_f122_2 : fieldQ Tryd.prog 122 2 = some 3 := by kernel_rfl
theorem BitsNew_g3 : aggQ Tryd.prog 3 = some false := by kernel_rfl
theorem BitsNew_z81 : sizeQ Tryd.prog 81 = some 1 := by kernel_rfl
theorem BitsNew_k50 : callable Tryd.prog 50 = true := by kernel_rfl
theorem BitsNew_z3 : sizeQ Tryd.prog 3 = some 1 := by kernel_rfl
abbrev boV (x : Bool) : Value := .bool x
abbrev jN (x : Nat) : Value := .int .i32 x
/-- a vector of these bits; all that it holds lies at base or above -/
def Vec (w : World) (base b : Nat) (l : List Bool) : Prop := ∃ (gw : Nat) (Aa : Option Addr) (ca : Nat) (ws rs : List Nat), base ≤ b ∧ base ≤ gw ∧
  Blk w b 122 #[.slice (some ⟨gw, 0, none⟩) ws.length ws.length, .int .i64 (l.length : Nat), .slice Aa rs.length ca, .int .i64 (rk l l.length : Nat)] ∧ Blk w gw 106 (ws.map uV).toArray ∧ w.ownsRow base 21 1 (.slice Aa rs.length ca) rs.length (rs.map jN) ∧
  WP ws l l.length ∧ rs.length = (ws.length + 7) / 8 ∧ (∀ j (h : j < rs.length), rs[j] = rk l (512 * j)) ∧ l.length ≤ 1048576
theorem Vec.from_ {w w' : World} {base b : Nat} {l : List Bool} (h : Vec w base b l) (hF : From w w') : Vec w' base b l := by
  obtain ⟨gw, Aa, ca, ws, rs, h1, h2, h3, h4, h5, h6⟩ := h
  exact ⟨gw, Aa, ca, ws, rs, h1, h2, h3.from_ hF, h4.from_ hF, h5.kept_from hF, h6⟩
theorem Vec.grown {w w' : World} {base b : Nat} {l : List Bool} {r : Option Nat} (h : Vec w base b l) (hg : w.grownBy w' r) (hne : ∀ k, r = some k → k < base) : Vec w' base b l := by
  obtain ⟨gw, Aa, ca, ws, rs, h1, h2, h3, h4, h5, h6⟩ := h
  exact ⟨gw, Aa, ca, ws, rs, h1, h2, h3.grown hg (fun k hk => by have := hne k hk; omega), h4.grown hg (fun k hk => by have := hne k hk; omega), own_kept h5 hg hne, h6⟩
theorem arr_at {α : Type} {f : α → Value} {l : List α} (i : Nat) (h : i < l.length) : (l.map f).toArray[i]? = some (f l[i]) := by simp [h]
theorem arr_set {α : Type} {f : α → Value} {l : List α} (i : Nat) (x : α) : ((l.map f).toArray.setIfInBounds i (f x)) = ((l.set i x).map f).toArray := by
  rw [List.setIfInBounds_toArray, List.map_set]
set_option maxHeartbeats 400000 in
theorem onesCount (x : Nat) (w : World) (hx : x < 2 ^ 64) :
    Rt Tryd.prog 50 [.int .u64 (x : Nat)] w (fun v w' => v = .int .i64 (pop x 64 : Nat) ∧ w = w') := by
  have h1 := and_le2 (x / 2 ^ 1) x 6148914691236517205
  rw [← q1_eq] at h1
  have h2 := and_le2 (q1 8 x / 2 ^ 2) (q1 8 x) 3689348814741910323
  rw [← q2_eq] at h2
  obtain ⟨a, ha⟩ : ∃ a, a = q3 8 (q2 8 (q1 8 x)) := ⟨_, rfl⟩
  have h3 : a ≤ 1085102592571150095 := by rw [ha, q3_eq]; exact Nat.and_le_right
  have ho := ones_pop hx
  unfold ones at ho
  rw [← ha] at ho
  simp only at ho
  obtain ⟨x1, hx1⟩ : ∃ x1, x1 = q1 8 x := ⟨_, rfl⟩
  rw [← hx1] at h1 h2 ha
  obtain ⟨x2, hx2⟩ : ∃ x2, x2 = q2 8 x1 := ⟨_, rfl⟩
  rw [← hx2] at h2 ha
  refine enter (n := 35) Tryd.func50 rfl rfl rfl ?_
  refine cd_seq (cd_region ?_)
  refine asi rfl ?_
  refine st_nil (nx_then (cd_seq (cd_region ?_)))
  refine mvi rfl ?_
  refine st_val (ro_shrN (b := 1) rfl rfl (by decide)) ?_
  refine st_val (ro_andN (b := 6148914691236517205) rfl rfl (by exact ⟨by omega, by decide⟩)) ?_
  refine mvi rfl ?_
  refine st_val (ro_andN (b := 6148914691236517205) rfl rfl (by exact ⟨hx, by decide⟩)) ?_
  refine st_val (ro_addU rfl rfl (by have h := h1; rw [hx1, q1_eq] at h; omega)) ?_
  refine st_spell (t := 8) (v := .int _ _) (v' := .int .u64 (x1 : Nat)) rfl (by rw [hx1, q1_eq]) ?_
  refine asi rfl ?_
  refine st_nil (nx_then (cd_seq (cd_region ?_)))
  refine mvi rfl ?_
  refine st_val (ro_shrN (b := 2) rfl rfl (by decide)) ?_
  refine st_val (ro_andN (b := 3689348814741910323) rfl rfl (by exact ⟨by omega, by decide⟩)) ?_
  refine mvi rfl ?_
  refine st_val (ro_andN (b := 3689348814741910323) rfl rfl (by exact ⟨by omega, by decide⟩)) ?_
  refine st_val (ro_addU rfl rfl (by have h := h2; rw [hx2, q2_eq] at h; omega)) ?_
  refine st_spell (t := 14) (v := .int _ _) (v' := .int .u64 (x2 : Nat)) rfl (by rw [hx2, q2_eq]) ?_
  refine asi rfl ?_
  refine st_nil (nx_then (cd_seq (cd_region ?_)))
  refine mvi rfl ?_
  refine st_val (ro_shrN (b := 4) rfl rfl (by decide)) ?_
  refine mvi rfl ?_
  refine st_val (ro_addU rfl rfl (by omega)) ?_
  refine st_val (ro_andN (b := 1085102592571150095) rfl rfl (by exact ⟨by omega, by decide⟩)) ?_
  refine st_spell (t := 19) (v := .int _ _) (v' := .int .u64 (a : Nat)) rfl (by rw [ha, q3_eq]) ?_
  refine asi rfl ?_
  refine st_nil (nx_then (cd_seq (cd_region ?_)))
  refine mvi rfl ?_
  refine mvi rfl ?_
  refine st_val (ro_shrN (b := 8) rfl rfl (by decide)) ?_
  refine st_val (ro_addU rfl rfl (by omega)) ?_
  refine asi rfl ?_
  refine st_nil (nx_then (cd_seq (cd_region ?_)))
  refine mvi rfl ?_
  refine mvi rfl ?_
  refine st_val (ro_shrN (b := 16) rfl rfl (by decide)) ?_
  refine st_val (ro_addU rfl rfl (by omega)) ?_
  refine asi rfl ?_
  refine st_nil (nx_then (cd_seq (cd_region ?_)))
  refine mvi rfl ?_
  refine mvi rfl ?_
  refine st_val (ro_shrN (b := 32) rfl rfl (by decide)) ?_
  refine st_val (ro_addU rfl rfl (by omega)) ?_
  refine asi rfl ?_
  refine st_nil (nx_then (cd_seq (cd_region ?_)))
  refine mvi rfl ?_
  refine st_val (ro_convI BitsNew_s106 BitsNew_i3 rfl (by omega)) ?_
  refine st_val (ro_andI (b := 127) rfl rfl ⟨by omega, by decide⟩) ?_
  refine asi rfl ?_
  refine st_nil (nx_then (cd_ret ?_))
  refine res1 (v := .int _ _) rfl rfl ?_
  refine ⟨?_, rfl⟩
  rw [show (127 : Nat) = 2 ^ 7 - 1 from rfl, Nat.and_two_pow_sub_one_eq_mod, ← ho]
set_option maxHeartbeats 400000 in
theorem pack_rt (A : Option Addr) (c : Nat) (l : List Bool) (w : World) (hr : RowOf boV w A l) (hl : l.length ≤ 1048576) :
    Rt Tryd.prog 49 [.slice A l.length c] w (fun v w' => ∃ gw ws, v = .agg #[.slice (some ⟨gw, 0, none⟩) ws.length ws.length, .int .i64 (l.length : Nat)] ∧ w.heap.size ≤ gw ∧ Blk w' gw 106 (ws.map uV).toArray ∧ WP ws l l.length ∧ From w w') := by
  refine enter (n := 36) Tryd.func49 rfl rfl rfl ?_
  refine cd_seq (cd_region ?_)
  refine st_alloc BitsNew_o119 ?_
  intro b2 w1 E2 hb2 hk2
  have hl2 := hk2.lt
  refine st_nil (nx_then (cd_seq (cd_region ?_)))
  refine mvs rfl ?_
  refine st_val (ro_len BitsNew_l107 rfl) ?_
  refine st_val (ro_addN (b := 64) rfl rfl (by omega)) ?_
  refine st_val (ro_subN (b := 1) rfl rfl (by omega)) ?_
  refine st_val (ro_quoN (b := 64) rfl rfl (by omega)) ?_
  refine st_make BitsNew_m117 rfl rfl rfl (by omega) (by omega) ?_
  intro b11 w2 E11 hb11 hk11
  have hl11 := hk11.lt
  replace hk2 := hk2.from_ E11
  have hg11 : w.heap.size ≤ b11 := by rw [hb11]; exact ((From.rfl_.next E2)).size
  refine mvs rfl ?_
  refine st_val (ro_len BitsNew_l107 rfl) ?_
  refine st_val (ro_build (l := [(0, .tmp 11), (1, .tmp 13)]) (BitsNew_b119_0_1 _ _ _ _)) ?_
  refine st_alloc BitsNew_o119 ?_
  intro b3 w3 E3 hb3 hk3
  have hl3 := hk3.lt
  replace hk2 := hk2.from_ E3
  have hg3 : w.heap.size ≤ b3 := by rw [hb3]; exact (((From.rfl_.next E2).next E11)).size
  have hg2 : w.heap.size ≤ b2 := by rw [hb2]; exact Nat.le_refl _
  refine st_putW (vs := [_, _]) BitsNew_z119 rfl rfl (by simp [Value.oneCell']) (hk3) rfl ?_
  intro w4 O1 P1
  replace hk2 := hk2.only O1 (by omega)
  refine st_nil (nx_then (cd_seq (cd_seq (cd_region ?_))))
  refine mvs rfl ?_
  refine st_val (ro_len BitsNew_l107 rfl) ?_
  refine mvi rfl ?_
  refine st_nil (nx_then (cd_block ?_))
  refine cd_loop (G := List Nat × Nat) [4, 5, 18, 19, 20, 21, 22, 23, 24, 25, 26, 27, 28, 29, 30, 31, 32, 33, 34] (fun (_, k) => [(17, .int .i64 (k : Nat))]) (fun (ws, k) w' => k ≤ l.length ∧ WP ws l k ∧ Blk w' b3 119 #[.slice (some ⟨b11, 0, none⟩) ((l.length + 63) / 64) ((l.length + 63) / 64), .int .i64 (l.length : Nat)] ∧ Blk w' b11 106 (ws.map uV).toArray ∧ Blk w' b2 119 #[.slice none 0 0, .int .i64 0] ∧ From w w') (fun (_, k) => l.length - k) ((List.replicate ((l.length + 63) / 64) 0, 0)) ⟨rfl, trivial⟩ ?_ ?_
  · refine ⟨Nat.zero_le _, WP.zero l, P1, ?_, hk2, ((((From.rfl_.next E2).next E11).next E3).only O1 (hg3))⟩
    rw [List.map_replicate]
    exact (hk11.from_ E3).only O1 (by omega)
  rintro ⟨ws, k⟩ ρ5 w5 ⟨hk, hW, hP3, hP11, hP2, hB⟩
  refine cd_seq (cd_region ?_)
  refine st_val (ro_lss rfl rfl) ?_
  refine st_nil (nx_then (cd_seq ?_))
  refine cd_cond rfl (fun Q6 => ?_) (fun Q6 => ?_)
  · replace Q6 := of_decide_eq_true Q6
    obtain ⟨ba, oa, rfl, ca⟩ := hr (by omega)
    refine cd_skip (nx_then (cd_seq (cd_block (cd_seq (cd_region ?_)))))
    refine mvi rfl ?_
    refine st_val (ro_indexAddr1 BitsNew_e107 rfl rfl (by omega)) ?_
    refine st_val (ro_load BitsNew_g4 rfl (by exact cellF hB (ca k (by omega)))) ?_
    refine asi rfl ?_
    refine asb rfl ?_
    refine st_nil (nx_then (cd_seq (cd_region ?_)))
    refine mvb rfl ?_
    refine st_nil (nx_then ?_)
    refine cd_cond rfl (fun Q7 => ?_) (fun Q7 => ?_)
    · have hbk : bt l k = true := (bt_at (by omega)).trans Q7
      apply cd_drawn 11 [(23, eqp _), (24, eqp _), (25, eqp _), (26, eqp _), (27, eqp _), (28, eqp _), (29, eqp _), (30, eqp _), (31, eqp _), (32, eqp _), (33, eqp _)] (by kernel_rfl) (by kernel_rfl) ⟨eqp_mono _, eqp_mono _, eqp_mono _, eqp_mono _, eqp_mono _, eqp_mono _, eqp_mono _, eqp_mono _, eqp_mono _, eqp_mono _, eqp_mono _, trivial⟩
      case hop =>
       refine ⟨?_, ?_⟩
       · intro w9 D9
         show OpOK _ _ _ _ _ _ _
         exact ok_pure (ro_fieldAddr BitsNew_f119_0 rfl) rfl
       refine ⟨?_, ?_⟩
       · intro w10 D10
         rintro _ rfl
         show OpOK _ _ _ _ _ _ _
         exact ok_pure (ro_load BitsNew_g117 rfl (by exact (hP3.from_ (From.rfl_.next D10)).rd 0 rfl)) rfl
       refine ⟨?_, ?_⟩
       · intro w11 D11
         show OpOK _ _ _ _ _ _ _
         exact ok_pure (ro_move (v := .int _ _) rfl) rfl
       refine ⟨?_, ?_⟩
       · intro w12 D12
         rintro _ rfl
         show OpOK _ _ _ _ _ _ _
         exact ok_pure (ro_quoN (b := 64) rfl rfl (by omega)) rfl
       refine ⟨?_, ?_⟩
       · intro w13 D13
         rintro _ rfl _ rfl
         show OpOK _ _ _ _ _ _ _
         exact ok_pure (ro_indexAddr0 BitsNew_e117 rfl rfl (by omega)) rfl
       refine ⟨?_, ?_⟩
       · intro w14 D14
         rintro _ rfl
         show OpOK _ _ _ _ _ _ _
         exact ok_pure (ro_load BitsNew_g106 rfl (by exact (hP11.from_ (From.rfl_.next D14)).rd _ (arr_at (k / 64) (by rw [hW.len]; omega)))) rfl
       refine ⟨?_, ?_⟩
       · intro w15 D15
         show OpOK _ _ _ _ _ _ _
         exact ok_pure (ro_move (v := .int _ _) rfl) rfl
       refine ⟨?_, ?_⟩
       · intro w16 D16
         rintro _ rfl
         show OpOK _ _ _ _ _ _ _
         exact ok_pure (ro_remN (b := 64) rfl rfl (by decide)) rfl
       refine ⟨?_, ?_⟩
       · intro w17 D17
         rintro _ rfl
         show OpOK _ _ _ _ _ _ _
         exact ok_pure (ro_shlN (a := 1) rfl rfl (by exact Nat.le_of_lt (Nat.mod_lt _ (by decide)))) rfl
       refine ⟨?_, ?_⟩
       · intro w18 D18
         rintro _ rfl _ rfl
         show OpOK _ _ _ _ _ _ _
         exact ok_pure (ro_orN rfl rfl (by exact ⟨hW.lt _ (List.getElem_mem _), Nat.mod_lt _ (by decide)⟩)) rfl
       refine ⟨?_, ?_⟩
       · intro w19 D19
         rintro _ rfl _ rfl
         show OpOK _ _ _ _ _ _ _
         exact ok_pure (ro_indexAddr0 BitsNew_e117 rfl rfl (by omega)) rfl
       exact trivial
      case hend =>
       intro w20 D20
       rintro _ rfl _ rfl _ rfl _ rfl _ rfl _ rfl _ rfl _ rfl _ rfl _ rfl _ rfl
       show St _ _ _ _ _ _ _
       replace hP3 := hP3.from_ (From.rfl_.next D20)
       replace hP2 := hP2.from_ (From.rfl_.next D20)
       replace hP11 := hP11.from_ (From.rfl_.next D20)
       refine st_put (v := .int _ _) BitsNew_z106 rfl rfl rfl (hP11) (by simp; rw [hW.len]; omega) ?_
       intro w21 O6 P6
       rw [arr_set] at P6
       obtain ⟨ws2, hW2, hQ2⟩ : ∃ ws2, WP ws2 l (k + 1) ∧ Blk w21 b11 106 (ws2.map uV).toArray := ⟨_, hW.put hbk (by rw [hW.len]; omega), P6⟩
       refine st_nil (nx_block (nx_then (cd_region ?_)))
       refine st_val (ro_addN (b := 1) rfl rfl (by omega)) ?_
       refine mvi rfl ?_
       refine st_nil ?_
       refine nx_cut ((ws2, k + 1)) ⟨(by first | rfl | (refine int_eq ?_; omega)), trivial⟩ (by (iterate 40 refine agr_cons rfl ?_); exact agr_rfl) ⟨?_, ?_⟩
       · first | exact ⟨by omega, hW2, hP3.only O6 (by omega), hQ2, hP2.only O6 (by omega), ((hB.next D20).only O6 hg11)⟩ | exact ⟨by omega, hW2, hP3, hQ2, hP2, ((hB.next D20).only O6 hg11)⟩
       · show l.length - (k + 1) < l.length - k; omega
    have hbk : bt l k = false := (bt_at (by omega)).trans Q7
    obtain ⟨ws2, hW2, hQ2⟩ : ∃ ws2, WP ws2 l (k + 1) ∧ Blk w5 b11 106 (ws2.map uV).toArray := ⟨ws, hW.skip hbk, hP11⟩
    refine cd_skip (nx_block (nx_then (cd_region ?_)))
    refine st_val (ro_addN (b := 1) rfl rfl (by omega)) ?_
    refine mvi rfl ?_
    refine st_nil ?_
    refine nx_cut ((ws2, k + 1)) ⟨(by first | rfl | (refine int_eq ?_; omega)), trivial⟩ (by (iterate 29 refine agr_cons rfl ?_); exact agr_rfl) ⟨?_, ?_⟩
    · first | exact ⟨by omega, hW2, hP3.only O6 (by omega), hQ2, hP2.only O6 (by omega), hB⟩ | exact ⟨by omega, hW2, hP3, hQ2, hP2, hB⟩
    · show l.length - (k + 1) < l.length - k; omega
  replace Q6 := of_decide_eq_false Q6
  refine cd_exit ?_
  refine ex_then (ex_then (ex_block (nx_then (cd_seq (cd_region ?_)))))
  refine st_val (ro_loadA (cs := [_, _]) BitsNew_g119 BitsNew_z119 rfl (by exact hP3.whole)) ?_
  refine st_putW (vs := [_, _]) BitsNew_z119 rfl rfl (by simp [Value.oneCell']) (hP2) rfl ?_
  intro w22 O8 P8
  refine st_nil (nx_then (cd_ret ?_))
  refine resr1 rfl (rv_cellA (cs := [_, _]) BitsNew_g119 BitsNew_z119 rfl (by exact P8.whole)) ?_
  obtain rfl : k = l.length := by omega
  exact ⟨b11, ws, by rw [hW.len], hg11, hP11.only O8 (by omega), hW, (hB.only O8 (hg2))⟩
theorem own_only2 {w w' : World} {base e s n c g : Nat} {A : Option Addr} {xs : List Value} (h : w.ownsRow base e s (.slice A n c) n xs) (o : Only g w w') (hne : ∀ k, A.map (·.block) = some k → k ≠ g) : w'.ownsRow base e s (.slice A n c) n xs := by
  refine ⟨h.1, ?_⟩
  rcases h.2 with h2 | ⟨g', cap, cur, hv, hg, hh, r⟩
  · exact .inl h2
  · refine .inr ⟨g', cap, cur, hv, hg, ?_, r⟩
    simp only [Value.slice.injEq] at hv
    rw [o.block g' (hne g' (by rw [hv.1]; rfl))]
    exact hh
theorem own_ne {w : World} {base e s n c m g t : Nat} {A : Option Addr} {xs : List Value} {cs : Array Value} (h : w.ownsRow base e s (.slice A n c) m xs) (hb : Blk w g t cs) (hne : t ≠ e) : ∀ k, A.map (·.block) = some k → k ≠ g := by
  rintro k hk rfl
  rcases h.2 with ⟨h0, _⟩ | ⟨g', cap, cur, hv, hg, hh, r⟩
  · simp only [Value.slice.injEq] at h0
    rw [h0.1] at hk
    cases hk
  · simp only [Value.slice.injEq] at hv
    rw [hv.1] at hk
    simp only [Option.map_some, Option.some.injEq] at hk
    subst hk
    unfold Blk at hb
    rw [hh] at hb
    simp only [Option.some.injEq, Obj.cells.injEq] at hb
    exact hne hb.2.1.symm
set_option maxHeartbeats 1000000 in
theorem new_rt (A : Option Addr) (c : Nat) (l : List Bool) (w : World) (hr : RowOf boV w A l) (hl : l.length ≤ 1048576) :
    Rt Tryd.prog 43 [.slice A l.length c] w (fun v w' => ∃ b, v = .tuple #[.pointer (some ⟨b, 0, none⟩), .int .i64 0] ∧ Vec w' w.heap.size b l ∧ From w w') := by
  refine enter (n := 53) Tryd.func43 rfl rfl rfl ?_
  refine cd_seq (cd_region ?_)
  refine asp rfl ?_
  refine asi rfl ?_
  refine st_nil (nx_then (cd_seq (cd_seq (cd_region ?_))))
  refine mvs rfl ?_
  refine st_val (ro_len BitsNew_l107 rfl) ?_
  refine st_val (ro_gtr rfl rfl) ?_
  refine st_nil (nx_then ?_)
  refine cd_cond rfl (fun Q1 => ?_) (fun Q1 => ?_)
  · replace Q1 := of_decide_eq_true Q1
    exfalso; omega
  replace Q1 := of_decide_eq_false Q1
  refine cd_skip (nx_then (cd_seq (cd_region ?_)))
  refine mvs rfl ?_
  refine st_call BitsNew_k49 (pack_rt A c l _ hr hl) ?_
  rintro v11 w2 ⟨gw, ws, rfl, hgw0, hgw, hW, E11⟩
  refine st_val (ro_build (l := [(0, .tmp 11)]) (BitsNew_b122_0 _ _ _ _)) ?_
  refine st_box (v := .agg _) rfl ?_
  intro b13 w3 E13 hb13 hk13
  have hg13 : w.heap.size ≤ b13 := by rw [hb13]; exact ((From.rfl_.next E11)).size
  have hl13 := hgw.lt
  have hlen := hW.len
  refine asp rfl ?_
  refine st_nil (nx_then (cd_seq (cd_seq (cd_region ?_))))
  refine mvp rfl ?_
  refine st_val (ro_nilCheck rfl) ?_
  refine st_val (ro_fieldAddr BitsNew_f122_0 rfl) ?_
  refine st_val (ro_fieldAddr BitsNew_f119_0 rfl) ?_
  refine st_val (ro_load BitsNew_g117 rfl (by exact hk13.rd 0 rfl)) ?_
  refine st_val (ro_len BitsNew_l117 rfl) ?_
  refine mvi rfl ?_
  refine st_nil (nx_then (cd_block ?_))
  refine cd_loop (G := Nat × Option Addr × Nat × List Nat) [5, 6, 21, 22, 23, 24, 25, 26, 27, 28, 29, 30, 31, 32, 33, 34, 35, 36, 37, 38, 39, 40, 41, 42, 43, 44, 45, 46, 47, 48, 49, 50, 51] (fun (k, Aa, ca, rs) => [(20, .int .i64 (k : Nat))]) (fun (k, Aa, ca, rs) w' => k ≤ ws.length ∧ Blk w' b13 122 #[.slice (some ⟨gw, 0, none⟩) ws.length ws.length, .int .i64 (l.length : Nat), .slice Aa rs.length ca, .int .i64 (rk l (64 * k) : Nat)] ∧ Blk w' gw 106 (ws.map uV).toArray ∧ w'.ownsRow w.heap.size 21 1 (.slice Aa rs.length ca) rs.length (rs.map jN) ∧ rs.length = (k + 7) / 8 ∧ (∀ j (h : j < rs.length), rs[j] = rk l (512 * j)) ∧ From w w') (fun (k, _, _, _) => ws.length - k) ((0, none, 0, [])) ⟨rfl, trivial⟩ ?_ ?_
  · exact ⟨Nat.zero_le _, hk13, hgw.from_ E13, World.ownsRow_nil _ _ _ _, rfl, (fun j h => by simp at h), ((From.rfl_.next E11).next E13)⟩
  rintro ⟨k, Aa, ca, rs⟩ ρ4 w4 ⟨hk, hV, hgw, ho, hrl, hrs, hB⟩
  refine cd_seq (cd_region ?_)
  refine st_val (ro_lss rfl rfl) ?_
  refine st_nil (nx_then (cd_seq ?_))
  refine cd_cond rfl (fun Q5 => ?_) (fun Q5 => ?_)
  · replace Q5 := of_decide_eq_true Q5
    have hkw : k < ws.length := by omega
    refine cd_skip (nx_then (cd_seq (cd_block (cd_seq (cd_region ?_)))))
    refine mvi rfl ?_
    refine st_val (ro_indexAddr0 BitsNew_e117 rfl rfl (by omega)) ?_
    refine st_val (ro_load BitsNew_g106 rfl (by exact hgw.rd _ (arr_at k hkw))) ?_
    refine asi rfl ?_
    refine asi rfl ?_
    refine st_nil (nx_then ?_)
    refine cd_cut (G := Option Addr × Nat × List Nat) [25, 26, 27, 28, 29, 30, 31, 32, 33, 34, 35, 36, 37, 38, 39, 40, 41] (fun _ => []) (fun (A2, c2, rs2) w' => Blk w' b13 122 #[.slice (some ⟨gw, 0, none⟩) ws.length ws.length, .int .i64 (l.length : Nat), .slice A2 rs2.length c2, .int .i64 (rk l (64 * k) : Nat)] ∧ Blk w' gw 106 (ws.map uV).toArray ∧ w'.ownsRow w.heap.size 21 1 (.slice A2 rs2.length c2) rs2.length (rs2.map jN) ∧ rs2.length = (k + 1 + 7) / 8 ∧ (∀ j (h : j < rs2.length), rs2[j] = rk l (512 * j)) ∧ From w w') ?_ ?_
    · refine cd_seq (cd_region ?_)
      refine mvi rfl ?_
      refine st_val (ro_remN (b := 8) rfl rfl (by decide)) ?_
      refine st_val (ro_eql rfl rfl) ?_
      refine st_nil (nx_then ?_)
      refine cd_cond rfl (fun Q6 => ?_) (fun Q6 => ?_)
      · replace Q6 := be_t Q6
        have hk8 : k % 8 = 0 := by omega
        apply cd_mu 14 11 [38] [(28, eqp _), (29, eqp _), (30, eqp _), (31, eqp _), (32, eqp _), (33, eqp _), (34, eqp _), (35, eqp _), (36, eqp _), (37, eqp _), (38, fun v w' => ∃ g, v = .slice (some ⟨g, 0, none⟩) 1 1 ∧ Blk w' g 21 #[jN (rk l (64 * k))]), (39, fun v w' => ∃ A2 c2, v = .slice A2 (rs.length + 1) c2 ∧ w'.ownsRow w.heap.size 21 1 (.slice A2 (rs.length + 1) c2) (rs.length + 1) (rs.map jN ++ [jN (rk l (64 * k))])), (40, eqp _), (41, eqp _)] (fun w' => From w w' ∧ Blk w' b13 122 #[.slice (some ⟨gw, 0, none⟩) ws.length ws.length, .int .i64 (l.length : Nat), .slice Aa rs.length ca, .int .i64 (rk l (64 * k) : Nat)] ∧ Blk w' gw 106 (ws.map uV).toArray ∧ w'.ownsRow w.heap.size 21 1 (.slice Aa rs.length ca) rs.length (rs.map jN)) (fun w' => From w w' ∧ Blk w' b13 122 #[.slice (some ⟨gw, 0, none⟩) ws.length ws.length, .int .i64 (l.length : Nat), .slice Aa rs.length ca, .int .i64 (rk l (64 * k) : Nat)] ∧ Blk w' gw 106 (ws.map uV).toArray) (by repeat first | exact pq_body | refine pq_then ?_ | refine pq_block ?_) (by kernel_rfl) (by kernel_rfl) (by kernel_rfl) ⟨eqp_mono _, eqp_mono _, eqp_mono _, eqp_mono _, eqp_mono _, eqp_mono _, eqp_mono _, eqp_mono _, eqp_mono _, eqp_mono _, (fun _ _ _ hF ⟨g, h1, h2⟩ => ⟨g, h1, h2.from_ hF⟩), (fun _ _ _ hF ⟨A2, c2, h1, h2⟩ => ⟨A2, c2, h1, h2.kept_from hF⟩), eqp_mono _, eqp_mono _, trivial⟩ (⟨hB.d1, hV, hgw, ho⟩) (⟨hB.d1, hV, hgw⟩) (fun _ _ hF h => ⟨h.1.next hF, h.2.1.from_ hF, h.2.2.1.from_ hF, h.2.2.2.kept_from hF⟩) (fun _ _ hF h => ⟨h.1.next hF, h.2.1.from_ hF, h.2.2.from_ hF⟩)
        case hop =>
         refine ⟨?_, ?_⟩
         · rintro - w8 ⟨D8, hVd8, hgwd8⟩
           show OpOK _ _ _ _ _ _ _
           exact ok_pure (ro_move (v := .pointer _) rfl) rfl
         refine ⟨?_, ?_⟩
         · rintro - w9 ⟨D9, hVd9, hgwd9⟩
           show OpOK _ _ _ _ _ _ _
           exact ok_pure (ro_move (v := .pointer _) rfl) rfl
         refine ⟨?_, ?_⟩
         · rintro - w10 ⟨D10, hVd10, hgwd10⟩
           rintro _ rfl
           show OpOK _ _ _ _ _ _ _
           exact ok_pure (ro_nilCheck rfl) rfl
         refine ⟨?_, ?_⟩
         · rintro - w11 ⟨D11, hVd11, hgwd11⟩
           rintro _ rfl
           show OpOK _ _ _ _ _ _ _
           exact ok_pure (ro_fieldAddr BitsNew_f122_1 rfl) rfl
         refine ⟨?_, ?_⟩
         · rintro - w12 ⟨D12, hVd12, hgwd12⟩
           rintro _ rfl
           show OpOK _ _ _ _ _ _ _
           exact ok_pure (ro_load BitsNew_g81 rfl (by exact hVd12.rd 2 rfl)) rfl
         refine ⟨?_, ?_⟩
         · rintro - w13 ⟨D13, hVd13, hgwd13⟩
           show OpOK _ _ _ _ _ _ _
           exact ok_pure (ro_move (v := .pointer _) rfl) rfl
         refine ⟨?_, ?_⟩
         · rintro - w14 ⟨D14, hVd14, hgwd14⟩
           rintro _ rfl
           show OpOK _ _ _ _ _ _ _
           exact ok_pure (ro_nilCheck rfl) rfl
         refine ⟨?_, ?_⟩
         · rintro - w15 ⟨D15, hVd15, hgwd15⟩
           rintro _ rfl
           show OpOK _ _ _ _ _ _ _
           exact ok_pure (ro_fieldAddr BitsNew_f122_2 rfl) rfl
         refine ⟨?_, ?_⟩
         · rintro - w16 ⟨D16, hVd16, hgwd16⟩
           rintro _ rfl
           show OpOK _ _ _ _ _ _ _
           exact ok_pure (ro_load BitsNew_g3 rfl (by exact hVd16.rd 3 rfl)) rfl
         refine ⟨?_, ?_⟩
         · rintro - w17 ⟨D17, hVd17, hgwd17⟩
           rintro _ rfl
           show OpOK _ _ _ _ _ _ _
           exact ok_pure (ro_conv' (k' := .i32) (r := ((rk l (64 * k) : Nat) : Int)) (by kernel_rfl) (by kernel_rfl) rfl (IntWalk.i32_in _ (by have := rk_le l (64 * k); omega))) rfl
         refine ⟨?_, ?_⟩
         · rintro - w18 ⟨D18, hVd18, hgwd18⟩
           rintro _ rfl
           show OpOK _ _ _ _ _ _ _
           exact ok_val (ro_lit1 BitsNew_q46 rfl rfl rfl) (From.rfl_.new _) ⟨_, rfl, Blk.new _ _ _⟩
         refine ⟨?_, ?_⟩
         · intro h; cases h
         refine ⟨?_, ?_⟩
         · rintro - w20 ⟨D20, hVd20, hgwd20⟩
           rintro _ rfl
           show OpOK _ _ _ _ _ _ _
           exact ok_pure (ro_nilCheck rfl) rfl
         refine ⟨?_, ?_⟩
         · rintro - w21 ⟨D21, hVd21, hgwd21⟩
           rintro _ rfl
           show OpOK _ _ _ _ _ _ _
           exact ok_pure (ro_fieldAddr BitsNew_f122_1 rfl) rfl
         exact trivial
        case hmu =>
         rintro w22 ⟨D22, hVd22, hgwd22, ho22⟩
         rintro _ rfl v22_38 ⟨g22, rfl, hg22⟩
         show MuOK _ _ _ _ _ _ _
         refine mu_append BitsNew_q46 rfl (by decide) rfl ho22 D22.size rfl rfl ⟨_, _, rfl, hg22.whole⟩ (by simp [Value.oneCell']) (by omega) (by omega) ?_
         intro A3 c3 w3 ho3 hg3
         have hbl := own_at ho22
         have hF3 : From w w3 := D22.grew hg3 (fun k hk => (hbl k hk).1)
         exact ⟨⟨hF3, hVd22.grown hg3 (own_ne ho22 hVd22 (by decide)), hgwd22.grown hg3 (own_ne ho22 hgwd22 (by decide))⟩, ⟨A3, c3, rfl, ho3⟩, fun t u ht h => muR_look (by repeat first | exact trivial | refine ⟨.inl rfl, ?_⟩ | refine ⟨.inr (fun _ h => h), ?_⟩) t u ht h⟩
        case hend =>
         rintro w23 ⟨D23, hVd23, hgwd23⟩
         rintro _ rfl _ rfl _ rfl _ rfl _ rfl _ rfl _ rfl _ rfl _ rfl _ rfl v38 _ v39 ⟨A39, c39, rfl, ho39⟩ _ rfl _ rfl
         show St _ _ _ _ _ _ _
         have hVq := hVd23
         have hgq := hgwd23
         refine st_put (v := .slice _ _ _) BitsNew_z81 rfl rfl rfl (hVq) (by simp) ?_
         intro w24 O8 P8
         refine st_nil ?_
         refine nx_cut ((A39, c39, rs ++ [rk l (64 * k)])) trivial (by (iterate 17 refine agr_cons rfl ?_); exact agr_rfl) ?_
         refine ⟨by simpa using P8, hgq.only O8 (by omega), by rw [List.length_append, List.map_append]; exact own_only2 ho39 O8 (own_ne ho39 hVq (by decide)), by rw [List.length_append, List.length_singleton]; omega, ?_, (D23.only O8 (hg13))⟩
         intro j h
         rw [List.length_append, List.length_singleton] at h
         by_cases hj : j < rs.length
         · rw [List.getElem_append_left hj]; exact hrs j hj
         · rw [List.getElem_append_right (by omega)]
           simp only [List.getElem_singleton]
           congr 1
           omega
      replace Q6 := be_f Q6
      have hk8 : ¬ k % 8 = 0 := by omega
      refine cd_skip ?_
      refine nx_cut ((Aa, ca, rs)) trivial (by (iterate 3 refine agr_cons rfl ?_); exact agr_rfl) ?_
      exact ⟨hV, hgw, ho, by omega, hrs, hB⟩
    rintro ⟨A2, c2, rs2⟩ ρ25 w25 ⟨hV, hgw, ho, hrl, hrs, hB⟩
    apply cd_drawnD 9 [(42, eqp _), (43, eqp _), (44, eqp _), (45, eqp _), (46, eqp _), (47, eqp _), (48, eqp _), (49, eqp _), (50, eqp _)] (by repeat first | exact pq_body | refine pq_then ?_ | refine pq_block ?_) (by kernel_rfl) (by kernel_rfl) ⟨eqp_mono _, eqp_mono _, eqp_mono _, eqp_mono _, eqp_mono _, eqp_mono _, eqp_mono _, eqp_mono _, eqp_mono _, trivial⟩
    case hop =>
     refine ⟨?_, ?_⟩
     · rintro - w27 D27
       show OpOK _ _ _ _ _ _ _
       exact ok_pure (ro_move (v := .pointer _) rfl) rfl
     refine ⟨?_, ?_⟩
     · rintro - w28 D28
       rintro _ rfl
       show OpOK _ _ _ _ _ _ _
       exact ok_pure (ro_nilCheck rfl) rfl
     refine ⟨?_, ?_⟩
     · rintro - w29 D29
       rintro _ rfl
       show OpOK _ _ _ _ _ _ _
       exact ok_pure (ro_fieldAddr BitsNew_f122_2 rfl) rfl
     refine ⟨?_, ?_⟩
     · rintro - w30 D30
       rintro _ rfl
       show OpOK _ _ _ _ _ _ _
       exact ok_pure (ro_load BitsNew_g3 rfl (by exact (hV.from_ (From.rfl_.next D30)).rd 3 rfl)) rfl
     refine ⟨?_, ?_⟩
     · rintro - w31 D31
       show OpOK _ _ _ _ _ _ _
       exact ok_pure (ro_move (v := .int _ _) rfl) rfl
     refine ⟨?_, ?_⟩
     · rintro - w32 D32
       rintro _ rfl
       show OpOK _ _ _ _ _ _ _
       refine ok_call BitsNew_k50 ((onesCount ws[k] _ (hW.lt _ (List.getElem_mem hkw))).mono ?_)
       rintro v _ ⟨rfl, rfl⟩; exact ⟨From.rfl_, rfl⟩
     refine ⟨?_, ?_⟩
     · rintro - w33 D33
       rintro _ rfl _ rfl
       show OpOK _ _ _ _ _ _ _
       exact ok_pure (ro_addN rfl rfl (by have := rk_le l (64 * k); have := pop_le ws[k] 64; omega)) rfl
     refine ⟨?_, ?_⟩
     · rintro - w34 D34
       rintro _ rfl
       show OpOK _ _ _ _ _ _ _
       exact ok_pure (ro_nilCheck rfl) rfl
     refine ⟨?_, ?_⟩
     · rintro - w35 D35
       rintro _ rfl
       show OpOK _ _ _ _ _ _ _
       exact ok_pure (ro_fieldAddr BitsNew_f122_2 rfl) rfl
     exact trivial
    case hend =>
     intro w36 D36
     rintro _ rfl _ rfl _ rfl _ rfl _ rfl _ rfl _ rfl _ rfl _ rfl
     show St _ _ _ _ _ _ _
     replace hV := hV.from_ (From.rfl_.next D36)
     replace hgw := hgw.from_ (From.rfl_.next D36)
     replace ho := ho.kept_from (From.rfl_.next D36)
     refine st_put (v := .int _ _) BitsNew_z3 rfl rfl rfl (hV) (by simp) ?_
     intro w37 O9 P9
     refine st_nil (nx_block (nx_then (cd_region ?_)))
     refine st_val (ro_addN (b := 1) rfl rfl (by omega)) ?_
     refine mvi rfl ?_
     refine st_nil ?_
     refine nx_cut ((k + 1, A2, c2, rs2)) ⟨(by first | rfl | (refine int_eq ?_; omega)), trivial⟩ (by (iterate 68 refine agr_cons rfl ?_); exact agr_rfl) ⟨?_, ?_⟩
     · refine ⟨by omega, ?_, hgw.only O9 (by omega), own_only2 ho O9 (own_ne ho hV (by decide)), hrl, hrs, ((hB.next D36).only O9 (hg13))⟩
       rw [hW.rankw hkw]
       simpa using P9
     · show ws.length - (k + 1) < ws.length - k; omega
  replace Q5 := of_decide_eq_false Q5
  refine cd_exit ?_
  refine ex_then (ex_then (ex_block (nx_then (cd_seq (cd_region ?_)))))
  refine mvp rfl ?_
  refine asp rfl ?_
  refine asi rfl ?_
  refine st_nil (nx_then (cd_ret ?_))
  refine res2 (v := .pointer _) (v' := .int _ _) rfl rfl rfl ?_
  obtain rfl : k = ws.length := by omega
  exact ⟨b13, rfl, ⟨gw, Aa, ca, ws, rs, hg13, hgw0, by rw [← rk_past (show l.length ≤ 64 * ws.length by omega)]; exact hV, hgw, ho, hW, hrl, hrs, hl⟩, hB⟩
end Go.Proofs.YtglndihdhaaccaaDoor

namespace Go.Proofs.YtglndihdhaaccaaDoor
open Go.RowKit

def gB (l : List Bool) (i : Int) : Bool := if 0 ≤ i ∧ i < l.length then bt l i.toNat else false
def gE (l : List Bool) (i : Int) : Int := if 0 ≤ i ∧ i < l.length then 0 else 3
def rB (l : List Bool) (i : Int) : Int := if 0 ≤ i ∧ i ≤ l.length then (rk l i.toNat : Nat) else 0
def rE (l : List Bool) (i : Int) : Int := if 0 ≤ i ∧ i ≤ l.length then 0 else 3
theorem Vec.le {w : World} {base base' b : Nat} {l : List Bool} (h : Vec w base b l) (hb : base' ≤ base) : Vec w base' b l := by
  obtain ⟨gw, Aa, ca, ws, rs, h1, h2, h3, h4, h5, h6⟩ := h
  refine ⟨gw, Aa, ca, ws, rs, by omega, by omega, h3, h4, ⟨h5.1, ?_⟩, h6⟩
  rcases h5.2 with h0 | ⟨g, cap, cur, hv, hg, r⟩
  · exact .inl h0
  · exact .inr ⟨g, cap, cur, hv, by omega, r⟩
end Go.Proofs.YtglndihdhaaccaaDoor

namespace Go.Proofs.YtglndihdhaaccaaDoor

def bitN (s x : Nat) : Bool := decide (x / 2 ^ s % 2 = 1)
def zerosL (s : Nat) (M : List Nat) : List Nat := M.filter fun x => !bitN s x
def onesL (s : Nat) (M : List Nat) : List Nat := M.filter (bitN s)
def partL (s : Nat) (M : List Nat) : List Nat := zerosL s M ++ onesL s M
/-- the list in the order of level j, of n levels -/
def lvl (n : Nat) (L : List Nat) : Nat → List Nat
  | 0 => L
  | j + 1 => partL (n - 1 - j) (lvl n L j)
theorem part_len (s : Nat) (M : List Nat) : (partL s M).length = M.length := by
  unfold partL zerosL onesL
  rw [List.length_append]
  induction M with
  | nil => rfl
  | cons x r ih =>
    simp only [List.filter_cons]
    cases bitN s x <;> simp only [Bool.not_true, Bool.not_false, if_true, if_false, Bool.false_eq_true, List.length_cons] <;> omega
theorem lvl_len (n : Nat) (L : List Nat) : ∀ j, (lvl n L j).length = L.length
  | 0 => rfl
  | j + 1 => by rw [lvl, part_len, lvl_len n L j]
theorem part_mem {s : Nat} {M : List Nat} {x : Nat} (h : x ∈ partL s M) : x ∈ M := by
  unfold partL zerosL onesL at h
  rcases List.mem_append.1 h with a | a <;> exact (List.mem_filter.1 a).1
theorem lvl_mem {n : Nat} {L : List Nat} : ∀ {j x}, x ∈ lvl n L j → x ∈ L
  | 0, _, h => h
  | _ + 1, _, h => lvl_mem (part_mem h)
theorem zo_len (s : Nat) (M : List Nat) : (zerosL s M).length + (onesL s M).length = M.length := by
  rw [← part_len s M, partL, List.length_append]
theorem zeros_app (s : Nat) (X Y : List Nat) : zerosL s (X ++ Y) = zerosL s X ++ zerosL s Y := by unfold zerosL; rw [List.filter_append]
theorem ones_app (s : Nat) (X Y : List Nat) : onesL s (X ++ Y) = onesL s X ++ onesL s Y := by unfold onesL; rw [List.filter_append]
/-- where what stands behind X goes -/
def downN (s : Nat) (M : List Nat) (i : Nat) (b : Bool) : Nat := if b then (zerosL s M).length + (onesL s (M.take i)).length else i - (onesL s (M.take i)).length
/-- those of the first ones of L that have c's high digits -/
def hiL (L : List Nat) (c s : Nat) : List Nat := L.filter fun x => decide (x / 2 ^ s = c / 2 ^ s)
end Go.Proofs.YtglndihdhaaccaaDoor

namespace Go.Proofs.YtglndihdhaaccaaDoor
open Go.RowKit
open Go.ChangeShapes Go.WideShapes Go.ChangeAt
theorem WavWalks_e60 : elemQ Tryd.prog 60 = some (3, 1) := by kernel_rfl
theorem WavWalks_l60 : (elemQ Tryd.prog 60).isSome = true := by kernel_rfl
theorem WavWalks_g3 : aggQ Tryd.prog 3 = some false := by kernel_rfl
theorem WavWalks_m60 : makeQ Tryd.prog 60 = some (3, 8, (.int .i64 0)) := by kernel_rfl
theorem WavWalks_z3 : sizeQ Tryd.prog 3 = some 1 := by kernel_rfl
abbrev nV (x : Nat) : Value := .int .i64 (x : Nat)
def badSym (k : Int) (x : Int) : Bool := decide (x < 0 ∨ k ≤ x)
def chkW (k : Int) (xs : List Int) : Int := if k < 1 ∨ 512 < k then 1 else if xs.any (badSym k) then 1 else if 131072 < xs.length then 2 else 0
theorem any_take {xs : List Int} {k : Int} {i : Nat} (hi : i < xs.length) (h : (xs.take i).any (badSym k) = false) (hb : badSym k xs[i] = false) : (xs.take (i + 1)).any (badSym k) = false := by
  rw [List.take_succ_eq_append_getElem hi, List.any_append, h]
  simp [hb]
theorem any_at {xs : List Int} {k : Int} {i : Nat} (hi : i < xs.length) (hb : badSym k xs[i] = true) : xs.any (badSym k) = true := List.any_eq_true.2 ⟨_, List.getElem_mem hi, hb⟩
def cntLt (L : List Nat) (c : Nat) : Nat := L.countP fun x => decide (x < c)
def cntS (L : List Nat) (c : Nat) : Nat := L.countP fun x => decide (x + 1 = c)
theorem cntS_succ {L : List Nat} {i : Nat} (h : i < L.length) (c : Nat) : cntS (L.take (i + 1)) c = cntS (L.take i) c + if c = L[i] + 1 then 1 else 0 := by
  unfold cntS
  rw [List.take_succ_eq_append_getElem h, List.countP_append]
  by_cases hc : c = L[i] + 1
  · rw [if_pos hc]; simp [hc]
  · rw [if_neg hc]
    have : ¬ L[i] + 1 = c := fun e => hc e.symm
    simp [this]
theorem cntLt_succ (L : List Nat) (c : Nat) : cntLt L (c + 1) = cntS L (c + 1) + cntLt L c := by
  unfold cntLt cntS
  induction L with
  | nil => rfl
  | cons x r ih =>
    simp only [List.countP_cons, ih]
    rcases Nat.lt_trichotomy x c with h | h | h
    · rw [decide_eq_true (show x < c + 1 by omega), decide_eq_false (show ¬ x + 1 = c + 1 by omega), decide_eq_true h]
      simp only [if_true, Bool.false_eq_true, if_false]
      omega
    · rw [decide_eq_true (show x < c + 1 by omega), decide_eq_true (show x + 1 = c + 1 by omega), decide_eq_false (show ¬ x < c by omega)]
      simp only [if_true, Bool.false_eq_true, if_false]
      omega
    · rw [decide_eq_false (show ¬ x < c + 1 by omega), decide_eq_false (show ¬ x + 1 = c + 1 by omega), decide_eq_false (show ¬ x < c by omega)]
      simp only [Bool.false_eq_true, if_false]
      omega
theorem cntLt_zero (L : List Nat) : cntLt L 0 = 0 := by unfold cntLt; simp
theorem cntS_le (L : List Nat) (c : Nat) : cntS L c ≤ L.length := List.countP_le_length
theorem cntLt_le (L : List Nat) (c : Nat) : cntLt L c ≤ L.length := List.countP_le_length
def tab (n : Nat) (F : Nat → Nat) : Array Value := ((List.range n).map fun c => nV (F c)).toArray
theorem tab_get {n : Nat} {F : Nat → Nat} {i : Nat} (h : i < n) : (tab n F)[i]? = some (nV (F i)) := by simp [tab, h]
theorem tab_set {n : Nat} {F : Nat → Nat} (i : Nat) (v : Nat) : (tab n F).setIfInBounds i (nV v) = tab n fun c => if c = i then v else F c := by
  unfold tab
  rw [List.setIfInBounds_toArray]
  congr 1
  apply List.ext_getElem
  · simp
  · intro j h1 h2
    simp only [List.length_set, List.length_map, List.length_range] at h1
    rw [List.getElem_set]
    simp only [List.getElem_map, List.getElem_range]
    by_cases hj : i = j
    · subst hj; simp
    · rw [if_neg hj, if_neg (fun e => hj e.symm)]
theorem tab_congr {n : Nat} {F G : Nat → Nat} (h : ∀ c, c < n → F c = G c) : tab n F = tab n G := by
  unfold tab
  congr 1
  apply List.map_congr_left
  intro c hc
  rw [h c (by simpa using hc)]
theorem tab_size (n : Nat) (F : Nat → Nat) : (tab n F).size = n := by simp [tab]
theorem tab_zero (n : Nat) : (List.replicate n (Value.int .i64 0)).toArray = tab n fun _ => 0 := by
  unfold tab
  congr 1
  apply List.ext_getElem
  · simp
  · intro i h1 h2; simp
set_option maxHeartbeats 400000 in
theorem check_rt (k : Int) (A : Option Addr) (c : Nat) (xs : List Int) (w : World) (hr : RowOf iV w A xs) (hl : xs.length * 8 ≤ 140737488351232) :
    Rt Tryd.prog 35 [.int .i64 k, .slice A xs.length c] w (fun v w' => v = .int .i64 (chkW k xs) ∧ w = w') := by
  refine enter (n := 30) Tryd.func35 rfl rfl rfl ?_
  refine cd_seq (cd_region ?_)
  refine asi rfl ?_
  refine st_nil (nx_then (cd_seq (cd_seq (cd_region ?_))))
  refine mvi rfl ?_
  refine st_val (ro_lss rfl rfl) ?_
  refine mvb rfl ?_
  refine st_split (t := 9) rfl (fun Q1 => ?_) (fun Q1 => ?_)
  · with_reducible replace Q1 := of_decide_eq_true Q1
    refine st_gno rfl rfl ?_
    refine st_gno rfl rfl ?_
    refine st_val (ro_pickT (v := .bool _) rfl rfl) ?_
    refine st_nil (nx_then ?_)
    refine cd_condT rfl ?_
    refine cd_seq (cd_region ?_)
    refine asi rfl ?_
    refine st_nil (nx_then (cd_ret (rt_then ?_)))
    refine res1 (v := .int _ _) rfl rfl ?_
    exact ⟨int_eq (by unfold chkW; rw [if_pos (by omega)]), rfl⟩
  with_reducible replace Q1 := of_decide_eq_false Q1
  refine st_unguard rfl ?_
  refine mvi rfl ?_
  refine st_unguard rfl ?_
  refine st_val (ro_gtr rfl rfl) ?_
  refine st_val (ro_pickF (v := .bool _) rfl rfl) ?_
  refine st_nil (nx_then ?_)
  refine cd_cond rfl (fun Q2 => ?_) (fun Q2 => ?_)
  · with_reducible replace Q2 := of_decide_eq_true Q2
    refine cd_seq (cd_region ?_)
    refine asi rfl ?_
    refine st_nil (nx_then (cd_ret (rt_then ?_)))
    refine res1 (v := .int _ _) rfl rfl ?_
    exact ⟨int_eq (by unfold chkW; rw [if_pos (by omega)]), rfl⟩
  with_reducible replace Q2 := of_decide_eq_false Q2
  refine cd_skip (nx_then (cd_seq (cd_seq (cd_region ?_))))
  refine mvs rfl ?_
  refine st_val (ro_len WavWalks_l60 rfl) ?_
  refine mvi rfl ?_
  refine st_nil (nx_then (cd_block ?_))
  refine cd_loop (G := Nat) [4, 6, 16, 17, 18, 19, 20, 21, 22, 23, 24, 25, 26] (fun i => [(15, .int .i64 (i : Nat))]) (fun i w' => i ≤ xs.length ∧ (xs.take i).any (badSym k) = false ∧ w = w') (fun i => xs.length - i) (0) ⟨rfl, trivial⟩ ?_ ?_
  · exact ⟨Nat.zero_le _, rfl, rfl⟩
  rintro i ρ3 w3 ⟨hi, han, rfl⟩
  refine cd_seq (cd_region ?_)
  refine st_val (ro_lss rfl rfl) ?_
  refine st_nil (nx_then (cd_seq ?_))
  refine cd_cond rfl (fun Q4 => ?_) (fun Q4 => ?_)
  · with_reducible replace Q4 := of_decide_eq_true Q4
    have hiL : i < xs.length := by omega
    obtain ⟨ba, oa, hA, hca⟩ := hr (by omega)
    subst hA
    refine cd_skip (nx_then (cd_seq (cd_block (cd_seq (cd_region ?_)))))
    refine st_val (ro_indexAddr1 WavWalks_e60 rfl rfl (by omega)) ?_
    refine st_val (ro_load WavWalks_g3 rfl (by exact hca i hiL)) ?_
    refine asi rfl ?_
    refine st_nil (nx_then (cd_seq (cd_region ?_)))
    refine mvi rfl ?_
    refine st_val (ro_lss rfl rfl) ?_
    refine mvb rfl ?_
    refine st_split (t := 21) rfl (fun Q5 => ?_) (fun Q5 => ?_)
    · with_reducible replace Q5 := of_decide_eq_true Q5
      have hbd : badSym k xs[i] = true := decide_eq_true (by omega)
      refine st_gno rfl rfl ?_
      refine st_gno rfl rfl ?_
      refine st_gno rfl rfl ?_
      refine st_val (ro_pickT (v := .bool _) rfl rfl) ?_
      refine st_nil (nx_then ?_)
      refine cd_condT rfl ?_
      refine cd_seq (cd_region ?_)
      refine asi rfl ?_
      refine st_nil (nx_then (cd_ret (rt_block (rt_then (rt_then (rt_block (rt_then ?_)))))))
      refine res1 (v := .int _ _) rfl rfl ?_
      exact ⟨int_eq (by unfold chkW; rw [if_neg (by omega), if_pos (any_at hiL hbd)]), rfl⟩
    with_reducible replace Q5 := of_decide_eq_false Q5
    refine st_unguard rfl ?_
    refine mvi rfl ?_
    refine st_unguard rfl ?_
    refine mvi rfl ?_
    refine st_unguard rfl ?_
    refine st_val (ro_geq rfl rfl) ?_
    refine st_val (ro_pickF (v := .bool _) rfl rfl) ?_
    refine st_nil (nx_then ?_)
    refine cd_cond rfl (fun Q6 => ?_) (fun Q6 => ?_)
    · with_reducible replace Q6 := of_decide_eq_true Q6
      have hbd : badSym k xs[i] = true := decide_eq_true (by omega)
      refine cd_seq (cd_region ?_)
      refine asi rfl ?_
      refine st_nil (nx_then (cd_ret (rt_block (rt_then (rt_then (rt_block (rt_then ?_)))))))
      refine res1 (v := .int _ _) rfl rfl ?_
      exact ⟨int_eq (by unfold chkW; rw [if_neg (by omega), if_pos (any_at hiL hbd)]), rfl⟩
    with_reducible replace Q6 := of_decide_eq_false Q6
    have hbd : badSym k xs[i] = false := decide_eq_false (by omega)
    refine cd_skip (nx_block (nx_then (cd_region ?_)))
    refine st_val (ro_addN (b := 1) rfl rfl (by omega)) ?_
    refine mvi rfl ?_
    refine st_nil ?_
    refine nx_cut (i + 1) ⟨(by first | rfl | (refine int_eq ?_; omega)), trivial⟩ (by (iterate 28 refine agr_cons rfl ?_); exact agr_rfl) ⟨?_, ?_⟩
    · exact ⟨by omega, any_take hiL han hbd, rfl⟩
    · omega
  with_reducible replace Q4 := of_decide_eq_false Q4
  refine cd_exit ?_
  refine ex_then (ex_then (ex_block (nx_then (cd_seq (cd_seq (cd_region ?_))))))
  refine mvs rfl ?_
  refine st_val (ro_len WavWalks_l60 rfl) ?_
  refine st_val (ro_gtr rfl rfl) ?_
  refine st_nil (nx_then ?_)
  refine cd_cond rfl (fun Q7 => ?_) (fun Q7 => ?_)
  · with_reducible replace Q7 := of_decide_eq_true Q7
    refine cd_seq (cd_region ?_)
    refine asi rfl ?_
    refine st_nil (nx_then (cd_ret (rt_then ?_)))
    refine res1 (v := .int _ _) rfl rfl ?_
    obtain rfl : i = xs.length := by omega
    rw [List.take_length] at han
    exact ⟨int_eq (by unfold chkW; rw [if_neg (by omega), if_neg (by rw [han]; simp), if_pos (by omega)]), rfl⟩
  with_reducible replace Q7 := of_decide_eq_false Q7
  refine cd_skip (nx_then (cd_seq (cd_region ?_)))
  refine asi rfl ?_
  refine st_nil (nx_then (cd_ret ?_))
  refine res1 (v := .int _ _) rfl rfl ?_
  obtain rfl : i = xs.length := by omega
  rw [List.take_length] at han
  exact ⟨int_eq (by unfold chkW; rw [if_neg (by omega), if_neg (by rw [han]; simp), if_neg (by omega)]), rfl⟩
set_option maxHeartbeats 1000000 in
theorem countLess_rt (k : Nat) (hk : k ≤ 512) (A : Option Addr) (c : Nat) (L : List Nat) (w : World) (hr : RowOf nV w A L) (hl : L.length ≤ 131072) (hlt : ∀ x ∈ L, x < k) :
    Rt Tryd.prog 36 [.int .i64 (k : Nat), .slice A L.length c] w (fun v w' => (∃ g, v = .slice (some ⟨g, 0, none⟩) (k + 1) (k + 1) ∧ w.heap.size ≤ g ∧ Blk w' g 3 (tab (k + 1) (cntLt L))) ∧ From w w') := by
  refine enter (n := 43) Tryd.func36 rfl rfl rfl ?_
  refine cd_seq (cd_region ?_)
  refine ass rfl ?_
  refine st_nil (nx_then (cd_seq (cd_region ?_)))
  refine mvi rfl ?_
  refine st_val (ro_addN (b := 1) rfl rfl (by omega)) ?_
  refine st_make WavWalks_m60 rfl rfl rfl (by omega) (by omega) ?_
  intro b11 w1 E11 hb11 hk11
  have hg11 : w.heap.size ≤ b11 := Nat.le_of_eq hb11.symm
  refine ass rfl ?_
  refine st_nil (nx_then (cd_seq (cd_seq (cd_region ?_))))
  refine mvs rfl ?_
  refine st_val (ro_len WavWalks_l60 rfl) ?_
  refine mvi rfl ?_
  refine st_nil (nx_then (cd_block ?_))
  refine cd_loop (G := Nat) [7, 15, 16, 17, 18, 19, 20, 21, 22, 23, 24, 25] (fun i => [(14, .int .i64 (i : Nat))]) (fun i w' => i ≤ L.length ∧ Blk w' b11 3 (tab (k + 1) (cntS (L.take i))) ∧ From w w') (fun i => L.length - i) (0) ⟨rfl, trivial⟩ ?_ ?_
  · exact ⟨Nat.zero_le _, by rw [show (tab (k + 1) (cntS (L.take 0))) = _ from (tab_congr fun c _ => by simp [cntS]).trans (tab_zero (k + 1)).symm]; exact hk11, (From.rfl_.next E11)⟩
  rintro i ρ2 w2 ⟨hi, hT, hB⟩
  refine cd_seq (cd_region ?_)
  refine st_val (ro_lss rfl rfl) ?_
  refine st_nil (nx_then (cd_seq ?_))
  refine cd_cond rfl (fun Q3 => ?_) (fun Q3 => ?_)
  · with_reducible replace Q3 := of_decide_eq_true Q3
    have hiL : i < L.length := by omega
    obtain ⟨ba, oa, hA, hca⟩ := hr (by omega)
    subst hA
    have hLk : L[i] < k := hlt _ (List.getElem_mem _)
    refine cd_skip (nx_then (cd_seq (cd_block (cd_seq (cd_region ?_)))))
    refine st_val (ro_indexAddr1 WavWalks_e60 rfl rfl (by omega)) ?_
    refine st_val (ro_load WavWalks_g3 rfl (by exact cellF hB (hca i hiL))) ?_
    refine asi rfl ?_
    refine st_nil (nx_then (cd_region ?_))
    refine mvs rfl ?_
    refine mvi rfl ?_
    refine st_val (ro_addN (b := 1) rfl rfl (by omega)) ?_
    refine st_val (ro_indexAddr0 WavWalks_e60 rfl rfl (by omega)) ?_
    refine st_val (ro_load WavWalks_g3 rfl (by exact hT.rd _ (tab_get (by omega)))) ?_
    refine st_val (ro_addN (b := 1) rfl rfl (by have := cntS_le (L.take i) (L[i] + 1); rw [List.length_take] at this; omega)) ?_
    refine st_val (ro_indexAddr0 WavWalks_e60 rfl rfl (by omega)) ?_
    refine st_put (v := .int _ _) WavWalks_z3 rfl rfl rfl (hT) (by rw [tab_size]; omega) ?_
    intro w4 O5 P5
    refine st_nil (nx_block (nx_then (cd_region ?_)))
    refine st_val (ro_addN (b := 1) rfl rfl (by omega)) ?_
    refine mvi rfl ?_
    refine st_nil ?_
    refine nx_cut (i + 1) ⟨(by first | rfl | (refine int_eq ?_; omega)), trivial⟩ (by (iterate 26 refine agr_cons rfl ?_); exact agr_rfl) ⟨?_, ?_⟩
    · refine ⟨by omega, ?_, (hB.only O5 (hg11))⟩
      have e : tab (k + 1) (fun c => if c = L[i] + 1 then cntS (L.take i) (L[i] + 1) + 1 else cntS (L.take i) c) = tab (k + 1) (cntS (L.take (i + 1))) := tab_congr fun c _ => by rw [cntS_succ hiL]; by_cases hc : c = L[i] + 1 <;> simp [hc]
      rw [← e, ← tab_set]
      exact P5
    · omega
  with_reducible replace Q3 := of_decide_eq_false Q3
  refine cd_exit ?_
  refine ex_then (ex_then (ex_block (nx_then (cd_seq (cd_seq (cd_region ?_))))))
  refine mvi rfl ?_
  refine mvi rfl ?_
  refine st_nil (nx_then (cd_block ?_))
  refine cd_loop (G := Nat) [8, 28, 29, 30, 31, 32, 33, 34, 35, 36, 37, 38, 39, 40, 41] (fun j => [(27, .int .i64 (j : Nat))]) (fun j w' => j ≤ k ∧ Blk w' b11 3 (tab (k + 1) (fun c => if c ≤ j then cntLt L c else cntS L c)) ∧ From w w') (fun j => k - j) (0) ⟨rfl, trivial⟩ ?_ ?_
  · refine ⟨Nat.zero_le _, ?_, hB⟩
    obtain rfl : i = L.length := by omega
    rw [List.take_length] at hT
    have e : tab (k + 1) (fun c => if c ≤ 0 then cntLt L c else cntS L c) = tab (k + 1) (cntS L) := tab_congr fun c _ => by
      split
      · rename_i h; obtain rfl : c = 0 := by omega
        rw [cntLt_zero]; unfold cntS; simp
      · rfl
    rw [e]
    exact hT
  rintro j ρ5 w5 ⟨hj, hT2, hB⟩
  refine cd_seq (cd_region ?_)
  refine st_val (ro_lss rfl rfl) ?_
  refine st_nil (nx_then (cd_seq ?_))
  refine cd_cond rfl (fun Q6 => ?_) (fun Q6 => ?_)
  · with_reducible replace Q6 := of_decide_eq_true Q6
    have hjk : j < k := by omega
    refine cd_skip (nx_then (cd_seq (cd_block (cd_seq (cd_region ?_)))))
    refine mvi rfl ?_
    refine asi rfl ?_
    refine st_nil (nx_then ?_)
    apply cd_drawnD 11 [(30, eqp _), (31, eqp _), (32, eqp _), (33, eqp _), (34, eqp (nV (cntS L (j + 1)))), (35, eqp _), (36, eqp _), (37, eqp _), (38, eqp (nV (cntLt L j))), (39, eqp (nV (cntS L (j + 1) + cntLt L j))), (40, eqp _)] (by repeat first | exact pq_body | refine pq_then ?_ | refine pq_block ?_) (by kernel_rfl) (by kernel_rfl) ⟨eqp_mono _, eqp_mono _, eqp_mono _, eqp_mono _, eqp_mono _, eqp_mono _, eqp_mono _, eqp_mono _, eqp_mono _, eqp_mono _, eqp_mono _, trivial⟩
    case hop =>
     refine ⟨?_, ?_⟩
     · rintro - w8 D8
       show OpOK _ _ _ _ _ _ _
       exact ok_pure (ro_move (v := .slice _ _ _) rfl) rfl
     refine ⟨?_, ?_⟩
     · rintro - w9 D9
       show OpOK _ _ _ _ _ _ _
       exact ok_pure (ro_move (v := .int _ _) rfl) rfl
     refine ⟨?_, ?_⟩
     · rintro - w10 D10
       rintro _ rfl
       show OpOK _ _ _ _ _ _ _
       exact ok_pure (ro_addN (b := 1) rfl rfl (by omega)) rfl
     refine ⟨?_, ?_⟩
     · rintro - w11 D11
       rintro _ rfl _ rfl
       show OpOK _ _ _ _ _ _ _
       exact ok_pure (ro_indexAddr0 WavWalks_e60 rfl rfl (by omega)) rfl
     refine ⟨?_, ?_⟩
     · rintro - w12 D12
       rintro _ rfl
       show OpOK _ _ _ _ _ _ _
       exact ok_pure (ro_load WavWalks_g3 rfl ((hT2.from_ D12).rd _ (by rw [tab_get (by omega), if_neg (by omega)]))) rfl
     refine ⟨?_, ?_⟩
     · rintro - w13 D13
       show OpOK _ _ _ _ _ _ _
       exact ok_pure (ro_move (v := .slice _ _ _) rfl) rfl
     refine ⟨?_, ?_⟩
     · rintro - w14 D14
       show OpOK _ _ _ _ _ _ _
       exact ok_pure (ro_move (v := .int _ _) rfl) rfl
     refine ⟨?_, ?_⟩
     · rintro - w15 D15
       rintro _ rfl _ rfl
       show OpOK _ _ _ _ _ _ _
       exact ok_pure (ro_indexAddr0 WavWalks_e60 rfl rfl (by omega)) rfl
     refine ⟨?_, ?_⟩
     · rintro - w16 D16
       rintro _ rfl
       show OpOK _ _ _ _ _ _ _
       exact ok_pure (ro_load WavWalks_g3 rfl ((hT2.from_ D16).rd _ (by rw [tab_get (by omega), if_pos (Nat.le_refl _)]))) rfl
     refine ⟨?_, ?_⟩
     · rintro - w17 D17
       rintro v17_34 rfl v17_38 rfl
       show OpOK _ _ _ _ _ _ _
       exact ok_pure (ro_addN rfl rfl (by have := cntS_le L (j + 1); have := cntLt_le L j; omega)) rfl
     refine ⟨?_, ?_⟩
     · rintro - w18 D18
       rintro _ rfl _ rfl
       show OpOK _ _ _ _ _ _ _
       exact ok_pure (ro_indexAddr0 WavWalks_e60 rfl rfl (by omega)) rfl
     exact trivial
    case hend =>
     intro w19 D19
     rintro _ rfl _ rfl _ rfl _ rfl v34 rfl _ rfl _ rfl _ rfl v38 rfl v39 rfl _ rfl
     show St _ _ _ _ _ _ _
     have hT3 := hT2.from_ D19
     refine st_put (v := .int _ _) WavWalks_z3 rfl rfl rfl (hT3) (by rw [tab_size]; omega) ?_
     intro w20 O10 P10
     refine st_nil (nx_block (nx_then (cd_region ?_)))
     refine st_val (ro_addN (b := 1) rfl rfl (by omega)) ?_
     refine mvi rfl ?_
     refine st_nil ?_
     refine nx_cut (j + 1) ⟨(by first | rfl | (refine int_eq ?_; omega)), trivial⟩ (by (iterate 32 refine agr_cons rfl ?_); exact agr_rfl) ⟨?_, ?_⟩
     · refine ⟨by omega, ?_, ((hB.next D19).only O10 (hg11))⟩
       have e : tab (k + 1) (fun c => if c = j + 1 then cntS L (j + 1) + cntLt L j else if c ≤ j then cntLt L c else cntS L c) = tab (k + 1) (fun c => if c ≤ j + 1 then cntLt L c else cntS L c) := tab_congr fun c _ => by
         by_cases h1 : c = j + 1
         · subst h1; rw [if_pos rfl, if_pos (Nat.le_refl _), cntLt_succ]
         · rw [if_neg h1]
           by_cases h2 : c ≤ j
           · rw [if_pos h2, if_pos (by omega)]
           · rw [if_neg h2, if_neg (by omega)]
       rw [← e, ← tab_set]
       exact P10
     · omega
  with_reducible replace Q6 := of_decide_eq_false Q6
  refine cd_exit ?_
  refine ex_then (ex_then (ex_block (nx_then (cd_seq (cd_region ?_)))))
  refine mvs rfl ?_
  refine ass rfl ?_
  refine st_nil (nx_then (cd_ret ?_))
  refine res1 (v := .slice _ _ _) rfl rfl ?_
  obtain rfl : j = k := by omega
  have e : tab (j + 1) (fun c => if c ≤ j then cntLt L c else cntS L c) = tab (j + 1) (cntLt L) := tab_congr fun c hc => if_pos (by omega)
  rw [e] at hT2
  exact ⟨⟨b11, rfl, hg11, hT2⟩, hB⟩
end Go.Proofs.YtglndihdhaaccaaDoor

namespace Go.Proofs.YtglndihdhaaccaaDoor
open Go.RowKit
open Go.ChangeShapes Go.WideShapes Go.ChangeAt
theorem WavSplit_e60 : elemQ Tryd.prog 60 = some (3, 1) := by kernel_rfl
theorem WavSplit_e107 : elemQ Tryd.prog 107 = some (4, 1) := by kernel_rfl
theorem WavSplit_m60 : makeQ Tryd.prog 60 = some (3, 8, (.int .i64 0)) := by kernel_rfl
theorem WavSplit_g4 : aggQ Tryd.prog 4 = some false := by kernel_rfl
theorem WavSplit_o96 : zeroQ Tryd.prog 96 = some (.agg #[.pointer none, .int .i64 0, .int .i64 0]) := by kernel_rfl
theorem WavSplit_l60 : (elemQ Tryd.prog 60).isSome = true := by kernel_rfl
theorem WavSplit_m107 : makeQ Tryd.prog 107 = some (4, 1, (.bool false)) := by kernel_rfl
theorem WavSplit_g3 : aggQ Tryd.prog 3 = some false := by kernel_rfl
theorem WavSplit_z4 : sizeQ Tryd.prog 4 = some 1 := by kernel_rfl
theorem WavSplit_q60 : litQ Tryd.prog 60 = some (3, 1, 8, (.int .i64 0)) := by kernel_rfl
theorem WavSplit_k43 : callable Tryd.prog 43 = true := by kernel_rfl
theorem WavSplit_b96_0_1_2 : ∀ (a0 : Option Addr) (a1 : Int) (a2 : Int), Tryd.prog.built 96 [(0, .pointer a0), (1, .int .i64 a1), (2, .int .i64 a2)] = some #[.pointer a0, .int .i64 a1, .int .i64 a2] := by intros; kernel_rfl
theorem WavSplit_z96 : sizeQ Tryd.prog 96 = some 3 := by kernel_rfl
theorem WavSplit_g96 : aggQ Tryd.prog 96 = some true := by kernel_rfl
theorem and_one_bit (s c : Nat) : ((((c / 2 ^ s &&& 1 : Nat) : Int)) == 1) = bitN s c := by
  rw [Nat.and_one_is_mod]
  unfold bitN
  generalize c / 2 ^ s % 2 = r
  rw [Bool.eq_iff_iff]
  simp only [beq_iff_eq, decide_eq_true_eq]
  omega
theorem ones_le (s : Nat) (M : List Nat) (i : Nat) : (onesL s (M.take i)).length ≤ i := by
  have := zo_len s (M.take i)
  rw [List.length_take] at this
  omega
section
variable {P : Program} {ops : Array Oper} {Q : Exit → Act → World → Prop} {rest : List Oper} {n : Fr} {L : List (Nat × Value)} {w : World} {ty : TypeId} {pos : String} {after : Array Edge} {d : Nat} {t : TypeId} {x y : Operand}
theorem st_make0 {e by_ m base : Nat} {z : Value} {kl kc : IntKind} (ht : makeQ P t = some (e, by_, z)) (hz : z.cells = #[z]) (hx : ev n L x = .int kl 0) (hy : ev n L y = .int kc (m : Nat)) (hm : m ≤ 9007199254740992) (hb : by_ * m ≤ 281474976710656) (hbs : base ≤ w.heap.size)
    (k : ∀ g w', From w w' → g = w.heap.size → w'.ownsRow base e 1 (.slice (some ⟨g, 0, none⟩) 0 m) 0 [] → St P ops Q rest n ((d, .slice (some ⟨g, 0, none⟩) 0 m) :: L) w') : St P ops Q (⟨some d, .makeSlice t x y, ty, pos, after, none⟩ :: rest) n L w := by
  unfold makeQ at ht
  split at ht
  · rename_i e' hu
    cases hi : P.info? e' with
    | none => simp [hi] at ht
    | some i =>
      rw [hi] at ht
      simp only [Option.bind_some] at ht
      split at ht
      · rename_i hs
        cases hzz : i.zero with
        | none => simp [hzz] at ht
        | some z' =>
          simp only [hzz, Option.map_some, Option.some.injEq, Prod.mk.injEq] at ht
          obtain ⟨rfl, rfl, rfl⟩ := ht
          have hr := run_make (P := P) w t e' i z' hu hi hzz kl kc 0 (m : Int) (by omega) (by omega) (by
            have : ((i.bytes * m : Nat) : Int) ≤ 281474976710656 := by omega
            rwa [Int.natCast_mul] at this) (by omega)
          rw [Int.toNat_natCast] at hr
          refine st_val (v := .slice (some ⟨w.heap.size, 0, none⟩) 0 m) (w' := w.alloc (.cells (madeCells z'.cells (m * i.size)) e')) (fun _ _ _ _ _ => ?_) (k _ _ (From.rfl_.new _) rfl ⟨by simp, .inr ⟨w.heap.size, m, _, rfl, hbs, heap_alloc_new w _, Nat.zero_le _, by unfold maxLen; omega, by simp [madeCells, hs], by simp⟩⟩)
          simp [execOp, hx, hy, hr]
      · cases ht
  · cases ht
end
def lvlV (v z s : Nat) : List Value := [.pointer (some ⟨v, 0, none⟩), .int .i64 (z : Nat), .int .i64 (s : Nat)]
/-- the bits, as far as they are known -/
def bitsTo (s : Nat) (L : List Nat) (i : Nat) : List Bool := (L.take i).map (bitN s) ++ List.replicate (L.length - i) false
theorem bitsTo_len {s : Nat} {L : List Nat} {i : Nat} (h : i ≤ L.length) : (bitsTo s L i).length = L.length := by simp [bitsTo]; omega
theorem bitsTo_set {s : Nat} {L : List Nat} {i : Nat} (h : i < L.length) : (bitsTo s L i).set i (bitN s L[i]) = bitsTo s L (i + 1) := by
  unfold bitsTo
  have e : ((L.take i).map (bitN s)).length = i := by simp; omega
  rw [List.set_append_right _ _ (by omega), e, Nat.sub_self, show L.length - i = (L.length - (i + 1)) + 1 by omega, List.replicate_succ, List.set_cons_zero, List.take_succ_eq_append_getElem h, List.map_append]
  simp
theorem bitsTo_all {s : Nat} {L : List Nat} : bitsTo s L L.length = L.map (bitN s) := by simp [bitsTo]
theorem zeros_succ {s : Nat} {L : List Nat} {i : Nat} (h : i < L.length) : zerosL s (L.take (i + 1)) = zerosL s (L.take i) ++ if bitN s L[i] then [] else [L[i]] := by
  rw [List.take_succ_eq_append_getElem h, zeros_app]
  congr 1
  unfold zerosL
  cases hb : bitN s L[i] <;> simp [hb]
theorem ones_succ {s : Nat} {L : List Nat} {i : Nat} (h : i < L.length) : onesL s (L.take (i + 1)) = onesL s (L.take i) ++ if bitN s L[i] then [L[i]] else [] := by
  rw [List.take_succ_eq_append_getElem h, ones_app]
  congr 1
  unfold onesL
  cases hb : bitN s L[i] <;> simp [hb]
theorem boV_map (l : List Bool) (i : Nat) (h : i < l.length) : (l.map boV).toArray[i]? = some (boV l[i]) := by simp [h]
theorem bo_set {l : List Bool} (i : Nat) (x : Bool) : ((l.map boV).toArray.setIfInBounds i (boV x)) = ((l.set i x).map boV).toArray := by
  rw [List.setIfInBounds_toArray, List.map_set]
theorem bits_at {s : Nat} {L : List Nat} {i : Nat} (h : i < L.length) : ((bitsTo s L (i + 1)).map boV).toArray[i]? = some (boV (bitN s L[i])) := by
  rw [← bitsTo_set h, boV_map _ i (by rw [List.length_set, bitsTo_len (by omega)]; exact h), List.getElem_set_self]
theorem bits_full {s : Nat} {L : List Nat} {i : Nat} (h : i < L.length) : ((L.map (bitN s)).map boV).toArray[i]? = some (boV (bitN s L[i])) := by
  rw [boV_map _ i (by rw [List.length_map]; exact h), List.getElem_map]
theorem new_n (A : Option Addr) (c n : Nat) (l : List Bool) (w : World) (hn : n = l.length) (hr : RowOf boV w A l) (hl : n ≤ 1048576) : Rt Tryd.prog 43 [.slice A n c] w fun v w' => ∃ b, v = .tuple #[.pointer (some ⟨b, 0, none⟩), .int .i64 0] ∧ Vec w' w.heap.size b l ∧ From w w' := by
  subst hn
  exact new_rt A c l w hr hl
theorem repl_bo (n : Nat) : (List.replicate n (Value.bool false)).toArray = ((List.replicate n false).map boV).toArray := by rw [List.map_replicate]
set_option maxHeartbeats 600000 in
theorem split_rt (A : Option Addr) (c : Nat) (L : List Nat) (w : World) (hr : RowOf nV w A L) (hl : L.length ≤ 131072) (s : Nat) (hs : s ≤ 9) (h10 : ∀ x ∈ L, x < 1024) :
    Rt Tryd.prog 38 [.slice A L.length c, .int .i64 (s : Nat)] w (fun v w' => (∃ b A' c', v = .tuple #[.agg (lvlV b (zerosL s L).length s).toArray, .slice A' L.length c', .int .i64 0] ∧ Vec w' w.heap.size b (L.map (bitN s)) ∧ w'.ownsRow w.heap.size 3 1 (.slice A' L.length c') L.length ((partL s L).map nV)) ∧ From w w') := by
  refine enter (n := 76) Tryd.func38 rfl rfl rfl ?_
  refine cd_seq (cd_region ?_)
  refine st_alloc WavSplit_o96 ?_
  intro b4 w1 E4 hb4 hk4
  have hl4 := hk4.lt
  have hg4 : w.heap.size ≤ b4 := Nat.le_of_eq hb4.symm
  refine ass rfl ?_
  refine asi rfl ?_
  refine st_nil (nx_then (cd_seq (cd_region ?_)))
  refine mvs rfl ?_
  refine st_val (ro_len WavSplit_l60 rfl) ?_
  refine st_make WavSplit_m107 rfl rfl rfl (by omega) (by omega) ?_
  intro b18 w2 E18 hb18 hk18
  have hg18 : w.heap.size ≤ b18 := by rw [hb18]; exact Nat.le_trans hg4 (Nat.le_of_lt hl4)
  have h418 : b4 ≠ b18 := by omega
  refine ass rfl ?_
  refine st_nil (nx_then (cd_seq (cd_region ?_)))
  refine mvs rfl ?_
  refine st_val (ro_len WavSplit_l60 rfl) ?_
  refine st_make0 (base := w.heap.size) WavSplit_m60 rfl rfl rfl (by omega) (by omega) ((From.rfl_.next E4).next E18).size ?_
  intro b21 w3 E21 hb21 ho21
  refine ass rfl ?_
  refine st_nil (nx_then (cd_seq (cd_seq (cd_region ?_))))
  refine mvs rfl ?_
  refine st_val (ro_len WavSplit_l60 rfl) ?_
  refine mvi rfl ?_
  refine st_nil (nx_then (cd_block ?_))
  refine cd_loop (G := Nat × Option Addr × Nat × Nat) [9, 10, 25, 26, 27, 28, 29, 30, 31, 32, 33, 34, 35, 36, 37, 38, 39, 40, 41, 42, 43, 44, 45, 46] (fun (i, A8, c8, m) => [(8, .slice A8 m c8), (24, .int .i64 (i : Nat))]) (fun (i, A8, c8, m) w' => i ≤ L.length ∧ m = (zerosL s (L.take i)).length ∧ Blk w' b18 4 ((bitsTo s L i).map boV).toArray ∧ w'.ownsRow w.heap.size 3 1 (.slice A8 m c8) m ((zerosL s (L.take i)).map nV) ∧ Blk w' b4 96 #[.pointer none, .int .i64 0, .int .i64 0] ∧ From w w') (fun (i, _, _, _) => L.length - i) ((0, some ⟨b21, 0, none⟩, L.length, 0)) ⟨rfl, rfl, trivial⟩ ?_ ?_
  · refine ⟨Nat.zero_le _, rfl, ?_, ho21, hk4.from_ (E18.next E21), (((From.rfl_.next E4).next E18).next E21)⟩
    have e : bitsTo s L 0 = List.replicate L.length false := by simp [bitsTo]
    rw [e, ← repl_bo]
    exact hk18.from_ E21
  rintro ⟨i, A8, c8, m⟩ ρ4 w4 ⟨hi, hm, hT, ho8, hR4, hB⟩
  refine cd_seq (cd_region ?_)
  refine st_val (ro_lss rfl rfl) ?_
  refine st_nil (nx_then (cd_seq ?_))
  refine cd_cond rfl (fun Q5 => ?_) (fun Q5 => ?_)
  · with_reducible replace Q5 := of_decide_eq_true Q5
    have hiL : i < L.length := by omega
    have hmb : m ≤ L.length := by rw [hm]; have := zo_len s (L.take i); rw [List.length_take] at this; omega
    obtain ⟨ba, oa, hA, hca⟩ := hr (by omega)
    subst hA
    refine cd_skip (nx_then ?_)
    refine cd_cut (G := Option Addr × Nat × Nat) [9, 10, 26, 27, 28, 29, 30, 31, 32, 33, 34, 35, 36, 37, 38, 39, 40, 41, 42, 43, 44, 45] (fun (A8, c8, m) => [(8, .slice A8 m c8)]) (fun (A8, c8, m) w' => m = (zerosL s (L.take (i + 1))).length ∧ Blk w' b18 4 ((bitsTo s L (i + 1)).map boV).toArray ∧ w'.ownsRow w.heap.size 3 1 (.slice A8 m c8) m ((zerosL s (L.take (i + 1))).map nV) ∧ Blk w' b4 96 #[.pointer none, .int .i64 0, .int .i64 0] ∧ From w w') ?_ ?_
    · refine cd_block (cd_seq (cd_region ?_))
      refine mvi rfl ?_
      refine st_val (ro_indexAddr1 WavSplit_e60 rfl rfl (by omega)) ?_
      refine st_val (ro_load WavSplit_g3 rfl (by exact cellF hB (hca i hiL))) ?_
      refine asi rfl ?_
      refine asi rfl ?_
      refine st_nil (nx_then (cd_seq (cd_region ?_)))
      refine mvs rfl ?_
      refine mvi rfl ?_
      refine mvi rfl ?_
      refine mvi rfl ?_
      refine st_val (ro_shrN rfl rfl (by show s ≤ 64; omega)) ?_
      refine st_val (ro_andI (b := 1) rfl rfl ⟨by have := Nat.div_le_self (L[i]) (2 ^ s); have := h10 _ (List.getElem_mem hiL); omega, by decide⟩) ?_
      refine st_val (ro_eq (ro_eql rfl rfl) (congrArg Value.bool (and_one_bit s L[i]))) ?_
      refine st_val (ro_indexAddr0 WavSplit_e107 rfl rfl (by omega)) ?_
      refine st_put (v := .bool _) WavSplit_z4 rfl rfl rfl (hT) (by simp; rw [bitsTo_len hi]; exact hiL) ?_
      intro w6 O6 P6
      have P6b : Blk w6 b18 4 ((bitsTo s L (i + 1)).map boV).toArray := by rw [← bitsTo_set hiL, ← bo_set]; exact P6
      refine st_nil (nx_then (cd_seq (cd_region ?_)))
      refine mvs rfl ?_
      refine mvi rfl ?_
      refine st_val (ro_indexAddr0 WavSplit_e107 rfl rfl (by omega)) ?_
      refine st_val (ro_load (v := boV (bitN s L[i])) WavSplit_g4 rfl (P6b.rd i (bits_at hiL))) ?_
      refine st_val (ro_not rfl) ?_
      refine st_nil (nx_then ?_)
      refine cd_cond rfl (fun Q7 => ?_) (fun Q7 => ?_)
      · with_reducible replace Q7 := bn_t Q7
        have hbt : bitN s L[i] = false := by simpa using Q7
        refine cd_region ?_
        refine mvs rfl ?_
        refine mvi rfl ?_
        refine st_lit1 (v := .int _ _) WavSplit_q60 rfl rfl rfl ?_
        intro b44 w8 E44 hb44 hk44
        have hTq := P6b.from_ E44
        have hRq := (hR4.only O6 (by omega)).from_ E44
        have hoq := (own_only3 ho8 O6 (own_off ho8 hT (by decide))).kept_from E44
        refine st_push1 (a0 := w) WavSplit_q60 rfl rfl (hoq) ((hB.only O6 (hg18)).next E44) rfl hk44 rfl (by omega) (by omega) ?_
        intro A45 c45 w9 ho45 B45 hg45
        refine ass rfl ?_
        refine st_nil (nx_block ?_)
        refine nx_cut ((A45, c45, m + 1)) ⟨(by first | rfl | (refine int_eq ?_; omega)), trivial⟩ (by (iterate 23 refine agr_cons rfl ?_); exact agr_rfl) ?_
        exact ⟨by rw [zeros_succ hiL, hbt, hm]; simp, hTq.grown hg45 (own_off hoq hTq (by decide)), by rw [zeros_succ hiL, hbt, List.map_append]; exact ho45, hRq.grown hg45 (own_off hoq hRq (by decide)), B45⟩
      with_reducible replace Q7 := bn_f Q7
      have hbt : bitN s L[i] = true := by simpa using Q7
      refine cd_skip (nx_block ?_)
      refine nx_cut ((A8, c8, m)) ⟨(by first | rfl | (refine int_eq ?_; omega)), trivial⟩ (by (iterate 18 refine agr_cons rfl ?_); exact agr_rfl) ?_
      exact ⟨by rw [zeros_succ hiL, hbt, hm]; simp, P6b, by rw [zeros_succ hiL, hbt]; simpa using own_only3 ho8 O6 (own_off ho8 hT (by decide)), hR4.only O6 (by omega), (hB.only O6 (hg18))⟩
    rintro ⟨A8', c8', m'⟩ ρ10 w10 ⟨hm2, hT2, ho82, hR42, hB⟩
    refine cd_region ?_
    refine st_val (ro_addN (b := 1) rfl rfl (by omega)) ?_
    refine mvi rfl ?_
    refine st_nil ?_
    refine nx_cut ((i + 1, A8', c8', m')) ⟨(by first | rfl | (refine int_eq ?_; omega)), (by first | rfl | (refine int_eq ?_; omega)), trivial⟩ (by (iterate 52 refine agr_cons rfl ?_); exact agr_rfl) ⟨?_, ?_⟩
    · exact ⟨by omega, hm2, hT2, ho82, hR42, hB⟩
    · show L.length - (i + 1) < L.length - i; omega
  with_reducible replace Q5 := of_decide_eq_false Q5
  refine cd_exit ?_
  refine ex_then (ex_then (ex_block (nx_then (cd_seq (cd_region ?_)))))
  refine mvs rfl ?_
  refine st_val (ro_len WavSplit_l60 rfl) ?_
  refine asi rfl ?_
  refine st_nil (nx_then (cd_seq (cd_seq (cd_region ?_))))
  refine mvs rfl ?_
  refine st_val (ro_len WavSplit_l60 rfl) ?_
  refine mvi rfl ?_
  refine st_nil (nx_then (cd_block ?_))
  refine cd_loop (G := Nat × Option Addr × Nat × Nat) [12, 13, 52, 53, 54, 55, 56, 57, 58, 59, 60, 61, 62, 63, 64] (fun (i, A8, c8, m) => [(8, .slice A8 m c8), (51, .int .i64 (i : Nat))]) (fun (i, A8, c8, m) w' => i ≤ L.length ∧ m = ((zerosL s L) ++ onesL s (L.take i)).length ∧ Blk w' b18 4 ((L.map (bitN s)).map boV).toArray ∧ w'.ownsRow w.heap.size 3 1 (.slice A8 m c8) m (((zerosL s L) ++ onesL s (L.take i)).map nV) ∧ Blk w' b4 96 #[.pointer none, .int .i64 0, .int .i64 0] ∧ From w w') (fun (i, _, _, _) => L.length - i) ((0, A8, c8, m)) ⟨rfl, rfl, trivial⟩ ?_ ?_
  · obtain rfl : i = L.length := by omega
    rw [bitsTo_all] at hT
    rw [List.take_length] at ho8 hm
    exact ⟨Nat.zero_le _, by simpa [onesL] using hm, hT, by simpa [onesL] using ho8, hR4, hB⟩
  rintro ⟨i2, A9, c9, m2⟩ ρ11 w11 ⟨hi2, hm3, hT3, ho9, hR5, hB⟩
  refine cd_seq (cd_region ?_)
  refine st_val (ro_lss rfl rfl) ?_
  refine st_nil (nx_then (cd_seq ?_))
  refine cd_cond rfl (fun Q12 => ?_) (fun Q12 => ?_)
  · with_reducible replace Q12 := of_decide_eq_true Q12
    have hiL2 : i2 < L.length := by omega
    have hmb2 : m2 ≤ 262144 := by rw [hm3, List.length_append]; have := zo_len s L; have := ones_le s L i2; omega
    obtain ⟨ba, oa, hA, hca⟩ := hr (by omega)
    subst hA
    refine cd_skip (nx_then ?_)
    refine cd_cut (G := Option Addr × Nat × Nat) [12, 13, 53, 54, 55, 56, 57, 58, 59, 60, 61, 62, 63] (fun (A8, c8, m) => [(8, .slice A8 m c8)]) (fun (A8, c8, m) w' => m = ((zerosL s L) ++ onesL s (L.take (i2 + 1))).length ∧ Blk w' b18 4 ((L.map (bitN s)).map boV).toArray ∧ w'.ownsRow w.heap.size 3 1 (.slice A8 m c8) m (((zerosL s L) ++ onesL s (L.take (i2 + 1))).map nV) ∧ Blk w' b4 96 #[.pointer none, .int .i64 0, .int .i64 0] ∧ From w w') ?_ ?_
    · refine cd_block (cd_seq (cd_region ?_))
      refine mvi rfl ?_
      refine st_val (ro_indexAddr1 WavSplit_e60 rfl rfl (by omega)) ?_
      refine st_val (ro_load WavSplit_g3 rfl (by exact cellF hB (hca i2 hiL2))) ?_
      refine asi rfl ?_
      refine asi rfl ?_
      refine st_nil (nx_then (cd_seq (cd_region ?_)))
      refine mvs rfl ?_
      refine mvi rfl ?_
      refine st_val (ro_indexAddr0 WavSplit_e107 rfl rfl (by omega)) ?_
      refine st_val (ro_load (v := boV (bitN s L[i2])) WavSplit_g4 rfl (hT3.rd i2 (bits_full hiL2))) ?_
      refine st_nil (nx_then ?_)
      refine cd_cond rfl (fun Q13 => ?_) (fun Q13 => ?_)
      · (try with_reducible first | (replace Q13 := of_decide_eq_true Q13; trace "@MK N split_rt:c25-.c52+.c59+ 1.1") | (replace Q13 := of_decide_eq_false Q13; trace "@MK N split_rt:c25-.c52+.c59+ 1.2") | (replace Q13 := bn_t Q13; trace "@MK N split_rt:c25-.c52+.c59+ 1.3") | (replace Q13 := bn_f Q13; trace "@MK N split_rt:c25-.c52+.c59+ 1.4"))
        (try with_reducible first | (replace Q13 := of_decide_eq_true Q13; trace "@MK N split_rt:c25-.c52+.c59+ 2.1") | (replace Q13 := of_decide_eq_false Q13; trace "@MK N split_rt:c25-.c52+.c59+ 2.2") | (replace Q13 := bx_t Q13; trace "@MK N split_rt:c25-.c52+.c59+ 2.3") | (replace Q13 := bx_f Q13; trace "@MK N split_rt:c25-.c52+.c59+ 2.4") | (replace Q13 := be_t Q13; trace "@MK N split_rt:c25-.c52+.c59+ 2.5") | (replace Q13 := be_f Q13; trace "@MK N split_rt:c25-.c52+.c59+ 2.6"))
        have hbt2 : bitN s L[i2] = true := Q13
        refine cd_region ?_
        refine mvs rfl ?_
        refine mvi rfl ?_
        refine st_lit1 (v := .int _ _) WavSplit_q60 rfl rfl rfl ?_
        intro b62 w14 E62 hb62 hk62
        refine st_push1 (a0 := w) WavSplit_q60 rfl rfl ((ho9.kept_from E62)) (hB.next E62) rfl hk62 rfl (by omega) (by omega) ?_
        intro A63 c63 w15 ho63 B63 hg63
        refine ass rfl ?_
        refine st_nil (nx_block ?_)
        refine nx_cut ((A63, c63, m2 + 1)) ⟨(by first | rfl | (refine int_eq ?_; omega)), trivial⟩ (by (iterate 14 refine agr_cons rfl ?_); exact agr_rfl) ?_
        exact ⟨by rw [ones_succ hiL2, hbt2, hm3]; simp; omega, (hT3.from_ E62).grown hg63 (own_off (ho9.kept_from E62) (hT3.from_ E62) (by decide)), by rw [ones_succ hiL2, hbt2]; simpa using ho63, (hR5.from_ E62).grown hg63 (own_off (ho9.kept_from E62) (hR5.from_ E62) (by decide)), B63⟩
      (try with_reducible first | (replace Q13 := of_decide_eq_true Q13; trace "@MK N split_rt:c25-.c52+.c59- 1.1") | (replace Q13 := of_decide_eq_false Q13; trace "@MK N split_rt:c25-.c52+.c59- 1.2") | (replace Q13 := bn_t Q13; trace "@MK N split_rt:c25-.c52+.c59- 1.3") | (replace Q13 := bn_f Q13; trace "@MK N split_rt:c25-.c52+.c59- 1.4"))
      (try with_reducible first | (replace Q13 := of_decide_eq_true Q13; trace "@MK N split_rt:c25-.c52+.c59- 2.1") | (replace Q13 := of_decide_eq_false Q13; trace "@MK N split_rt:c25-.c52+.c59- 2.2") | (replace Q13 := bx_t Q13; trace "@MK N split_rt:c25-.c52+.c59- 2.3") | (replace Q13 := bx_f Q13; trace "@MK N split_rt:c25-.c52+.c59- 2.4") | (replace Q13 := be_t Q13; trace "@MK N split_rt:c25-.c52+.c59- 2.5") | (replace Q13 := be_f Q13; trace "@MK N split_rt:c25-.c52+.c59- 2.6"))
      have hbt2 : bitN s L[i2] = false := by simpa using Q13
      refine cd_skip (nx_block ?_)
      refine nx_cut ((A9, c9, m2)) ⟨(by first | rfl | (refine int_eq ?_; omega)), trivial⟩ (by (iterate 9 refine agr_cons rfl ?_); exact agr_rfl) ?_
      exact ⟨by rw [ones_succ hiL2, hbt2, hm3]; simp, hT3, by rw [ones_succ hiL2, hbt2]; simpa using ho9, hR5, hB⟩
    rintro ⟨A9', c9', m3⟩ ρ16 w16 ⟨hm4, hT4, ho94, hR54, hB⟩
    refine cd_region ?_
    refine st_val (ro_addN (b := 1) rfl rfl (by omega)) ?_
    refine mvi rfl ?_
    refine st_nil ?_
    refine nx_cut ((i2 + 1, A9', c9', m3)) ⟨(by first | rfl | (refine int_eq ?_; omega)), (by first | rfl | (refine int_eq ?_; omega)), trivial⟩ (by (iterate 34 refine agr_cons rfl ?_); exact agr_rfl) ⟨?_, ?_⟩
    · exact ⟨by omega, hm4, hT4, ho94, hR54, hB⟩
    · show L.length - (i2 + 1) < L.length - i2; omega
  with_reducible replace Q12 := of_decide_eq_false Q12
  refine cd_exit ?_
  refine ex_then (ex_then (ex_block (nx_then (cd_seq (cd_region ?_)))))
  refine mvs rfl ?_
  have hB67 : From w w11 := hB
  refine st_call WavSplit_k43 (new_n (some ⟨b18, 0, none⟩) L.length L.length (L.map (bitN s)) _ (by rw [List.length_map]) (RowOf.blk hT3 (fun i hi => boV_map _ i hi)) (by omega)) ?_
  rintro v67 w17 ⟨v67, rfl, hV67, E67⟩
  refine mvt rfl ?_
  refine st_val (ro_extract rfl rfl) ?_
  refine st_val (ro_extract rfl rfl) ?_
  refine asp rfl ?_
  refine asi rfl ?_
  refine st_nil (nx_then (cd_seq (cd_region ?_)))
  refine mvp rfl ?_
  refine mvi rfl ?_
  refine mvi rfl ?_
  refine st_val (ro_build (l := [(0, .tmp 70), (1, .tmp 71), (2, .tmp 72)]) (WavSplit_b96_0_1_2 _ _ _)) ?_
  refine mvs rfl ?_
  refine mvi rfl ?_
  refine st_putW (vs := [_, _, _]) WavSplit_z96 rfl rfl (by simp [Value.oneCell']) ((hR5.from_ E67)) rfl ?_
  intro w18 O18 P18
  refine ass rfl ?_
  refine asi rfl ?_
  refine st_nil (nx_then (cd_ret ?_))
  refine resr3 rfl (rv_cellA (cs := [_, _, _]) WavSplit_g96 WavSplit_z96 rfl (by exact P18.whole)) (rv_tmp (v := .slice _ _ _) rfl) (rv_tmp (v := .int _ _) rfl) ?_
  obtain rfl : i2 = L.length := by omega
  rw [List.take_length] at ho9 hm3
  have hpl : m2 = L.length := by rw [hm3]; exact part_len s L
  subst hpl
  have hiE : i = L.length := by omega
  rw [hiE, List.take_length] at hm
  exact ⟨⟨v67, A9, c9, by rw [hm]; rfl, (hV67.grown (Only.grown O18) (fun k hk => by simp only [Option.some.injEq] at hk; have := hR5.lt; omega)).le hB67.size, own_only3 (ho9.kept_from E67) O18 (own_off (ho9.kept_from E67) (hR5.from_ E67) (by decide))⟩, ((hB.next E67).only O18 (hg4))⟩
end Go.Proofs.YtglndihdhaaccaaDoor

namespace Go.Proofs
open Go.Shelf
def Tryd.lays128_ren : Go.Shelf.Ren := ⟨fun | 128 => 41 | n => n, fun | 51 => 52 | 3 => 3 | 4 => 4 | 46 => 54 | 5 => 5 | 9 => 9 | n => n, fun | n => n⟩
def Tryd.lays125_ren : Go.Shelf.Ren := ⟨fun | 125 => 37 | 128 => 41 | 129 => 42 | n => n, fun | 46 => 54 | 3 => 3 | 51 => 52 | 53 => 106 | 4 => 4 | 5 => 5 | 9 => 9 | n => n, fun | n => n⟩
theorem Tryd.lays125 : Go.Proofs.Lays.n125 Tryd.prog Tryd.lays125_ren := {
  mixed := by kernel_rfl
  f125 := Tryd.func37.trans (congrArg some (by kernel_rfl))
  f128 := Tryd.func41.trans (congrArg some (by kernel_rfl))
  f129 := Tryd.func42.trans (congrArg some (by kernel_rfl))
  t3 := Tryd.underlying3
  a3 := Tryd.isAgg3
  z3 := Tryd.sizeOf3
  v3 := Tryd.zeroValue3
  t4 := Tryd.underlying4
  a4 := Tryd.isAgg4
  z4 := Tryd.sizeOf4
  v4 := Tryd.zeroValue4
  t5 := Tryd.underlying5
  a5 := Tryd.isAgg5
  z5 := Tryd.sizeOf5
  v5 := Tryd.zeroValue5
  t9 := Tryd.underlying9
  a9 := Tryd.isAgg9
  z9 := Tryd.sizeOf9
  v9 := Tryd.zeroValue9
  t46 := Tryd.underlying54
  a46 := Tryd.isAgg54
  z46 := Tryd.sizeOf54
  v46 := Tryd.zeroValue54
  t51 := Tryd.underlying52
  a51 := Tryd.isAgg52
  z51 := Tryd.sizeOf52
  v51 := Tryd.zeroValue52
  t53 := Tryd.underlying106
  a53 := Tryd.isAgg106
  z53 := Tryd.sizeOf106
  v53 := Tryd.zeroValue106 }
/-- bits.Len: "Len returns the minimum number of bits required to represent x; the result is 0 for x == 0.": IT RETURNS 'Lib.bitLen x'; the world is as it was. (A uint has 64 bits in the model.) ITS CALLEE bits.Len64 IS MET BY ITS OWN CONTRACT OFF THE SHELF (lay that first). (LAID: no walk: one application.) -/
theorem Tryd.bits_Len (x : Int) (w : World) (h0 : 0 ≤ x) (h1 : x ≤ 18446744073709551615) :
    Calls Tryd.prog 37 #[.int .u64 x] w fun e w' => e = .returned (.int .i64 (Lib.bitLen x.toNat)) ∧ w' = w := Any.bits_Len Tryd.lays125 x w h0 h1
def Tryd.lays129_ren : Go.Shelf.Ren := ⟨fun | 129 => 42 | n => n, fun | 53 => 106 | 3 => 3 | 4 => 4 | 46 => 54 | 5 => 5 | 9 => 9 | n => n, fun | n => n⟩
def Tryd.lays115_ren : Go.Shelf.Ren := ⟨fun | 115 => 12 | n => n, fun | 37 => 23 | 4 => 4 | 9 => 9 | 5 => 5 | n => n, fun | n => n⟩
def Tryd.laysnb115_ren : Go.Shelf.Ren := ⟨fun | 115 => 12 | n => n, fun | 37 => 23 | 4 => 4 | 9 => 9 | 5 => 5 | n => n, fun | n => n⟩
end Go.Proofs

namespace Go.Proofs.YtglndihdhaaccaaDoor
open Go.RowKit
open Go.ChangeShapes Go.WideShapes Go.ChangeAt
theorem bl_le : ∀ f m x, x < 2 ^ m → Lib.bitLenAux f x ≤ m
  | 0, _, _, _ => by simp [Lib.bitLenAux]
  | f + 1, m, x, h => by
    unfold Lib.bitLenAux
    by_cases h0 : x = 0
    · rw [if_pos h0]; omega
    · rw [if_neg h0]
      cases m with
      | zero => simp at h; omega
      | succ m =>
        have := bl_le f m (x / 2) (by rw [Nat.pow_succ] at h; omega)
        omega
/-- how many levels -/
def nlv (k : Nat) : Nat := Lib.bitLen (k - 1)
theorem nlv_le {k : Nat} (h : k ≤ 512) : nlv k ≤ 9 := bl_le 64 9 (k - 1) (by omega)
theorem len_rt (x : Nat) (w : World) (h : x < 1024) : Rt Tryd.prog 37 [.int .u64 (x : Nat)] w fun v w' => v = .int .i64 (Lib.bitLen x : Nat) ∧ w = w' :=
  Calls.mono (Go.Proofs.Tryd.bits_Len (x : Nat) w (by omega) (by omega)) fun e w' ⟨he, hw⟩ => ⟨_, he, by rw [Int.toNat_natCast], hw.symm⟩
def lvlsV (n : Nat) (L : List Nat) (vs : Nat → Nat) (j : Nat) : List Value := (List.range j).flatMap fun i => lvlV (vs i) (zerosL (n - 1 - i) (lvl n L i)).length (n - 1 - i)
theorem lvls_succ (n : Nat) (L : List Nat) (vs : Nat → Nat) (j v : Nat) : lvlsV n L (fun i => if i = j then v else vs i) (j + 1) = lvlsV n L vs j ++ lvlV v (zerosL (n - 1 - j) (lvl n L j)).length (n - 1 - j) := by
  unfold lvlsV
  rw [List.range_succ, List.flatMap_append, List.flatMap_singleton]
  show _ ++ lvlV (if j = j then v else vs j) _ _ = _
  rw [if_pos rfl]
  congr 1
  have key : ∀ l : List Nat, (∀ i ∈ l, i < j) → (l.flatMap fun i => lvlV (if i = j then v else vs i) (zerosL (n - 1 - i) (lvl n L i)).length (n - 1 - i)) = l.flatMap fun i => lvlV (vs i) (zerosL (n - 1 - i) (lvl n L i)).length (n - 1 - i) := by
    intro l
    induction l with
    | nil => intro _; rfl
    | cons a r ih =>
      intro h
      rw [List.flatMap_cons, List.flatMap_cons, ih (fun i hi => h i (List.mem_cons_of_mem _ hi)), if_neg (by have := h a (List.mem_cons_self ..); omega)]
  exact key _ fun i hi => by simpa using hi
/-- a tree over L -/
def TreeAt (w : World) (base b k : Nat) (L : List Nat) : Prop := base ≤ b ∧ ∃ (A : Option Addr) (c g : Nat) (vs : Nat → Nat), Blk w b 92 #[.slice A (nlv k) c, .slice (some ⟨g, 0, none⟩) (k + 1) (k + 1), .int .i64 (k : Nat)] ∧
  w.ownsRow base 96 3 (.slice A (nlv k) c) (nlv k) (lvlsV (nlv k) L vs (nlv k)) ∧ (∀ j, j < nlv k → Vec w base (vs j) ((lvl (nlv k) L j).map (bitN (nlv k - 1 - j)))) ∧ base ≤ g ∧ Blk w g 3 (tab (k + 1) (cntLt L)) ∧ 1 ≤ k ∧ k ≤ 512 ∧ (∀ x ∈ L, x < k) ∧ L.length ≤ 131072
theorem own_two {w : World} {base base2 e e2 s s2 n m c c2 : Nat} {A B : Option Addr} {xs ys : List Value} (h : w.ownsRow base e s (.slice A n c) n xs) (k : w.ownsRow base2 e2 s2 (.slice B m c2) m ys) (hne : e ≠ e2) : (Value.slice A n c).ownBlock = none ∨ (Value.slice A n c).ownBlock ≠ B.map (·.block) := by
  rcases h.2 with ⟨h0, _⟩ | ⟨g, cap, cur, hv, hg, hh, r⟩
  · exact .inl (by rw [h0]; rfl)
  · refine .inr fun e0 => ?_
    have hb : Blk w g e cur := hh
    have := own_off k hb hne g (by rw [← e0, hv]; rfl)
    exact this rfl
/-- a vector, while a row of levels grows -/
theorem Vec.off {w w' : World} {base b bs m c : Nat} {l : List Bool} {A : Option Addr} {xs : List Value} (h : Vec w base b l) (ho : w.ownsRow bs 96 3 (.slice A m c) m xs) (hg : w.grownBy w' (A.map (·.block))) : Vec w' base b l := by
  obtain ⟨gw, Aa, ca, ws, rs, h1, h2, h3, h4, h5, h6⟩ := h
  exact ⟨gw, Aa, ca, ws, rs, h1, h2, h3.grown hg (own_off ho h3 (by decide)), h4.grown hg (own_off ho h4 (by decide)), h5.kept hg (own_two h5 ho (by decide)), h6⟩
theorem Vec.only {w w' : World} {base b g t : Nat} {l : List Bool} {cs : Array Value} (h : Vec w base b l) (o : Only g w w') (hb : Blk w g t cs) (h1' : t ≠ 122) (h2' : t ≠ 106) (h3' : t ≠ 21) : Vec w' base b l := by
  obtain ⟨gw, Aa, ca, ws, rs, h1, h2, h3, h4, h5, h6⟩ := h
  have ne : ∀ {x t' cs'}, Blk w x t' cs' → t ≠ t' → x ≠ g := fun hx hne e => by
    subst e
    unfold Blk at hx hb
    rw [hx] at hb
    simp only [Option.some.injEq, Obj.cells.injEq] at hb
    exact hne hb.2.1.symm
  exact ⟨gw, Aa, ca, ws, rs, h1, h2, h3.only o (ne h3 h1'), h4.only o (ne h4 h2'), own_only3 h5 o (own_off h5 hb h3'), h6⟩
/-- symbols that lie in memory of the caller's, or in a row of numbers -/
def SymR (w0 w : World) (A : Option Addr) (L : List Nat) : Prop := RowOf nV w A L ∧ (∀ q, 0 < L.length → A.map (·.block) = some q → q < w0.heap.size ∨ ∃ cs, Blk w q 3 cs)
theorem SymR.from_ {w0 w w' : World} {A : Option Addr} {L : List Nat} (h : SymR w0 w A L) (hF : From w w') : SymR w0 w' A L := ⟨h.1.from_ hF, fun q h0 hq => (h.2 q h0 hq).imp id fun ⟨cs, hb⟩ => ⟨cs, hb.from_ hF⟩⟩
theorem symR_own {w0 w : World} {base n c : Nat} {A : Option Addr} {L : List Nat} (h : w.ownsRow base 3 1 (.slice A n c) n (L.map nV)) : SymR w0 w A L := by
  refine ⟨(RowOf.own h).2, fun q _ hq => .inr ?_⟩
  rcases h.2 with ⟨h0, _⟩ | ⟨g, cap, cur, hv, hg, hh, r⟩
  · simp only [Value.slice.injEq] at h0
    rw [h0.1] at hq; cases hq
  · simp only [Value.slice.injEq] at hv
    rw [hv.1] at hq
    simp only [Option.map_some, Option.some.injEq] at hq
    subst hq
    exact ⟨cur, hh⟩
theorem xs_nat {k : Int} {xs : List Int} (h : chkW k xs = 0) : ∃ (K : Nat) (L : List Nat), k = (K : Nat) ∧ xs = L.map (fun x : Nat => (x : Int)) ∧ 1 ≤ K ∧ K ≤ 512 ∧ (∀ x ∈ L, x < K) ∧ L.length ≤ 131072 := by
  unfold chkW at h
  split at h
  · cases h
  · rename_i h1
    split at h
    · cases h
    · rename_i h2
      split at h
      · cases h
      · rename_i h3
        have hb : ∀ x ∈ xs, 0 ≤ x ∧ x < k := fun x hx => by
          have h4 : badSym k x = false := by
            rw [← Bool.not_eq_true]
            intro hb
            exact h2 (List.any_eq_true.2 ⟨x, hx, hb⟩)
          have := of_decide_eq_false h4
          omega
        refine ⟨k.toNat, xs.map Int.toNat, by omega, ?_, by omega, by omega, fun x hx => ?_, by rw [List.length_map]; omega⟩
        · rw [List.map_map]
          refine ((List.map_congr_left fun x hx => ?_).trans (List.map_id xs)).symm
          have := hb x hx
          simp only [Function.comp, id]
          omega
        · obtain ⟨y, hy, rfl⟩ := List.mem_map.1 hx
          have := hb y hy
          omega
theorem row_nat {w : World} {A : Option Addr} {L : List Nat} (h : RowOf iV w A (L.map fun x : Nat => (x : Int))) : RowOf nV w A L := fun h0 => by
  obtain ⟨b, o, hA, hc⟩ := h (by simpa using h0)
  refine ⟨b, o, hA, fun i hi => ?_⟩
  have := hc i (by simpa using hi)
  rwa [List.getElem_map] at this
end Go.Proofs.YtglndihdhaaccaaDoor

namespace Go.Proofs.YtglndihdhaaccaaDoor
open Go.RowKit
open Go.ChangeShapes Go.WideShapes Go.ChangeAt
theorem TreeAt.from_ {w w' : World} {base b k : Nat} {L : List Nat} (h : TreeAt w base b k L) (hF : From w w') : TreeAt w' base b k L := by
  obtain ⟨hb0, AT, cT, g, vs, hT, ho, hVs, hg0, hg2, hrest⟩ := h
  exact ⟨hb0, AT, cT, g, vs, hT.from_ hF, ho.kept_from hF, fun j hj => (hVs j hj).from_ hF, hg0, hg2.from_ hF, hrest⟩
def sE (k : Nat) (c : Int) : Int := if 0 ≤ c ∧ c ≤ k then 0 else 1
def sV (k : Nat) (L : List Nat) (c : Int) : Int := if 0 ≤ c ∧ c ≤ k then (cntLt L c.toNat : Nat) else 0
def aE (L : List Nat) (i : Int) : Int := if 0 ≤ i ∧ i < L.length then 0 else 3
def aV (L : List Nat) (i : Int) : Int := if 0 ≤ i ∧ i < L.length then (L.getD i.toNat 0 : Nat) else 0
def hiD (n x j : Nat) : Nat := x / 2 ^ (n - j) * 2 ^ (n - j)
section
variable {P : Program} {ρ : Operand → Value} {w : World} {t yt : TypeId} {x y : Operand}
end
end Go.Proofs.YtglndihdhaaccaaDoor

namespace Go.Proofs.YtglndihdhaaccaaDoor
open Go.RowKit
open Go.ChangeShapes Go.WideShapes Go.ChangeAt
def cntC (L : List Nat) (c q : Nat) : Nat := (L.take q).countP fun x => decide (x = c)
def kE (K : Nat) (L : List Nat) (c i : Int) : Int := if 0 ≤ c ∧ c < K then (if 0 ≤ i ∧ i ≤ L.length then 0 else 3) else 1
def kV (K : Nat) (L : List Nat) (c i : Int) : Int := if 0 ≤ c ∧ c < K then (if 0 ≤ i ∧ i ≤ L.length then (cntC L c.toNat i.toNat : Nat) else 0) else 0
/-- those of the first ones that still go with c -/
def yL (L : List Nat) (q c n j : Nat) : List Nat := hiL (L.take q) c (n - j)
end Go.Proofs.YtglndihdhaaccaaDoor

namespace Go.Proofs.YtglndihdhaaccaaDoor
open Go.RowKit
open Go.ChangeShapes Go.WideShapes Go.ChangeAt
open Go.Proofs.YtglndihdhaaccaaDoor.SA
/-- the samples' cells -/
noncomputable def smpV (L F : List Nat) (l : List Nat) : List Value := l.flatMap fun r => [jV ((r : Nat) : Int), jV ((rowS L F r : Nat) : Int)]
/-- an index over a list -/
def FmAt (w : World) (base b K a : Nat) (L B F : List Nat) : Prop := base ≤ b ∧ IsSA L F ∧ IsBw L B a ∧ L.length ≤ 131072 ∧ K ≤ 512 ∧ ∃ (tb : Nat) (AS : Option Addr) (cs gr : Nat),
  Blk w b 84 #[.pointer (some ⟨tb, 0, none⟩), .int .i64 (a : Nat), .slice AS (smp L F (L.length + 1)).length cs, .slice (some ⟨gr, 0, none⟩) (L.length / 8 + 1) (L.length / 8 + 1)] ∧
  TreeAt w base tb K B ∧ w.ownsRow base 102 2 (.slice AS (smp L F (L.length + 1)).length cs) (smp L F (L.length + 1)).length (smpV L F (smp L F (L.length + 1))) ∧
  Blk w gr 21 (tabJ (L.length / 8 + 1) fun j => ((rank (L.length + 1) (endT L) (8 * j) : Nat) : Int)) ∧ base ≤ gr
theorem FmAt.from_ {w w' : World} {base b K a : Nat} {L B F : List Nat} (h : FmAt w base b K a L B F) (hF : From w w') : FmAt w' base b K a L B F := by
  obtain ⟨hb0, hSA, hbw, hLn, hK, tb, AS, cs, gr, hI, hT, ho, hR, hgr⟩ := h
  exact ⟨hb0, hSA, hbw, hLn, hK, tb, AS, cs, gr, hI.from_ hF, hT.from_ hF, ho.kept_from hF, hR.from_ hF, hgr⟩
end Go.Proofs.YtglndihdhaaccaaDoor

namespace Go.Proofs.YtglndihdhaaccaaDoor
open Go.RowKit
open Go.ChangeShapes Go.WideShapes Go.ChangeAt
theorem WavMake_q90 : litQ Tryd.prog 90 = some (96, 3, 24, (.agg #[.pointer none, .int .i64 0, .int .i64 0])) := by kernel_rfl
theorem WavMake_g96 : aggQ Tryd.prog 96 = some true := by kernel_rfl
theorem WavMake_z96 : sizeQ Tryd.prog 96 = some 3 := by kernel_rfl
theorem WavMake_g90 : aggQ Tryd.prog 90 = some false := by kernel_rfl
theorem WavMake_s3 : (Tryd.prog.underlying 3).isSome = true := by kernel_rfl
theorem WavMake_i54 : Tryd.prog.underlying 54 = some (.int .u64) := by kernel_rfl
theorem WavMake_k35 : callable Tryd.prog 35 = true := by kernel_rfl
theorem WavMake_k36 : callable Tryd.prog 36 = true := by kernel_rfl
theorem WavMake_b92_1_2 : ∀ (a0 : Option Addr) (a1 a2 : Nat) (a3 : Int), Tryd.prog.built 92 [(1, .slice a0 a1 a2), (2, .int .i64 a3)] = some #[.slice none 0 0, .slice a0 a1 a2, .int .i64 a3] := by intros; kernel_rfl
theorem WavMake_k37 : callable Tryd.prog 37 = true := by kernel_rfl
theorem WavMake_k38 : callable Tryd.prog 38 = true := by kernel_rfl
theorem WavMake_o96 : zeroQ Tryd.prog 96 = some (.agg #[.pointer none, .int .i64 0, .int .i64 0]) := by kernel_rfl
theorem WavMake_f92_0 : fieldQ Tryd.prog 92 0 = some 0 := by kernel_rfl
theorem WavMake_z90 : sizeQ Tryd.prog 90 = some 1 := by kernel_rfl
theorem fillL (v z s : Nat) : Instr.fill (fun i => some (i * 3, 3)) ((Array.range (1 * 3)).map ((Value.agg #[.pointer none, .int .i64 0, .int .i64 0]).cells[· % (Value.agg #[.pointer none, .int .i64 0, .int .i64 0]).cells.size]!)) [(0, .agg (lvlV v z s).toArray)] = some (lvlV v z s).toArray := by
  first
    | kernel_rfl
    | rfl
theorem SymR.off {w0 w w' : World} {A B : Option Addr} {L : List Nat} {bs m c : Nat} {xs : List Value} (h : SymR w0 w A L) (ho : w.ownsRow bs 96 3 (.slice B m c) m xs) (hbs : w0.heap.size ≤ bs) (hg : w.grownBy w' (B.map (·.block))) : SymR w0 w' A L := by
  have hne : ∀ q, 0 < L.length → A.map (·.block) = some q → some q ≠ B.map (·.block) := fun q h0 hq e => by
    rcases h.2 q h0 hq with a | ⟨cs, hb⟩
    · have := (own_at ho q e.symm).1; omega
    · exact own_off ho hb (by decide) q e.symm rfl
  refine ⟨fun h0 => ?_, fun q h0 hq => (h.2 q h0 hq).imp id fun ⟨cs, hb⟩ => ⟨cs, hb.grown hg fun k hk e => hne q h0 hq (by rw [hk, e])⟩⟩
  obtain ⟨b, o, hA, hc⟩ := h.1 h0
  exact ⟨b, o, hA, fun i hi => hg.cell (hc i hi) (hne b h0 (by rw [hA]; rfl))⟩
theorem SymR.only {w0 w w' : World} {A : Option Addr} {L : List Nat} {g t : Nat} {cs0 : Array Value} (h : SymR w0 w A L) (o : Only g w w') (hb : Blk w g t cs0) (ht : t ≠ 3) (hg : w0.heap.size ≤ g) : SymR w0 w' A L := by
  have hne : ∀ q, 0 < L.length → A.map (·.block) = some q → q ≠ g := fun q h0 hq e => by
    subst e
    rcases h.2 q h0 hq with a | ⟨cs, hb2⟩
    · omega
    · unfold Blk at hb hb2
      rw [hb] at hb2
      simp only [Option.some.injEq, Obj.cells.injEq] at hb2
      exact ht hb2.2.1
  refine ⟨fun h0 => ?_, fun q h0 hq => (h.2 q h0 hq).imp id fun ⟨cs, hb2⟩ => ⟨cs, hb2.only o (hne q h0 hq)⟩⟩
  obtain ⟨b, o', hA, hc⟩ := h.1 h0
  exact ⟨b, o', hA, fun i hi => (o.cell (hne b h0 (by rw [hA]; rfl))).trans (hc i hi)⟩
theorem split_n (A : Option Addr) (c n : Nat) (L : List Nat) (w : World) (hn : n = L.length) (hr : RowOf nV w A L) (hl : n ≤ 131072) (s : Nat) (hs : s ≤ 9) (h10 : ∀ x ∈ L, x < 1024) : Rt Tryd.prog 38 [.slice A n c, .int .i64 (s : Nat)] w
    fun v w' => (∃ b A' c', v = .tuple #[.agg (lvlV b (zerosL s L).length s).toArray, .slice A' n c', .int .i64 0] ∧ Vec w' w.heap.size b (L.map (bitN s)) ∧ w'.ownsRow w.heap.size 3 1 (.slice A' n c') n ((partL s L).map nV)) ∧ From w w' := by
  subst hn
  exact split_rt A c L w hr hl s hs h10
theorem less_n (k : Nat) (hk : k ≤ 512) (A : Option Addr) (c n : Nat) (L : List Nat) (w : World) (hn : n = L.length) (hr : RowOf nV w A L) (hl : n ≤ 131072) (hlt : ∀ x ∈ L, x < k) : Rt Tryd.prog 36 [.int .i64 (k : Nat), .slice A n c] w
    fun v w' => (∃ g, v = .slice (some ⟨g, 0, none⟩) (k + 1) (k + 1) ∧ w.heap.size ≤ g ∧ Blk w' g 3 (tab (k + 1) (cntLt L))) ∧ From w w' := by
  subst hn
  exact countLess_rt k hk A c L w hr hl hlt
theorem check_n (k : Int) (A : Option Addr) (c n : Nat) (xs : List Int) (w : World) (hn : n = xs.length) (hr : RowOf iV w A xs) (hl : xs.length * 8 ≤ 140737488351232) : Rt Tryd.prog 35 [.int .i64 k, .slice A n c] w fun v w' => v = .int .i64 (chkW k xs) ∧ w = w' := by
  subst hn
  exact check_rt k A c xs w hr hl
set_option maxHeartbeats 1500000 in
theorem new_w (k : Int) (A : Option Addr) (c nn : Nat) (xs : List Int) (w : World) (hr : RowOf iV w A xs) (hnn : nn = xs.length) (hl : xs.length * 8 ≤ 140737488351232) (hA0 : ∀ q, 0 < xs.length → A.map (·.block) = some q → q < w.heap.size) :
    Rt Tryd.prog 31 [.int .i64 k, .slice A nn c] w (fun v w' => ((chkW k xs ≠ 0 ∧ v = .tuple #[.pointer none, .int .i64 (chkW k xs)]) ∨ (∃ (K : Nat) (L : List Nat) (b : Nat), k = (K : Nat) ∧ xs = L.map (fun x : Nat => (x : Int)) ∧ v = .tuple #[.pointer (some ⟨b, 0, none⟩), .int .i64 0] ∧ TreeAt w' w.heap.size b K L)) ∧ From w w') := by
  refine enter (n := 57) Tryd.func31 rfl rfl rfl ?_
  refine cd_seq (cd_region ?_)
  refine asp rfl ?_
  refine asi rfl ?_
  refine st_nil (nx_then (cd_seq (cd_seq (cd_region ?_))))
  refine mvi rfl ?_
  refine mvs rfl ?_
  refine st_call WavMake_k35 (check_n k A c nn xs _ hnn (hr.from_ From.rfl_) hl) ?_
  rintro v15 w1 ⟨rfl, rfl⟩
  refine asi rfl ?_
  refine st_nil (nx_then (cd_seq (cd_region ?_)))
  refine mvi rfl ?_
  refine st_val (ro_neq rfl rfl) ?_
  refine st_nil (nx_then ?_)
  refine cd_cond rfl (fun Q2 => ?_) (fun Q2 => ?_)
  · with_reducible replace Q2 := bx_t Q2
    have hch1 : chkW k xs ≠ 0 := by simpa using Q2
    refine cd_seq (cd_region ?_)
    refine mvi rfl ?_
    refine asp rfl ?_
    refine asi rfl ?_
    refine st_nil (nx_then (cd_ret (rt_then ?_)))
    refine res2 (v := .pointer _) (v' := .int _ _) rfl rfl rfl ?_
    exact ⟨.inl ⟨hch1, rfl⟩, From.rfl_⟩
  with_reducible replace Q2 := bx_f Q2
  have hch0 : chkW k xs = 0 := by simpa using Q2
  obtain ⟨K, L, rfl, hxs, hK1, hK2, hlt, hLl⟩ := xs_nat hch0
  have hrn : RowOf nV w A L := row_nat (hxs ▸ hr)
  have hnL : nn = L.length := by rw [hnn, hxs, List.length_map]
  have hnl : nn ≤ 131072 := by omega
  have hArow : ∀ q, 0 < L.length → A.map (·.block) = some q → q < w.heap.size ∨ ∃ cs, Blk w q 3 cs := fun q h0 hq => .inl (hA0 q (by rw [hxs, List.length_map]; exact h0) hq)
  refine cd_skip (nx_then (cd_seq (cd_region ?_)))
  refine mvi rfl ?_
  refine mvs rfl ?_
  refine st_call WavMake_k36 (less_n K hK2 A c nn L _ hnL (hrn.from_ From.rfl_) hnl hlt) ?_
  rintro v21 w3 ⟨⟨g, rfl, hg0, hgB⟩, E21⟩
  refine mvi rfl ?_
  refine st_val (ro_build (l := [(1, .tmp 21), (2, .tmp 22)]) (WavMake_b92_1_2 _ _ _ _)) ?_
  refine st_box (v := .agg _) rfl ?_
  intro b24 w4 E24 hb24 hk24
  have hl24 := hk24.lt
  have hg24 : w.heap.size ≤ b24 := by rw [hb24]; exact ((From.rfl_.next E21)).size
  have hgb : g ≠ b24 := by have := hgB.lt; omega
  have hArow : ∀ q, 0 < L.length → A.map (·.block) = some q → q < w.heap.size ∨ ∃ cs, Blk w4 q 3 cs := fun q h0 hq => .inl (hA0 q (by rw [hxs, List.length_map]; exact h0) hq)
  refine asp rfl ?_
  refine st_nil (nx_then (cd_seq (cd_region ?_)))
  refine mvs rfl ?_
  refine ass rfl ?_
  refine st_nil (nx_then (cd_seq (cd_seq (cd_region ?_))))
  refine mvi rfl ?_
  refine st_val (ro_subN (a := K) (b := 1) rfl rfl ⟨hK1, by omega⟩) ?_
  refine st_val (ro_conv64 WavMake_s3 WavMake_i54 rfl (by omega)) ?_
  refine st_call WavMake_k37 (len_rt (K - 1) _ (by omega)) ?_
  rintro v29 w5 ⟨rfl, rfl⟩
  refine st_val (ro_sub64 rfl rfl (by show _ ≤ ((nlv K : Nat) : Int) - 1 ∧ ((nlv K : Nat) : Int) - 1 ≤ _; have := nlv_le hK2; omega)) ?_
  refine asi rfl ?_
  refine st_nil (nx_then (cd_block ?_))
  refine cd_loop (G := Nat × Option Addr × Nat × Option Addr × Nat × (Nat → Nat)) [4, 5, 10, 11, 12, 31, 32, 33, 34, 35, 36, 37, 38, 39, 40, 41, 42, 43, 44, 45, 46, 47, 48, 49, 50, 51, 52, 53, 54, 55] (fun (j, A8, c8, _, _, _) => [(8, .slice A8 nn c8), (9, .int .i64 ((nlv K : Nat) - 1 - (j : Nat) : Int))]) (fun (j, A8, c8, AT, cT, vs) w' => j ≤ nlv K ∧ SymR w w' A8 (lvl (nlv K) L j) ∧ Blk w' b24 92 #[.slice AT j cT, .slice (some ⟨g, 0, none⟩) (K + 1) (K + 1), .int .i64 (K : Nat)] ∧ w'.ownsRow w.heap.size 96 3 (.slice AT j cT) j (lvlsV (nlv K) L vs j) ∧ (∀ i, i < j → Vec w' w.heap.size (vs i) ((lvl (nlv K) L i).map (bitN (nlv K - 1 - i)))) ∧ Blk w' g 3 (tab (K + 1) (cntLt L)) ∧ From w w') (fun (j, _, _, _, _, _) => nlv K - j) ((0, A, c, none, 0, fun _ => 0)) ⟨rfl, (int_eq (by show _ = _; simp [nlv])), trivial⟩ ?_ ?_
  · exact ⟨Nat.zero_le _, ⟨hrn.from_ ((From.rfl_.next E21).next E24), hArow⟩, hk24, World.ownsRow_nil _ _ _ _, fun i h => absurd h (by omega), hgB.from_ E24, ((From.rfl_.next E21).next E24)⟩
  rintro ⟨j, A8, c8, AT, cT, vs⟩ ρ6 w6 ⟨hj, hS, hT, ho, hVs, hg2, hB⟩
  refine cd_seq (cd_seq (cd_region ?_))
  refine mvi rfl ?_
  refine st_val (ro_geq rfl rfl) ?_
  refine st_nil (nx_then ?_)
  refine cd_cond rfl (fun Q7 => ?_) (fun Q7 => ?_)
  · with_reducible replace Q7 := of_decide_eq_true Q7
    have hjn : j < nlv K := by omega
    refine cd_skip (nx_then (cd_seq (cd_block (cd_seq (cd_region ?_)))))
    refine mvs rfl ?_
    refine mvi rfl ?_
    refine st_spell (t := 37) (v := .int _ _) (v' := .int .i64 ((nlv K - 1 - j : Nat) : Int)) rfl (by refine int_eq ?_; omega) ?_
    have hB38 : From w w6 := hB
    refine st_call WavMake_k38 (split_n A8 c8 nn (lvl (nlv K) L j) _ (by rw [lvl_len]; exact hnL) (hS.from_ From.rfl_).1 hnl (nlv K - 1 - j) (by have := nlv_le hK2; omega) (fun x hx => by have := hlt x (lvl_mem hx); omega)) ?_
    rintro v38 w8 ⟨⟨v38, A40, c40, rfl, hV38, hn40⟩, E38⟩
    refine mvt rfl ?_
    refine st_val (ro_extract rfl rfl) ?_
    refine st_val (ro_extract rfl rfl) ?_
    refine st_val (ro_extract rfl rfl) ?_
    refine st_alloc WavMake_o96 ?_
    intro b10 w9 E10 hb10 hk10
    have hF10 := E38.next E10
    refine st_putW (vs := [_, _, _]) WavMake_z96 rfl rfl (by simp [Value.oneCell']) (hk10) rfl ?_
    intro w10 O9 P9
    have hF9 : From _ w10 := hF10.only O9 (by rw [hb10]; exact E38.size)
    have hF9n : From _ w10 := E10.only O9 (by rw [hb10]; exact Nat.le_refl _)
    have hTq := hT.from_ hF9
    have hoq := ho.kept_from hF9
    have hVq : ∀ i, i < j → Vec w10 w.heap.size (vs i) ((lvl (nlv K) L i).map (bitN (nlv K - 1 - i))) := fun i hi => (hVs i hi).from_ hF9
    have hg2q := hg2.from_ hF9
    have hVn := (hV38.from_ hF9n).le hB38.size
    replace hn40 := (own_le hn40 hB38.size).kept_from hF9n
    have hBq : From w w10 := hB38.next hF9
    refine ass rfl ?_
    refine asi rfl ?_
    refine st_nil (nx_then (cd_seq (cd_seq (cd_region ?_))))
    refine mvi rfl ?_
    refine st_val (ro_bf (ro_neq rfl rfl) rfl) ?_
    refine st_nil (nx_then ?_)
    refine cd_condF rfl ?_
    refine cd_skip (nx_then (cd_seq ?_))
    apply cd_mu9 10 7 [51] [(45, eqp _), (46, eqp _), (47, eqp _), (48, eqp _), (49, eqp _), (50, eqp (.agg (lvlV v38 (zerosL (nlv K - 1 - j) (lvl (nlv K) L j)).length (nlv K - 1 - j)).toArray)), (51, fun v w' => ∃ q, v = .slice (some ⟨q, 0, none⟩) 1 1 ∧ Blk w' q 96 (lvlV v38 (zerosL (nlv K - 1 - j) (lvl (nlv K) L j)).length (nlv K - 1 - j)).toArray), (52, fun v w' => ∃ A2 c2, v = .slice A2 (j + 1) c2 ∧ w'.ownsRow w.heap.size 96 3 (.slice A2 (j + 1) c2) (j + 1) (lvlsV (nlv K) L vs j ++ (lvlV v38 (zerosL (nlv K - 1 - j) (lvl (nlv K) L j)).length (nlv K - 1 - j)))), (53, eqp _), (54, eqp _)] (fun w' => From w10 w') (fun w' => (w10).grownBy w' (AT.map (·.block))) (by repeat first | exact pq_body | refine pq_then ?_ | refine pq_block ?_) (by kernel_rfl) (by kernel_rfl) (by kernel_rfl) ⟨eqp_mono _, eqp_mono _, eqp_mono _, eqp_mono _, eqp_mono _, eqp_mono _, (fun _ _ _ hF ⟨q, h1, h2⟩ => ⟨q, h1, h2.from_ hF⟩), (fun _ _ _ hF ⟨A2, c2, h1, h2⟩ => ⟨A2, c2, h1, h2.kept_from hF⟩), eqp_mono _, eqp_mono _, trivial⟩ (From.rfl_.d1) (From.rfl_.d1.grown _) (fun _ _ hF h => h.next hF) (fun _ _ hF h => grown_trans h (hF.grown _))
    case hop =>
     refine ⟨?_, ?_⟩
     · rintro - w12 hG12
       show OpOK _ _ _ _ _ _ _
       exact ok_pure (ro_move (v := .pointer _) rfl) rfl
     refine ⟨?_, ?_⟩
     · rintro - w13 hG13
       show OpOK _ _ _ _ _ _ _
       exact ok_pure (ro_move (v := .pointer _) rfl) rfl
     refine ⟨?_, ?_⟩
     · rintro - w14 hG14
       rintro _ rfl
       show OpOK _ _ _ _ _ _ _
       exact ok_pure (ro_nilCheck rfl) rfl
     refine ⟨?_, ?_⟩
     · rintro - w15 D15
       rintro _ rfl
       show OpOK _ _ _ _ _ _ _
       exact ok_pure (ro_fieldAddr WavMake_f92_0 rfl) rfl
     refine ⟨?_, ?_⟩
     · rintro - w16 D16
       rintro _ rfl
       show OpOK _ _ _ _ _ _ _
       exact ok_pure (ro_load WavMake_g90 rfl ((hTq.from_ D16).rd 0 rfl)) rfl
     refine ⟨?_, ?_⟩
     · rintro - w17 D17
       show OpOK _ _ _ _ _ _ _
       exact ok_pure (ro_loadA (cs := (lvlV v38 (zerosL (nlv K - 1 - j) (lvl (nlv K) L j)).length (nlv K - 1 - j))) WavMake_g96 WavMake_z96 rfl ((P9.from_ D17).whole)) rfl
     refine ⟨?_, ?_⟩
     · rintro - w18 D18
       rintro v18_50 rfl
       show OpOK _ _ _ _ _ _ _
       exact ok_val (ro_lit (l := [(0, .tmp 50)]) (cells := (lvlV v38 (zerosL (nlv K - 1 - j) (lvl (nlv K) L j)).length (nlv K - 1 - j)).toArray) WavMake_q90 rfl rfl (fillL _ _ _)) (From.rfl_.new _) ⟨_, rfl, Blk.new _ _ _⟩
     refine ⟨?_, ?_⟩
     · intro h; cases h
     refine ⟨?_, ?_⟩
     · rintro - w20 hG20
       rintro _ rfl
       show OpOK _ _ _ _ _ _ _
       exact ok_pure (ro_nilCheck rfl) rfl
     refine ⟨?_, ?_⟩
     · rintro - w21 hG21
       rintro _ rfl
       show OpOK _ _ _ _ _ _ _
       exact ok_pure (ro_fieldAddr WavMake_f92_0 rfl) rfl
     exact trivial
    case hmu =>
     rintro w22 D22
     rintro _ rfl v22_51 ⟨q22, rfl, hq22⟩
     show MuOK _ _ _ _ _ _ _
     have hoD := hoq.kept_from D22
     have hbz : w.heap.size ≤ (w10).heap.size := hBq.size
     refine mu_append WavMake_q90 rfl (by decide) rfl hoD (Nat.le_trans hbz D22.size) rfl rfl ⟨_, _, rfl, hq22.whole⟩ (by simp [lvlV, Value.oneCell']) (by have := nlv_le hK2; omega) (by have := nlv_le hK2; omega) ?_
     intro A3 c3 w3 ho3 hg3
     exact ⟨grown_trans (D22.grown _) hg3, ⟨A3, c3, rfl, ho3⟩, fun t u ht h => muR_look (by repeat first | exact trivial | refine ⟨.inl rfl, ?_⟩ | refine ⟨.inr (fun _ h => h), ?_⟩) t u ht h⟩
    case hend =>
     rintro w23 hG23
     rintro _ rfl _ rfl _ rfl _ rfl _ rfl v50 rfl v51 _ v52 ⟨A52, c52, rfl, ho52⟩ _ rfl _ rfl
     show St _ _ _ _ _ _ _
     have hgq := hG23
     have hTb2 := hTq.grown hgq (own_off hoq hTq (by decide))
     have hBg : From w _ := hBq.grew hgq (fun k hk => (own_at hoq k hk).1)
     refine st_put (v := .slice _ _ _) WavMake_z90 rfl rfl rfl (hTb2) (by show 0 < 3; decide) ?_
     intro w24 O12 P12
     refine st_nil (nx_then (cd_region ?_))
     refine mvs rfl ?_
     refine ass rfl ?_
     refine st_nil (nx_block (nx_then (cd_region ?_)))
     refine mvi rfl ?_
     refine st_val (ro_sub64 rfl rfl (by have := nlv_le hK2; omega)) ?_
     refine asi rfl ?_
     refine st_nil ?_
     refine nx_cut ((j + 1, A40, c40, A52, c52, fun i => if i = j then v38 else vs i)) ⟨rfl, (by first | rfl | (refine int_eq ?_; omega)), trivial⟩ (by (iterate 62 refine agr_cons rfl ?_); exact agr_rfl) ⟨?_, ?_⟩
     · have hTb := hTq
       refine ⟨by omega, ?_, P12, ?_, fun i hi => ?_, ?_, (hBg.only O12 hg24)⟩
       · exact ((symR_own (w0 := w) hn40).off hoq (Nat.le_refl _) hgq).only O12 hTb2 (by decide) hg24
       · rw [lvls_succ]; exact own_only3 ho52 O12 (own_off ho52 hTb2 (by decide))
       · by_cases hij : i = j
         · subst hij; simp only [if_true]; exact (hVn.off hoq hgq).only O12 hTb2 (by decide) (by decide) (by decide)
         · simp only [if_neg hij]; exact ((hVq i (by omega)).off hoq hgq).only O12 hTb2 (by decide) (by decide) (by decide)
       · exact (hg2q.grown hgq (own_off hoq hg2q (by decide))).only O12 hgb
     · show nlv K - (j + 1) < nlv K - j; omega
  with_reducible replace Q7 := of_decide_eq_false Q7
  refine cd_exit ?_
  refine ex_then (ex_then (ex_block (nx_then (cd_seq (cd_region ?_)))))
  refine mvp rfl ?_
  refine asp rfl ?_
  refine asi rfl ?_
  refine st_nil (nx_then (cd_ret ?_))
  refine res2 (v := .pointer _) (v' := .int _ _) rfl rfl rfl ?_
  obtain rfl : j = nlv K := by omega
  exact ⟨.inr ⟨K, L, b24, rfl, hxs, rfl, hg24, AT, cT, g, vs, hT, ho, hVs, hg0, hg2, hK1, hK2, hlt, by omega⟩, hB⟩
end Go.Proofs.YtglndihdhaaccaaDoor

namespace Go.Proofs.YtglndihdhaaccaaDoor
open Go.RowKit
open Go.ChangeShapes Go.WideShapes Go.ChangeAt
open Go.Proofs.YtglndihdhaaccaaDoor.SA
theorem FmBuild_q82 : litQ Tryd.prog 82 = some (102, 2, 8, (.agg #[.int .i32 0, .int .i32 0])) := by kernel_rfl
theorem FmBuild_f84_2 : fieldQ Tryd.prog 84 2 = some 2 := by kernel_rfl
theorem FmBuild_g82 : aggQ Tryd.prog 82 = some false := by kernel_rfl
theorem FmBuild_b102_0_1 : ∀ (a0 : Int) (a1 : Int), Tryd.prog.built 102 [(0, .int .i32 a0), (1, .int .i32 a1)] = some #[.int .i32 a0, .int .i32 a1] := by intros; kernel_rfl
theorem FmBuild_z82 : sizeQ Tryd.prog 82 = some 1 := by kernel_rfl
theorem FmBuild_f84_3 : fieldQ Tryd.prog 84 3 = some 3 := by kernel_rfl
theorem FmBuild_g81 : aggQ Tryd.prog 81 = some false := by kernel_rfl
theorem FmBuild_e81 : elemQ Tryd.prog 81 = some (21, 1) := by kernel_rfl
theorem FmBuild_z21 : sizeQ Tryd.prog 21 = some 1 := by kernel_rfl
noncomputable def rwJ (L : List Nat) (k j : Nat) : Nat := if rank (L.length + 1) (endT L) (8 * j) < k then rank (L.length + 1) (endT L) (8 * j) else 0
theorem rwJ_zero (L : List Nat) (j : Nat) : rwJ L 0 j = 0 := by unfold rwJ; rw [if_neg (by omega)]
theorem rwJ_all {L : List Nat} {j : Nat} (h : j < L.length / 8 + 1) : rwJ L (L.length + 1) j = rank (L.length + 1) (endT L) (8 * j) := by
  unfold rwJ
  rw [if_pos (rank_lt (by omega))]
theorem rwJ_eq {L F : List Nat} (hS : IsSA L F) {k j : Nat} (hk : k ≤ L.length) (hj : 8 * j ≤ L.length) : rank (L.length + 1) (endT L) (8 * j) = k ↔ 8 * j = rowS L F k := by
  constructor
  · intro e
    rw [← e, rowS_rank hS hj]
  · intro e
    rw [e]
    exact (rank_rowS hS hk).2
theorem rwJ_no {L F : List Nat} (hS : IsSA L F) {k j : Nat} (hk : k ≤ L.length) (hj : j < L.length / 8 + 1) (h : rowS L F k % 8 ≠ 0) : rwJ L (k + 1) j = rwJ L k j := by
  have := rwJ_eq hS hk (show 8 * j ≤ L.length by omega)
  unfold rwJ
  have hne : rank (L.length + 1) (endT L) (8 * j) ≠ k := fun e => by have := this.1 e; omega
  by_cases x : rank (L.length + 1) (endT L) (8 * j) < k
  · rw [if_pos x, if_pos (by omega)]
  · rw [if_neg x, if_neg (by omega)]
theorem rwJ_yes {L F : List Nat} (hS : IsSA L F) {k : Nat} (hk : k ≤ L.length) (h : rowS L F k % 8 = 0) (j : Nat) (hj : j < L.length / 8 + 1) : upd (fun j => ((rwJ L k j : Nat) : Int)) (rowS L F k / 8) ((k : Nat) : Int) j = ((rwJ L (k + 1) j : Nat) : Int) := by
  have := rwJ_eq hS hk (show 8 * j ≤ L.length by omega)
  unfold upd
  split
  · rename_i e
    have e2 := this.2 (by omega)
    unfold rwJ
    rw [e2, if_pos (by omega)]
  · rename_i e
    have hne : rank (L.length + 1) (endT L) (8 * j) ≠ k := fun e2 => by have := this.1 e2; omega
    show ((rwJ L k j : Nat) : Int) = _
    unfold rwJ
    by_cases x : rank (L.length + 1) (endT L) (8 * j) < k
    · rw [if_pos x, if_pos (by omega)]
    · rw [if_neg x, if_neg (by omega)]
section
variable {P : Program} {ops : Array Oper} {Q : Exit → Act → World → Prop} {rest : List Oper} {n : Fr} {L : List (Nat × Value)} {w : World} {ty : TypeId} {pos : String} {after : Array Edge} {d : Nat} {t : TypeId} {x : Operand}
/-- one element of two cells -/
theorem st_lit2 {e by_ : Nat} {z v z0 z1 u0 u1 : Value} (hq : litQ P t = some (e, 2, by_, z)) (hz : z.cells = #[z0, z1]) (hx : ev n L x = v) (hv : v.cells = #[u0, u1])
    (k : ∀ g w', From w w' → g = w.heap.size → Blk w' g e #[u0, u1] → St P ops Q rest n ((d, .slice (some ⟨g, 0, none⟩) 1 1) :: L) w') : St P ops Q (⟨some d, .buildSlice t 1 #[(0, x)], ty, pos, after, none⟩ :: rest) n L w := by
  refine st_lit (l := [(0, x)]) (cells := #[u0, u1]) hq rfl rfl ?_ k
  have e1 : (Array.range (1 * 2)).map (z.cells[· % z.cells.size]!) = #[z0, z1] := by
    rw [hz, show Array.range (1 * 2) = #[0, 1] from rfl]
    simp
  rw [e1]
  simp [Instr.fill, hx, hv]
end
/-- an index, as far as its rows are stored -/
def StAt (w W0 : World) (b tb k a : Nat) (L F : List Nat) : Prop := From W0 w ∧ W0.heap.size ≤ b ∧ ∃ (AS : Option Addr) (cs gr : Nat), W0.heap.size ≤ gr ∧
  Blk w b 84 #[.pointer (some ⟨tb, 0, none⟩), .int .i64 (a : Nat), .slice AS (smp L F k).length cs, .slice (some ⟨gr, 0, none⟩) (L.length / 8 + 1) (L.length / 8 + 1)] ∧
  w.ownsRow W0.heap.size 102 2 (.slice AS (smp L F k).length cs) (smp L F k).length (smpV L F (smp L F k)) ∧
  Blk w gr 21 (tabJ (L.length / 8 + 1) fun j => ((rwJ L k j : Nat) : Int))
theorem smpV_push {L F l : List Nat} {k : Nat} : smpV L F (l ++ [k]) = smpV L F l ++ [jV ((k : Nat) : Int), jV ((rowS L F k : Nat) : Int)] := by simp [smpV]
set_option maxHeartbeats 2000000 in
theorem store_rt (W0 : World) (b tb a k : Nat) (L F : List Nat) (w : World) (hS : IsSA L F) (hk : k ≤ L.length) (hn : L.length ≤ 131072) (h : StAt w W0 b tb k a L F) :
    Rt Tryd.prog 33 [.pointer (some ⟨b, 0, none⟩), .int .i64 (k : Nat), .int .i64 ((rowS L F k : Nat) : Int)] w (fun _ w' => StAt w' W0 b tb (k + 1) a L F) := by
  obtain ⟨hFz, hb0, AS, cs, gr, hg0, hI, ho, hJ⟩ := h
  have hrk := (rank_rowS hS hk).1
  have hsl := smp_le (L := L) (F := F) (k := k)
  refine enter (n := 32) Tryd.func33 rfl rfl rfl ?_
  refine cd_seq (cd_seq (cd_region ?_))
  refine mvi rfl ?_
  refine st_val (ro_remN (b := 8) rfl rfl (by omega)) ?_
  refine st_val (ro_neq rfl rfl) ?_
  refine st_nil (nx_then ?_)
  refine cd_cond rfl (fun Q1 => ?_) (fun Q1 => ?_)
  · with_reducible replace Q1 := bx_t Q1
    refine cd_ret (rt_then ?_)
    refine res0 rfl ?_
    have hno : rowS L F k % 8 ≠ 0 := by omega
    refine ⟨hFz, hb0, AS, cs, gr, hg0, ?_, ?_, ?_⟩
    · rw [smp_no hno]; exact hI
    · rw [smp_no hno]; exact ho
    · rw [tabJ_congr (fun j hj => by rw [rwJ_no hS hk hj hno])]; exact hJ
  with_reducible replace Q1 := bx_f Q1
  refine cd_skip (nx_then (cd_seq (cd_region ?_)))
  refine mvp rfl ?_
  refine mvp rfl ?_
  refine st_val (ro_nilCheck rfl) ?_
  refine st_val (ro_fieldAddr FmBuild_f84_2 rfl) ?_
  refine st_val (ro_load FmBuild_g82 rfl (by exact (hI.from_ From.rfl_).rd 2 rfl)) ?_
  refine mvi rfl ?_
  refine st_val (ro_conv32 (by kernel_rfl) (by kernel_rfl) rfl (by omega)) ?_
  refine mvi rfl ?_
  refine st_val (ro_conv32 (by kernel_rfl) (by kernel_rfl) rfl (by omega)) ?_
  refine st_val (ro_build (l := [(0, .tmp 15), (1, .tmp 17)]) (FmBuild_b102_0_1 _ _)) ?_
  refine st_lit2 FmBuild_q82 rfl rfl rfl ?_
  intro b19 w2 E19 hb19 hk19
  refine st_appendB FmBuild_q82 rfl (by decide) rfl (A := AS) (xs := smpV L F (smp L F k)) (news := [jV ((k : Nat) : Int), jV ((rowS L F k : Nat) : Int)]) (ho.kept_from E19) ((hFz.next E19).size) rfl rfl (fun _ => ⟨b19, 0, rfl, hk19.whole⟩) (fun h => by cases h) (by simp [Value.oneCell']) (by omega) (by omega) ?_
  intro A20 c20 w3 ho20 hg20
  have HF20 := (hFz.next E19).grew hg20 (fun k hk => (own_at ho k hk).1)
  have hI20 := (hI.from_ E19).grown hg20 (own_ne (ho.kept_from E19) (hI.from_ E19) (by decide))
  have hJ20 := (hJ.from_ E19).grown hg20 (own_ne (ho.kept_from E19) (hJ.from_ E19) (by decide))
  refine st_val (ro_nilCheck rfl) ?_
  refine st_val (ro_fieldAddr FmBuild_f84_2 rfl) ?_
  refine st_put (v := .slice _ _ _) FmBuild_z82 rfl rfl rfl (hI20) (by simp) ?_
  intro w4 O1 P1
  have hgb : gr ≠ b := fun e => by subst e; exact absurd (hJ20.symm.trans hI20) (by simp)
  have ho1 := own_only3 ho20 O1 (own_off ho20 hI20 (by decide))
  have hJ1 := hJ20.only O1 hgb
  have hI1 := P1
  have HF1 := HF20.only O1 hb0
  refine st_nil (nx_then (cd_region ?_))
  refine mvp rfl ?_
  refine st_val (ro_nilCheck rfl) ?_
  refine st_val (ro_fieldAddr FmBuild_f84_3 rfl) ?_
  refine st_val (ro_load FmBuild_g81 rfl (by exact hI1.rd 3 rfl)) ?_
  refine mvi rfl ?_
  refine st_val (ro_quoN (b := 8) rfl rfl (by omega)) ?_
  refine mvi rfl ?_
  refine st_val (ro_conv32 (by kernel_rfl) (by kernel_rfl) rfl (by omega)) ?_
  refine st_val (ro_indexAddr0 FmBuild_e81 rfl rfl (by omega)) ?_
  refine st_put (v := .int _ _) FmBuild_z21 rfl rfl rfl (hJ1) (by rw [tabJ_size]; omega) ?_
  intro w5 O2 P2
  refine st_nil ?_
  refine end_ret ?_
  refine res0 rfl ?_
  have hy : rowS L F k % 8 = 0 := by omega
  refine ⟨HF1.only O2 hg0, hb0, A20, c20, gr, hg0, ?_, ?_, ?_⟩
  · rw [smp_yes hy, List.length_append]; exact hI1.only O2 (Ne.symm hgb)
  · rw [smp_yes hy, List.length_append, smpV_push]; exact own_only3 ho1 O2 (own_off ho1 hJ1 (by decide))
  · rw [← tabJ_congr (fun j hj => rwJ_yes hS hk hy j hj), ← tabJ_set]; exact P2
end Go.Proofs.YtglndihdhaaccaaDoor

namespace Go.Proofs.YtglndihdhaaccaaDoor
open Go.RowKit
open Go.ChangeShapes Go.WideShapes Go.ChangeAt
open Go.Proofs.YtglndihdhaaccaaDoor.SA
end Go.Proofs.YtglndihdhaaccaaDoor

namespace Go.Proofs.YtglndihdhaaccaaDoor
open Go.RowKit
open Go.ChangeShapes Go.WideShapes Go.ChangeAt
open Go.Proofs.YtglndihdhaaccaaDoor.SA
theorem FmMake_e60 : elemQ Tryd.prog 60 = some (3, 1) := by kernel_rfl
theorem FmMake_k30 : callable Tryd.prog 30 = true := by kernel_rfl
theorem FmMake_k31 : callable Tryd.prog 31 = true := by kernel_rfl
theorem FmMake_k32 : callable Tryd.prog 32 = true := by kernel_rfl
theorem FmMake_l60 : (elemQ Tryd.prog 60).isSome = true := by kernel_rfl
theorem FmMake_m81 : makeQ Tryd.prog 81 = some (21, 4, (.int .i32 0)) := by kernel_rfl
theorem FmMake_b84_0_1_3 : ∀ (a0 : Option Addr) (a1 : Int) (a2 : Option Addr) (a3 a4 : Nat), Tryd.prog.built 84 [(0, .pointer a0), (1, .int .i64 a1), (3, .slice a2 a3 a4)] = some #[.pointer a0, .int .i64 a1, .slice none 0 0, .slice a2 a3 a4] := by intros; kernel_rfl
theorem FmMake_k33 : callable Tryd.prog 33 = true := by kernel_rfl
theorem FmMake_g3 : aggQ Tryd.prog 3 = some false := by kernel_rfl
theorem TreeAt.le {w : World} {base base2 b k : Nat} {B : List Nat} (h : TreeAt w base b k B) (hl : base2 ≤ base) : TreeAt w base2 b k B := by
  obtain ⟨hb0, AT, cT, g, vs, hT, ho, hVs, hg0, hg2, hrest⟩ := h
  exact ⟨Nat.le_trans hl hb0, AT, cT, g, vs, hT, own_le ho hl, fun j hj => (hVs j hj).le hl, Nat.le_trans hl hg0, hg2, hrest⟩
theorem bw_mem {L B : List Nat} {a : Nat} (h : IsBw L B a) (x : Nat) : x ∈ B ↔ x ∈ L := by
  have hl := h.len
  have ha := h.le
  constructor
  · intro hx
    obtain ⟨q, hq, rfl⟩ := List.getElem_of_mem hx
    obtain ⟨i, hi, e⟩ := rank_sur (L := L) (r := if q < a then q else q + 1) (by split <;> omega)
    have hne : rank (L.length + 1) (endT L) i ≠ a := by rw [e]; split <;> omega
    have hi0 : 0 < i := by
      rcases Nat.eq_zero_or_pos i with y | y
      · subst y; exact absurd h.at0.symm hne
      · exact y
    have hs : sy a (rank (L.length + 1) (endT L) i) = q := by rw [e]; unfold sy; split <;> split <;> omega
    have e1 := h.sym i hi0 hi
    rw [hs, List.getD_eq_getElem?_getD, List.getElem?_eq_getElem hq, List.getD_eq_getElem?_getD, List.getElem?_eq_getElem (by omega)] at e1
    simp only [Option.getD_some] at e1
    rw [e1]
    exact List.getElem_mem _
  · intro hx
    obtain ⟨i, hi, rfl⟩ := List.getElem_of_mem hx
    have e1 := h.sym (i + 1) (by omega) (by omega)
    have hne : rank (L.length + 1) (endT L) (i + 1) ≠ a := by rw [h.at0]; exact rank_ne (by omega) (by omega) (by omega)
    have hs := sy_lt ha (rank_le (show i + 1 ≤ L.length by omega)) hne
    rw [List.getD_eq_getElem?_getD, List.getElem?_eq_getElem (by omega), List.getD_eq_getElem?_getD, show i + 1 - 1 = i by omega, List.getElem?_eq_getElem hi] at e1
    simp only [Option.getD_some] at e1
    rw [← e1]
    exact List.getElem_mem _
theorem chk_bw {L B : List Nat} {a : Nat} (h : IsBw L B a) (k : Int) : chkW k (cI B) = chkW k (cI L) := by
  have e : (cI B).any (badSym k) = (cI L).any (badSym k) := by
    rw [Bool.eq_iff_iff, List.any_eq_true, List.any_eq_true]
    constructor
    · rintro ⟨x, hx, hb⟩
      obtain ⟨y, hy, rfl⟩ := List.mem_map.1 hx
      exact ⟨_, List.mem_map.2 ⟨y, (bw_mem h y).1 hy, rfl⟩, hb⟩
    · rintro ⟨x, hx, hb⟩
      obtain ⟨y, hy, rfl⟩ := List.mem_map.1 hx
      exact ⟨_, List.mem_map.2 ⟨y, (bw_mem h y).2 hy, rfl⟩, hb⟩
  unfold chkW
  rw [e, List.length_map, List.length_map, h.len]
theorem rowB {α : Type} {f : α → Value} {w : World} {A : Option Addr} {l : List α} (h : RowOf f w A l) : ∀ q, 0 < l.length → A.map (·.block) = some q → q < w.heap.size := fun q h0 hq => by
  obtain ⟨b, o, rfl, hc⟩ := h h0
  cases hq
  exact lt_of_cell (hc 0 h0)
theorem new_bad (k : Int) (A : Option Addr) (c n : Nat) (xs : List Int) (w : World) (hr : RowOf iV w A xs) (hn : n = xs.length) (hl : n ≤ 131072) (hbad : xs.all (okS 512) = false) : Rt Tryd.prog 31 [.int .i64 k, .slice A n c] w fun v w' => (chkW k xs ≠ 0 ∧ v = .tuple #[.pointer none, .int .i64 (chkW k xs)]) ∧ From w w' := by
  refine (new_w k A c n xs w hr hn (by omega) (rowB hr)).mono fun v w' h => ?_
  obtain ⟨h, hF⟩ := h
  refine ⟨?_, hF⟩
  rcases h with h | ⟨K, L, b, rfl, rfl, rfl, ht⟩
  · exact h
  · exfalso
    obtain ⟨hb0, AT, cT, g, vs, hT, ho, hVs, hg0, hg2, hK1, hK2, hlt, hLl⟩ := ht
    rw [all_nat (fun x hx => Nat.lt_of_lt_of_le (hlt x hx) hK2)] at hbad
    cases hbad
theorem new_good (k : Int) (A : Option Addr) (c n a : Nat) (L B : List Nat) (w : World) (hr : RowOf iV w A (cI B)) (hn : n = B.length) (hl : n ≤ 131072) (hb : IsBw L B a) : Rt Tryd.prog 31 [.int .i64 k, .slice A n c] w fun v w' => ((chkW k (cI L) ≠ 0 ∧ v = .tuple #[.pointer none, .int .i64 (chkW k (cI L))]) ∨ (chkW k (cI L) = 0 ∧ ∃ K tb : Nat, k = (K : Nat) ∧ K ≤ 512 ∧ v = .tuple #[.pointer (some ⟨tb, 0, none⟩), .int .i64 0] ∧ TreeAt w' w.heap.size tb K B)) ∧ From w w' := by
  refine (new_w k A c n (cI B) w hr (by rw [List.length_map]; exact hn) (by rw [List.length_map]; omega) (rowB hr)).mono fun v w' h => ?_
  obtain ⟨h, hF⟩ := h
  refine ⟨?_, hF⟩
  rw [chk_bw hb] at h
  rcases h with h | ⟨K, L2, tb, rfl, e, rfl, ht⟩
  · exact .inl h
  · obtain rfl := cI_inj e
    have ht2 := ht
    obtain ⟨hb0, AT, cT, g, vs, hT, ho, hVs, hg0, hg2, hK1, hK2, hlt, hLl⟩ := ht2
    refine .inr ⟨?_, K, tb, rfl, hK2, rfl, ht⟩
    rw [← chk_bw hb]
    unfold chkW
    rw [if_neg (by omega), if_neg, if_neg (by rw [List.length_map]; omega)]
    rw [List.any_eq_true]
    rintro ⟨x, hx, hbs⟩
    obtain ⟨y, hy, rfl⟩ := List.mem_map.1 hx
    have := hlt y hy
    unfold badSym at hbs
    have := of_decide_eq_true hbs
    omega
theorem sort_nat (A : Option Addr) (c n : Nat) (L : List Nat) (w : World) (hr : RowOf iV w A (cI L)) (hn : n = L.length) (hl : n ≤ 131072) (hlt : ∀ x ∈ L, x < 512) : Rt Tryd.prog 32 [.slice A n c] w fun v w' => (∃ F A', IsSA L F ∧ v = .tuple #[.slice A' n n, .int .i64 0] ∧ RowOf iV w' A' (cI F)) ∧ From w w' := by
  refine (sort_rt A c n (cI L) w hr (hn.trans (by rw [List.length_map])) hl).mono fun v w' h => ?_
  obtain ⟨h, hF⟩ := h
  refine ⟨?_, hF⟩
  rcases h with ⟨a, _⟩ | ⟨L2, F2, A', a1, _, a3, rfl, ho⟩
  · rw [cI, all_nat hlt] at a; cases a
  · obtain rfl := cI_inj a1
    exact ⟨F2, A', a3, rfl, (sortA_own ho).2⟩
/-- what Build tells -/
def BuildA (w' : World) (base : Nat) (k : Int) (xs : List Int) (v : Value) : Prop :=
  (chkW k xs ≠ 0 ∧ v = .tuple #[.pointer none, .int .i64 (chkW k xs)]) ∨
  (chkW k xs = 0 ∧ ∃ (K b a : Nat) (L B F : List Nat), k = (K : Nat) ∧ xs = cI L ∧ (∀ x ∈ L, x < 512) ∧ FmAt w' base b K a L B F ∧ v = .tuple #[.pointer (some ⟨b, 0, none⟩), .int .i64 0])
theorem store0 (W0 : World) (b tb a n : Nat) (L F : List Nat) (w : World) (hn : n = L.length) (hS : IsSA L F) (hl : L.length ≤ 131072) (h : StAt w W0 b tb 0 a L F) : Rt Tryd.prog 33 [.pointer (some ⟨b, 0, none⟩), .int .i64 0, .int .i64 (n : Nat)] w fun _ w' => StAt w' W0 b tb 1 a L F := by
  subst hn
  exact store_rt W0 b tb a 0 L F w hS (Nat.zero_le _) hl h
theorem store1 (W0 : World) (b tb a k : Nat) (L F : List Nat) (w : World) (hk : k < L.length) (hS : IsSA L F) (hl : L.length ≤ 131072) (h : StAt w W0 b tb (k + 1) a L F) : Rt Tryd.prog 33 [.pointer (some ⟨b, 0, none⟩), .int .i64 ((k + 1 : Nat) : Int), .int .i64 ((F.getD k 0 : Nat) : Int)] w fun _ w' => StAt w' W0 b tb (k + 1 + 1) a L F := by
  have := store_rt W0 b tb a (k + 1) L F w hS hk hl h
  rw [rowS_succ] at this
  exact this
set_option maxHeartbeats 3000000 in
theorem build_rt (k : Int) (A : Option Addr) (c n : Nat) (xs : List Int) (w : World) (hr : RowOf iV w A xs) (hn : n = xs.length) (hl : n ≤ 131072) :
    Rt Tryd.prog 26 [.int .i64 k, .slice A n c] w (fun v w' => BuildA w' w.heap.size k xs v ∧ From w w') := by
  refine enter (n := 73) Tryd.func26 rfl rfl rfl ?_
  refine cd_seq (cd_region ?_)
  refine asp rfl ?_
  refine asi rfl ?_
  refine st_nil (nx_then (cd_seq (cd_region ?_)))
  refine mvs rfl ?_
  refine st_call FmMake_k30 (make_rt A c n xs _ (hr.from_ From.rfl_) hn hl) ?_
  rintro v16 w1 ⟨hs16, E16⟩
  rcases hs16 with ⟨hbad, rfl⟩ | ⟨Ln, Bs, a, A', c', hLn, hlt, hbw, rfl, ho16⟩
  · refine mvt rfl ?_
    refine st_val (ro_extract rfl rfl) ?_
    refine st_val (ro_extract rfl rfl) ?_
    refine st_val (ro_extract rfl rfl) ?_
    refine ass rfl ?_
    refine asi rfl ?_
    refine asi rfl ?_
    refine st_nil (nx_then (cd_seq (cd_seq (cd_region ?_))))
    refine mvi rfl ?_
    refine st_val (ro_neq rfl rfl) ?_
    refine st_nil (nx_then ?_)
    refine cd_cond rfl (fun Q2 => ?_) (fun Q2 => ?_)
    rotate_left
    · with_reducible replace Q2 := bx_f Q2
      exfalso; omega
    with_reducible replace Q2 := bx_t Q2
    refine cd_seq (cd_region ?_)
    refine mvi rfl ?_
    refine mvs rfl ?_
    refine st_call FmMake_k31 (new_bad k A c n xs _ (hr.from_ (From.rfl_.next E16)) hn hl hbad) ?_
    rintro v25 w22 ⟨⟨hck, rfl⟩, E25⟩
    refine mvt rfl ?_
    refine st_val (ro_extract rfl rfl) ?_
    refine st_val (ro_extract rfl rfl) ?_
    refine asi rfl ?_
    refine st_nil (nx_then (cd_seq (cd_region ?_)))
    refine mvi rfl ?_
    refine asp rfl ?_
    refine asi rfl ?_
    refine st_nil (nx_then (cd_ret (rt_then ?_)))
    refine res2 (v := .pointer _) (v' := .int _ _) rfl rfl rfl ?_
    exact ⟨.inl ⟨hck, rfl⟩, ((From.rfl_.next E16).next E25)⟩
  have hLl : Ln.length = n := by rw [hn, hLn, List.length_map]
  have hBl := hbw.len
  refine mvt rfl ?_
  refine st_val (ro_extract rfl rfl) ?_
  refine st_val (ro_extract rfl rfl) ?_
  refine st_val (ro_extract rfl rfl) ?_
  refine ass rfl ?_
  refine asi rfl ?_
  refine asi rfl ?_
  refine st_nil (nx_then (cd_seq (cd_seq (cd_region ?_))))
  refine mvi rfl ?_
  refine st_val (ro_neq rfl rfl) ?_
  refine st_nil (nx_then ?_)
  refine cd_cond rfl (fun Q23 => ?_) (fun Q23 => ?_)
  · with_reducible replace Q23 := bx_t Q23
    exfalso; omega
  with_reducible replace Q23 := bx_f Q23
  refine cd_skip (nx_then (cd_seq (cd_region ?_)))
  refine mvi rfl ?_
  refine mvs rfl ?_
  refine st_call FmMake_k31 (new_good k A' c' Bs.length a Ln Bs _ (RowOf.own ho16).2 rfl (by omega) hbw) ?_
  rintro v32 w25 ⟨hs32, E32⟩
  rcases hs32 with ⟨hck, rfl⟩ | ⟨hck, K, tb, rfl, hK, rfl, hT⟩
  · refine mvt rfl ?_
    refine st_val (ro_extract rfl rfl) ?_
    refine st_val (ro_extract rfl rfl) ?_
    refine asp rfl ?_
    refine asi rfl ?_
    refine st_nil (nx_then (cd_seq (cd_seq (cd_region ?_))))
    refine mvi rfl ?_
    refine st_val (ro_neq rfl rfl) ?_
    refine st_nil (nx_then ?_)
    refine cd_cond rfl (fun Q26 => ?_) (fun Q26 => ?_)
    rotate_left
    · with_reducible replace Q26 := bx_f Q26
      exfalso; omega
    with_reducible replace Q26 := bx_t Q26
    refine cd_seq (cd_region ?_)
    refine mvi rfl ?_
    refine asp rfl ?_
    refine asi rfl ?_
    refine st_nil (nx_then (cd_ret (rt_then ?_)))
    refine res2 (v := .pointer _) (v' := .int _ _) rfl rfl rfl ?_
    exact ⟨.inl ⟨by rw [hLn]; exact hck, by rw [hLn]⟩, ((From.rfl_.next E16).next E32)⟩
  refine mvt rfl ?_
  refine st_val (ro_extract rfl rfl) ?_
  refine st_val (ro_extract rfl rfl) ?_
  refine asp rfl ?_
  refine asi rfl ?_
  refine st_nil (nx_then (cd_seq (cd_seq (cd_region ?_))))
  refine mvi rfl ?_
  refine st_val (ro_neq rfl rfl) ?_
  refine st_nil (nx_then ?_)
  refine cd_cond rfl (fun Q35 => ?_) (fun Q35 => ?_)
  · with_reducible replace Q35 := bx_t Q35
    exfalso; omega
  with_reducible replace Q35 := bx_f Q35
  refine cd_skip (nx_then (cd_seq (cd_region ?_)))
  refine mvs rfl ?_
  refine st_call FmMake_k32 (sort_nat A c n Ln _ (by rw [← hLn]; exact hr.from_ ((From.rfl_.next E16).next E32)) (by omega) hl hlt) ?_
  rintro v40 w36 ⟨⟨F, A40, hSA, rfl, hrF⟩, E40⟩
  have hBz : From w w36 := (((From.rfl_.next E16).next E32).next E40)
  have hT40 := hT.from_ E40
  have hFl := hSA.len
  refine mvt rfl ?_
  refine st_val (ro_extract rfl rfl) ?_
  refine st_val (ro_extract rfl rfl) ?_
  refine ass rfl ?_
  refine asi rfl ?_
  refine st_nil (nx_then (cd_seq (cd_seq (cd_region ?_))))
  refine mvi rfl ?_
  refine st_val (ro_neq rfl rfl) ?_
  refine st_nil (nx_then ?_)
  refine cd_cond rfl (fun Q37 => ?_) (fun Q37 => ?_)
  · with_reducible replace Q37 := bx_t Q37
    exfalso; omega
  with_reducible replace Q37 := bx_f Q37
  refine cd_skip (nx_then (cd_seq (cd_region ?_)))
  refine mvp rfl ?_
  refine mvi rfl ?_
  refine mvs rfl ?_
  refine st_val (ro_len FmMake_l60 rfl) ?_
  refine st_val (ro_quoN (b := 8) rfl rfl (by omega)) ?_
  refine st_val (ro_addN (b := 1) rfl rfl (by omega)) ?_
  refine st_make FmMake_m81 rfl rfl rfl (by omega) (by omega) ?_
  intro b52 w38 E52 hb52 hk52
  refine st_val (ro_build (l := [(0, .tmp 46), (1, .tmp 47), (3, .tmp 52)]) (FmMake_b84_0_1_3 _ _ _ _ _)) ?_
  refine st_box (v := .agg _) rfl ?_
  intro b54 w39 E54 hb54 hk54
  have hz52 : (w36).heap.size ≤ b52 := by rw [hb52]; exact Nat.le_refl _
  have hz54 : (w36).heap.size ≤ b54 := by rw [hb54]; exact E52.size
  have hSt : StAt w39 w36 b54 tb 0 a Ln F := ⟨((From.rfl_.next E52).next E54), hz54, none, 0, b52, hz52, by rw [hLl]; exact hk54, World.ownsRow_nil _ _ _ _, by rw [hLl, tabJ_congr (g := fun _ => 0) (fun j _ => by rw [rwJ_zero]; rfl), ← tabJ_zero]; exact hk52.from_ E54⟩
  refine asp rfl ?_
  refine st_nil (nx_then (cd_seq (cd_region ?_)))
  refine mvp rfl ?_
  refine mvs rfl ?_
  refine st_val (ro_len FmMake_l60 rfl) ?_
  refine st_call FmMake_k33 (store0 w36 b54 tb a n Ln F _ (by omega) hSA (by omega) hSt) ?_
  rintro v58 w40 hSt
  refine st_nil (nx_then (cd_seq (cd_seq (cd_region ?_))))
  refine mvs rfl ?_
  refine st_val (ro_len FmMake_l60 rfl) ?_
  refine mvi rfl ?_
  refine st_nil (nx_then (cd_block ?_))
  refine cd_loop (G := Nat) [12, 13, 62, 63, 64, 65, 66, 67, 68, 69, 70, 71] (fun q => [(61, .int .i64 (q : Nat))]) (fun q w' => q ≤ n ∧ StAt w' w36 b54 tb (q + 1) a Ln F) (fun q => n - q) (0) ⟨rfl, trivial⟩ ?_ ?_
  · exact ⟨Nat.zero_le _, hSt⟩
  rintro q ρ41 w41 ⟨hq, hSt⟩
  refine cd_seq (cd_region ?_)
  refine st_val (ro_lss rfl rfl) ?_
  refine st_nil (nx_then (cd_seq ?_))
  refine cd_cond rfl (fun Q42 => ?_) (fun Q42 => ?_)
  · with_reducible replace Q42 := of_decide_eq_true Q42
    obtain ⟨bF, oF, rfl, hcF⟩ := rowD hrF (by omega)
    refine cd_skip (nx_then (cd_seq (cd_block (cd_seq (cd_region ?_)))))
    refine mvi rfl ?_
    refine st_val (ro_indexAddr1 FmMake_e60 rfl rfl (by omega)) ?_
    refine st_val (ro_load FmMake_g3 rfl (by exact cellF hSt.1 (hcF q (by omega)))) ?_
    refine asi rfl ?_
    refine asi rfl ?_
    refine st_nil (nx_then (cd_region ?_))
    refine mvp rfl ?_
    refine mvi rfl ?_
    refine st_val (ro_addN (b := 1) rfl rfl (by omega)) ?_
    refine mvi rfl ?_
    refine st_call FmMake_k33 (store1 w36 b54 tb a q Ln F _ (by omega) hSA (by omega) hSt) ?_
    rintro v70 w43 hSt
    refine st_nil (nx_block (nx_then (cd_region ?_)))
    refine st_val (ro_add64 rfl rfl (by omega)) ?_
    refine mvi rfl ?_
    refine st_nil ?_
    refine nx_cut (q + 1) ⟨(by first | rfl | (refine int_eq ?_; omega)), trivial⟩ (by (iterate 26 refine agr_cons rfl ?_); exact agr_rfl) ⟨?_, ?_⟩
    · exact ⟨by omega, hSt⟩
    · show n - (q + 1) < n - q; omega
  with_reducible replace Q42 := of_decide_eq_false Q42
  refine cd_exit ?_
  refine ex_then (ex_then (ex_block (nx_then (cd_seq (cd_region ?_)))))
  refine mvp rfl ?_
  refine asp rfl ?_
  refine asi rfl ?_
  refine st_nil (nx_then (cd_ret ?_))
  refine res2 (v := .pointer _) (v' := .int _ _) rfl rfl rfl ?_
  obtain rfl : q = n := by omega
  have hSt9 := hSt
  obtain ⟨hF1, hb0, AS, cs, gr, hg0, hI, ho, hJ⟩ := hSt9
  have hz := hBz.size
  refine ⟨.inr ⟨by rw [hLn]; exact hck, K, b54, a, Ln, Bs, F, rfl, hLn, hlt, ⟨Nat.le_trans hz hb0, hSA, hbw, by omega, hK, tb, AS, cs, gr, by rw [hLl]; rw [hLl] at hI; exact hI, (hT40.from_ hF1).le (by exact E16.size), own_le (by rw [hLl]; exact ho) hz, ?_, Nat.le_trans hz hg0⟩, rfl⟩, (hBz.next hSt.1)⟩
  rw [tabJ_congr (g := fun j => ((rwJ Ln (Ln.length + 1) j : Nat) : Int)) (fun j hj => by rw [rwJ_all hj]), hLl]
  rw [hLl] at hJ
  exact hJ
end Go.Proofs.YtglndihdhaaccaaDoor

namespace Go.Proofs.YtglndihdhaaccaaDoor
open Go.RowKit

abbrev Gh := Nat → Nat
def updG (g : Gh) (i h : Nat) : Gh := fun j => bif Nat.beq j i then h else g j
abbrev GT := List (Nat × Nat × (Gh → Value))
abbrev tabG (T : GT) (g : Gh) : List (Nat × Nat × Value) := T.map fun p => (p.1, p.2.1, p.2.2 g)
abbrev MT := List (Nat × TypeId × Array Value)
/-- the blocks that have been made -/
structure MemG (w0 : World) (MK : MT) (S : Nat → Bool) (g : Gh) (w' : World) : Prop where
  from_ : From w0 w'
  blk : ∀ p ∈ MK, S p.1 = true → Blk w' (g p.1) p.2.1 p.2.2
  ge : ∀ p ∈ MK, S p.1 = true → w0.heap.size ≤ g p.1
  ne : ∀ p ∈ MK, ∀ q ∈ MK, p.1 ≠ q.1 → S p.1 = true → S q.1 = true → g p.1 ≠ g q.1
def IndG (S : Nat → Bool) (g g' : Gh) : GT → Prop
  | [] => True
  | p :: r => (S p.1 = true → p.2.2 g' = p.2.2 g) ∧ IndG S g g' r
section
variable {P : Program} {Q : Exit → Act → World → Prop} {n : Fr} {L L' M : List (Nat × Value)} {w w' w'' w0 : World} {l : List Oper} {T : GT} {MK : MT} {S : Nat → Bool} {op : Op} {ty : TypeId} {pos : String} {after : Array Edge} {i d : Nat} {f : Gh → Value} {g : Gh}
abbrev StepG (P : Program) (n : Fr) (L : List (Nat × Value)) (T : GT) (MK : MT) (w0 : World) (S : Nat → Bool) (i : Nat) (o : Oper) (L' : List (Nat × Value)) (w' : World) : Prop := StepI P n o (fun L2 w2 => ∃ g, InvL L (tabG T g) (setB S i) L2 ∧ MemG w0 MK (setB S i) g w2) L' w'
def StepsG (P : Program) (n : Fr) (L : List (Nat × Value)) (T : GT) (MK : MT) (w0 : World) (l : List Oper) : Nat → List Oper → Prop
  | _, [] => True
  | i, o :: r => (∀ S L' w' g, UniP (T.map fun p => (p.1, p.2.1)) → UniP (MK.map fun p => (p.1, p.1)) → InvL L (tabG T g) S L' → MemG w0 MK S g w' → ClosedI l S → S i = false → EdgesOn S o.after.toList → StepG P n L T MK w0 S i o L' w') ∧ StepsG P n L T MK w0 l (i + 1) r
end
end Go.Proofs.YtglndihdhaaccaaDoor

namespace Go.Proofs.YtglndihdhaaccaaDoor
open Go.RowKit Go.Shelf
/-- an iterator that yields N pairs, if it isn't told to stop -/
structure IterOS (P : Program) (gf : Nat) (lb : Array Value) (u v : Nat → Value) (N : Nat) (Rd : World → Prop) : Prop where
  out : ∀ (l : Nat) (J : Nat → World → Prop) (JS : World → Prop) (W : World), (∀ k W', J k W' → Rd W') → (∀ k W1, k < N → J k W1 → YieldAt Fence.wide 0 P l #[u k, v k] W1 fun e W' => (e = .returned (.bool true) ∧ J (k + 1) W') ∨ (e = .returned (.bool false) ∧ JS W')) → J 0 W →
    CallsIn Fence.wide 1 P gf (#[.func (.yield l) #[] #[]] ++ lb) W fun e W' => (∃ v, e = .returned v) ∧ (J N W' ∨ JS W')
/-- a round goes on, or ends the function -/
def RPostS (K S : World → Prop) : Exit → Act → World → Prop
  | .normal, _, w => K w
  | .ret, _, w => S w
  | _, _, _ => False
end Go.Proofs.YtglndihdhaaccaaDoor

namespace Go.Proofs.YtglndihdhaaccaaDoor
open Go.RowKit Go.Shelf
attribute [local go_sem] Oper.semAt_some

def BackRdI (Bs b o m c : Nat) (f : Nat → Int) (W : World) : Prop := W.cell? ⟨Bs, 0, none⟩ = some (.slice (some ⟨b, o, none⟩) m c) ∧ ∀ j, j < m → W.cell? ⟨b, o + j, none⟩ = some (.int .i64 (f j))
end Go.Proofs.YtglndihdhaaccaaDoor

namespace Go.Proofs.YtglndihdhaaccaaDoor
open Go.RowKit
section
variable {l : Nat} {P : Program} {Q : Exit → Act → World → Prop} {n : Fr} {L : List (Nat × Value)} {w : World}
end
section
variable {P : Program} {fn : Func} {m D : Nat} {L : List (Nat × Value)} {w : World} {r r' r'' : ResultVar} {R : Value → World → Prop} {v v' v'' : Value}
end
end Go.Proofs.YtglndihdhaaccaaDoor

namespace Go.Proofs.YtglndihdhaaccaaDoor
open Go.RowKit
open Go.ChangeShapes Go.WideShapes Go.ChangeAt
open Go.Proofs.YtglndihdhaaccaaDoor.SA
/-- what Rows is to tell -/
def RowsIs (K : Nat) (L : List Nat) (q : List Int) (fr to e : Int) : Prop :=
  (q = [] ∧ fr = 0 ∧ to = 0 ∧ e = 5) ∨ (q ≠ [] ∧ q.all (okS (K : Nat)) = false ∧ fr = 0 ∧ to = 0 ∧ e = 1) ∨
  (∃ p : List Nat, q = cI p ∧ p ≠ [] ∧ (∀ x ∈ p, x < K) ∧ fr = ((rwF L p : Nat) : Int) ∧ to = ((rwT L p : Nat) : Int) ∧ e = 0)
/-- the variables of Rows, behind the symbols q -/
structure RwI (w : World) (b b2 b4 b5 b6 Bs n c : Nat) (A : Option Addr) (fr to : Nat) (W : World) : Prop where
  hF : From w W
  h2 : Blk W b2 46 #[.pointer (some ⟨b, 0, none⟩)]
  h4 : Blk W b4 3 #[.int .i64 (fr : Nat)]
  h5 : Blk W b5 3 #[.int .i64 (to : Nat)]
  h6 : Blk W b6 26 #[.int .i64 0]
  hs : Blk W Bs 60 #[.slice A n c]
section
variable {w W W' : World} {b b2 b4 b5 b6 Bs n c fr to : Nat} {A : Option Addr}
end
end Go.Proofs.YtglndihdhaaccaaDoor

namespace Go.Proofs.YtglndihdhaaccaaDoor
open Go.RowKit
def leB (x y : Int) : Bool := decide (x ≤ y)
def srt (L : List Int) : List Int := L.mergeSort leB
def cnt (L : List Int) (x : Int) : Nat := L.countP fun y => decide (x ≤ y)
def med (L : List Int) : Int := (srt L).getD ((L.length - 1) / 2) 0
def Fit (L : List Int) : Prop := 1 ≤ L.length ∧ L.length ≤ 7 ∧ ∀ x ∈ L, 0 ≤ x
theorem srt_perm (L : List Int) : (srt L).Perm L := List.mergeSort_perm L leB
theorem srt_len (L : List Int) : (srt L).length = L.length := (srt_perm L).length_eq
theorem srt_le (L : List Int) : ∀ i j (hi : i < (srt L).length) (hj : j < (srt L).length), i ≤ j → (srt L)[i] ≤ (srt L)[j] := by
  have h := List.pairwise_mergeSort (le := leB) (fun a b c h1 h2 => by simp only [leB, decide_eq_true_eq] at *; omega) (fun a b => by simp only [leB, Bool.or_eq_true, decide_eq_true_eq]; omega) L
  intro i j hi hj hij
  rcases Nat.lt_or_ge i j with h1 | h1
  · have := List.pairwise_iff_getElem.1 h i j hi hj h1
    exact of_decide_eq_true this
  · obtain rfl : i = j := by omega
    exact Int.le_refl _
/-- how many of 1 to n are among the votes -/
def cv (V : List Int) (n : Nat) : Nat := (List.range n).countP fun i => decide (((i + 1 : Nat) : Int) ∈ V)
def vt (V : List Int) (n i : Nat) : Bool := decide (1 ≤ i ∧ i ≤ n ∧ (i : Int) ∈ V)
def vrow (V : List Int) (n : Nat) : List Value := (List.range 8).map fun i => .bool (vt V n i)
end Go.Proofs.YtglndihdhaaccaaDoor

namespace Go.Proofs.YtglndihdhaaccaaDoor
open Go.RowKit
open Go.ChangeShapes Go.WideShapes Go.ChangeAt
open Go.Proofs.YtglndihdhaaccaaDoor.SA
open Go.Shelf
/-- what Find is to tell -/
def FindIs (K : Nat) (L : List Nat) (q : List Int) (l : List Nat) (e : Int) : Prop :=
  (q = [] ∧ l = [] ∧ e = 5) ∨ (q ≠ [] ∧ q.all (okS (K : Nat)) = false ∧ l = [] ∧ e = 1) ∨ (∃ p : List Nat, q = cI p ∧ p ≠ [] ∧ (∀ x ∈ p, x < K) ∧ l = fndL L p ∧ e = 0)
theorem nat_back : ∀ {l : List Int}, (∀ y ∈ l, 0 ≤ y) → l = cI (l.map Int.toNat)
  | [], _ => rfl
  | y :: l, h => by
    rw [List.map_cons, cI, List.map_cons, ← cI, ← nat_back fun z hz => h z (List.mem_cons_of_mem _ hz), Int.toNat_of_nonneg (h y (List.mem_cons_self ..))]
/-- the places in order are the places as the text tells them -/
theorem srt_plc {L F p : List Nat} (hS : IsSA L F) (hp : p ≠ []) : srt (cI (SA.plc L F (frP L p) (toP L p - frP L p))) = cI (fndL L p) := by
  have hto := toP_le L p
  have hle := fr_le_to L p
  generalize hX : SA.plc L F (frP L p) (toP L p - frP L p) = X
  have hnd : X.Nodup := by rw [← hX]; exact plc_nodup hS (by omega)
  have hmem : ∀ x, x ∈ X ↔ x ∈ fndL L p := fun x => by rw [← hX]; exact plc_mem hS hp
  have hpm := srt_perm (cI X)
  have hnn : ∀ y ∈ srt (cI X), 0 ≤ y := fun y hy => by
    obtain ⟨x, _, rfl⟩ := List.mem_map.1 (hpm.mem_iff.1 hy)
    omega
  have e : srt (cI X) = cI ((srt (cI X)).map Int.toNat) := nat_back hnn
  rw [e]
  congr 1
  refine asc_uniq ?_ (fndL_asc L p) fun x => ?_
  · refine List.pairwise_map.2 (List.pairwise_iff_getElem.2 fun i j hi hj hij => ?_)
    have h1 := srt_le (cI X) i j hi hj (Nat.le_of_lt hij)
    have h2 := hnn _ (List.getElem_mem hi)
    have hndI : (srt (cI X)).Nodup := hpm.nodup_iff.2 (List.pairwise_map.2 (hnd.imp fun a b => by simp only [ne_eq] at *; omega))
    have h3 := List.pairwise_iff_getElem.1 hndI i j hi hj hij
    omega
  · rw [← hmem, List.mem_map]
    constructor
    · rintro ⟨y, hy, rfl⟩
      obtain ⟨z, hz, rfl⟩ := List.mem_map.1 (hpm.mem_iff.1 hy)
      simpa using hz
    · intro hx
      exact ⟨(x : Int), hpm.mem_iff.2 (List.mem_map.2 ⟨x, hx, rfl⟩), by simp⟩
theorem plc_rw (L F p : List Nat) : SA.plc L F (rwF L p) (rwT L p - rwF L p) = SA.plc L F (frP L p) (toP L p - frP L p) := by
  unfold rwF rwT
  by_cases h : frP L p < toP L p
  · rw [if_pos h, if_pos h]
  · rw [if_neg h, if_neg h, show toP L p - frP L p = 0 by omega]
    rfl
end Go.Proofs.YtglndihdhaaccaaDoor

namespace Go.Proofs.YtglndihdhaaccaaDoor
open Go.RowKit
open Go.ChangeShapes Go.WideShapes Go.ChangeAt
open Go.Proofs.YtglndihdhaaccaaDoor.SA
/-- what Place tells -/
noncomputable def plV (L F : List Nat) (i : Int) : Int := if 0 ≤ i ∧ i ≤ L.length then ((rowS L F i.toNat : Nat) : Int) else 0
noncomputable def plE (L : List Nat) (i : Int) : Int := if 0 ≤ i ∧ i ≤ L.length then 0 else 3
/-- the cells of a part, as far as it is read -/
def txF (L : List Nat) (fr t i : Nat) : Int := if t ≤ fr + i then ((L.getD (fr + i) 0 : Nat) : Int) else 0
end Go.Proofs.YtglndihdhaaccaaDoor

namespace Go.Proofs.YtglndihdhaaccaaDoor
open Go.RowKit
open Go.ChangeShapes Go.WideShapes Go.ChangeAt
open Go.Proofs.YtglndihdhaaccaaDoor.SA
theorem FmAt.le {w : World} {base base2 b K a : Nat} {L B F : List Nat} (h : FmAt w base b K a L B F) (hl : base2 ≤ base) : FmAt w base2 b K a L B F := by
  obtain ⟨hb0, hSA, hbw, hLn, hK, tb, AS, cs, gr, hI, hT, ho, hR, hgr⟩ := h
  exact ⟨by omega, hSA, hbw, hLn, hK, tb, AS, cs, gr, hI, hT.le hl, own_le ho hl, hR, by omega⟩
/-- what asks tells of a pattern -/
def askE (k : Int) (q : List Int) : Int := if q.length = 0 then 5 else if q.all (okS k) then 0 else 1
end Go.Proofs.YtglndihdhaaccaaDoor

namespace Go.Proofs.YtglndihdhaaccaaDoor
open Go.RowKit
open Go.ChangeShapes Go.WideShapes Go.ChangeAt
open Go.Proofs.YtglndihdhaaccaaDoor.SA
/-- no list has these symbols with this row -/
def Bad (n : Nat) (at_ : Int) (xs : List Int) : Prop := ∀ (B : List Nat) (a : Nat), xs = cI B → (∀ x ∈ B, x < 512) → at_ = (a : Nat) → a ≤ n → ¬ Circ n (fun i => B.getD i 0) a
/-- what Back tells -/
def BackA (w' : World) (base n : Nat) (at_ : Int) (xs : List Int) (v : Value) : Prop :=
  (∃ B a A', xs = cI B ∧ (∀ x ∈ B, x < 512) ∧ at_ = (a : Nat) ∧ a ≤ n ∧ Circ n (fun i => B.getD i 0) a ∧ v = .tuple #[.slice A' n n, .int .i64 0] ∧ w'.ownsRow base 3 1 (.slice A' n n) n ((wl n (fun i => B.getD i 0) a).map fun x : Nat => iV (x : Nat))) ∨
  (Bad n at_ xs ∧ v = .tuple #[.slice none 0 0, .int .i64 1])
end Go.Proofs.YtglndihdhaaccaaDoor

namespace Go.Proofs.YtglndihdhaaccaaDoor
open Go.RowKit
open Go.ChangeShapes Go.WideShapes Go.ChangeAt
open Go.Proofs.YtglndihdhaaccaaDoor.SA
end Go.Proofs.YtglndihdhaaccaaDoor

namespace Go.Proofs.YtglndihdhaaccaaDoor
open Go.RowKit
open Go.ChangeShapes Go.WideShapes Go.ChangeAt
open Go.Proofs.YtglndihdhaaccaaDoor.SA
end Go.Proofs.YtglndihdhaaccaaDoor

namespace Go.Proofs.YtglndihdhaaccaaDoor
open Go.RowKit
open Go.ChangeShapes Go.WideShapes Go.ChangeAt
open Go.Proofs.YtglndihdhaaccaaDoor.SA
noncomputable def rsF (K : Nat) (L : List Nat) (q : List Int) : Int := if askE (K : Nat) q = 0 then ((rwF L (q.map Int.toNat) : Nat) : Int) else 0
noncomputable def rsT (K : Nat) (L : List Nat) (q : List Int) : Int := if askE (K : Nat) q = 0 then ((rwT L (q.map Int.toNat) : Nat) : Int) else 0
noncomputable def fdL (K : Nat) (L : List Nat) (q : List Int) : List Nat := if askE (K : Nat) q = 0 then fndL L (q.map Int.toNat) else []
theorem cI_toNat (p : List Nat) : (cI p).map Int.toNat = p := by
  unfold cI
  rw [List.map_map]
  refine (List.map_congr_left fun x _ => ?_).trans (List.map_id p)
  rfl
theorem ask_good {K : Nat} {p : List Nat} (h0 : p ≠ []) (h : ∀ x ∈ p, x < K) : askE (K : Nat) (cI p) = 0 := by
  unfold askE
  rw [if_neg (by rw [List.length_map]; exact fun e => h0 (List.eq_nil_of_length_eq_zero e)), if_pos]
  rw [List.all_eq_true]
  intro y hy
  obtain ⟨x, hx, rfl⟩ := List.mem_map.1 hy
  exact okS_yes (by omega) (by have := h x hx; omega)
section
variable (base b K a : Nat) (L B F : List Nat) (w : World) (hf : FmAt w base b K a L B F) (A : Option Addr) (c n : Nat) (q : List Int) (hr : RowOf iV w A q) (hn : n = q.length) (hl : n ≤ 1000000)
include hf hr hn hl
end
section
variable (A D : Option Addr) (ca cp n m : Nat) (xs q : List Int) (K : Nat) (L : List Nat) (w : World) (hr : RowOf iV w A xs) (hL : xs = cI L) (hn : n = xs.length) (hp : RowOf iV w D q) (hm : m = q.length) (hl : n ≤ 131072) (hl2 : m ≤ 1000000) (he : askE (K : Nat) q = 0)
include hr hL hn hp hm hl hl2 he
end
end Go.Proofs.YtglndihdhaaccaaDoor

namespace Go.Proofs.YtglndihdhaaccaaDoor
open Go.RowKit
open Go.ChangeShapes Go.WideShapes Go.ChangeAt
open Go.Proofs.YtglndihdhaaccaaDoor.SA
theorem rw_cnt {L F p : List Nat} (hS : IsSA L F) (hp : p ≠ []) : ((rwT L p : Nat) : Int) - ((rwF L p : Nat) : Int) = ((fndL L p).length : Nat) := by
  have h := congrArg List.length (srt_plc hS hp)
  rw [← plc_rw, srt_len, cI, List.length_map, plc_len, cI, List.length_map] at h
  have := rw_sub L p
  omega
theorem bg_pre {t : Nat → Nat} : ∀ {s q : List Nat} {i : Nat}, pBg t i (s ++ q) → pBg t i s
  | [], _, _, _ => trivial
  | _ :: _, _, _, ⟨h1, h2⟩ => ⟨h1, bg_pre h2⟩
open Classical in
theorem fnd_pre {L s q : List Nat} : (fndL L (s ++ q)).length ≤ (fndL L s).length := by
  unfold fndL
  rw [← List.countP_eq_length_filter, ← List.countP_eq_length_filter]
  exact List.countP_mono_left fun x _ h => decide_eq_true (bg_pre (of_decide_eq_true h))
theorem hits_cnt {K : Nat} {L F p : List Nat} (hS : IsSA L F) (hp : p ≠ []) (hK : ∀ x ∈ p, x < K) : rsT K L (cI p) - rsF K L (cI p) = ((fndL L p).length : Nat) := by
  unfold rsT rsF
  rw [ask_good hp hK, if_pos rfl, if_pos rfl, cI_toNat]
  exact rw_cnt hS hp
/-- the pattern without its last symbol -/
theorem less_one {K : Nat} {L F p : List Nat} (hS : IsSA L F) (hK : ∀ x ∈ p, x < K) (h1 : 1 < p.length) : askE (K : Nat) ((cI p).take (p.length - 1)) = 0 ∧ ((fndL L p).length : Int) ≤ rsT K L ((cI p).take (p.length - 1)) - rsF K L ((cI p).take (p.length - 1)) := by
  have e : (cI p).take (p.length - 1) = cI (p.take (p.length - 1)) := by rw [cI, ← List.map_take]
  have h0 : p.take (p.length - 1) ≠ [] := fun h => by
    have := congrArg List.length h
    rw [List.length_take, List.length_nil] at this
    omega
  have hK2 : ∀ x ∈ p.take (p.length - 1), x < K := fun x hx => hK x (List.mem_of_mem_take hx)
  rw [e, hits_cnt hS h0 hK2]
  refine ⟨ask_good h0 hK2, ?_⟩
  have := fnd_pre (L := L) (s := p.take (p.length - 1)) (q := p.drop (p.length - 1))
  rw [List.take_append_drop] at this
  omega
end Go.Proofs.YtglndihdhaaccaaDoor

namespace Go.Proofs.YtglndihdhaaccaaDoor
open Go.RowKit

namespace Bd
theorem BndWalks_l60 : (elemQ Tryd.prog 60).isSome = true := by kernel_rfl
theorem BndWalks_e60 : elemQ Tryd.prog 60 = some (3, 1) := by kernel_rfl
theorem BndWalks_g3 : aggQ Tryd.prog 3 = some false := by kernel_rfl
theorem BndWalks_b73_ : Tryd.prog.built 73 [] = some #[.slice none 0 0] := by kernel_rfl
theorem BndWalks_f73_0 : fieldQ Tryd.prog 73 0 = some 0 := by kernel_rfl
theorem BndWalks_g60 : aggQ Tryd.prog 60 = some false := by kernel_rfl
theorem BndWalks_q60 : litQ Tryd.prog 60 = some (3, 1, 8, (.int .i64 0)) := by kernel_rfl
theorem BndWalks_z60 : sizeQ Tryd.prog 60 = some 1 := by kernel_rfl
/-- where text i begins -/
def st (L : List Int) : Nat → Int
  | 0 => 0
  | i + 1 => st L i + L.getD i 0 + 1
theorem st_succ {L : List Int} {i : Nat} (h : i < L.length) : st L (i + 1) = st L i + L[i] + 1 := by
  show st L i + L.getD i 0 + 1 = _
  rw [List.getD_eq_getElem?_getD, List.getElem?_eq_getElem h]
  rfl
def neg (L : List Int) : Bool := L.any fun x => decide (x < 0)
def fits (L : List Int) : Bool := (List.range L.length).all fun i => decide (L.getD i 0 < 131072 - st L i)
def lensE (L : List Int) : Int := if neg L = true then 1 else if 64 < L.length then 2 else if fits L = true then 0 else 2
structure Gd (L : List Int) : Prop where
  pos : ∀ i (h : i < L.length), 0 ≤ L[i]
  len : L.length ≤ 64
  fit : ∀ i (h : i < L.length), L[i] < 131072 - st L i
theorem neg_of {L : List Int} (h : ∀ i (h : i < L.length), 0 ≤ L[i]) : neg L = false := by
  unfold neg
  rw [List.any_eq_false]
  intro x hx
  obtain ⟨i, hi, rfl⟩ := List.mem_iff_getElem.1 hx
  have := h i hi
  simp; omega
theorem neg_at {L : List Int} {i : Nat} (h : i < L.length) (hn : L[i] < 0) : neg L = true := List.any_eq_true.2 ⟨L[i], List.getElem_mem h, by simpa using hn⟩
theorem lens1 {L : List Int} {i : Nat} (h : i < L.length) (hn : L[i] < 0) : lensE L = 1 := by unfold lensE; rw [if_pos (neg_at h hn)]
theorem lens2 {L : List Int} (h : ∀ i (h : i < L.length), 0 ≤ L[i]) (hl : 64 < L.length) : lensE L = 2 := by unfold lensE; rw [if_neg (by rw [neg_of h]; decide), if_pos hl]
theorem lens3 {L : List Int} (h : ∀ i (h : i < L.length), 0 ≤ L[i]) (hl : L.length ≤ 64) {i : Nat} (hi : i < L.length) (hn : ¬ L[i] < 131072 - st L i) : lensE L = 2 := by
  unfold lensE
  have hf : fits L = false := by
    rw [← Bool.not_eq_true]
    intro hf
    have := List.all_eq_true.1 hf i (List.mem_range.2 hi)
    rw [decide_eq_true_eq, List.getD_eq_getElem?_getD, List.getElem?_eq_getElem hi] at this
    exact hn this
  rw [if_neg (by rw [neg_of h]; decide), if_neg (by omega), if_neg (by rw [hf]; decide)]
theorem lens0 {L : List Int} (h : Gd L) : lensE L = 0 := by
  unfold lensE
  have hf : fits L = true := List.all_eq_true.2 fun i hi => by
    have hi' := List.mem_range.1 hi
    rw [decide_eq_true_eq, List.getD_eq_getElem?_getD, List.getElem?_eq_getElem hi']
    exact h.fit i hi'
  rw [if_neg (by rw [neg_of h.pos]; decide), if_neg (by have := h.len; omega), if_pos hf]
theorem st_part {L : List Int} (hp : ∀ i (h : i < L.length), 0 ≤ L[i]) : ∀ k, k ≤ L.length → (∀ i (h : i < L.length), i < k → L[i] < 131072 - st L i) → 0 ≤ st L k ∧ st L k ≤ 131072
  | 0, _, _ => by simp [st]
  | k + 1, hk, hf => by
    have h1 := st_part hp k (by omega) (fun i h hi => hf i h (by omega))
    have h2 := hp k (by omega)
    have h3 := hf k (by omega) (by omega)
    rw [st_succ (by omega)]
    omega
theorem Gd.st {L : List Int} (h : Gd L) {k : Nat} (hk : k ≤ L.length) : 0 ≤ st L k ∧ st L k ≤ 131072 := st_part h.pos k hk fun i hi _ => h.fit i hi
def endsOf (L : List Int) (k : Nat) : List Int := (List.range k).map fun i => st L (i + 1)
theorem ends_succ (L : List Int) (k : Nat) : (endsOf L (k + 1)).map iV = (endsOf L k).map iV ++ [iV (st L (k + 1))] := by
  unfold endsOf
  rw [List.range_succ, List.map_append, List.map_append]
  rfl
/-- bounds of these lengths; all that they hold lies at base or above -/
def BAt (w : World) (base b : Nat) (L : List Int) : Prop := ∃ (E : Option Addr) (c : Nat), base ≤ b ∧ Blk w b 73 #[.slice E L.length c] ∧ w.ownsRow base 3 1 (.slice E L.length c) L.length ((endsOf L L.length).map iV) ∧ Gd L
theorem BAt.from_ {w w' : World} {base b : Nat} {L : List Int} (h : BAt w base b L) (hF : From w w') : BAt w' base b L :=
  let ⟨E, c, h1, h2, h3, h4⟩ := h
  ⟨E, c, h1, h2.from_ hF, h3.kept_from hF, h4⟩
theorem BAt.le {w : World} {base base' b : Nat} {L : List Int} (h : BAt w base b L) (hb : base' ≤ base) : BAt w base' b L :=
  let ⟨E, c, h1, h2, h3, h4⟩ := h
  ⟨E, c, Nat.le_trans hb h1, h2, own_le h3 hb, h4⟩
def NewGot (w w' : World) (L : List Int) (v : Value) : Prop := (lensE L ≠ 0 ∧ v = .tuple #[.pointer none, .int .i64 (lensE L)]) ∨ (lensE L = 0 ∧ ∃ b, v = .tuple #[.pointer (some ⟨b, 0, none⟩), .int .i64 0] ∧ BAt w' w.heap.size b L)
set_option maxHeartbeats 1000000 in
theorem new_rt (A : Option Addr) (c : Nat) (L : List Int) (w : World) (hr : RowOf iV w A L) (hb64 : ∀ x ∈ L, -9223372036854775808 ≤ x ∧ x ≤ 9223372036854775807) (hl : L.length ≤ 1000000000000) :
    Rt Tryd.prog 25 [.slice A L.length c] w (fun v w' => NewGot w w' L v ∧ From w w') := by
  refine enter (n := 50) Tryd.func25 rfl rfl rfl ?_
  refine cd_seq (cd_region ?_)
  refine asp rfl ?_
  refine asi rfl ?_
  refine st_nil (nx_then (cd_seq (cd_seq (cd_region ?_))))
  refine mvs rfl ?_
  refine st_val (ro_len BndWalks_l60 rfl) ?_
  refine mvi rfl ?_
  refine st_nil (nx_then (cd_block ?_))
  refine cd_loop (G := Nat) [2, 3, 5, 13, 14, 15, 16, 17, 18] (fun k => [(12, .int .i64 (k : Nat))]) (fun k w' => k ≤ L.length ∧ (∀ i (h : i < L.length), i < k → 0 ≤ L[i]) ∧ From w w') (fun k => L.length - k) (0) ⟨rfl, trivial⟩ ?_ ?_
  · exact ⟨Nat.zero_le _, fun i h h0 => absurd h0 (by omega), From.rfl_⟩
  rintro k ρ1 w1 ⟨hk, hp, hB⟩
  refine cd_seq (cd_region ?_)
  refine st_val (ro_lss rfl rfl) ?_
  refine st_nil (nx_then (cd_seq ?_))
  refine cd_cond rfl (fun Q2 => ?_) (fun Q2 => ?_)
  · replace Q2 := of_decide_eq_true Q2
    obtain ⟨ba, oa, rfl, hca⟩ := hr (by omega)
    refine cd_skip (nx_then (cd_seq (cd_block (cd_seq (cd_region ?_)))))
    refine st_val (ro_indexAddr1 BndWalks_e60 rfl rfl (by omega)) ?_
    refine st_val (ro_load BndWalks_g3 rfl (by exact cellF hB (hca k (by omega)))) ?_
    refine asi rfl ?_
    refine st_nil (nx_then (cd_seq (cd_region ?_)))
    refine mvi rfl ?_
    refine st_val (ro_lss rfl rfl) ?_
    refine st_nil (nx_then ?_)
    refine cd_cond rfl (fun Q3 => ?_) (fun Q3 => ?_)
    · replace Q3 := of_decide_eq_true Q3
      refine cd_seq (cd_region ?_)
      refine asp rfl ?_
      refine asi rfl ?_
      refine st_nil (nx_then (cd_ret (rt_block (rt_then (rt_then (rt_block (rt_then ?_)))))))
      refine res2 (v := .pointer _) (v' := .int _ _) rfl rfl rfl ?_
      exact ⟨.inl ⟨by rw [lens1 (i := k) (by omega) (by omega)]; decide, by rw [lens1 (i := k) (by omega) (by omega)]⟩, hB⟩
    replace Q3 := of_decide_eq_false Q3
    refine cd_skip (nx_block (nx_then (cd_region ?_)))
    refine st_val (ro_addN (b := 1) rfl rfl (by omega)) ?_
    refine mvi rfl ?_
    refine st_nil ?_
    refine nx_cut (k + 1) ⟨(by first | rfl | (refine int_eq ?_; omega)), trivial⟩ (by (iterate 18 refine agr_cons rfl ?_); exact agr_rfl) ⟨?_, ?_⟩
    · refine ⟨by omega, fun i h hi => ?_, hB⟩
      rcases Nat.lt_or_ge i k with a | a
      · exact hp i h a
      · obtain rfl : i = k := by omega
        omega
    · omega
  replace Q2 := of_decide_eq_false Q2
  refine cd_exit ?_
  refine ex_then (ex_then (ex_block (nx_then (cd_seq (cd_seq (cd_region ?_))))))
  have hpos : ∀ i (h : i < L.length), 0 ≤ L[i] := fun i h => hp i h (by omega)
  refine mvs rfl ?_
  refine st_val (ro_len BndWalks_l60 rfl) ?_
  refine st_val (ro_gtr rfl rfl) ?_
  refine st_nil (nx_then ?_)
  refine cd_cond rfl (fun Q4 => ?_) (fun Q4 => ?_)
  · replace Q4 := of_decide_eq_true Q4
    refine cd_seq (cd_region ?_)
    refine asp rfl ?_
    refine asi rfl ?_
    refine st_nil (nx_then (cd_ret (rt_then ?_)))
    refine res2 (v := .pointer _) (v' := .int _ _) rfl rfl rfl ?_
    exact ⟨.inl ⟨by rw [lens2 hpos (by omega)]; decide, by rw [lens2 hpos (by omega)]⟩, hB⟩
  replace Q4 := of_decide_eq_false Q4
  refine cd_skip (nx_then (cd_seq (cd_region ?_)))
  refine st_val (ro_build (l := []) (BndWalks_b73_)) ?_
  refine st_box (v := .agg _) rfl ?_
  intro b23 w5 E23 hb23 hk23
  have hg23 : w.heap.size ≤ b23 := by rw [hb23]; exact (hB).size
  refine asp rfl ?_
  refine st_nil (nx_then (cd_seq (cd_region ?_)))
  refine asi rfl ?_
  refine st_nil (nx_then (cd_seq (cd_seq (cd_region ?_))))
  refine mvs rfl ?_
  refine st_val (ro_len BndWalks_l60 rfl) ?_
  refine mvi rfl ?_
  refine st_nil (nx_then (cd_block ?_))
  refine cd_loop (G := Nat × Option Addr × Nat) [2, 3, 9, 27, 28, 29, 30, 31, 32, 33, 34, 35, 36, 37, 38, 39, 40, 41, 42, 43, 44, 45, 46, 47, 48] (fun (k, E, c2) => [(26, .int .i64 (k : Nat)), (7, .int .i64 (st L k))]) (fun (k, E, c2) w' => k ≤ L.length ∧ (∀ i (h : i < L.length), i < k → L[i] < 131072 - st L i) ∧ Blk w' b23 73 #[.slice E k c2] ∧ w'.ownsRow w.heap.size 3 1 (.slice E k c2) k ((endsOf L k).map iV) ∧ From w w') (fun (k, _, _) => L.length - k) ((0, none, 0)) ⟨rfl, rfl, trivial⟩ ?_ ?_
  · exact ⟨Nat.zero_le _, fun i h h0 => absurd h0 (by omega), hk23, World.ownsRow_nil _ _ _ _, (hB.next E23)⟩
  rintro ⟨k, E, c2⟩ ρ6 w6 ⟨hk, hf, hV, ho, hB⟩
  have hst := st_part hpos k hk hf
  refine cd_seq (cd_region ?_)
  refine st_val (ro_lss rfl rfl) ?_
  refine st_nil (nx_then (cd_seq ?_))
  refine cd_cond rfl (fun Q7 => ?_) (fun Q7 => ?_)
  · replace Q7 := of_decide_eq_true Q7
    obtain ⟨ba, oa, rfl, hca⟩ := hr (by omega)
    have hpk := hpos k (by omega)
    refine cd_skip (nx_then (cd_seq (cd_block (cd_seq (cd_region ?_)))))
    refine st_val (ro_indexAddr1 BndWalks_e60 rfl rfl (by omega)) ?_
    refine st_val (ro_load BndWalks_g3 rfl (by exact cellF hB (hca k (by omega)))) ?_
    refine asi rfl ?_
    refine st_nil (nx_then (cd_seq (cd_seq (cd_region ?_))))
    refine mvi rfl ?_
    refine mvi rfl ?_
    refine st_val (ro_sub64 rfl rfl (by omega)) ?_
    refine st_val (ro_geq rfl rfl) ?_
    refine st_nil (nx_then ?_)
    refine cd_cond rfl (fun Q8 => ?_) (fun Q8 => ?_)
    · replace Q8 := of_decide_eq_true Q8
      refine cd_seq (cd_region ?_)
      refine asp rfl ?_
      refine asi rfl ?_
      refine st_nil (nx_then (cd_ret (rt_then (rt_block (rt_then (rt_then (rt_block (rt_then ?_))))))))
      refine res2 (v := .pointer _) (v' := .int _ _) rfl rfl rfl ?_
      exact ⟨.inl ⟨by rw [lens3 hpos (by omega) (i := k) (by omega) (by omega)]; decide, by rw [lens3 hpos (by omega) (i := k) (by omega) (by omega)]⟩, hB⟩
    replace Q8 := of_decide_eq_false Q8
    refine cd_skip (nx_then (cd_seq (cd_region ?_)))
    refine mvi rfl ?_
    refine mvi rfl ?_
    refine st_val (ro_add64 rfl rfl (by omega)) ?_
    refine st_val (ro_add64 rfl rfl (by omega)) ?_
    refine asi rfl ?_
    refine st_nil (nx_then (cd_region ?_))
    refine mvp rfl ?_
    refine mvp rfl ?_
    refine st_val (ro_nilCheck rfl) ?_
    refine st_val (ro_fieldAddr BndWalks_f73_0 rfl) ?_
    refine st_val (ro_load BndWalks_g60 rfl (by exact hV.rd 0 rfl)) ?_
    refine mvi rfl ?_
    refine st_lit1 (v := .int _ _) BndWalks_q60 rfl rfl rfl ?_
    intro b44 w9 E44 hb44 hk44
    refine st_push1 (a0 := w) BndWalks_q60 rfl rfl (ho.kept_from E44) (hB.next E44) rfl hk44 rfl (by omega) (by omega) ?_
    intro A45 c45 w10 ho45 B45 hg45
    replace hV := (hV.from_ E44).grown hg45 (own_off (ho.kept_from E44) (hV.from_ E44) (by decide))
    refine st_val (ro_nilCheck rfl) ?_
    refine st_val (ro_fieldAddr BndWalks_f73_0 rfl) ?_
    refine st_put (v := .slice _ _ _) BndWalks_z60 rfl rfl rfl (hV) (by simp) ?_
    intro w11 O17 P17
    refine st_nil (nx_block (nx_then (cd_region ?_)))
    refine st_val (ro_addN (b := 1) rfl rfl (by omega)) ?_
    refine mvi rfl ?_
    refine st_nil ?_
    refine nx_cut ((k + 1, A45, c45)) ⟨rfl, (int_eq (by rw [st_succ (by omega)]; omega)), trivial⟩ (by (iterate 52 refine agr_cons rfl ?_); exact agr_rfl) ⟨?_, ?_⟩
    · refine ⟨by omega, fun i h hi => ?_, by simpa using P17, ?_, (B45.only O17 (hg23))⟩
      · rcases Nat.lt_or_ge i k with a | a
        · exact hf i h a
        · obtain rfl : i = k := by omega
          omega
      · rw [ends_succ, st_succ (by omega), show st L k + L[k] + 1 = st L k + (L[k] + 1) by omega]
        exact own_only3 ho45 O17 (own_off ho45 hV (by decide))
    · show L.length - (k + 1) < L.length - k; omega
  replace Q7 := of_decide_eq_false Q7
  refine cd_exit ?_
  refine ex_then (ex_then (ex_block (nx_then (cd_seq (cd_region ?_)))))
  refine mvp rfl ?_
  refine asp rfl ?_
  refine asi rfl ?_
  refine st_nil (nx_then (cd_ret ?_))
  refine res2 (v := .pointer _) (v' := .int _ _) rfl rfl rfl ?_
  obtain rfl : k = L.length := by omega
  have hG : Gd L := ⟨hpos, by omega, fun i h => hf i h h⟩
  exact ⟨.inr ⟨lens0 hG, b23, rfl, E, c2, hg23, hV, ho, hG⟩, hB⟩
def sV (L : List Int) (i : Int) : Int := if 0 ≤ i ∧ i < L.length then st L i.toNat else 0
def nV (L : List Int) (i : Int) : Int := if 0 ≤ i ∧ i < L.length then L.getD i.toNat 0 else 0
def sE (L : List Int) (i : Int) : Int := if 0 ≤ i ∧ i < L.length then 0 else 3
end Bd
end Go.Proofs.YtglndihdhaaccaaDoor
