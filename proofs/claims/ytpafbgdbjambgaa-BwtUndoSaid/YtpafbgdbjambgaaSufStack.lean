/- suffix: the stack of texts. -/
import Derived.Test.YtpafbgdbjambgaaSufName
namespace Go.Proofs.Ytpafbgdbjambgaa
open Go.RowKit
open Go.ChangeShapes Go.WideShapes Go.ChangeAt
open Go.Proofs.Ytpafbgdbjambgaa.SA
abbrev pV (b : Nat) : Value := .pointer (some ⟨b, 0, none⟩)
structure TextOK (W : World) (b n K m : Nat) (t ss : Nat → Nat) : Prop where
  at_ : TextAt W b n K t m ss
  st : Starts n t m ss
  tx : Txt n t
  n2 : 2 ≤ n
  nl : n ≤ 200000
  kl : K ≤ 200000
  kt : ∀ i, i < n → t i < K
inductive Stk (W : World) (n0 : Nat) (t0 : Nat → Nat) : List Nat → Nat → (Nat → Nat) → Prop
  | nil : Stk W n0 t0 [] n0 t0
  | cons {bs : List Nat} {n b K m : Nat} {t ss nm : Nat → Nat} : Stk W n0 t0 bs n t → TextOK W b n K m t ss → (∀ a c, a < m → c < m → (sl m nm a c ↔ sl n t (ss a) (ss c))) → Stk W n0 t0 (bs ++ [b]) m nm
theorem TextOK.from_ {W W' : World} {b n K m : Nat} {t ss : Nat → Nat} (h : TextOK W b n K m t ss) (hF : From W W') : TextOK W' b n K m t ss := ⟨h.at_.from_ hF, h.st, h.tx, h.n2, h.nl, h.kl, h.kt⟩
theorem Stk.from_ {W W' : World} {n0 : Nat} {t0 : Nat → Nat} {bs : List Nat} {n : Nat} {t : Nat → Nat} (h : Stk W n0 t0 bs n t) (hF : From W W') : Stk W' n0 t0 bs n t := by
  induction h with
  | nil => exact .nil
  | cons _ h2 h3 ih => exact .cons ih (h2.from_ hF) h3
section
variable {W W' : World} {base : Nat} {A : Option Addr} {k c : Nat} {ys : List Value}
theorem VJ.off {g K : Nat} {f : Nat → Int} (h : VJ W g K f) (ho : W.ownsRow base 49 1 (.slice A k c) k ys) (hg : W.grownBy W' (A.map (·.block))) : VJ W' g K f := by
  obtain ⟨cur, h1, h2⟩ := h
  exact ⟨cur, h1.grown hg (own_off ho h1 (by decide)), h2⟩
theorem TextAt.off {b n K m : Nat} {t ss : Nat → Nat} (h : TextAt W b n K t m ss) (ho : W.ownsRow base 49 1 (.slice A k c) k ys) (hg : W.grownBy W' (A.map (·.block))) : TextAt W' b n K t m ss := by
  obtain ⟨gl, gr, AS, cs, ge, h1, h2, h3, h4, h5⟩ := h
  exact ⟨gl, gr, AS, cs, ge, h1.grown hg (own_off ho h1 (by decide)), h2.off ho hg, h3.grown hg (own_off ho h3 (by decide)), fun h0 => (let ⟨g, a, b⟩ := h4 h0; ⟨g, a, b.off ho hg⟩), h5.off ho hg⟩
theorem TextOK.off {b n K m : Nat} {t ss : Nat → Nat} (h : TextOK W b n K m t ss) (ho : W.ownsRow base 49 1 (.slice A k c) k ys) (hg : W.grownBy W' (A.map (·.block))) : TextOK W' b n K m t ss := ⟨h.at_.off ho hg, h.st, h.tx, h.n2, h.nl, h.kl, h.kt⟩
theorem Stk.off {n0 : Nat} {t0 : Nat → Nat} {bs : List Nat} {n : Nat} {t : Nat → Nat} (h : Stk W n0 t0 bs n t) (ho : W.ownsRow base 49 1 (.slice A k c) k ys) (hg : W.grownBy W' (A.map (·.block))) : Stk W' n0 t0 bs n t := by
  induction h with
  | nil => exact .nil
  | cons _ h2 h3 ih => exact .cons ih (h2.off ho hg) h3
end
theorem Stk.inv {W : World} {n0 : Nat} {t0 : Nat → Nat} {bs : List Nat} {m : Nat} {nm : Nat → Nat} (h : Stk W n0 t0 bs m nm) (h0 : 0 < bs.length) : ∃ bs0 b n K t ss, bs = bs0 ++ [b] ∧ Stk W n0 t0 bs0 n t ∧ TextOK W b n K m t ss ∧ ∀ a c, a < m → c < m → (sl m nm a c ↔ sl n t (ss a) (ss c)) := by
  cases h with
  | nil => exact absurd h0 (Nat.lt_irrefl 0)
  | cons a b c => exact ⟨_, _, _, _, _, _, rfl, a, b, c⟩
theorem Stk.nil_inv {W : World} {n0 : Nat} {t0 : Nat → Nat} {bs : List Nat} {m : Nat} {nm : Nat → Nat} (h : Stk W n0 t0 bs m nm) (h0 : bs.length = 0) : m = n0 ∧ nm = t0 := by
  cases h with
  | nil => exact ⟨rfl, rfl⟩
  | cons a b c => simp at h0
section
variable {n m : Nat} {t ss idx : Nat → Nat}
theorem kinds_le {nm : Nat → Nat} {kinds : Nat} (H : Starts n t m ss) (h0 : 0 < m) (hI : InvN n t idx m ss n nm kinds) : kinds + 1 ≤ m := by
  rcases Nat.lt_or_ge kinds m with a | a
  · exact a
  · exfalso
    have hs : ∀ c, c ≤ kinds → ∃ a, a < m ∧ nm a = c := fun c hc => by
      obtain ⟨x, x1, _, x3⟩ := hI.some c hc ⟨0, h0, pos_lt (H.is 0 h0).2.1⟩
      exact ⟨x, x1, x3⟩
    let g : Nat → Nat := fun c => if hc : c ≤ kinds then Classical.choose (hs c hc) else 0
    have hg : ∀ c, c ≤ kinds → g c < m ∧ nm (g c) = c := fun c hc => by
      have := Classical.choose_spec (hs c hc)
      show (if hc : c ≤ kinds then Classical.choose (hs c hc) else 0) < m ∧ nm (if hc : c ≤ kinds then Classical.choose (hs c hc) else 0) = c
      rw [dif_pos hc]
      exact this
    obtain ⟨i, hi, e⟩ := surj (n := m + 1) (f := g) (fun i hi => by have := (hg i (by omega)).1; omega) (fun i j hi hj he => by
      have a := (hg i (by omega)).2
      have b := (hg j (by omega)).2
      rw [he] at a
      omega) m (by omega)
    have := (hg i (by omega)).1
    omega
/-- the place in a list -/
noncomputable def plc (ol : List Nat) (s : Nat) : Nat := idxS ol.length (fun q => ol.getD q 0) s
theorem plc_at {ol : List Nat} (hi : ∀ a b, a < ol.length → b < ol.length → ol.getD a 0 = ol.getD b 0 → a = b) {q : Nat} (hq : q < ol.length) : plc ol (ol.getD q 0) = q := by
  have h : ∃ j, j < ol.length ∧ (fun q => ol.getD q 0) j = ol.getD q 0 := ⟨q, hq, rfl⟩
  unfold plc idxS
  rw [dif_pos h]
  have := Classical.choose_spec h
  exact hi _ _ this.1 hq this.2
theorem rowed_at {r : Nat} {ol : List Nat} (h : Rowed n t idx r ol) {a b : Nat} (hab : a < b) (hb : b < ol.length) : pos n t idx (ol.getD a 0) < pos n t idx (ol.getD b 0) := by
  have := List.pairwise_iff_getElem.1 h.up a b (by omega) hb hab
  rw [List.getD_eq_getElem?_getD, List.getD_eq_getElem?_getD, List.getElem?_eq_getElem hb, List.getElem?_eq_getElem (show a < ol.length by omega)]
  exact this
theorem rowed_inj {r : Nat} {ol : List Nat} (h : Rowed n t idx r ol) : ∀ a b, a < ol.length → b < ol.length → ol.getD a 0 = ol.getD b 0 → a = b := fun a b ha hb he => by
  rcases Nat.lt_trichotomy a b with c | c | c
  · have := rowed_at h c hb; rw [he] at this; omega
  · exact c
  · have := rowed_at h c ha; rw [he] at this; omega
theorem getD_mem {ol : List Nat} {q : Nat} (hq : q < ol.length) : ol.getD q 0 ∈ ol := by
  rw [List.getD_eq_getElem?_getD, List.getElem?_eq_getElem hq]
  exact List.getElem_mem hq
theorem mem_getD {ol : List Nat} {s : Nat} (h : s ∈ ol) : ∃ q, q < ol.length ∧ ol.getD q 0 = s := by
  obtain ⟨q, hq, e⟩ := List.getElem_of_mem h
  exact ⟨q, hq, by rw [List.getD_eq_getElem?_getD, List.getElem?_eq_getElem hq]; exact e⟩
theorem ord_of {ol : List Nat} {nm : Nat → Nat} {kinds : Nat} (ht : Txt n t) (ho : Ord n t idx) (H : Starts n t m ss) (hI : InvN n t idx m ss n nm kinds) (hk : kinds + 1 = m) (h : Rowed n t idx n ol) :
    (∀ q, q < ol.length → lms n t (ol.getD q 0) ∧ plc ol (ol.getD q 0) = q) ∧ (∀ s, lms n t s → plc ol s < ol.length) ∧ Ord n t (plc ol) ∧ Sorted n t (plc ol) := by
  have hm : ∀ s, lms n t s → ∃ q, q < ol.length ∧ ol.getD q 0 = s := fun s hs => mem_getD ((h.mem s).2 ⟨hs, pos_lt hs.2.1⟩)
  refine ⟨fun q hq => ⟨((h.mem _).1 (getD_mem hq)).1, plc_at (rowed_inj h) hq⟩, fun s hs => ?_, ⟨fun i j hi hj he => ?_⟩, fun i j hi hj hs => ?_⟩
  · obtain ⟨q, hq, rfl⟩ := hm s hs
    rw [plc_at (rowed_inj h) hq]
    exact hq
  · obtain ⟨p, hp, rfl⟩ := hm i hi
    obtain ⟨q, hq, rfl⟩ := hm j hj
    rw [plc_at (rowed_inj h) hp, plc_at (rowed_inj h) hq] at he
    rw [he]
  · obtain ⟨a, ha, ea⟩ := H.all i hi
    obtain ⟨b, hb, eb⟩ := H.all j hj
    have hp := (names_sorted ht ho H hI hk ha hb).2 (by rw [ea, eb]; exact hs)
    rw [ea, eb] at hp
    obtain ⟨p, hp1, rfl⟩ := hm i hi
    obtain ⟨q, hq, rfl⟩ := hm j hj
    rw [plc_at (rowed_inj h) hp1, plc_at (rowed_inj h) hq]
    rcases Nat.lt_trichotomy p q with c | c | c
    · exact c
    · subst c; omega
    · have := rowed_at h c hp1; omega
/-- the rows of a text -/
def Rws (W : World) (g n : Nat) (t : Nat → Nat) : Prop := ∃ nu : Nat → Nat, VJ W g n (fun r => ((nu r : Nat) : Int)) ∧ (∀ i, i < n → nu (rank n t i) = i) ∧ ∀ r, r < n → nu r < n ∧ rank n t (nu r) = r
theorem Rws.from_ {W W' : World} {g : Nat} (h : Rws W g n t) (hF : From W W') : Rws W' g n t := by
  obtain ⟨nu, a, b⟩ := h
  exact ⟨nu, a.from_ hF, b⟩
theorem rws_of {W : World} {g : Nat} {xs : Nat → Int} (ht : Txt n t) (hso : Sorted n t idx) (hx : VJ W g n xs) (hp : ∀ i, i < n → xs (pos n t idx i) = (i : Nat)) : Rws W g n t := by
  have hs : ∀ r, r < n → ∃ i, i < n ∧ rank n t i = r := surj (fun i hi => rank_lt hi) (fun i j hi hj he => rank_inj ht hi hj he)
  have hr : ∀ i, i < n → xs (rank n t i) = (i : Nat) := fun i hi => by rw [← pos_rank ht hso hi]; exact hp i hi
  refine ⟨fun r => (xs r).toNat, hx.congr fun r hr2 => ?_, fun i hi => ?_, fun r hr2 => ?_⟩
  · obtain ⟨i, hi, rfl⟩ := hs r hr2
    show xs (rank n t i) = ((xs (rank n t i)).toNat : Int)
    rw [hr i hi, Int.toNat_natCast]
  · show (xs (rank n t i)).toNat = i
    rw [hr i hi]
    simp
  · obtain ⟨i, hi, rfl⟩ := hs r hr2
    show (xs (rank n t i)).toNat < n ∧ rank n t (xs (rank n t i)).toNat = rank n t i
    rw [hr i hi]
    simpa using hi
theorem ord_next {n1 : Nat} {t1 nu : Nat → Nat} (ht : Txt n t) (H : Starts n1 t1 n ss) (hrel : ∀ a c, a < n → c < n → (sl n t a c ↔ sl n1 t1 (ss a) (ss c))) (hnu : ∀ r, r < n → nu r < n ∧ rank n t (nu r) = r) :
    (∀ q, q < n → lms n1 t1 (ss (nu q)) ∧ rank n t (idxS n ss (ss (nu q))) = q) ∧ (∀ s, lms n1 t1 s → rank n t (idxS n ss s) < n) ∧ Ord n1 t1 (fun s => rank n t (idxS n ss s)) ∧ Sorted n1 t1 (fun s => rank n t (idxS n ss s)) := by
  refine ⟨fun q hq => ⟨H.is _ (hnu q hq).1, ?_⟩, fun s hs => ?_, ⟨fun i j hi hj he => ?_⟩, fun i j hi hj hs => ?_⟩
  · rw [idx_at H (hnu q hq).1]
    exact (hnu q hq).2
  · exact rank_lt (idx_lt H s hs)
  · exact (idx_ord H).inj i j hi hj (rank_inj ht (idx_lt H i hi) (idx_lt H j hj) he)
  · obtain ⟨a, ha, rfl⟩ := H.all i hi
    obtain ⟨b, hb, rfl⟩ := H.all j hj
    show rank n t (idxS n ss (ss a)) < rank n t (idxS n ss (ss b))
    rw [idx_at H ha, idx_at H hb]
    exact rank_mono ((hrel a b ha hb).2 hs)
theorem rank_last (h : Txt n t) : rank n t (n - 1) = 0 := cnt_none fun j hj ⟨k, h1, h2, h3, h4⟩ => by
  obtain rfl : k = 0 := by omega
  rw [Nat.add_zero, Nat.add_zero, h.last] at h4
  omega
theorem endT_lt {L : List Nat} (hx : ∀ x ∈ L, x < 512) (i : Nat) : endT L i < 513 := by
  unfold endT
  split
  · have := hx _ (List.getElem_mem ‹_›); omega
  · omega
end
end Go.Proofs.Ytpafbgdbjambgaa
