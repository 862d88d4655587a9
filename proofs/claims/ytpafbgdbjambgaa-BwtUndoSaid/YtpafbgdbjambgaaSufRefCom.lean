/- the reference: Common. -/
import Derived.Test.YtpafbgdbjambgaaSufHelp
namespace Go.Proofs.Ytpafbgdbjambgaa
open Go.RowKit
open Go.ChangeShapes Go.WideShapes Go.ChangeAt
open Go.Proofs.Ytpafbgdbjambgaa.SA
theorem SufRefCom_e24 : elemQ Try.prog 24 = some (3, 1) := by kernel_rfl
theorem SufRefCom_q24 : litQ Try.prog 24 = some (3, 1, 8, (.int .i64 0)) := by kernel_rfl
/-- h symbols in common -/
def agr (L : List Nat) (i j h : Nat) : Prop := i + h ≤ L.length ∧ j + h ≤ L.length ∧ ∀ m, m < h → L.getD (i + m) 0 = L.getD (j + m) 0
/-- and no more -/
def stop (L : List Nat) (i j h : Nat) : Prop := ¬ (i + h < L.length ∧ j + h < L.length ∧ L.getD (i + h) 0 = L.getD (j + h) 0)
theorem lcp_uniq {L : List Nat} {i j h h2 : Nat} (a : agr L i j h) (b : stop L i j h) (c : agr L i j h2) (d : stop L i j h2) : h = h2 := by
  rcases Nat.lt_trichotomy h h2 with x | x | x
  · exact absurd ⟨by have := c.1; omega, by have := c.2.1; omega, c.2.2 h x⟩ b
  · exact x
  · exact absurd ⟨by have := a.1; omega, by have := a.2.1; omega, a.2.2 h2 x⟩ d
theorem agr_succ {L : List Nat} {i j h : Nat} (a : agr L i j h) (h1 : i + h < L.length) (h2 : j + h < L.length) (h3 : L.getD (i + h) 0 = L.getD (j + h) 0) : agr L i j (h + 1) :=
  ⟨by omega, by omega, fun m hm => by
    rcases Nat.eq_or_lt_of_le (Nat.le_of_lt_succ hm) with e | e
    · subst e; exact h3
    · exact a.2.2 m e⟩
/-- what neighbours have in common -/
structure IsCm (L F C : List Nat) : Prop where
  len : C.length = F.length
  at0 : 0 < C.length → C.getD 0 0 = 0
  at_ : ∀ k, 0 < k → k < C.length → agr L (F.getD k 0) (F.getD (k - 1) 0) (C.getD k 0) ∧ stop L (F.getD k 0) (F.getD (k - 1) 0) (C.getD k 0)
theorem IsCm.uniq {L F C D : List Nat} (h : IsCm L F C) (k : IsCm L F D) : C = D := by
  apply List.ext_getElem (by rw [h.len, k.len])
  intro r h1 h2
  have e : C.getD r 0 = D.getD r 0 := by
    rcases Nat.eq_zero_or_pos r with e | e
    · subst e; rw [h.at0 h1, k.at0 h2]
    · exact lcp_uniq (h.at_ r e h1).1 (h.at_ r e h1).2 (k.at_ r e h2).1 (k.at_ r e h2).2
  rw [List.getD_eq_getElem?_getD, List.getD_eq_getElem?_getD, List.getElem?_eq_getElem h1, List.getElem?_eq_getElem h2] at e
  exact e
theorem rowD {w : World} {A : Option Addr} {L : List Nat} (h : RowOf iV w A (cI L)) (h0 : 0 < L.length) : ∃ b o, A = some ⟨b, o, none⟩ ∧ ∀ i, i < L.length → w.cell? ⟨b, o + i, none⟩ = some (.int .i64 ((L.getD i 0 : Nat) : Int)) := by
  obtain ⟨b, o, rfl, hc⟩ := rowL h h0
  refine ⟨b, o, rfl, fun i hi => ?_⟩
  rw [hc i hi, List.getD_eq_getElem?_getD, List.getElem?_eq_getElem hi]
  rfl
theorem getD_app {C : List Nat} {x k : Nat} : (C ++ [x]).getD k 0 = if k < C.length then C.getD k 0 else if k = C.length then x else 0 := by
  rw [List.getD_eq_getElem?_getD, List.getD_eq_getElem?_getD, List.getElem?_append]
  split
  · rfl
  · split
    · rename_i e; subst e; simp
    · rw [List.getElem?_eq_none (by simp; omega)]; rfl
/-- as far as it is told -/
structure CmTo (L F C : List Nat) (k : Nat) : Prop where
  len : C.length = k
  at0 : 0 < k → C.getD 0 0 = 0
  at_ : ∀ q, 0 < q → q < k → agr L (F.getD q 0) (F.getD (q - 1) 0) (C.getD q 0) ∧ stop L (F.getD q 0) (F.getD (q - 1) 0) (C.getD q 0)
theorem CmTo.push {L F C : List Nat} {k h : Nat} (a : CmTo L F C k) (h0 : k = 0 → h = 0) (h1 : 0 < k → agr L (F.getD k 0) (F.getD (k - 1) 0) h ∧ stop L (F.getD k 0) (F.getD (k - 1) 0) h) : CmTo L F (C ++ [h]) (k + 1) := by
  have hl := a.len
  refine ⟨by simp [hl], fun _ => ?_, fun q hq hk => ?_⟩
  · rw [getD_app, hl]
    split
    · exact a.at0 (by omega)
    · rw [if_pos (by omega)]; exact h0 (by omega)
  · rw [getD_app, hl]
    by_cases e : q < k
    · rw [if_pos e]; exact a.at_ q hq e
    · obtain rfl : q = k := by omega
      rw [if_neg e, if_pos rfl]
      exact h1 hq
end Go.Proofs.Ytpafbgdbjambgaa
