/- suffix: Common, walked. -/
import Derived.Test.YtgihpoggeaanjaaSufCommon
namespace Go.Proofs.Ytgihpoggeaanjaa
open Go.RowKit
open Go.ChangeShapes Go.WideShapes Go.ChangeAt
open Go.Proofs.Ytgihpoggeaanjaa.SA
theorem SufComWalk_e24 : elemQ Try.prog 24 = some (3, 1) := by kernel_rfl
theorem SufComWalk_m24 : makeQ Try.prog 24 = some (3, 8, (.int .i64 0)) := by kernel_rfl
/-- the rank in a list -/
noncomputable def rkF (L : List Nat) (i : Nat) : Nat := rank (L.length + 1) (endT L) i - 1
/-- what is told of the suffixes below i -/
structure CmI (L F : List Nat) (i : Nat) (cm : Nat → Int) : Prop where
  at0 : ∀ j, j < i → rkF L j = 0 → cm 0 = 0
  at_ : ∀ j, j < i → 0 < rkF L j → ∃ h : Nat, cm (rkF L j) = (h : Int) ∧ agr L j (F.getD (rkF L j - 1) 0) h ∧ stop L j (F.getD (rkF L j - 1) 0) h
theorem rkF_inj {L F : List Nat} (hS : IsSA L F) {i j : Nat} (hi : i < L.length) (hj : j < L.length) (he : rkF L i = rkF L j) : i = j := by
  obtain ⟨_, _, a⟩ := isSA_inv hS hi
  obtain ⟨_, _, b⟩ := isSA_inv hS hj
  unfold rkF at he
  rw [he] at a
  rw [← a, b]
theorem CmI.skip {L F : List Nat} (hS : IsSA L F) {i : Nat} {cm : Nat → Int} (h : CmI L F i cm) (hi : i < L.length) (hr : rkF L i = 0) (h0 : cm 0 = 0) : CmI L F (i + 1) cm :=
  ⟨fun j hj e => h0, fun j hj e => by
    rcases Nat.eq_or_lt_of_le (Nat.le_of_lt_succ hj) with x | x
    · subst x; omega
    · exact h.at_ j x e⟩
theorem CmI.put {L F : List Nat} (hS : IsSA L F) {i q : Nat} {cm : Nat → Int} (h : CmI L F i cm) (hi : i < L.length) (hr : 0 < rkF L i) (ha : agr L i (F.getD (rkF L i - 1) 0) q) (hs : stop L i (F.getD (rkF L i - 1) 0) q) : CmI L F (i + 1) (upd cm (rkF L i) (q : Int)) :=
  ⟨fun j hj e => by
    rcases Nat.eq_or_lt_of_le (Nat.le_of_lt_succ hj) with x | x
    · subst x; omega
    · rw [upd_ne _ _ (by omega)]; exact h.at0 j x e, fun j hj e => by
    rcases Nat.eq_or_lt_of_le (Nat.le_of_lt_succ hj) with x | x
    · subst x; exact ⟨q, upd_same _ _ _, ha, hs⟩
    · rw [upd_ne _ _ (fun e2 => by have := rkF_inj hS (by omega) hi e2; omega)]; exact h.at_ j x e⟩
theorem CmI.fin {L F : List Nat} (hS : IsSA L F) {cm : Nat → Int} (h : CmI L F L.length cm) : ∃ C, IsCm L F C ∧ ∀ r, r < L.length → cm r = ((C.getD r 0 : Nat) : Int) := by
  have hl := hS.len
  have hv : ∀ r, r < L.length → ∃ c : Nat, cm r = (c : Int) ∧ (r = 0 → c = 0) ∧ (0 < r → agr L (F.getD r 0) (F.getD (r - 1) 0) c ∧ stop L (F.getD r 0) (F.getD (r - 1) 0) c) := fun r hr => by
    obtain ⟨a, b⟩ := isSA_getD hS hr
    have e : rkF L (F.getD r 0) = r := by unfold rkF; omega
    rcases Nat.eq_zero_or_pos r with x | x
    · subst x
      exact ⟨0, h.at0 _ a e, fun _ => rfl, fun y => absurd y (by omega)⟩
    · obtain ⟨q, q1, q2, q3⟩ := h.at_ _ a (by omega)
      rw [e] at q1 q2 q3
      exact ⟨q, q1, fun y => by omega, fun _ => ⟨q2, q3⟩⟩
  have hg : ∀ r, r < L.length → ((List.range L.length).map fun r => (cm r).toNat).getD r 0 = (cm r).toNat := fun r hr => by
    rw [List.getD_eq_getElem?_getD, List.getElem?_map, List.getElem?_range hr]
    rfl
  refine ⟨(List.range L.length).map fun r => (cm r).toNat, ⟨by simp [hl], fun h0 => ?_, fun k hk hk2 => ?_⟩, fun r hr => ?_⟩
  · have h00 : 0 < L.length := by simpa using h0
    obtain ⟨c, c1, c2, _⟩ := hv 0 h00
    rw [hg 0 h00, c1, c2 rfl]; rfl
  · have hk3 : k < L.length := by simpa using hk2
    obtain ⟨c, c1, _, c3⟩ := hv k hk3
    rw [hg k hk3, c1, Int.toNat_natCast]
    exact c3 hk
  · obtain ⟨c, c1, _⟩ := hv r hr
    rw [hg r hr, c1, Int.toNat_natCast]
/-- the rows, as far as they are written -/
theorem rows_put {L F : List Nat} (hS : IsSA L F) {k : Nat} {rw_ : Nat → Int} (h : ∀ j, j < k → rw_ (F.getD j 0) = (j : Int)) (hk : k < L.length) : ∀ j, j < k + 1 → upd rw_ (F.getD k 0) (k : Int) (F.getD j 0) = (j : Int) := fun j hj => by
  rcases Nat.eq_or_lt_of_le (Nat.le_of_lt_succ hj) with x | x
  · subst x; exact upd_same _ _ _
  · rw [upd_ne _ _ (fun e => by
      have a := (isSA_getD hS (show j < L.length by omega)).2
      have b := (isSA_getD hS hk).2
      rw [e] at a
      omega)]
    exact h j x
theorem rows_end {L F : List Nat} (hS : IsSA L F) {rw_ : Nat → Int} (h : ∀ j, j < L.length → rw_ (F.getD j 0) = (j : Int)) {i : Nat} (hi : i < L.length) : rw_ i = ((rkF L i : Nat) : Int) := by
  obtain ⟨_, a, b⟩ := isSA_inv hS hi
  have := h _ a
  rw [b] at this
  exact this
/-- what Common tells -/
def CommonA (w' : World) (base n : Nat) (xs zs : List Int) (v : Value) : Prop :=
  (∃ L F C A', xs = cI L ∧ zs = cI F ∧ (∀ x ∈ L, x < 512) ∧ IsSA L F ∧ IsCm L F C ∧ v = .tuple #[.slice A' n n, .int .i64 0] ∧ w'.ownsRow base 3 1 (.slice A' n n) n (C.map fun x : Nat => iV (x : Nat))) ∨
  ((xs.all (okS 512) = false ∨ ∀ L F, xs = cI L → IsSA L F → zs ≠ cI F) ∧ v = .tuple #[.slice none 0 0, .int .i64 1])
end Go.Proofs.Ytgihpoggeaanjaa
