/- suffix: Common. -/
import Derived.Test.YtpafbgdbjambgaaSufRefCom
import Derived.Test.YtpafbgdbjambgaaSaF
namespace Go.Proofs.Ytpafbgdbjambgaa
open Go.RowKit
open Go.ChangeShapes Go.WideShapes Go.ChangeAt
open Go.Proofs.Ytpafbgdbjambgaa.SA
theorem SufCommon_e24 : elemQ Try.prog 24 = some (3, 1) := by kernel_rfl
theorem SufCommon_m24 : makeQ Try.prog 24 = some (3, 8, (.int .i64 0)) := by kernel_rfl
theorem endT_getD {L : List Nat} {i : Nat} (h : i < L.length) : endT L i = L.getD i 0 + 1 := by
  rw [endT_at h, List.getD_eq_getElem?_getD, List.getElem?_eq_getElem h]
  rfl
theorem agr_endT {L : List Nat} {i j h : Nat} (a : agr L i j h) : ∀ m, m < h → endT L (j + m) = endT L (i + m) := fun m hm => by
  obtain ⟨a1, a2, a3⟩ := a
  rw [endT_getD (show j + m < L.length by omega), endT_getD (show i + m < L.length by omega), a3 m hm]
theorem isSA_getD {L F : List Nat} (h : IsSA L F) {r : Nat} (hr : r < L.length) : F.getD r 0 < L.length ∧ rank (L.length + 1) (endT L) (F.getD r 0) = r + 1 := by
  have hr2 : r < F.length := by rw [h.len]; exact hr
  rw [List.getD_eq_getElem?_getD, List.getElem?_eq_getElem hr2]
  exact h.at_ r hr2
theorem isSA_inv {L F : List Nat} (h : IsSA L F) {i : Nat} (hi : i < L.length) : 0 < rank (L.length + 1) (endT L) i ∧ rank (L.length + 1) (endT L) i - 1 < L.length ∧ F.getD (rank (L.length + 1) (endT L) i - 1) 0 = i := by
  have ht := endT_txt L
  have h0 : 0 < rank (L.length + 1) (endT L) i := by
    rcases Nat.eq_zero_or_pos (rank (L.length + 1) (endT L) i) with e | e
    · have := rank_inj ht (show i < L.length + 1 by omega) (show L.length + 1 - 1 < L.length + 1 by omega) (by rw [e, rank_last ht])
      omega
    · exact e
  have hl := rank_lt (n := L.length + 1) (t := endT L) (show i < L.length + 1 by omega)
  have h1 : rank (L.length + 1) (endT L) i - 1 < L.length := by omega
  obtain ⟨a, b⟩ := isSA_getD h h1
  exact ⟨h0, h1, rank_inj ht (by omega) (by omega) (by rw [b]; omega)⟩
/-- the step of Kasai's walk -/
theorem kasai_step {L F : List Nat} (hS : IsSA L F) {i r h r2 : Nat} (hi : i + 1 < L.length) (hr : rank (L.length + 1) (endT L) i = r + 1) (h0 : 0 < r) (hag : agr L i (F.getD (r - 1) 0) h) (hr2 : rank (L.length + 1) (endT L) (i + 1) = r2 + 1) (h2 : 0 < r2) : agr L (i + 1) (F.getD (r2 - 1) 0) (h - 1) := by
  have ht := endT_txt L
  have hl1 := rank_lt (n := L.length + 1) (t := endT L) (show i < L.length + 1 by omega)
  have hl2 := rank_lt (n := L.length + 1) (t := endT L) (show i + 1 < L.length + 1 by omega)
  obtain ⟨a1, a2⟩ := isSA_getD hS (show r - 1 < L.length by omega)
  obtain ⟨b1, b2⟩ := isSA_getD hS (show r2 - 1 < L.length by omega)
  have hj : sl (L.length + 1) (endT L) (F.getD (r - 1) 0) i := (rank_iff ht (by omega) (by omega)).1 (by omega)
  have hk : sl (L.length + 1) (endT L) (F.getD (r2 - 1) 0) (i + 1) := (rank_iff ht (by omega) (by omega)).1 (by omega)
  have key := kasai (agr_endT hag) hj hk (fun x hx => by
    have hxl := (sl_lt hx).1
    have := rank_mono hx
    rcases Nat.lt_or_ge (rank (L.length + 1) (endT L) x) (r2 - 1 + 1) with c | c
    · exact .inr ((rank_iff ht hxl (by omega)).1 (by omega))
    · exact .inl (rank_inj ht hxl (by omega) (by omega)))
  obtain ⟨g1, g2, g3⟩ := hag
  have hb : ∀ q, q < h - 1 → F.getD (r2 - 1) 0 + q < L.length := by
    intro q hq
    rcases Nat.lt_or_ge (F.getD (r2 - 1) 0 + q) L.length with c | c
    · exact c
    · exfalso
      have e := key (L.length - F.getD (r2 - 1) 0) (by omega)
      rw [show F.getD (r2 - 1) 0 + (L.length - F.getD (r2 - 1) 0) = L.length by omega, endT_end, endT_getD (by omega)] at e
      omega
  refine ⟨by omega, ?_, fun q hq => ?_⟩
  · rcases Nat.eq_zero_or_pos (h - 1) with e | e
    · omega
    · have := hb (h - 1 - 1) (by omega); omega
  · have e := key q hq
    have := hb q hq
    rw [endT_getD this, endT_getD (show i + 1 + q < L.length by omega)] at e
    omega
end Go.Proofs.Ytpafbgdbjambgaa
