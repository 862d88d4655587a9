/- Arguments that are entries. -/
import Derived.Test.YtnnknoohhoifbaaArg
import Derived.Test.YtnnknoohhoifbaaEntMath
namespace Go.Proofs.Ytnnknoohhoifbaa
open Go.RowKit
/-- the entries that a slice value reads as -/
abbrev EntTy : Ty := .pr (.int .i64) (.pr (.int .i64) (.pr .str .unit))
theorem ents_of {w : World} {c : Nat → Option Value} {xs : List EntTy.den} (h : (Ty.sl EntTy).At w c xs) :
    ∃ (v : Value) (es : List Ent), c 0 = some v ∧ Ents w v es ∧ (∀ e ∈ es, e.Ok) ∧ es.length * 32 ≤ 140737488351232 := by
  obtain ⟨A, cap, h0, h1, h2, h3⟩ := h
  refine ⟨_, xs.map fun x => ⟨x.1, x.2.1, x.2.2.1⟩, h0, ⟨A, cap, by rw [List.length_map], by rw [List.length_map]; exact h2.1, h2.2.1, h2.2.2, fun hp => ?_⟩, ?_, by rw [List.length_map]; exact h1⟩
  · rw [List.length_map] at hp
    obtain ⟨b, o, hA, hb, hi⟩ := h3 hp
    refine ⟨b, o, hA, hb, fun i hil => ?_⟩
    rw [List.length_map] at hil
    obtain ⟨⟨c1, _⟩, ⟨c2, _⟩, ⟨c3, _⟩, _⟩ := hi i _ (List.getElem?_eq_getElem hil)
    rw [List.getElem_map]
    exact ⟨c1, c2, c3⟩
  · intro e he
    simp only [List.mem_map] at he
    obtain ⟨x, hx, rfl⟩ := he
    obtain ⟨i, hil, rfl⟩ := List.mem_iff_getElem.1 hx
    obtain ⟨b, o, hA, hb, hi⟩ := h3 (Nat.lt_of_le_of_lt (Nat.zero_le _) hil)
    obtain ⟨⟨_, c1⟩, ⟨_, c2⟩, ⟨_, c3⟩, _⟩ := hi i _ (List.getElem?_eq_getElem hil)
    have b1 := bounds_i64 c1
    have b2 := bounds_i64 c2
    exact ⟨b1.1, b1.2, b2.1, b2.2, c3⟩
end Go.Proofs.Ytnnknoohhoifbaa
