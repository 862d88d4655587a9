/- session: sessions with their hits, out of an argument. -/
import Derived.Test.YtbikemhokgcboaaSesSpoil
namespace Go.Proofs.Ytbikemhokgcboaa
open Go.RowKit
open Go.ChangeShapes Go.WideShapes Go.ChangeAt
theorem at_hits {w : World} {H : Option Addr} {hits : List hitT.den} (h : 0 < hits.length → ∃ b o, H = some ⟨b, o, none⟩ ∧ b < w.heap.size ∧ ∀ (i : Nat) (x : hitT.den), @getElem? (List hitT.den) Nat hitT.den _ _ hits i = some x → hitT.At w (fun j => w.cell? ⟨b, o + i * hitT.size + j, none⟩) x) : ∃ HX : List HitX, HX.length = hits.length ∧ RowHt w H HX := by
  refine ⟨hits.map fun x => ⟨x.1, x.2.1⟩, List.length_map _, fun h0 => ?_⟩
  rw [List.length_map] at h0
  obtain ⟨b, o, hA, _, hx⟩ := h h0
  refine ⟨b, o, hA, fun i hi => ?_⟩
  rw [List.length_map] at hi
  obtain ⟨g0, g1, _⟩ := hx i _ (List.getElem?_eq_getElem hi)
  rw [List.getElem_map]
  intro j v hv
  match j, hv with
  | 0, hv => simp [hitV] at hv; subst hv; exact g0.1
  | 1, hv => simp [hitV] at hv; subst hv; exact g1.1
theorem at_sesH {w : World} {c : Nat → Option Value} {xs : List sesT.den} (h : (Ty.sl sesT).At w c xs) : ∃ (A : Option Addr) (cap : Nat) (L : List Ses) (HL : List (List HitX)), c 0 = some (.slice A L.length cap) ∧ RowS w A L ∧ L.length * 64 ≤ 140737488351232 ∧ (A = none → cap = 0) ∧ L.length ≤ cap ∧ L.length = HL.length ∧ ∀ i (h1 : i < L.length) (h2 : i < HL.length), L[i].hl = HL[i].length ∧ L[i].hl * 24 ≤ 140737488351232 ∧ RowHt w L[i].H HL[i] := by
  obtain ⟨A, cap, h0, hb, hcap, hi⟩ := h
  rcases Nat.eq_zero_or_pos xs.length with hz | hz
  · exact ⟨A, cap, [], [], by rw [h0, hz]; rfl, fun h => absurd h (by simp), by simp, hcap.2.2, Nat.zero_le _, rfl, fun i h => absurd h (by simp)⟩
  · obtain ⟨b, o, hA, _, hx⟩ := hi hz
    obtain ⟨M, hM, hP⟩ := list_choose (α := Ses × List HitX) (n := xs.length) (P := fun i x => w.rangeAt b (o + i * 6) (sesV x.1) ∧ x.1.hl = x.2.length ∧ x.1.hl * 24 ≤ 140737488351232 ∧ RowHt w x.1.H x.2) (fun i hi => by
      obtain ⟨g0, g1, ⟨g2, g3, ⟨H, hc, g4, hb4, _, hh⟩, _⟩, g5, _⟩ := hx i _ (List.getElem?_eq_getElem hi)
      obtain ⟨HX, e1, e2⟩ := at_hits hh
      exact ⟨(⟨_, _, _, _, H, _, hc, _⟩, HX), range6 (a := o + i * 6) g0.1 g1.1 g2.1 g3.1 g4 g5.1, e1.symm, hb4, e2⟩)
    refine ⟨A, cap, M.map (·.1), M.map (·.2), by rw [h0, List.length_map, hM], fun _ => ⟨b, o, hA, fun i hi => ?_⟩, by rw [List.length_map, hM]; exact hb, hcap.2.2, by rw [List.length_map, hM]; exact hcap.1, by rw [List.length_map, List.length_map], fun i h1 h2 => ?_⟩
    · rw [List.length_map] at hi
      rw [List.getElem_map]
      exact (hP i hi).1
    · rw [List.length_map] at h1
      rw [List.getElem_map, List.getElem_map]
      exact (hP i h1).2
theorem at_actsH {w : World} {c : Nat → Option Value} {xs : List actT.den} (h : (Ty.sl actT).At w c xs) : ∃ (A : Option Addr) (cap : Nat) (L : List Act) (HL : List (List HitX)), c 0 = some (.slice A L.length cap) ∧ RowT w A L ∧ L.length * 72 ≤ 140737488351232 ∧ L.length = HL.length ∧ ∀ i (h1 : i < L.length) (h2 : i < HL.length), L[i].hl = HL[i].length ∧ L[i].hl * 24 ≤ 140737488351232 ∧ RowHt w L[i].H HL[i] := by
  obtain ⟨A, cap, h0, hb, hcap, hi⟩ := h
  rcases Nat.eq_zero_or_pos xs.length with hz | hz
  · exact ⟨A, cap, [], [], by rw [h0, hz]; rfl, fun h => absurd h (by simp), by simp, rfl, fun i h => absurd h (by simp)⟩
  · obtain ⟨b, o, hA, _, hx⟩ := hi hz
    obtain ⟨M, hM, hP⟩ := list_choose (α := Act × List HitX) (n := xs.length) (P := fun i x => w.rangeAt b (o + i * 7) (actV x.1) ∧ x.1.hl = x.2.length ∧ x.1.hl * 24 ≤ 140737488351232 ∧ RowHt w x.1.H x.2) (fun i hi => by
      obtain ⟨g0, g1, g2, g3, ⟨g4, g5, ⟨H, hc, g6, hb6, _, hh⟩, _⟩, _⟩ := hx i _ (List.getElem?_eq_getElem hi)
      obtain ⟨HX, e1, e2⟩ := at_hits hh
      exact ⟨(⟨_, _, _, _, _, _, H, _, hc⟩, HX), range7 (a := o + i * 7) g0.1 g1.1 g2.1 g3.1 g4.1 g5.1 g6, e1.symm, hb6, e2⟩)
    refine ⟨A, cap, M.map (·.1), M.map (·.2), by rw [h0, List.length_map, hM], fun _ => ⟨b, o, hA, fun i hi => ?_⟩, by rw [List.length_map, hM]; exact hb, by rw [List.length_map, List.length_map], fun i h1 h2 => ?_⟩
    · rw [List.length_map] at hi
      rw [List.getElem_map]
      exact (hP i hi).1
    · rw [List.length_map] at h1
      rw [List.getElem_map, List.getElem_map]
      exact (hP i h1).2
end Go.Proofs.Ytbikemhokgcboaa
