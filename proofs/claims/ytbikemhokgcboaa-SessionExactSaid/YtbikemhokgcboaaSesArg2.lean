/- The argument once more, with its capacities. -/
import Derived.Test.YtbikemhokgcboaaSesDone
import Derived.Test.YtbikemhokgcboaaSesLaw
namespace Go.Proofs.Ytbikemhokgcboaa
open Go.RowKit
open Go.ChangeShapes Go.WideShapes Go.ChangeAt
theorem at_ses2 {w : World} {c : Nat → Option Value} {xs : List sesT.den} (h : (Ty.sl sesT).At w c xs) : ∃ (A : Option Addr) (cap : Nat) (L : List Ses), c 0 = some (.slice A L.length cap) ∧ RowS w A L ∧ L.length * 64 ≤ 140737488351232 ∧ L.length ≤ cap ∧ cap ≤ 9223372036854775807 ∧ (A = none → cap = 0) := by
  obtain ⟨A, cap, L, h0, h1, h2⟩ := at_ses h
  obtain ⟨A', cap', h0', _, h3, _⟩ := h
  rw [h0] at h0'
  simp only [Option.some.injEq, Value.slice.injEq] at h0'
  obtain ⟨rfl, hl, rfl⟩ := h0'
  exact ⟨A, cap, L, h0, h1, h2, by omega, h3.2.1, h3.2.2⟩
theorem done_hl {L K : List Ses} {cl sq e n idx err : Int} {hl : Nat} (h : DoneGot L cl sq e n hl idx K err) : (∀ i (h : i < K.length), K[i].hl = 0) ∧ K.length ≤ L.length := by
  rcases h with ⟨_, rfl, _⟩ | ⟨_, _, rfl, _⟩ | ⟨i, hi, _, _, rfl, _⟩
  · exact ⟨fun i h => absurd h (by simp), by simp⟩
  · exact ⟨fun i h => absurd h (by simp), by simp⟩
  · refine ⟨fun j hj => ?_, by simp⟩
    rw [List.getElem_set]
    split
    · rfl
    · exact norm_hl L _ (List.getElem_mem _)
theorem rep_act {w : World} {b t : Nat} {x : Act} (h : Blk w b t (actV x).toArray) : w.rangeAt b (0 + 4) [.int .i64 x.e, .int .i64 x.n, .slice x.H x.hl x.hc] := fun j v hv => by
  rw [h.cell]
  match j, hv with
  | 0, hv => exact hv
  | 1, hv => exact hv
  | 2, hv => exact hv
  | j + 3, hv => simp at hv
theorem close_hl {L K : List Ses} {cl err : Int} (h : CloseGot L cl K err) : (∀ i (h : i < K.length), K[i].hl = 0) ∧ K.length ≤ L.length ∧ K.map norm = K := by
  rcases h with ⟨_, rfl, _⟩ | ⟨i, hi, _, rfl, _⟩
  · exact ⟨fun i h => absurd h (by simp), by simp, rfl⟩
  · refine ⟨fun j hj => ?_, by rw [close_len hi]; omega, ?_⟩
    · have hm : ∀ x ∈ (L.map norm).take i ++ (L.map norm).drop (i + 1), x.hl = 0 := fun x hx => by
        rcases List.mem_append.1 hx with a | a
        · exact norm_hl L x (List.mem_of_mem_take a)
        · exact norm_hl L x (List.mem_of_mem_drop a)
      exact hm _ (List.getElem_mem _)
    · rw [List.map_append, List.map_take, List.map_drop, List.map_map]
      rfl
end Go.Proofs.Ytbikemhokgcboaa
