/- slices.Backward of 32-bit numbers, as an iterator. -/
import Derived.Test.YtpafbgdbjambgaaFast17
import Derived.Test.YtpafbgdbjambgaaSufData
namespace Go.Proofs.Ytpafbgdbjambgaa
open Go.RowKit Go.Shelf
attribute [local go_sem] Oper.semAt_some

def BackRd (Bs b o m c : Nat) (f : Nat → Int) (W : World) : Prop := W.cell? ⟨Bs, 0, none⟩ = some (.slice (some ⟨b, o, none⟩) m c) ∧ ∀ j, j < m → W.cell? ⟨b, o + j, none⟩ = some (.int .i32 (f j))
set_option maxRecDepth 100000 in
set_option maxHeartbeats 4000000 in
theorem back_iter (Bs b o m c : Nat) (f : Nat → Int) (hm : m ≤ 1000000) :
    IterOK Try.prog 39 #[.pointer (some ⟨Bs, 0, none⟩)] (fun k => .int .i64 ((m - 1 - k : Nat) : Int)) (fun k => .int .i32 (f (m - 1 - k))) m (BackRd Bs b o m c f) := by
  refine ⟨fun l J W hRd hY h0 => ?_⟩
  refine callsIn_of_wp Try.func39 rfl trivial ?_ rfl
  simp only [Try.ntmps39, List.size_toArray, List.length_cons, List.length_nil, Nat.reduceAdd, Nat.reduceSub, Array.replicate_succ, Array.replicate_zero, List.push_toArray, List.append_toArray, List.nil_append, List.cons_append]
  have hBs := (hRd 0 W h0).1
  gi_wp2
  gi_loopw [3] (fun i wr => ∃ k : Nat, k ≤ m ∧ i = .int .i64 ((m : Int) - 1 - k) ∧ J k wr) (fun i _ => (intOf i + 1).toNat)
  case atStart => exact ⟨0, Nat.zero_le _, by simp, h0⟩
  case round =>
    obtain ⟨k, hk, rfl, hJ⟩ := hrel
    by_cases hlt : k < m
    · obtain ⟨i, e1, e2, him⟩ : ∃ i : Nat, ((m : Int) - 1 - k) = (i : Int) ∧ m - 1 - k = i ∧ i < m := ⟨m - 1 - k, by omega, rfl, by omega⟩
      have hy := hY k wr hlt hJ
      simp only [e2] at hy
      obtain ⟨fn, tmps, assign, body, hy, hR⟩ := hy
      have hBk := (hRd k wr hJ).1
      have hck := (hRd k wr hJ).2 i him
      clear e2
      rw [e1]
      gi_wp2
      refine hR.mono ?_
      rintro e W3 ⟨rfl, hJ3⟩
      gi_wp2
      go_roundw
      case rel => exact ⟨k + 1, by omega, by congr 1; omega, hJ3⟩
      case measure => simp [intOf]
    · obtain rfl : k = m := by omega
      have e1 : ((k : Int) - 1 - k) = -1 := by omega
      rw [e1]
      gi_wp2
      go_end0
      exact ⟨⟨_, rfl⟩, hJ⟩
end Go.Proofs.Ytpafbgdbjambgaa
