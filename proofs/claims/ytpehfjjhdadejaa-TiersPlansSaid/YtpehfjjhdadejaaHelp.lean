/- Walks of the references' small helpers: copies, comparisons. -/
import Derived.Test.YtpehfjjhdadejaaBase
namespace Go.Proofs.Ytpehfjjhdadejaa
open Go.RowKit
/-- lecternref0.CopyNumbers -/
theorem copyNumbers_info : (Try.prog.info? 3).map (fun i => (i.zero, i.size, i.bytes)) = some (some (.int .i64 0), 1, 8) := by kernel_rfl

set_option maxRecDepth 100000 in
set_option maxHeartbeats 400000 in
theorem copyNumbers_any (v : Value) (xs : List Int) (w : World) (hr : Row w v (xs.map fun x => .int .i64 x)) (hlen : xs.length ≤ 1000000000000) :
    Calls Try.prog 10 #[v] w fun e w' => ∃ v', e = .returned v' ∧ w'.ownsRow w.heap.size 3 1 v' xs.length (xs.map fun x => .int .i64 x) ∧ From w w' := by
  obtain ⟨i0, hi0, hz0, hz1, hz2⟩ := info_parts copyNumbers_info
  obtain ⟨A, cap, rfl, hrow⟩ := row_vals hr
  go_enter Try.func10, Try.ntmps10
  go_wp2
  go_loopw [3, 4] (fun v i wr => ∃ j : Nat, j ≤ xs.length ∧ i = .int .i64 j ∧ wr.ownsRow w.heap.size 3 1 v j ((xs.take j).map fun x => .int .i64 x) ∧ From w wr) (fun _ i _ => xs.length - (intOf i).toNat)
  case atStart => exact ⟨0, by omega, rfl, World.ownsRow_nil _ _ _ _, From.rfl_⟩
  case round =>
    obtain ⟨j, hj, rfl, hown, hw⟩ := hrel
    by_cases hlt : j < xs.length
    · obtain ⟨b, o, rfl, hb, hc⟩ := hrow (by omega)
      have d1 := (hw.cells b (o + j) hb).trans (hc j hlt)
      have hr1 : (j + 1) * 8 ≤ 140737488355328 := by omega
      have hr2 : j + 1 ≤ maxLen := by unfold maxLen; omega
      have i1 : (0 : Int) ≤ (j : Int) := by omega
      have i2 : (j : Int) < (xs.length : Int) := by omega
      have hsn : xs.take (j + 1) = xs.take j ++ [xs[j]] := List.take_succ_eq_append_getElem hlt
      have HS := Lib.hid hsn
      clear hc hrow hr hsn
      go_wp2_with (at_builtin; refine wpList_push w rfl (.tmp 11) (.tmp 16) 23 rfl 3 i0 _ 8 Try.underlying23 hi0 hz0 hz1 hz2 rfl _ _ _ rfl hown hw rfl rfl hr1 hr2 ?_; intro v1 w1 hown1 hw1)
      go_roundw
      case rel => exact ⟨j + 1, by omega, by go_num, by rw [HS.out, List.map_append]; exact hown1, hw1⟩
      case measure => simp [intOf]; omega
    · obtain hjl : j = xs.length := by omega
      have HJ := Lib.hid hjl
      clear hjl
      go_wp2
      go_ret
      exact ⟨_, rfl, by rw [HJ.out, List.take_length] at hown; exact hown, hw⟩

/-- lecternref0.EqNumbers -/
theorem eqNumbers_step {xs ys : List Int} {j : Nat} (h1 : j < xs.length) (h2 : j < ys.length) (h : xs.take j = ys.take j) (e : xs[j] = ys[j]) : xs.take (j + 1) = ys.take (j + 1) := by
  rw [List.take_succ_eq_append_getElem h1, List.take_succ_eq_append_getElem h2, h, e]
set_option maxRecDepth 100000 in
set_option maxHeartbeats 400000 in
theorem eqNumbers_any (v u : Value) (xs ys : List Int) (w : World) (hr : Row w v (xs.map fun x => .int .i64 x)) (hs : Row w u (ys.map fun x => .int .i64 x)) (hlen : xs.length ≤ 1000000000000) :
    Calls Try.prog 13 #[v, u] w fun e w' => e = .returned (.bool (decide (xs = ys))) ∧ From w w' := by
  obtain ⟨A, cap, rfl, hrow⟩ := row_vals hr
  obtain ⟨B, cap2, rfl, hrow2⟩ := row_vals hs
  by_cases hl : xs.length = ys.length
  · have t0 : ((xs.length : Int) != (ys.length : Int)) = false := by simp; omega
    have hl2 : ys.length ≤ xs.length := by omega
    have hl3 : xs.length ≤ ys.length := by omega
    have HL := Lib.hid hl
    clear hl
    go_enter Try.func13, Try.ntmps13
    go_wp2
    go_loopw [5] (fun i wr => ∃ j : Nat, j ≤ xs.length ∧ i = .int .i64 j ∧ xs.take j = ys.take j ∧ From w wr) (fun i _ => xs.length - (intOf i).toNat)
    case atStart => exact ⟨0, by omega, rfl, rfl, From.rfl_⟩
    case round =>
      obtain ⟨j, hj, rfl, heq, hw⟩ := hrel
      have HE := Lib.hid heq
      clear heq
      by_cases hlt : j < xs.length
      · obtain ⟨b, o, rfl, hb, hc⟩ := hrow (by omega)
        obtain ⟨b2, o2, rfl, hb2, hc2⟩ := hrow2 (by omega)
        have hlt2 : j < ys.length := by omega
        have d1 : ∀ w', From w w' → w'.cell? ⟨b, o + j, none⟩ = some (.int .i64 xs[j]) := fun w' h => (h.cells b (o + j) hb).trans (hc j hlt)
        have d2 : ∀ w', From w w' → w'.cell? ⟨b2, o2 + j, none⟩ = some (.int .i64 ys[j]) := fun w' h => (h.cells b2 (o2 + j) hb2).trans (hc2 j hlt2)
        have hw2 := hw.d1
        have i1 : (0 : Int) ≤ (j : Int) := by omega
        have i2 : (j : Int) < (xs.length : Int) := by omega
        have i3 : (j : Int) < (ys.length : Int) := by omega
        have hstep := eqNumbers_step hlt hlt2 HE.out
        have HT := Lib.hid hstep
        have hno : xs[j] ≠ ys[j] → xs ≠ ys := fun h e => h (by subst e; rfl)
        have HN := Lib.hid hno
        clear hc hc2 hrow hrow2 hr hs hstep hno
        generalize xs[j] = x1 at *
        generalize ys[j] = y1 at *
        by_cases hx : x1 = y1
        · have t1 : (x1 != y1) = false := by simpa using hx
          have HX := Lib.hid hx
          clear hx
          go_wp2_with fail
          go_quiet (fail)
          go_wp2
          go_roundw
          case rel => exact ⟨j + 1, by omega, by go_num, HT.out HX.out, hw.dn _⟩
          case measure => simp [intOf]; omega
        · have t1 : (x1 != y1) = true := by simpa using hx
          have HX := Lib.hid hx
          clear hx
          go_wp2_with fail
          go_quiet (fail)
          go_wp2
          go_ret
          exact ⟨by rw [decide_eq_false (HN.out HX.out)]; rfl, hw.dn _⟩
      · have hfin : xs = ys := by
          have := HE.out
          rwa [List.take_of_length_le (by omega), List.take_of_length_le (by omega)] at this
        have HF := Lib.hid hfin
        clear hfin
        go_wp2
        go_ret
        exact ⟨by rw [decide_eq_true HF.out]; rfl, hw⟩
  · have t0 : ((xs.length : Int) != (ys.length : Int)) = true := by simp; omega
    have hne : xs ≠ ys := fun e => hl (by rw [e])
    have HN := Lib.hid hne
    clear hl hne
    go_enter Try.func13, Try.ntmps13
    go_wp2
    go_ret
    exact ⟨by rw [decide_eq_false HN.out]; rfl, From.rfl_⟩

end Go.Proofs.Ytpehfjjhdadejaa
