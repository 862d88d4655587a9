/- Walks of the reference's logs: May, Last; equal entries; weights. -/
import Derived.Test.YtnnknoohhoifbaaEntRefs
namespace Go.Proofs.Ytnnknoohhoifbaa
open Go.RowKit

set_option maxRecDepth 100000 in
set_option maxHeartbeats 1000000 in
theorem may_any (B T : Int) (v : Value) (xs : List Ent) (w : World) (h : Ents w v xs) :
    Calls Try.prog 15 #[.agg #[.int .i64 B, .int .i64 T, v]] w fun r w' => r = .returned (.bool (mayLog B T xs)) ∧ From w w' := by
  obtain ⟨f0, f1, f2, hbb, hwb⟩ := box_log (w := w) (B := B) (T := T) (v := v) (t := 25)
  have hm : mayLog B T xs = mayLog B T xs := rfl
  conv at hm => rhs; unfold mayLog inb
  have HM := Lib.hid hm
  have HE := Lib.hid h
  clear hm
  obtain ⟨A, cap, rfl, hc1, hc2, hc3, hrow⟩ := h
  clear hc3 hrow
  go_enter Try.func15, Try.ntmps15
  by_cases h1 : 0 ≤ B
  · have e1 := decide_eq_true h1
    by_cases h2 : B ≤ 1099511625728
    · have e2 := decide_eq_true h2
      by_cases h3 : 0 ≤ T
      · have e3 := decide_eq_true h3
        by_cases h4 : T ≤ 1099511627775
        · have e4 := decide_eq_true h4
          by_cases h5 : xs.length ≤ 512
          · have e5 := decide_eq_true h5
            have e6 : decide ((xs.length : Int) ≤ 512) = true := by simp; omega
            rw [e1, e2, e3, e4, e5] at HM
            have hr := fun w' (h : From w w') => runs_any B T _ xs w' (HE.out.from_ h) (by omega) (by omega) (by omega)
            have HR := Lib.hid hr
            clear h1 h2 h3 h4 h5 hr
            go_wp2_with (go_at_call 39; (with_reducible refine (HR.out _ hwb).mono ?_); rintro e w1 ⟨rfl, hb1⟩)
            go_ret
            exact ⟨by rw [HM.out]; rfl, hwb.next hb1⟩
          · have e5 := decide_eq_false h5
            have e6 : decide ((xs.length : Int) ≤ 512) = false := by simp; omega
            rw [e1, e2, e3, e4, e5] at HM
            clear h1 h2 h3 h4 h5
            go_wp2
            go_ret
            exact ⟨by rw [HM.out]; rfl, hwb⟩
        · have e4 := decide_eq_false h4
          rw [e1, e2, e3, e4] at HM
          clear h1 h2 h3 h4
          go_wp2
          go_ret
          exact ⟨by rw [HM.out]; rfl, hwb⟩
      · have e3 := decide_eq_false h3
        rw [e1, e2, e3] at HM
        clear h1 h2 h3
        go_wp2
        go_ret
        exact ⟨by rw [HM.out]; rfl, hwb⟩
    · have e2 := decide_eq_false h2
      rw [e1, e2] at HM
      clear h1 h2
      go_wp2
      go_ret
      exact ⟨by rw [HM.out]; rfl, hwb⟩
  · have e1 := decide_eq_false h1
    rw [e1] at HM
    clear h1
    go_wp2
    go_ret
    exact ⟨by rw [HM.out]; rfl, hwb⟩

set_option maxRecDepth 100000 in
set_option maxHeartbeats 1000000 in
theorem refLast_any (B T : Int) (v : Value) (xs : List Ent) (w : World) (h : Ents w v xs) :
    Calls Try.prog 16 #[.agg #[.int .i64 B, .int .i64 T, v]] w fun e w' => e = .returned (.tuple #[.int .i64 (lastI B xs), .int .i64 (lastT T xs)]) ∧ From w w' := by
  obtain ⟨f0, f1, f2, hbb, hwb⟩ := box_log (w := w) (B := B) (T := T) (v := v) (t := 25)
  obtain ⟨A, cap, rfl, hc1, hc2, hc3, hrow⟩ := h
  by_cases h0 : 0 < xs.length
  · obtain ⟨b, o, rfl, hb, hc⟩ := hrow h0
    obtain ⟨l1, l2⟩ := last_at h0 B T
    obtain ⟨c1, c2, c3⟩ := hc (xs.length - 1) (by omega)
    rw [← l1] at c1
    rw [← l2] at c2
    have d1 : ∀ w', From w w' → w'.cell? ⟨b, o + (xs.length - 1) * 3, none⟩ = some (.int .i64 (lastI B xs)) := fun w' h => (h.cells b _ hb).trans c1
    have d2 : ∀ w', From w w' → w'.cell? ⟨b, o + (xs.length - 1) * 3 + 1, none⟩ = some (.int .i64 (lastT T xs)) := fun w' h => (h.cells b _ hb).trans c2
    obtain ⟨n, hn⟩ : ∃ n, xs.length = n + 1 := ⟨xs.length - 1, by omega⟩
    rw [hn] at d1 d2 hc1 f0 f1 f2 hbb hwb ⊢
    simp only [Nat.add_sub_cancel] at d1 d2
    have hd : ((((n + 1 : Nat) : Int)) == 0) = false := by simp; omega
    have hd2 : (((n : Int) + 1) == 0) = false := by simp; omega
    have i0 : ((n + 1 : Nat) : Int) - 1 = (n : Int) := by omega
    have hwr : IntKind.i64.wrap (n : Int) = (n : Int) := by rw [IntKind.wrap_i64]; omega
    have i1 : (0 : Int) ≤ (n : Int) := by omega
    have i2 : (n : Int) < ((n + 1 : Nat) : Int) := by omega
    have i3 : (n : Int) < (n : Int) + 1 := by omega
    clear hc c1 c2 c3 hrow l1 l2 hn h0
    generalize lastI B xs = x at *
    generalize lastT T xs = y at *
    go_enter Try.func16, Try.ntmps16
    go_wp2
    go_quiet (fail)
    go_wp2
    go_ret2
    exact ⟨rfl, hwb.dn _⟩
  · have hx : xs = [] := List.eq_nil_of_length_eq_zero (by omega)
    subst hx
    simp only [List.length_nil] at f0 f1 f2 hbb hwb ⊢
    go_enter Try.func16, Try.ntmps16
    go_wp2
    go_quiet (fail)
    go_wp2
    go_ret2
    exact ⟨rfl, hwb.dn _⟩

set_option maxRecDepth 100000 in
set_option maxHeartbeats 1000000 in
/-- EqEntries of the same entries -/
theorem eqEntries_same (v u : Value) (xs : List Ent) (w : World) (h1 : Ents w v xs) (h2 : Ents w u xs) (hl : xs.length ≤ 1000000000000) :
    Calls Try.prog 33 #[v, u] w fun e w' => e = .returned (.bool true) ∧ From w w' := by
  obtain ⟨A, cap, rfl, hc1, hc2, hc3, hrow⟩ := h1
  obtain ⟨A2, cap2, rfl, hd1, hd2, hd3, hrow2⟩ := h2
  go_enter Try.func33, Try.ntmps33
  go_wp2
  go_loopw [5] (fun i wr => ∃ j : Nat, j ≤ xs.length ∧ i = .int .i64 j ∧ From w wr) (fun i _ => xs.length - (intOf i).toNat)
  case atStart => exact ⟨0, by omega, rfl, From.rfl_⟩
  case round =>
    obtain ⟨j, hj, rfl, hw⟩ := hrel
    by_cases hlt : j < xs.length
    · obtain ⟨b, o, rfl, hb, hc⟩ := hrow (by omega)
      obtain ⟨b2, o2, rfl, hb2, hc'⟩ := hrow2 (by omega)
      obtain ⟨c1, c2, c3⟩ := hc j hlt
      obtain ⟨q1, q2, q3⟩ := hc' j hlt
      have d1 : ∀ w', From w w' → w'.cell? ⟨b, o + j * 3, none⟩ = some (.int .i64 xs[j].i) := fun w' h => (h.cells b _ hb).trans c1
      have d2 : ∀ w', From w w' → w'.cell? ⟨b, o + j * 3 + 1, none⟩ = some (.int .i64 xs[j].t) := fun w' h => (h.cells b _ hb).trans c2
      have d3 : ∀ w', From w w' → w'.cell? ⟨b, o + j * 3 + 2, none⟩ = some (.string xs[j].d) := fun w' h => (h.cells b _ hb).trans c3
      have g1 : ∀ w', From w w' → w'.cell? ⟨b2, o2 + j * 3, none⟩ = some (.int .i64 xs[j].i) := fun w' h => (h.cells b2 _ hb2).trans q1
      have g2 : ∀ w', From w w' → w'.cell? ⟨b2, o2 + j * 3 + 1, none⟩ = some (.int .i64 xs[j].t) := fun w' h => (h.cells b2 _ hb2).trans q2
      have g3 : ∀ w', From w w' → w'.cell? ⟨b2, o2 + j * 3 + 2, none⟩ = some (.string xs[j].d) := fun w' h => (h.cells b2 _ hb2).trans q3
      have i1 : (0 : Int) ≤ (j : Int) := by omega
      have i2 : (j : Int) < (xs.length : Int) := by omega
      clear hc c1 c2 c3 hrow q1 q2 q3 hc' hrow2
      generalize xs[j] = e at *
      go_wp2
      go_quiet (fail)
      go_wp2
      go_roundw
      case rel => exact ⟨j + 1, by omega, by go_num, hw.dn _⟩
      case measure => simp [intOf]; omega
    · go_wp2
      go_ret
      exact ⟨rfl, hw⟩
end Go.Proofs.Ytnnknoohhoifbaa
