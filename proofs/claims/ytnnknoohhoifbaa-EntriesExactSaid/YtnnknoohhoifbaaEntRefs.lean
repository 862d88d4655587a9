/- Walks of the reference's logs: MayEntry, Runs, May, Last. -/
import Derived.Test.YtnnknoohhoifbaaEntWalks2
namespace Go.Proofs.Ytnnknoohhoifbaa
open Go.RowKit

def mayE (e : Ent) : Bool := inb 1 1099511627776 e.i && inb 0 1099511627775 e.t && decide (e.d.size ≤ 4096)
theorem entOk_may {e : Ent} {index term : Int} : entOk e index term = (mayE e && decide (e.i = index + 1) && decide (term ≤ e.t)) := by
  unfold entOk mayE inb
  rw [Bool.eq_iff_iff]
  simp only [Bool.and_eq_true, decide_eq_true_eq]
  constructor
  · rintro ⟨⟨⟨h1, h2⟩, h3⟩, h4⟩
    exact ⟨⟨⟨⟨h2, by omega⟩, h4⟩, h1⟩, by omega⟩
  · rintro ⟨⟨⟨⟨h2, h3⟩, h4⟩, h1⟩, h5⟩
    exact ⟨⟨⟨h1, h2⟩, by omega⟩, h4⟩

theorem box_ent {w : World} {e : Ent} {t : TypeId} :
    (∀ w', From (w.alloc (.cells #[.int .i64 e.i, .int .i64 e.t, .string e.d] t)) w' → w'.cell? ⟨w.heap.size, 0, none⟩ = some (.int .i64 e.i)) ∧
    (∀ w', From (w.alloc (.cells #[.int .i64 e.i, .int .i64 e.t, .string e.d] t)) w' → w'.cell? ⟨w.heap.size, 1, none⟩ = some (.int .i64 e.t)) ∧
    (∀ w', From (w.alloc (.cells #[.int .i64 e.i, .int .i64 e.t, .string e.d] t)) w' → w'.cell? ⟨w.heap.size, 2, none⟩ = some (.string e.d)) ∧
    From (w.alloc (.cells #[.int .i64 e.i, .int .i64 e.t, .string e.d] t)) (w.alloc (.cells #[.int .i64 e.i, .int .i64 e.t, .string e.d] t)) ∧ From w (w.alloc (.cells #[.int .i64 e.i, .int .i64 e.t, .string e.d] t)) :=
  ⟨fun w' h => by simpa using ((Blk.new w t #[.int .i64 e.i, .int .i64 e.t, .string e.d]).from_ h).cell 0, fun w' h => by simpa using ((Blk.new w t #[.int .i64 e.i, .int .i64 e.t, .string e.d]).from_ h).cell 1,
    fun w' h => by simpa using ((Blk.new w t #[.int .i64 e.i, .int .i64 e.t, .string e.d]).from_ h).cell 2, From.rfl_, From.rfl_.new _⟩

set_option maxRecDepth 100000 in
set_option maxHeartbeats 1000000 in
theorem mayEntry_any (e : Ent) (w : World) :
    Calls Try.prog 46 #[.agg #[.int .i64 e.i, .int .i64 e.t, .string e.d]] w fun r w' => r = .returned (.bool (mayE e)) ∧ From w w' := by
  obtain ⟨f0, f1, f2, hbb, hwb⟩ := box_ent (w := w) (e := e) (t := 63)
  have hm : mayE e = mayE e := rfl
  conv at hm => rhs; unfold mayE inb
  have HM := Lib.hid hm
  clear hm
  go_enter Try.func46, Try.ntmps46
  by_cases h1 : 1 ≤ e.i
  · have e1 := decide_eq_true h1
    by_cases h2 : e.i ≤ 1099511627776
    · have e2 := decide_eq_true h2
      by_cases h3 : 0 ≤ e.t
      · have e3 := decide_eq_true h3
        by_cases h4 : e.t ≤ 1099511627775
        · have e4 := decide_eq_true h4
          by_cases h5 : e.d.size ≤ 4096
          · have e5 := decide_eq_true h5
            have e6 : decide ((e.d.size : Int) ≤ 4096) = true := by simp; omega
            rw [e1, e2, e3, e4, e5] at HM
            clear h1 h2 h3 h4 h5
            go_wp2
            go_ret
            exact ⟨by rw [HM.out]; rfl, hwb⟩
          · have e5 := decide_eq_false h5
            have e6 : decide ((e.d.size : Int) ≤ 4096) = false := by simp; omega
            rw [e1, e2, e3, e4, e5] at HM
            clear h1 h2 h3 h4 h5
            go_wp2
            go_ret
            exact ⟨by rw [HM.out]; rfl, hwb⟩
        · have e4 := decide_eq_false h4
          rw [e1, e2, e3, e4] at HM
          clear h1 h2 h3 h4
          go_wp2
          go_ret
          exact ⟨by rw [HM.out]; rfl, hwb⟩
      · have e3 := decide_eq_false h3
        rw [e1, e2, e3] at HM
        clear h1 h2 h3
        go_wp2
        go_ret
        exact ⟨by rw [HM.out]; rfl, hwb⟩
    · have e2 := decide_eq_false h2
      rw [e1, e2] at HM
      clear h1 h2
      go_wp2
      go_ret
      exact ⟨by rw [HM.out]; rfl, hwb⟩
  · have e1 := decide_eq_false h1
    rw [e1] at HM
    clear h1
    go_wp2
    go_ret
    exact ⟨by rw [HM.out]; rfl, hwb⟩

def RunsRel (w : World) (xs : List Ent) (index term : Int) (b i : Value) (wr : World) : Prop :=
  ∃ (j : Nat) (t : Int), j ≤ xs.length ∧ i = .int .i64 j ∧ b = .int .i64 t ∧ runs xs index term = runs (xs.drop j) (index + j) t ∧ From w wr

set_option maxRecDepth 100000 in
set_option maxHeartbeats 1000000 in
theorem runs_any (index term : Int) (v : Value) (xs : List Ent) (w : World) (h : Ents w v xs) (hi0 : -4611686018427387904 ≤ index) (hi1 : index ≤ 4611686018427387904) (hl : xs.length ≤ 140737488351232) :
    Calls Try.prog 39 #[v, .int .i64 index, .int .i64 term] w fun e w' => e = .returned (.bool (runs xs index term)) ∧ From w w' := by
  obtain ⟨A, cap, rfl, hc1, hc2, hc3, hrow⟩ := h
  have hme := mayEntry_any
  have HM := Lib.hid hme
  clear hme
  go_enter Try.func39, Try.ntmps39
  go_wp2
  go_loopw [2, 7] (RunsRel w xs index term) (fun _ i _ => xs.length - (intOf i).toNat)
  case atStart => exact ⟨0, term, by omega, rfl, rfl, by simp, From.rfl_⟩
  case round =>
    obtain ⟨j, t, hj, rfl, rfl, hruns, hw⟩ := hrel
    by_cases hlt : j < xs.length
    · obtain ⟨b, o, rfl, hb, hc⟩ := hrow (by omega)
      obtain ⟨c1, c2, c3⟩ := hc j hlt
      have d1 : ∀ w', From w w' → w'.cell? ⟨b, o + j * 3, none⟩ = some (.int .i64 xs[j].i) := fun w' h => (h.cells b _ hb).trans c1
      have d2 : ∀ w', From w w' → w'.cell? ⟨b, o + j * 3 + 1, none⟩ = some (.int .i64 xs[j].t) := fun w' h => (h.cells b _ hb).trans c2
      have d3 : ∀ w', From w w' → w'.cell? ⟨b, o + j * 3 + 2, none⟩ = some (.string xs[j].d) := fun w' h => (h.cells b _ hb).trans c3
      have i1 : (0 : Int) ≤ (j : Int) := by omega
      have i2 : (j : Int) < (xs.length : Int) := by omega
      rw [List.drop_eq_getElem_cons hlt] at hruns
      simp only [runs, entOk_may] at hruns
      clear hc c1 c2 c3 hrow
      generalize xs[j] = e at *
      rcases h1 : mayE e with _ | _
      · have HR := Lib.hid (hruns.trans (by simp [h1]) : runs xs index term = false)
        clear hruns
        go_wp2_with (go_at_call 46; (with_reducible refine (HM.out _ _).mono ?_); rintro e w1 ⟨rfl, hb1⟩)
        go_ret
        exact ⟨by rw [HR.out]; rfl, hw.next hb1⟩
      by_cases h2 : e.i = index + j + 1
      · have e2 : (e.i != index + 1 + j) = false := by simp; omega
        by_cases h3 : t ≤ e.t
        · have e3 : decide (e.t < t) = false := by simp; omega
          rw [h1, decide_eq_true h2, decide_eq_true h3] at hruns
          simp only [Bool.and_self, Bool.true_and] at hruns
          have HR := Lib.hid hruns
          clear hruns h2 h3
          go_wp2_with (go_at_call 46; (with_reducible refine (HM.out _ _).mono ?_); rintro e w1 ⟨rfl, hb1⟩; have hw1 := From.next (a := w) hw hb1)
          go_roundw
          case rel =>
            refine ⟨j + 1, e.t, by omega, by go_num, rfl, ?_, hw1⟩
            rw [HR.out, show index + ((j + 1 : Nat) : Int) = index + j + 1 by omega]
          case measure => simp [intOf]; omega
        · have e3 : decide (e.t < t) = true := by simp; omega
          have HR := Lib.hid (hruns.trans (by simp [h3]) : runs xs index term = false)
          clear hruns h2 h3
          go_wp2_with (go_at_call 46; (with_reducible refine (HM.out _ _).mono ?_); rintro e w1 ⟨rfl, hb1⟩; have hw1 := From.next (a := w) hw hb1)
          go_ret
          exact ⟨by rw [HR.out]; rfl, hw1⟩
      · have e2 : (e.i != index + 1 + j) = true := by simp; omega
        have HR := Lib.hid (hruns.trans (by simp [h2]) : runs xs index term = false)
        clear hruns h2
        go_wp2_with (go_at_call 46; (with_reducible refine (HM.out _ _).mono ?_); rintro e w1 ⟨rfl, hb1⟩; have hw1 := From.next (a := w) hw hb1)
        go_ret
        exact ⟨by rw [HR.out]; rfl, hw1⟩
    · have hruns' : runs xs index term = true := by
        rw [hruns, List.drop_eq_nil_of_le (by omega)]
        rfl
      have HR := Lib.hid hruns'
      clear hruns hruns'
      go_wp2
      go_ret
      exact ⟨by rw [HR.out]; rfl, hw⟩
end Go.Proofs.Ytnnknoohhoifbaa
