/- Walks of package entries: within, follow, Check, lastOf. -/
import Derived.Test.YtnnknoohhoifbaaEntMath
namespace Go.Proofs.Ytnnknoohhoifbaa
open Go.RowKit

set_option maxRecDepth 100000 in
set_option maxHeartbeats 400000 in
theorem within_row (lo hi x : Int) (v : Value) (w : World) (hr : Row w v [.int .i64 x]) :
    Calls Try.prog 40 #[.int .i64 lo, .int .i64 hi, v] w fun e w' => e = .returned (.bool (inb lo hi x)) ∧ w = w' := by
  obtain ⟨A, cap, rfl, hrow⟩ := hr
  obtain ⟨b, o, rfl, hb, hc⟩ := hrow (by simp)
  have d1 := hc 0 _ rfl
  clear hrow hc
  simp only [Nat.add_zero, List.length_cons, List.length_nil, Nat.zero_add] at d1 ⊢
  go_enter Try.func40, Try.ntmps40
  go_wp2
  go_loop [11] (fun i => ∃ j : Nat, j ≤ 1 ∧ i = .int .i64 j ∧ (j = 1 → lo ≤ x ∧ x ≤ hi)) (fun i => 1 - (intOf i).toNat)
  case atStart => exact ⟨0, by omega, rfl, by omega⟩
  case round =>
    obtain ⟨j, hj, rfl, hin⟩ := hrel
    by_cases h0 : j = 0
    · subst h0
      by_cases h1 : lo ≤ x
      · by_cases h2 : x ≤ hi
        · have HIN := Lib.hid (And.intro h1 h2)
          have e1 : decide (x < lo) = false := by simp; omega
          have e2 : decide (hi < x) = false := by simp; omega
          clear h1 h2 hin
          go_wp2
          go_round
          case rel => exact ⟨1, by omega, by go_num, fun _ => HIN.out⟩
          case measure => simp [intOf]
        · have HIN := Lib.hid (inb_no (lo := lo) (hi := hi) (x := x) (by omega))
          have e1 : decide (x < lo) = false := by simp; omega
          have e2 : decide (hi < x) = true := by simp; omega
          clear h1 h2 hin
          go_wp2
          go_ret
          exact ⟨by rw [HIN.out]; rfl, rfl⟩
      · have HIN := Lib.hid (inb_no (lo := lo) (hi := hi) (x := x) (by omega))
        have e1 : decide (x < lo) = true := by simp; omega
        clear h1 hin
        go_wp2
        go_ret
        exact ⟨by rw [HIN.out]; rfl, rfl⟩
    · obtain rfl : j = 1 := by omega
      have HIN := Lib.hid (inb_mk (hin rfl))
      clear hin h0
      go_wp2
      go_ret
      exact ⟨by rw [HIN.out]; rfl, rfl⟩

theorem within_any (lo hi x : Int) (w : World) :
    Calls Try.prog 40 #[.int .i64 lo, .int .i64 hi, .slice (some ⟨w.heap.size, 0, none⟩) 1 1] (w.alloc (.cells #[.int .i64 x] 3)) fun e w' => e = .returned (.bool (inb lo hi x)) ∧ From w w' :=
  (within_row lo hi x _ _ (Row.blk (Blk.new w 3 #[.int .i64 x]) 1)).mono fun e w' ⟨h1, h2⟩ => ⟨h1, h2 ▸ From.rfl_.new _⟩

theorem within_any2 (lo hi x : Int) (w : World) (ob : Obj) :
    Calls Try.prog 40 #[.int .i64 lo, .int .i64 hi, .slice (some ⟨w.heap.size + 1, 0, none⟩) 1 1] ((w.alloc ob).alloc (.cells #[.int .i64 x] 3)) fun e w' => e = .returned (.bool (inb lo hi x)) ∧ From (w.alloc ob) w' := by
  have h := within_any lo hi x (w.alloc ob)
  have e : (w.alloc ob).heap.size = w.heap.size + 1 := by simp
  rw [e] at h
  exact h

def FollowRel (w : World) (xs : List Ent) (index term : Int) (a b i : Value) (wr : World) : Prop :=
  ∃ (j : Nat) (t : Int), j ≤ xs.length ∧ i = .int .i64 j ∧ a = .int .i64 (index + j) ∧ b = .int .i64 t ∧ 0 ≤ t ∧ runs xs index term = runs (xs.drop j) (index + j) t ∧ From w wr

set_option maxRecDepth 100000 in
set_option maxHeartbeats 1000000 in
theorem follow_any (index term : Int) (v : Value) (xs : List Ent) (w : World) (h : Ents w v xs) (hi0 : -4611686018427387904 ≤ index) (hi1 : index ≤ 4611686018427387904) (ht0 : 0 ≤ term) (hl : xs.length ≤ 140737488351232) :
    Calls Try.prog 41 #[.int .i64 index, .int .i64 term, v] w fun e w' => e = .returned (.bool (runs xs index term)) ∧ From w w' := by
  obtain ⟨A, cap, rfl, hc1, hc2, hc3, hrow⟩ := h
  have hwi := within_any
  have hwi2 := within_any2
  have HW := Lib.hid hwi
  have HW2 := Lib.hid hwi2
  clear hwi hwi2
  go_enter Try.func41, Try.ntmps41
  go_wp2
  go_loopw [0, 1, 11] (FollowRel w xs index term) (fun _ _ i _ => xs.length - (intOf i).toNat)
  case atStart => exact ⟨0, term, by omega, rfl, by simp, rfl, ht0, by simp, From.rfl_⟩
  case round =>
    obtain ⟨j, t, hj, rfl, rfl, rfl, ht, hruns, hw⟩ := hrel
    by_cases hlt : j < xs.length
    · obtain ⟨b, o, rfl, hb, hc⟩ := hrow (by omega)
      obtain ⟨c1, c2, c3⟩ := hc j hlt
      have d1 := (hw.cells b (o + j * 3) hb).trans c1
      have d2 := (hw.cells b (o + j * 3 + 1) hb).trans c2
      have d3 := (hw.cells b (o + j * 3 + 2) hb).trans c3
      have i1 : (0 : Int) ≤ (j : Int) := by omega
      have i2 : (j : Int) < (xs.length : Int) := by omega
      rw [List.drop_eq_getElem_cons hlt] at hruns
      simp only [runs] at hruns
      clear hc c1 c2 c3 hrow
      generalize xs[j] = e at *
      obtain ⟨wb, hwb⟩ : ∃ wb, wb = wr.alloc (.cells #[.int .i64 e.i, .int .i64 e.t, .string e.d] 63) := ⟨_, rfl⟩
      have hblk : Blk wb wr.heap.size 63 #[.int .i64 e.i, .int .i64 e.t, .string e.d] := hwb ▸ Blk.new _ _ _
      have f0 : ∀ w', From wb w' → w'.cell? ⟨wr.heap.size, 0, none⟩ = some (.int .i64 e.i) := fun w' h => by simpa using (hblk.from_ h).cell 0
      have f1 : ∀ w', From wb w' → w'.cell? ⟨wr.heap.size, 1, none⟩ = some (.int .i64 e.t) := fun w' h => by simpa using (hblk.from_ h).cell 1
      have f2 : ∀ w', From wb w' → w'.cell? ⟨wr.heap.size, 2, none⟩ = some (.string e.d) := fun w' h => by simpa using (hblk.from_ h).cell 2
      have hwwb : From w wb := hwb ▸ hw.new _
      have hbb : From wb wb := From.rfl_
      rw [hwb] at f0 f1 f2 hwwb hbb
      clear hblk hwb wb
      have hmx : max t 0 = t := by omega
      simp only [entOk, hmx] at hruns
      by_cases h1 : e.i = index + j + 1
      · have e1 : (e.i != index + j + 1) = false := by simpa using h1
        rcases h2 : inb 1 1099511627776 e.i with _ | _
        · have HR := Lib.hid (hruns.trans (by simp [h2]) : runs xs index term = false)
          clear hruns h1
          go_wp2_with (go_at_call 40; (with_reducible refine (HW2.out _ _ _ _ _).mono ?_); rintro e w1 ⟨rfl, hb1⟩)
          go_ret
          exact ⟨by rw [HR.out]; rfl, hwwb.next hb1⟩
        · rcases h3 : inb t 1099511627775 e.t with _ | _
          · have HR := Lib.hid (hruns.trans (by simp [h3]) : runs xs index term = false)
            clear hruns h1
            go_wp2_with (first
              | (go_at_call 40; (with_reducible refine (HW2.out 1 1099511627776 _ _ _).mono ?_); rintro e w1 ⟨rfl, hb1⟩; have hw1 := From.next (a := w) hwwb hb1)
              | (go_at_call 40; (with_reducible refine (HW.out t _ _ _).mono ?_); rintro e w2 ⟨rfl, hb2⟩; have hw2 := From.next (a := w) hw1 hb2))
            go_ret
            exact ⟨by rw [HR.out]; rfl, hw2⟩
          · by_cases h4 : e.d.size ≤ 4096
            · have e4 : decide ((4096 : Int) < (e.d.size : Int)) = false := by simp; omega
              rw [decide_eq_true h1, h2, h3, decide_eq_true h4] at hruns
              simp only [Bool.and_self, Bool.true_and] at hruns
              have ht2 := inb_true h3
              have HR := Lib.hid (And.intro hruns ht2)
              clear hruns h1 ht2
              go_wp2_with (first
                | (go_at_call 40; (with_reducible refine (HW2.out 1 1099511627776 _ _ _).mono ?_); rintro e w1 ⟨rfl, hb1⟩; have hw1 := From.next (a := w) hwwb hb1)
                | (go_at_call 40; (with_reducible refine (HW.out t _ _ _).mono ?_); rintro e w2 ⟨rfl, hb2⟩; have hw2 := From.next (a := w) hw1 hb2; have hbw2 := From.next (a := _) hb1 hb2))
              go_roundw
              case rel =>
                obtain ⟨r1, r2⟩ := HR.out
                refine ⟨j + 1, e.t, by omega, by go_num, by go_num, rfl, by omega, ?_, hw2⟩
                rw [r1, show index + ((j + 1 : Nat) : Int) = index + j + 1 by omega]
              case measure => simp [intOf]; omega
            · have e4 : decide ((4096 : Int) < (e.d.size : Int)) = true := by simp; omega
              have HR := Lib.hid (hruns.trans (by simp [h4]) : runs xs index term = false)
              clear hruns h1
              go_wp2_with (first
                | (go_at_call 40; (with_reducible refine (HW2.out 1 1099511627776 _ _ _).mono ?_); rintro e w1 ⟨rfl, hb1⟩; have hw1 := From.next (a := w) hwwb hb1)
                | (go_at_call 40; (with_reducible refine (HW.out t _ _ _).mono ?_); rintro e w2 ⟨rfl, hb2⟩; have hw2 := From.next (a := w) hw1 hb2; have hbw2 := From.next (a := _) hb1 hb2))
              go_ret
              exact ⟨by rw [HR.out]; rfl, hw2⟩
      · have e1 : (e.i != index + j + 1) = true := by simpa using h1
        have HR := Lib.hid (hruns.trans (by simp [h1]) : runs xs index term = false)
        clear hruns h1
        go_wp2
        go_ret
        exact ⟨by rw [HR.out]; rfl, hwwb⟩
    · have hruns' : runs xs index term = true := by
        rw [hruns, List.drop_eq_nil_of_le (by omega)]
        rfl
      have HR := Lib.hid hruns'
      clear hruns hruns'
      go_wp2
      go_ret
      exact ⟨by rw [HR.out]; rfl, hw⟩
end Go.Proofs.Ytnnknoohhoifbaa
