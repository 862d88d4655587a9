/- Walks of package entries: Check, lastOf, Last, termAt, Term, Newer. -/
import Derived.Test.YtnnknoohhoifbaaEntWalks
namespace Go.Proofs.Ytnnknoohhoifbaa
open Go.RowKit

def chk (B T : Int) (xs : List Ent) : Int := if mayLog B T xs = true then 0 else 1

/-- a log by value, boxed: its cells -/
theorem box_log {w : World} {B T : Int} {v : Value} {t : TypeId} :
    (∀ w', From (w.alloc (.cells #[.int .i64 B, .int .i64 T, v] t)) w' → w'.cell? ⟨w.heap.size, 0, none⟩ = some (.int .i64 B)) ∧
    (∀ w', From (w.alloc (.cells #[.int .i64 B, .int .i64 T, v] t)) w' → w'.cell? ⟨w.heap.size, 1, none⟩ = some (.int .i64 T)) ∧
    (∀ w', From (w.alloc (.cells #[.int .i64 B, .int .i64 T, v] t)) w' → w'.cell? ⟨w.heap.size, 2, none⟩ = some v) ∧
    From (w.alloc (.cells #[.int .i64 B, .int .i64 T, v] t)) (w.alloc (.cells #[.int .i64 B, .int .i64 T, v] t)) ∧ From w (w.alloc (.cells #[.int .i64 B, .int .i64 T, v] t)) :=
  ⟨fun w' h => by simpa using ((Blk.new w t #[.int .i64 B, .int .i64 T, v]).from_ h).cell 0, fun w' h => by simpa using ((Blk.new w t #[.int .i64 B, .int .i64 T, v]).from_ h).cell 1,
    fun w' h => by simpa using ((Blk.new w t #[.int .i64 B, .int .i64 T, v]).from_ h).cell 2, From.rfl_, From.rfl_.new _⟩

set_option maxRecDepth 100000 in
set_option maxHeartbeats 1000000 in
theorem check_any (B T : Int) (v : Value) (xs : List Ent) (w : World) (h : Ents w v xs) :
    Calls Try.prog 24 #[.agg #[.int .i64 B, .int .i64 T, v]] w fun e w' => e = .returned (.int .i64 (chk B T xs)) ∧ From w w' := by
  have hwi := within_any
  have hwi2 := within_any2
  have HW := Lib.hid hwi
  have HW2 := Lib.hid hwi2
  clear hwi hwi2
  obtain ⟨f0, f1, f2, hbb, hwb⟩ := box_log (w := w) (B := B) (T := T) (v := v) (t := 25)
  have HE := Lib.hid h
  obtain ⟨A, cap, rfl, hc1, hc2, hc3, hrow⟩ := h
  clear hc3 hrow
  by_cases hm : mayLog B T xs = true
  · have hch : chk B T xs = 0 := if_pos hm
    simp only [mayLog, Bool.and_eq_true, decide_eq_true_eq] at hm
    obtain ⟨⟨⟨h1, h2⟩, h3⟩, h4⟩ := hm
    have b1 := inb_true h1
    have b2 := inb_true h2
    have e3 : decide ((512 : Int) < (xs.length : Int)) = false := by simp; omega
    have hfo := fun w' (h : From w w') => follow_any B T _ xs w' (HE.out.from_ h) (by omega) (by omega) b2.1 (by omega)
    rw [h4] at hfo
    have HF := Lib.hid hfo
    have HC := Lib.hid hch
    clear hfo h4 hch b1 b2
    go_enter Try.func24, Try.ntmps24
    go_wp2_with (first
      | (go_at_call 40; (with_reducible refine (HW2.out 0 1099511625728 _ _ _).mono ?_); rintro e w1 ⟨rfl, hb1⟩; have hw1 := From.next (a := w) hwb hb1)
      | (go_at_call 40; (with_reducible refine (HW.out _ _ _ _).mono ?_); rintro e w2 ⟨rfl, hb2⟩; have hw2 := From.next (a := w) hw1 hb2; have hbw2 := From.next (a := _) hb1 hb2)
      | (go_at_call 41; (with_reducible refine (HF.out _ hw2).mono ?_); rintro e w3 ⟨rfl, hb3⟩; have hw3 := From.next (a := w) hw2 hb3))
    go_ret
    exact ⟨by rw [HC.out]; rfl, hw3⟩
  · have hch : chk B T xs = 1 := if_neg hm
    have HC := Lib.hid hch
    clear hch
    rcases h1 : inb 0 1099511625728 B with _ | _
    · clear hm
      go_enter Try.func24, Try.ntmps24
      go_wp2_with (first
        | (go_at_call 40; (with_reducible refine (HW2.out 0 1099511625728 _ _ _).mono ?_); rintro e w1 ⟨rfl, hb1⟩; have hw1 := From.next (a := w) hwb hb1))
      go_ret
      exact ⟨by rw [HC.out]; rfl, hw1⟩
    rcases h2 : inb 0 1099511627775 T with _ | _
    · clear hm
      go_enter Try.func24, Try.ntmps24
      go_wp2_with (first
        | (go_at_call 40; (with_reducible refine (HW2.out 0 1099511625728 _ _ _).mono ?_); rintro e w1 ⟨rfl, hb1⟩; have hw1 := From.next (a := w) hwb hb1)
        | (go_at_call 40; (with_reducible refine (HW.out _ _ _ _).mono ?_); rintro e w2 ⟨rfl, hb2⟩; have hw2 := From.next (a := w) hw1 hb2))
      go_ret
      exact ⟨by rw [HC.out]; rfl, hw2⟩
    by_cases h3 : xs.length ≤ 512
    · have b1 := inb_true h1
      have b2 := inb_true h2
      have e3 : decide ((512 : Int) < (xs.length : Int)) = false := by simp; omega
      have h4 : runs xs B T = false := by
        simp only [mayLog, h1, h2, decide_eq_true h3, Bool.true_and] at hm
        simpa using hm
      have hfo := fun w' (h : From w w') => follow_any B T _ xs w' (HE.out.from_ h) (by omega) (by omega) b2.1 (by omega)
      rw [h4] at hfo
      have HF := Lib.hid hfo
      clear hfo h4 hm b1 b2
      go_enter Try.func24, Try.ntmps24
      go_wp2_with (first
        | (go_at_call 40; (with_reducible refine (HW2.out 0 1099511625728 _ _ _).mono ?_); rintro e w1 ⟨rfl, hb1⟩; have hw1 := From.next (a := w) hwb hb1)
        | (go_at_call 40; (with_reducible refine (HW.out _ _ _ _).mono ?_); rintro e w2 ⟨rfl, hb2⟩; have hw2 := From.next (a := w) hw1 hb2; have hbw2 := From.next (a := _) hb1 hb2)
        | (go_at_call 41; (with_reducible refine (HF.out _ hw2).mono ?_); rintro e w3 ⟨rfl, hb3⟩; have hw3 := From.next (a := w) hw2 hb3))
      go_ret
      exact ⟨by rw [HC.out]; rfl, hw3⟩
    · have e3 : decide ((512 : Int) < (xs.length : Int)) = true := by simp; omega
      clear hm
      go_enter Try.func24, Try.ntmps24
      go_wp2_with (first
        | (go_at_call 40; (with_reducible refine (HW2.out 0 1099511625728 _ _ _).mono ?_); rintro e w1 ⟨rfl, hb1⟩; have hw1 := From.next (a := w) hwb hb1)
        | (go_at_call 40; (with_reducible refine (HW.out _ _ _ _).mono ?_); rintro e w2 ⟨rfl, hb2⟩; have hw2 := From.next (a := w) hw1 hb2; have hbw2 := From.next (a := _) hb1 hb2))
      go_ret
      exact ⟨by rw [HC.out]; rfl, hw2⟩

def lastI (B : Int) (xs : List Ent) : Int := match xs.getLast? with | some e => e.i | none => B
def lastT (T : Int) (xs : List Ent) : Int := match xs.getLast? with | some e => e.t | none => T
theorem last_at {xs : List Ent} (h : 0 < xs.length) (B T : Int) : lastI B xs = xs[xs.length - 1].i ∧ lastT T xs = xs[xs.length - 1].t := by
  have : xs.getLast? = some xs[xs.length - 1] := by rw [List.getLast?_eq_getElem?, List.getElem?_eq_getElem (by omega)]
  simp [lastI, lastT, this]

set_option maxRecDepth 100000 in
set_option maxHeartbeats 1000000 in
theorem lastOf_any (B T : Int) (v : Value) (xs : List Ent) (w : World) (h : Ents w v xs) :
    Calls Try.prog 42 #[.agg #[.int .i64 B, .int .i64 T, v]] w fun e w' => e = .returned (.tuple #[.int .i64 (lastI B xs), .int .i64 (lastT T xs)]) ∧ From w w' := by
  obtain ⟨f0, f1, f2, hbb, hwb⟩ := box_log (w := w) (B := B) (T := T) (v := v) (t := 25)
  obtain ⟨A, cap, rfl, hc1, hc2, hc3, hrow⟩ := h
  by_cases h0 : 0 < xs.length
  · obtain ⟨b, o, rfl, hb, hc⟩ := hrow h0
    obtain ⟨l1, l2⟩ := last_at h0 B T
    obtain ⟨c1, c2, c3⟩ := hc (xs.length - 1) (by omega)
    rw [← l1] at c1
    rw [← l2] at c2
    have d1 : ∀ w', From w w' → w'.cell? ⟨b, o + (xs.length - 1) * 3, none⟩ = some (.int .i64 (lastI B xs)) := fun w' h => (h.cells b _ hb).trans c1
    have d2 : ∀ w', From w w' → w'.cell? ⟨b, o + (xs.length - 1) * 3 + 1, none⟩ = some (.int .i64 (lastT T xs)) := fun w' h => (h.cells b _ hb).trans c2
    have hd : decide ((0 : Int) < (xs.length : Int)) = true := by simp; omega
    obtain ⟨n, hn⟩ : ∃ n, xs.length = n + 1 := ⟨xs.length - 1, by omega⟩
    rw [hn] at d1 d2 hd hc1 f0 f1 f2 hbb hwb ⊢
    simp only [Nat.add_sub_cancel] at d1 d2
    have i0 : ((n + 1 : Nat) : Int) - 1 = (n : Int) := by omega
    have hwr : IntKind.i64.wrap (n : Int) = (n : Int) := by rw [IntKind.wrap_i64]; omega
    have i1 : (0 : Int) ≤ (n : Int) := by omega
    have i2 : (n : Int) < ((n + 1 : Nat) : Int) := by omega
    have i3 : (n : Int) < (n : Int) + 1 := by omega
    clear hc c1 c2 c3 hrow l1 l2 hn h0
    generalize lastI B xs = x at *
    generalize lastT T xs = y at *
    go_enter Try.func42, Try.ntmps42
    go_wp2
    go_quiet (fail)
    go_wp2
    go_ret2
    exact ⟨rfl, hwb.dn _⟩
  · have hx : xs = [] := List.eq_nil_of_length_eq_zero (by omega)
    subst hx
    have hd : decide ((0 : Int) < (0 : Int)) = false := by decide
    simp only [List.length_nil] at f0 f1 f2 hbb hwb ⊢
    go_enter Try.func42, Try.ntmps42
    go_wp2
    go_quiet (fail)
    go_wp2
    go_ret2
    exact ⟨rfl, hwb.dn _⟩

def lastV (B T : Int) (xs : List Ent) : Value := if mayLog B T xs = true then .tuple #[.int .i64 (lastI B xs), .int .i64 (lastT T xs), .int .i64 0] else .tuple #[.int .i64 0, .int .i64 0, .int .i64 1]
set_option maxRecDepth 100000 in
set_option maxHeartbeats 1000000 in
theorem last_any (B T : Int) (v : Value) (xs : List Ent) (w : World) (h : Ents w v xs) :
    Calls Try.prog 25 #[.agg #[.int .i64 B, .int .i64 T, v]] w fun e w' => e = .returned (lastV B T xs) ∧ From w w' := by
  obtain ⟨f0, f1, f2, hbb, hwb⟩ := box_log (w := w) (B := B) (T := T) (v := v) (t := 25)
  have hch := fun w' (hw : From w w') => check_any B T v xs w' (h.from_ hw)
  have hlo := fun w' (hw : From w w') => lastOf_any B T v xs w' (h.from_ hw)
  unfold chk at hch
  unfold lastV
  obtain ⟨A, cap, rfl, hc1, hc2, hc3, hrow⟩ := h
  clear hc3 hrow
  by_cases hm : mayLog B T xs = true
  · rw [if_pos hm] at hch ⊢
    have HC := Lib.hid hch
    have HL := Lib.hid hlo
    clear hch hlo hm
    go_enter Try.func25, Try.ntmps25
    go_wp2_with (first
      | (go_at_call 24; (with_reducible refine (HC.out _ hwb).mono ?_); rintro e w1 ⟨rfl, hb1⟩; have hw1 := From.next (a := w) hwb hb1)
      | (go_at_call 42; (with_reducible refine (HL.out _ hw1).mono ?_); rintro e w2 ⟨rfl, hb2⟩; have hw2 := From.next (a := w) hw1 hb2))
    go_ret3
    exact ⟨rfl, hw2⟩
  · rw [if_neg hm] at hch ⊢
    have HC := Lib.hid hch
    clear hch hlo hm
    go_enter Try.func25, Try.ntmps25
    go_wp2_with (first
      | (go_at_call 24; (with_reducible refine (HC.out _ hwb).mono ?_); rintro e w1 ⟨rfl, hb1⟩; have hw1 := From.next (a := w) hwb hb1))
    go_ret3
    exact ⟨rfl, hw1⟩
end Go.Proofs.Ytnnknoohhoifbaa
