/- Walks: terms by index, whether a log is newer, in the program and in the reference. -/
import Derived.Test.YtnnknoohhoifbaaEntRefs2
namespace Go.Proofs.Ytnnknoohhoifbaa
open Go.RowKit

/-- the term at an index of a log that holds it -/
def termI (B T : Int) (xs : List Ent) (i : Int) : Int := if i = B then T else match xs[(i - B - 1).toNat]? with | some e => e.t | none => 0

set_option maxRecDepth 100000 in
set_option maxHeartbeats 1000000 in
theorem termAt_any (B T i : Int) (v : Value) (xs : List Ent) (w : World) (h : Ents w v xs) (hB0 : 0 ≤ B) (hB1 : B ≤ 4611686018427387904) (hi0 : B ≤ i) (hi1 : i ≤ B + xs.length) (hl : xs.length ≤ 140737488351232) :
    Calls Try.prog 43 #[.agg #[.int .i64 B, .int .i64 T, v], .int .i64 i] w fun e w' => e = .returned (.int .i64 (termI B T xs i)) ∧ From w w' := by
  obtain ⟨f0, f1, f2, hbb, hwb⟩ := box_log (w := w) (B := B) (T := T) (v := v) (t := 25)
  obtain ⟨A, cap, rfl, hc1, hc2, hc3, hrow⟩ := h
  by_cases h0 : i = B
  · have e0 : (i == B) = true := by simpa using h0
    have ht : termI B T xs i = T := if_pos h0
    rw [ht]
    clear h0 hi0 hi1 ht
    go_enter Try.func43, Try.ntmps43
    go_wp2
    go_ret
    exact ⟨rfl, hwb⟩
  · have e0 : (i == B) = false := by simpa using h0
    obtain ⟨k, hk⟩ : ∃ k : Nat, i = B + k + 1 := ⟨(i - B - 1).toNat, by omega⟩
    have hkl : k < xs.length := by omega
    have ht : termI B T xs i = xs[k].t := by
      unfold termI
      rw [if_neg h0, show (i - B - 1).toNat = k by omega, List.getElem?_eq_getElem hkl]
    obtain ⟨b, o, rfl, hb, hc⟩ := hrow (by omega)
    obtain ⟨c1, c2, c3⟩ := hc k hkl
    have d2 : ∀ w', From w w' → w'.cell? ⟨b, o + k * 3 + 1, none⟩ = some (.int .i64 xs[k].t) := fun w' h => (h.cells b _ hb).trans c2
    rw [ht]
    have j0 : i - B - 1 = (k : Int) := by omega
    have j1 : (0 : Int) ≤ (k : Int) := by omega
    have j2 : (k : Int) < (xs.length : Int) := by omega
    clear hc c1 c2 c3 hrow ht h0 hk
    generalize xs[k].t = y at *
    go_enter Try.func43, Try.ntmps43
    go_wp2
    go_ret
    exact ⟨rfl, hwb⟩

def termV (B T : Int) (xs : List Ent) (i : Int) : Value :=
  if mayLog B T xs = true then (if B ≤ i ∧ i ≤ lastI B xs then .tuple #[.int .i64 (termI B T xs i), .int .i64 0] else .tuple #[.int .i64 0, .int .i64 3]) else .tuple #[.int .i64 0, .int .i64 1]
theorem runs_last : ∀ (xs : List Ent) (B T : Int), runs xs B T = true → lastI B xs = B + xs.length
  | [], B, T, _ => by simp [lastI]
  | [e], B, T, h => by
    simp only [runs, entOk, Bool.and_eq_true, decide_eq_true_eq] at h
    simp [lastI]
    omega
  | e :: f :: r, B, T, h => by
    simp only [runs, Bool.and_eq_true] at h
    have he : e.i = B + 1 := by
      have := h.1
      simp only [entOk, Bool.and_eq_true, decide_eq_true_eq] at this
      omega
    have ih := runs_last (f :: r) (B + 1) e.t (by simp only [runs, Bool.and_eq_true]; exact h.2)
    have : lastI B (e :: f :: r) = lastI (B + 1) (f :: r) := by
      obtain ⟨l, hl⟩ : ∃ l, (f :: r).getLast? = some l := by
        rw [List.getLast?_eq_getElem?]
        exact ⟨_, List.getElem?_eq_getElem (by simp)⟩
      unfold lastI
      rw [List.getLast?_cons_cons, hl]
    rw [this, ih]
    simp only [List.length_cons]
    omega
theorem may_last {B T : Int} {xs : List Ent} (h : mayLog B T xs = true) : lastI B xs = B + xs.length ∧ 0 ≤ B ∧ B ≤ 1099511625728 ∧ xs.length ≤ 512 := by
  simp only [mayLog, Bool.and_eq_true, decide_eq_true_eq] at h
  obtain ⟨⟨⟨h1, h2⟩, h3⟩, h4⟩ := h
  have := inb_true h1
  exact ⟨runs_last xs B T h4, this.1, this.2, h3⟩

set_option maxRecDepth 100000 in
set_option maxHeartbeats 1000000 in
theorem term_any (B T i : Int) (v : Value) (xs : List Ent) (w : World) (h : Ents w v xs) :
    Calls Try.prog 26 #[.agg #[.int .i64 B, .int .i64 T, v], .int .i64 i] w fun e w' => e = .returned (termV B T xs i) ∧ From w w' := by
  obtain ⟨f0, f1, f2, hbb, hwb⟩ := box_log (w := w) (B := B) (T := T) (v := v) (t := 25)
  have hch := fun w' (hw : From w w') => check_any B T v xs w' (h.from_ hw)
  have hlo := fun w' (hw : From w w') => lastOf_any B T v xs w' (h.from_ hw)
  have hwi := within_any
  have HW := Lib.hid hwi
  unfold chk at hch
  unfold termV
  have HE := Lib.hid h
  obtain ⟨A, cap, rfl, hc1, hc2, hc3, hrow⟩ := h
  clear hc3 hrow hwi
  by_cases hm : mayLog B T xs = true
  · rw [if_pos hm] at hch ⊢
    obtain ⟨hl, hB0, hB1, hx⟩ := may_last hm
    have HC := Lib.hid hch
    have HL := Lib.hid hlo
    clear hch hlo hm
    by_cases hin : B ≤ i ∧ i ≤ lastI B xs
    · rw [if_pos hin]
      have hib := inb_mk hin
      have hta := fun w' (hw : From w w') => termAt_any B T i _ xs w' (HE.out.from_ hw) hB0 (by omega) hin.1 (by omega) (by omega)
      have HT := Lib.hid hta
      clear hta hin hl
      go_enter Try.func26, Try.ntmps26
      go_wp2_with (first
        | (go_at_call 24; (with_reducible refine (HC.out _ hwb).mono ?_); rintro e w1 ⟨rfl, hb1⟩; have hw1 := From.next (a := w) hwb hb1)
        | (go_at_call 42; (with_reducible refine (HL.out _ hw1).mono ?_); rintro e w2 ⟨rfl, hb2⟩; have hw2 := From.next (a := w) hw1 hb2; have hbw2 := From.next (a := _) hb1 hb2)
        | (go_at_call 40; (with_reducible refine (HW.out _ _ _ _).mono ?_); rintro e w3 ⟨rfl, hb3⟩; have hw3 := From.next (a := w) hw2 hb3; have hbw3 := From.next (a := _) hbw2 hb3)
        | (go_at_call 43; (with_reducible refine (HT.out _ hw3).mono ?_); rintro e w4 ⟨rfl, hb4⟩; have hw4 := From.next (a := w) hw3 hb4))
      go_ret2
      exact ⟨rfl, hw4⟩
    · rw [if_neg hin]
      have hib := inb_no hin
      clear hin hl
      go_enter Try.func26, Try.ntmps26
      go_wp2_with (first
        | (go_at_call 24; (with_reducible refine (HC.out _ hwb).mono ?_); rintro e w1 ⟨rfl, hb1⟩; have hw1 := From.next (a := w) hwb hb1)
        | (go_at_call 42; (with_reducible refine (HL.out _ hw1).mono ?_); rintro e w2 ⟨rfl, hb2⟩; have hw2 := From.next (a := w) hw1 hb2; have hbw2 := From.next (a := _) hb1 hb2)
        | (go_at_call 40; (with_reducible refine (HW.out _ _ _ _).mono ?_); rintro e w3 ⟨rfl, hb3⟩; have hw3 := From.next (a := w) hw2 hb3))
      go_ret2
      exact ⟨rfl, hw3⟩
  · rw [if_neg hm] at hch ⊢
    have HC := Lib.hid hch
    clear hch hlo hm
    go_enter Try.func26, Try.ntmps26
    go_wp2_with (first
      | (go_at_call 24; (with_reducible refine (HC.out _ hwb).mono ?_); rintro e w1 ⟨rfl, hb1⟩; have hw1 := From.next (a := w) hwb hb1))
    go_ret2
    exact ⟨rfl, hw1⟩

def refTermV (B T : Int) (xs : List Ent) (i : Int) : Value :=
  if B ≤ i ∧ i ≤ lastI B xs then .tuple #[.int .i64 (termI B T xs i), .bool true] else .tuple #[.int .i64 0, .bool false]
set_option maxRecDepth 100000 in
set_option maxHeartbeats 1000000 in
theorem refTerm_any (B T i : Int) (v : Value) (xs : List Ent) (w : World) (h : Ents w v xs) (hm : mayLog B T xs = true) :
    Calls Try.prog 21 #[.agg #[.int .i64 B, .int .i64 T, v], .int .i64 i] w fun e w' => e = .returned (refTermV B T xs i) ∧ From w w' := by
  obtain ⟨f0, f1, f2, hbb, hwb⟩ := box_log (w := w) (B := B) (T := T) (v := v) (t := 25)
  have hlo := fun w' (hw : From w w') => refLast_any B T v xs w' (h.from_ hw)
  obtain ⟨A, cap, rfl, hc1, hc2, hc3, hrow⟩ := h
  obtain ⟨hl, hB0, hB1, hx⟩ := may_last hm
  have HL := Lib.hid hlo
  unfold refTermV
  clear hlo hm
  by_cases hin : B ≤ i ∧ i ≤ lastI B xs
  · rw [if_pos hin]
    have e1 : decide (i < B) = false := by simp; omega
    have e2 : decide (lastI B xs < i) = false := by simp; omega
    by_cases h0 : i = B
    · have e0 : (i == B) = true := by simpa using h0
      have ht : termI B T xs i = T := if_pos h0
      rw [ht]
      clear h0 hin ht hl hrow
      go_enter Try.func21, Try.ntmps21
      go_wp2_with (first
        | (go_at_call 16; (with_reducible refine (HL.out _ hwb).mono ?_); rintro e w2 ⟨rfl, hb2⟩; have hw2 := From.next (a := w) hwb hb2))
      go_ret2
      exact ⟨rfl, hw2⟩
    · have e0 : (i == B) = false := by simpa using h0
      obtain ⟨k, hk⟩ : ∃ k : Nat, i = B + k + 1 := ⟨(i - B - 1).toNat, by omega⟩
      have hkl : k < xs.length := by omega
      have ht : termI B T xs i = xs[k].t := by
        unfold termI
        rw [if_neg h0, show (i - B - 1).toNat = k by omega, List.getElem?_eq_getElem hkl]
      obtain ⟨b, o, rfl, hb, hc⟩ := hrow (by omega)
      obtain ⟨c1, c2, c3⟩ := hc k hkl
      have d2 : ∀ w', From w w' → w'.cell? ⟨b, o + k * 3 + 1, none⟩ = some (.int .i64 xs[k].t) := fun w' h => (h.cells b _ hb).trans c2
      rw [ht]
      have j0 : i - B - 1 = (k : Int) := by omega
      have j1 : (0 : Int) ≤ (k : Int) := by omega
      have j2 : (k : Int) < (xs.length : Int) := by omega
      clear hc c1 c2 c3 hrow ht h0 hk hl
      generalize xs[k].t = y at *
      go_enter Try.func21, Try.ntmps21
      go_wp2_with (first
        | (go_at_call 16; (with_reducible refine (HL.out _ hwb).mono ?_); rintro e w2 ⟨rfl, hb2⟩; have hw2 := From.next (a := w) hwb hb2))
      go_ret2
      exact ⟨rfl, hw2⟩
  · rw [if_neg hin]
    clear hrow hl
    by_cases h1 : i < B
    · have e1 : decide (i < B) = true := by simpa using h1
      clear hin h1
      go_enter Try.func21, Try.ntmps21
      go_wp2_with (first
        | (go_at_call 16; (with_reducible refine (HL.out _ hwb).mono ?_); rintro e w2 ⟨rfl, hb2⟩; have hw2 := From.next (a := w) hwb hb2))
      go_ret2
      exact ⟨rfl, hw2⟩
    · have e1 : decide (i < B) = false := by simpa using h1
      have e2 : decide (lastI B xs < i) = true := by simp; omega
      clear hin h1
      go_enter Try.func21, Try.ntmps21
      go_wp2_with (first
        | (go_at_call 16; (with_reducible refine (HL.out _ hwb).mono ?_); rintro e w2 ⟨rfl, hb2⟩; have hw2 := From.next (a := w) hwb hb2))
      go_ret2
      exact ⟨rfl, hw2⟩
end Go.Proofs.Ytnnknoohhoifbaa
