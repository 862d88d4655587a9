/- Walks: Append, and what wakes the statements. -/
import Derived.Test.YtnnknoohhoifbaaEntAppend
namespace Go.Proofs.Ytnnknoohhoifbaa
open Go.RowKit

abbrev boxed (w : World) (B T : Int) (v : Value) : World := w.alloc (.cells #[.int .i64 B, .int .i64 T, v] 25)
abbrev boxed2 (w : World) (B T : Int) (v : Value) : World := (w.alloc (.cells #[.int .i64 B, .int .i64 T, v] 25)).alloc (.cells #[.int .i64 0, .int .i64 0, .slice none 0 0] 25)
theorem boxed2_from (w : World) (B T : Int) (v : Value) : From w (boxed2 w B T v) := (From.rfl_.new _).new _
theorem boxed_from2 (w : World) (B T : Int) (v : Value) : From (boxed w B T v) (boxed2 w B T v) := From.rfl_.new _
theorem boxed2_res {w : World} {B T : Int} {v : Value} {w1 : World} (h : From (boxed2 w B T v) w1) : Blk w1 (w.heap.size + 1) 25 #[.int .i64 0, .int .i64 0, .slice none 0 0] := by
  have h2 := (Blk.new (w.alloc (.cells #[.int .i64 B, .int .i64 T, v] 25)) 25 #[.int .i64 0, .int .i64 0, .slice none 0 0]).from_ h
  have hz : (w.alloc (.cells #[.int .i64 B, .int .i64 T, v] 25)).heap.size = w.heap.size + 1 := by simp
  rw [hz] at h2
  exact h2
theorem res_facts {w1 : World} {g : Nat} {t : TypeId} {a b c : Value} (h : Blk w1 g t #[a, b, c]) :
    (w1.cell? ⟨g, 0, none⟩ = some a ∧ w1.cell? ⟨g, 1, none⟩ = some b ∧ w1.cell? ⟨g, 2, none⟩ = some c) ∧ (w1.frozen? ⟨g, 0, none⟩ = false ∧ w1.frozen? ⟨g, 1, none⟩ = false ∧ w1.frozen? ⟨g, 2, none⟩ = false) :=
  ⟨⟨by rw [h.cell 0]; rfl, by rw [h.cell 1]; rfl, by rw [h.cell 2]; rfl⟩, h.frozen 0, h.frozen 1, h.frozen 2⟩
abbrev put3 (w1 : World) (g : Nat) (x y z : Value) : World := ((w1.setCell ⟨g, 0, none⟩ x).setCell ⟨g, 1, none⟩ y).setCell ⟨g, 2, none⟩ z
theorem put3_cells {w1 : World} {g : Nat} {t : TypeId} {a b c : Value} (h : Blk w1 g t #[a, b, c]) (x y z : Value) :
    (put3 w1 g x y z).cell? ⟨g, 0, none⟩ = some x ∧ (put3 w1 g x y z).cell? ⟨g, 1, none⟩ = some y ∧ (put3 w1 g x y z).cell? ⟨g, 2, none⟩ = some z := by
  have b5 := ((h.set_ 0 x).set_ 1 y).set_ 2 z
  exact ⟨by rw [b5.cell 0]; rfl, by rw [b5.cell 1]; rfl, by rw [b5.cell 2]; rfl⟩
theorem put3_from {w w1 : World} {g : Nat} {x y z : Value} (h : From w w1) (hg : w.heap.size ≤ g) : From w (put3 w1 g x y z) := ((h.set_ (p := ⟨g, 0, none⟩) hg _).set_ (p := ⟨g, 1, none⟩) hg _).set_ (p := ⟨g, 2, none⟩) hg _

def apErr (B T : Int) (xs ys : List Ent) : Int := if mayLog B T xs = true then (if runs ys (lastI B xs) (lastT T xs) = true then (if xs.length + ys.length ≤ 512 then 0 else 6) else 1) else 1
def ApGot (w w' : World) (B T : Int) (xs : List Ent) (c : Int) (L : Value) : Prop :=
  (c ≠ 0 → L = zeroLog) ∧ (c = 0 → ∃ v', L = .agg #[.int .i64 B, .int .i64 T, v'] ∧ w'.ownsRow w.heap.size 63 3 v' xs.length (entV xs))

theorem may_term {B T : Int} {xs : List Ent} (h : mayLog B T xs = true) : 0 ≤ lastT T xs := by
  have go : ∀ (xs : List Ent) (B T : Int), 0 ≤ T → runs xs B T = true → 0 ≤ lastT T xs := by
    intro xs
    induction xs with
    | nil => intro B T hT _; simpa [lastT] using hT
    | cons e r ih =>
      intro B T hT h
      simp only [runs, Bool.and_eq_true] at h
      have he : 0 ≤ e.t := by
        have := h.1
        simp only [entOk, Bool.and_eq_true, decide_eq_true_eq] at this
        have := inb_true this.1.2
        omega
      cases r with
      | nil => simpa [lastT] using he
      | cons f q =>
        have h1 := ih (B + 1) e.t he h.2
        obtain ⟨l, hl⟩ : ∃ l, (f :: q).getLast? = some l := by
          rw [List.getLast?_eq_getElem?]
          exact ⟨_, List.getElem?_eq_getElem (by simp)⟩
        unfold lastT at h1 ⊢
        rw [List.getLast?_cons_cons, hl]
        rw [hl] at h1
        exact h1
  simp only [mayLog, Bool.and_eq_true, decide_eq_true_eq] at h
  obtain ⟨⟨⟨h1, h2⟩, h3⟩, h4⟩ := h
  exact go xs B T (inb_true h2).1 h4
theorem runs_lastI : ∀ (xs : List Ent) (B T : Int), runs xs B T = true → lastI B xs = B + xs.length
  | [], B, T, _ => by simp [lastI]
  | [e], B, T, h => by
    simp only [runs, entOk, Bool.and_eq_true, decide_eq_true_eq] at h
    simp [lastI]
    omega
  | e :: f :: r, B, T, h => by
    simp only [runs, Bool.and_eq_true] at h
    have he : e.i = B + 1 := by
      have := h.1
      simp only [entOk, Bool.and_eq_true, decide_eq_true_eq] at this
      omega
    have ih := runs_lastI (f :: r) (B + 1) e.t (by simp only [runs, Bool.and_eq_true]; exact h.2)
    have : lastI B (e :: f :: r) = lastI (B + 1) (f :: r) := by
      obtain ⟨l, hl⟩ : ∃ l, (f :: r).getLast? = some l := by
        rw [List.getLast?_eq_getElem?]
        exact ⟨_, List.getElem?_eq_getElem (by simp)⟩
      unfold lastI
      rw [List.getLast?_cons_cons, hl]
    rw [this, ih]
    simp only [List.length_cons]
    omega
theorem may_lastI {B T : Int} {xs : List Ent} (h : mayLog B T xs = true) : lastI B xs = B + xs.length ∧ 0 ≤ B ∧ B ≤ 1099511625728 ∧ xs.length ≤ 512 := by
  simp only [mayLog, Bool.and_eq_true, decide_eq_true_eq] at h
  obtain ⟨⟨⟨h1, h2⟩, h3⟩, h4⟩ := h
  have := inb_true h1
  exact ⟨runs_lastI xs B T h4, this.1, this.2, h3⟩

set_option maxRecDepth 100000 in
set_option maxHeartbeats 2000000 in
theorem append_any (B T : Int) (v u : Value) (xs ys : List Ent) (w : World) (h : Ents w v xs) (hu : Ents w u ys) (hy : ys.length ≤ 400000000000) :
    Calls Try.prog 28 #[.agg #[.int .i64 B, .int .i64 T, v], u] w fun e w' => ∃ L, e = .returned (.tuple #[L, .int .i64 (apErr B T xs ys)]) ∧ ApGot w w' B T (xs ++ ys) (apErr B T xs ys) L ∧ From w w' := by
  obtain ⟨f0, f1, f2, hbb, hwb⟩ := box_log (w := w) (B := B) (T := T) (v := v) (t := 25)
  have hch := fun w' (hw : From w w') => check_any B T v xs w' (h.from_ hw)
  have hlo := fun w' (hw : From w w') => lastOf_any B T v xs w' (h.from_ hw)
  have h2 := boxed2_from w B T v
  have hb2 := boxed_from2 w B T v
  have h22 : From (boxed2 w B T v) (boxed2 w B T v) := From.rfl_
  have hres : ∀ w1, From (boxed2 w B T v) w1 → Blk w1 (w.heap.size + 1) 25 #[.int .i64 0, .int .i64 0, .slice none 0 0] := fun w1 h => boxed2_res h
  have HRES := Lib.hid hres
  unfold chk at hch
  have HE := Lib.hid h
  have HU := Lib.hid hu
  have hdef : apErr B T xs ys = apErr B T xs ys := rfl
  conv at hdef => rhs; unfold apErr
  simp only [boxed, boxed2] at h2 hb2 h22 HRES
  obtain ⟨A, cap, rfl, hc1, hc2, hc3, hrow⟩ := h
  obtain ⟨A2, cap2, rfl, hd1, hd2, hd3, hrow2⟩ := hu
  clear hc3 hrow hd3 hrow2 hres
  by_cases hm : mayLog B T xs = true
  · rw [if_pos hm] at hch hdef
    obtain ⟨hl, hB0, hB1, hx⟩ := may_lastI hm
    have hlt := may_term hm
    rw [hl] at hlo hdef
    have hfo := fun w' (hw : From w w') => follow_any (B + xs.length) (lastT T xs) _ ys w' (HU.out.from_ hw) (by omega) (by omega) hlt (by omega)
    have HC := Lib.hid hch
    have HL := Lib.hid hlo
    have HF := Lib.hid hfo
    clear hch hlo hm hfo hl
    rcases hr : runs ys (B + xs.length) (lastT T xs) with _ | _
    · rw [hr] at HF hdef
      rw [if_neg (by simp)] at hdef
      rw [hdef]
      clear hr hdef hlt
      go_enter Try.func28, Try.ntmps28
      go_wp2_with (first
        | (go_at_call 24; (with_reducible refine (HC.out _ h2).mono ?_); rintro e w1 ⟨rfl, hb1⟩; have hw1 := From.next (a := w) h2 hb1; have h21 := From.next (a := _) h22 hb1; have hbw1 := From.next (a := _) hb2 hb1)
        | (go_at_call 42; (with_reducible refine (HL.out _ hw1).mono ?_); rintro e w2 ⟨rfl, hb3⟩; have hw2 := From.next (a := w) hw1 hb3; have h23 := From.next (a := _) h21 hb3; have hbw2 := From.next (a := _) hbw1 hb3)
        | (go_at_call 41; (with_reducible refine (HF.out _ hw2).mono ?_); rintro e w3 ⟨rfl, hb4⟩; have hw3 := From.next (a := w) hw2 hb4; have h24 := From.next (a := _) h23 hb4; have hbw3 := From.next (a := _) hbw2 hb4; have hk := HRES.out w3 h24; obtain ⟨⟨s0, s1, s2⟩, t0, t1, t2⟩ := res_facts hk))
      have hk2 := HRES.out w3 h24
      obtain ⟨x0, x1, x2⟩ := put3_cells hk2 (.int .i64 0) (.int .i64 0) (.slice none 0 0)
      simp only [put3] at x0 x1 x2
      (try simp only [Exit.inBlock, Exit.then])
      refine bodyPost_ret (v := .tuple #[.agg #[.int .i64 0, .int .i64 0, .slice none 0 0], .int .i64 1]) (by simp [results, Try.results28, go_sem, x0, x1, x2]) rfl ?_
      exact ⟨_, rfl, ⟨fun _ => rfl, fun h => absurd h (by decide)⟩, put3_from hw3 (by omega)⟩
    · rw [hr] at HF hdef
      rw [if_pos rfl] at hdef
      by_cases hsum : xs.length + ys.length ≤ 512
      · rw [if_pos hsum] at hdef
        rw [hdef]
        have hd : decide ((512 : Int) < (xs.length : Int) + (ys.length : Int)) = false := by simp; omega
        have hjo := fun w' (hw : From w w') => joined_any B T xs.length _ _ xs ys w' (HE.out.from_ hw) (HU.out.from_ hw) hB0 (by omega) (Nat.le_refl _) (by omega) hy
        simp only [List.take_length] at hjo
        have HJ := Lib.hid hjo
        have HS := Lib.hid hsum
        clear hr hdef hlt hjo hsum
        go_enter Try.func28, Try.ntmps28
        go_wp2_with (first
          | (go_at_call 24; (with_reducible refine (HC.out _ h2).mono ?_); rintro e w1 ⟨rfl, hb1⟩; have hw1 := From.next (a := w) h2 hb1; have h21 := From.next (a := _) h22 hb1; have hbw1 := From.next (a := _) hb2 hb1)
          | (go_at_call 42; (with_reducible refine (HL.out _ hw1).mono ?_); rintro e w2 ⟨rfl, hb3⟩; have hw2 := From.next (a := w) hw1 hb3; have h23 := From.next (a := _) h21 hb3; have hbw2 := From.next (a := _) hbw1 hb3)
          | (go_at_call 41; (with_reducible refine (HF.out _ hw2).mono ?_); rintro e w3 ⟨rfl, hb4⟩; have hw3 := From.next (a := w) hw2 hb4; have h24 := From.next (a := _) h23 hb4; have hbw3 := From.next (a := _) hbw2 hb4)
          | (go_at_call 44; (with_reducible refine (HJ.out _ hw3).mono ?_); rintro e w4 ⟨v4, rfl, hown4, hb5⟩; have hw4 := From.next (a := w) hw3 hb5; have h25 := From.next (a := _) h24 hb5; obtain ⟨A4, c4, rfl⟩ := own_form hown4; have HO := Lib.hid (And.intro hown4 h24.size); clear hown4; have hk := HRES.out w4 h25; obtain ⟨⟨s0, s1, s2⟩, t0, t1, t2⟩ := res_facts hk))
        have hk2 := HRES.out w4 h25
        obtain ⟨x0, x1, x2⟩ := put3_cells hk2 (.int .i64 B) (.int .i64 T) (.slice A4 (xs.length + ys.length) c4)
        simp only [put3] at x0 x1 x2
        (try simp only [Exit.inBlock, Exit.then])
        refine bodyPost_ret (v := .tuple #[.agg #[.int .i64 B, .int .i64 T, .slice A4 (xs.length + ys.length) c4], .int .i64 0]) (by simp [results, Try.results28, go_sem, x0, x1, x2]) rfl ?_
        refine ⟨_, rfl, ⟨fun h => absurd rfl h, fun _ => ⟨_, rfl, ?_⟩⟩, put3_from hw4 (by omega)⟩
        obtain ⟨ho, hsz⟩ := HO.out
        have hsz2 : w.heap.size + 2 ≤ w3.heap.size := by simpa using hsz
        rw [List.length_append]
        refine ownsRow_le (base := w3.heap.size) ?_ (by omega)
        refine ownsRow_setCell_below (ownsRow_setCell_below (ownsRow_setCell_below ho ?_ _) ?_ _) ?_ _
        all_goals (show _ < w3.heap.size; simp; omega)
      · rw [if_neg hsum] at hdef
        rw [hdef]
        have hd : decide ((512 : Int) < (xs.length : Int) + (ys.length : Int)) = true := by simp; omega
        clear hr hdef hlt hsum
        go_enter Try.func28, Try.ntmps28
        go_wp2_with (first
          | (go_at_call 24; (with_reducible refine (HC.out _ h2).mono ?_); rintro e w1 ⟨rfl, hb1⟩; have hw1 := From.next (a := w) h2 hb1; have h21 := From.next (a := _) h22 hb1; have hbw1 := From.next (a := _) hb2 hb1)
          | (go_at_call 42; (with_reducible refine (HL.out _ hw1).mono ?_); rintro e w2 ⟨rfl, hb3⟩; have hw2 := From.next (a := w) hw1 hb3; have h23 := From.next (a := _) h21 hb3; have hbw2 := From.next (a := _) hbw1 hb3)
          | (go_at_call 41; (with_reducible refine (HF.out _ hw2).mono ?_); rintro e w3 ⟨rfl, hb4⟩; have hw3 := From.next (a := w) hw2 hb4; have h24 := From.next (a := _) h23 hb4; have hbw3 := From.next (a := _) hbw2 hb4; have hk := HRES.out w3 h24; obtain ⟨⟨s0, s1, s2⟩, t0, t1, t2⟩ := res_facts hk))
        have hk2 := HRES.out w3 h24
        obtain ⟨x0, x1, x2⟩ := put3_cells hk2 (.int .i64 0) (.int .i64 0) (.slice none 0 0)
        simp only [put3] at x0 x1 x2
        (try simp only [Exit.inBlock, Exit.then])
        refine bodyPost_ret (v := .tuple #[.agg #[.int .i64 0, .int .i64 0, .slice none 0 0], .int .i64 6]) (by simp [results, Try.results28, go_sem, x0, x1, x2]) rfl ?_
        exact ⟨_, rfl, ⟨fun _ => rfl, fun h => absurd h (by decide)⟩, put3_from hw3 (by omega)⟩
  · rw [if_neg hm] at hch hdef
    rw [hdef]
    have HC := Lib.hid hch
    clear hch hlo hm hdef
    go_enter Try.func28, Try.ntmps28
    go_wp2_with (first
      | (go_at_call 24; (with_reducible refine (HC.out _ h2).mono ?_); rintro e w1 ⟨rfl, hb1⟩; have hw1 := From.next (a := w) h2 hb1; have h21 := From.next (a := _) h22 hb1; have hbw1 := From.next (a := _) hb2 hb1; have hk := HRES.out w1 h21; obtain ⟨⟨s0, s1, s2⟩, t0, t1, t2⟩ := res_facts hk))
    have hk2 := HRES.out w1 h21
    obtain ⟨x0, x1, x2⟩ := put3_cells hk2 (.int .i64 0) (.int .i64 0) (.slice none 0 0)
    simp only [put3] at x0 x1 x2
    (try simp only [Exit.inBlock, Exit.then])
    refine bodyPost_ret (v := .tuple #[.agg #[.int .i64 0, .int .i64 0, .slice none 0 0], .int .i64 1]) (by simp [results, Try.results28, go_sem, x0, x1, x2]) rfl ?_
    exact ⟨_, rfl, ⟨fun _ => rfl, fun h => absurd h (by decide)⟩, put3_from hw1 (by omega)⟩

theorem ents_own {w : World} {base : Nat} {v : Value} {n : Nat} {xs : List Ent} (h : w.ownsRow base 63 3 v n (entV xs)) (hn : xs.length = n) : Ents w v xs := Ents.of_own h hn
def one : List Ent := [⟨1, 1, ⟨#[]⟩⟩]
theorem one_blk {w : World} {g : Nat} (h : Blk w g 63 #[.int .i64 1, .int .i64 1, .string ⟨#[]⟩]) : Ents w (.slice (some ⟨g, 0, none⟩) 1 1) one := by
  refine ⟨_, _, rfl, by decide, by decide, fun h => (by cases h), fun _ => ⟨g, 0, rfl, h.lt, fun i hi => ?_⟩⟩
  obtain rfl : i = 0 := by simp [one] at hi; omega
  exact ⟨by show w.cell? ⟨g, 0, none⟩ = _; rw [h.cell 0]; rfl, by show w.cell? ⟨g, 1, none⟩ = _; rw [h.cell 1]; rfl, by show w.cell? ⟨g, 2, none⟩ = _; rw [h.cell 2]; rfl⟩
theorem one_ap : apErr 0 0 [] one = 0 := by decide

set_option maxRecDepth 100000 in
set_option maxHeartbeats 2000000 in
theorem wakes_any (w : World) : Calls Try.prog 35 #[] w fun e w' => e = .returned (.bool true) ∧ From w w' := by
  have hap : ∀ w : World, Calls Try.prog 28 #[.agg #[.int .i64 0, .int .i64 0, .slice none 0 0], .slice (some ⟨w.heap.size, 0, none⟩) 1 1] (w.alloc (.cells #[.int .i64 1, .int .i64 1, .string ⟨#[]⟩] 63)) fun e w' => ∃ v', e = .returned (.tuple #[.agg #[.int .i64 0, .int .i64 0, v'], .int .i64 0]) ∧ Ents w' v' one ∧ From w w' := fun w => by
    have h := append_any 0 0 (.slice none 0 0) _ [] one _ (Ents.nil_ _) (one_blk (Blk.new w 63 #[.int .i64 1, .int .i64 1, .string ⟨#[]⟩])) (by decide)
    rw [one_ap] at h
    refine h.mono ?_
    rintro e w' ⟨L, h1, ⟨_, h2⟩, h3⟩
    obtain ⟨v', rfl, hown⟩ := h2 rfl
    exact ⟨v', h1, ents_own hown rfl, (From.rfl_.new _).next h3⟩
  have heq : ∀ (v : Value) (w : World) (g : Nat), w.heap.size = g → Ents w v one → Calls Try.prog 32 #[.agg #[.int .i64 0, .int .i64 0, v], .agg #[.int .i64 0, .int .i64 0, .slice (some ⟨g, 0, none⟩) 1 1]] (w.alloc (.cells #[.int .i64 1, .int .i64 1, .string ⟨#[]⟩] 63)) fun e w' => e = .returned (.bool true) ∧ From w w' := fun v w g hg hv => by
    subst hg
    exact (eqLog_same 0 0 v _ one _ (hv.from_ (From.rfl_.new _)) (one_blk (Blk.new w 63 #[.int .i64 1, .int .i64 1, .string ⟨#[]⟩])) (by decide)).mono fun e w' ⟨h1, h2⟩ => ⟨h1, (From.rfl_.new _).next h2⟩
  have HA := Lib.hid hap
  have HE := Lib.hid heq
  clear hap heq
  have hww : From w w := From.rfl_
  go_enter Try.func35, Try.ntmps35
  go_wp2_with (first
    | (go_at_call 28; (with_reducible refine (HA.out _).mono ?_); rintro e w1 ⟨v1, rfl, hv1, hb1⟩; have HV := Lib.hid hv1; obtain ⟨A, cap, rfl, -⟩ := hv1)
    | (go_at_call 32; (with_reducible refine (HE.out _ _ _ (by simp) (HV.out.from_ (From.rfl_.new _))).mono ?_); rintro e w2 ⟨rfl, hb2⟩)
    | (go_at_call 23; (with_reducible refine (errnum_any _ _).mono ?_); rintro e w10 ⟨rfl, rfl⟩))
  go_ret
  exact ⟨rfl, (hb1.new _).next hb2⟩
end Go.Proofs.Ytnnknoohhoifbaa
