/- Walks of package entries: Cut, Slice. -/
import Derived.Test.YtnnknoohhoifbaaEntCopy
import Derived.Lib.BufferMore
namespace Go.Proofs.Ytnnknoohhoifbaa
open Go.RowKit

set_option maxRecDepth 100000 in
set_option maxHeartbeats 1000000 in
/-- slices.Clone -/
theorem clone_any (v : Value) (xs : List Ent) (w : World) (h : Ents w v xs) (hl : xs.length ≤ 400000000000) :
    Calls Try.prog 45 #[v] w fun e w' => ∃ v', e = .returned v' ∧ w'.ownsRow w.heap.size 63 3 v' xs.length (entV xs) ∧ From w w' := by
  have HE := Lib.hid h
  obtain ⟨A, cap, rfl, hc1, hc2, hc3, hrow⟩ := h
  clear hrow
  cases A with
  | none =>
    have h0 := hc3 rfl
    have hx : xs = [] := List.eq_nil_of_length_eq_zero (by omega)
    subst hx
    subst h0
    clear hc3
    have hnil : ∀ W, (binOp .eql 23 (.slice none 0 0) (.slice none 0 0)).run Try.prog W = .ok (.bool true) W := fun W => Lib.run_eql_slice_nil_nil W _ _ Try.underlying23
    go_enter Try.func45, Try.ntmps45
    go_wp2
    go_ret
    exact ⟨_, rfl, World.ownsRow_nil _ _ _ _, From.rfl_⟩
  | some ad =>
    clear hc3
    have hz : w.heap.size ≤ w.heap.size := Nat.le_refl _
    have hlit : (w.alloc (.cells #[] 63)).ownsRow w.heap.size 63 3 (.slice (some ⟨w.heap.size, 0, none⟩) 0 0) 0 (entV []) :=
      ⟨by simp [entV], .inr ⟨w.heap.size, 0, #[], rfl, hz, heap_alloc_new w _, by omega, by decide, by simp, by simp [entV]⟩⟩
    have HL := Lib.hid hlit
    have hjn : 0 + xs.length ≤ 1000000000000 := by omega
    clear hlit
    have hnil : ∀ W n c, (binOp .eql 23 (.slice (some ad) n c) (.slice none 0 0)).run Try.prog W = .ok (.bool false) W := fun W n c => Lib.run_eql_slice_some_nil W _ _ _ Try.underlying23
    go_enter Try.func45, Try.ntmps45
    go_wp2_with (at_builtin; refine wpList_pushe w rfl (.tmp 5) (.tmp 6) 23 rfl Try.underlying23 _ 0 [] rfl HL.out (From.rfl_.new _) _ xs rfl (HE.out.from_ (From.rfl_.new _)) hjn ?_; intro v1 w1 hown1 hw1)
    go_ret
    exact ⟨_, rfl, by simpa using hown1, hw1⟩

def cutErr (B T : Int) (xs : List Ent) (i : Int) : Int := if mayLog B T xs = true then (if B ≤ i ∧ i ≤ lastI B xs then 0 else 1) else 1

set_option maxRecDepth 100000 in
set_option maxHeartbeats 2000000 in
theorem cut_any (B T i : Int) (v : Value) (xs : List Ent) (w : World) (h : Ents w v xs) :
    Calls Try.prog 29 #[.agg #[.int .i64 B, .int .i64 T, v], .int .i64 i] w fun e w' => ∃ L, e = .returned (.tuple #[L, .int .i64 (cutErr B T xs i)]) ∧ ApGot w w' B T (xs.take (i - B).toNat) (cutErr B T xs i) L ∧ From w w' := by
  obtain ⟨f0, f1, f2, hbb, hwb⟩ := box_log (w := w) (B := B) (T := T) (v := v) (t := 25)
  have hch := fun w' (hw : From w w') => check_any B T v xs w' (h.from_ hw)
  have hlo := fun w' (hw : From w w') => lastOf_any B T v xs w' (h.from_ hw)
  have h2 := boxed2_from w B T v
  have hb2 := boxed_from2 w B T v
  have h22 : From (boxed2 w B T v) (boxed2 w B T v) := From.rfl_
  have hres : ∀ w1, From (boxed2 w B T v) w1 → Blk w1 (w.heap.size + 1) 25 #[.int .i64 0, .int .i64 0, .slice none 0 0] := fun w1 h => boxed2_res h
  have HRES := Lib.hid hres
  have hwi := within_any
  have HW := Lib.hid hwi
  unfold chk at hch
  have HE := Lib.hid h
  have hdef : cutErr B T xs i = cutErr B T xs i := rfl
  conv at hdef => rhs; unfold cutErr
  simp only [boxed, boxed2] at h2 hb2 h22 HRES
  obtain ⟨A, cap, rfl, hc1, hc2, hc3, hrow⟩ := h
  clear hc3 hrow hres hwi
  by_cases hm : mayLog B T xs = true
  · rw [if_pos hm] at hch hdef
    obtain ⟨hl, hB0, hB1, hx⟩ := may_lastI hm
    rw [hl] at hlo hdef
    have HC := Lib.hid hch
    have HL := Lib.hid hlo
    clear hch hlo hm hl
    by_cases hin : B ≤ i ∧ i ≤ B + xs.length
    · rw [if_pos hin] at hdef
      rw [hdef]
      have hib := inb_mk hin
      obtain ⟨k, hk⟩ : ∃ k : Nat, i = B + k := ⟨(i - B).toNat, by omega⟩
      subst hk
      have hkn : (B + (k : Int) - B).toNat = k := by omega
      rw [hkn]
      have hkl : k ≤ xs.length := by omega
      have hjo := fun w' (hw : From w w') => joined_any B T k _ (.slice none 0 0) xs [] w' (HE.out.from_ hw) (Ents.nil_ w') hB0 (by omega) hkl (by omega) (by decide)
      simp only [List.append_nil, List.length_nil, Nat.add_zero] at hjo
      have HJ := Lib.hid hjo
      have htl : (xs.take k).length = k := by simp [Nat.min_eq_left hkl]
      have HTL := Lib.hid htl
      clear hdef hjo hin hkn htl
      go_enter Try.func29, Try.ntmps29
      go_wp2_with (first
        | (go_at_call 24; (with_reducible refine (HC.out _ h2).mono ?_); rintro e w1 ⟨rfl, hb1⟩; have hw1 := From.next (a := w) h2 hb1; have h21 := From.next (a := _) h22 hb1; have hbw1 := From.next (a := _) hb2 hb1)
        | (go_at_call 42; (with_reducible refine (HL.out _ hw1).mono ?_); rintro e w2 ⟨rfl, hb3⟩; have hw2 := From.next (a := w) hw1 hb3; have h23 := From.next (a := _) h21 hb3; have hbw2 := From.next (a := _) hbw1 hb3)
        | (go_at_call 40; (with_reducible refine (HW.out _ _ _ _).mono ?_); rintro e w3 ⟨rfl, hb4⟩; have hw3 := From.next (a := w) hw2 hb4; have h24 := From.next (a := _) h23 hb4; have hbw3 := From.next (a := _) hbw2 hb4)
        | (go_at_call 44; (with_reducible refine (HJ.out _ hw3).mono ?_); rintro e w4 ⟨v4, rfl, hown4, hb5⟩; have hw4 := From.next (a := w) hw3 hb5; have h25 := From.next (a := _) h24 hb5; obtain ⟨A4, c4, rfl⟩ := own_form hown4; have HO := Lib.hid (And.intro hown4 h24.size); clear hown4; have hkk := HRES.out w4 h25; obtain ⟨⟨s0, s1, s2⟩, t0, t1, t2⟩ := res_facts hkk))
      have hk2 := HRES.out w4 h25
      obtain ⟨x0, x1, x2⟩ := put3_cells hk2 (.int .i64 B) (.int .i64 T) (.slice A4 k c4)
      simp only [put3] at x0 x1 x2
      (try simp only [Exit.inBlock, Exit.then])
      refine bodyPost_ret (v := .tuple #[.agg #[.int .i64 B, .int .i64 T, .slice A4 k c4], .int .i64 0]) (by simp [results, Try.results29, go_sem, x0, x1, x2]) rfl ?_
      refine ⟨_, rfl, ⟨fun h => absurd rfl h, fun _ => ⟨_, rfl, ?_⟩⟩, put3_from hw4 (by omega)⟩
      obtain ⟨ho, hsz⟩ := HO.out
      have hsz2 : w.heap.size + 2 ≤ w3.heap.size := by simpa using hsz
      rw [HTL.out]
      refine ownsRow_le (base := w3.heap.size) ?_ (by omega)
      refine ownsRow_setCell_below (ownsRow_setCell_below (ownsRow_setCell_below ho ?_ _) ?_ _) ?_ _
      all_goals (show _ < w3.heap.size; simp; omega)
    · rw [if_neg hin] at hdef
      rw [hdef]
      have hib := inb_no hin
      clear hdef hin
      go_enter Try.func29, Try.ntmps29
      go_wp2_with (first
        | (go_at_call 24; (with_reducible refine (HC.out _ h2).mono ?_); rintro e w1 ⟨rfl, hb1⟩; have hw1 := From.next (a := w) h2 hb1; have h21 := From.next (a := _) h22 hb1; have hbw1 := From.next (a := _) hb2 hb1)
        | (go_at_call 42; (with_reducible refine (HL.out _ hw1).mono ?_); rintro e w2 ⟨rfl, hb3⟩; have hw2 := From.next (a := w) hw1 hb3; have h23 := From.next (a := _) h21 hb3; have hbw2 := From.next (a := _) hbw1 hb3)
        | (go_at_call 40; (with_reducible refine (HW.out _ _ _ _).mono ?_); rintro e w3 ⟨rfl, hb4⟩; have hw3 := From.next (a := w) hw2 hb4; have h24 := From.next (a := _) h23 hb4; have hbw3 := From.next (a := _) hbw2 hb4; have hk := HRES.out w3 h24; obtain ⟨⟨s0, s1, s2⟩, t0, t1, t2⟩ := res_facts hk))
      have hk2 := HRES.out w3 h24
      obtain ⟨x0, x1, x2⟩ := put3_cells hk2 (.int .i64 0) (.int .i64 0) (.slice none 0 0)
      simp only [put3] at x0 x1 x2
      (try simp only [Exit.inBlock, Exit.then])
      refine bodyPost_ret (v := .tuple #[.agg #[.int .i64 0, .int .i64 0, .slice none 0 0], .int .i64 1]) (by simp [results, Try.results29, go_sem, x0, x1, x2]) rfl ?_
      exact ⟨_, rfl, ⟨fun _ => rfl, fun h => absurd h (by decide)⟩, put3_from hw3 (by omega)⟩
  · rw [if_neg hm] at hch hdef
    rw [hdef]
    have HC := Lib.hid hch
    clear hch hlo hm hdef
    go_enter Try.func29, Try.ntmps29
    go_wp2_with (first
      | (go_at_call 24; (with_reducible refine (HC.out _ h2).mono ?_); rintro e w1 ⟨rfl, hb1⟩; have hw1 := From.next (a := w) h2 hb1; have h21 := From.next (a := _) h22 hb1; have hbw1 := From.next (a := _) hb2 hb1; have hk := HRES.out w1 h21; obtain ⟨⟨s0, s1, s2⟩, t0, t1, t2⟩ := res_facts hk))
    have hk2 := HRES.out w1 h21
    obtain ⟨x0, x1, x2⟩ := put3_cells hk2 (.int .i64 0) (.int .i64 0) (.slice none 0 0)
    simp only [put3] at x0 x1 x2
    (try simp only [Exit.inBlock, Exit.then])
    refine bodyPost_ret (v := .tuple #[.agg #[.int .i64 0, .int .i64 0, .slice none 0 0], .int .i64 1]) (by simp [results, Try.results29, go_sem, x0, x1, x2]) rfl ?_
    exact ⟨_, rfl, ⟨fun _ => rfl, fun h => absurd h (by decide)⟩, put3_from hw1 (by omega)⟩
end Go.Proofs.Ytnnknoohhoifbaa
