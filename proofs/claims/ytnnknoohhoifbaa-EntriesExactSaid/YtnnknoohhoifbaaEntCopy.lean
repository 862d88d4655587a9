/- Walks: copies of entries and of logs, the reference's Append and Cut. -/
import Derived.Test.YtnnknoohhoifbaaEntAppend2
namespace Go.Proofs.Ytnnknoohhoifbaa
open Go.RowKit

theorem blk_new_at (W : World) (g : Nat) (hg : W.heap.size = g) (t : TypeId) (cs : Array Value) : Blk (W.alloc (.cells cs t)) g t cs := hg ▸ Blk.new W t cs
theorem ent_blk {w : World} {g : Nat} {e : Ent} (h : Blk w g 63 #[.int .i64 e.i, .int .i64 e.t, .string e.d]) : Ents w (.slice (some ⟨g, 0, none⟩) 1 1) [e] := by
  refine ⟨_, _, rfl, by simp, by decide, fun h => (by cases h), fun _ => ⟨g, 0, rfl, h.lt, fun i hi => ?_⟩⟩
  obtain rfl : i = 0 := by simp at hi; omega
  exact ⟨by show w.cell? ⟨g, 0, none⟩ = _; rw [h.cell 0]; rfl, by show w.cell? ⟨g, 1, none⟩ = _; rw [h.cell 1]; rfl, by show w.cell? ⟨g, 2, none⟩ = _; rw [h.cell 2]; rfl⟩

set_option maxRecDepth 100000 in
set_option maxHeartbeats 1000000 in
theorem copyEntries_any (v : Value) (xs : List Ent) (w : World) (h : Ents w v xs) (hl : xs.length ≤ 400000000000) :
    Calls Try.prog 14 #[v] w fun e w' => ∃ v', e = .returned v' ∧ w'.ownsRow w.heap.size 63 3 v' xs.length (entV xs) ∧ From w w' := by
  obtain ⟨A, cap, rfl, hc1, hc2, hc3, hrow⟩ := h
  go_enter Try.func14, Try.ntmps14
  go_wp2
  go_loopw [3, 4] (fun v i wr => ∃ j : Nat, j ≤ xs.length ∧ i = .int .i64 j ∧ wr.ownsRow w.heap.size 63 3 v j (entV (xs.take j)) ∧ From w wr) (fun _ i _ => xs.length - (intOf i).toNat)
  case atStart => exact ⟨0, by omega, rfl, World.ownsRow_nil _ _ _ _, From.rfl_⟩
  case round =>
    obtain ⟨j, hj, rfl, hown, hw⟩ := hrel
    by_cases hlt : j < xs.length
    · obtain ⟨b, o, rfl, hb, hc⟩ := hrow (by omega)
      obtain ⟨c1, c2, c3⟩ := hc j hlt
      have d1 : ∀ w', From w w' → w'.cell? ⟨b, o + j * 3, none⟩ = some (.int .i64 xs[j].i) := fun w' h => (h.cells b _ hb).trans c1
      have d2 : ∀ w', From w w' → w'.cell? ⟨b, o + j * 3 + 1, none⟩ = some (.int .i64 xs[j].t) := fun w' h => (h.cells b _ hb).trans c2
      have d3 : ∀ w', From w w' → w'.cell? ⟨b, o + j * 3 + 2, none⟩ = some (.string xs[j].d) := fun w' h => (h.cells b _ hb).trans c3
      have i1 : (0 : Int) ≤ (j : Int) := by omega
      have i2 : (j : Int) < (xs.length : Int) := by omega
      have hsn : xs.take (j + 1) = xs.take j ++ [xs[j]] := List.take_succ_eq_append_getElem hlt
      have HS := Lib.hid hsn
      have HO := Lib.hid hown
      clear hc c1 c2 c3 hrow hsn hown
      generalize xs[j] = e at *
      have hjn : j + [e].length ≤ 1000000000000 := by simp; omega
      go_wp2_with (at_builtin; refine wpList_pushe w rfl (.tmp 11) (.tmp 16) 23 rfl Try.underlying23 _ j (xs.take j) rfl (HO.out.alloc _) (hw.new _) _ [e] rfl (ent_blk (Blk.new _ _ _)) hjn ?_; intro v1 w1 hown1 hw1)
      go_roundw
      case rel => exact ⟨j + 1, by omega, by go_num, by rw [HS.out]; exact hown1, hw1⟩
      case measure => simp [intOf]; omega
    · obtain hjl : j = xs.length := by omega
      have HJ := Lib.hid hjl
      clear hjl
      go_wp2
      go_ret
      exact ⟨_, rfl, by rw [HJ.out, List.take_length] at hown; exact hown, hw⟩

abbrev boxed3 (w : World) (B T : Int) (v : Value) : World := (boxed2 w B T v).alloc (.cells #[.int .i64 B, .int .i64 T, v] 25)
set_option maxRecDepth 100000 in
set_option maxHeartbeats 1000000 in
theorem copyLog_any (B T : Int) (v : Value) (xs : List Ent) (w : World) (h : Ents w v xs) (hl : xs.length ≤ 400000000000) :
    Calls Try.prog 13 #[.agg #[.int .i64 B, .int .i64 T, v]] w fun e w' => ∃ v', e = .returned (.agg #[.int .i64 B, .int .i64 T, v']) ∧ w'.ownsRow w.heap.size 63 3 v' xs.length (entV xs) ∧ From w w' := by
  obtain ⟨f0, f1, f2, hbb, hwb⟩ := box_log (w := w) (B := B) (T := T) (v := v) (t := 25)
  have hce := fun w' (hw : From w w') => copyEntries_any v xs w' (h.from_ hw) hl
  have HC := Lib.hid hce
  have h3 : From w (boxed3 w B T v) := (boxed2_from w B T v).new _
  have hsz : (boxed3 w B T v).heap.size = w.heap.size + 3 := by simp
  have hbl1 : Blk (boxed3 w B T v) (w.heap.size + 1) 25 #[.int .i64 0, .int .i64 0, .slice none 0 0] := (boxed2_res From.rfl_).alloc _
  have hbl2 : Blk (boxed3 w B T v) (w.heap.size + 2) 25 #[.int .i64 B, .int .i64 T, v] := blk_new_at _ _ (by simp) _ _
  have hk : ∀ w1 v1, From (boxed3 w B T v) w1 →
      (w1.cell? ⟨w.heap.size + 2, 2, none⟩ = some v ∧ w1.frozen? ⟨w.heap.size + 2, 2, none⟩ = false) ∧
      ((w1.setCell ⟨w.heap.size + 2, 2, none⟩ v1).cell? ⟨w.heap.size + 2, 0, none⟩ = some (.int .i64 B) ∧ (w1.setCell ⟨w.heap.size + 2, 2, none⟩ v1).cell? ⟨w.heap.size + 2, 1, none⟩ = some (.int .i64 T) ∧ (w1.setCell ⟨w.heap.size + 2, 2, none⟩ v1).cell? ⟨w.heap.size + 2, 2, none⟩ = some v1) ∧
      Blk (w1.setCell ⟨w.heap.size + 2, 2, none⟩ v1) (w.heap.size + 1) 25 #[.int .i64 0, .int .i64 0, .slice none 0 0] := fun w1 v1 h => by
    have b1 := hbl2.from_ h
    have b2 := hbl1.from_ h
    have b3 := b1.set_ 2 v1
    exact ⟨⟨by rw [b1.cell 2]; rfl, b1.frozen 2⟩, ⟨by rw [b3.cell 0]; rfl, by rw [b3.cell 1]; rfl, by rw [b3.cell 2]; rfl⟩, b2.far (p := ⟨w.heap.size + 2, 2, none⟩) (by simp) v1⟩
  have HK := Lib.hid hk
  have HSZ := Lib.hid hsz
  obtain ⟨A, cap, rfl, -⟩ := h
  simp only [boxed3, boxed2] at h3 HK HSZ
  clear hce hbl1 hbl2 hk hsz
  go_enter Try.func13, Try.ntmps13
  go_wp2_with (go_at_call 14; (with_reducible refine (HC.out _ h3).mono ?_); rintro e w1 ⟨v1, rfl, hown1, hb1⟩; obtain ⟨A4, c4, rfl⟩ := own_form hown1; have HO := Lib.hid (And.intro hown1 hb1); clear hown1; obtain ⟨⟨q1, q2⟩, ⟨r0, r1, r2⟩, b4⟩ := HK.out w1 (.slice A4 xs.length c4) hb1; obtain ⟨⟨s0, s1, s2⟩, t0, t1, t2⟩ := res_facts b4; obtain ⟨x0, x1, x2⟩ := put3_cells b4 (.int .i64 B) (.int .i64 T) (.slice A4 xs.length c4); simp only [put3] at x0 x1 x2)
  (try simp only [Exit.inBlock, Exit.then])
  refine bodyPost_ret (v := .agg #[.int .i64 B, .int .i64 T, .slice A4 xs.length c4]) (by simp [results, Try.results13, go_sem, x0, x1, x2]) rfl ?_
  obtain ⟨ho, hb⟩ := HO.out
  rw [HSZ.out] at ho
  refine ⟨_, rfl, ?_, put3_from (From.set_ (p := ⟨w.heap.size + 2, 2, none⟩) (h3.next hb) (by simp) _) (by omega)⟩
  refine ownsRow_le (base := w.heap.size + 3) ?_ (by omega)
  refine ownsRow_setCell_below (ownsRow_setCell_below (ownsRow_setCell_below (ownsRow_setCell_below ho ?_ _) ?_ _) ?_ _) ?_ _
  all_goals (show _ < w.heap.size + 3; simp)
end Go.Proofs.Ytnnknoohhoifbaa
