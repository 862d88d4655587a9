/- Walks: joined, Append, EqLog, and what wakes the statements. -/
import Derived.Test.YtnnknoohhoifbaaEntRefs2
import Derived.Test.YtnnknoohhoifbaaEntGrow
import Derived.Handy
namespace Go.Proofs.Ytnnknoohhoifbaa
open Go.RowKit

theorem errnum_any (e : Int) (w : World) : Calls Try.prog 23 #[.int .i64 e] w fun r w' => r = .returned (.int .i64 e) ∧ w = w' := by
  go_enter Try.func23, Try.ntmps23
  go_wp2
  go_ret
  exact ⟨rfl, rfl⟩

theorem ownsRow_le {w : World} {base base' size n : Nat} {e : TypeId} {v : Value} {xs : List Value} (h : w.ownsRow base e size v n xs) (hb : base' ≤ base) : w.ownsRow base' e size v n xs := by
  refine ⟨h.1, ?_⟩
  rcases h.2 with h2 | ⟨g, cap, cur, hv, hg, r⟩
  · exact .inl h2
  · exact .inr ⟨g, cap, cur, hv, Nat.le_trans hb hg, r⟩
theorem concat_built (W : World) (g : Nat) (v1 v2 : Value) (xs ys : List Ent) (hg : W.heap.size = g) (h1 : Ents W v1 xs) (h2 : Ents W v2 ys) (hl1 : xs.length ≤ 400000000000) (hl2 : ys.length ≤ 400000000000) :
    Calls Try.prog 47 #[.slice (some ⟨g, 0, none⟩) 2 2] (W.alloc (.cells #[v1, v2] 23)) fun e w' => ∃ v', e = .returned v' ∧ w'.ownsRow W.heap.size 63 3 v' (xs.length + ys.length) (entV (xs ++ ys)) ∧ From W w' := by
  subst hg
  have hb := Blk.new W 23 #[v1, v2]
  refine (concat_any W.heap.size v1 v2 xs ys _ hb.lt (by rw [hb.cell 0]; rfl) (by rw [hb.cell 1]; rfl) (h1.from_ (From.rfl_.new _)) (h2.from_ (From.rfl_.new _)) hl1 hl2).mono ?_
  rintro e w' ⟨v', h1, h2, h3⟩
  exact ⟨v', h1, ownsRow_le h2 (by simp), (From.rfl_.new _).next h3⟩

set_option maxRecDepth 100000 in
set_option maxHeartbeats 1000000 in
/-- joined: the first k entries, and others behind them -/
theorem joined_any (B T : Int) (k : Nat) (v u : Value) (xs ys : List Ent) (w : World) (h : Ents w v xs) (hu : Ents w u ys) (hB0 : 0 ≤ B) (hB1 : B ≤ 4611686018427387904) (hk : k ≤ xs.length) (hx : xs.length ≤ 400000000000) (hy : ys.length ≤ 400000000000) :
    Calls Try.prog 44 #[.agg #[.int .i64 B, .int .i64 T, v], .int .i64 (B + k), u] w fun e w' => ∃ v', e = .returned (.agg #[.int .i64 B, .int .i64 T, v']) ∧ w'.ownsRow w.heap.size 63 3 v' (k + ys.length) (entV (xs.take k ++ ys)) ∧ From w w' := by
  obtain ⟨f0, f1, f2, hbb, hwb⟩ := box_log (w := w) (B := B) (T := T) (v := v) (t := 25)
  have HU := Lib.hid hu
  obtain ⟨A, cap, rfl, hc1, hc2, hc3, hrow⟩ := id h
  obtain ⟨B2, cap2, rfl, -⟩ := id hu
  clear hc3 hrow
  have hcut := h.cut hk
  have HCUT := Lib.hid hcut
  have j0 : B + (k : Int) - B = (k : Int) := by omega
  have j1 : (0 : Int) ≤ (k : Int) := by omega
  have j2 : (k : Int) ≤ (xs.length : Int) := by omega
  have j3 : (k : Int) ≤ (cap : Int) := by omega
  have htl : (xs.take k).length = k := by simp [Nat.min_eq_left hk]
  clear hcut h hu
  go_enter Try.func44, Try.ntmps44
  have hcon := fun W g hg (h : From w W) => concat_built W g _ _ (xs.take k) ys hg (HCUT.out.from_ h) (HU.out.from_ h) (by omega) hy
  simp only [htl] at hcon
  have HC := Lib.hid hcon
  clear hcon
  have hwb2 : From w ((w.alloc (.cells #[.int .i64 B, .int .i64 T, .slice A xs.length cap] 25)).alloc (.cells #[.int .i64 0, .int .i64 0, .slice none 0 0] 25)) := hwb.new _
  have hbb2 : From (w.alloc (.cells #[.int .i64 B, .int .i64 T, .slice A xs.length cap] 25)) ((w.alloc (.cells #[.int .i64 B, .int .i64 T, .slice A xs.length cap] 25)).alloc (.cells #[.int .i64 0, .int .i64 0, .slice none 0 0] 25)) := hbb.new _
  have hne : w.heap.size ≠ w.heap.size + 1 := by omega
  have hz : (w.alloc (.cells #[.int .i64 B, .int .i64 T, .slice A xs.length cap] 25)).heap.size = w.heap.size + 1 := by simp
  have hk1 : ∀ w1, From ((w.alloc (.cells #[.int .i64 B, .int .i64 T, .slice A xs.length cap] 25)).alloc (.cells #[.int .i64 0, .int .i64 0, .slice none 0 0] 25)) w1 → Blk w1 w.heap.size 25 #[.int .i64 B, .int .i64 T, .slice A xs.length cap] ∧ Blk w1 (w.heap.size + 1) 25 #[.int .i64 0, .int .i64 0, .slice none 0 0] := fun w1 h => by
    refine ⟨(Blk.new w 25 _).from_ (hbb2.next h), ?_⟩
    have h2 := (Blk.new (w.alloc (.cells #[.int .i64 B, .int .i64 T, .slice A xs.length cap] 25)) 25 #[.int .i64 0, .int .i64 0, .slice none 0 0]).from_ h
    rw [hz] at h2
    exact h2
  have HK := Lib.hid hk1
  clear hk1
  have hk2 : ∀ w1 v1, From ((w.alloc (.cells #[.int .i64 B, .int .i64 T, .slice A xs.length cap] 25)).alloc (.cells #[.int .i64 0, .int .i64 0, .slice none 0 0] 25)) w1 →
      (w1.cell? ⟨w.heap.size, 2, none⟩ = some (.slice A xs.length cap) ∧ w1.frozen? ⟨w.heap.size, 2, none⟩ = false) ∧
      ((w1.setCell ⟨w.heap.size, 2, none⟩ v1).cell? ⟨w.heap.size, 0, none⟩ = some (.int .i64 B) ∧ (w1.setCell ⟨w.heap.size, 2, none⟩ v1).cell? ⟨w.heap.size, 1, none⟩ = some (.int .i64 T) ∧ (w1.setCell ⟨w.heap.size, 2, none⟩ v1).cell? ⟨w.heap.size, 2, none⟩ = some v1) ∧
      (Blk (w1.setCell ⟨w.heap.size, 2, none⟩ v1) (w.heap.size + 1) 25 #[.int .i64 0, .int .i64 0, .slice none 0 0]) := fun w1 v1 h => by
    obtain ⟨b1, b2⟩ := HK.out w1 h
    have b3 := b1.set_ 2 v1
    exact ⟨⟨by rw [b1.cell 2]; rfl, b1.frozen 2⟩, ⟨by rw [b3.cell 0]; rfl, by rw [b3.cell 1]; rfl, by rw [b3.cell 2]; rfl⟩, b2.far (p := ⟨w.heap.size, 2, none⟩) (by simp) v1⟩
  have HK2 := Lib.hid hk2
  clear hk2 HK
  go_wp2_with (go_at_call 47; (with_reducible refine (HC.out _ _ (by simp) hwb2).mono ?_); rintro e w1 ⟨v1, rfl, hown1, hb1⟩; obtain ⟨A4, c4, rfl⟩ := own_form hown1; have HO := Lib.hid hown1; clear hown1; obtain ⟨⟨q1, q2⟩, ⟨r0, r1, r2⟩, b4⟩ := HK2.out w1 (.slice A4 (k + ys.length) c4) hb1; have s0 := b4.cell 0; have s1 := b4.cell 1; have s2 := b4.cell 2; have t0 := b4.frozen 0; have t1 := b4.frozen 1; have t2 := b4.frozen 2; simp at s0 s1 s2)
  have b5 := ((b4.set_ 0 (.int .i64 B)).set_ 1 (.int .i64 T)).set_ 2 (.slice A4 (k + ys.length) c4)
  have x0 := b5.cell 0
  have x1 := b5.cell 1
  have x2 := b5.cell 2
  simp only [List.setIfInBounds_toArray, List.set_cons_zero, List.set_cons_succ] at x0 x1 x2
  clear hbb hbb2 HC HK2 HCUT HU b4 b5 q1 q2 r0 r1 r2 t0 t1 t2 s0 s1 s2
  (try simp only [Exit.inBlock, Exit.then])
  refine bodyPost_ret (v := .agg #[.int .i64 B, .int .i64 T, .slice A4 (k + ys.length) c4]) (by simp [results, Try.results44, go_sem, x0, x1, x2]) rfl ?_
  have hw1 := hwb2.next hb1
  refine ⟨_, rfl, ?_, ?_⟩
  · have ho := HO.out
    have hsz : ((w.alloc (.cells #[.int .i64 B, .int .i64 T, .slice A xs.length cap] 25)).alloc (.cells #[.int .i64 0, .int .i64 0, .slice none 0 0] 25)).heap.size = w.heap.size + 2 := by simp
    rw [hsz] at ho
    refine ownsRow_le (base := w.heap.size + 2) ?_ (by omega)
    refine ownsRow_setCell_below (ownsRow_setCell_below (ownsRow_setCell_below (ownsRow_setCell_below ho ?_ _) ?_ _) ?_ _) ?_ _
    all_goals (show _ < w.heap.size + 2; simp)
  · exact ((((From.set_ (a := w) hw1 (Nat.le_refl _) _).set_ (by simp) _).set_ (by simp) _).set_ (by simp) _)

set_option maxRecDepth 100000 in
set_option maxHeartbeats 1000000 in
theorem eqLog_same (B T : Int) (v u : Value) (xs : List Ent) (w : World) (h1 : Ents w v xs) (h2 : Ents w u xs) (hl : xs.length ≤ 1000000000000) :
    Calls Try.prog 32 #[.agg #[.int .i64 B, .int .i64 T, v], .agg #[.int .i64 B, .int .i64 T, u]] w fun e w' => e = .returned (.bool true) ∧ From w w' := by
  have heq := fun w' (h : From w w') => eqEntries_same v u xs w' (h1.from_ h) (h2.from_ h) hl
  have HE := Lib.hid heq
  obtain ⟨f0, f1, f2, hbb, hwb⟩ := box_log (w := w) (B := B) (T := T) (v := v) (t := 25)
  obtain ⟨g0, g1, g2, hcc, hwc⟩ := box_log (w := w.alloc (.cells #[.int .i64 B, .int .i64 T, v] 25)) (B := B) (T := T) (v := u) (t := 25)
  have hz : (w.alloc (.cells #[.int .i64 B, .int .i64 T, v] 25)).heap.size = w.heap.size + 1 := by simp
  rw [hz] at g0 g1 g2
  have hwc2 := hwb.next hwc
  obtain ⟨A, cap, rfl, -⟩ := h1
  obtain ⟨A2, cap2, rfl, -⟩ := h2
  clear heq
  go_enter Try.func32, Try.ntmps32
  go_wp2_with (go_at_call 33; (with_reducible refine (HE.out _ hwc2).mono ?_); rintro e w1 ⟨rfl, hb1⟩)
  go_ret
  exact ⟨rfl, hwc2.next hb1⟩

def zeroLog : Value := .agg #[.int .i64 0, .int .i64 0, .slice none 0 0]
end Go.Proofs.Ytnnknoohhoifbaa
