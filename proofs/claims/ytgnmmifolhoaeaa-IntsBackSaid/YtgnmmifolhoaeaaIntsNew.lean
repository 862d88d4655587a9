/- Walks of package ints: newPacked, New, Len, Width, Get. -/
import Derived.Test.YtgnmmifolhoaeaaIntsMath2
import Derived.OwnWalk
namespace Go.Proofs.Ytgnmmifolhoaeaa
open Go.RowKit

theorem u64_info : (Try.prog.info? 47).map (fun i => (i.zero, i.size, i.bytes)) = some (some (.int .u64 0), 1, 8) := by kernel_rfl
def wordCount (W n : Nat) : Nat := (W * n + 63) / 64
theorem wordCount_small {W n : Nat} (hW : W ≤ 64) (hn : n ≤ 131072) : W * n ≤ 8388608 ∧ wordCount W n ≤ 131072 := by
  have h : W * n ≤ 64 * 131072 := Nat.mul_le_mul hW hn
  refine ⟨h, ?_⟩
  unfold wordCount
  omega
theorem wc_facts {p m : Nat} (hp : p ≤ 8388608) (hm : m = (p + 63) / 64) : wrap64 (p : Int) = (p : Int) ∧ (p : Int) + 64 - 1 = ((p + 63 : Nat) : Int) ∧ ((p + 63 : Nat) : Int).tdiv 64 = (m : Int) ∧ ((p + 63 : Nat) : Int) / 64 = (m : Int) ∧ wrap64 (m : Int) = (m : Int) := by
  refine ⟨wrap64_nat p (by omega), by omega, ?_, ?_, wrap64_nat m (by omega)⟩
  · rw [hm]; rfl
  · rw [hm]; rfl

theorem ownsRow_le {w : World} {base base' size n : Nat} {e : TypeId} {v : Value} {xs : List Value} (h : w.ownsRow base e size v n xs) (hb : base' ≤ base) : w.ownsRow base' e size v n xs := by
  refine ⟨h.1, ?_⟩
  rcases h.2 with h2 | ⟨g, cap, cur, hv, hg, r⟩
  · exact .inl h2
  · exact .inr ⟨g, cap, cur, hv, Nat.le_trans hb hg, r⟩
theorem res_facts {w1 : World} {g : Nat} {t : TypeId} {a b c : Value} (h : Blk w1 g t #[a, b, c]) :
    (w1.cell? ⟨g, 0, none⟩ = some a ∧ w1.cell? ⟨g, 1, none⟩ = some b ∧ w1.cell? ⟨g, 2, none⟩ = some c) ∧ (w1.frozen? ⟨g, 0, none⟩ = false ∧ w1.frozen? ⟨g, 1, none⟩ = false ∧ w1.frozen? ⟨g, 2, none⟩ = false) :=
  ⟨⟨by rw [h.cell 0]; rfl, by rw [h.cell 1]; rfl, by rw [h.cell 2]; rfl⟩, h.frozen 0, h.frozen 1, h.frozen 2⟩
theorem put3_cells {w1 : World} {g : Nat} {t : TypeId} {a b c : Value} (h : Blk w1 g t #[a, b, c]) (x y z : Value) :
    (((w1.setCell ⟨g, 0, none⟩ x).setCell ⟨g, 1, none⟩ y).setCell ⟨g, 2, none⟩ z).cell? ⟨g, 0, none⟩ = some x ∧ (((w1.setCell ⟨g, 0, none⟩ x).setCell ⟨g, 1, none⟩ y).setCell ⟨g, 2, none⟩ z).cell? ⟨g, 1, none⟩ = some y ∧ (((w1.setCell ⟨g, 0, none⟩ x).setCell ⟨g, 1, none⟩ y).setCell ⟨g, 2, none⟩ z).cell? ⟨g, 2, none⟩ = some z := by
  have b5 := ((h.set_ 0 x).set_ 1 y).set_ 2 z
  exact ⟨by rw [b5.cell 0]; rfl, by rw [b5.cell 1]; rfl, by rw [b5.cell 2]; rfl⟩
theorem made_words (m : Nat) : (madeCells (Value.int .u64 0).cells (m * 1)).toList = wordsV (List.replicate m 0) := by
  have h := toList_madeCells_one (.int .u64 0) m
  rw [Nat.mul_one]
  refine h.trans ?_
  simp [wordsV]

set_option maxRecDepth 100000 in
set_option maxHeartbeats 1000000 in
theorem newPacked_any (W n : Nat) (w : World) (hW : W ≤ 64) (hn : n ≤ 131072) :
    Calls Try.prog 26 #[.int .i64 W, .int .i64 n] w fun e w' => ∃ h cap, e = .returned (.agg #[.slice (some ⟨h, 0, none⟩) (wordCount W n) cap, .int .i64 W, .int .i64 n]) ∧
      w'.ownsRow w.heap.size 47 1 (.slice (some ⟨h, 0, none⟩) (wordCount W n) cap) (wordCount W n) (wordsV (List.replicate (wordCount W n) 0)) ∧ From w w' := by
  obtain ⟨i0, hi0, hz0, hz1, hz2⟩ := info_parts u64_info
  obtain ⟨hp1, hm1⟩ := wordCount_small hW hn
  obtain ⟨p, hp⟩ : ∃ p, p = W * n := ⟨_, rfl⟩
  have q1 := mul_nat W n p hp
  rw [← hp] at hp1
  have hm : wordCount W n = (p + 63) / 64 := by unfold wordCount; rw [hp]
  generalize wordCount W n = m at *
  obtain ⟨q2, q3, q4, q5, q6⟩ := wc_facts hp1 hm
  have HP := Lib.hid (And.intro hp hm)
  have hp9 : p + 63 ≤ 9000000 := by clear hm hp q2 q3 q4 q5 q6; omega
  clear hp hm
  generalize p + 63 = p63 at *
  go_enter Try.func26, Try.ntmps26
  have hz : (w.alloc (.cells #[.slice none 0 0, .int .i64 0, .int .i64 0] 53)).heap.size = w.heap.size + 1 := by simp
  go_wp2_with (refine wpList_make_full (P := Try.prog) _ rfl _ _ _ rfl (w.heap.size + 1) 47 i0 _ 1 Try.underlying23 hi0 hz0 hz1 .i64 .i64 _ _ m rfl rfl rfl rfl (by rw [hz2]; omega) (by unfold maxLen; omega) (by rw [hz]; exact Nat.le_refl _) ?_; intro w1 hown1 hg1; have hb1 := From.grew (a := w.alloc (.cells #[.slice none 0 0, .int .i64 0, .int .i64 0] 53)) From.rfl_ hg1 (fun k hk => by cases hk); have hk := (Blk.new w 53 #[.slice none 0 0, .int .i64 0, .int .i64 0]).from_ hb1; obtain ⟨⟨s0, s1, s2⟩, t0, t1, t2⟩ := res_facts hk; rw [made_words] at hown1; have HO := Lib.hid hown1; clear hown1)
  obtain ⟨x0, x1, x2⟩ := put3_cells hk (.slice (some ⟨w.heap.size + 1, 0, none⟩) m m) (.int .i64 W) (.int .i64 n)
  (try simp only [Exit.inBlock, Exit.then])
  refine bodyPost_ret (v := .agg #[.slice (some ⟨w.heap.size + 1, 0, none⟩) m m, .int .i64 W, .int .i64 n]) (by simp [results, Try.results26, go_sem, x0, x1, x2]) rfl ?_
  refine ⟨_, _, rfl, ?_, ?_⟩
  · have ho := HO.out
    rw [hz] at ho
    refine ownsRow_le (base := w.heap.size + 1) ?_ (Nat.le_succ _)
    refine ownsRow_setCell_below (ownsRow_setCell_below (ownsRow_setCell_below ho ?_ _) ?_ _) ?_ _
    all_goals exact Nat.lt_succ_self _
  · exact ((((From.rfl_.new _).next hb1).set_ (p := ⟨w.heap.size, 0, none⟩) (Nat.le_refl _) _).set_ (p := ⟨w.heap.size, 1, none⟩) (Nat.le_refl _) _).set_ (p := ⟨w.heap.size, 2, none⟩) (Nat.le_refl _) _

/-- packed integers that hold these numbers -/
def IntsAt (base : Nat) (w : World) (g : Nat) (W : Nat) (l : List Nat) : Prop :=
  ∃ ws, PackAt base w g 56 W l.length ws ∧ ws.length = wordCount W l.length ∧ (0 < W → Packs ws W l) ∧ (W = 0 → ∀ x ∈ l, x = 0) ∧ W ≤ 64 ∧ (∀ x ∈ l, x < 2 ^ W) ∧ l.length ≤ 131072
theorem wc_fits (W n : Nat) : n * W ≤ wordCount W n * 64 := by
  unfold wordCount
  rw [Nat.mul_comm n W]
  generalize W * n = p
  omega

set_option maxRecDepth 100000 in
set_option maxHeartbeats 400000 in
theorem len_any (base g W : Nat) (l : List Nat) (w : World) (h : IntsAt base w g W l) :
    Calls Try.prog 23 #[.pointer (some ⟨g, 0, none⟩)] w fun e w' => e = .returned (.int .i64 (l.length : Nat)) ∧ From w w' := by
  obtain ⟨ws, ⟨hh, cap, hb, _⟩, _⟩ := h
  have c2 : w.cell? ⟨g, 2, none⟩ = some (.int .i64 l.length) := by rw [hb.cell 2]; rfl
  clear hb
  go_enter Try.func23, Try.ntmps23
  go_wp2
  go_ret
  exact ⟨rfl, From.rfl_⟩
set_option maxRecDepth 100000 in
set_option maxHeartbeats 400000 in
theorem width_any (base g W : Nat) (l : List Nat) (w : World) (h : IntsAt base w g W l) :
    Calls Try.prog 22 #[.pointer (some ⟨g, 0, none⟩)] w fun e w' => e = .returned (.int .i64 (W : Nat)) ∧ From w w' := by
  obtain ⟨ws, ⟨hh, cap, hb, _⟩, _⟩ := h
  have c2 : w.cell? ⟨g, 1, none⟩ = some (.int .i64 W) := by rw [hb.cell 1]; rfl
  clear hb
  go_enter Try.func22, Try.ntmps22
  go_wp2
  go_ret
  exact ⟨rfl, From.rfl_⟩

def getV (l : List Nat) (i : Int) : Value := if 0 ≤ i ∧ i < l.length then .tuple #[.int .u64 ((l.getD i.toNat 0 : Nat) : Int), .int .i64 0] else .tuple #[.int .u64 0, .int .i64 3]
set_option maxRecDepth 100000 in
set_option maxHeartbeats 1000000 in
theorem get_any (base g W : Nat) (l : List Nat) (i : Int) (w : World) (h : IntsAt base w g W l) :
    Calls Try.prog 24 #[.pointer (some ⟨g, 0, none⟩), .int .i64 i] w fun e w' => e = .returned (getV l i) ∧ From w w' := by
  obtain ⟨ws, hpk, hwl, hp, hz, hW, hl, hn⟩ := h
  obtain ⟨hh, cap, hb, -⟩ := id hpk
  have c1 : w.cell? ⟨g, 1, none⟩ = some (.int .i64 W) := by rw [hb.cell 1]; rfl
  have c2 : w.cell? ⟨g, 2, none⟩ = some (.int .i64 l.length) := by rw [hb.cell 2]; rfl
  unfold getV
  by_cases h0 : i < 0
  · rw [if_neg (by omega)]
    have e0 : decide (i < 0) = true := decide_eq_true h0
    clear h0 hp hz hl hwl hpk hb
    go_enter Try.func24, Try.ntmps24
    go_wp2
    go_ret2
    exact ⟨rfl, From.rfl_⟩
  have e0 : decide (i < 0) = false := decide_eq_false h0
  by_cases h1 : i < l.length
  · rw [if_pos ⟨by omega, h1⟩]
    have e1 : decide ((l.length : Int) ≤ i) = false := decide_eq_false (by omega)
    obtain ⟨k, hk⟩ : ∃ k : Nat, i = k := ⟨i.toNat, by omega⟩
    subst hk
    have hkl : k < l.length := by omega
    have e9 : l.getD (k : Int).toNat 0 = l[k] := by simp [List.getD_eq_getElem?_getD, hkl]
    rw [e9]
    by_cases hW0 : W = 0
    · have e2 : ((W : Int) == 0) = true := beq_iff_eq.2 (by omega)
      have hx := hz hW0 _ (List.getElem_mem hkl)
      rw [hx]
      clear hp hz hl hwl hpk hb hW0 hx e9 h0 h1
      go_enter Try.func24, Try.ntmps24
      go_wp2
      go_ret2
      exact ⟨rfl, From.rfl_⟩
    · have e2 : ((W : Int) == 0) = false := beq_eq_false_iff_ne.2 (by omega)
      have hnum := number_any base g k W l.length 56 ws w hpk (by omega) hW hkl hn (by rw [hwl]; exact wc_fits W l.length) (hp (by omega)).1
      rw [packs_num (hp (by omega)) (by omega) hW hl hkl] at hnum
      have HN := Lib.hid hnum
      clear hp hz hl hwl hpk hb hW0 hnum e9 h0 h1
      generalize l[k] = x at *
      go_enter Try.func24, Try.ntmps24
      go_wp2_with (go_at_call 29; (with_reducible refine HN.out.mono ?_); rintro e w1 ⟨rfl, hb1⟩)
      go_ret2
      exact ⟨rfl, hb1⟩
  · rw [if_neg (by omega)]
    have e1 : decide ((l.length : Int) ≤ i) = true := decide_eq_true (by omega)
    clear hp hz hl hwl hpk hb
    go_enter Try.func24, Try.ntmps24
    go_wp2
    go_ret2
    exact ⟨rfl, From.rfl_⟩
end Go.Proofs.Ytgnmmifolhoaeaa
