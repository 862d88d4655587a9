/- Walks of package quorum (Enough), its reference, and of the statements' small helpers. -/
import Derived.Test.YtpgcelbodpmajaaBase
namespace Go.Proofs.Ytpgcelbodpmajaa
open Go.RowKit

theorem num_any (e : Int) (w : World) : Calls Try.prog 9 #[.int .i64 e] w fun r w' => r = .returned (.int .i64 e) ∧ w = w' := by
  go_enter Try.func9, Try.ntmps9
  go_wp2
  go_ret
  exact ⟨rfl, rfl⟩

/-- the nodes whose bits are there, of the first j -/
def bitsOf (a : Nat) (j : Nat) : List Nat := (List.range j).filter (fun i => a / 2 ^ i % 2 == 1)
theorem bitsOf_succ (a j : Nat) : bitsOf a (j + 1) = if a / 2 ^ j % 2 = 1 then bitsOf a j ++ [j] else bitsOf a j := by
  unfold bitsOf
  rw [List.range_succ, List.filter_append]
  by_cases h : a / 2 ^ j % 2 = 1 <;> simp [h]
theorem bitsOf_len (a j : Nat) : (bitsOf a j).length ≤ j := by
  unfold bitsOf
  have := List.length_filter_le (fun i => a / 2 ^ i % 2 == 1) (List.range j)
  simpa using this
def val1 (i : Nat) : Value := .int .i64 ((i : Int) + 1)

theorem int_info : (Try.prog.info? 3).map (fun i => (i.zero, i.size, i.bytes)) = some (some (.int .i64 0), 1, 8) := by kernel_rfl

theorem set_any (a : Nat) (w : World) (ha : a < 128) :
    Calls Try.prog 15 #[.int .i64 (a : Int)] w fun e w' => ∃ v, e = .returned v ∧ w'.ownsRow w.heap.size 3 1 v (bitsOf a 7).length ((bitsOf a 7).map val1) ∧ From w w' := by
  obtain ⟨i0, hi0, hz0, hz1, hz2⟩ := info_parts int_info
  go_enter Try.func15, Try.ntmps15
  go_wp2
  go_loopw [3, 4] (fun v i wr => ∃ j : Nat, j ≤ 7 ∧ i = .int .i64 j ∧ wr.ownsRow w.heap.size 3 1 v (bitsOf a j).length ((bitsOf a j).map val1) ∧ From w wr) (fun _ i _ => 7 - (intOf i).toNat)
  case atStart => exact ⟨0, by omega, rfl, World.ownsRow_nil _ _ _ _, From.rfl_⟩
  case round =>
    obtain ⟨j, hj, rfl, hown, hw⟩ := hrel
    by_cases hj7 : j < 7
    · have hlen := bitsOf_len a j
      have hr1 : ((bitsOf a j).length + 1) * 8 ≤ 140737488355328 := by omega
      have hr2 : (bitsOf a j).length + 1 ≤ maxLen := by unfold maxLen; omega
      have hq : ((a : Int) / 2 ^ j) = ((a / 2 ^ j : Nat) : Int) := by simp
      have hle : a / 2 ^ j ≤ a := Nat.div_le_self _ _
      have hand := and1_i64 ((a : Int) / 2 ^ j) (by rw [hq]; exact Int.natCast_nonneg _) (by rw [hq]; exact Int.le_trans (Int.ofNat_le.2 (Nat.le_trans hle (Nat.le_of_lt ha))) (by decide))
      have hsucc := Lib.hid (bitsOf_succ a j)
      by_cases hb : a / 2 ^ j % 2 = 1
      · have ht : (bits .and .i64 ((a : Int) / 2 ^ j) 1 == 1) = true := by rw [hand, hq]; simp; omega
        have HB := Lib.hid hb
        clear hand hq hb
        go_wp2_with (at_builtin; refine wpList_push w rfl (.tmp 14) (.tmp 17) 23 rfl 3 i0 _ 8 Try.underlying23 hi0 hz0 hz1 hz2 rfl _ _ _ rfl hown hw rfl rfl hr1 hr2 ?_; intro v1 w1 hown1 hw1)
        go_roundw
        case rel => exact ⟨j + 1, by omega, by go_num, by rw [hsucc.out, if_pos HB.out]; simpa [val1] using hown1, hw1⟩
        case measure => simp [intOf]; omega
      · have ht : (bits .and .i64 ((a : Int) / 2 ^ j) 1 == 1) = false := by rw [hand, hq]; simp; omega
        have HB := Lib.hid hb
        clear hand hq hb
        go_wp2
        go_roundw
        case rel => exact ⟨j + 1, by omega, by go_num, by rw [hsucc.out, if_neg HB.out]; exact hown, hw⟩
        case measure => simp [intOf]; omega
    · obtain rfl : j = 7 := by omega
      go_wp2
      go_ret
      exact ⟨_, rfl, hown, hw⟩

/-- who voted, and how many, behind the first j votes -/
def vot (n : Int) : List Int → (Nat → Bool) × Nat → (Nat → Bool) × Nat
  | [], s => s
  | x :: r, s => vot n r (if x < 1 ∨ n < x ∨ s.1 x.toNat = true then s else (fun i => if i = x.toNat then true else s.1 i, s.2 + 1))
theorem vot_snoc (n : Int) : ∀ (l : List Int) (x : Int) (s), vot n (l ++ [x]) s = (let s' := vot n l s; if x < 1 ∨ n < x ∨ s'.1 x.toNat = true then s' else (fun i => if i = x.toNat then true else s'.1 i, s'.2 + 1))
  | [], _, _ => rfl
  | y :: r, x, s => by simp only [List.cons_append, vot]; exact vot_snoc n r x _
theorem vot_le (n : Int) : ∀ (l : List Int) (s), (vot n l s).2 ≤ s.2 + l.length
  | [], s => by simp [vot]
  | x :: r, s => by
    simp only [vot, List.length_cons]
    split
    · have := vot_le n r s; omega
    · have := vot_le n r (fun i => if i = x.toNat then true else s.1 i, s.2 + 1)
      simp only at this
      omega
def none0 : (Nat → Bool) × Nat := (fun _ => false, 0)
def enough (n : Int) (l : List Int) : Bool := decide (n < 2 * ((vot n l none0).2 : Int))
def valI (i : Int) : Value := .int .i64 i

def EnoughRel (w : World) (g : Nat) (n : Int) (xs : List Int) (c i : Value) (wr : World) : Prop :=
  ∃ j : Nat, j ≤ xs.length ∧ i = .int .i64 j ∧ c = .int .i64 ((vot n (xs.take j) none0).2 : Nat) ∧ From w wr ∧ (∀ i, i < 8 → wr.cell? ⟨g, i, none⟩ = some (.bool ((vot n (xs.take j) none0).1 i))) ∧ ∀ i, wr.frozen? ⟨g, i, none⟩ = false

theorem take_snoc {α : Type} (l : List α) (j : Nat) (h : j < l.length) : l.take (j + 1) = l.take j ++ [l[j]] := by
  rw [List.take_succ_eq_append_getElem h]
theorem enough_skip {w wr : World} {g : Nat} {n : Int} {xs : List Int} {j : Nat} (hlt : j < xs.length) (hx : xs[j] < 1 ∨ n < xs[j] ∨ (vot n (xs.take j) none0).1 xs[j].toNat = true) (hw : From w wr)
    (hcell : ∀ i, i < 8 → wr.cell? ⟨g, i, none⟩ = some (.bool ((vot n (xs.take j) none0).1 i))) (hfz : ∀ i, wr.frozen? ⟨g, i, none⟩ = false) :
    EnoughRel w g n xs (.int .i64 ((vot n (xs.take j) none0).2 : Nat)) (.int .i64 ((j : Int) + 1)) wr := by
  have e : vot n (xs.take (j + 1)) none0 = vot n (xs.take j) none0 := by rw [take_snoc xs j hlt, vot_snoc]; simp only; rw [if_pos hx]
  exact ⟨j + 1, by omega, by go_num, by rw [e], hw, by rw [e]; exact hcell, hfz⟩
theorem enough_add {w wr : World} {n : Int} {xs : List Int} {j : Nat} (hlt : j < xs.length) (hx : ¬ (xs[j] < 1 ∨ n < xs[j] ∨ (vot n (xs.take j) none0).1 xs[j].toNat = true)) (h7 : n ≤ 7) (hw : From w wr)
    (hcell : ∀ i, i < 8 → wr.cell? ⟨w.heap.size, i, none⟩ = some (.bool ((vot n (xs.take j) none0).1 i))) (hfz : ∀ i, wr.frozen? ⟨w.heap.size, i, none⟩ = false) :
    EnoughRel w w.heap.size n xs (.int .i64 (((vot n (xs.take j) none0).2 : Nat) + 1)) (.int .i64 ((j : Int) + 1)) (wr.setCell ⟨w.heap.size, xs[j].toNat, none⟩ (.bool true)) := by
  have e : vot n (xs.take (j + 1)) none0 = (fun i => if i = xs[j].toNat then true else (vot n (xs.take j) none0).1 i, (vot n (xs.take j) none0).2 + 1) := by
    rw [take_snoc xs j hlt, vot_snoc]; simp only; rw [if_neg hx]
  refine ⟨j + 1, by omega, by go_num, by rw [e]; go_num, hw.set_ (Nat.le_refl _) _, fun i hi => ?_, fun i => by rw [World.frozen?_setCell]; exact hfz i⟩
  rw [e]
  have hm : xs[j].toNat < 8 := by omega
  by_cases h : xs[j].toNat = i
  · rw [← h, World.cell?_setCell_same wr _ _ (hcell _ hm)]
    simp
  · rw [World.cell?_setCell_other _ _ _ _ (by intro h'; exact h (by injection h'))]
    rw [hcell i hi]
    simp [Ne.symm h]

theorem enough_start (w : World) (n : Int) (xs : List Int) :
    EnoughRel w w.heap.size n xs (.int .i64 0) (.int .i64 0) (w.alloc (.cells #[.bool false, .bool false, .bool false, .bool false, .bool false, .bool false, .bool false, .bool false] 41)) := by
  refine ⟨0, Nat.zero_le _, rfl, by simp [vot, none0], From.rfl_.new _, fun i hi => ?_, fun i => World.frozen?_alloc_new _ _ _ _⟩
  rw [(Blk.new w _ _).cell i]
  obtain rfl | rfl | rfl | rfl | rfl | rfl | rfl | rfl : i = 0 ∨ i = 1 ∨ i = 2 ∨ i = 3 ∨ i = 4 ∨ i = 5 ∨ i = 6 ∨ i = 7 := by omega
  all_goals rfl

set_option maxHeartbeats 400000 in
theorem enough_any (n : Int) (A : Option Addr) (cap : Nat) (xs : List Int) (w : World) (h1 : 1 ≤ n) (h7 : n ≤ 7) (hlen : xs.length ≤ 1000000000000)
    (hrow : 0 < xs.length → ∃ b o, A = some ⟨b, o, none⟩ ∧ b < w.heap.size ∧ ∀ i, i < xs.length → w.cell? ⟨b, o + i, none⟩ = some (.int .i64 (xs.getD i 0))) :
    Calls Try.prog 8 #[.int .i64 n, .slice A xs.length cap] w fun e w' => e = .returned (.tuple #[.bool (enough n xs), .int .i64 0]) ∧ From w w' := by
  have a1 : decide (n < 1) = false := by simp; omega
  have a2 : decide ((7 : Int) < n) = false := by simp; omega
  go_enter Try.func8, Try.ntmps8
  go_wp2
  go_loopw [7, 18] (EnoughRel w w.heap.size n xs) (fun _ i _ => xs.length - (intOf i).toNat)
  case atStart => exact enough_start w n xs
  case round =>
    obtain ⟨j, hj, rfl, rfl, hw, hcell, hfz⟩ := hrel
    by_cases hlt : j < xs.length
    · obtain ⟨b, o, rfl, hb, hc⟩ := hrow (by omega)
      have d1 := (hw.cells b (o + j) hb).trans (hc j hlt)
      have hv := vot_le n (xs.take j) none0
      have hv2 : (vot n (xs.take j) none0).2 ≤ j := by simp only [none0, List.length_take] at hv ⊢; omega
      clear hv hc hrow
      go_wp2_with fail
      all_goals
        go_roundw
        case rel => first
          | (refine enough_skip hlt (.inl ?_) hw hcell hfz; omega)
          | (refine enough_skip hlt (.inr (.inl ?_)) hw hcell hfz; omega)
          | (refine enough_skip hlt ?_ hw hcell hfz; exact or_assoc.1 ‹(_ ∨ _) ∨ _›)
          | (refine enough_add hlt ?_ h7 hw hcell hfz; intro hh; rcases hh with hh | hh | hh; omega; omega; simp_all)
        case measure => simp [intOf]; omega
    · obtain rfl : j = xs.length := by omega
      have hv := vot_le n xs none0
      have hv2 : (vot n xs none0).2 ≤ xs.length := by simp only [none0] at hv ⊢; omega
      clear hv
      rw [List.take_length] at hcell
      simp only [List.take_length] at *
      go_wp2
      go_ret2
      exact ⟨rfl, hw⟩

set_option maxHeartbeats 400000 in
theorem enough_no (n : Int) (v : Value) (w : World) (h : n < 1 ∨ 7 < n) :
    Calls Try.prog 8 #[.int .i64 n, v] w fun e w' => e = .returned (.tuple #[.bool false, .int .i64 1]) ∧ w = w' := by
  rcases h with h | h
  · go_enter Try.func8, Try.ntmps8
    go_wp2
    go_ret2
    exact ⟨rfl, rfl⟩
  · have h' : ¬ n < 1 := by omega
    go_enter Try.func8, Try.ntmps8
    go_wp2
    go_ret2
    exact ⟨rfl, rfl⟩

/-- as a list of integers that v reads as -/
theorem enough_row (n : Int) (v : Value) (xs : List Int) (w : World) (h1 : 1 ≤ n) (h7 : n ≤ 7) (hlen : xs.length ≤ 1000000000000) (hr : Row w v (xs.map valI)) :
    Calls Try.prog 8 #[.int .i64 n, v] w fun e w' => e = .returned (.tuple #[.bool (enough n xs), .int .i64 0]) ∧ From w w' := by
  obtain ⟨A, cap, rfl, hp⟩ := hr
  rw [List.length_map] at hp ⊢
  refine enough_any n A cap xs w h1 h7 hlen fun h0 => ?_
  obtain ⟨b, o, hA, hb, hc⟩ := hp h0
  refine ⟨b, o, hA, hb, fun i hi => hc i _ ?_⟩
  rw [List.getElem?_map, List.getElem?_eq_getElem hi]
  simp [valI, List.getD, List.getElem?_eq_getElem hi]

theorem wakes (w : World) :
    Calls Try.prog 14 #[] w fun e w' => e = .returned (.bool true) ∧ From w w' := by
  have hn : enough 3 [3, 1] = true := by decide +kernel
  have H := Lib.hid hn
  clear hn
  go_enter Try.func14, Try.ntmps14
  go_wp2_with (first
    | (go_at_call 8; refine (enough_row 3 _ [3, 1] _ (by omega) (by omega) (by simp) (Row.blk (cs := #[.int .i64 3, .int .i64 1]) (Blk.new _ _ _) 2)).mono ?_; rw [H.out]; rintro e w1 ⟨rfl, hb1⟩)
    | (go_at_call 9; refine (num_any _ _).mono ?_; rintro e w1 ⟨rfl, rfl⟩))
  go_ret
  exact ⟨rfl, (From.rfl_.new _).next hb1⟩
end Go.Proofs.Ytpgcelbodpmajaa
