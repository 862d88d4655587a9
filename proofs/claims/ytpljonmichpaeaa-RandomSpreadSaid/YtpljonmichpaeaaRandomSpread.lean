/- Among 400 numbers below 8 in a row no one is all of them, and no seed but 0 and 1 has the successor of 1: for every argument. -/
import Derived.Test.YtpljonmichpaeaaRandomRuns
namespace Go.Proofs.Ytpljonmichpaeaa
open Go.ChangeShapes Go.WideShapes Go.ChangeAt Go.RowKit

/-- the lowest three bits of the successor -/
def lo (s : Int) : Nat := (nx s).toNat % 8
theorem lo_bl {s : Int} (h : U64 s) : bl s 8 = ((lo s : Nat) : Int) := by
  have hr := nx_range h.1 h.2
  rw [bl_ge (by omega), Int.tmod_eq_emod_of_nonneg hr.1]
  rw [IntWalk.wrap64_in _ (by omega)]
  unfold lo
  omega

set_option maxHeartbeats 400000 in
theorem below8 (s : Int) (w : World) (h : U64 s) :
    Calls Try.prog 6 #[.int .u64 s, .int .i64 8] w fun e w' => e = .returned (.tuple #[.int .u64 (nx s), .int .i64 ((lo s : Nat) : Int)]) ∧ From w w' := by
  rw [← lo_bl h]
  exact below s 8 w (by omega)

theorem seed_nx {t : Int} (h : U64 t) : seed (nx t) = XM.step (seed t) := by
  have hr := nx_range h.1 h.2
  have hz := nx_ne_zero h.1 h.2
  apply BitVec.eq_of_toNat_eq
  have h1 := seed_nat hr.1 hr.2
  have h2 := nx_nat h.1 h.2
  have h3 : st0 (nx t) = nx t := by unfold st0; rw [if_neg hz]
  rw [h3, h2] at h1
  rw [← h2] at h1
  omega

/-- the k-th number -/
def val (x : BitVec 64) (k : Nat) : Nat := (XM.iter (k + 1) x).toNat % 8
/-- how often i was among the first j -/
def cnt (x : BitVec 64) : Nat → Nat → Nat
  | 0, _ => 0
  | j + 1, i => cnt x j i + if val x j = i then 1 else 0
theorem cnt_le (x : BitVec 64) : ∀ j i, cnt x j i ≤ j
  | 0, _ => by simp [cnt]
  | j + 1, i => by
    have := cnt_le x j i
    simp only [cnt]
    split <;> omega
theorem cnt_full (x : BitVec 64) : ∀ j i, cnt x j i = j → ∀ k, k < j → val x k = i
  | 0, _, _, k, hk => by omega
  | j + 1, i, h, k, hk => by
    have hle := cnt_le x j i
    simp only [cnt] at h
    split at h
    · rename_i hv
      rcases Nat.lt_succ_iff_lt_or_eq.1 hk with h1 | rfl
      · exact cnt_full x j i (by omega) k h1
      · exact hv
    · omega
theorem iter_succ (x : BitVec 64) : ∀ k, XM.iter (k + 1) x = XM.step (XM.iter k x) := by
  intro k
  induction k generalizing x with
  | zero => rfl
  | succ k ih => show XM.iter (k + 1) (XM.step x) = _; rw [ih]; rfl
theorem bit0 (x : BitVec 64) : x.getLsbD 0 = decide (x.toNat % 8 % 2 = 1) := by
  rw [BitVec.getLsbD]
  rw [Nat.testBit_zero]
  congr 1
  have : x.toNat % 8 % 2 = x.toNat % 2 := by omega
  rw [this]
theorem cnt_lt {x : BitVec 64} (hx : x ≠ 0#64) (i : Nat) : cnt x 400 i ≤ 399 := by
  rcases Nat.lt_or_ge (cnt x 400 i) 400 with h | h
  · omega
  · exfalso
    have hle := cnt_le x 400 i
    have hall := cnt_full x 400 i (by omega)
    obtain ⟨k, hk, hne⟩ := XM.not_same (XM.step_ne_zero hx)
    apply hne
    have e1 := hall (k + 1) (by omega)
    have e2 := hall k (by omega)
    unfold val at e1 e2
    have g : ∀ n, XM.iter n (XM.step x) = XM.iter (n + 1) x := fun n => rfl
    rw [g, g, bit0, bit0, e1, e2]

theorem cell_set (w : World) (g i j : Nat) (u : Value) (v : Value) (h : w.cell? ⟨g, j, none⟩ = some v) (hj : w.cell? ⟨g, i, none⟩ ≠ none) :
    (w.setCell ⟨g, i, none⟩ u).cell? ⟨g, j, none⟩ = some (if i = j then u else v) := by
  by_cases e : i = j
  · subst e
    rw [if_pos rfl]
    exact World.cell?_setCell_same w _ u h
  · rw [if_neg e]
    rw [World.cell?_setCell_other]
    · exact h
    · intro h'; exact e (by injection h')

/-- the state of the counting -/
def SpreadRel (x : BitVec 64) (g : Nat) (w : World) (s i : Value) (wr : World) : Prop :=
  ∃ (t : Int) (j : Nat), j ≤ 400 ∧ i = .int .i64 j ∧ s = .int .u64 t ∧ U64 t ∧ seed t = XM.iter j x ∧ From w wr ∧ (∀ i, i < 8 → wr.cell? ⟨g, i, none⟩ = some (.int .i64 (cnt x j i : Nat))) ∧ ∀ i, wr.frozen? ⟨g, i, none⟩ = false

theorem spread_start (x : BitVec 64) (w : World) : ∀ i, i < 8 → (w.alloc (.cells #[.int .i64 0, .int .i64 0, .int .i64 0, .int .i64 0, .int .i64 0, .int .i64 0, .int .i64 0, .int .i64 0] 31)).cell? ⟨w.heap.size, i, none⟩ = some (.int .i64 (cnt x 0 i : Nat)) := by
  intro i hi
  rw [(Blk.new w _ _).cell i]
  obtain rfl | rfl | rfl | rfl | rfl | rfl | rfl | rfl : i = 0 ∨ i = 1 ∨ i = 2 ∨ i = 3 ∨ i = 4 ∨ i = 5 ∨ i = 6 ∨ i = 7 := by omega
  all_goals rfl

theorem spread_step {x : BitVec 64} {g : Nat} {w : World} {j m : Nat} (hm : m < 8) (hv : val x j = m) (hcell : ∀ i, i < 8 → w.cell? ⟨g, i, none⟩ = some (.int .i64 (cnt x j i : Nat))) :
    ∀ i, i < 8 → (w.setCell ⟨g, m, none⟩ (.int .i64 ((cnt x j m : Nat) + 1))).cell? ⟨g, i, none⟩ = some (.int .i64 (cnt x (j + 1) i : Nat)) := by
  intro i hi
  rw [cell_set w g m i _ _ (hcell i hi) (by rw [hcell m hm]; simp)]
  simp only [cnt, hv]
  by_cases e : m = i
  · subst e
    simp
  · rw [if_neg e, if_neg e]
    rfl

set_option maxRecDepth 100000 in
set_option maxHeartbeats 1000000 in
theorem spread_any (A : Option Addr) (n cap : Nat) (f : Nat → Int × Int) (w : World) (hn : n ≤ 9223372036854775807) (hE : Elems w A n f) :
    Calls Try.prog 5 #[.slice A n cap] w fun e w' => e = .returned (.bool true) ∧ From w w' := by
  go_enter Try.func5, Try.ntmps5
  go_wp2
  go_loopw [3] (fun i wr => ∃ k : Nat, k ≤ n ∧ i = .int .i64 k ∧ From w wr) (fun i _ => n - (intOf i).toNat)
  case atStart => exact ⟨0, by omega, rfl, From.rfl_⟩
  case round =>
    obtain ⟨k, hk, rfl, hw⟩ := hrel
    by_cases hlt : k < n
    · by_cases h40 : k < 4
      · obtain ⟨b, o, rfl, hb, hc⟩ := hE (by omega)
        obtain ⟨c1, c2, h1, h2, h3, h4⟩ := hc k hlt
        have i1 : (0:Int) ≤ (k:Int) := by omega
        have i2 : (k:Int) < (n:Int) := by omega
        have d1 : ∀ w', From w w' → w'.cell? ⟨b, o + k * 2, none⟩ = some (.int .u64 (f k).1) := fun w' h => (h.cells b (o + k * 2) hb).trans c1
        have hd : decide ((k : Int) < 4) = true := by simp; omega
        clear hc c1 c2 hE h3 h4
        generalize (f k).1 = s0 at *
        have hx := seed_ne h1 h2
        obtain ⟨wo, rfl⟩ : ∃ wo : World, wo = wr := ⟨_, rfl⟩
        go_wp2_with fail
        go_loopw [4, 6] (SpreadRel (seed s0) wo.heap.size w) (fun _ i _ => 400 - (intOf i).toNat)
        case atStart => exact ⟨s0, 0, by omega, rfl, rfl, ⟨h1, h2⟩, rfl, hw.new _, spread_start _ _, fun i => World.frozen?_alloc_new _ _ _ _⟩
        case round =>
          obtain ⟨t, j, hj, rfl, rfl, ht, hs, hw2, hcell, hfz⟩ := hrel
          by_cases hj400 : j < 400
          · have hm : lo t < 8 := by unfold lo; omega
            have e1 := fun W => below8 t W ht
            have hv : val (seed s0) j = lo t := by
              unfold val lo
              rw [iter_succ, ← hs, nx_nat ht.1 ht.2]
              omega
            have hr : U64 (nx t) := nx_range ht.1 ht.2
            have hs' : seed (nx t) = XM.iter (j + 1) (seed s0) := by rw [seed_nx ht, hs, iter_succ]
            have hcnt := cnt_le (seed s0) j (lo t)
            have d3 : ∀ w', From wr w' → w'.cell? ⟨wo.heap.size, lo t, none⟩ = some (.int .i64 (cnt (seed s0) j (lo t) : Nat)) := fun w' h => (h.cells _ _ (lt_of_cell (hcell _ hm))).trans (hcell _ hm)
            have d4 : ∀ w', From wr w' → w'.frozen? ⟨wo.heap.size, lo t, none⟩ = false := fun w' h => (Below.frozen (p := ⟨wo.heap.size, lo t, none⟩) h (lt_of_cell (hcell _ hm))).trans (hfz _)
            have hall : ∀ w', From wr w' → (∀ i, i < 8 → w'.cell? ⟨wo.heap.size, i, none⟩ = some (.int .i64 (cnt (seed s0) j i : Nat))) ∧ ∀ i, w'.frozen? ⟨wo.heap.size, i, none⟩ = false :=
              fun w' h => ⟨fun i hi => (h.cells _ _ (lt_of_cell (hcell _ hi))).trans (hcell _ hi), fun i => (Below.frozen (p := ⟨wo.heap.size, i, none⟩) h (show wo.heap.size < wr.heap.size from lt_of_cell (hcell 0 (by omega)))).trans (hfz _)⟩
            have Hall := Lib.hid hall
            have E1 := Lib.hid e1
            have HV := Lib.hid hv
            have HS := Lib.hid hs'
            have hlt8 : ((lo t : Nat) : Int) < 8 := by omega
            have hge : (0 : Int) ≤ ((lo t : Nat) : Int) := by omega
            clear hall e1 hv hs' hcell hfz hs ht
            generalize hC : cnt (seed s0) j (lo t) = C at *
            have HC := Lib.hid hC
            clear hC
            generalize lo t = m at *
            go_wp2_with (go_at_call 6; refine (E1.out _).mono ?_; rintro e w1 ⟨rfl, hb1⟩)
            go_roundw
            case rel =>
              have hc := HC.out
              subst hc
              have hh := Hall.out w1 hb1
              refine ⟨nx t, j + 1, by omega, by go_num, rfl, hr, HS.out, (hw2.next hb1).set_ hw.size _, spread_step hm HV.out hh.1, fun i => ?_⟩
              rw [World.frozen?_setCell]
              exact hh.2 i
            case measure => simp [intOf]; omega
          · obtain rfl : j = 400 := by omega
            have hall : ∀ w', From wr w' → ∀ i, i < 8 → w'.cell? ⟨wo.heap.size, i, none⟩ = some (.int .i64 (cnt (seed s0) 400 i : Nat)) :=
              fun w' h => fun i hi => (h.cells _ _ (lt_of_cell (hcell _ hi))).trans (hcell _ hi)
            have Hall := Lib.hid hall
            clear hall hcell hfz hs ht
            go_wp2_with fail
            go_loopw [9] (fun i wx => ∃ q : Nat, q ≤ 8 ∧ i = .int .i64 q ∧ From wr wx) (fun i _ => 8 - (intOf i).toNat)
            case atStart => exact ⟨0, by omega, rfl, From.rfl_⟩
            case round =>
              obtain ⟨q, hq, rfl, hw3⟩ := hrel
              by_cases hq8 : q < 8
              · have hC := cnt_lt hx q
                have hcq := Hall.out _ hw3 q hq8
                generalize cnt (seed s0) 400 q = C at *
                have hlt8 : ((q : Nat) : Int) < 8 := by omega
                have hge : (0 : Int) ≤ ((q : Nat) : Int) := by omega
                go_wp2
                go_roundw
                case rel => exact ⟨q + 1, by omega, by go_num, hw3⟩
                case measure => simp [intOf]; omega
              · have hw4 := hw2.next hw3
                have hne : s0 ≠ 0 → s0 ≠ 1 → nx s0 ≠ nx 1 := nx_inj_one h1 h2
                clear hw2 hw3 hx
                by_cases hs0 : s0 = 0
                · have g0 : (s0 != 0) = false := by simpa using hs0
                  clear hs0 hne
                  go_wp2
                  go_roundw
                  case rel => exact ⟨k + 1, by omega, by go_num, by assumption⟩
                  case measure => simp [intOf]; omega
                · by_cases hs1 : s0 = 1
                  · have g0 : (s0 != 0) = true := by simpa using hs0
                    have g1 : (s0 != 1) = false := by simpa using hs1
                    clear hs0 hs1 hne
                    go_wp2
                    go_roundw
                    case rel => exact ⟨k + 1, by omega, by go_num, by assumption⟩
                    case measure => simp [intOf]; omega
                  · have g0 : (s0 != 0) = true := by simpa using hs0
                    have g1 : (s0 != 1) = true := by simpa using hs1
                    have g2 : (nx s0 == nx 1) = false := by simpa using hne hs0 hs1
                    clear hs0 hs1 hne
                    go_wp2_with (go_at_call 8; refine (next _ _).mono ?_; rintro e w1 ⟨rfl, hb1⟩; replace hb1 := From.next (a := w) (by assumption) hb1)
                    go_roundw
                    case rel => exact ⟨k + 1, by omega, by go_num, by assumption⟩
                    case measure => simp [intOf]; omega
      · go_wp2_with (go_at_call 10; refine (wakes _).mono ?_; rintro e w1 ⟨rfl, hb1⟩)
        go_ret
        exact ⟨rfl, hw.next hb1⟩
    · go_wp2_with (go_at_call 10; refine (wakes _).mono ?_; rintro e w1 ⟨rfl, hb1⟩)
      go_ret
      exact ⟨rfl, hw.next hb1⟩

set_option maxRecDepth 100000 in
theorem RandomSpread_lifted (os : Os) (started : os.Started) (H : Type) (enc : TypeId × Value → H) :
    ReturnsInHanded {} Try.checked os 5 .any (Rows.randomSpreadSpec.pre6 enc Try.prog Try.f5 Rows.randomSpreadRow.domain false) (Rows.randomSpreadSpec.post enc Try.prog Try.f5 false true false false) := by
  refine returnsInHanded_of_change (C := Try.checked) Try.own started (by kernel_rfl) Try.func5
    (ChangeSpec.witness6 (enc := enc) (C := Try.checked) false ⟨#[], #[.slice none 0 0], []⟩ 8 (by kernel_rfl) (by kernel_rfl) (by kernel_rfl) (by kernel_rfl)) ?_
  intro W base args ds gs before hval hW _ _
  exact law_step 5 Try.f5 22 4 Rows.randomSpreadSpec Try.params5 (by kernel_rfl) Try.underlying4 rfl (fun _ => rfl) (by kernel_rfl) (of_decide_eq_true (by kernel_rfl)) (walk_of spread_any) W base args ds gs before hval hW

theorem RandomSpread_holds : Rows.RandomSpreadSaid :=
  OpenClaim.holds_of_wide 5 Try.f5 rfl rfl rfl rfl rfl rfl rfl ⟨rfl, rfl, rfl, rfl, rfl⟩ rfl rfl rfl rfl rfl (by kernel_rfl) Try.func5 (by kernel_rfl)
    (of_decide_eq_true (by kernel_rfl)) (by unfold Func.isWrapper; first | (rw [if_pos (by decide +kernel)]; kernel_rfl) | (rw [if_neg (by decide +kernel)]; exact ⟨rfl, rfl⟩))
    (fun os started H enc _ => RandomSpread_lifted os started H enc)
#print axioms RandomSpread_holds

end Go.Proofs.Ytpljonmichpaeaa
