/- Walks of tiers.Plan and of its reference. -/
import Derived.Test.YtpehfjjhdadejaaTiersWalks
namespace Go.Proofs.Ytpehfjjhdadejaa
open Go.RowKit

def Fit (xs : List Int) : Prop := ∀ x ∈ xs, -9223372036854775808 ≤ x ∧ x ≤ 9223372036854775807
theorem getD_map (xs : List Int) (j : Nat) (h : j < xs.length) : (xs.map cls).getD j 0 = cls (xs[j]) := by
  simp [List.getD, List.getElem?_eq_getElem h]

/-- the integers that a slice value reads as, by index -/
theorem row_ints {w : World} {v : Value} {xs : List Int} (hr : Row w v (xs.map valI)) : ∃ A cap, v = .slice A xs.length cap ∧
    (0 < xs.length → ∃ b o, A = some ⟨b, o, none⟩ ∧ b < w.heap.size ∧ ∀ i (h : i < xs.length), w.cell? ⟨b, o + i, none⟩ = some (.int .i64 xs[i])) := by
  obtain ⟨A, cap, rfl, hp⟩ := hr
  rw [List.length_map] at hp ⊢
  refine ⟨A, cap, rfl, fun h0 => ?_⟩
  obtain ⟨b, o, hA, hb, hc⟩ := hp h0
  refine ⟨b, o, hA, hb, fun i hi => hc i _ ?_⟩
  rw [List.getElem?_map, List.getElem?_eq_getElem hi]
  rfl

theorem ret_ib {a b : Int} {c : Bool} (h : a = b) : Ending.returned (.tuple #[.int .i64 a, .bool c]) = .returned (.tuple #[.int .i64 b, .bool c]) := by rw [h]

def PlanRel (w : World) (xs : List Int) (s i : Value) (wr : World) : Prop :=
  ∃ (j m : Nat), j ≤ xs.length ∧ i = .int .i64 j ∧ s = .int .i64 m ∧ Run (xs.map cls) j m ∧ From w wr

set_option maxRecDepth 100000 in
set_option maxHeartbeats 1000000 in
theorem plan_any (v : Value) (xs : List Int) (w : World) (hr : Row w v (xs.map valI)) (hf : Fit xs) (hlen : xs.length ≤ 1000000000000) :
    Calls Try.prog 11 #[v] w fun e w' => e = .returned (.tuple #[.int .i64 ((plan (xs.map cls)).1 : Nat), .bool (plan (xs.map cls)).2]) ∧ From w w' := by
  obtain ⟨A, cap, rfl, hrow⟩ := row_ints hr
  go_enter Try.func11, Try.ntmps11
  go_wp2
  go_loopw [4, 9] (PlanRel w xs) (fun _ i _ => xs.length - (intOf i).toNat)
  case atStart => exact ⟨0, 0, by omega, rfl, rfl, run_zero _, From.rfl_⟩
  case round =>
    obtain ⟨j, m, hj, rfl, rfl, hrun, hw⟩ := hrel
    have hm3 := hrun.1
    have hmj := hrun.2.1
    by_cases hlt : j < xs.length
    · obtain ⟨b, o, rfl, hb, hc⟩ := hrow (by omega)
      have d1 : ∀ w', From w w' → w'.cell? ⟨b, o + j, none⟩ = some (.int .i64 xs[j]) := fun w' h => (h.cells b (o + j) hb).trans (hc j hlt)
      have f1 := (hf _ (List.getElem_mem hlt)).2
      have g1 := getD_map xs j hlt
      by_cases hz : j = 0
      · have hm0 : m = 0 := by omega
        have hnew := run_more hrun (.inl hz) (by omega)
        have HN := Lib.hid hnew
        have hd : decide (0 < j) = false := by simp; omega
        have hm1 : (m : Int) + 1 ≤ 3 := by omega
        have i1 : (0 : Int) ≤ (j : Int) := by omega
        have i2 : (j : Int) < (xs.length : Int) := by omega
        have h4 : ((m : Int) + 1 == 4) = false := by simp; omega
        clear hrun hc hrow hnew g1 hr hf hz hm0
        generalize xs[j] = x1 at *
        go_wp2_with fail
        go_quiet (fail)
        go_wp2
        go_roundw
        case rel => exact ⟨j + 1, m + 1, by omega, by go_num, by go_num, HN.out, From.dn (by assumption) _⟩
        case measure => simp [intOf]; omega
      · obtain ⟨q, hq1⟩ : ∃ q, j = q + 1 := ⟨j - 1, by omega⟩
        have hq : q < xs.length := by omega
        have d2 : ∀ w', From w w' → w'.cell? ⟨b, o + q, none⟩ = some (.int .i64 xs[q]) := fun w' h => (h.cells b (o + q) hb).trans (hc q hq)
        have f2 := (hf _ (List.getElem_mem hq)).2
        have g2 := getD_map xs q hq
        have eq1 : j - 1 = q := by omega
        have HQ := Lib.hid hq1
        have hs1 : IntKind.i64.wrap ((j : Int) - 1) = (q : Int) := by rw [IntKind.wrap_i64]; omega
        have i1 : (0 : Int) ≤ (q : Int) := by omega
        have i2 : (q : Int) < (xs.length : Int) := by omega
        have i3 : decide (0 < j) = true := by simp; omega
        clear hz
        by_cases hsame : cls (xs[j]) = cls (xs[q])
        · have hne : ((cls (xs[j]) : Int) != (cls (xs[q]) : Int)) = false := by simp; omega
          by_cases h3 : m = 3
          · subst h3
            have hpl := run_full hrun (by rw [eq1, g1, g2]; exact hsame) (by simpa using hlt)
            have HP := Lib.hid hpl
            clear hrun hc hrow hpl g1 g2 hr hf hsame eq1 hq1
            generalize xs[j] = x1 at *
            generalize xs[q] = x2 at *
            go_wp2_with fail
            go_region_held3 (fun w' => From w w')
              (first | assumption | exact From.d1 (by assumption) | exact From.dn (by assumption) _ | exact From.next (by assumption) (by assumption))
              (first | (go_at_call 8; refine (class_any _ _ (by omega)).mono ?_; rintro e w1 ⟨rfl, rfl⟩))
            go_wp2
            go_ret2
            exact ⟨by rw [HP.out]; exact ret_ib (show (j : Int) + 1 - 4 = ((j - 3 : Nat) : Int) by omega), by assumption⟩
          · have hnew := run_more hrun (.inr (by rw [eq1, g1, g2]; exact hsame)) (by omega)
            have HN := Lib.hid hnew
            have h4 : ((m : Int) + 1 == 4) = false := by simp; omega
            have hm1 : (m : Int) + 1 ≤ 3 := by omega
            clear hrun hc hrow hnew g1 g2 hr hf hsame eq1 hq1
            generalize xs[j] = x1 at *
            generalize xs[q] = x2 at *
            go_wp2_with fail
            go_region_held3 (fun w' => From w w')
              (first | assumption | exact From.d1 (by assumption) | exact From.dn (by assumption) _ | exact From.next (by assumption) (by assumption))
              (first | (go_at_call 8; refine (class_any _ _ (by omega)).mono ?_; rintro e w1 ⟨rfl, rfl⟩))
            go_wp2
            go_roundw
            case rel => exact ⟨j + 1, m + 1, by omega, by go_num, by go_num, HN.out, by assumption⟩
            case measure => simp [intOf]; omega
        · have hnew := run_new hrun (by omega) (by rw [eq1, g1, g2]; exact hsame)
          have HN := Lib.hid hnew
          have hne : ((cls (xs[j]) : Int) != (cls (xs[q]) : Int)) = true := by simp; omega
          clear hrun hc hrow hnew g1 g2 hr hf hsame eq1 hq1
          generalize xs[j] = x1 at *
          generalize xs[q] = x2 at *
          go_wp2_with fail
          go_region_held3 (fun w' => From w w')
            (first | assumption | exact From.d1 (by assumption) | exact From.dn (by assumption) _ | exact From.next (by assumption) (by assumption))
            (first | (go_at_call 8; refine (class_any _ _ (by omega)).mono ?_; rintro e w1 ⟨rfl, rfl⟩))
          go_wp2
          go_roundw
          case rel => exact ⟨j + 1, 1, by omega, by go_num, by go_num, HN.out, by assumption⟩
          case measure => simp [intOf]; omega
    · obtain rfl : j = xs.length := by omega
      have hpl := run_end (cs := xs.map cls) (by simpa using hrun)
      have HP := Lib.hid hpl
      clear hpl hrun
      go_wp2
      go_ret2
      exact ⟨by rw [HP.out]; rfl, hw⟩

/-- the first t behind i are of i's class -/
def sm (cs : List Nat) (i : Nat) : Nat → Bool
  | 0 => true
  | t + 1 => sm cs i t && (cs.getD (i + (t + 1)) 0 == cs.getD i 0)
theorem sm_win {cs : List Nat} {i : Nat} (h : i + 4 ≤ cs.length) : sm cs i 3 = win cs i := by
  simp [sm, win, h]

def RefRel (w : World) (xs : List Int) (i : Value) (wr : World) : Prop :=
  ∃ j : Nat, j ≤ xs.length ∧ i = .int .i64 j ∧ (∀ q, q < j → win (xs.map cls) q = false) ∧ From w wr
def RefRel2 (w : World) (cs : List Nat) (i : Nat) (s k : Value) (wr : World) : Prop :=
  ∃ t : Nat, t ≤ 3 ∧ k = .int .i64 ((t : Int) + 1) ∧ s = .bool (sm cs i t) ∧ From w wr

theorem refRel2_next {w wr : World} {cs : List Nat} {i t : Nat} {b : Bool} (ht : t + 1 ≤ 3) (h : sm cs i (t + 1) = (true && b)) (hw : From w wr) : RefRel2 w cs i (.bool b) (.int .i64 ((t : Int) + 1 + 1)) wr :=
  ⟨t + 1, ht, by go_num, by rw [h]; cases b <;> rfl, hw⟩

set_option maxRecDepth 100000 in
set_option maxHeartbeats 1000000 in
theorem refplan_any (v : Value) (xs : List Int) (w : World) (hr : Row w v (xs.map valI)) (hf : Fit xs) (hlen : xs.length ≤ 1000000000000) :
    Calls Try.prog 12 #[v] w fun e w' => e = .returned (.tuple #[.int .i64 ((plan (xs.map cls)).1 : Nat), .bool (plan (xs.map cls)).2]) ∧ From w w' := by
  obtain ⟨A, cap, rfl, hrow⟩ := row_ints hr
  go_enter Try.func12, Try.ntmps12
  go_wp2
  go_loopw [4] (RefRel w xs) (fun i _ => xs.length - (intOf i).toNat)
  case atStart => exact ⟨0, by omega, rfl, fun q h => by omega, From.rfl_⟩
  case round =>
    obtain ⟨i, hi, rfl, hno, hw⟩ := hrel
    by_cases hlt : i + 4 ≤ xs.length
    · obtain ⟨b, o, rfl, hb, hc⟩ := hrow (by omega)
      have hil : i < xs.length := by omega
      have d1 : ∀ w', From w w' → w'.cell? ⟨b, o + i, none⟩ = some (.int .i64 xs[i]) := fun w' h => (h.cells b (o + i) hb).trans (hc i hil)
      have hcc : ∀ t (h : t < xs.length), ∀ w', From w w' → w'.cell? ⟨b, o + t, none⟩ = some (.int .i64 xs[t]) := fun t ht w' h => (h.cells b (o + t) hb).trans (hc t ht)
      have HCC := Lib.hid hcc
      have HNO := Lib.hid hno
      have f1 := (hf _ (List.getElem_mem hil)).2
      have g1 := getD_map xs i hil
      have i1 : (0 : Int) ≤ (i : Int) := by omega
      have i2 : (i : Int) < (xs.length : Int) := by omega
      have G1 := Lib.hid g1
      have hd11 : decide ((i : Int) + 4 ≤ (xs.length : Int)) = true := by simp; omega
      clear hc hcc hno hrow g1 hr
      go_wp2_with fail
      go_loopw [5, 6] (RefRel2 w (xs.map cls) i) (fun _ k _ => 4 - (intOf k).toNat)
      case atStart => exact ⟨0, by omega, rfl, rfl, hw⟩
      case round =>
        obtain ⟨t, ht, rfl, rfl, hw2⟩ := hrel
        by_cases ht3 : t < 3
        · have hq : i + (t + 1) < xs.length := by omega
          have d2 := HCC.out (i + (t + 1)) hq
          have f2 := (hf _ (List.getElem_mem hq)).2
          have g2 := getD_map xs (i + (t + 1)) hq
          have hs1 : IntKind.i64.wrap ((i : Int) + ((t : Int) + 1)) = ((i + (t + 1) : Nat) : Int) := by rw [IntKind.wrap_i64]; omega
          have i3 : (0 : Int) ≤ ((i + (t + 1) : Nat) : Int) := by omega
          have i4 : ((i + (t + 1) : Nat) : Int) < (xs.length : Int) := by omega
          have hsm : sm (xs.map cls) i (t + 1) = (sm (xs.map cls) i t && ((cls xs[i + (t + 1)] : Int) == (cls xs[i] : Int))) := by simp only [sm]; rw [g2, G1.out]; congr 1; rw [Bool.eq_iff_iff]; simp; omega
          have HSM := Lib.hid hsm
          clear g2 hsm
          generalize xs[i + (t + 1)] = x1 at *
          generalize xs[i] = x2 at *
          generalize hQ : i + (t + 1) = q at *
          have HQ := Lib.hid hQ
          clear hQ
          rcases hsv : sm (xs.map cls) i t with _ | _
          · rw [hsv] at HSM
            have HSV := Lib.hid hsv
            clear hsv
            go_wp2_with fail
            go_quiet (fail)
            go_wp2
            go_roundw
            case rel => exact ⟨t + 1, by omega, by go_num, by rw [HSM.out]; rfl, From.dn (by assumption) _⟩
            case measure => simp [intOf]; omega
          · rw [hsv] at HSM
            have HSV := Lib.hid hsv
            clear hsv
            rcases hB : ((cls x1 : Int) == (cls x2 : Int)) with _ | _
            all_goals
              rw [hB] at HSM
              go_wp2_with fail
              go_region_held3 (fun w' => From w w')
                (first | assumption | exact From.d1 (by assumption) | exact From.dn (by assumption) _ | exact From.next (by assumption) (by assumption))
                (first | (go_at_call 9; refine (refclass_any _ _ (by omega)).mono ?_; rintro e w1 ⟨rfl, rfl⟩))
              go_wp2
              go_roundw
              case rel => exact refRel2_next (by omega) HSM.out (by assumption)
              case measure => simp [intOf]; omega
        · obtain rfl : t = 3 := by omega
          have hw3 : sm (xs.map cls) i 3 = win (xs.map cls) i := sm_win (by simpa using hlt)
          rcases hsv : sm (xs.map cls) i 3 with _ | _
          · rw [hsv] at hw3
            have HW := Lib.hid hw3
            clear hw3 hsv
            go_wp2
            go_roundw
            case rel => exact ⟨i + 1, by omega, by go_num, fun q hq => (Nat.lt_succ_iff_lt_or_eq.1 hq).elim (HNO.out q) (fun e => by rw [e]; exact HW.out.symm), by assumption⟩
            case measure => simp [intOf]; omega
          · rw [hsv] at hw3
            have hpl := plan_yes hw3.symm HNO.out
            have HP := Lib.hid hpl
            clear hw3 hsv hpl
            go_wp2
            go_ret2
            exact ⟨by rw [HP.out]; rfl, by assumption⟩
    · have hpl := plan_no (cs := xs.map cls) fun q hq => hno q (by simp at hq; omega)
      have HP := Lib.hid hpl
      clear hpl hno
      go_wp2
      go_ret2
      exact ⟨by rw [HP.out]; rfl, hw⟩
end Go.Proofs.Ytpehfjjhdadejaa
