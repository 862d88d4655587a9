/- Parts of a log, side by side, are the log; a part is no longer than it is asked for: the statement EntriesSlices, for every argument. -/
import Derived.Test.YtnnknoohhoifbaaEntHelp
import Derived.Test.YtnnknoohhoifbaaEntSlice
namespace Go.Proofs.Ytnnknoohhoifbaa
open Go.ChangeShapes Go.WideShapes Go.ChangeAt Go.RowKit

theorem slice_in (B T : Int) (t nn : Nat) (v : Value) (xs : List Ent) (w : World) (h : Ents w v xs) (hm : mayLog B T xs = true) (ht : t ≤ xs.length) (hn : nn ≤ 4) :
    Calls Try.prog 30 #[.agg #[.int .i64 B, .int .i64 T, v], .int .i64 (B + 1 + t), .int .i64 nn] w fun e w' => ∃ L, e = .returned (.tuple #[L, .int .i64 0]) ∧ w'.ownsRow w.heap.size 63 3 L ((xs.drop t).take nn).length (entV ((xs.drop t).take nn)) ∧ From w w' := by
  have h1 := slice_any B T (B + 1 + t) nn v xs w h (by omega)
  have hl := (may_lastI hm).1
  have hc : slErr B T xs (B + 1 + t) nn = 0 := by
    unfold slErr
    rw [if_pos hm, hl, if_pos (by omega), if_neg (by omega)]
  rw [hc] at h1
  have e1 : (B + 1 + (t : Int) - B - 1).toNat = t := by omega
  have e2 : (nn : Int).toNat = nn := by omega
  rw [e1, e2] at h1
  refine h1.mono ?_
  rintro e w' ⟨L, h1, h2, h3⟩
  exact ⟨L, h1, h2.2 rfl, h3⟩
theorem slice_out (B T i : Int) (nn : Nat) (v : Value) (xs : List Ent) (w : World) (h : Ents w v xs) (hm : mayLog B T xs = true) (hi : ¬ (B + 1 ≤ i ∧ i ≤ B + xs.length + 1)) (hn : nn ≤ 4) :
    Calls Try.prog 30 #[.agg #[.int .i64 B, .int .i64 T, v], .int .i64 i, .int .i64 nn] w fun e w' => e = .returned (.tuple #[.slice none 0 0, .int .i64 3]) ∧ From w w' := by
  have h1 := slice_any B T i nn v xs w h (by omega)
  have hl := (may_lastI hm).1
  have hc : slErr B T xs i nn = 3 := by
    unfold slErr
    rw [if_pos hm, hl, if_neg hi]
  rw [hc] at h1
  refine h1.mono ?_
  rintro e w' ⟨L, h1, h2, h3⟩
  have := h2.1 (by decide)
  subst this
  exact ⟨h1, h3⟩

theorem take_step (xs : List Ent) (t m : Nat) : xs.take (t + ((xs.drop t).take m).length) = xs.take t ++ (xs.drop t).take m := by
  rw [List.take_add]
  congr 1
  rw [List.length_take]
  by_cases hle : m ≤ (xs.drop t).length
  · rw [Nat.min_eq_left hle]
  · rw [Nat.min_eq_right (by omega), List.take_of_length_le (Nat.le_refl _), List.take_of_length_le (by omega)]

set_option maxRecDepth 100000 in
set_option maxHeartbeats 4000000 in
theorem slices_law (A : Option Addr) (n cap : Nat) (w : World) (hn : n ≤ 9223372036854775807) (hE : Asks w A n) :
    Calls Try.prog 9 #[.slice A n cap] w fun e w' => e = .returned (.bool true) ∧ From w w' := by
  go_enter Try.func9, Try.ntmps9
  go_wp2
  go_loopw [3] (fun i wr => ∃ k : Nat, k ≤ n ∧ i = .int .i64 k ∧ From w wr) (fun i _ => n - (intOf i).toNat)
  case atStart => exact ⟨0, by omega, rfl, From.rfl_⟩
  case round =>
    obtain ⟨k, hk, rfl, hw⟩ := hrel
    by_cases hlt : k < n ∧ k < 8
    · obtain ⟨hlt, h20⟩ := hlt
      obtain ⟨b, o, rfl, hb, hc⟩ := hE (by omega)
      obtain ⟨B1, T1, I1, M1, N1, V1, E1, xs1, es1, hat1⟩ := hc k (by omega)
      have d01 : ∀ w', From w w' → w'.cell? ⟨b, o + k * 7, none⟩ = some (.int .i64 B1) := fun w' h => (h.cells b _ hb).trans hat1.c0
      have d11 : ∀ w', From w w' → w'.cell? ⟨b, o + k * 7 + 1, none⟩ = some (.int .i64 T1) := fun w' h => (h.cells b _ hb).trans hat1.c1
      have d21 : ∀ w', From w w' → w'.cell? ⟨b, o + k * 7 + 2, none⟩ = some V1 := fun w' h => (h.cells b _ hb).trans hat1.c2
      have d31 : ∀ w', From w w' → w'.cell? ⟨b, o + k * 7 + 3, none⟩ = some (.int .i64 I1) := fun w' h => (h.cells b _ hb).trans hat1.c3
      have d41 : ∀ w', From w w' → w'.cell? ⟨b, o + k * 7 + 4, none⟩ = some (.int .i64 M1) := fun w' h => (h.cells b _ hb).trans hat1.c4
      have d51 : ∀ w', From w w' → w'.cell? ⟨b, o + k * 7 + 5, none⟩ = some E1 := fun w' h => (h.cells b _ hb).trans hat1.c5
      have d61 : ∀ w', From w w' → w'.cell? ⟨b, o + k * 7 + 6, none⟩ = some (.int .i64 N1) := fun w' h => (h.cells b _ hb).trans hat1.c6
      have hokc1 := fun w' (h : From w w') => ok_any B1 T1 I1 M1 N1 V1 E1 xs1 es1 w' (hat1.log.from_ h) (hat1.ent.from_ h) hat1.lok hat1.llen hat1.eok hat1.elen
      simp only [askCells] at hokc1
      have HV1 := Lib.hid hokc1
      have HAT1 := Lib.hid hat1
      clear hat1 hokc1
      have i1 : (0:Int) ≤ (k:Int) := by omega
      have i2 : (k:Int) < (n:Int) := by omega
      have hd : decide ((k : Int) < 8) = true := by simp; omega
      clear hc hE
      go_wp2_with fail
      refine (HV1.out _ hw).mono ?_
      rintro e w1 ⟨h, rfl, hlight, hb1⟩
      have hw1 := hw.next hb1
      clear hb1
      cases h with
      | false =>
        go_wp2
        go_roundw
        case rel => exact ⟨k + 1, by omega, by go_num, hw1⟩
        case measure => simp [intOf]; omega
      | true =>
        obtain ⟨hm, hx, he⟩ := hlight (by simp)
        obtain ⟨hlast, hB0, hB1, hx5⟩ := may_lastI hm
        clear hlight hw
        have hin := fun t nn w' (h : From w w') => slice_in B1 T1 t nn V1 xs1 w' (HAT1.out.log.from_ h) hm
        have hout := fun i nn w' (h : From w w') => slice_out B1 T1 i nn V1 xs1 w' (HAT1.out.log.from_ h) hm
        have HLOG := Lib.hid HAT1.out.log
        obtain ⟨LA, lcap, rfl, -⟩ := HAT1.out.log
        have HIN := Lib.hid hin
        have HOUT := Lib.hid hout
        clear hin hout hm hlast HV1
        obtain ⟨r, hr⟩ : ∃ r, r = (wrap64 (N1 + 1)).tmod 4 := ⟨_, rfl⟩
        have hr1 : -3 ≤ r ∧ r ≤ 3 := by
          have h1 := Int.tmod_lt_of_pos (wrap64 (N1 + 1)) (show (0:Int) < 4 by decide)
          have h2 := Int.lt_tmod_of_pos (wrap64 (N1 + 1)) (show (0:Int) < 4 by decide)
          omega
        have hR := hr.symm
        clear hr
        by_cases hpos : 1 + r < 1
        · have hdn : decide (1 + r < 1) = true := decide_eq_true hpos
          go_wp2
          go_loopw [5, 6, 7] (fun u a i wx => ∃ j t : Nat, j ≤ t ∧ t ≤ xs1.length ∧ i = .int .i64 j ∧ a = .int .i64 (B1 + 1 + t) ∧ wx.ownsRow w.heap.size 63 3 u t (entV (xs1.take t)) ∧ From w wx) (fun _ _ i _ => xs1.length + 1 - (intOf i).toNat)
          case atStart => exact ⟨0, 0, by omega, by omega, rfl, by go_num, World.ownsRow_nil _ _ _ _, hw1⟩
          case round =>
            obtain ⟨j, t, hjt, ht, rfl, rfl, hown, hwx⟩ := hrel
            clear hw1
            have e0 : decide ((j : Int) ≤ (xs1.length : Int)) = true := by simp; omega
            have hin := fun w' (h : From w w') => HIN.out t 1 w' h ht (by omega)
            try simp only [Int.natCast_one] at hin
            obtain ⟨ys, hys⟩ : ∃ ys, ys = (xs1.drop t).take 1 := ⟨_, rfl⟩
            rw [← hys] at hin
            have hyl : ys.length = min 1 (xs1.length - t) := by rw [hys, List.length_take, List.length_drop]
            have hyt : xs1.take (t + ys.length) = xs1.take t ++ ys := by rw [hys]; exact take_step xs1 t 1
            obtain ⟨m9, hm9⟩ : ∃ m9, m9 = ys.length := ⟨_, rfl⟩
            rw [← hm9] at hin hyl hyt
            have HO := Lib.hid hown
            have HIN2 := Lib.hid hin
            have HM := Lib.hid hm9
            have HY := Lib.hid (And.intro hyl hyt)
            have hy4 : m9 ≤ 1 := by omega
            have e1 : decide (1 < (m9 : Int)) = false := by simp; omega
            clear hown hin hys hyt hm9
            by_cases hend : t < xs1.length
            · have hy1 : 1 ≤ m9 := by omega
              have e2 : ((m9 : Int) == 0) = false := beq_eq_false_iff_ne.2 (by omega)
              have hroom : t + ys.length ≤ 1000000000000 := by have := HM.out; omega
              have hts : t + m9 ≤ xs1.length := by omega
              clear hyl
              go_wp2_with (first
                | (go_at_call 30; (with_reducible refine (HIN2.out _ hwx).mono ?_); rintro e w2 ⟨L, rfl, hown2, hb2⟩; have hw2 := From.next (a := w) hwx hb2; have HL := Lib.hid (Ents.of_own hown2 HM.out.symm); obtain ⟨A8, c8, rfl⟩ := own_form hown2; clear hown2; have HO2 := Lib.hid (HO.out.kept_from hb2))
                | (at_builtin; refine wpList_pushe w rfl (.tmp 81) (.tmp 82) 23 rfl Try.underlying23 _ t (xs1.take t) rfl HO2.out hw2 _ ys rfl HL.out hroom ?_; intro v3 w3 hown3 hw3; have HO3 := Lib.hid hown3; clear hown3)
                | (go_at_call 23; (with_reducible refine (errnum_any _ _).mono ?_); rintro e w10 ⟨rfl, rfl⟩))
              go_roundw
              case rel =>
                exact ⟨j + 1, t + m9, by omega, hts, by go_num, by go_num, by rw [HY.out.2, HM.out]; exact HO3.out, hw3⟩
              case measure => simp [intOf]; omega
            · obtain rfl : t = xs1.length := by omega
              obtain rfl : m9 = 0 := by omega
              have hout1 := fun w' (h : From w w') => HOUT.out (B1 + 1 + xs1.length + 1) 1 w' h (by omega) (by omega)
              have hout2 := fun w' (h : From w w') => HOUT.out B1 1 w' h (by omega) (by omega)
              have heq := fun v w' (h1 : Ents w' v xs1) (h : From w w') => eqEntries_same v _ xs1 w' h1 (HLOG.out.from_ h) (by omega)
              try simp only [Int.natCast_one] at hout1 hout2
              have HO1 := Lib.hid hout1
              have HO2 := Lib.hid hout2
              have HEQ := Lib.hid heq
              clear hout1 hout2 heq hyl
              go_wp2_with (first
                | (go_at_call 30; (with_reducible refine (HIN2.out _ hwx).mono ?_); rintro e w2 ⟨L, rfl, hown2, hb2⟩; have hw2 := From.next (a := w) hwx hb2; obtain ⟨A8, c8, rfl⟩ := own_form hown2; clear hown2; have HOX := Lib.hid (HO.out.kept_from hb2))
                | (go_at_call 30; (with_reducible refine (HO1.out _ hw2).mono ?_); rintro e w3 ⟨rfl, hb3⟩; have hw3 := From.next (a := w) hw2 hb3; have h23 := From.next (a := w2) From.rfl_ hb3)
                | (go_at_call 23; (with_reducible refine (errnum_any _ _).mono ?_); rintro e w10 ⟨rfl, rfl⟩))
              have h33 : From w3 w3 := From.rfl_
              have heq3 := fun w' (h : From w3 w') => HEQ.out _ w' (Ents.of_own (by have h2 := HOX.out.kept_from (h23.next h); rwa [List.take_length] at h2) rfl) (hw3.next h)
              have HEQ3 := Lib.hid heq3
              clear heq3
              have e01 := fun w' (h : From w3 w') => d01 w' (hw3.next h)
              have e11 := fun w' (h : From w3 w') => d11 w' (hw3.next h)
              have e21 := fun w' (h : From w3 w') => d21 w' (hw3.next h)
              go_region_held3 (fun w' => From w3 w')
                (first | assumption | exact From.d1 (by assumption) | exact From.dn (by assumption) _ | exact From.next (by assumption) (by assumption))
                (first | (go_at_call 30; (with_reducible refine (HO2.out _ (hw3.next (by assumption))).mono ?_); rintro e w4 ⟨rfl, hb4⟩))
              have hwz := hw3.next (w' := _) (by assumption)
              go_wp2_with (first
                | (go_at_call 23; (with_reducible refine (errnum_any _ _).mono ?_); rintro e w10 ⟨rfl, rfl⟩)
                | (go_at_call 33; (with_reducible refine (HEQ3.out _ (by assumption)).mono ?_); rintro e w6 ⟨rfl, hb6⟩; have hw6 := From.next (a := w) (by assumption) hb6))
              go_roundw
              case rel => exact ⟨k + 1, by omega, by go_num, hw6⟩
              case measure => simp [intOf]; omega
        · obtain ⟨nn, hnn⟩ : ∃ nn : Nat, 1 + r = nn := ⟨(1 + r).toNat, by omega⟩
          have hn1 : 1 ≤ nn ∧ nn ≤ 4 := by omega
          have hdn : decide ((nn : Int) < 1) = false := by simp; omega
          clear hpos hr1
          go_wp2
          go_loopw [5, 6, 7] (fun u a i wx => ∃ j t : Nat, j ≤ t ∧ t ≤ xs1.length ∧ i = .int .i64 j ∧ a = .int .i64 (B1 + 1 + t) ∧ wx.ownsRow w.heap.size 63 3 u t (entV (xs1.take t)) ∧ From w wx) (fun _ _ i _ => xs1.length + 1 - (intOf i).toNat)
          case atStart => exact ⟨0, 0, by omega, by omega, rfl, by go_num, World.ownsRow_nil _ _ _ _, hw1⟩
          case round =>
            obtain ⟨j, t, hjt, ht, rfl, rfl, hown, hwx⟩ := hrel
            clear hw1
            have e0 : decide ((j : Int) ≤ (xs1.length : Int)) = true := by simp; omega
            have hin := fun w' (h : From w w') => HIN.out t nn w' h ht (by omega)
            try simp only [Int.natCast_one] at hin
            obtain ⟨ys, hys⟩ : ∃ ys, ys = (xs1.drop t).take nn := ⟨_, rfl⟩
            rw [← hys] at hin
            have hyl : ys.length = min nn (xs1.length - t) := by rw [hys, List.length_take, List.length_drop]
            have hyt : xs1.take (t + ys.length) = xs1.take t ++ ys := by rw [hys]; exact take_step xs1 t nn
            obtain ⟨m9, hm9⟩ : ∃ m9, m9 = ys.length := ⟨_, rfl⟩
            rw [← hm9] at hin hyl hyt
            have HO := Lib.hid hown
            have HIN2 := Lib.hid hin
            have HM := Lib.hid hm9
            have HY := Lib.hid (And.intro hyl hyt)
            have hy4 : m9 ≤ nn := by omega
            have e1 : decide ((nn : Int) < (m9 : Int)) = false := by simp; omega
            clear hown hin hys hyt hm9
            by_cases hend : t < xs1.length
            · have hy1 : 1 ≤ m9 := by omega
              have e2 : ((m9 : Int) == 0) = false := beq_eq_false_iff_ne.2 (by omega)
              have hroom : t + ys.length ≤ 1000000000000 := by have := HM.out; omega
              have hts : t + m9 ≤ xs1.length := by omega
              clear hyl
              go_wp2_with (first
                | (go_at_call 30; (with_reducible refine (HIN2.out _ hwx).mono ?_); rintro e w2 ⟨L, rfl, hown2, hb2⟩; have hw2 := From.next (a := w) hwx hb2; have HL := Lib.hid (Ents.of_own hown2 HM.out.symm); obtain ⟨A8, c8, rfl⟩ := own_form hown2; clear hown2; have HO2 := Lib.hid (HO.out.kept_from hb2))
                | (at_builtin; refine wpList_pushe w rfl (.tmp 81) (.tmp 82) 23 rfl Try.underlying23 _ t (xs1.take t) rfl HO2.out hw2 _ ys rfl HL.out hroom ?_; intro v3 w3 hown3 hw3; have HO3 := Lib.hid hown3; clear hown3)
                | (go_at_call 23; (with_reducible refine (errnum_any _ _).mono ?_); rintro e w10 ⟨rfl, rfl⟩))
              go_roundw
              case rel =>
                exact ⟨j + 1, t + m9, by omega, hts, by go_num, by go_num, by rw [HY.out.2, HM.out]; exact HO3.out, hw3⟩
              case measure => simp [intOf]; omega
            · obtain rfl : t = xs1.length := by omega
              obtain rfl : m9 = 0 := by omega
              have hout1 := fun w' (h : From w w') => HOUT.out (B1 + 1 + xs1.length + 1) nn w' h (by omega) (by omega)
              have hout2 := fun w' (h : From w w') => HOUT.out B1 nn w' h (by omega) (by omega)
              have heq := fun v w' (h1 : Ents w' v xs1) (h : From w w') => eqEntries_same v _ xs1 w' h1 (HLOG.out.from_ h) (by omega)
              try simp only [Int.natCast_one] at hout1 hout2
              have HO1 := Lib.hid hout1
              have HO2 := Lib.hid hout2
              have HEQ := Lib.hid heq
              clear hout1 hout2 heq hyl
              go_wp2_with (first
                | (go_at_call 30; (with_reducible refine (HIN2.out _ hwx).mono ?_); rintro e w2 ⟨L, rfl, hown2, hb2⟩; have hw2 := From.next (a := w) hwx hb2; obtain ⟨A8, c8, rfl⟩ := own_form hown2; clear hown2; have HOX := Lib.hid (HO.out.kept_from hb2))
                | (go_at_call 30; (with_reducible refine (HO1.out _ hw2).mono ?_); rintro e w3 ⟨rfl, hb3⟩; have hw3 := From.next (a := w) hw2 hb3; have h23 := From.next (a := w2) From.rfl_ hb3)
                | (go_at_call 23; (with_reducible refine (errnum_any _ _).mono ?_); rintro e w10 ⟨rfl, rfl⟩))
              have h33 : From w3 w3 := From.rfl_
              have heq3 := fun w' (h : From w3 w') => HEQ.out _ w' (Ents.of_own (by have h2 := HOX.out.kept_from (h23.next h); rwa [List.take_length] at h2) rfl) (hw3.next h)
              have HEQ3 := Lib.hid heq3
              clear heq3
              have e01 := fun w' (h : From w3 w') => d01 w' (hw3.next h)
              have e11 := fun w' (h : From w3 w') => d11 w' (hw3.next h)
              have e21 := fun w' (h : From w3 w') => d21 w' (hw3.next h)
              go_region_held3 (fun w' => From w3 w')
                (first | assumption | exact From.d1 (by assumption) | exact From.dn (by assumption) _ | exact From.next (by assumption) (by assumption))
                (first | (go_at_call 30; (with_reducible refine (HO2.out _ (hw3.next (by assumption))).mono ?_); rintro e w4 ⟨rfl, hb4⟩))
              have hwz := hw3.next (w' := _) (by assumption)
              go_wp2_with (first
                | (go_at_call 23; (with_reducible refine (errnum_any _ _).mono ?_); rintro e w10 ⟨rfl, rfl⟩)
                | (go_at_call 33; (with_reducible refine (HEQ3.out _ (by assumption)).mono ?_); rintro e w6 ⟨rfl, hb6⟩; have hw6 := From.next (a := w) (by assumption) hb6))
              go_roundw
              case rel => exact ⟨k + 1, by omega, by go_num, hw6⟩
              case measure => simp [intOf]; omega
    · rcases (show ¬ k < n ∨ (k < n ∧ ¬ k < 8) by omega) with h1 | ⟨h1, h2⟩
      all_goals
        clear hlt
        go_wp2_with (go_at_call 35; (with_reducible refine (wakes_any _).mono ?_); rintro e w1 ⟨rfl, hb1⟩)
        go_ret
        exact ⟨rfl, hw.next hb1⟩
set_option maxRecDepth 100000 in
theorem EntriesSlices_lifted (os : Os) (started : os.Started) (H : Type) (enc : TypeId × Value → H) :
    ReturnsInHanded {} Try.checked os 9 .any (Rows.entriesSlicesSpec.pre6 enc Try.prog Try.f9 Rows.entriesSlicesRow.domain false) (Rows.entriesSlicesSpec.post enc Try.prog Try.f9 false true false false) := by
  refine returnsInHanded_of_change_sized (C := Try.checked) Try.own started (by kernel_rfl) Try.func9
    (ChangeSpec.witness6 (enc := enc) (C := Try.checked) false ⟨#[], #[.slice none 0 0], []⟩ 8 (by kernel_rfl) (by kernel_rfl) (by kernel_rfl) (by kernel_rfl)) ?_
  intro W base args ds gs before hval hW _ hsz _
  exact law_step 9 Try.f9 22 4 Rows.entriesSlicesSpec Try.params9 (by kernel_rfl) Try.underlying4 rfl (fun _ => rfl) (by kernel_rfl) (of_decide_eq_true (by kernel_rfl)) (walk_of slices_law) W base args ds gs before hval hW hsz

theorem EntriesSlices_holds : Rows.EntriesSlicesSaid :=
  OpenClaim.holds_of_wide 9 Try.f9 rfl rfl rfl rfl rfl rfl rfl ⟨rfl, rfl, rfl, rfl, rfl⟩ rfl rfl rfl rfl rfl (by kernel_rfl) Try.func9 (by kernel_rfl)
    (of_decide_eq_true (by kernel_rfl)) (by unfold Func.isWrapper; first | (rw [if_pos (by decide +kernel)]; kernel_rfl) | (rw [if_neg (by decide +kernel)]; exact ⟨rfl, rfl⟩))
    (fun os started H enc _ => EntriesSlices_lifted os started H enc)
#print axioms EntriesSlices_holds

end Go.Proofs.Ytnnknoohhoifbaa
