/- The term of each index of any log is the reference's, and none beyond: the statement EntriesTerms, for every argument. -/
import Derived.Test.YtnnknoohhoifbaaEntHelp
import Derived.Test.YtnnknoohhoifbaaEntTerms
namespace Go.Proofs.Ytnnknoohhoifbaa
open Go.ChangeShapes Go.WideShapes Go.ChangeAt Go.RowKit

set_option maxRecDepth 100000 in
set_option maxHeartbeats 2000000 in
theorem terms_law (A : Option Addr) (n cap : Nat) (w : World) (hn : n ≤ 9223372036854775807) (hE : Asks w A n) :
    Calls Try.prog 6 #[.slice A n cap] w fun e w' => e = .returned (.bool true) ∧ From w w' := by
  go_enter Try.func6, Try.ntmps6
  go_wp2
  go_loopw [3] (fun i wr => ∃ k : Nat, k ≤ n ∧ i = .int .i64 k ∧ From w wr) (fun i _ => n - (intOf i).toNat)
  case atStart => exact ⟨0, by omega, rfl, From.rfl_⟩
  case round =>
    obtain ⟨k, hk, rfl, hw⟩ := hrel
    by_cases hlt : k < n ∧ k < 8
    · obtain ⟨hlt, h20⟩ := hlt
      obtain ⟨b, o, rfl, hb, hc⟩ := hE (by omega)
      obtain ⟨B1, T1, I1, M1, N1, V1, E1, xs1, es1, hat1⟩ := hc k (by omega)
      have d01 : ∀ w', From w w' → w'.cell? ⟨b, o + k * 7, none⟩ = some (.int .i64 B1) := fun w' h => (h.cells b _ hb).trans hat1.c0
      have d11 : ∀ w', From w w' → w'.cell? ⟨b, o + k * 7 + 1, none⟩ = some (.int .i64 T1) := fun w' h => (h.cells b _ hb).trans hat1.c1
      have d21 : ∀ w', From w w' → w'.cell? ⟨b, o + k * 7 + 2, none⟩ = some V1 := fun w' h => (h.cells b _ hb).trans hat1.c2
      have d31 : ∀ w', From w w' → w'.cell? ⟨b, o + k * 7 + 3, none⟩ = some (.int .i64 I1) := fun w' h => (h.cells b _ hb).trans hat1.c3
      have d41 : ∀ w', From w w' → w'.cell? ⟨b, o + k * 7 + 4, none⟩ = some (.int .i64 M1) := fun w' h => (h.cells b _ hb).trans hat1.c4
      have d51 : ∀ w', From w w' → w'.cell? ⟨b, o + k * 7 + 5, none⟩ = some E1 := fun w' h => (h.cells b _ hb).trans hat1.c5
      have d61 : ∀ w', From w w' → w'.cell? ⟨b, o + k * 7 + 6, none⟩ = some (.int .i64 N1) := fun w' h => (h.cells b _ hb).trans hat1.c6
      have hokc1 := fun w' (h : From w w') => ok_any B1 T1 I1 M1 N1 V1 E1 xs1 es1 w' (hat1.log.from_ h) (hat1.ent.from_ h) hat1.lok hat1.llen hat1.eok hat1.elen
      simp only [askCells] at hokc1
      have HV1 := Lib.hid hokc1
      have HAT1 := Lib.hid hat1
      clear hat1 hokc1
      have i1 : (0:Int) ≤ (k:Int) := by omega
      have i2 : (k:Int) < (n:Int) := by omega
      have hd : decide ((k : Int) < 8) = true := by simp; omega
      clear hc hE
      go_wp2_with fail
      refine (HV1.out _ hw).mono ?_
      rintro e w1 ⟨h, rfl, hlight, hb1⟩
      have hw1 := hw.next hb1
      clear hb1
      cases h with
      | false =>
        go_wp2
        go_roundw
        case rel => exact ⟨k + 1, by omega, by go_num, hw1⟩
        case measure => simp [intOf]; omega
      | true =>
        obtain ⟨hm, hx, he⟩ := hlight (by simp)
        obtain ⟨hlast, hB0, hB1, hx5⟩ := may_last hm
        clear hlight hw
        have hte := fun i w' (h : From w w') => term_any B1 T1 i V1 xs1 w' (HAT1.out.log.from_ h)
        have hre := fun i w' (h : From w w') => refTerm_any B1 T1 i V1 xs1 w' (HAT1.out.log.from_ h) hm
        unfold termV at hte
        unfold refTermV at hre
        simp only [if_pos hm] at hte
        rw [hlast] at hte hre
        have HLOG := Lib.hid HAT1.out.log
        obtain ⟨LA, lcap, rfl, -⟩ := HAT1.out.log
        have HT := Lib.hid hte
        have HR := Lib.hid hre
        clear hte hre hm hlast
        go_wp2
        go_loopw [4] (fun i wx => ∃ j : Nat, j ≤ xs1.length + 5 ∧ i = .int .i64 (B1 - 2 + j) ∧ From w wx) (fun i _ => (B1 + xs1.length + 3 - intOf i).toNat)
        case atStart => exact ⟨0, by omega, by go_num, hw1⟩
        case round =>
          obtain ⟨j, hj, rfl, hwx⟩ := hrel
          clear hw1
          have hwr1 : IntKind.i64.wrap (B1 + xs1.length) = B1 + xs1.length := by rw [IntKind.wrap_i64]; omega
          have hwr2 : IntKind.i64.wrap (B1 + xs1.length + 3) = B1 + xs1.length + 3 := by rw [IntKind.wrap_i64]; omega
          by_cases hjl : j < xs1.length + 5
          · have e0 : decide (B1 - 2 + (j : Int) < B1 + (xs1.length : Int) + 3) = true := by simp; omega
            by_cases hin : B1 ≤ B1 - 2 + (j : Int) ∧ B1 - 2 + (j : Int) ≤ B1 + xs1.length
            · have ht := HT.out (B1 - 2 + (j : Int))
              have hr := HR.out (B1 - 2 + (j : Int))
              simp only [if_pos hin] at ht hr
              have HT2 := Lib.hid ht
              have HR2 := Lib.hid hr
              clear ht hr hin
              go_wp2_with fail
              go_quiet (fail)
              have hwq := hwx.dn nq
              go_wp2_with (first
                | (go_at_call 26; (with_reducible refine (HT2.out _ hwq).mono ?_); rintro e w2 ⟨rfl, hb2⟩; have hw2 := From.next (a := w) hwq hb2)
                | (go_at_call 21; (with_reducible refine (HR2.out _ hw2).mono ?_); rintro e w3 ⟨rfl, hb3⟩; have hw3 := From.next (a := w) hw2 hb3)
                | (go_at_call 23; (with_reducible refine (errnum_any _ _).mono ?_); rintro e w10 ⟨rfl, rfl⟩))
              go_roundw
              case rel => exact ⟨j + 1, by omega, by go_num, hw3⟩
              case measure => simp [intOf]; omega
            · have ht := HT.out (B1 - 2 + (j : Int))
              have hr := HR.out (B1 - 2 + (j : Int))
              simp only [if_neg hin] at ht hr
              have HT2 := Lib.hid ht
              have HR2 := Lib.hid hr
              clear ht hr hin
              go_wp2_with fail
              go_quiet (fail)
              have hwq := hwx.dn nq
              go_wp2_with (first
                | (go_at_call 26; (with_reducible refine (HT2.out _ hwq).mono ?_); rintro e w2 ⟨rfl, hb2⟩; have hw2 := From.next (a := w) hwq hb2)
                | (go_at_call 21; (with_reducible refine (HR2.out _ hw2).mono ?_); rintro e w3 ⟨rfl, hb3⟩; have hw3 := From.next (a := w) hw2 hb3)
                | (go_at_call 23; (with_reducible refine (errnum_any _ _).mono ?_); rintro e w10 ⟨rfl, rfl⟩))
              go_roundw
              case rel => exact ⟨j + 1, by omega, by go_num, hw3⟩
              case measure => simp [intOf]; omega
          · have e0 : decide (B1 - 2 + (j : Int) < B1 + (xs1.length : Int) + 3) = false := by simp; omega
            go_wp2_with fail
            go_quiet (fail)
            have hwq := hwx.dn nq
            go_wp2
            go_roundw
            case rel => exact ⟨k + 1, by omega, by go_num, hwq⟩
            case measure => simp [intOf]; omega
    · rcases (show ¬ k < n ∨ (k < n ∧ ¬ k < 8) by omega) with h1 | ⟨h1, h2⟩
      all_goals
        clear hlt
        go_wp2_with (go_at_call 35; (with_reducible refine (wakes_any _).mono ?_); rintro e w1 ⟨rfl, hb1⟩)
        go_ret
        exact ⟨rfl, hw.next hb1⟩
set_option maxRecDepth 100000 in
theorem EntriesTerms_lifted (os : Os) (started : os.Started) (H : Type) (enc : TypeId × Value → H) :
    ReturnsInHanded {} Try.checked os 6 .any (Rows.entriesTermsSpec.pre6 enc Try.prog Try.f6 Rows.entriesTermsRow.domain false) (Rows.entriesTermsSpec.post enc Try.prog Try.f6 false true false false) := by
  refine returnsInHanded_of_change_sized (C := Try.checked) Try.own started (by kernel_rfl) Try.func6
    (ChangeSpec.witness6 (enc := enc) (C := Try.checked) false ⟨#[], #[.slice none 0 0], []⟩ 8 (by kernel_rfl) (by kernel_rfl) (by kernel_rfl) (by kernel_rfl)) ?_
  intro W base args ds gs before hval hW _ hsz _
  exact law_step 6 Try.f6 22 4 Rows.entriesTermsSpec Try.params6 (by kernel_rfl) Try.underlying4 rfl (fun _ => rfl) (by kernel_rfl) (of_decide_eq_true (by kernel_rfl)) (walk_of terms_law) W base args ds gs before hval hW hsz

theorem EntriesTerms_holds : Rows.EntriesTermsSaid :=
  OpenClaim.holds_of_wide 6 Try.f6 rfl rfl rfl rfl rfl rfl rfl ⟨rfl, rfl, rfl, rfl, rfl⟩ rfl rfl rfl rfl rfl (by kernel_rfl) Try.func6 (by kernel_rfl)
    (of_decide_eq_true (by kernel_rfl)) (by unfold Func.isWrapper; first | (rw [if_pos (by decide +kernel)]; kernel_rfl) | (rw [if_neg (by decide +kernel)]; exact ⟨rfl, rfl⟩))
    (fun os started H enc _ => EntriesTerms_lifted os started H enc)
#print axioms EntriesTerms_holds

end Go.Proofs.Ytnnknoohhoifbaa
