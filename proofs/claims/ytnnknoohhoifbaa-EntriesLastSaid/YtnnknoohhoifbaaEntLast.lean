/- The end of any log is the reference's: the statement EntriesLast, for every argument. -/
import Derived.Test.YtnnknoohhoifbaaEntHelp
namespace Go.Proofs.Ytnnknoohhoifbaa
open Go.ChangeShapes Go.WideShapes Go.ChangeAt Go.RowKit

set_option maxRecDepth 100000 in
set_option maxHeartbeats 2000000 in
theorem last_law (A : Option Addr) (n cap : Nat) (w : World) (hn : n ≤ 9223372036854775807) (hE : Asks w A n) :
    Calls Try.prog 5 #[.slice A n cap] w fun e w' => e = .returned (.bool true) ∧ From w w' := by
  go_enter Try.func5, Try.ntmps5
  go_wp2
  go_loopw [3] (fun i wr => ∃ k : Nat, k ≤ n ∧ i = .int .i64 k ∧ From w wr) (fun i _ => n - (intOf i).toNat)
  case atStart => exact ⟨0, by omega, rfl, From.rfl_⟩
  case round =>
    obtain ⟨k, hk, rfl, hw⟩ := hrel
    by_cases hlt : k < n ∧ k < 8
    · obtain ⟨hlt, h20⟩ := hlt
      obtain ⟨b, o, rfl, hb, hc⟩ := hE (by omega)
      obtain ⟨B, T, I, M, N, V, E, xs, es, hat⟩ := hc k hlt
      have i1 : (0:Int) ≤ (k:Int) := by omega
      have i2 : (k:Int) < (n:Int) := by omega
      have hd : decide ((k : Int) < 8) = true := by simp; omega
      have d0 : ∀ w', From w w' → w'.cell? ⟨b, o + k * 7, none⟩ = some (.int .i64 B) := fun w' h => (h.cells b _ hb).trans hat.c0
      have d1 : ∀ w', From w w' → w'.cell? ⟨b, o + k * 7 + 1, none⟩ = some (.int .i64 T) := fun w' h => (h.cells b _ hb).trans hat.c1
      have d2 : ∀ w', From w w' → w'.cell? ⟨b, o + k * 7 + 2, none⟩ = some V := fun w' h => (h.cells b _ hb).trans hat.c2
      have d3 : ∀ w', From w w' → w'.cell? ⟨b, o + k * 7 + 3, none⟩ = some (.int .i64 I) := fun w' h => (h.cells b _ hb).trans hat.c3
      have d4 : ∀ w', From w w' → w'.cell? ⟨b, o + k * 7 + 4, none⟩ = some (.int .i64 M) := fun w' h => (h.cells b _ hb).trans hat.c4
      have d5 : ∀ w', From w w' → w'.cell? ⟨b, o + k * 7 + 5, none⟩ = some E := fun w' h => (h.cells b _ hb).trans hat.c5
      have d6 : ∀ w', From w w' → w'.cell? ⟨b, o + k * 7 + 6, none⟩ = some (.int .i64 N) := fun w' h => (h.cells b _ hb).trans hat.c6
      have hokc := fun w' (h : From w w') => ok_any B T I M N V E xs es w' (hat.log.from_ h) (hat.ent.from_ h) hat.lok hat.llen hat.eok hat.elen
      simp only [askCells] at hokc
      have HV := Lib.hid hokc
      have HAT := Lib.hid hat
      clear hat hc hE hokc
      go_wp2_with fail
      refine (HV.out _ hw).mono ?_
      rintro e w1 ⟨h, rfl, hlight, hb1⟩
      have hw1 := hw.next hb1
      clear hb1
      cases h with
      | false =>
        go_wp2
        go_roundw
        case rel => exact ⟨k + 1, by omega, by go_num, hw1⟩
        case measure => simp [intOf]; omega
      | true =>
        obtain ⟨hm, hx, he⟩ := hlight rfl
        clear hlight hw
        have hla := fun w' (h : From w w') => last_any B T V xs w' (HAT.out.log.from_ h)
        have hre := fun w' (h : From w w') => refLast_any B T V xs w' (HAT.out.log.from_ h)
        unfold lastV at hla
        rw [if_pos hm] at hla
        have HL := Lib.hid hla
        have HR := Lib.hid hre
        clear hla hre hm
        go_wp2_with (first
          | (go_at_call 25; (with_reducible refine (HL.out _ hw1).mono ?_); rintro e w2 ⟨rfl, hb2⟩; have hw2 := From.next (a := w) hw1 hb2)
          | (go_at_call 16; (with_reducible refine (HR.out _ hw2).mono ?_); rintro e w3 ⟨rfl, hb3⟩; have hw3 := From.next (a := w) hw2 hb3)
          | (go_at_call 23; (with_reducible refine (errnum_any _ _).mono ?_); rintro e w10 ⟨rfl, rfl⟩))
        go_roundw
        case rel => exact ⟨k + 1, by omega, by go_num, hw3⟩
        case measure => simp [intOf]; omega
    · rcases (show ¬ k < n ∨ (k < n ∧ ¬ k < 8) by omega) with h1 | ⟨h1, h2⟩
      all_goals
        clear hlt
        go_wp2_with (go_at_call 35; (with_reducible refine (wakes_any _).mono ?_); rintro e w1 ⟨rfl, hb1⟩)
        go_ret
        exact ⟨rfl, hw.next hb1⟩
set_option maxRecDepth 100000 in
theorem EntriesLast_lifted (os : Os) (started : os.Started) (H : Type) (enc : TypeId × Value → H) :
    ReturnsInHanded {} Try.checked os 5 .any (Rows.entriesLastSpec.pre6 enc Try.prog Try.f5 Rows.entriesLastRow.domain false) (Rows.entriesLastSpec.post enc Try.prog Try.f5 false true false false) := by
  refine returnsInHanded_of_change_sized (C := Try.checked) Try.own started (by kernel_rfl) Try.func5
    (ChangeSpec.witness6 (enc := enc) (C := Try.checked) false ⟨#[], #[.slice none 0 0], []⟩ 8 (by kernel_rfl) (by kernel_rfl) (by kernel_rfl) (by kernel_rfl)) ?_
  intro W base args ds gs before hval hW _ hsz _
  exact law_step 5 Try.f5 22 4 Rows.entriesLastSpec Try.params5 (by kernel_rfl) Try.underlying4 rfl (fun _ => rfl) (by kernel_rfl) (of_decide_eq_true (by kernel_rfl)) (walk_of last_law) W base args ds gs before hval hW hsz

theorem EntriesLast_holds : Rows.EntriesLastSaid :=
  OpenClaim.holds_of_wide 5 Try.f5 rfl rfl rfl rfl rfl rfl rfl ⟨rfl, rfl, rfl, rfl, rfl⟩ rfl rfl rfl rfl rfl (by kernel_rfl) Try.func5 (by kernel_rfl)
    (of_decide_eq_true (by kernel_rfl)) (by unfold Func.isWrapper; first | (rw [if_pos (by decide +kernel)]; kernel_rfl) | (rw [if_neg (by decide +kernel)]; exact ⟨rfl, rfl⟩))
    (fun os started H enc _ => EntriesLast_lifted os started H enc)
#print axioms EntriesLast_holds

end Go.Proofs.Ytnnknoohhoifbaa
