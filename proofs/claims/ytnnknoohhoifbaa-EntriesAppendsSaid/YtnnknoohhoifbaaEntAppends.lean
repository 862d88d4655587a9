/- Any log with any entries more is the reference's, or refused: the statement EntriesAppends, for every argument. -/
import Derived.Test.YtnnknoohhoifbaaEntVar
import Derived.Deep.CutRange
import Derived.Deep.RegionWith
namespace Go.Proofs.Ytnnknoohhoifbaa
open Go.ChangeShapes Go.WideShapes Go.ChangeAt Go.RowKit

set_option maxRecDepth 100000 in
set_option maxHeartbeats 4000000 in
theorem appends_law (A : Option Addr) (n cap : Nat) (w : World) (hn : n ≤ 9223372036854775807) (hE : Asks w A n) :
    Calls Try.prog 7 #[.slice A n cap] w fun e w' => e = .returned (.bool true) ∧ From w w' := by
  go_enter Try.func7, Try.ntmps7
  go_wp2
  go_loopw [3] (fun i wr => ∃ k : Nat, k ≤ n ∧ i = .int .i64 k ∧ From w wr) (fun i _ => n - (intOf i).toNat)
  case atStart => exact ⟨0, by omega, rfl, From.rfl_⟩
  case round =>
    obtain ⟨k, hk, rfl, hw⟩ := hrel
    by_cases hlt : k < n ∧ k < 8
    · obtain ⟨hlt, h20⟩ := hlt
      obtain ⟨b, o, rfl, hb, hc⟩ := hE (by omega)
      obtain ⟨B1, T1, I1, M1, N1, V1, E1, xs1, es1, hat1⟩ := hc k (by omega)
      have d01 : ∀ w', From w w' → w'.cell? ⟨b, o + k * 7, none⟩ = some (.int .i64 B1) := fun w' h => (h.cells b _ hb).trans hat1.c0
      have d11 : ∀ w', From w w' → w'.cell? ⟨b, o + k * 7 + 1, none⟩ = some (.int .i64 T1) := fun w' h => (h.cells b _ hb).trans hat1.c1
      have d21 : ∀ w', From w w' → w'.cell? ⟨b, o + k * 7 + 2, none⟩ = some V1 := fun w' h => (h.cells b _ hb).trans hat1.c2
      have d31 : ∀ w', From w w' → w'.cell? ⟨b, o + k * 7 + 3, none⟩ = some (.int .i64 I1) := fun w' h => (h.cells b _ hb).trans hat1.c3
      have d41 : ∀ w', From w w' → w'.cell? ⟨b, o + k * 7 + 4, none⟩ = some (.int .i64 M1) := fun w' h => (h.cells b _ hb).trans hat1.c4
      have d51 : ∀ w', From w w' → w'.cell? ⟨b, o + k * 7 + 5, none⟩ = some E1 := fun w' h => (h.cells b _ hb).trans hat1.c5
      have d61 : ∀ w', From w w' → w'.cell? ⟨b, o + k * 7 + 6, none⟩ = some (.int .i64 N1) := fun w' h => (h.cells b _ hb).trans hat1.c6
      have hokc1 := fun w' (h : From w w') => ok_any B1 T1 I1 M1 N1 V1 E1 xs1 es1 w' (hat1.log.from_ h) (hat1.ent.from_ h) hat1.lok hat1.llen hat1.eok hat1.elen
      simp only [askCells] at hokc1
      have HV1 := Lib.hid hokc1
      have HAT1 := Lib.hid hat1
      clear hat1 hokc1
      have i1 : (0:Int) ≤ (k:Int) := by omega
      have i2 : (k:Int) < (n:Int) := by omega
      have hd : decide ((k : Int) < 8) = true := by simp; omega
      clear hc hE
      go_wp2_with fail
      refine (HV1.out _ hw).mono ?_
      rintro e w1 ⟨h, rfl, hlight, hb1⟩
      have hw1 := hw.next hb1
      clear hb1
      cases h with
      | false =>
        go_wp2
        go_roundw
        case rel => exact ⟨k + 1, by omega, by go_num, hw1⟩
        case measure => simp [intOf]; omega
      | true =>
        obtain ⟨hm, hx, he⟩ := hlight (by simp)
        clear hlight hw HV1
        have hap := fun w' (h : From w w') => append_any B1 T1 V1 E1 xs1 es1 w' (HAT1.out.log.from_ h) (HAT1.out.ent.from_ h) (by omega)
        have hre := fun w' (h : From w w') => refAppend_any B1 T1 V1 E1 xs1 es1 w' (HAT1.out.log.from_ h) (HAT1.out.ent.from_ h) hm (by omega)
        have heq1 := refApErr_eq (ys := es1) hm
        rw [heq1] at hap
        generalize refApErr B1 T1 xs1 es1 = c at *
        have HAP := Lib.hid hap
        have HRE := Lib.hid hre
        obtain ⟨LA, lcap, rfl, -⟩ := HAT1.out.log
        obtain ⟨LE, ecap, rfl, -⟩ := HAT1.out.ent
        have hlen9 : (xs1 ++ es1).length ≤ 1000000000000 := by rw [List.length_append]; omega
        clear hap hre heq1 hm d31 d41 d61 HAT1 hx he
        have hwa : From w (w1.alloc (.cells #[.int .i64 0, .int .i64 0, .slice none 0 0] 25)) := hw1.new _
        go_upto_region 5 with fail
        go_cut [4, 5] from 8 to 61 (fun p e wx => LogVar w B1 T1 c (xs1 ++ es1) p e wx)
        case first =>
          go_region_with (go_at_call 28; (first | ((with_reducible refine (HAP.out w1.drew hw1.d1).mono ?_); rintro e w2 ⟨L, rfl, hgot, hb2⟩; obtain ⟨X, Y, A9, m9, c9, rfl, htold⟩ := apGot_form hgot; clear hgot) | ((with_reducible refine (HAP.out ((w1.alloc (.cells #[.int .i64 0, .int .i64 0, .slice none 0 0] 25)).drew) ((hw1.new _).d1)).mono ?_); rintro e w2 ⟨L, rfl, hgot, hb2⟩; obtain ⟨X, Y, A9, m9, c9, rfl, htold⟩ := apGot_form hgot; clear hgot; have hbk := (show Blk (w1.alloc (.cells #[.int .i64 0, .int .i64 0, .slice none 0 0] 25)).drew w1.heap.size 25 #[.int .i64 0, .int .i64 0, .slice none 0 0] from Blk.new w1 _ _).from_ hb2; obtain ⟨⟨s0, s1, s2⟩, t0, t1, t2⟩ := res_facts hbk)))
          all_goals (go_wp2_with fail; go_meet; (first | exact logVar_new hw1.d1 hb2 htold | exact logVar_put (hw1.new _).d1 hb2 htold hbk hw1.size (by show w1.heap.size < ((w1.alloc _).drew).heap.size; show w1.heap.size < (w1.alloc _).heap.size; simp)))
        case rest =>
          obtain ⟨g, X, Y, A9, m9, c9, rfl, rfl, hbk, hz, hv, hwc⟩ := hcut
          clear hwa hw1 HAP
          have hwa : From w (wc.alloc (.cells #[.int .i64 0, .int .i64 0, .slice none 0 0] 25)) := hwc.new _
          have HBK := Lib.hid hbk
          have HZ := Lib.hid hz
          have HVV := Lib.hid hv
          clear hbk hz hv
          generalize hwq : wc = wq at *
          clear hwq
          go_upto_region 6 with fail
          go_cut [6, 7] from 8 to 61 (fun p e wx => LogVar wq B1 T1 c (xs1 ++ es1) p e wx)
          case first =>
            go_region_with (go_at_call 17; (first | ((with_reducible refine (HRE.out wq.drew hwc.d1).mono ?_); rintro e w2 ⟨L, rfl, hgot, hb2⟩; obtain ⟨X, Y, A9, m9, c9, rfl, htold⟩ := apGot_form hgot; clear hgot) | ((with_reducible refine (HRE.out ((wq.alloc (.cells #[.int .i64 0, .int .i64 0, .slice none 0 0] 25)).drew) ((hwc.new _).d1)).mono ?_); rintro e w2 ⟨L, rfl, hgot, hb2⟩; obtain ⟨X, Y, A9, m9, c9, rfl, htold⟩ := apGot_form hgot; clear hgot; have hbk := (show Blk (wq.alloc (.cells #[.int .i64 0, .int .i64 0, .slice none 0 0] 25)).drew wq.heap.size 25 #[.int .i64 0, .int .i64 0, .slice none 0 0] from Blk.new wq _ _).from_ hb2; obtain ⟨⟨s0, s1, s2⟩, t0, t1, t2⟩ := res_facts hbk)))
            all_goals (go_wp2_with fail; go_meet; (first | exact logVar_new (From.rfl_ (a := wq)).d1 hb2 htold | exact logVar_put ((From.rfl_ (a := wq)).new _).d1 hb2 htold hbk (Nat.le_refl _) (by show wq.heap.size < ((wq.alloc _).drew).heap.size; show wq.heap.size < (wq.alloc _).heap.size; simp)))
          case rest =>
            obtain ⟨g2, X2, Y2, A8, m8, c8, rfl, rfl, hbk2, hz2, hv2, hqc⟩ := hcut
            have f0 : ∀ w', From wq w' → w'.cell? ⟨g, 0, none⟩ = some (.int .i64 X) := fun w' h => by rw [(HBK.out.from_ h).cell 0]; rfl
            have f1 : ∀ w', From wq w' → w'.cell? ⟨g, 1, none⟩ = some (.int .i64 Y) := fun w' h => by rw [(HBK.out.from_ h).cell 1]; rfl
            have f2 : ∀ w', From wq w' → w'.cell? ⟨g, 2, none⟩ = some (.slice A9 m9 c9) := fun w' h => by rw [(HBK.out.from_ h).cell 2]; rfl
            have f3 : ∀ w', From wc w' → w'.cell? ⟨g2, 0, none⟩ = some (.int .i64 X2) := fun w' h => by rw [(hbk2.from_ h).cell 0]; rfl
            have f4 : ∀ w', From wc w' → w'.cell? ⟨g2, 1, none⟩ = some (.int .i64 Y2) := fun w' h => by rw [(hbk2.from_ h).cell 1]; rfl
            have f5 : ∀ w', From wc w' → w'.cell? ⟨g2, 2, none⟩ = some (.slice A8 m8 c8) := fun w' h => by rw [(hbk2.from_ h).cell 2]; rfl
            have hcc : From wc wc := From.rfl_
            have hwz := hwc.next hqc
            have heq : ∀ w', From wc w' → Calls Try.prog 32 #[.agg #[.int .i64 X, .int .i64 Y, .slice A9 m9 c9], .agg #[.int .i64 X2, .int .i64 Y2, .slice A8 m8 c8]] w' fun e w'' => e = .returned (.bool true) ∧ From w' w'' := fun w' h => by
              by_cases hc0 : c = 0
              · obtain ⟨rfl, rfl, e1⟩ := HVV.out hc0
                obtain ⟨rfl, rfl, e2⟩ := hv2 hc0
                exact eqLog_same _ _ _ _ (xs1 ++ es1) w' ((e1.from_ hqc).from_ h) (e2.from_ h) hlen9
              · obtain ⟨rfl, rfl, e1⟩ := HZ.out hc0
                obtain ⟨rfl, rfl, e2⟩ := hz2 hc0
                exact eqLog_same _ _ _ _ [] w' ((e1.from_ hqc).from_ h) (e2.from_ h) (by decide)
            have HEQ := Lib.hid heq
            clear heq hz2 hv2 hbk2 HBK HZ HVV HRE hwa
            go_wp2_with (first
              | (go_at_call 23; (with_reducible refine (errnum_any _ _).mono ?_); rintro e w10 ⟨rfl, rfl⟩)
              | (go_at_call 32; (with_reducible refine (HEQ.out _ hcc).mono ?_); rintro e w4 ⟨rfl, hb4⟩))
            go_roundw
            case rel => exact ⟨k + 1, by omega, by go_num, hwz.next hb4⟩
            case measure => simp [intOf]; omega
    · rcases (show ¬ k < n ∨ (k < n ∧ ¬ k < 8) by omega) with h1 | ⟨h1, h2⟩
      all_goals
        clear hlt
        go_wp2_with (go_at_call 35; (with_reducible refine (wakes_any _).mono ?_); rintro e w1 ⟨rfl, hb1⟩)
        go_ret
        exact ⟨rfl, hw.next hb1⟩
set_option maxRecDepth 100000 in
theorem EntriesAppends_lifted (os : Os) (started : os.Started) (H : Type) (enc : TypeId × Value → H) :
    ReturnsInHanded {} Try.checked os 7 .any (Rows.entriesAppendsSpec.pre6 enc Try.prog Try.f7 Rows.entriesAppendsRow.domain false) (Rows.entriesAppendsSpec.post enc Try.prog Try.f7 false true false false) := by
  refine returnsInHanded_of_change_sized (C := Try.checked) Try.own started (by kernel_rfl) Try.func7
    (ChangeSpec.witness6 (enc := enc) (C := Try.checked) false ⟨#[], #[.slice none 0 0], []⟩ 8 (by kernel_rfl) (by kernel_rfl) (by kernel_rfl) (by kernel_rfl)) ?_
  intro W base args ds gs before hval hW _ hsz _
  exact law_step 7 Try.f7 22 4 Rows.entriesAppendsSpec Try.params7 (by kernel_rfl) Try.underlying4 rfl (fun _ => rfl) (by kernel_rfl) (of_decide_eq_true (by kernel_rfl)) (walk_of appends_law) W base args ds gs before hval hW hsz

theorem EntriesAppends_holds : Rows.EntriesAppendsSaid :=
  OpenClaim.holds_of_wide 7 Try.f7 rfl rfl rfl rfl rfl rfl rfl ⟨rfl, rfl, rfl, rfl, rfl⟩ rfl rfl rfl rfl rfl (by kernel_rfl) Try.func7 (by kernel_rfl)
    (of_decide_eq_true (by kernel_rfl)) (by unfold Func.isWrapper; first | (rw [if_pos (by decide +kernel)]; kernel_rfl) | (rw [if_neg (by decide +kernel)]; exact ⟨rfl, rfl⟩))
    (fun os started H enc _ => EntriesAppends_lifted os started H enc)
#print axioms EntriesAppends_holds

end Go.Proofs.Ytnnknoohhoifbaa
