/- Cut at each of its indexes a log is what stands up to there; nowhere else it is cut: the statement EntriesCuts, for every argument. -/
import Derived.Test.YtnnknoohhoifbaaEntHelp
import Derived.Test.YtnnknoohhoifbaaEntCut
import Derived.Deep.CutRange
import Derived.Deep.RegionWith
namespace Go.Proofs.Ytnnknoohhoifbaa
open Go.ChangeShapes Go.WideShapes Go.ChangeAt Go.RowKit

/-- a log that was told, in a variable -/
def LogVar (w : World) (B T c : Int) (xs : List Ent) (p e : Value) (wx : World) : Prop :=
  ∃ (g : Nat) (X Y : Int) (A : Option Addr) (m cap : Nat), p = .pointer (some ⟨g, 0, none⟩) ∧ e = .int .i64 c ∧ Blk wx g 25 #[.int .i64 X, .int .i64 Y, .slice A m cap] ∧
    (c ≠ 0 → X = 0 ∧ Y = 0 ∧ Ents wx (.slice A m cap) []) ∧ (c = 0 → X = B ∧ Y = T ∧ Ents wx (.slice A m cap) xs) ∧ From w wx
def Told (w w' : World) (B T c : Int) (xs : List Ent) (X Y : Int) (A : Option Addr) (m cap : Nat) : Prop :=
  (c ≠ 0 → X = 0 ∧ Y = 0 ∧ A = none ∧ m = 0 ∧ cap = 0) ∧ (c = 0 → X = B ∧ Y = T ∧ w'.ownsRow w.heap.size 63 3 (.slice A m cap) xs.length (entV xs))
theorem apGot_form {w w' : World} {B T : Int} {xs : List Ent} {c : Int} {L : Value} (h : ApGot w w' B T xs c L) : ∃ (X Y : Int) (A : Option Addr) (m cap : Nat), L = .agg #[.int .i64 X, .int .i64 Y, .slice A m cap] ∧ Told w w' B T c xs X Y A m cap := by
  by_cases hc : c = 0
  · obtain ⟨v', rfl, hown⟩ := h.2 hc
    obtain ⟨A, cap, rfl⟩ := own_form hown
    exact ⟨_, _, _, _, _, rfl, fun h => absurd hc h, fun _ => ⟨rfl, rfl, hown⟩⟩
  · have := h.1 hc
    subst this
    exact ⟨0, 0, none, 0, 0, rfl, fun _ => ⟨rfl, rfl, rfl, rfl, rfl⟩, fun h => absurd h hc⟩
theorem logVar_new {w W w2 : World} {B T c : Int} {xs : List Ent} {X Y : Int} {A : Option Addr} {m cap : Nat} (hW : From w W) (hb : From W w2) (ht : Told W w2 B T c xs X Y A m cap) :
    LogVar w B T c xs (.pointer (some ⟨w2.heap.size, 0, none⟩)) (.int .i64 c) (w2.alloc (.cells #[.int .i64 X, .int .i64 Y, .slice A m cap] 25)) := by
  refine ⟨_, X, Y, A, m, cap, rfl, rfl, Blk.new _ _ _, fun h => ?_, fun h => ?_, (hW.next hb).new _⟩
  · obtain ⟨h1, h2, rfl, rfl, rfl⟩ := ht.1 h
    exact ⟨h1, h2, Ents.nil_ _⟩
  · obtain ⟨h1, h2, ho⟩ := ht.2 h
    exact ⟨h1, h2, (Ents.of_own ho rfl).from_ (From.rfl_.new _)⟩
theorem logVar_put {w W w2 : World} {B T c : Int} {xs : List Ent} {X Y : Int} {A : Option Addr} {m cap g : Nat} {x y z : Value} (hW : From w W) (hb : From W w2) (ht : Told W w2 B T c xs X Y A m cap) (hbk : Blk w2 g 25 #[x, y, z]) (hg : w.heap.size ≤ g) (hg2 : g < W.heap.size) :
    LogVar w B T c xs (.pointer (some ⟨g, 0, none⟩)) (.int .i64 c) (put3 w2 g (.int .i64 X) (.int .i64 Y) (.slice A m cap)) := by
  refine ⟨g, X, Y, A, m, cap, rfl, rfl, ?_, fun h => ?_, fun h => ?_, put3_from (hW.next hb) hg⟩
  · have := ((hbk.set_ 0 (.int .i64 X)).set_ 1 (.int .i64 Y)).set_ 2 (.slice A m cap)
    simpa using this
  · obtain ⟨h1, h2, rfl, rfl, rfl⟩ := ht.1 h
    exact ⟨h1, h2, Ents.nil_ _⟩
  · obtain ⟨h1, h2, ho⟩ := ht.2 h
    refine ⟨h1, h2, Ents.of_own (ownsRow_setCell_below (ownsRow_setCell_below (ownsRow_setCell_below ho ?_ _) ?_ _) ?_ _) rfl⟩
    all_goals exact hg2

set_option maxRecDepth 100000 in
set_option maxHeartbeats 4000000 in
theorem cuts_law (A : Option Addr) (n cap : Nat) (w : World) (hn : n ≤ 9223372036854775807) (hE : Asks w A n) :
    Calls Try.prog 8 #[.slice A n cap] w fun e w' => e = .returned (.bool true) ∧ From w w' := by
  go_enter Try.func8, Try.ntmps8
  go_wp2
  go_loopw [3] (fun i wr => ∃ k : Nat, k ≤ n ∧ i = .int .i64 k ∧ From w wr) (fun i _ => n - (intOf i).toNat)
  case atStart => exact ⟨0, by omega, rfl, From.rfl_⟩
  case round =>
    obtain ⟨k, hk, rfl, hw⟩ := hrel
    by_cases hlt : k < n ∧ k < 8
    · obtain ⟨hlt, h20⟩ := hlt
      obtain ⟨b, o, rfl, hb, hc⟩ := hE (by omega)
      obtain ⟨B1, T1, I1, M1, N1, V1, E1, xs1, es1, hat1⟩ := hc k (by omega)
      have d01 : ∀ w', From w w' → w'.cell? ⟨b, o + k * 7, none⟩ = some (.int .i64 B1) := fun w' h => (h.cells b _ hb).trans hat1.c0
      have d11 : ∀ w', From w w' → w'.cell? ⟨b, o + k * 7 + 1, none⟩ = some (.int .i64 T1) := fun w' h => (h.cells b _ hb).trans hat1.c1
      have d21 : ∀ w', From w w' → w'.cell? ⟨b, o + k * 7 + 2, none⟩ = some V1 := fun w' h => (h.cells b _ hb).trans hat1.c2
      have d31 : ∀ w', From w w' → w'.cell? ⟨b, o + k * 7 + 3, none⟩ = some (.int .i64 I1) := fun w' h => (h.cells b _ hb).trans hat1.c3
      have d41 : ∀ w', From w w' → w'.cell? ⟨b, o + k * 7 + 4, none⟩ = some (.int .i64 M1) := fun w' h => (h.cells b _ hb).trans hat1.c4
      have d51 : ∀ w', From w w' → w'.cell? ⟨b, o + k * 7 + 5, none⟩ = some E1 := fun w' h => (h.cells b _ hb).trans hat1.c5
      have d61 : ∀ w', From w w' → w'.cell? ⟨b, o + k * 7 + 6, none⟩ = some (.int .i64 N1) := fun w' h => (h.cells b _ hb).trans hat1.c6
      have hokc1 := fun w' (h : From w w') => ok_any B1 T1 I1 M1 N1 V1 E1 xs1 es1 w' (hat1.log.from_ h) (hat1.ent.from_ h) hat1.lok hat1.llen hat1.eok hat1.elen
      simp only [askCells] at hokc1
      have HV1 := Lib.hid hokc1
      have HAT1 := Lib.hid hat1
      clear hat1 hokc1
      have i1 : (0:Int) ≤ (k:Int) := by omega
      have i2 : (k:Int) < (n:Int) := by omega
      have hd : decide ((k : Int) < 8) = true := by simp; omega
      clear hc hE
      go_wp2_with fail
      refine (HV1.out _ hw).mono ?_
      rintro e w1 ⟨h, rfl, hlight, hb1⟩
      have hw1 := hw.next hb1
      clear hb1
      cases h with
      | false =>
        go_wp2
        go_roundw
        case rel => exact ⟨k + 1, by omega, by go_num, hw1⟩
        case measure => simp [intOf]; omega
      | true =>
        obtain ⟨hm, hx, he⟩ := hlight (by simp)
        obtain ⟨hlast, hB0, hB1, hx5⟩ := may_lastI hm
        clear hlight hw
        have hcu := fun i w' (h : From w w') => cut_any B1 T1 i V1 xs1 w' (HAT1.out.log.from_ h)
        unfold cutErr at hcu
        simp only [if_pos hm, hlast] at hcu
        have HLOG := Lib.hid HAT1.out.log
        obtain ⟨LA, lcap, rfl, -⟩ := HAT1.out.log
        have HCU := Lib.hid hcu
        clear hcu hm hlast
        go_wp2
        go_loopw [4] (fun i wx => ∃ j : Nat, j ≤ xs1.length + 3 ∧ i = .int .i64 (-1 + j) ∧ From w wx) (fun i _ => (xs1.length + 2 - intOf i).toNat)
        case atStart => exact ⟨0, by omega, by go_num, hw1⟩
        case round =>
          obtain ⟨j, hj, rfl, hwx⟩ := hrel
          clear hw1
          by_cases hjl : j < xs1.length + 3
          · have e0 : decide (-1 + (j : Int) ≤ (xs1.length : Int) + 1) = true := by simp; omega
            obtain ⟨c, hc⟩ : ∃ c, c = (if B1 ≤ B1 + (-1 + (j : Int)) ∧ B1 + (-1 + (j : Int)) ≤ B1 + xs1.length then (0 : Int) else 1) := ⟨_, rfl⟩
            have hcut := HCU.out (B1 + (-1 + (j : Int)))
            rw [← hc] at hcut
            obtain ⟨kk, hkk⟩ : ∃ kk, kk = (B1 + (-1 + (j : Int)) - B1).toNat := ⟨_, rfl⟩
            rw [← hkk] at hcut
            obtain ⟨i9, hi9⟩ : ∃ i9, i9 = B1 + (-1 + (j : Int)) := ⟨_, rfl⟩
            rw [← hi9] at hcut
            have hs9 : B1 + (-1 + (j : Int)) = i9 := hi9.symm
            have HCUT := Lib.hid hcut
            have hi92 : B1 - 1 ≤ i9 ∧ i9 ≤ B1 + xs1.length + 1 := by omega
            have HC := Lib.hid (And.intro hc hkk)
            clear hcut hc hkk hi9
            have hwr9 : IntKind.i64.wrap i9 = i9 := by rw [IntKind.wrap_i64]; omega
            have hwa : From w (wr.alloc (.cells #[.int .i64 0, .int .i64 0, .slice none 0 0] 25)) := hwx.new _
            go_upto_region 8 with fail
            go_cut [5, 6] from 23 to 112 (fun p e wx => LogVar w B1 T1 c (xs1.take kk) p e wx)
            case first =>
              go_region_with (go_at_call 29; (first | ((with_reducible refine (HCUT.out wr.drew hwx.d1).mono ?_); rintro e w2 ⟨L, rfl, hgot, hb2⟩; obtain ⟨X, Y, A9, m9, c9, rfl, htold⟩ := apGot_form hgot; clear hgot) | ((with_reducible refine (HCUT.out ((wr.alloc (.cells #[.int .i64 0, .int .i64 0, .slice none 0 0] 25)).drew) ((hwx.new _).d1)).mono ?_); rintro e w2 ⟨L, rfl, hgot, hb2⟩; obtain ⟨X, Y, A9, m9, c9, rfl, htold⟩ := apGot_form hgot; clear hgot; have hbk := (show Blk (wr.alloc (.cells #[.int .i64 0, .int .i64 0, .slice none 0 0] 25)).drew wr.heap.size 25 #[.int .i64 0, .int .i64 0, .slice none 0 0] from Blk.new wr _ _).from_ hb2; obtain ⟨⟨s0, s1, s2⟩, t0, t1, t2⟩ := res_facts hbk)))
              all_goals (go_wp2_with fail; go_meet; (first | exact logVar_new hwx.d1 hb2 htold | exact logVar_put (hwx.new _).d1 hb2 htold hbk hwx.size (by show wr.heap.size < ((wr.alloc _).drew).heap.size; show wr.heap.size < (wr.alloc _).heap.size; simp)))
            case rest =>
              obtain ⟨g, X, Y, A9, m9, c9, rfl, rfl, hbk, hz, hv, hwc⟩ := hcut
              have f0 : ∀ w', From wc w' → w'.cell? ⟨g, 0, none⟩ = some (.int .i64 X) := fun w' h => by rw [(hbk.from_ h).cell 0]; rfl
              have f1 : ∀ w', From wc w' → w'.cell? ⟨g, 1, none⟩ = some (.int .i64 Y) := fun w' h => by rw [(hbk.from_ h).cell 1]; rfl
              have f2 : ∀ w', From wc w' → w'.cell? ⟨g, 2, none⟩ = some (.slice A9 m9 c9) := fun w' h => by rw [(hbk.from_ h).cell 2]; rfl
              have hcc : From wc wc := From.rfl_
              obtain ⟨hc1, hk1⟩ := HC.out
              by_cases hin : 1 ≤ j ∧ j ≤ xs1.length + 1
              · rw [if_pos (by omega)] at hc1
                subst hc1
                obtain ⟨rfl, rfl, hents⟩ := hv rfl
                have hkj : kk = j - 1 := by omega
                have hs5 : -1 + (j : Int) = (kk : Int) := by omega
                have hkl : kk ≤ xs1.length := by omega
                have e1 : decide (-1 + (j : Int) < 0) = false := by simp; omega
                have e2 : decide ((xs1.length : Int) < -1 + (j : Int)) = false := by simp; omega
                have e1' : decide ((kk : Int) < 0) = false := by simp
                have e2' : decide ((xs1.length : Int) < (kk : Int)) = false := by simp; omega
                have k1 : (0 : Int) ≤ (kk : Int) := by omega
                have k2 : (kk : Int) ≤ (xs1.length : Int) := by omega
                obtain ⟨_, hlc⟩ : True ∧ xs1.length ≤ lcap := by
                  obtain ⟨A', c', hv', h1, h2, _⟩ := HLOG.out
                  simp only [Value.slice.injEq] at hv'
                  exact ⟨trivial, by omega⟩
                have k3 : (kk : Int) ≤ (lcap : Int) := by omega
                have heq := fun w' (h : From wc w') => eqEntries_same _ _ (xs1.take kk) w' (hents.from_ h) (((HLOG.out.from_ hwc).from_ h).cut hkl) (by rw [List.length_take]; omega)
                have HEQ := Lib.hid heq
                have e01 := fun w' (h : From wc w') => d01 w' (hwc.next h)
                have e11 := fun w' (h : From wc w') => d11 w' (hwc.next h)
                have e21 := fun w' (h : From wc w') => d21 w' (hwc.next h)
                clear heq hents hz hin hk1 hkj HCU HCUT HV1 hwr9 hs9 hi92 hwx
                go_wp2_with fail
                go_region_held3 (fun w' => From wc w')
                  (first | assumption | exact From.d1 (by assumption) | exact From.dn (by assumption) _ | exact From.next (by assumption) (by assumption))
                  (first
                    | (go_at_call 23; (with_reducible refine (errnum_any _ _).mono ?_); rintro e w10 ⟨rfl, rfl⟩)
                    | (go_at_call 33; (with_reducible refine (HEQ.out _ (by assumption)).mono ?_); rintro e w4 ⟨rfl, hb4⟩))
                go_wp2_with fail
                go_roundw
                case rel =>
                  exact ⟨j + 1, by omega, by go_num, hwc.next (by assumption)⟩
                case measure => simp [intOf]; omega
              · rw [if_neg (by omega)] at hc1
                subst hc1
                obtain ⟨rfl, rfl, hents⟩ := hz (by decide)
                have heq := fun w' (h : From wc w') => eqLog_same 0 0 _ (.slice none 0 0) [] w' (hents.from_ h) (Ents.nil_ _) (by decide)
                have HEQ := Lib.hid heq
                clear heq hents hv hk1 HCU HCUT HV1 hwr9 hs9 hi92 hwx
                by_cases hj0 : j = 0
                · subst hj0
                  go_wp2_with (first
                    | (go_at_call 23; (with_reducible refine (errnum_any _ _).mono ?_); rintro e w10 ⟨rfl, rfl⟩)
                    | (go_at_call 32; (with_reducible refine (HEQ.out _ (by assumption)).mono ?_); rintro e w4 ⟨rfl, hb4⟩))
                  go_roundw
                  case rel =>
                    exact ⟨1, by omega, by go_num, hwc.next hb4⟩
                  case measure => simp [intOf]; omega
                · have e1 : decide (-1 + (j : Int) < 0) = false := by simp; omega
                  have e2 : decide ((xs1.length : Int) < -1 + (j : Int)) = true := by simp; omega
                  go_wp2_with (first
                    | (go_at_call 23; (with_reducible refine (errnum_any _ _).mono ?_); rintro e w10 ⟨rfl, rfl⟩)
                    | (go_at_call 32; (with_reducible refine (HEQ.out _ (by assumption)).mono ?_); rintro e w4 ⟨rfl, hb4⟩))
                  go_roundw
                  case rel =>
                    exact ⟨j + 1, by omega, by go_num, hwc.next hb4⟩
                  case measure => simp [intOf]; omega
          · have e0 : decide (-1 + (j : Int) ≤ (xs1.length : Int) + 1) = false := by simp; omega
            go_wp2
            go_roundw
            case rel => exact ⟨k + 1, by omega, by go_num, hwx⟩
            case measure => simp [intOf]; omega
    · rcases (show ¬ k < n ∨ (k < n ∧ ¬ k < 8) by omega) with h1 | ⟨h1, h2⟩
      all_goals
        clear hlt
        go_wp2_with (go_at_call 35; (with_reducible refine (wakes_any _).mono ?_); rintro e w1 ⟨rfl, hb1⟩)
        go_ret
        exact ⟨rfl, hw.next hb1⟩
set_option maxRecDepth 100000 in
theorem EntriesCuts_lifted (os : Os) (started : os.Started) (H : Type) (enc : TypeId × Value → H) :
    ReturnsInHanded {} Try.checked os 8 .any (Rows.entriesCutsSpec.pre6 enc Try.prog Try.f8 Rows.entriesCutsRow.domain false) (Rows.entriesCutsSpec.post enc Try.prog Try.f8 false true false false) := by
  refine returnsInHanded_of_change_sized (C := Try.checked) Try.own started (by kernel_rfl) Try.func8
    (ChangeSpec.witness6 (enc := enc) (C := Try.checked) false ⟨#[], #[.slice none 0 0], []⟩ 8 (by kernel_rfl) (by kernel_rfl) (by kernel_rfl) (by kernel_rfl)) ?_
  intro W base args ds gs before hval hW _ hsz _
  exact law_step 8 Try.f8 22 4 Rows.entriesCutsSpec Try.params8 (by kernel_rfl) Try.underlying4 rfl (fun _ => rfl) (by kernel_rfl) (of_decide_eq_true (by kernel_rfl)) (walk_of cuts_law) W base args ds gs before hval hW hsz

theorem EntriesCuts_holds : Rows.EntriesCutsSaid :=
  OpenClaim.holds_of_wide 8 Try.f8 rfl rfl rfl rfl rfl rfl rfl ⟨rfl, rfl, rfl, rfl, rfl⟩ rfl rfl rfl rfl rfl (by kernel_rfl) Try.func8 (by kernel_rfl)
    (of_decide_eq_true (by kernel_rfl)) (by unfold Func.isWrapper; first | (rw [if_pos (by decide +kernel)]; kernel_rfl) | (rw [if_neg (by decide +kernel)]; exact ⟨rfl, rfl⟩))
    (fun os started H enc _ => EntriesCuts_lifted os started H enc)
#print axioms EntriesCuts_holds

end Go.Proofs.Ytnnknoohhoifbaa
