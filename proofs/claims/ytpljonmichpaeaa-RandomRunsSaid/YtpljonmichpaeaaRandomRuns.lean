/- Every number's successor is not 0 and not itself; the number below n is below n: for every argument. -/
import Derived.Test.YtpljonmichpaeaaRandomLaws
import Derived.Test.YtpljonmichpaeaaRandomNx
namespace Go.Proofs.Ytpljonmichpaeaa
open Go.ChangeShapes Go.WideShapes Go.ChangeAt Go.RowKit

/-- what a law of this seed is proved by -/
theorem walk_of {H : Type} {enc : TypeId × Value → H} {F : FuncId} (any : ∀ (A : Option Addr) (n cap : Nat) (f : Nat → Int × Int) (w : World), n ≤ 9223372036854775807 → Elems w A n f → Calls Try.prog F #[.slice A n cap] w fun e w' => e = .returned (.bool true) ∧ From w w')
    (W : World) (base : Nat) (v : Value) (d : DataW H) (p : List MemPlace) (hv : Value.okWide Try.prog W .any base 22 v)
    (h : DataW.Trod enc Try.prog W 0 (fun _ => true) true 22 v d p) (_hlt : ∀ x ∈ p, x.block < W.heap.size) :
    Calls Try.prog F #[v] W fun e W' => e = .returned (.bool true) ∧ From W W' := by
  obtain ⟨A, cap, xs, rfl, h1, h2, h3⟩ := arg_sl AskTy ask_fits hv h
  obtain ⟨f, hf⟩ := elems_of xs h3
  unfold maxLen at h2
  exact any A xs.length cap f W (by omega) hf

def U64 (s : Int) : Prop := 0 ≤ s ∧ s ≤ 18446744073709551615

set_option maxRecDepth 100000 in
set_option maxHeartbeats 1000000 in
theorem runs_any (A : Option Addr) (n cap : Nat) (f : Nat → Int × Int) (w : World) (hn : n ≤ 9223372036854775807) (hE : Elems w A n f) :
    Calls Try.prog 4 #[.slice A n cap] w fun e w' => e = .returned (.bool true) ∧ From w w' := by
  go_enter Try.func4, Try.ntmps4
  go_wp2
  go_loopw [3] (fun i wr => ∃ k : Nat, k ≤ n ∧ i = .int .i64 k ∧ From w wr) (fun i _ => n - (intOf i).toNat)
  case atStart => exact ⟨0, by omega, rfl, From.rfl_⟩
  case round =>
    obtain ⟨k, hk, rfl, hw⟩ := hrel
    by_cases hlt : k < n
    · by_cases h40 : k < 40
      · obtain ⟨b, o, rfl, hb, hc⟩ := hE (by omega)
        obtain ⟨c1, c2, h1, h2, h3, h4⟩ := hc k hlt
        have i1 : (0:Int) ≤ (k:Int) := by omega
        have i2 : (k:Int) < (n:Int) := by omega
        have d1 : ∀ w', From w w' → w'.cell? ⟨b, o + k * 2, none⟩ = some (.int .u64 (f k).1) := fun w' h => (h.cells b (o + k * 2) hb).trans c1
        have d2 : ∀ w', From w w' → w'.cell? ⟨b, o + k * 2 + 1, none⟩ = some (.int .i64 (f k).2) := fun w' h => (h.cells b (o + k * 2 + 1) hb).trans c2
        have hd : decide ((k : Int) < 40) = true := by simp; omega
        clear hc c1 c2 hE
        go_wp2_with fail
        go_loopw [4, 5] (fun s i wr => ∃ (t : Int) (j : Nat), j ≤ 20 ∧ i = .int .i64 j ∧ s = .int .u64 t ∧ U64 t ∧ From w wr) (fun _ i _ => 20 - (intOf i).toNat)
        case atStart => exact ⟨(f k).1, 0, by omega, rfl, rfl, ⟨h1, h2⟩, hw⟩
        case round =>
          obtain ⟨t, j, hj, rfl, rfl, ⟨ht1, ht2⟩, hw2⟩ := hrel
          by_cases hj20 : j < 20
          · have r1 := nx_range ht1 ht2
            have e1 : (nx t == 0) = false := by simpa using nx_ne_zero ht1 ht2
            have e2 : (nx t == t) = false := by simpa using nx_ne_self ht1 ht2
            have r2 : (f k).2 < 1 → (bl t (f k).2 == 0) = true := fun h => by simp [bl, h]
            have r3 : 1 ≤ (f k).2 → 0 ≤ bl t (f k).2 ∧ bl t (f k).2 < (f k).2 := fun h => bl_range ht1 ht2 h h4
            clear ht1 ht2
            generalize (f k).1 = s1 at *
            generalize (f k).2 = n1 at *
            by_cases hN : n1 < 1
            · have r4 := r2 hN
              have hN2 : decide (n1 < 1) = true := by simpa using hN
              clear r2 r3
              go_wp2_with (first
                | (go_at_call 6; refine (below _ _ _ h4).mono ?_; rintro e w1 ⟨rfl, hb1⟩; replace hb1 := From.next (a := w) (by assumption) hb1)
                | (go_at_call 8; refine (next _ _).mono ?_; rintro e w1 ⟨rfl, hb1⟩; replace hb1 := From.next (a := w) (by assumption) hb1))
              go_roundw
              case rel => exact ⟨_, j + 1, by omega, by go_num, rfl, r1, by assumption⟩
              case measure => simp [intOf]; omega
            · obtain ⟨r4, r5⟩ := r3 (by omega)
              clear r2 r3
              go_wp2_with (first
                | (go_at_call 6; refine (below _ _ _ h4).mono ?_; rintro e w1 ⟨rfl, hb1⟩; replace hb1 := From.next (a := w) (by assumption) hb1)
                | (go_at_call 8; refine (next _ _).mono ?_; rintro e w1 ⟨rfl, hb1⟩; replace hb1 := From.next (a := w) (by assumption) hb1))
              go_roundw
              case rel => exact ⟨_, j + 1, by omega, by go_num, rfl, r1, by assumption⟩
              case measure => simp [intOf]; omega
          · go_wp2
            go_roundw
            case rel => exact ⟨k + 1, by omega, by go_num, by assumption⟩
            case measure => simp [intOf]; omega
      · go_wp2_with (go_at_call 10; refine (wakes _).mono ?_; rintro e w1 ⟨rfl, hb1⟩)
        go_ret
        exact ⟨rfl, hw.next hb1⟩
    · go_wp2_with (go_at_call 10; refine (wakes _).mono ?_; rintro e w1 ⟨rfl, hb1⟩)
      go_ret
      exact ⟨rfl, hw.next hb1⟩

set_option maxRecDepth 100000 in
theorem RandomRuns_lifted (os : Os) (started : os.Started) (H : Type) (enc : TypeId × Value → H) :
    ReturnsInHanded {} Try.checked os 4 .any (Rows.randomRunsSpec.pre6 enc Try.prog Try.f4 Rows.randomRunsRow.domain false) (Rows.randomRunsSpec.post enc Try.prog Try.f4 false true false false) := by
  refine returnsInHanded_of_change (C := Try.checked) Try.own started (by kernel_rfl) Try.func4
    (ChangeSpec.witness6 (enc := enc) (C := Try.checked) false ⟨#[], #[.slice none 0 0], []⟩ 8 (by kernel_rfl) (by kernel_rfl) (by kernel_rfl) (by kernel_rfl)) ?_
  intro W base args ds gs before hval hW _ _
  exact law_step 4 Try.f4 22 4 Rows.randomRunsSpec Try.params4 (by kernel_rfl) Try.underlying4 rfl (fun _ => rfl) (by kernel_rfl) (of_decide_eq_true (by kernel_rfl)) (walk_of runs_any) W base args ds gs before hval hW

theorem RandomRuns_holds : Rows.RandomRunsSaid :=
  OpenClaim.holds_of_wide 4 Try.f4 rfl rfl rfl rfl rfl rfl rfl ⟨rfl, rfl, rfl, rfl, rfl⟩ rfl rfl rfl rfl rfl (by kernel_rfl) Try.func4 (by kernel_rfl)
    (of_decide_eq_true (by kernel_rfl)) (by unfold Func.isWrapper; first | (rw [if_pos (by decide +kernel)]; kernel_rfl) | (rw [if_neg (by decide +kernel)]; exact ⟨rfl, rfl⟩))
    (fun os started H enc _ => RandomRuns_lifted os started H enc)
#print axioms RandomRuns_holds

end Go.Proofs.Ytpljonmichpaeaa
