/- Next and Below are the reference's, for every argument: the statement RandomExact. -/
import Derived.Test.YtpljonmichpaeaaArg
import Derived.OpenShut
import Derived.Test.YtpljonmichpaeaaRandomWalks
import Derived.Deep.RegionHeld3
import Derived.Deep.LoopGhost
namespace Go.Proofs.Ytpljonmichpaeaa
open Go.ChangeShapes Go.WideShapes Go.ChangeAt Go.RowKit

abbrev AskTy : Ty := .pr (.int .u64) (.pr (.int .i64) .unit)
theorem ask_fits : (Ty.sl AskTy).fits Try.prog (.inl 22) = true := by kernel_rfl

/-- the argument's elements, as the walk reads them -/
def Elems (w : World) (A : Option Addr) (n : Nat) (f : Nat → Int × Int) : Prop :=
  0 < n → ∃ b o, A = some ⟨b, o, none⟩ ∧ b < w.heap.size ∧ ∀ i, i < n → w.cell? ⟨b, o + i * 2, none⟩ = some (.int .u64 (f i).1) ∧ w.cell? ⟨b, o + i * 2 + 1, none⟩ = some (.int .i64 (f i).2) ∧ 0 ≤ (f i).1 ∧ (f i).1 ≤ 18446744073709551615 ∧ -9223372036854775808 ≤ (f i).2 ∧ (f i).2 ≤ 9223372036854775807

set_option maxHeartbeats 400000 in
theorem exact_any (A : Option Addr) (n cap : Nat) (f : Nat → Int × Int) (w : World) (hn : n ≤ 9223372036854775807) (hE : Elems w A n f) :
    Calls Try.prog 3 #[.slice A n cap] w fun e w' => e = .returned (.bool true) ∧ From w w' := by
  go_enter Try.func3, Try.ntmps3
  go_wp2
  go_loopw [3] (fun i wr => ∃ k : Nat, k ≤ n ∧ i = .int .i64 k ∧ From w wr) (fun i _ => n - (intOf i).toNat)
  case atStart => exact ⟨0, by omega, rfl, From.rfl_⟩
  case round =>
    obtain ⟨k, hk, rfl, hw⟩ := hrel
    by_cases hlt : k < n
    · by_cases h40 : k < 40
      · obtain ⟨b, o, rfl, hb, hc⟩ := hE (by omega)
        obtain ⟨c1, c2, h1, h2, h3, h4⟩ := hc k hlt
        have i1 : (0:Int) ≤ (k:Int) := by omega
        have i2 : (k:Int) < (n:Int) := by omega
        have d1 : ∀ w', From w w' → w'.cell? ⟨b, o + k * 2, none⟩ = some (.int .u64 (f k).1) := fun w' h => (h.cells b (o + k * 2) hb).trans c1
        have d2 : ∀ w', From w w' → w'.cell? ⟨b, o + k * 2 + 1, none⟩ = some (.int .i64 (f k).2) := fun w' h => (h.cells b (o + k * 2 + 1) hb).trans c2
        clear hc c1 c2 hE
        go_wp2_with fail
        go_region_held3 (fun w' => From w w')
          (first | assumption | exact From.d1 (by assumption) | exact From.dn (by assumption) _ | exact From.next (by assumption) (by assumption))
          (first | (go_at_call 6; refine (below _ _ _ h4).mono ?_; rintro e w1 ⟨rfl, hb1⟩) | (go_at_call 7; refine (refbelow _ _ _ h4).mono ?_; rintro e w1 ⟨rfl, hb1⟩))
        go_wp2_with fail
        go_region_held3 (fun w' => From w w')
          (first | assumption | exact From.d1 (by assumption) | exact From.dn (by assumption) _ | exact From.next (by assumption) (by assumption))
          (first | (go_at_call 6; refine (below _ _ _ h4).mono ?_; rintro e w1 ⟨rfl, hb1⟩) | (go_at_call 7; refine (refbelow _ _ _ h4).mono ?_; rintro e w1 ⟨rfl, hb1⟩))
        go_wp2_with fail
        go_region_held3 (fun w' => From w w')
          (first | assumption | exact From.d1 (by assumption) | exact From.dn (by assumption) _ | exact From.next (by assumption) (by assumption))
          (first | (go_at_call 8; refine (next _ _).mono ?_; rintro e w1 ⟨rfl, hb1⟩) | (go_at_call 9; refine (refnext _ _).mono ?_; rintro e w1 ⟨rfl, rfl⟩))
        go_wp2
        go_roundw
        case rel => exact ⟨k + 1, by omega, by go_num, by assumption⟩
        case measure => simp [intOf]; omega
      · go_wp2_with (go_at_call 10; refine (wakes _).mono ?_; rintro e w1 ⟨rfl, hb1⟩)
        go_ret
        exact ⟨rfl, hw.next hb1⟩
    · go_wp2_with (go_at_call 10; refine (wakes _).mono ?_; rintro e w1 ⟨rfl, hb1⟩)
      go_ret
      exact ⟨rfl, hw.next hb1⟩

theorem elems_of {w : World} {A : Option Addr} (xs : List AskTy.den)
    (h3 : 0 < xs.length → ∃ b o, A = some ⟨b, o, none⟩ ∧ b < w.heap.size ∧ ∀ (i : Nat) (x : AskTy.den), xs[i]? = some x → AskTy.At w (fun j => w.cell? ⟨b, o + i * AskTy.size + j, none⟩) x) :
    ∃ f, Elems w A xs.length f := by
  by_cases hp : 0 < xs.length
  · obtain ⟨b, o, hA, hb, hi⟩ := h3 hp
    obtain ⟨f, hf⟩ := Go.Deep.choose_lt (α := Int × Int) (n := xs.length)
      (p := fun i y => w.cell? ⟨b, o + i * 2, none⟩ = some (.int .u64 y.1) ∧ w.cell? ⟨b, o + i * 2 + 1, none⟩ = some (.int .i64 y.2) ∧ 0 ≤ y.1 ∧ y.1 ≤ 18446744073709551615 ∧ -9223372036854775808 ≤ y.2 ∧ y.2 ≤ 9223372036854775807)
      (fun i hil => by
        have hx : xs[i]? = some (xs[i]) := List.getElem?_eq_getElem hil
        obtain ⟨⟨c1, w1⟩, ⟨c2, w2⟩, _⟩ := hi i _ hx
        have e1 := bounds_u64 w1
        have e2 := bounds_i64 w2
        exact ⟨(xs[i].1, xs[i].2.1), c1, c2, e1.1, e1.2, e2.1, e2.2⟩)
    exact ⟨f, fun _ => ⟨b, o, hA, hb, hf⟩⟩
  · exact ⟨fun _ => (0, 0), fun h => absurd h hp⟩

theorem exact_walk {H : Type} {enc : TypeId × Value → H} (W : World) (base : Nat) (v : Value) (d : DataW H) (p : List MemPlace) (hv : Value.okWide Try.prog W .any base 22 v)
    (h : DataW.Trod enc Try.prog W 0 (fun _ => true) true 22 v d p) (_hlt : ∀ x ∈ p, x.block < W.heap.size) :
    Calls Try.prog 3 #[v] W fun e W' => e = .returned (.bool true) ∧ From W W' := by
  obtain ⟨A, cap, xs, rfl, h1, h2, h3⟩ := arg_sl AskTy ask_fits hv h
  obtain ⟨f, hf⟩ := elems_of xs h3
  unfold maxLen at h2
  exact exact_any A xs.length cap f W (by omega) hf

set_option maxRecDepth 100000 in
theorem exact_lifted (os : Os) (started : os.Started) (H : Type) (enc : TypeId × Value → H) :
    ReturnsInHanded {} Try.checked os 3 .any (Rows.randomExactSpec.pre6 enc Try.prog Try.f3 Rows.randomExactRow.domain false) (Rows.randomExactSpec.post enc Try.prog Try.f3 false true false false) := by
  refine returnsInHanded_of_change (C := Try.checked) Try.own started (by kernel_rfl) Try.func3
    (ChangeSpec.witness6 (enc := enc) (C := Try.checked) false ⟨#[], #[.slice none 0 0], []⟩ 8 (by kernel_rfl) (by kernel_rfl) (by kernel_rfl) (by kernel_rfl)) ?_
  intro W base args ds gs before hval hW _ _
  exact law_step 3 Try.f3 22 4 Rows.randomExactSpec Try.params3 (by kernel_rfl) Try.underlying4 rfl (fun _ => rfl) (by kernel_rfl) (of_decide_eq_true (by kernel_rfl)) exact_walk W base args ds gs before hval hW

theorem randomExact_holds : Rows.RandomExactSaid :=
  OpenClaim.holds_of_wide 3 Try.f3 rfl rfl rfl rfl rfl rfl rfl ⟨rfl, rfl, rfl, rfl, rfl⟩ rfl rfl rfl rfl rfl (by kernel_rfl) Try.func3 (by kernel_rfl)
    (of_decide_eq_true (by kernel_rfl)) (by unfold Func.isWrapper; first | (rw [if_pos (by decide +kernel)]; kernel_rfl) | (rw [if_neg (by decide +kernel)]; exact ⟨rfl, rfl⟩))
    (fun os started H enc _ => exact_lifted os started H enc)
#print axioms randomExact_holds
end Go.Proofs.Ytpljonmichpaeaa
