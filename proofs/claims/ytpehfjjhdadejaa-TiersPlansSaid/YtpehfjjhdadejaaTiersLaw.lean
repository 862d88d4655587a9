/- Class and Plan are the reference's for any numbers: the statement TiersPlans, for every argument. -/
import Derived.Test.YtpehfjjhdadejaaTiersClasses
import Derived.OpenShut
import Derived.Test.YtpehfjjhdadejaaHelp
namespace Go.Proofs.Ytpehfjjhdadejaa
open Go.ChangeShapes Go.WideShapes Go.ChangeAt Go.RowKit

/-- what the walks ask of the argument: the lists of documents, the numbers -/
structure ListsAt (w : World) (A B : Option Addr) (n m c d : Nat) (ls : List (List DocTy.den)) (xs : List Int) : Prop where
  hn : n = ls.length
  hm : m = xs.length
  lenA : n ≤ 140737488351232
  lenB : m ≤ 17592186043904
  docs : 0 < n → ∃ b o, A = some ⟨b, o, none⟩ ∧ b < w.heap.size ∧ ∀ i (h : i < ls.length), ∃ v, w.cell? ⟨b, o + i, none⟩ = some v ∧ (Ty.sl DocTy).At w (fun _ => some v) ls[i]
  nums : Row w (.slice B m d) (xs.map valI)
  fit : Fit xs

theorem row_of_at {w : World} {k : IntKind} {c : Nat → Option Value} {v : Value} {xs : List Int} (h0 : c 0 = some v) (h : (Ty.sl (.int k)).At w c xs) : Row w v (xs.map fun x => .int k x) := by
  obtain ⟨A, cap, g0, _, _, g3⟩ := h
  rw [h0] at g0
  simp only [Option.some.injEq] at g0
  subst g0
  refine ⟨A, cap, by rw [List.length_map]; rfl, fun hp => ?_⟩
  obtain ⟨b, o, hA, hb, hi⟩ := g3 (by rw [List.length_map] at hp; exact hp)
  refine ⟨b, o, hA, hb, fun i u hu => ?_⟩
  rw [List.getElem?_map] at hu
  cases hx : xs[i]? with
  | none => rw [hx] at hu; cases hu
  | some x =>
    rw [hx] at hu
    simp only [Option.map_some, Option.some.injEq] at hu
    subst hu
    have := (hi i x hx).1
    simpa [Ty.size] using this

theorem fit_of_at {w : World} {c : Nat → Option Value} {xs : List Int} (h : (Ty.sl (.int .i64)).At w c xs) : Fit xs := by
  obtain ⟨A, cap, g0, _, _, g3⟩ := h
  intro x hx
  obtain ⟨i, hi, rfl⟩ := List.mem_iff_getElem.1 hx
  obtain ⟨b, o, hA, hb, hii⟩ := g3 (Nat.lt_of_le_of_lt (Nat.zero_le _) hi)
  exact bounds_i64 (hii i _ (List.getElem?_eq_getElem hi)).2

set_option maxRecDepth 100000 in
set_option maxHeartbeats 1000000 in
theorem heavy_any (A B : Option Addr) (n m c d : Nat) (ls : List (List DocTy.den)) (xs : List Int) (w : World) (h : ListsAt w A B n m c d ls xs) :
    Calls Try.prog 7 #[.agg #[.slice A n c, .slice B m d]] w fun e w' => ∃ r : Bool, e = .returned (.bool r) ∧ From w w' ∧ (r = false → m ≤ 5000 ∧ n ≤ 60) := by
  obtain ⟨hn, hm, hlA, hlB, hdocs, _, _⟩ := h
  have HN := Lib.hid hn
  have HM := Lib.hid hm
  clear hn hm
  go_enter Try.func7, Try.ntmps7
  go_wp2
  have d0 : ∀ w', From (w.alloc (.cells #[.slice A n c, .slice B m d] 25)) w' → w'.cell? ⟨w.heap.size, 0, none⟩ = some (.slice A n c) := fun w' h => (h.cells _ _ (by simp)).trans (by go_simp)
  obtain ⟨w0, hw0⟩ : ∃ w0, w0 = w.alloc (.cells #[.slice A n c, .slice B m d] 25) := ⟨_, rfl⟩
  rw [← hw0] at d0
  have HW0 := Lib.hid hw0
  have hww : From w w0 := by rw [hw0]; exact From.rfl_.new _
  clear hw0
  go_loopw [3, 4] (fun k i wr => ∃ j q : Nat, j ≤ n ∧ i = .int .i64 j ∧ k = .int .i64 q ∧ m ≤ q ∧ q ≤ 281476100000000 ∧ From w0 wr) (fun _ i _ => n - (intOf i).toNat)
  case atStart => exact ⟨0, m, by omega, rfl, rfl, by omega, by omega, by rw [HW0.out]; first | exact From.rfl_ | exact From.rfl_.dn _ | exact From.rfl_.d1⟩
  case round =>
    obtain ⟨j, q, hj, rfl, rfl, hmq, hq, hw⟩ := hrel
    by_cases hlt : j < n
    · by_cases hq1 : q < 10000
      · obtain ⟨b, o, rfl, hb, hi⟩ := hdocs (by omega)
        obtain ⟨v, hv, hat⟩ := hi j (by have := HN.out; omega)
        have d1 : ∀ w', From w0 w' → w'.cell? ⟨b, o + j, none⟩ = some v := fun w' h => ((hww.next h).cells b _ hb).trans hv
        obtain ⟨A1, c1, rfl, _, _⟩ := docs_at hat
        have i1 : (0 : Int) ≤ (j : Int) := by omega
        have i2 : (j : Int) < (n : Int) := by omega
        have hat2 := fun w' (h : From w0 w') => Ty.At.from_ (hww.next h) _ hat
        have HAT := Lib.hid hat2
        have hd : decide ((q : Int) < 10000) = true := by simp; omega
        clear hi hv hat hat2 hdocs
        go_wp2_with (go_at_call 21; (with_reducible refine (docweight_any _ _ _ (HAT.out _ (by assumption))).mono ?_); rintro e w1 ⟨r, rfl, hr1, hr2, hb1⟩; clear hr1; replace hb1 := From.next (a := w0) (by assumption) hb1)
        go_roundw
        case rel => exact ⟨j + 1, q + r, by omega, by go_num, by go_num, by omega, by omega, by assumption⟩
        case measure => simp [intOf]; omega
      · have hd : decide ((q : Int) < 10000) = false := by simp; omega
        have hd2 : decide ((5000 : Int) < (q : Int)) = true := by simp; omega
        go_wp2
        go_ret
        exact ⟨true, rfl, hww.next hw, fun h => by cases h⟩
    · by_cases hq5 : 5000 < q
      · have hd2 : decide ((5000 : Int) < (q : Int)) = true := by simp; omega
        go_wp2
        go_ret
        exact ⟨true, rfl, hww.next hw, fun h => by cases h⟩
      · have hd2 : decide ((5000 : Int) < (q : Int)) = false := by simp; omega
        by_cases hn60 : 60 < n
        · have hd3 : decide ((60 : Int) < (n : Int)) = true := by simp; omega
          go_wp2
          go_ret
          exact ⟨true, rfl, hww.next hw, fun h => by cases h⟩
        · have hd3 : decide ((60 : Int) < (n : Int)) = false := by simp; omega
          go_wp2
          go_ret
          exact ⟨false, rfl, hww.next hw, fun _ => ⟨by omega, by omega⟩⟩

set_option maxRecDepth 100000 in
set_option maxHeartbeats 1000000 in
theorem plans_any (A B : Option Addr) (n m c d : Nat) (ls : List (List DocTy.den)) (xs : List Int) (w : World) (h : ListsAt w A B n m c d ls xs) :
    Calls Try.prog 3 #[.agg #[.slice A n c, .slice B m d]] w fun e w' => e = .returned (.bool true) ∧ From w w' := by
  have hheavy := fun w' (hw : From w w') => heavy_any A B n m c d ls xs w' ⟨h.hn, h.hm, h.lenA, h.lenB, fun hp => by
    obtain ⟨b, o, hA, hb, hi⟩ := h.docs hp
    refine ⟨b, o, hA, Nat.lt_of_lt_of_le hb hw.size, fun i hil => ?_⟩
    obtain ⟨v, hv, hat⟩ := hi i hil
    exact ⟨v, (hw.cells b _ hb).trans hv, Ty.At.from_ hw _ hat⟩, h.nums.from_ hw, h.fit⟩
  have HH := Lib.hid hheavy
  obtain ⟨hn, hm, hlA, hlB, hdocs, hnums, hfit⟩ := h
  have hcopy := fun w' (hw : From w w') => copyNumbers_any _ xs w' (hnums.from_ hw)
  have hplan := fun w' v (hr : Row w' v (xs.map valI)) => plan_any v xs w' hr hfit
  have hrplan := fun w' (hw : From w w') => refplan_any _ xs w' (hnums.from_ hw) hfit
  have heq := fun w' v (hw : From w w') (hr : Row w' v (xs.map fun x => .int .i64 x)) => eqNumbers_any v _ xs xs w' hr (hnums.from_ hw)
  obtain ⟨B', cap', hB, hrow⟩ := row_vals hnums
  simp only [Value.slice.injEq] at hB
  obtain ⟨rfl, rfl, rfl⟩ := hB
  have HC := Lib.hid hcopy
  have HP := Lib.hid hplan
  have HR := Lib.hid hrplan
  have HE := Lib.hid heq
  have HM := Lib.hid hm
  have d0 : ∀ w', From (w.alloc (.cells #[.slice A n c, .slice B xs.length d] 25)) w' → w'.cell? ⟨w.heap.size, 1, none⟩ = some (.slice B xs.length d) := fun w' h => (h.cells _ _ (by simp)).trans (by go_simp)
  have d00 : ∀ w', From (w.alloc (.cells #[.slice A n c, .slice B xs.length d] 25)) w' → w'.cell? ⟨w.heap.size, 0, none⟩ = some (.slice A n c) := fun w' h => (h.cells _ _ (by simp)).trans (by go_simp)
  obtain ⟨w0, hw0⟩ : ∃ w0, w0 = w.alloc (.cells #[.slice A n c, .slice B xs.length d] 25) := ⟨_, rfl⟩
  rw [← hw0] at d0 d00
  have HW0 := Lib.hid hw0
  have hww : From w w0 := by rw [hw0]; exact From.rfl_.new _
  clear hheavy hcopy hplan hrplan heq hn hm hnums hw0 hdocs
  go_enter Try.func3, Try.ntmps3
  go_wp2_with fail
  refine (HH.out _ (From.rfl_.new _)).mono ?_
  rintro e w1 ⟨r, rfl, hb1, hr⟩
  rw [← HW0.out] at hb1
  rcases r with _ | _
  · have hl5 : xs.length ≤ 5000 := (hr rfl).1
    clear hr
    go_wp2_with fail
    go_loopw [3] (fun i wr => ∃ k : Nat, k ≤ xs.length ∧ i = .int .i64 k ∧ From w0 wr) (fun i _ => xs.length - (intOf i).toNat)
    case atStart => exact ⟨0, by omega, rfl, hb1⟩
    case round =>
      obtain ⟨k, hk, rfl, hw⟩ := hrel
      by_cases hlt : k < xs.length ∧ k < 30
      · obtain ⟨hlt, h30⟩ := hlt
        obtain ⟨b, o, rfl, hb, hc⟩ := hrow (by omega)
        have d1 : ∀ w', From w0 w' → w'.cell? ⟨b, o + k, none⟩ = some (.int .i64 xs[k]) := fun w' h => ((hww.next h).cells b _ hb).trans (hc k hlt)
        have f1 := (hfit _ (List.getElem_mem hlt)).2
        have i1 : (0 : Int) ≤ (k : Int) := by omega
        have i2 : (k : Int) < (xs.length : Int) := by omega
        clear hc hrow hfit
        generalize xs[k] = x1 at *
        go_wp2_with fail
        go_region_held3 (fun w' => From w0 w')
          (first | assumption | exact From.d1 (by assumption) | exact From.dn (by assumption) _ | exact From.next (by assumption) (by assumption))
          (first | (go_at_call 8; refine (class_any _ _ (by omega)).mono ?_; rintro e w1 ⟨rfl, rfl⟩) | (go_at_call 9; refine (refclass_any _ _ (by omega)).mono ?_; rintro e w1 ⟨rfl, rfl⟩))
        go_wp2
        go_roundw
        case rel => exact ⟨k + 1, by omega, by go_num, by assumption⟩
        case measure => simp [intOf]; omega
      · rcases (show ¬ k < xs.length ∨ (k < xs.length ∧ ¬ k < 30) by omega) with h1 | ⟨h1, h2⟩
        all_goals
          clear hlt
          go_wp2_with (first
            | (go_at_call 10; (with_reducible refine (HC.out _ (hww.next (by assumption)) (by omega)).mono ?_); rintro e w2 ⟨v2, rfl, hown, hb2⟩; have hrow2 := Row.of_own hown; obtain ⟨A2, c2, rfl⟩ := own_len hown; clear hown; replace hb2 := From.next (a := w0) (by assumption) hb2)
            | (go_at_call 11; (with_reducible refine (HP.out _ _ hrow2 (by omega)).mono ?_); rintro e w3 ⟨rfl, hb3⟩; replace hrow2 := hrow2.from_ hb3; replace hb3 := From.next (a := w0) (by assumption) hb3)
            | (go_at_call 12; (with_reducible refine (HR.out _ (hww.next (by assumption)) (by omega)).mono ?_); rintro e w4 ⟨rfl, hb4⟩; replace hrow2 := hrow2.from_ hb4; replace hb4 := From.next (a := w0) (by assumption) hb4)
            | (go_at_call 13; (with_reducible refine (HE.out _ _ (hww.next (by assumption)) hrow2 (by omega)).mono ?_); rintro e w5 ⟨rfl, hb5⟩; replace hb5 := From.next (a := w0) (by assumption) hb5)
            | (go_at_call 14; (with_reducible refine (wakes _).mono ?_); rintro e w6 ⟨rfl, hb6⟩; replace hb6 := From.next (a := w0) (by assumption) hb6))
          go_ret
          exact ⟨rfl, hww.next (by assumption)⟩
  · go_wp2
    go_ret
    exact ⟨rfl, hww.next hb1⟩

theorem lists_of {W : World} {A B : Option Addr} {n m c d : Nat} {ls : List (List DocTy.den)} {xs : List Int} {cs : Nat → Option Value} {cs' : Nat → Option Value}
    (h0 : cs 0 = some (.slice A n c)) (h1 : (Ty.sl (.sl DocTy)).At W cs ls) (g0 : cs' 0 = some (.slice B m d)) (g1 : (Ty.sl (.int .i64)).At W cs' xs) : ListsAt W A B n m c d ls xs := by
  have hrow := row_of_at g0 g1
  have hfit := fit_of_at g1
  obtain ⟨A1, c1, e0, e1, e2, e3⟩ := h1
  obtain ⟨B1, c2, f0, f1, f2, _⟩ := g1
  rw [h0] at e0
  rw [g0] at f0
  simp only [Option.some.injEq, Value.slice.injEq] at e0 f0
  obtain ⟨rfl, rfl, rfl⟩ := e0
  obtain ⟨rfl, rfl, rfl⟩ := f0
  simp only [Ty.bytes] at e1 f1
  refine ⟨rfl, rfl, by omega, by omega, fun hp => ?_, hrow, hfit⟩
  obtain ⟨b, o, hA, hb, hi⟩ := e3 hp
  refine ⟨b, o, hA, hb, fun i hil => ?_⟩
  have hx := hi i _ (List.getElem?_eq_getElem hil)
  obtain ⟨A2, cap2, k0, k1, k2, k3⟩ := hx
  exact ⟨_, by simpa [Ty.size] using k0, ⟨A2, cap2, rfl, k1, k2, k3⟩⟩

theorem plans_walk {H : Type} {enc : TypeId × Value → H} (W : World) (base : Nat) (v : Value) (d : DataW H) (p : List MemPlace) (hv : Value.okWide Try.prog W .any base 25 v)
    (h : DataW.Trod enc Try.prog W 0 (fun _ => true) true 25 v d p) (hsz : ∀ n ∈ d.weights Try.prog 25, n ≤ 140737488351232) :
    Calls Try.prog 3 #[v] W fun e W' => e = .returned (.bool true) ∧ From W W' := by
  obtain ⟨cs, x, rfl, hcs, h1, g1, _⟩ := arg_st _ _ lists_fits hv h hsz
  obtain ⟨a, b, rfl⟩ := size_two hcs
  have ha : ∃ A c, a = .slice A (List.length x.1) c := by
    obtain ⟨A, c, e0, _⟩ := h1
    exact ⟨A, c, by simpa using e0⟩
  have hb : ∃ B c, b = .slice B (List.length x.2.1) c := by
    obtain ⟨B, c, e0, _⟩ := g1
    exact ⟨B, c, by have e : some b = _ := e0; simpa using e⟩
  obtain ⟨A, c, rfl⟩ := ha
  obtain ⟨B, c2, rfl⟩ := hb
  exact plans_any A B _ _ c c2 x.1 x.2.1 W (lists_of rfl h1 rfl g1)

set_option maxRecDepth 100000 in
theorem TiersPlans_lifted (os : Os) (started : os.Started) (H : Type) (enc : TypeId × Value → H) :
    ReturnsInHanded {} Try.checked os 3 .any (Rows.tiersPlansSpec.pre6 enc Try.prog Try.f3 Rows.tiersPlansRow.domain false) (Rows.tiersPlansSpec.post enc Try.prog Try.f3 false true false false) := by
  refine returnsInHanded_of_change_sized (C := Try.checked) Try.own started (by kernel_rfl) Try.func3
    (ChangeSpec.witness6 (enc := enc) (C := Try.checked) false ⟨#[], #[.agg #[.slice none 0 0, .slice none 0 0]], []⟩ 8 (by kernel_rfl) (by kernel_rfl) (by kernel_rfl) (by kernel_rfl)) ?_
  intro W base args ds gs before hval hW _ hsz _
  exact law_step 3 Try.f3 25 4 Rows.tiersPlansSpec Try.params3 (by kernel_rfl) Try.underlying4 rfl (fun _ => rfl) (by kernel_rfl) (of_decide_eq_true (by kernel_rfl)) plans_walk W base args ds gs before hval hW hsz

theorem TiersPlans_holds : Rows.TiersPlansSaid :=
  OpenClaim.holds_of_wide 3 Try.f3 rfl rfl rfl rfl rfl rfl rfl ⟨rfl, rfl, rfl, rfl, rfl⟩ rfl rfl rfl rfl rfl (by kernel_rfl) Try.func3 (by kernel_rfl)
    (of_decide_eq_true (by kernel_rfl)) (by unfold Func.isWrapper; first | (rw [if_pos (by decide +kernel)]; kernel_rfl) | (rw [if_neg (by decide +kernel)]; exact ⟨rfl, rfl⟩))
    (fun os started H enc _ => TiersPlans_lifted os started H enc)
#print axioms TiersPlans_holds

end Go.Proofs.Ytpehfjjhdadejaa
