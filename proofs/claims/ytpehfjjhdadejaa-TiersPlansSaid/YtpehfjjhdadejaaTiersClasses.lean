/- The classes of the powers of 2, of the numbers just below and of negative numbers; a single run of four sizes of one class is planned at its beginning, three sizes and none are not: the statement TiersClasses, for every argument. -/
import Derived.Test.YtpehfjjhdadejaaArg
import Derived.Test.YtpehfjjhdadejaaTiersPlan
import Derived.Test.YtpehfjjhdadejaaHelpDocs
namespace Go.Proofs.Ytpehfjjhdadejaa
open Go.ChangeShapes Go.WideShapes Go.ChangeAt Go.RowKit

theorem cls_pow : ∀ k, k < 40 → cls ((2 ^ k : Nat) : Int) = k + 1 ∧ cls (((2 ^ (k + 1) : Nat) : Int) - 1) = k + 1 := by decide +kernel

theorem wakes (w : World) :
    Calls Try.prog 14 #[] w fun e w' => e = .returned (.bool true) ∧ From w w' := by
  have hp : plan ([9, 1, 1, 1, 1].map cls) = (1, true) := by decide +kernel
  have H := Lib.hid hp
  have hfit : Fit [9, 1, 1, 1, 1] := by unfold Fit; decide
  clear hp
  go_enter Try.func14, Try.ntmps14
  go_wp2_with (first
    | (go_at_call 11; refine (plan_any _ [9, 1, 1, 1, 1] _ (Row.blk (cs := #[.int .i64 9, .int .i64 1, .int .i64 1, .int .i64 1, .int .i64 1]) (Blk.new _ _ _) 5) hfit (by simp)).mono ?_; rw [H.out]; rintro e w1 ⟨rfl, hb1⟩))
  go_ret
  exact ⟨rfl, (From.rfl_.new _).next hb1⟩

/-- the sizes with a run of four at 'a', the first i of them -/
def sz (a i : Nat) : Int := if a ≤ i ∧ i < a + 4 then 1000 + i else 2 ^ (i % 3 * 5)
def szs (a i : Nat) : List Int := (List.range i).map (sz a)
theorem szs_succ (a i : Nat) : szs a (i + 1) = szs a i ++ [sz a i] := by simp [szs, List.range_succ]
theorem szs_len (a i : Nat) : (szs a i).length = i := by simp [szs]
theorem szs_plan : ∀ a, a < 12 → plan ((szs a 16).map cls) = (a, true) := by decide +kernel
theorem szs_fit (a i : Nat) (hi : i ≤ 16) : Fit (szs a i) := by
  intro x hx
  simp only [szs, List.mem_map, List.mem_range] at hx
  obtain ⟨j, hj, rfl⟩ := hx
  unfold sz
  split
  · omega
  · have : j % 3 = 0 ∨ j % 3 = 1 ∨ j % 3 = 2 := by omega
    rcases this with h | h | h <;> rw [h] <;> decide

theorem int_info : (Try.prog.info? 3).map (fun i => (i.zero, i.size, i.bytes)) = some (some (.int .i64 0), 1, 8) := by kernel_rfl

theorem own_len {w : World} {base : Nat} {e : TypeId} {v : Value} {n : Nat} {xs : List Value} (h : w.ownsRow base e 1 v n xs) : ∃ A cap, v = .slice A n cap := by
  rcases h.2 with ⟨rfl, rfl⟩ | ⟨g, cap, cur, rfl, _⟩
  · exact ⟨none, 0, rfl⟩
  · exact ⟨_, cap, rfl⟩

set_option maxRecDepth 100000 in
set_option maxHeartbeats 2000000 in
theorem classes_any (A B : Option Addr) (n m c d : Nat) (w : World) (hn : n ≤ 9223372036854775807) :
    Calls Try.prog 6 #[.agg #[.slice A n c, .slice B m d]] w fun e w' => e = .returned (.bool true) ∧ From w w' := by
  obtain ⟨i0, hi0, hz0, hz1, hz2⟩ := info_parts int_info
  go_enter Try.func6, Try.ntmps6
  go_wp2
  go_loopw [3] (fun i wr => ∃ k : Nat, k ≤ 40 ∧ i = .int .i64 k ∧ From (w.alloc (.cells #[.slice A n c, .slice B m d] 25)) wr) (fun i _ => 40 - (intOf i).toNat)
  case atStart => exact ⟨0, by omega, rfl, From.rfl_⟩
  case round =>
    obtain ⟨k, hk, rfl, hw⟩ := hrel
    by_cases hlt : k < 40
    · obtain ⟨c1, c2⟩ := cls_pow k hlt
      obtain ⟨P, hP⟩ : ∃ P : Nat, P = 2 ^ k := ⟨_, rfl⟩
      have hp : ((2 : Int) ^ k) = (P : Int) := by rw [hP]; simp
      have hP1 : P ≤ 1099511627776 := by rw [hP]; exact Nat.pow_le_pow_right (by omega) (show k ≤ 40 by omega)
      have hP0 : 1 ≤ P := by rw [hP]; exact Nat.one_le_two_pow
      have hp2 : ((2 : Int) ^ (k + 1)) = ((2 * P : Nat) : Int) := by rw [hP]; simp [Int.pow_succ]; omega
      have hP2 : 2 ^ (k + 1) = 2 * P := by rw [hP, Nat.pow_succ]; omega
      rw [← hP] at c1
      rw [hP2] at c2
      have e1 : ∀ W, Calls Try.prog 8 #[.int .i64 (P : Int)] W fun e w' => e = .returned (.int .i64 ((k : Int) + 1)) ∧ W = w' := fun W => by
        have := class_any (P : Int) W (by omega)
        rw [c1] at this
        exact this
      have e2 : ∀ W, Calls Try.prog 8 #[.int .i64 (2 * (P : Int) - 1)] W fun e w' => e = .returned (.int .i64 ((k : Int) + 1)) ∧ W = w' := fun W => by
        have := class_any (((2 * P : Nat) : Int) - 1) W (by omega)
        rw [c2, show (((2 * P : Nat) : Int) - 1) = 2 * (P : Int) - 1 by omega] at this
        exact this
      have e3 : ∀ W, Calls Try.prog 8 #[.int .i64 (-(P : Int))] W fun e w' => e = .returned (.int .i64 0) ∧ W = w' := fun W => by
        have := class_any (-(P : Int)) W (by omega)
        have hz : cls (-(P : Int)) = 0 := by unfold cls; rw [if_pos (by omega)]
        rw [hz] at this
        exact this
      have E1 := Lib.hid e1
      have E2 := Lib.hid e2
      have E3 := Lib.hid e3
      clear e1 e2 e3 c1 c2 hP hP2
      go_wp2_with (first
        | (go_at_call 8; (with_reducible refine (E1.out _).mono ?_); rintro e w1 ⟨rfl, rfl⟩)
        | (go_at_call 8; (with_reducible refine (E2.out _).mono ?_); rintro e w1 ⟨rfl, rfl⟩)
        | (go_at_call 8; (with_reducible refine (E3.out _).mono ?_); rintro e w1 ⟨rfl, rfl⟩))
      go_roundw
      case rel => exact ⟨k + 1, by omega, by go_num, hw⟩
      case measure => simp [intOf]; omega
    · have hd40 : decide ((k : Int) < 40) = false := by simp; omega
      have d0 : ∀ w', From (w.alloc (.cells #[.slice A n c, .slice B m d] 25)) w' → w'.cell? ⟨w.heap.size, 0, none⟩ = some (.slice A n c) := fun w' h => (h.cells _ _ (by simp)).trans (by go_simp)
      obtain ⟨w0, hw0⟩ : ∃ w0, w0 = w.alloc (.cells #[.slice A n c, .slice B m d] 25) := ⟨_, rfl⟩
      rw [← hw0] at hw d0
      have hww : From w w0 := by rw [hw0]; exact From.rfl_.new _
      have HW := Lib.hid hww
      clear hww hw0 hlt
      go_wp2_with fail
      go_loopw [4] (fun i wx => ∃ a : Nat, a ≤ 12 ∧ i = .int .i64 a ∧ From w0 wx) (fun i _ => 12 - (intOf i).toNat)
      case atStart => exact ⟨0, by omega, rfl, hw⟩
      case round =>
        obtain ⟨a, ha, rfl, hw2⟩ := hrel
        obtain ⟨wa, rfl⟩ : ∃ wa : World, wa = wr := ⟨_, rfl⟩
        by_cases ha12 : a < 12
        · have hda : decide ((a : Int) < 12) = true := by simp; omega
          go_wp2_with fail
          go_loopw [5, 6] (fun v i wx => ∃ j : Nat, j ≤ 16 ∧ i = .int .i64 j ∧ wx.ownsRow wa.heap.size 3 1 v (szs a j).length ((szs a j).map valI) ∧ From wa wx) (fun _ i _ => 16 - (intOf i).toNat)
          case atStart => exact ⟨0, by omega, rfl, World.ownsRow_nil _ _ _ _, From.rfl_⟩
          case round =>
            obtain ⟨j, hj, rfl, hown, hw3⟩ := hrel
            by_cases hj16 : j < 16
            · have hsucc := szs_succ a j
              have HS := Lib.hid hsucc
              have hlen := szs_len a j
              have hr1 : ((szs a j).length + 1) * 8 ≤ 140737488355328 := by omega
              have hr2 : (szs a j).length + 1 ≤ maxLen := by unfold maxLen; omega
              clear hsucc hlen
              by_cases hin : a ≤ j ∧ j < a + 4
              · have hv : sz a j = 1000 + (j : Int) := by unfold sz; rw [if_pos hin]
                have HV := Lib.hid hv
                have t1 : decide (a ≤ j) = true := by simp; omega
                have t2 : decide ((j : Int) < (a : Int) + 4) = true := by simp; omega
                clear hv hin
                go_wp2_with (at_builtin; refine wpList_push wa rfl (.tmp 56) (.tmp 59) 23 rfl 3 i0 _ 8 Try.underlying23 hi0 hz0 hz1 hz2 rfl _ _ _ rfl hown hw3 rfl rfl hr1 hr2 ?_; intro v1 w1 hown1 hw1)
                go_roundw
                case rel => exact ⟨j + 1, by omega, by go_num, by rw [HS.out, HV.out]; simpa [valI] using hown1, hw1⟩
                case measure => simp [intOf]; omega
              · have hr : (j : Int) % 3 = 0 ∨ (j : Int) % 3 = 1 ∨ (j : Int) % 3 = 2 := by omega
                have hv : ∀ r : Nat, (j : Int) % 3 = (r : Int) → sz a j = 2 ^ (r * 5) := fun r h => by unfold sz; rw [if_neg hin, show j % 3 = r by omega]
                have HV := Lib.hid hv
                clear hv
                by_cases ha1 : a ≤ j
                · have t1 : decide (a ≤ j) = true := by simp; omega
                  have t2 : decide ((j : Int) < (a : Int) + 4) = false := by simp; omega
                  clear hin
                  rcases hr with hr | hr | hr
                  all_goals
                    go_wp2_with (at_builtin; refine wpList_push wa rfl (.tmp 61) (.tmp 66) 23 rfl 3 i0 _ 8 Try.underlying23 hi0 hz0 hz1 hz2 rfl _ _ _ rfl hown hw3 rfl rfl hr1 hr2 ?_; intro v1 w1 hown1 hw1)
                    go_roundw
                    case rel => exact ⟨j + 1, by omega, by go_num, by rw [HS.out, HV.out _ hr]; simpa [valI] using hown1, hw1⟩
                    case measure => simp [intOf]; omega
                · have t1 : decide (a ≤ j) = false := by simp; omega
                  clear hin
                  rcases hr with hr | hr | hr
                  all_goals
                    go_wp2_with (at_builtin; refine wpList_push wa rfl (.tmp 61) (.tmp 66) 23 rfl 3 i0 _ 8 Try.underlying23 hi0 hz0 hz1 hz2 rfl _ _ _ rfl hown hw3 rfl rfl hr1 hr2 ?_; intro v1 w1 hown1 hw1)
                    go_roundw
                    case rel => exact ⟨j + 1, by omega, by go_num, by rw [HS.out, HV.out _ hr]; simpa [valI] using hown1, hw1⟩
                    case measure => simp [intOf]; omega
            · obtain rfl : j = 16 := by omega
              have hrow := Row.of_own hown
              have hpl := szs_plan a ha12
              have HP := Lib.hid hpl
              have hfit := szs_fit a 16 (by omega)
              have hl := szs_len a 16
              have HL := Lib.hid hl
              clear hpl hl
              obtain ⟨A1, c1, rfl⟩ := own_len hown
              clear hown
              go_wp2_with (go_at_call 11; (with_reducible refine (plan_any _ (szs a 16) _ hrow hfit (by have := HL.out; omega)).mono ?_); rw [HP.out]; rintro e w1 ⟨rfl, hb1⟩)
              go_roundw
              case rel => exact ⟨a + 1, by omega, by go_num, hw2.next (hw3.next hb1)⟩
              case measure => simp [intOf]; omega
        · have hd12 : decide ((a : Int) < 12) = false := by simp; omega
          have p1 : plan ([5, 5, 5].map cls) = (0, false) := by decide +kernel
          have p2 : plan (([] : List Int).map cls) = (0, false) := by decide +kernel
          have c0 : cls 0 = 0 := by decide +kernel
          have P1 := Lib.hid p1
          have P2 := Lib.hid p2
          have C0 := Lib.hid c0
          have fit1 : Fit [5, 5, 5] := by unfold Fit; decide
          have fit2 : Fit [] := by unfold Fit; decide
          clear p1 p2 c0
          go_wp2_with (first
            | (go_at_call 11; (with_reducible refine (plan_any _ [] _ (Row.nil_ _) fit2 (by simp)).mono ?_); rw [P2.out]; rintro e w1 ⟨rfl, hb1⟩; replace hb1 := From.next (a := w0) (by first | assumption | exact From.new (by assumption) _) hb1)
            | (go_at_call 11; refine (plan_any _ [5, 5, 5] _ (Row.blk (cs := #[.int .i64 5, .int .i64 5, .int .i64 5]) (Blk.new _ _ _) 3) fit1 (by simp)).mono ?_; rw [P1.out]; rintro e w1 ⟨rfl, hb1⟩; replace hb1 := From.next (a := w0) (by first | assumption | exact From.new (by assumption) _) hb1)
            | (go_at_call 8; (with_reducible refine (class_any 0 _ (by omega)).mono ?_); rw [C0.out]; rintro e w1 ⟨rfl, rfl⟩)
            | (go_at_call 14; (with_reducible refine (wakes _).mono ?_); rintro e w1 ⟨rfl, hb1⟩; replace hb1 := From.next (a := w0) (by assumption) hb1))
          go_ret
          exact ⟨rfl, HW.out.next hb1⟩

abbrev ListsTail : Ty := .pr (.sl (.int .i64)) .unit
theorem lists_fits : (Ty.pr (.sl (.sl DocTy)) ListsTail).fits Try.prog (.inl 25) = true := by kernel_rfl
theorem size_two {cs : Array Value} (h : cs.size = 2) : ∃ a b, cs = #[a, b] := by
  obtain ⟨l⟩ := cs
  match l, h with
  | [a, b], _ => exact ⟨a, b, rfl⟩
theorem classes_walk {H : Type} {enc : TypeId × Value → H} (W : World) (base : Nat) (v : Value) (d : DataW H) (p : List MemPlace) (hv : Value.okWide Try.prog W .any base 25 v)
    (h : DataW.Trod enc Try.prog W 0 (fun _ => true) true 25 v d p) (_hlt : ∀ n ∈ d.weights Try.prog 25, n ≤ 140737488351232) :
    Calls Try.prog 6 #[v] W fun e W' => e = .returned (.bool true) ∧ From W W' := by
  obtain ⟨cs, x, rfl, hsz, ⟨⟨A, cap, h0, h1, h2, _⟩, ⟨B, cap2, g0, g1, g2, _⟩, _⟩⟩ := arg_st _ _ lists_fits hv h _hlt
  obtain ⟨a, b, rfl⟩ := size_two hsz
  simp only [List.getElem?_toArray, List.getElem?_cons_zero, Option.some.injEq] at h0
  have g0' : some b = some (Value.slice B (List.length x.2.1) cap2) := g0
  simp only [Option.some.injEq] at g0'
  subst h0 g0'
  exact classes_any A B _ _ _ _ W (by omega)

set_option maxRecDepth 100000 in
theorem TiersClasses_lifted (os : Os) (started : os.Started) (H : Type) (enc : TypeId × Value → H) :
    ReturnsInHanded {} Try.checked os 6 .any (Rows.tiersClassesSpec.pre6 enc Try.prog Try.f6 Rows.tiersClassesRow.domain false) (Rows.tiersClassesSpec.post enc Try.prog Try.f6 false true false false) := by
  refine returnsInHanded_of_change_sized (C := Try.checked) Try.own started (by kernel_rfl) Try.func6
    (ChangeSpec.witness6 (enc := enc) (C := Try.checked) false ⟨#[], #[.agg #[.slice none 0 0, .slice none 0 0]], []⟩ 8 (by kernel_rfl) (by kernel_rfl) (by kernel_rfl) (by kernel_rfl)) ?_
  intro W base args ds gs before hval hW _ hsz _
  exact law_step 6 Try.f6 25 4 Rows.tiersClassesSpec Try.params6 (by kernel_rfl) Try.underlying4 rfl (fun _ => rfl) (by kernel_rfl) (of_decide_eq_true (by kernel_rfl)) classes_walk W base args ds gs before hval hW hsz

theorem TiersClasses_holds : Rows.TiersClassesSaid :=
  OpenClaim.holds_of_wide 6 Try.f6 rfl rfl rfl rfl rfl rfl rfl ⟨rfl, rfl, rfl, rfl, rfl⟩ rfl rfl rfl rfl rfl (by kernel_rfl) Try.func6 (by kernel_rfl)
    (of_decide_eq_true (by kernel_rfl)) (by unfold Func.isWrapper; first | (rw [if_pos (by decide +kernel)]; kernel_rfl) | (rw [if_neg (by decide +kernel)]; exact ⟨rfl, rfl⟩))
    (fun os started H enc _ => TiersClasses_lifted os started H enc)
#print axioms TiersClasses_holds

end Go.Proofs.Ytpehfjjhdadejaa
