/- The checksums of all single bytes are different; leading zero bytes and the order of two bytes matter: the statement SumOnes, for every argument. -/
import Derived.Test.YtkhiookiibjklaaDoorSumLaws
namespace Go.Proofs.YtkhiookiibjklaaDoor
open Go.ChangeShapes Go.WideShapes Go.ChangeAt Go.RowKit CM
set_option maxRecDepth 100000 in
set_option maxHeartbeats 400000 in
/-- In: where the number stands, or -1 -/
theorem in_any (v : Value) (xs : List Int) (n : Int) (w : World) (hr : Row w v (xs.map fun (x : Int) => .int .i64 x)) (hlen : xs.length ≤ 1000000000000000) :
    Calls Tryd.prog 12 #[v, .int .i64 n] w fun e w' => ∃ r : Int, e = .returned (.int .i64 r) ∧ (r < 0 → n ∉ xs) ∧ (0 ≤ r → n ∈ xs) ∧ w = w' := by
  obtain ⟨A, cap, rfl, hrow⟩ := row_vals hr
  go_enter Tryd.func12, Tryd.ntmps12
  go_wp2
  go_loop [5] (fun i => ∃ j : Nat, j ≤ xs.length ∧ i = .int .i64 j ∧ n ∉ xs.take j) (fun i => xs.length - (intOf i).toNat)
  case atStart => exact ⟨0, by omega, rfl, by simp⟩
  case round =>
    obtain ⟨j, hj, rfl, hno⟩ := hrel
    by_cases hlt : j < xs.length
    · obtain ⟨b, o, rfl, hb, hc⟩ := hrow (by omega)
      have d1 := hc j hlt
      have i1 : (0 : Int) ≤ (j : Int) := by omega
      have i2 : (j : Int) < (xs.length : Int) := by omega
      have hmem : xs[j] ∈ xs := List.getElem_mem hlt
      have hsn : xs.take (j + 1) = xs.take j ++ [xs[j]] := List.take_succ_eq_append_getElem hlt
      have HS := Lib.hid hsn
      have HM := Lib.hid hmem
      have HN := Lib.hid hno
      clear hc hrow hr hsn hmem hno
      generalize xs[j] = x at *
      by_cases he : x = n
      · have ht : (x == n) = true := by simpa using he
        have HE := Lib.hid he
        clear he
        go_wp2
        go_ret
        exact ⟨(j : Int), rfl, fun h => by omega, fun _ => by rw [← HE.out]; exact HM.out, rfl⟩
      · have ht : (x == n) = false := by simpa using he
        have HE := Lib.hid he
        clear he
        go_wp2
        go_round
        case rel => exact ⟨j + 1, by omega, by go_num, by rw [HS.out, List.mem_append, List.mem_singleton]; exact fun h => h.elim HN.out (fun e => HE.out e.symm)⟩
        case measure => simp [intOf]; omega
    · have hno' : n ∉ xs := by rwa [List.take_of_length_le (by omega)] at hno
      have HN := Lib.hid hno'
      clear hno hno'
      go_wp2
      go_ret
      exact ⟨-1, rfl, fun _ => HN.out, fun h => by omega, rfl⟩


def one (b : Nat) : Int := ((sumF 0#32 [b]).toNat : Int)
theorem one_inj {a b : Nat} (ha : a < 256) (hb : b < 256) (h : one a = one b) : a = b := by
  unfold one sumF at h
  have h1 : (~~~(reg (~~~0#32) [a])).toNat = (~~~(reg (~~~0#32) [b])).toNat := by omega
  have h2 := BitVec.eq_of_toNat_eq h1
  have h3 : reg (~~~0#32) [a] = reg (~~~0#32) [b] := by
    have := congrArg (fun x => ~~~x) h2
    simpa using this
  rcases Nat.lt_or_ge a b with hlt | hge
  · exact absurd h3 (reg_turn (l := []) (m := []) ha hb (by omega))
  · rcases Nat.lt_or_ge b a with hlt | hge2
    · exact absurd h3 (reg_turn (l := []) (m := []) ha hb (by omega))
    · omega
def ones (b : Nat) : List Int := (List.range b).map one
theorem ones_succ (b : Nat) : ones (b + 1) = ones b ++ [one b] := by simp [ones, List.range_succ]
theorem ones_new {b : Nat} (h : b < 256) : one b ∉ ones b := by
  intro hm
  simp only [ones, List.mem_map, List.mem_range] at hm
  obtain ⟨a, ha, e⟩ := hm
  have := one_inj (by omega) h e
  omega
theorem ones_len (b : Nat) : (ones b).length = b := by simp [ones]
theorem int_info : (Tryd.prog.info? 3).map (fun i => (i.zero, i.size, i.bytes)) = some (some (.int .i64 0), 1, 8) := by kernel_rfl

def S (l : List Nat) : Int := ((sumF 0#32 l).toNat : Int)
theorem S_range (l : List Nat) : 0 ≤ S l ∧ S l ≤ 4294967295 := by
  unfold S
  have := (sumF 0#32 l).isLt
  omega
theorem sum_nil (w : World) (hT : Table w) : Calls Tryd.prog 7 #[.int .u32 0, .slice none 0 0] w fun e w' => e = .returned (.int .u32 (S [])) ∧ From w w' :=
  sum_any 0#32 _ [] w (Row.nil_ _) (fun _ h => by cases h) (by decide) hT
theorem sum_one (b : Nat) (x : Int) (w : World) (t : TypeId) (hx : x = (b : Int)) (hb : b < 256) (hT : Table w) :
    Calls Tryd.prog 7 #[.int .u32 0, .slice (some ⟨w.heap.size, 0, none⟩) 1 1] (w.alloc (.cells #[.int .u8 x] t)) fun e w' => e = .returned (.int .u32 (S [b])) ∧ From w w' := by
  subst hx
  refine (sum_any 0#32 _ [b] _ (Row.blk (cs := #[.int .u8 (b : Int)]) (Blk.new _ _ _) 1) (fun y h => by simp only [List.mem_singleton] at h; omega) (by simp) (hT.from_ (From.rfl_.new _))).mono ?_
  rintro e w' ⟨rfl, hb⟩
  exact ⟨rfl, (From.rfl_.new _).next hb⟩
theorem sum_two (a b : Nat) (x y : Int) (w : World) (t : TypeId) (hx : x = (a : Int)) (hy : y = (b : Int)) (ha : a < 256) (hb : b < 256) (hT : Table w) :
    Calls Tryd.prog 7 #[.int .u32 0, .slice (some ⟨w.heap.size, 0, none⟩) 2 2] (w.alloc (.cells #[.int .u8 x, .int .u8 y] t)) fun e w' => e = .returned (.int .u32 (S [a, b])) ∧ From w w' := by
  subst hx hy
  refine (sum_any 0#32 _ [a, b] _ (Row.blk (cs := #[.int .u8 (a : Int), .int .u8 (b : Int)]) (Blk.new _ _ _) 2) (fun y h => by simp only [List.mem_cons, List.not_mem_nil, or_false] at h; omega) (by simp) (hT.from_ (From.rfl_.new _))).mono ?_
  rintro e w' ⟨rfl, hb⟩
  exact ⟨rfl, (From.rfl_.new _).next hb⟩
theorem one_S (b : Nat) : one b = S [b] := rfl

set_option maxRecDepth 100000 in
set_option maxHeartbeats 1000000 in
theorem ones_any (A : Option Addr) (n cap : Nat) (w : World) (hn : n ≤ 9223372036854775807) (hT : Table w) :
    Calls Tryd.prog 5 #[.slice A n cap] w fun e w' => e = .returned (.bool true) ∧ From w w' := by
  obtain ⟨i0, hi0, hz0, hz1, hz2⟩ := info_parts int_info
  have HT := Lib.hid (fun w' (h : From w w') => hT.from_ h)
  clear hT
  go_enter Tryd.func5, Tryd.ntmps5
  go_wp2
  go_loopw [3, 4] (fun v i wr => ∃ b : Nat, b ≤ 256 ∧ i = .int .i64 b ∧ wr.ownsRow w.heap.size 3 1 v b ((ones b).map fun (x : Int) => .int .i64 x) ∧ From w wr) (fun _ i _ => 256 - (intOf i).toNat)
  case atStart => exact ⟨0, by omega, rfl, World.ownsRow_nil _ _ _ _, From.rfl_⟩
  case round =>
    obtain ⟨b, hb, rfl, hown, hw⟩ := hrel
    by_cases hlt : b < 256
    · have hnew := ones_new hlt
      have hsc := ones_succ b
      have hol := ones_len b
      have hS := S_range [b]
      rw [one_S] at hnew hsc
      have h1 := fun W (hW : From w W) => sum_one b (b : Int) W 5 rfl hlt (HT.out W hW)
      have hr1 : (b + 1) * 8 ≤ 140737488355328 := by omega
      have hr2 : b + 1 ≤ maxLen := by unfold maxLen; omega
      have hin := fun W v (hr : Row W v ((ones b).map fun (x : Int) => .int .i64 x)) => in_any v (ones b) (S [b]) W hr (by omega)
      have H1 := Lib.hid h1
      have HN := Lib.hid hnew
      have HS := Lib.hid hsc
      have HI := Lib.hid hin
      clear hnew hsc hol h1 hin
      generalize S [b] = s at *
      go_wp2_with (first
        | (go_at_call 7; (with_reducible refine (H1.out _ (by assumption)).mono ?_); rintro e w1 ⟨rfl, hb1⟩; have hown1 := hown.kept_from hb1; replace hb1 := From.next (a := w) (by assumption) hb1; have hrow1 := Row.of_own hown1)
        | (go_at_call 12; (with_reducible refine (HI.out _ _ hrow1).mono ?_); rintro e w1 ⟨r, rfl, hq1, hq2, rfl⟩; have hneg : decide ((0 : Int) ≤ r) = false := decide_eq_false (fun h => HN.out (hq2 h)); clear hq1 hq2)
        | (at_builtin; refine wpList_push w rfl (.tmp 19) (.tmp 21) 34 rfl 3 i0 _ 8 Tryd.underlying34 hi0 hz0 hz1 hz2 rfl _ _ _ rfl hown1 hb1 rfl rfl hr1 hr2 ?_; intro v3 w3 hown3 hw3))
      go_roundw
      case rel => exact ⟨b + 1, by omega, by go_num, by rw [HS.out, List.map_append]; exact hown3, hw3⟩
      case measure => simp [intOf]; omega
    · have f0 : S [] = 0 := by decide +kernel
      have f1 : (S [0] != 0) = true := by decide +kernel
      have f2 : (S [0, 0] != S [0]) = true := by decide +kernel
      have f3 : (S [1, 2] != S [2, 1]) = true := by decide +kernel
      have hd : decide ((b : Int) < 256) = false := by simp; omega
      have g0 := fun W (h : From w W) => sum_nil W (HT.out W h)
      have g1 := fun W (h : From w W) => sum_one 0 0 W 5 rfl (by omega) (HT.out W h)
      have g2 := fun W (h : From w W) => sum_two 0 0 0 0 W 5 rfl rfl (by omega) (by omega) (HT.out W h)
      have g3 := fun W (h : From w W) => sum_two 1 2 1 2 W 5 rfl rfl (by omega) (by omega) (HT.out W h)
      have g4 := fun W (h : From w W) => sum_two 2 1 2 1 W 5 rfl rfl (by omega) (by omega) (HT.out W h)
      rw [f0] at g0
      clear f0 hown
      have G0 := Lib.hid g0
      have G1 := Lib.hid g1
      have G2 := Lib.hid g2
      have G3 := Lib.hid g3
      have G4 := Lib.hid g4
      clear g0 g1 g2 g3 g4
      generalize S [0] = s1 at *
      generalize S [0, 0] = s2 at *
      generalize S [1, 2] = s3 at *
      generalize S [2, 1] = s4 at *
      go_wp2_with (first
        | (go_at_call 7; (with_reducible refine (G0.out _ (by assumption)).mono ?_); rintro e w1 ⟨rfl, hb1⟩; replace hb1 := From.next (a := w) (by assumption) hb1)
        | (go_at_call 7; (with_reducible refine (G1.out _ (by assumption)).mono ?_); rintro e w1 ⟨rfl, hb1⟩; replace hb1 := From.next (a := w) (by assumption) hb1)
        | (go_at_call 7; (with_reducible refine (G2.out _ (by assumption)).mono ?_); rintro e w1 ⟨rfl, hb1⟩; replace hb1 := From.next (a := w) (by assumption) hb1)
        | (go_at_call 7; (with_reducible refine (G3.out _ (by assumption)).mono ?_); rintro e w1 ⟨rfl, hb1⟩; replace hb1 := From.next (a := w) (by assumption) hb1)
        | (go_at_call 7; (with_reducible refine (G4.out _ (by assumption)).mono ?_); rintro e w1 ⟨rfl, hb1⟩; replace hb1 := From.next (a := w) (by assumption) hb1)
        | (go_at_call 10; (with_reducible refine (wakes _ (HT.out _ (by assumption))).mono ?_); rintro e w1 ⟨rfl, hb1⟩; replace hb1 := From.next (a := w) (by assumption) hb1))
      go_goals
      go_ret
      exact ⟨rfl, by assumption⟩

/-- A WORLD FOR THE WITNESS: the settled one, the variables holding what their initialisers lay. -/
noncomputable def SumOnes_world (os : Os) : World :=
  { World.holding Tryd.prog os ⟨#[], #[], []⟩ with heap := (World.holding Tryd.prog os ⟨#[], #[], []⟩).heap.modify 0 fun | .cells _ t frozen => .cells #[.int .u32 0, .int .u32 498536548, .int .u32 997073096, .int .u32 651767980, .int .u32 1994146192, .int .u32 1802195444, .int .u32 1303535960, .int .u32 1342533948, .int .u32 3988292384, .int .u32 4027552580, .int .u32 3604390888, .int .u32 3412177804, .int .u32 2607071920, .int .u32 2262029012, .int .u32 2685067896, .int .u32 3183342108] t frozen | o => o }
theorem SumOnes_met (os : Os) : laidMet Tryd.prog Rows.sumOnesRow.laid ((SumOnes_world os).forCall (fun _ _ => 0) ⟨#[], #[.slice none 0 0], []⟩).memory :=
  laidMet_of_run' 8 (by kernel_rfl) (by kernel_rfl)
theorem SumOnes_reads (os : Os) {H : Type} (enc : TypeId × Value → H) : ∃ places, DataW.whole enc Tryd.prog ((SumOnes_world os).forCall (fun _ _ => 0) ⟨#[], #[.slice none 0 0], []⟩).memory Tryd.f5.params.toList Rows.sumOnesSpec.vars false #[(.slice none 0 0 : Value)].toList 8 = some ([.nil], [], places) :=
  ⟨[], by kernel_rfl⟩

set_option maxRecDepth 100000 in
theorem SumOnes_lifted (os : Os) (started : os.Started) (H : Type) (enc : TypeId × Value → H) (F : Stop.Interp) :
    ReturnsInHanded {} Tryd.checked os 5 .any ((OpenSpec.ofChange Rows.sumOnesSpec).preRow enc Tryd.prog Tryd.f5 Rows.sumOnesRow.domain false Rows.sumOnesRow.laid) (((OpenSpec.ofChange Rows.sumOnesSpec).at F).post enc Tryd.prog Tryd.f5 false true false false) := by
  obtain ⟨places, hx⟩ := SumOnes_reads os enc
  refine returnsInHanded_of_row (C := Tryd.checked) (s := OpenSpec.ofChange Rows.sumOnesSpec) Tryd.own started (by kernel_rfl) Tryd.func5
    (witness_row_at (enc := enc) (C := Tryd.checked) false (SumOnes_world os) #[.slice none 0 0] rfl (by kernel_rfl) (by kernel_rfl) (by kernel_rfl)
      (OpenSpec.preRow_of_cond 8 hx (by kernel_rfl) (fun k hk => by cases hk) (by kernel_rfl) (SumOnes_met os))) ?_
  intro W base args ds gs before hval hW _ _ hsz hL hS _
  exact law_step_laid 5 Tryd.f5 22 4 Rows.sumOnesSpec Tryd.params5 (by kernel_rfl) Tryd.underlying4 rfl (fun _ => rfl) (by kernel_rfl) (of_decide_eq_true (by kernel_rfl)) Rows.sumOnesRow.laid (walk_of fun A n cap w hn _ hT => ones_any A n cap w hn hT) W base args ds gs before hval hW hsz hL hS

theorem SumOnes_said : Rows.SumOnesSaid :=
  OpenClaim.holds_of_cond 5 Tryd.f5 rfl rfl rfl rfl rfl rfl rfl ⟨rfl, rfl, rfl, rfl, rfl⟩ rfl rfl rfl rfl rfl (by kernel_rfl) Tryd.func5 (by kernel_rfl)
    (of_decide_eq_true (by kernel_rfl)) (by unfold Func.isWrapper; first | (rw [if_pos (by decide +kernel)]; kernel_rfl) | (rw [if_neg (by decide +kernel)]; exact ⟨rfl, rfl⟩))
    (fun os started H enc _ F => by rw [OpenClaim.pre_eq_preRow]; exact SumOnes_lifted os started H enc F)

theorem SumOnes_plain (f : FuncId) (fn : Func) (hf : Tryd.pinned.checked.prog.funcNamed "lectern/lecternlaw9.SumOnes" = some f) (hfn : Tryd.pinned.checked.prog.funcs[f]? = some fn) :
    false = Tryd.pinned.checked.prog.looks [] ∧ ∀ (j : Nat) t, fn.params[j]? = some t → Tryd.pinned.checked.prog.wantsStandIn t = false := by
  obtain rfl : f = 5 := Option.some.inj ((show Tryd.prog.funcNamed "lectern/lecternlaw9.SumOnes" = some 5 by kernel_rfl).symm.trans hf) |>.symm
  obtain rfl : fn = Tryd.f5 := (Option.some.inj (Tryd.func5.symm.trans hfn)).symm
  refine ⟨by kernel_rfl, fun j t ht => ?_⟩
  rw [Tryd.params5] at ht
  obtain rfl : t = 22 := by simpa using Array.mem_of_getElem? ht
  exact (show Tryd.prog.wantsStandIn 22 = false by kernel_rfl)

theorem SumOnes_holds : Rows.SumOnesCardSaid :=
  Claim7.holds_tied_plain_at .later [] _ _ _ _ SumOnes_said (fun _ h => by cases h) (by kernel_rfl) (fun _ h => by cases h) sumOnes_row_tie rfl ⟨rfl, rfl⟩ (by kernel_rfl) rfl SumOnes_plain (by kernel_rfl)
#print axioms SumOnes_holds

end Go.Proofs.YtkhiookiibjklaaDoor
