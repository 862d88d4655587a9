/- net: parcels, due. -/
import Derived.Test.YthakmhdliginoaaFast12
namespace Go.Proofs.Ythakmhdliginoaa
open Go.RowKit
open Go.ChangeShapes Go.WideShapes Go.ChangeAt
theorem NetWalks_q47 : litQ Try.prog 47 = some (53, 14, 136, (.agg #[.int .i64 0, .int .i64 0, .int .i64 0, .int .i64 0, .int .i64 0, .int .i64 0, .int .i64 0, .int .i64 0, .bool false, .slice none 0 0, .int .i64 0, .string ⟨#[]⟩, .bool false, .int .i64 0])) := by kernel_rfl
theorem NetWalks_e47 : elemQ Try.prog 47 = some (53, 14) := by kernel_rfl
theorem NetWalks_l47 : (elemQ Try.prog 47).isSome = true := by kernel_rfl
theorem NetWalks_u47 : Try.prog.underlying 47 = some (.slice 53) := by kernel_rfl
theorem NetWalks_u31 : Try.prog.underlying 31 = some (.slice 61) := by kernel_rfl
theorem NetWalks_k37 : callable Try.prog 37 = true := by kernel_rfl
theorem NetWalks_f53_1 : fieldQ Try.prog 53 1 = some 13 := by kernel_rfl
theorem NetWalks_g3 : aggQ Try.prog 3 = some false := by kernel_rfl
theorem NetWalks_k33 : callable Try.prog 33 = true := by kernel_rfl
theorem NetWalks_g53 : aggQ Try.prog 53 = some true := by kernel_rfl
theorem NetWalks_z53 : sizeQ Try.prog 53 = some 14 := by kernel_rfl
theorem NetWalks_s3 : (Try.prog.underlying 3).isSome = true := by kernel_rfl
theorem NetWalks_i50 : Try.prog.underlying 50 = some (.int .u64) := by kernel_rfl
theorem NetWalks_s50 : (Try.prog.underlying 50).isSome = true := by kernel_rfl
theorem NetWalks_i3 : Try.prog.underlying 3 = some (.int .i64) := by kernel_rfl
theorem NetWalks_f49_0 : fieldQ Try.prog 49 0 = some 0 := by kernel_rfl
theorem NetWalks_g47 : aggQ Try.prog 47 = some false := by kernel_rfl
theorem NetWalks_k31 : callable Try.prog 31 = true := by kernel_rfl
structure Msg where
  k : Int
  f : Int
  t : Int
  tm : Int
  ix : Int
  lt : Int
  cm : Int
  rd : Int
  ok : Bool
  a : Int
  d : ByteArray
  dn : Bool
/-- a message without entries -/
def msgV (x : Msg) : List Value := [.int .i64 x.k, .int .i64 x.f, .int .i64 x.t, .int .i64 x.tm, .int .i64 x.ix, .int .i64 x.lt, .int .i64 x.cm, .int .i64 x.rd, .bool x.ok, .slice none 0 0, .int .i64 x.a, .string x.d, .bool x.dn]
def parV (p : Msg × Int) : List Value := [.int .i64 p.1.k, .int .i64 p.1.f, .int .i64 p.1.t, .int .i64 p.1.tm, .int .i64 p.1.ix, .int .i64 p.1.lt, .int .i64 p.1.cm, .int .i64 p.1.rd, .bool p.1.ok, .slice none 0 0, .int .i64 p.1.a, .string p.1.d, .bool p.1.dn, .int .i64 p.2]
theorem par_len (p : Msg × Int) : (parV p).length = 14 := rfl
theorem msg_len (x : Msg) : (msgV x).length = 13 := rfl
theorem par_one (L : List (Msg × Int)) : ∀ u ∈ L.flatMap parV, u.oneCell' = true := flat_one (fun x _ => by simp [parV, Value.oneCell'])
theorem msg_one (L : List Msg) : ∀ u ∈ L.flatMap msgV, u.oneCell' = true := flat_one (fun x _ => by simp [msgV, Value.oneCell'])
abbrev Pars := List (Msg × Int)
def RowP (w : World) (A : Option Addr) (L : Pars) : Prop := RowK 14 parV w A L
theorem RowP.from_ {w w' : World} {A : Option Addr} {L : Pars} (h : RowP w A L) (hF : From w w') : RowP w' A L := RowK.from_ h hF
/-- the first i arrive by x, the others do not -/
def Cut (L : Pars) (x : Int) (i : Nat) : Prop := i ≤ L.length ∧ (∀ j (h : j < L.length), j < i → L[j].2 ≤ x) ∧ (∀ j (h : j < L.length), i ≤ j → x < L[j].2)
def Sorted (L : Pars) : Prop := ∀ i j (hi : i < L.length) (hj : j < L.length), i < j → L[i].2 ≤ L[j].2
def cmpV (x y : Int) : Int := if x < y then -1 else if y < x then 1 else 0
def dueV (x y : Int) : Int := if x ≤ y then -1 else 1
theorem due_neg {x y : Int} : dueV x y < 0 ↔ x ≤ y := by
  unfold dueV
  split <;> simp <;> omega
theorem due_zero {x y : Int} : dueV x y ≠ 0 := by
  unfold dueV
  split <;> decide
set_option maxRecDepth 100000 in
set_option maxHeartbeats 400000 in
theorem delete_rt (base : Nat) (A : Option Addr) (c n i j : Nat) (xs : List Value) (w : World) (ho : w.ownsRow base 53 14 (.slice A n c) n xs) (hij : i < j) (hj : j ≤ n) (h1 : ∀ u ∈ xs, u.oneCell' = true) (hl : n ≤ 100000000000) :
    Rt Try.prog 24 [.slice A n c, .int .i64 (i : Nat), .int .i64 (j : Nat)] w (fun v w' => (∃ A' c', v = .slice A' (n - (j - i)) c' ∧ w'.ownsRow base 53 14 (.slice A' (n - (j - i)) c') (n - (j - i)) (xs.take (i * 14) ++ xs.drop (j * 14))) ∧ w.grownBy w' (A.map (·.block))) := by
  obtain ⟨g, cur, rfl, hg, hbk, hnc, hcm, hcl, hct⟩ := own_blk ho (by omega)
  have hxl : xs.length = n * 14 := ho.1
  have hdl : (xs.drop (j * 14)).length = (n - j) * 14 := by rw [List.length_drop, hxl]; omega
  have hno : n - (j - i) = i + (n - j) := by omega
  have hbz : w.grownBy w (some g) := World.grownBy.refl _ _
  refine enter (n := 33) Try.func24 rfl rfl rfl ?_
  refine cd_seq ?_
  refine cd_region ?_
  refine st_val (ro_assign (v := .slice _ _ _) rfl) ?_
  refine st_nil ?_
  refine nx_then ?_
  refine cd_seq ?_
  refine cd_region ?_
  refine st_val (ro_move (v := .slice _ _ _) rfl) ?_
  refine st_val (ro_move (v := .int _ _) rfl) ?_
  refine st_val (ro_move (v := .int _ _) rfl) ?_
  refine st_val (ro_move (v := .slice _ _ _) rfl) ?_
  refine st_val (ro_len NetWalks_l47 rfl) ?_
  refine st_val (ro_slice3 (l := i) (h := j) (mx := n) NetWalks_e47 rfl rfl rfl rfl (by omega) (by omega) (by omega)) ?_
  refine st_nil ?_
  refine nx_then ?_
  refine cd_seq ?_
  refine cd_seq ?_
  refine cd_region ?_
  refine st_val (ro_move (v := .int _ _) rfl) ?_
  refine st_val (ro_move (v := .int _ _) rfl) ?_
  refine st_val (ro_eql rfl rfl) ?_
  refine st_nil ?_
  refine nx_then ?_
  refine cd_cond rfl (fun Q1 => ?_) (fun Q1 => ?_)
  · (try first | replace Q1 := bn_t Q1 | replace Q1 := bn_f Q1)
    (try first | replace Q1 := bx_t Q1 | replace Q1 := bx_f Q1 | replace Q1 := be_t Q1 | replace Q1 := be_f Q1 | replace Q1 := of_decide_eq_true Q1 | replace Q1 := of_decide_eq_false Q1)
    first
     | (exfalso; first | omega | contradiction | (cases Q1; done))
     | skip
       refine cd_seq ?_
       refine cd_region ?_
       refine st_val (ro_move (v := .slice _ _ _) rfl) ?_
       refine st_val (ro_assign (v := .slice _ _ _) rfl) ?_
       refine st_nil ?_
       refine nx_then ?_
       refine cd_ret ?_
       refine rt_then ?_
       refine res1 (v := .slice _ _ _) rfl rfl ?_
       exact absurd rfl (by omega)
  · (try first | replace Q1 := bn_t Q1 | replace Q1 := bn_f Q1)
    (try first | replace Q1 := bx_t Q1 | replace Q1 := bx_f Q1 | replace Q1 := be_t Q1 | replace Q1 := be_f Q1 | replace Q1 := of_decide_eq_true Q1 | replace Q1 := of_decide_eq_false Q1)
    first
     | (exfalso; first | omega | contradiction | (cases Q1; done))
     | skip
       refine cd_skip ?_
       refine nx_then ?_
       refine cd_seq ?_
       refine cd_region ?_
       refine st_val (ro_move (v := .slice _ _ _) rfl) ?_
       refine st_val (ro_len NetWalks_l47 rfl) ?_
       refine st_val (ro_assign (v := .int _ _) rfl) ?_
       refine st_nil ?_
       refine nx_then ?_
       refine cd_seq ?_
       apply cd_drawnD 6 [(20, eqp _), (21, eqp _), (22, eqp _), (23, eqp _), (24, eqp _), (25, eqp _)] (by repeat first | exact pq_body | refine pq_then ?_ | refine pq_block ?_) (by kernel_rfl) (by kernel_rfl) ⟨eqp_mono _, eqp_mono _, eqp_mono _, eqp_mono _, eqp_mono _, eqp_mono _, trivial⟩
       case hop =>
        refine ⟨?_, ?_⟩
        · rintro - w3 D3
          show OpOK _ _ _ _ _ _ _
          exact ok_pure (ro_move (v := .slice _ _ _) rfl) rfl
        refine ⟨?_, ?_⟩
        · rintro - w4 D4
          show OpOK _ _ _ _ _ _ _
          exact ok_pure (ro_move (v := .int _ _) rfl) rfl
        refine ⟨?_, ?_⟩
        · rintro - w5 D5
          rintro _ rfl _ rfl
          show OpOK _ _ _ _ _ _ _
          exact ok_pure (ro_eq (v' := .slice (some ⟨g, 0, none⟩) i c) (ro_sliceO (l := 0) (h := i) NetWalks_e47 rfl (.inl ⟨rfl, rfl⟩) (.inr ⟨_, _, _, rfl, rfl, rfl⟩) (by omega) (by omega)) (by rw [restOf_head, Nat.sub_zero, Nat.sub_zero])) rfl
        refine ⟨?_, ?_⟩
        · rintro - w6 D6
          show OpOK _ _ _ _ _ _ _
          exact ok_pure (ro_move (v := .slice _ _ _) rfl) rfl
        refine ⟨?_, ?_⟩
        · rintro - w7 D7
          show OpOK _ _ _ _ _ _ _
          exact ok_pure (ro_move (v := .int _ _) rfl) rfl
        refine ⟨?_, ?_⟩
        · rintro - w8 D8
          rintro _ rfl _ rfl
          show OpOK _ _ _ _ _ _ _
          exact ok_pure (ro_sliceO (l := j) (h := n) NetWalks_e47 rfl (.inr ⟨_, _, _, rfl, rfl, rfl⟩) (.inl ⟨rfl, rfl⟩) (by omega) (by omega)) rfl
        exact trivial
       case hend =>
        intro w9 D9
        rintro _ rfl _ rfl _ rfl _ rfl _ rfl _ rfl
        show St _ _ _ _ _ _ _
        replace hbz := grown_trans hbz (From.grown D9 _)
        replace hbk := hbk.from_ D9
        refine st_appendR (news := xs.drop (j * 14)) (cur := cur) NetWalks_e47 rfl rfl hdl (fun h => ⟨g, j * 14, by rw [restOf_pos (by omega), Nat.zero_add], row_drop hbk hct⟩) hbk (fun v hv => h1 v (List.mem_of_mem_drop hv)) (by omega) (by rw [hdl, hcl]; omega) ?_
        intro w10 O26 P26
        replace hbz := grown_trans hbz (Only.grown O26)
        refine st_val (ro_assign (v := .slice _ _ _) rfl) ?_
        refine st_nil ?_
        refine nx_then ?_
        refine cd_seq ?_
        refine cd_region ?_
        refine st_val (ro_move (v := .slice _ _ _) rfl) ?_
        refine st_val (ro_move (v := .slice _ _ _) rfl) ?_
        refine st_val (ro_len NetWalks_l47 rfl) ?_
        refine st_val (ro_move (v := .int _ _) rfl) ?_
        refine st_val (ro_sliceO (l := i + (n - j)) (h := n) NetWalks_e47 rfl (.inr ⟨_, _, _, rfl, rfl, by omega⟩) (.inr ⟨_, _, _, rfl, rfl, rfl⟩) (by omega) (by omega)) ?_
        refine st_clearB (g := g) (o := (i + (n - j)) * 14) NetWalks_q47 rfl rfl (fun h => by rw [restOf_pos (by omega), Nat.zero_add]) P26 (by rw [over_len _ _ _ (by rw [hdl, hcl]; omega), hcl]; omega) (by decide) ?_
        intro w11 zs O6 hzl P6
        replace hbz := grown_trans hbz (Only.grown O6)
        have hzl2 : zs.length = (j - i) * 14 := by rw [hzl]; congr 1; omega
        refine st_nil ?_
        refine nx_then ?_
        refine cd_seq ?_
        refine cd_region ?_
        refine st_val (ro_move (v := .slice _ _ _) rfl) ?_
        refine st_val (ro_assign (v := .slice _ _ _) rfl) ?_
        refine st_nil ?_
        refine nx_then ?_
        refine cd_ret ?_
        refine res1 (v := .slice _ _ _) rfl rfl ?_
        rw [hno]
        exact ⟨⟨_, _, rfl, own_of hg P6 (by omega) hcm (by rw [over_len _ _ _ (by rw [over_len _ _ _ (by rw [hdl, hcl]; omega), hzl2, hcl]; omega), over_len _ _ _ (by rw [hdl, hcl]; omega), hcl]) (del_take (by omega) hj hnc hcl hct hzl2)⟩, hbz⟩
set_option maxRecDepth 100000 in
set_option maxHeartbeats 400000 in
theorem insert_rt (base : Nat) (A : Option Addr) (c n i m b vo vc : Nat) (xs vs : List Value) (tv : TypeId) (csv : Array Value) (w : World) (ho : w.ownsRow base 53 14 (.slice A n c) n xs) (hbs : base ≤ w.heap.size) (hi : i ≤ n) (hm : 0 < m) (hvl : vs.length = m * 14) (hvr : w.rangeAt b vo vs) (hvb : Blk w b tv csv) (hne : ∀ k, A.map (·.block) = some k → k ≠ b) (h1 : ∀ u ∈ xs, u.oneCell' = true) (h1v : ∀ u ∈ vs, u.oneCell' = true) (hl : n + m ≤ 100000000000) :
    Rt Try.prog 36 [.slice A n c, .int .i64 (i : Nat), .slice (some ⟨b, vo, none⟩) m vc] w (fun v w' => (∃ A' c', v = .slice A' (n + m) c' ∧ w'.ownsRow base 53 14 (.slice A' (n + m) c') (n + m) (xs.take (i * 14) ++ vs ++ xs.drop (i * 14))) ∧ w.grownBy w' (A.map (·.block))) := by
  have hxl : xs.length = n * 14 := ho.1
  have hdl : (xs.drop (i * 14)).length = (n - i) * 14 := by rw [List.length_drop, hxl]; omega
  have hcap := own_cap ho
  refine enter (n := 95) Try.func36 rfl rfl rfl ?_
  refine cd_seq ?_
  refine cd_region ?_
  refine st_val (ro_assign (v := .slice _ _ _) rfl) ?_
  refine st_nil ?_
  refine nx_then ?_
  refine cd_seq ?_
  refine cd_region ?_
  refine st_val (ro_move (v := .slice _ _ _) rfl) ?_
  refine st_val (ro_move (v := .int _ _) rfl) ?_
  refine st_val (ro_sliceO (l := i) (h := n) NetWalks_e47 rfl (.inr ⟨_, _, _, rfl, rfl, rfl⟩) (.inl ⟨rfl, rfl⟩) (by omega) (by omega)) ?_
  refine st_nil ?_
  refine nx_then ?_
  refine cd_seq ?_
  refine cd_region ?_
  refine st_val (ro_move (v := .slice _ _ _) rfl) ?_
  refine st_val (ro_len NetWalks_l47 rfl) ?_
  refine st_val (ro_assign (v := .int _ _) rfl) ?_
  refine st_nil ?_
  refine nx_then ?_
  refine cd_seq ?_
  refine cd_seq ?_
  refine cd_region ?_
  refine st_val (ro_move (v := .int _ _) rfl) ?_
  refine st_val (ro_eql rfl rfl) ?_
  refine st_nil ?_
  refine nx_then ?_
  refine cd_cond rfl (fun Q1 => ?_) (fun Q1 => ?_)
  · (try first | replace Q1 := bn_t Q1 | replace Q1 := bn_f Q1)
    (try first | replace Q1 := bx_t Q1 | replace Q1 := bx_f Q1 | replace Q1 := be_t Q1 | replace Q1 := be_f Q1 | replace Q1 := of_decide_eq_true Q1 | replace Q1 := of_decide_eq_false Q1)
    first
     | (exfalso; first | omega | contradiction | (cases Q1; done))
     | skip
       refine cd_seq ?_
       refine cd_region ?_
       refine st_val (ro_move (v := .slice _ _ _) rfl) ?_
       refine st_val (ro_assign (v := .slice _ _ _) rfl) ?_
       refine st_nil ?_
       refine nx_then ?_
       refine cd_ret ?_
       refine rt_then ?_
       refine res1 (v := .slice _ _ _) rfl rfl ?_
       exact absurd rfl (by omega)
  · (try first | replace Q1 := bn_t Q1 | replace Q1 := bn_f Q1)
    (try first | replace Q1 := bx_t Q1 | replace Q1 := bx_f Q1 | replace Q1 := be_t Q1 | replace Q1 := be_f Q1 | replace Q1 := of_decide_eq_true Q1 | replace Q1 := of_decide_eq_false Q1)
    first
     | (exfalso; first | omega | contradiction | (cases Q1; done))
     | skip
       refine cd_skip ?_
       refine nx_then ?_
       refine cd_seq ?_
       refine cd_region ?_
       refine st_val (ro_move (v := .slice _ _ _) rfl) ?_
       refine st_val (ro_len NetWalks_l47 rfl) ?_
       refine st_val (ro_assign (v := .int _ _) rfl) ?_
       refine st_nil ?_
       refine nx_then ?_
       refine cd_seq ?_
       refine cd_seq ?_
       refine cd_region ?_
       refine st_val (ro_move (v := .int _ _) rfl) ?_
       refine st_val (ro_move (v := .int _ _) rfl) ?_
       refine st_val (ro_eql rfl rfl) ?_
       refine st_nil ?_
       refine nx_then ?_
       refine cd_cond rfl (fun Q2 => ?_) (fun Q2 => ?_)
       · (try first | replace Q2 := bn_t Q2 | replace Q2 := bn_f Q2)
         (try first | replace Q2 := bx_t Q2 | replace Q2 := bx_f Q2 | replace Q2 := be_t Q2 | replace Q2 := be_f Q2 | replace Q2 := of_decide_eq_true Q2 | replace Q2 := of_decide_eq_false Q2)
         obtain rfl : i = n := by omega
         first
          | (exfalso; first | omega | contradiction | (cases Q2; done))
          | skip
            refine cd_seq ?_
            refine cd_region ?_
            refine st_val (ro_move (v := .slice _ _ _) rfl) ?_
            refine st_val (ro_move (v := .slice _ _ _) rfl) ?_
            refine st_appendB NetWalks_q47 rfl (by decide) rfl ho hbs rfl hvl (fun _ => ⟨b, vo, rfl, hvr⟩) (fun h => by cases h) h1v (by omega) (by omega) ?_
            intro A25 c25 w3 ho25 hg25
            refine st_val (ro_assign (v := .slice _ _ _) rfl) ?_
            refine st_nil ?_
            refine nx_then ?_
            refine cd_ret ?_
            refine rt_then ?_
            refine res1 (v := .slice _ _ _) rfl rfl ?_
            exact ⟨⟨A25, c25, rfl, by rw [List.take_of_length_le (by omega), List.drop_of_length_le (by omega), List.append_nil]; exact ho25⟩, hg25⟩
       · (try first | replace Q2 := bn_t Q2 | replace Q2 := bn_f Q2)
         (try first | replace Q2 := bx_t Q2 | replace Q2 := bx_f Q2 | replace Q2 := be_t Q2 | replace Q2 := be_f Q2 | replace Q2 := of_decide_eq_true Q2 | replace Q2 := of_decide_eq_false Q2)
         obtain ⟨g, cur, rfl, hg, hbk, hnc, hcm, hcl, hct⟩ := own_blk ho (by omega)
         have hgb : g ≠ b := hne g rfl
         have hbz : w.grownBy w (some g) := World.grownBy.refl _ _
         first
          | (exfalso; first | omega | contradiction | (cases Q2; done))
          | skip
            refine cd_skip ?_
            refine nx_then ?_
            refine cd_seq ?_
            refine cd_seq ?_
            refine cd_region ?_
            refine st_val (ro_move (v := .int _ _) rfl) ?_
            refine st_val (ro_move (v := .int _ _) rfl) ?_
            refine st_val (ro_addN rfl rfl (by omega)) ?_
            refine st_val (ro_move (v := .slice _ _ _) rfl) ?_
            refine st_val (ro_cap NetWalks_l47 rfl) ?_
            refine st_val (ro_gtr rfl rfl) ?_
            refine st_nil ?_
            refine nx_then ?_
            refine cd_cond rfl (fun Q4 => ?_) (fun Q4 => ?_)
            · (try first | replace Q4 := bn_t Q4 | replace Q4 := bn_f Q4)
              (try first | replace Q4 := bx_t Q4 | replace Q4 := bx_f Q4 | replace Q4 := be_t Q4 | replace Q4 := be_f Q4 | replace Q4 := of_decide_eq_true Q4 | replace Q4 := of_decide_eq_false Q4)
              first
               | (exfalso; first | omega | contradiction | (cases Q4; done))
               | skip
                 refine cd_seq ?_
                 refine cd_region ?_
                 refine st_val (ro_move (v := .slice _ _ _) rfl) ?_
                 refine st_val (ro_move (v := .int _ _) rfl) ?_
                 refine st_val (ro_eq (v' := .slice (some ⟨g, 0, none⟩) i c) (ro_sliceO (l := 0) (h := i) NetWalks_e47 rfl (.inl ⟨rfl, rfl⟩) (.inr ⟨_, _, _, rfl, rfl, rfl⟩) (by omega) (by omega)) (by rw [restOf_head, Nat.sub_zero, Nat.sub_zero])) ?_
                 refine st_val (ro_move (v := .int _ _) rfl) ?_
                 refine st_val (ro_move (v := .int _ _) rfl) ?_
                 refine st_val (ro_addN rfl rfl (by omega)) ?_
                 refine st_val (ro_move (v := .int _ _) rfl) ?_
                 refine st_val (ro_subN rfl rfl (by omega)) ?_
                 refine st_appendZ (kn := .i64) (olds := xs.take (i * 14)) NetWalks_q47 (by kernel_rfl) rfl (by decide) rfl rfl (by rw [List.length_take, hxl]; omega) (fun _ => ⟨g, 0, rfl, row_take hbk hct⟩) (by omega) (by omega) (by unfold maxLen; omega) (by omega) (by omega) ?_
                 intro g2 c2 w5 cur2 hg2 E40 hb2 hc2 hc2m hcl2 hct2
                 obtain hc2 : n + m ≤ c2 := by omega
                 replace hbz := grown_trans hbz (From.grown E40 _)
                 replace hbk := hbk.from_ E40
                 have hgg : g ≠ g2 := by have := ho.lt g rfl; omega
                 have hvr2 := rangeF E40 hvr
                 have hbg2 : b ≠ g2 := by have := hvb.lt; omega
                 refine st_val (ro_assign (v := .slice _ _ _) rfl) ?_
                 refine st_nil ?_
                 refine nx_then ?_
                 refine cd_seq ?_
                 refine cd_region ?_
                 refine st_val (ro_move (v := .slice _ _ _) rfl) ?_
                 refine st_val (ro_move (v := .int _ _) rfl) ?_
                 refine st_val (ro_sliceO (l := i) (h := i + (n + m - i)) NetWalks_e47 rfl (.inr ⟨_, _, _, rfl, rfl, rfl⟩) (.inl ⟨rfl, rfl⟩) (by omega) (by omega)) ?_
                 refine st_val (ro_move (v := .slice _ _ _) rfl) ?_
                 refine st_copyB (news := vs) (g := g2) (o := i * 14) NetWalks_e47 rfl rfl (by rw [hvl]; congr 1; omega) (fun h => by rw [restOf_pos (by omega), Nat.zero_add]) (fun h => ⟨b, vo, rfl, hvr2⟩) hb2 (by rw [hvl, hcl2]; omega) h1v ?_
                 intro w6 O45 P45
                 replace hbz := grown_new hbz O45 (by have := hbk.lt; have := ho.lt g rfl; omega)
                 replace hbk := hbk.only O45 hgg
                 refine st_nil ?_
                 refine nx_then ?_
                 refine cd_seq ?_
                 apply cd_drawnD 8 [(46, eqp _), (47, eqp _), (48, eqp _), (49, eqp _), (50, eqp _), (51, eqp _), (52, eqp _), (53, eqp _)] (by repeat first | exact pq_body | refine pq_then ?_ | refine pq_block ?_) (by kernel_rfl) (by kernel_rfl) ⟨eqp_mono _, eqp_mono _, eqp_mono _, eqp_mono _, eqp_mono _, eqp_mono _, eqp_mono _, eqp_mono _, trivial⟩
                 case hop =>
                  refine ⟨?_, ?_⟩
                  · rintro - w8 D8
                    show OpOK _ _ _ _ _ _ _
                    exact ok_pure (ro_move (v := .slice _ _ _) rfl) rfl
                  refine ⟨?_, ?_⟩
                  · rintro - w9 D9
                    show OpOK _ _ _ _ _ _ _
                    exact ok_pure (ro_move (v := .int _ _) rfl) rfl
                  refine ⟨?_, ?_⟩
                  · rintro - w10 D10
                    show OpOK _ _ _ _ _ _ _
                    exact ok_pure (ro_move (v := .int _ _) rfl) rfl
                  refine ⟨?_, ?_⟩
                  · rintro - w11 D11
                    rintro _ rfl _ rfl
                    show OpOK _ _ _ _ _ _ _
                    exact ok_pure (ro_addN rfl rfl (by omega)) rfl
                  refine ⟨?_, ?_⟩
                  · rintro - w12 D12
                    rintro _ rfl _ rfl
                    show OpOK _ _ _ _ _ _ _
                    exact ok_pure (ro_sliceO (l := i + m) (h := i + (n + m - i)) NetWalks_e47 rfl (.inr ⟨_, _, _, rfl, rfl, rfl⟩) (.inl ⟨rfl, rfl⟩) (by omega) (by omega)) rfl
                  refine ⟨?_, ?_⟩
                  · rintro - w13 D13
                    show OpOK _ _ _ _ _ _ _
                    exact ok_pure (ro_move (v := .slice _ _ _) rfl) rfl
                  refine ⟨?_, ?_⟩
                  · rintro - w14 D14
                    show OpOK _ _ _ _ _ _ _
                    exact ok_pure (ro_move (v := .int _ _) rfl) rfl
                  refine ⟨?_, ?_⟩
                  · rintro - w15 D15
                    rintro _ rfl _ rfl
                    show OpOK _ _ _ _ _ _ _
                    exact ok_pure (ro_sliceO (l := i) (h := n) NetWalks_e47 rfl (.inr ⟨_, _, _, rfl, rfl, rfl⟩) (.inl ⟨rfl, rfl⟩) (by omega) (by omega)) rfl
                  exact trivial
                 case hend =>
                  intro w16 D16
                  rintro _ rfl _ rfl _ rfl _ rfl _ rfl _ rfl _ rfl _ rfl
                  show St _ _ _ _ _ _ _
                  replace hbz := grown_trans hbz (From.grown D16 _)
                  replace hbk := hbk.from_ D16
                  replace P45 := P45.from_ D16
                  refine st_copyB (news := xs.drop (i * 14)) (g := g2) (o := (i + m) * 14) NetWalks_e47 rfl rfl (by rw [hdl]; congr 1; omega) (fun h => by rw [restOf_pos (by rw [hdl] at h; omega), Nat.zero_add]) (fun h => ⟨g, i * 14, by rw [restOf_pos (by omega), Nat.zero_add], row_drop hbk hct⟩) P45 (by rw [hdl, over_len _ _ _ (by rw [hvl, hcl2]; omega), hcl2]; omega) (fun v hv => h1 v (List.mem_of_mem_drop hv)) ?_
                  intro w17 O54 P54
                  replace hbz := grown_new hbz O54 (by have := ho.lt g rfl; omega)
                  refine st_nil ?_
                  refine nx_then ?_
                  refine cd_seq ?_
                  refine cd_region ?_
                  refine st_val (ro_move (v := .slice _ _ _) rfl) ?_
                  refine st_val (ro_assign (v := .slice _ _ _) rfl) ?_
                  refine st_nil ?_
                  refine nx_then ?_
                  refine cd_ret ?_
                  refine rt_then ?_
                  refine res1 (v := .slice _ _ _) rfl rfl ?_
                  have hnm : i + (n + m - i) = n + m := by omega
                  rw [hnm]
                  have hbg : base ≤ g2 := by omega
                  exact ⟨⟨_, _, rfl, own_of hbg P54 hc2 hc2m (by rw [over_len _ _ _ (by rw [hdl, over_len _ _ _ (by rw [hvl, hcl2]; omega), hcl2]; omega), over_len _ _ _ (by rw [hvl, hcl2]; omega), hcl2]) (ins_take hi hc2 hcl2 hxl hct2 hvl).2⟩, hbz⟩
            · (try first | replace Q4 := bn_t Q4 | replace Q4 := bn_f Q4)
              (try first | replace Q4 := bx_t Q4 | replace Q4 := bx_f Q4 | replace Q4 := be_t Q4 | replace Q4 := be_f Q4 | replace Q4 := of_decide_eq_true Q4 | replace Q4 := of_decide_eq_false Q4)
              first
               | (exfalso; first | omega | contradiction | (cases Q4; done))
               | skip
                 refine cd_skip ?_
                 refine nx_then ?_
                 refine cd_seq ?_
                 refine cd_region ?_
                 refine st_val (ro_move (v := .slice _ _ _) rfl) ?_
                 refine st_val (ro_move (v := .int _ _) rfl) ?_
                 refine st_val (ro_move (v := .int _ _) rfl) ?_
                 refine st_val (ro_addN rfl rfl (by omega)) ?_
                 refine st_val (ro_eq (v' := .slice (some ⟨g, 0, none⟩) (n + m) c) (ro_sliceO (l := 0) (h := n + m) NetWalks_e47 rfl (.inl ⟨rfl, rfl⟩) (.inr ⟨_, _, _, rfl, rfl, rfl⟩) (by omega) (by omega)) (by rw [restOf_head, Nat.sub_zero, Nat.sub_zero])) ?_
                 refine st_val (ro_assign (v := .slice _ _ _) rfl) ?_
                 refine st_nil ?_
                 refine nx_then ?_
                 refine cd_seq ?_
                 refine cd_seq ?_
                 refine cd_region ?_
                 refine st_val (ro_move (v := .slice _ _ _) rfl) ?_
                 refine st_val (ro_move (v := .slice _ _ _) rfl) ?_
                 refine st_val (ro_move (v := .int _ _) rfl) ?_
                 refine st_val (ro_move (v := .int _ _) rfl) ?_
                 refine st_val (ro_addN rfl rfl (by omega)) ?_
                 refine st_val (ro_sliceO (l := i + m) (h := n + m) NetWalks_e47 rfl (.inr ⟨_, _, _, rfl, rfl, rfl⟩) (.inl ⟨rfl, rfl⟩) (by omega) (by omega)) ?_
                 refine st_val (ro_overlaps (tS := 47) (tR := 4) (g1 := b) (o1 := vo) (g2 := g) (o2 := (i + m) * 14) Try.func38 (by kernel_rfl) (by kernel_rfl) (by kernel_rfl) (by kernel_rfl) NetWalks_e47 rfl (by show Value.slice _ _ _ = _; rw [restOf_pos (by omega), Nat.zero_add]) hgb.symm hvb hbk (by simp only [List.size_toArray, hcl]; omega)) ?_
                 refine st_val (ro_bt (ro_not rfl) rfl) ?_
                 refine st_nil ?_
                 refine nx_then ?_
                 refine cd_condT rfl ?_
                 refine cd_seq ?_
                 apply cd_drawnD 8 [(69, eqp _), (70, eqp _), (71, eqp _), (72, eqp _), (73, eqp _), (74, eqp _), (75, eqp _), (76, eqp _)] (by repeat first | exact pq_body | refine pq_then ?_ | refine pq_block ?_) (by kernel_rfl) (by kernel_rfl) ⟨eqp_mono _, eqp_mono _, eqp_mono _, eqp_mono _, eqp_mono _, eqp_mono _, eqp_mono _, eqp_mono _, trivial⟩
                 case hop =>
                  refine ⟨?_, ?_⟩
                  · rintro - w19 D19
                    show OpOK _ _ _ _ _ _ _
                    exact ok_pure (ro_move (v := .slice _ _ _) rfl) rfl
                  refine ⟨?_, ?_⟩
                  · rintro - w20 D20
                    show OpOK _ _ _ _ _ _ _
                    exact ok_pure (ro_move (v := .int _ _) rfl) rfl
                  refine ⟨?_, ?_⟩
                  · rintro - w21 D21
                    show OpOK _ _ _ _ _ _ _
                    exact ok_pure (ro_move (v := .int _ _) rfl) rfl
                  refine ⟨?_, ?_⟩
                  · rintro - w22 D22
                    rintro _ rfl _ rfl
                    show OpOK _ _ _ _ _ _ _
                    exact ok_pure (ro_addN rfl rfl (by omega)) rfl
                  refine ⟨?_, ?_⟩
                  · rintro - w23 D23
                    rintro _ rfl _ rfl
                    show OpOK _ _ _ _ _ _ _
                    exact ok_pure (ro_sliceO (l := i + m) (h := n + m) NetWalks_e47 rfl (.inr ⟨_, _, _, rfl, rfl, rfl⟩) (.inl ⟨rfl, rfl⟩) (by omega) (by omega)) rfl
                  refine ⟨?_, ?_⟩
                  · rintro - w24 D24
                    show OpOK _ _ _ _ _ _ _
                    exact ok_pure (ro_move (v := .slice _ _ _) rfl) rfl
                  refine ⟨?_, ?_⟩
                  · rintro - w25 D25
                    show OpOK _ _ _ _ _ _ _
                    exact ok_pure (ro_move (v := .int _ _) rfl) rfl
                  refine ⟨?_, ?_⟩
                  · rintro - w26 D26
                    rintro _ rfl _ rfl
                    show OpOK _ _ _ _ _ _ _
                    exact ok_pure (ro_sliceO (l := i) (h := n + m) NetWalks_e47 rfl (.inr ⟨_, _, _, rfl, rfl, rfl⟩) (.inl ⟨rfl, rfl⟩) (by omega) (by omega)) rfl
                  exact trivial
                 case hend =>
                  intro w27 D27
                  rintro _ rfl _ rfl _ rfl _ rfl _ rfl _ rfl _ rfl _ rfl
                  show St _ _ _ _ _ _ _
                  replace hbz := grown_trans hbz (From.grown D27 _)
                  replace hbk := hbk.from_ D27
                  have hvr2 := rangeF D27 hvr
                  refine st_copyB (news := xs.drop (i * 14)) (g := g) (o := (i + m) * 14) NetWalks_e47 rfl rfl (by rw [hdl]; congr 1; omega) (fun h => by rw [restOf_pos (by rw [hdl] at h; omega), Nat.zero_add]) (fun h => ⟨g, i * 14, by rw [restOf_pos (by omega), Nat.zero_add], row_drop hbk hct⟩) hbk (by rw [hdl, hcl]; omega) (fun v hv => h1 v (List.mem_of_mem_drop hv)) ?_
                  intro w28 O77 P77
                  replace hbz := grown_trans hbz (Only.grown O77)
                  refine st_nil ?_
                  refine nx_then ?_
                  refine cd_seq ?_
                  refine cd_region ?_
                  refine st_val (ro_move (v := .slice _ _ _) rfl) ?_
                  refine st_val (ro_move (v := .int _ _) rfl) ?_
                  refine st_val (ro_sliceO (l := i) (h := n + m) NetWalks_e47 rfl (.inr ⟨_, _, _, rfl, rfl, rfl⟩) (.inl ⟨rfl, rfl⟩) (by omega) (by omega)) ?_
                  refine st_val (ro_move (v := .slice _ _ _) rfl) ?_
                  refine st_copyB (news := vs) (g := g) (o := i * 14) NetWalks_e47 rfl rfl (by rw [hvl]; congr 1; omega) (fun h => by rw [restOf_pos (by omega), Nat.zero_add]) (fun h => ⟨b, vo, rfl, fun j v hv => (O77.cell (Ne.symm hgb)).trans (hvr2 j v hv)⟩) P77 (by rw [hvl, over_len _ _ _ (by rw [hdl, hcl]; omega), hcl]; omega) h1v ?_
                  intro w29 O82 P82
                  replace hbz := grown_trans hbz (Only.grown O82)
                  refine st_nil ?_
                  refine nx_then ?_
                  refine cd_seq ?_
                  refine cd_region ?_
                  refine st_val (ro_move (v := .slice _ _ _) rfl) ?_
                  refine st_val (ro_assign (v := .slice _ _ _) rfl) ?_
                  refine st_nil ?_
                  refine nx_then ?_
                  refine cd_ret ?_
                  refine rt_then ?_
                  refine res1 (v := .slice _ _ _) rfl rfl ?_
                  have hct3 : cur.take (i * 14) = xs.take (i * 14) := by rw [← hct, List.take_take, Nat.min_eq_left (by omega)]
                  exact ⟨⟨_, _, rfl, own_of hg P82 (by omega) hcm (by rw [over_len _ _ _ (by rw [hvl, over_len _ _ _ (by rw [hdl, hcl]; omega), hcl]; omega), over_len _ _ _ (by rw [hdl, hcl]; omega), hcl]) (ins_take hi (by omega) hcl hxl hct3 hvl).1⟩, hbz⟩
set_option maxRecDepth 100000 in
set_option maxHeartbeats 400000 in
theorem delete_none (A : Option Addr) (c n : Nat) (w : World) (hc : n ≤ c) (hc9 : c ≤ 9223372036854775807) :
    Rt Try.prog 24 [.slice A n c, .int .i64 ((0 : Nat) : Int), .int .i64 ((0 : Nat) : Int)] w (fun v w' => v = .slice A n c ∧ w = w') := by
  refine enter (n := 33) Try.func24 rfl rfl rfl ?_
  refine cd_seq ?_
  refine cd_region ?_
  refine st_val (ro_assign (v := .slice _ _ _) rfl) ?_
  refine st_nil ?_
  refine nx_then ?_
  refine cd_seq ?_
  refine cd_region ?_
  refine st_val (ro_move (v := .slice _ _ _) rfl) ?_
  refine st_val (ro_move (v := .int _ _) rfl) ?_
  refine st_val (ro_move (v := .int _ _) rfl) ?_
  refine st_val (ro_move (v := .slice _ _ _) rfl) ?_
  refine st_val (ro_len NetWalks_l47 rfl) ?_
  refine st_val (ro_slice3 (l := 0) (h := 0) (mx := n) NetWalks_e47 rfl rfl rfl rfl (by omega) (by omega) (by omega)) ?_
  refine st_nil ?_
  refine nx_then ?_
  refine cd_seq ?_
  refine cd_seq ?_
  refine cd_region ?_
  refine st_val (ro_move (v := .int _ _) rfl) ?_
  refine st_val (ro_move (v := .int _ _) rfl) ?_
  refine st_val (ro_bt (ro_eql rfl rfl) rfl) ?_
  refine st_nil ?_
  refine nx_then ?_
  refine cd_condT rfl ?_
  refine cd_seq ?_
  refine cd_region ?_
  refine st_val (ro_move (v := .slice _ _ _) rfl) ?_
  refine st_val (ro_assign (v := .slice _ _ _) rfl) ?_
  refine st_nil ?_
  refine nx_then ?_
  refine cd_ret ?_
  refine rt_then ?_
  refine res1 (v := .slice _ _ _) rfl rfl ?_
  exact ⟨rfl, rfl⟩
set_option maxRecDepth 100000 in
set_option maxHeartbeats 400000 in
theorem clone_nil (w : World) :
    Rt Try.prog 35 [.slice none 0 0] w (fun v w' => v = .slice none 0 0 ∧ w = w') := by
  refine enter (n := 8) Try.func35 rfl rfl rfl ?_
  refine cd_seq ?_
  refine cd_region ?_
  refine st_val (ro_assign (v := .slice _ _ _) rfl) ?_
  refine st_nil ?_
  refine nx_then ?_
  refine cd_seq ?_
  refine cd_seq ?_
  refine cd_region ?_
  refine st_val (ro_move (v := .slice _ _ _) rfl) ?_
  refine st_val (ro_bt (ro_eqlNilS NetWalks_u31 rfl rfl) rfl) ?_
  refine st_nil ?_
  refine nx_then ?_
  refine cd_condT rfl ?_
  refine cd_seq ?_
  refine cd_region ?_
  refine st_val (ro_assign (v := .slice _ _ _) rfl) ?_
  refine st_nil ?_
  refine nx_then ?_
  refine cd_ret ?_
  refine rt_then ?_
  refine res1 (v := .slice _ _ _) rfl rfl ?_
  exact ⟨rfl, rfl⟩
set_option maxRecDepth 100000 in
set_option maxHeartbeats 400000 in
theorem isNaN_rt (x : Int) (w : World) :
    Rt Try.prog 37 [.int .i64 x] w (fun v w' => v = .bool false ∧ w = w') := by
  refine enter (n := 6) Try.func37 rfl rfl rfl ?_
  refine cd_seq ?_
  refine cd_region ?_
  refine st_val (ro_assign (v := .bool _) rfl) ?_
  refine st_nil ?_
  refine nx_then ?_
  refine cd_seq ?_
  refine cd_region ?_
  refine st_val (ro_move (v := .int _ _) rfl) ?_
  refine st_val (ro_move (v := .int _ _) rfl) ?_
  refine st_val (ro_bf (ro_neq rfl rfl) (bne_self_eq_false _)) ?_
  refine st_val (ro_assign (v := .bool _) rfl) ?_
  refine st_nil ?_
  refine nx_then ?_
  refine cd_ret ?_
  refine res1 (v := .bool _) rfl rfl ?_
  exact ⟨rfl, rfl⟩
set_option maxRecDepth 100000 in
set_option maxHeartbeats 400000 in
theorem compare_rt (x y : Int) (w : World) :
    Rt Try.prog 33 [.int .i64 x, .int .i64 y] w (fun v w' => v = .int .i64 (cmpV x y) ∧ w = w') := by
  refine enter (n := 20) Try.func33 rfl rfl rfl ?_
  refine cd_seq ?_
  refine cd_region ?_
  refine st_val (ro_assign (v := .int _ _) rfl) ?_
  refine st_nil ?_
  refine nx_then ?_
  refine cd_seq ?_
  refine cd_region ?_
  refine st_val (ro_move (v := .int _ _) rfl) ?_
  refine st_call NetWalks_k37 (isNaN_rt x _) ?_
  rintro v8 w1 ⟨rfl, rfl⟩
  refine st_val (ro_assign (v := .bool _) rfl) ?_
  refine st_nil ?_
  refine nx_then ?_
  refine cd_seq ?_
  refine cd_region ?_
  refine st_val (ro_move (v := .int _ _) rfl) ?_
  refine st_call NetWalks_k37 (isNaN_rt y _) ?_
  rintro v10 w2 ⟨rfl, rfl⟩
  refine st_val (ro_assign (v := .bool _) rfl) ?_
  refine st_nil ?_
  refine nx_then ?_
  refine cd_seq ?_
  refine cd_seq ?_
  refine cd_region ?_
  refine st_val (ro_move (v := .bool _) rfl) ?_
  refine st_nil ?_
  refine nx_then ?_
  refine cd_condF rfl ?_
  refine cd_skip ?_
  refine nx_then ?_
  refine cd_seq ?_
  refine cd_seq ?_
  refine cd_region ?_
  refine st_val (ro_move (v := .bool _) rfl) ?_
  refine st_nil ?_
  refine nx_then ?_
  refine cd_condF rfl ?_
  refine cd_skip ?_
  refine nx_then ?_
  refine cd_seq ?_
  refine cd_seq ?_
  refine cd_region ?_
  refine st_val (ro_move (v := .int _ _) rfl) ?_
  refine st_val (ro_move (v := .int _ _) rfl) ?_
  refine st_val (ro_lss rfl rfl) ?_
  refine st_nil ?_
  refine nx_then ?_
  refine cd_cond rfl (fun Q3 => ?_) (fun Q3 => ?_)
  · (try first | replace Q3 := bn_t Q3 | replace Q3 := bn_f Q3)
    (try first | replace Q3 := bx_t Q3 | replace Q3 := bx_f Q3 | replace Q3 := be_t Q3 | replace Q3 := be_f Q3 | replace Q3 := of_decide_eq_true Q3 | replace Q3 := of_decide_eq_false Q3)
    first
     | (exfalso; first | omega | contradiction | (cases Q3; done))
     | skip
       refine cd_seq ?_
       refine cd_region ?_
       refine st_val (ro_assign (v := .int _ _) rfl) ?_
       refine st_nil ?_
       refine nx_then ?_
       refine cd_ret ?_
       refine rt_then ?_
       refine res1 (v := .int _ _) rfl rfl ?_
       refine ⟨int_eq ?_, rfl⟩
       unfold cmpV
       split <;> (try split) <;> omega
  · (try first | replace Q3 := bn_t Q3 | replace Q3 := bn_f Q3)
    (try first | replace Q3 := bx_t Q3 | replace Q3 := bx_f Q3 | replace Q3 := be_t Q3 | replace Q3 := be_f Q3 | replace Q3 := of_decide_eq_true Q3 | replace Q3 := of_decide_eq_false Q3)
    first
     | (exfalso; first | omega | contradiction | (cases Q3; done))
     | skip
       refine cd_skip ?_
       refine nx_then ?_
       refine cd_seq ?_
       refine cd_seq ?_
       refine cd_region ?_
       refine st_val (ro_move (v := .int _ _) rfl) ?_
       refine st_val (ro_move (v := .int _ _) rfl) ?_
       refine st_val (ro_gtr rfl rfl) ?_
       refine st_nil ?_
       refine nx_then ?_
       refine cd_cond rfl (fun Q4 => ?_) (fun Q4 => ?_)
       · (try first | replace Q4 := bn_t Q4 | replace Q4 := bn_f Q4)
         (try first | replace Q4 := bx_t Q4 | replace Q4 := bx_f Q4 | replace Q4 := be_t Q4 | replace Q4 := be_f Q4 | replace Q4 := of_decide_eq_true Q4 | replace Q4 := of_decide_eq_false Q4)
         first
          | (exfalso; first | omega | contradiction | (cases Q4; done))
          | skip
            refine cd_seq ?_
            refine cd_region ?_
            refine st_val (ro_assign (v := .int _ _) rfl) ?_
            refine st_nil ?_
            refine nx_then ?_
            refine cd_ret ?_
            refine rt_then ?_
            refine res1 (v := .int _ _) rfl rfl ?_
            refine ⟨int_eq ?_, rfl⟩
            unfold cmpV
            split <;> (try split) <;> omega
       · (try first | replace Q4 := bn_t Q4 | replace Q4 := bn_f Q4)
         (try first | replace Q4 := bx_t Q4 | replace Q4 := bx_f Q4 | replace Q4 := be_t Q4 | replace Q4 := be_f Q4 | replace Q4 := of_decide_eq_true Q4 | replace Q4 := of_decide_eq_false Q4)
         first
          | (exfalso; first | omega | contradiction | (cases Q4; done))
          | skip
            refine cd_skip ?_
            refine nx_then ?_
            refine cd_seq ?_
            refine cd_region ?_
            refine st_val (ro_assign (v := .int _ _) rfl) ?_
            refine st_nil ?_
            refine nx_then ?_
            refine cd_ret ?_
            refine res1 (v := .int _ _) rfl rfl ?_
            refine ⟨int_eq ?_, rfl⟩
            unfold cmpV
            split <;> (try split) <;> omega
set_option maxRecDepth 100000 in
set_option maxHeartbeats 400000 in
theorem due1_rt (p : Msg × Int) (t : Int) (w : World) :
    Rt Try.prog 32 [.agg (parV p).toArray, .int .i64 t] w (fun v w' => v = .int .i64 (dueV p.2 t) ∧ From w w') := by
  refine enter (n := 13) Try.func32 rfl rfl rfl ?_
  refine cd_seq ?_
  refine cd_region ?_
  refine st_box (v := .agg _) rfl ?_
  intro b2 w1 E2 hb2 hk2
  refine st_val (ro_assign (v := .int _ _) rfl) ?_
  refine st_nil ?_
  refine nx_then ?_
  refine cd_seq ?_
  refine cd_seq ?_
  refine cd_region ?_
  refine st_val (ro_fieldAddr NetWalks_f53_1 rfl) ?_
  refine st_val (ro_load NetWalks_g3 rfl (by exact (hk2.from_ From.rfl_).rd 13 rfl)) ?_
  refine st_val (ro_move (v := .int _ _) rfl) ?_
  refine st_val (ro_leq rfl rfl) ?_
  refine st_nil ?_
  refine nx_then ?_
  refine cd_cond rfl (fun Q2 => ?_) (fun Q2 => ?_)
  · (try first | replace Q2 := bn_t Q2 | replace Q2 := bn_f Q2)
    (try first | replace Q2 := bx_t Q2 | replace Q2 := bx_f Q2 | replace Q2 := be_t Q2 | replace Q2 := be_f Q2 | replace Q2 := of_decide_eq_true Q2 | replace Q2 := of_decide_eq_false Q2)
    refine cd_seq ?_
    refine cd_region ?_
    refine st_val (ro_assign (v := .int _ _) rfl) ?_
    refine st_nil ?_
    refine nx_then ?_
    refine cd_ret ?_
    refine rt_then ?_
    refine res1 (v := .int _ _) rfl rfl ?_
    refine ⟨int_eq ?_, (From.rfl_.next E2)⟩
    unfold dueV
    first
      | (rw [if_pos (by assumption)]; done)
      | (rw [if_neg (by assumption)]; unfold cmpV; rw [if_neg (by omega), if_pos (by omega)])
  · (try first | replace Q2 := bn_t Q2 | replace Q2 := bn_f Q2)
    (try first | replace Q2 := bx_t Q2 | replace Q2 := bx_f Q2 | replace Q2 := be_t Q2 | replace Q2 := be_f Q2 | replace Q2 := of_decide_eq_true Q2 | replace Q2 := of_decide_eq_false Q2)
    refine cd_skip ?_
    refine nx_then ?_
    refine cd_seq ?_
    refine cd_region ?_
    refine st_val (ro_fieldAddr NetWalks_f53_1 rfl) ?_
    refine st_val (ro_load NetWalks_g3 rfl (by exact (hk2.from_ From.rfl_).rd 13 rfl)) ?_
    refine st_val (ro_move (v := .int _ _) rfl) ?_
    refine st_call NetWalks_k33 (compare_rt p.2 t _) ?_
    rintro v12 w3 ⟨rfl, rfl⟩
    refine st_val (ro_assign (v := .int _ _) rfl) ?_
    refine st_nil ?_
    refine nx_then ?_
    refine cd_ret ?_
    refine res1 (v := .int _ _) rfl rfl ?_
    refine ⟨int_eq ?_, (From.rfl_.next E2)⟩
    unfold dueV
    first
      | (rw [if_pos (by assumption)]; done)
      | (rw [if_neg (by assumption)]; unfold cmpV; rw [if_neg (by omega), if_pos (by omega)])
theorem due_cal : callable Try.prog 32 = true := by kernel_rfl
set_option maxRecDepth 100000 in
set_option maxHeartbeats 400000 in
theorem search_rt (A : Option Addr) (c : Nat) (L : Pars) (w : World) (hr : RowP w A L) (hl : L.length ≤ 1000000) (t : Int) (hs : Sorted L) :
    Rt Try.prog 31 [.slice A L.length c, .int .i64 t, .func (.func 32) #[] #[]] w (fun v w' => (∃ i : Nat, v = .tuple #[.int .i64 (i : Nat), .bool false] ∧ Cut L t i) ∧ From w w') := by
  refine enter (n := 49) Try.func31 rfl rfl rfl ?_
  refine cd_seq ?_
  refine cd_region ?_
  refine st_val (ro_assign (v := .int _ _) rfl) ?_
  refine st_val (ro_assign (v := .bool _) rfl) ?_
  refine st_nil ?_
  refine nx_then ?_
  refine cd_seq ?_
  refine cd_region ?_
  refine st_val (ro_move (v := .slice _ _ _) rfl) ?_
  refine st_val (ro_len NetWalks_l47 rfl) ?_
  refine st_val (ro_assign (v := .int _ _) rfl) ?_
  refine st_nil ?_
  refine nx_then ?_
  refine cd_seq ?_
  refine cd_region ?_
  refine st_val (ro_move (v := .int _ _) rfl) ?_
  refine st_val (ro_assign (v := .int _ _) rfl) ?_
  refine st_val (ro_assign (v := .int _ _) rfl) ?_
  refine st_nil ?_
  refine nx_then ?_
  refine cd_seq ?_
  refine cd_block ?_
  refine cd_loop (G := Nat × Nat) [11, 15, 16, 17, 18, 19, 20, 21, 22, 23, 24, 25, 26, 27, 28, 29, 30, 31, 32, 33, 34] (fun (i, j) => [(9, .int .i64 (i : Nat)), (10, .int .i64 (j : Nat))]) (fun (i, j) w' => i ≤ j ∧ j ≤ L.length ∧ (∀ x (hx : x < L.length), x < i → L[x].2 ≤ t) ∧ (∀ x (hx : x < L.length), j ≤ x → t < L[x].2) ∧ From w w') (fun (i, j) => j - i) ((0, L.length)) ⟨rfl, rfl, trivial⟩ ?_ ?_
  · exact ⟨Nat.zero_le _, Nat.le_refl _, fun x _ h => absurd h (by omega), fun x h1 h2 => absurd h1 (by omega), From.rfl_⟩
  rintro ⟨i, j⟩ ρ1 w1 ⟨hij, hjn, hlo, hhi, hB⟩
  refine cd_seq ?_
  refine cd_seq ?_
  refine cd_region ?_
  refine st_val (ro_move (v := .int _ _) rfl) ?_
  refine st_val (ro_move (v := .int _ _) rfl) ?_
  refine st_val (ro_lss rfl rfl) ?_
  refine st_nil ?_
  refine nx_then ?_
  refine cd_cond rfl (fun Q2 => ?_) (fun Q2 => ?_)
  · (try first | replace Q2 := bn_t Q2 | replace Q2 := bn_f Q2)
    (try first | replace Q2 := bx_t Q2 | replace Q2 := bx_f Q2 | replace Q2 := be_t Q2 | replace Q2 := be_f Q2 | replace Q2 := of_decide_eq_true Q2 | replace Q2 := of_decide_eq_false Q2)
    obtain ⟨ba, oa, rfl, hcs⟩ := hr (by omega)
    first
     | (exfalso; first | omega | contradiction | (cases Q2; done))
     | skip
       refine cd_skip ?_
       refine nx_then ?_
       refine cd_block ?_
       refine cd_seq ?_
       refine cd_region ?_
       refine st_val (ro_move (v := .int _ _) rfl) ?_
       refine st_val (ro_move (v := .int _ _) rfl) ?_
       refine st_val (ro_addN rfl rfl (by omega)) ?_
       obtain ⟨h, hh⟩ : ∃ h, h = (i + j) / 2 ^ 1 := ⟨_, rfl⟩
       
       refine st_val (ro_conv64 NetWalks_s3 NetWalks_i50 rfl (by omega)) ?_
       refine st_val (ro_shrN (b := 1) rfl rfl (by decide)) ?_
       refine st_val (ro_convI NetWalks_s50 NetWalks_i3 rfl (by omega)) ?_
       refine st_spell (t := 23) (v := .int _ _) (v' := .int .i64 (h : Nat)) rfl (by rw [hh]) ?_
       refine st_val (ro_assign (v := .int _ _) rfl) ?_
       refine st_nil ?_
       refine nx_then ?_
       refine cd_seq ?_
       refine cd_region ?_
       refine st_val (ro_move (v := .func _ _ _) rfl) ?_
       refine st_val (ro_move (v := .slice _ _ _) rfl) ?_
       refine st_val (ro_move (v := .int _ _) rfl) ?_
       refine st_val (ro_indexAddrN NetWalks_e47 rfl rfl (by omega)) ?_
       refine st_val (ro_loadA (cs := parV L[h]) NetWalks_g53 NetWalks_z53 rfl (rangeF hB (hcs h (by omega)))) ?_
       refine st_val (ro_move (v := .int _ _) rfl) ?_
       refine st_callF (caps := []) rfl due_cal (due1_rt L[h] t _) ?_
       rintro v30 w3 ⟨rfl, E30⟩
       refine st_val (ro_lss rfl rfl) ?_
       refine st_nil ?_
       refine nx_then ?_
       refine cd_cond rfl (fun Q4 => ?_) (fun Q4 => ?_)
       · (try first | replace Q4 := bn_t Q4 | replace Q4 := bn_f Q4)
         (try first | replace Q4 := bx_t Q4 | replace Q4 := bx_f Q4 | replace Q4 := be_t Q4 | replace Q4 := be_f Q4 | replace Q4 := of_decide_eq_true Q4 | replace Q4 := of_decide_eq_false Q4)
         have h31 := due_neg.1 Q4
         first
          | (exfalso; first | omega | contradiction | (cases Q4; done))
          | skip
            refine cd_region ?_
            refine st_val (ro_move (v := .int _ _) rfl) ?_
            refine st_val (ro_addN (b := 1) rfl rfl (by omega)) ?_
            refine st_val (ro_assign (v := .int _ _) rfl) ?_
            refine st_nil ?_
            refine nx_block ?_
            refine nx_cut ((h + 1, j)) ⟨(by first | rfl | (refine int_eq ?_; omega)), (by first | rfl | (refine int_eq ?_; omega)), trivial⟩ (by (iterate 45 refine agr_cons rfl ?_); exact agr_rfl) ⟨?_, ?_⟩
            · refine ⟨by omega, hjn, fun x hx hxi => ?_, hhi, (hB.next E30)⟩
              rcases Nat.lt_or_ge x h with a | a
              · have := hs x h hx (by omega) a
                omega
              · obtain rfl : x = h := by omega
                exact h31
            · show j - (h + 1) < j - i; omega
       · (try first | replace Q4 := bn_t Q4 | replace Q4 := bn_f Q4)
         (try first | replace Q4 := bx_t Q4 | replace Q4 := bx_f Q4 | replace Q4 := be_t Q4 | replace Q4 := be_f Q4 | replace Q4 := of_decide_eq_true Q4 | replace Q4 := of_decide_eq_false Q4)
         have h31 : ¬ L[h].2 ≤ t := fun a => absurd (due_neg.2 a) Q4
         first
          | (exfalso; first | omega | contradiction | (cases Q4; done))
          | skip
            refine cd_region ?_
            refine st_val (ro_move (v := .int _ _) rfl) ?_
            refine st_val (ro_assign (v := .int _ _) rfl) ?_
            refine st_nil ?_
            refine nx_block ?_
            refine nx_cut ((i, h)) ⟨(by first | rfl | (refine int_eq ?_; omega)), (by first | rfl | (refine int_eq ?_; omega)), trivial⟩ (by (iterate 44 refine agr_cons rfl ?_); exact agr_rfl) ⟨?_, ?_⟩
            · refine ⟨by omega, by omega, hlo, fun x hx hxi => ?_, (hB.next E30)⟩
              rcases Nat.lt_or_ge h x with a | a
              · have := hs h x (by omega) hx a
                omega
              · obtain rfl : x = h := by omega
                omega
            · show h - i < j - i; omega
  · (try first | replace Q2 := bn_t Q2 | replace Q2 := bn_f Q2)
    (try first | replace Q2 := bx_t Q2 | replace Q2 := bx_f Q2 | replace Q2 := be_t Q2 | replace Q2 := be_f Q2 | replace Q2 := of_decide_eq_true Q2 | replace Q2 := of_decide_eq_false Q2)
    first
     | (exfalso; first | omega | contradiction | (cases Q2; done))
     | skip
       refine cd_exit ?_
       refine ex_then ?_
       refine ex_then ?_
       refine ex_block ?_
       refine nx_then ?_
       refine cd_seq ?_
       refine cd_region ?_
       refine st_val (ro_move (v := .int _ _) rfl) ?_
       refine st_val (ro_move (v := .int _ _) rfl) ?_
       refine st_val (ro_move (v := .int _ _) rfl) ?_
       refine st_val (ro_lss rfl rfl) ?_
       refine st_val (ro_move (v := .bool _) rfl) ?_
       refine st_split (t := 39) rfl (fun Q5 => ?_) (fun Q5 => ?_)
       · (try first | replace Q5 := bn_t Q5 | replace Q5 := bn_f Q5)
         (try first | replace Q5 := bx_t Q5 | replace Q5 := bx_f Q5 | replace Q5 := be_t Q5 | replace Q5 := be_f Q5 | replace Q5 := of_decide_eq_true Q5 | replace Q5 := of_decide_eq_false Q5)
         obtain ⟨ba, oa, rfl, hcs⟩ := hr (by omega)
         first
          | (exfalso; first | omega | contradiction | (cases Q5; done))
          | skip
            refine st_unguard rfl ?_
            refine st_val (ro_move (v := .func _ _ _) rfl) ?_
            refine st_unguard rfl ?_
            refine st_val (ro_move (v := .slice _ _ _) rfl) ?_
            refine st_unguard rfl ?_
            refine st_val (ro_move (v := .int _ _) rfl) ?_
            refine st_unguard rfl ?_
            refine st_val (ro_indexAddrN NetWalks_e47 rfl rfl (by omega)) ?_
            refine st_unguard rfl ?_
            refine st_val (ro_loadA (cs := parV L[i]) NetWalks_g53 NetWalks_z53 rfl (rangeF hB (hcs i (by omega)))) ?_
            refine st_unguard rfl ?_
            refine st_val (ro_move (v := .int _ _) rfl) ?_
            refine st_unguard rfl ?_
            refine st_callF (caps := []) rfl due_cal (due1_rt L[i] t _) ?_
            rintro v46 w6 ⟨rfl, E46⟩
            refine st_unguard rfl ?_
            refine st_val (ro_bf (ro_eql rfl rfl) (beq_eq_false_iff_ne.2 due_zero)) ?_
            refine st_val (ro_pickT (v := .bool _) rfl rfl) ?_
            refine st_val (ro_assign (v := .int _ _) rfl) ?_
            refine st_val (ro_assign (v := .bool _) rfl) ?_
            refine st_nil ?_
            refine nx_then ?_
            refine cd_ret ?_
            refine res2 (v := .int _ _) (v' := .bool _) rfl rfl rfl ?_
            obtain rfl : i = j := by omega
            exact ⟨⟨i, rfl, hjn, hlo, hhi⟩, (hB.next E46)⟩
       · (try first | replace Q5 := bn_t Q5 | replace Q5 := bn_f Q5)
         (try first | replace Q5 := bx_t Q5 | replace Q5 := bx_f Q5 | replace Q5 := be_t Q5 | replace Q5 := be_f Q5 | replace Q5 := of_decide_eq_true Q5 | replace Q5 := of_decide_eq_false Q5)
         first
          | (exfalso; first | omega | contradiction | (cases Q5; done))
          | skip
            refine st_gno rfl rfl ?_
            refine st_gno rfl rfl ?_
            refine st_gno rfl rfl ?_
            refine st_gno rfl rfl ?_
            refine st_gno rfl rfl ?_
            refine st_gno rfl rfl ?_
            refine st_gno rfl rfl ?_
            refine st_gno rfl rfl ?_
            refine st_val (ro_pickF (v := .bool _) rfl rfl) ?_
            refine st_val (ro_assign (v := .int _ _) rfl) ?_
            refine st_val (ro_assign (v := .bool _) rfl) ?_
            refine st_nil ?_
            refine nx_then ?_
            refine cd_ret ?_
            refine res2 (v := .int _ _) (v' := .bool _) rfl rfl rfl ?_
            obtain rfl : i = j := by omega
            exact ⟨⟨i, rfl, hjn, hlo, hhi⟩, hB⟩
/-- nothing but block b and row r has changed; more may be there -/
structure But2 (b : Nat) (r : Option Nat) (w w' : World) : Prop where
  os : w'.os = w.os
  tape : w'.tape = w.tape
  output : w'.output = w.output
  size : w.heap.size ≤ w'.heap.size
  block : ∀ k, k < w.heap.size → k ≠ b → some k ≠ r → w'.heap[k]? = w.heap[k]?
theorem But2.of_from {b : Nat} {r : Option Nat} {w w' : World} (h : From w w') : But2 b r w w' := ⟨h.os, h.tape, h.output, h.size, fun k hk _ _ => h.block k hk⟩
theorem But2.of_grown {b : Nat} {r : Option Nat} {w w' : World} (h : w.grownBy w' r) : But2 b r w w' := ⟨h.os, h.tape, h.output, h.size, fun k hk _ hr => h.block k hk hr⟩
theorem But2.of_only {b : Nat} {r : Option Nat} {w w' : World} (h : Only b w w') : But2 b r w w' := ⟨h.os, h.tape, h.output, by rw [h.size]; exact Nat.le_refl _, fun k _ hk _ => h.block k hk⟩
theorem But2.from_ {b : Nat} {r : Option Nat} {a w w' : World} (h : From a w) (o : But2 b r w w') (hb : a.heap.size ≤ b) (hr : ∀ k, r = some k → a.heap.size ≤ k) : From a w' :=
  ⟨o.os.trans h.os, o.tape.trans h.tape, o.output.trans h.output, Nat.le_trans h.size o.size, fun k hk => (o.block k (Nat.lt_of_lt_of_le hk h.size) (by omega) (fun e => by have := hr k e.symm; omega)).trans (h.block k hk)⟩
/-- first one row, then another, which is the first or new -/
theorem But2.trans {b : Nat} {r r' : Option Nat} {w w1 w2 : World} (h : But2 b r w w1) (k : But2 b r' w1 w2) (hr : ∀ i, r' = some i → r = some i ∨ w.heap.size ≤ i) : But2 b r w w2 :=
  ⟨k.os.trans h.os, k.tape.trans h.tape, k.output.trans h.output, Nat.le_trans h.size k.size, fun i hi hb hn => (k.block i (Nat.lt_of_lt_of_le hi h.size) hb (fun e => by
    rcases hr i e.symm with x | x
    · exact hn x.symm
    · omega)).trans (h.block i hi hb hn)⟩
theorem Blk.but2 {b : Nat} {r : Option Nat} {w w' : World} {g : Nat} {t : TypeId} {cs : Array Value} (h : Blk w g t cs) (o : But2 b r w w') (hb : g ≠ b) (hr : some g ≠ r) : Blk w' g t cs := (o.block g h.lt hb hr).trans h
/-- a network: its block, its row -/
def rowB (A : Option Addr) : Option Nat := A.map (·.block)
def NetAt (w : World) (base b : Nat) (A : Option Addr) (c : Nat) (L : Pars) : Prop := base ≤ b ∧ Blk w b 49 #[.slice A L.length c] ∧ w.ownsRow base 53 14 (.slice A L.length c) L.length (L.flatMap parV)
theorem NetAt.from_ {w w' : World} {base b c : Nat} {A : Option Addr} {L : Pars} (h : NetAt w base b A c L) (hF : From w w') : NetAt w' base b A c L := ⟨h.1, h.2.1.from_ hF, h.2.2.kept_from hF⟩
theorem NetAt.row {w : World} {base b c : Nat} {A : Option Addr} {L : Pars} (h : NetAt w base b A c L) : RowP w A L := (RowK.own par_len (by decide) h.2.2).2
theorem NetAt.off {w : World} {base b c : Nat} {A : Option Addr} {L : Pars} (h : NetAt w base b A c L) {g t : Nat} {cs : Array Value} (hb : Blk w g t cs) (ht : t ≠ 53) : some g ≠ rowB A := fun e => own_off h.2.2 hb ht g e.symm rfl
theorem NetAt.ge {w : World} {base b c : Nat} {A : Option Addr} {L : Pars} (h : NetAt w base b A c L) : ∀ k, rowB A = some k → base ≤ k ∧ k < w.heap.size := fun k hk => own_at h.2.2 k hk
/-- the network's row is the old one, or new -/
def NewRow (w : World) (A A' : Option Addr) : Prop := ∀ i, rowB A' = some i → rowB A = some i ∨ w.heap.size ≤ i
theorem NewRow.trans {w w1 : World} {A A1 A2 : Option Addr} (h : NewRow w A A1) (k : NewRow w1 A1 A2) (hs : w.heap.size ≤ w1.heap.size) : NewRow w A A2 := fun i hi => by
  rcases k i hi with x | x
  · exact h i x
  · exact .inr (by omega)
theorem NewRow.rfl_ {w : World} {A : Option Addr} : NewRow w A A := fun i h => .inl h
set_option maxRecDepth 100000 in
set_option maxHeartbeats 400000 in
theorem count_rt (base b : Nat) (A : Option Addr) (c : Nat) (L : Pars) (w : World) (hn : NetAt w base b A c L) (hl : L.length ≤ 1000000) :
    Rt Try.prog 18 [.pointer (some ⟨b, 0, none⟩)] w (fun v w' => v = .int .i64 (L.length : Nat) ∧ w = w') := by
  refine enter (n := 8) Try.func18 rfl rfl rfl ?_
  refine cd_seq ?_
  refine cd_region ?_
  refine st_val (ro_assign (v := .int _ _) rfl) ?_
  refine st_nil ?_
  refine nx_then ?_
  refine cd_seq ?_
  refine cd_region ?_
  refine st_val (ro_move (v := .pointer _) rfl) ?_
  refine st_val (ro_nilCheck rfl) ?_
  refine st_val (ro_fieldAddr NetWalks_f49_0 rfl) ?_
  refine st_val (ro_load NetWalks_g47 rfl (by exact hn.2.1.rd 0 rfl)) ?_
  refine st_val (ro_len NetWalks_l47 rfl) ?_
  refine st_val (ro_assign (v := .int _ _) rfl) ?_
  refine st_nil ?_
  refine nx_then ?_
  refine cd_ret ?_
  refine res1 (v := .int _ _) rfl rfl ?_
  exact ⟨rfl, rfl⟩
set_option maxRecDepth 100000 in
set_option maxHeartbeats 400000 in
theorem due_rt (base b : Nat) (A : Option Addr) (c : Nat) (L : Pars) (w : World) (hn : NetAt w base b A c L) (hl : L.length ≤ 1000000) (t : Int) (hs : Sorted L) :
    Rt Try.prog 23 [.pointer (some ⟨b, 0, none⟩), .int .i64 t] w (fun v w' => (∃ i : Nat, v = .int .i64 (i : Nat) ∧ Cut L t i) ∧ From w w') := by
  refine enter (n := 17) Try.func23 rfl rfl rfl ?_
  refine cd_seq ?_
  refine cd_region ?_
  refine st_val (ro_assign (v := .int _ _) rfl) ?_
  refine st_nil ?_
  refine nx_then ?_
  refine cd_seq ?_
  refine cd_region ?_
  refine st_val (ro_move (v := .pointer _) rfl) ?_
  refine st_val (ro_nilCheck rfl) ?_
  refine st_val (ro_fieldAddr NetWalks_f49_0 rfl) ?_
  refine st_val (ro_load NetWalks_g47 rfl (by exact hn.2.1.rd 0 rfl)) ?_
  refine st_val (ro_move (v := .int _ _) rfl) ?_
  refine st_call NetWalks_k31 (search_rt A c L _ (hn.row.from_ From.rfl_) hl t hs) ?_
  rintro v13 w1 ⟨⟨i, rfl, hcut⟩, E13⟩
  refine st_val (ro_move (v := .tuple _) rfl) ?_
  refine st_val (ro_extract rfl rfl) ?_
  refine st_val (ro_extract rfl rfl) ?_
  refine st_val (ro_assign (v := .int _ _) rfl) ?_
  refine st_val (ro_assign (v := .bool _) rfl) ?_
  refine st_nil ?_
  refine nx_then ?_
  refine cd_seq ?_
  refine cd_region ?_
  refine st_val (ro_move (v := .int _ _) rfl) ?_
  refine st_val (ro_assign (v := .int _ _) rfl) ?_
  refine st_nil ?_
  refine nx_then ?_
  refine cd_ret ?_
  refine res1 (v := .int _ _) rfl rfl ?_
  exact ⟨⟨i, rfl, hcut⟩, (From.rfl_.next E13)⟩
end Go.Proofs.Ythakmhdliginoaa
