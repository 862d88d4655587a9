/- session: validSession, Check, find; the reference: May, Find. -/
import Derived.Test.YtbikemhokgcboaaSesWalks
namespace Go.Proofs.Ytbikemhokgcboaa
open Go.RowKit
open Go.ChangeShapes Go.WideShapes Go.ChangeAt
theorem SesWalks2_f60_0 : fieldQ Try.prog 60 0 = some 0 := by kernel_rfl
theorem SesWalks2_g3 : aggQ Try.prog 3 = some false := by kernel_rfl
theorem SesWalks2_q55 : litQ Try.prog 55 = some (3, 1, 8, (.int .i64 0)) := by kernel_rfl
theorem SesWalks2_k37 : callable Try.prog 37 = true := by kernel_rfl
theorem SesWalks2_f60_1 : fieldQ Try.prog 60 1 = some 1 := by kernel_rfl
theorem SesWalks2_f60_3 : fieldQ Try.prog 60 3 = some 5 := by kernel_rfl
theorem SesWalks2_f60_2 : fieldQ Try.prog 60 2 = some 2 := by kernel_rfl
theorem SesWalks2_g31 : aggQ Try.prog 31 = some true := by kernel_rfl
theorem SesWalks2_z31 : sizeQ Try.prog 31 = some 3 := by kernel_rfl
theorem SesWalks2_k41 : callable Try.prog 41 = true := by kernel_rfl
theorem SesWalks2_l22 : (elemQ Try.prog 22).isSome = true := by kernel_rfl
theorem SesWalks2_e22 : elemQ Try.prog 22 = some (60, 6) := by kernel_rfl
theorem SesWalks2_g60 : aggQ Try.prog 60 = some true := by kernel_rfl
theorem SesWalks2_z60 : sizeQ Try.prog 60 = some 6 := by kernel_rfl
theorem SesWalks2_o60 : zeroQ Try.prog 60 = some (.agg #[.int .i64 0, .int .i64 0, .int .i64 0, .int .i64 0, .slice none 0 0, .int .i64 0]) := by kernel_rfl
theorem SesWalks2_k35 : callable Try.prog 35 = true := by kernel_rfl
theorem SesWalks2_k32 : callable Try.prog 32 = true := by kernel_rfl
theorem SesWalks2_k33 : callable Try.prog 33 = true := by kernel_rfl
theorem SesWalks2_k34 : callable Try.prog 34 = true := by kernel_rfl
theorem rep_of {w : World} {b t : Nat} {v0 v1 v2 v3 v4 v5 : Value} (h : Blk w b t #[v0, v1, v2, v3, v4, v5]) : w.rangeAt b (0 + 2) [v2, v3, v4] := fun j v hv => by
  rw [h.cell]
  match j, hv with
  | 0, hv => exact hv
  | 1, hv => exact hv
  | 2, hv => exact hv
  | j + 3, hv => simp at hv
theorem rep_at {w : World} {b a : Nat} {v0 v1 v2 v3 v4 v5 : Value} (h : w.rangeAt b a [v0, v1, v2, v3, v4, v5]) : w.rangeAt b (a + 2) [v2, v3, v4] := fun j v hv => by
  rw [Nat.add_assoc]
  match j, hv with
  | 0, hv => exact h 2 v hv
  | 1, hv => exact h 3 v hv
  | 2, hv => exact h 4 v hv
  | j + 3, hv => simp at hv
theorem rep_ses {w : World} {b a : Nat} {x : Ses} (h : w.rangeAt b a (sesV x)) : w.rangeAt b (a + 2) [.int .i64 x.e, .int .i64 x.n, .slice x.H x.hl x.hc] := rep_at h
theorem vS_eq (x : Ses) : vS x = (inE 1 x.c && (inE 0 x.s && inE 0 x.u) && vR x.e x.n x.hl) := by
  unfold vS inE
  rw [Bool.eq_iff_iff]
  simp only [Bool.and_eq_true, decide_eq_true_eq]
theorem may7 (x : Ses) (p : Int) (k : Nat) : inE 1 x.c = false ∨ (inE 1 x.c = true ∧ inE 0 x.s = false) ∨ (inE 1 x.c = true ∧ inE 0 x.s = true ∧ inE 0 x.u = false) ∨ (inE 1 x.c = true ∧ inE 0 x.s = true ∧ inE 0 x.u = true ∧ vR x.e x.n x.hl = false) ∨
    (vS x = true ∧ inE 1 x.c = true ∧ inE 0 x.s = true ∧ inE 0 x.u = true ∧ vR x.e x.n x.hl = true ∧ k = 0) ∨ (vS x = true ∧ inE 1 x.c = true ∧ inE 0 x.s = true ∧ inE 0 x.u = true ∧ vR x.e x.n x.hl = true ∧ 0 < k ∧ p < x.c) ∨
    (inE 1 x.c = true ∧ inE 0 x.s = true ∧ inE 0 x.u = true ∧ vR x.e x.n x.hl = true ∧ 0 < k ∧ x.c ≤ p) := by
  rw [vS_eq]
  cases inE 1 x.c <;> cases inE 0 x.s <;> cases inE 0 x.u <;> cases vR x.e x.n x.hl <;> simp <;> omega
set_option maxRecDepth 100000 in
set_option maxHeartbeats 400000 in
theorem validSession_rt (x : Ses) (w : World) :
    Rt Try.prog 35 [.agg #[.int .i64 x.c, .int .i64 x.s, .int .i64 x.e, .int .i64 x.n, .slice x.H x.hl x.hc, .int .i64 x.u]] w (fun v w' => v = .bool (vS x) ∧ From w w') := by
  refine enter (n := 20) Try.func35 rfl rfl rfl ?_
  refine cd_seq ?_
  refine cd_region ?_
  refine st_box (v := .agg _) rfl ?_
  intro b1 w1 E1 hb1 hk1
  refine st_val (ro_assign (v := .bool _) rfl) ?_
  refine st_nil ?_
  refine nx_then ?_
  refine cd_seq ?_
  refine cd_region ?_
  refine st_val (ro_fieldAddr SesWalks2_f60_0 rfl) ?_
  refine st_val (ro_load SesWalks2_g3 rfl (by exact (hk1.from_ From.rfl_).rd 0 rfl)) ?_
  refine st_lit1 (v := .int _ _) SesWalks2_q55 rfl rfl rfl ?_
  intro b5 w2 E5 hb5 hk5
  refine st_call SesWalks2_k37 (within1 1 x.c b5 _ hk5) ?_
  rintro v6 w3 ⟨rfl, rfl⟩
  refine st_val (ro_move (v := .bool _) rfl) ?_
  refine st_split (t := 7) rfl (fun Q4 => ?_) (fun Q4 => ?_)
  · (try first | replace Q4 := bn_t Q4 | replace Q4 := bn_f Q4)
    (try first | replace Q4 := bx_t Q4 | replace Q4 := bx_f Q4 | replace Q4 := be_t Q4 | replace Q4 := be_f Q4 | replace Q4 := of_decide_eq_true Q4 | replace Q4 := of_decide_eq_false Q4)
    have hA : inE 1 x.c = true := decide_eq_true Q4
    refine st_unguard rfl ?_
    refine st_val (ro_fieldAddr SesWalks2_f60_1 rfl) ?_
    refine st_unguard rfl ?_
    refine st_val (ro_load SesWalks2_g3 rfl (by exact (hk1.from_ (From.rfl_.next E5)).rd 1 rfl)) ?_
    refine st_unguard rfl ?_
    refine st_val (ro_fieldAddr SesWalks2_f60_3 rfl) ?_
    refine st_unguard rfl ?_
    refine st_val (ro_load SesWalks2_g3 rfl (by exact (hk1.from_ (From.rfl_.next E5)).rd 5 rfl)) ?_
    refine st_unguard rfl ?_
    refine st_lits [.tmp 9, .tmp 11] [.int _ _, .int _ _] SesWalks2_q55 rfl rfl rfl rfl (by simp [Value.cells]) ?_
    intro b12 w5 E12 hb12 hk12
    refine st_unguard rfl ?_
    refine st_call SesWalks2_k37 (within2 0 x.s x.u b12 _ hk12) ?_
    rintro v13 w6 ⟨rfl, rfl⟩
    refine st_val (ro_pickT (v := .bool _) rfl rfl) ?_
    refine st_val (ro_move (v := .bool _) rfl) ?_
    refine st_split (t := 15) rfl (fun Q7 => ?_) (fun Q7 => ?_)
    · (try first | replace Q7 := bn_t Q7 | replace Q7 := bn_f Q7)
      (try first | replace Q7 := bx_t Q7 | replace Q7 := bx_f Q7 | replace Q7 := be_t Q7 | replace Q7 := be_f Q7 | replace Q7 := of_decide_eq_true Q7 | replace Q7 := of_decide_eq_false Q7)
      have hD := Q7
      refine st_unguard rfl ?_
      refine st_val (ro_fieldAddr SesWalks2_f60_2 rfl) ?_
      refine st_unguard rfl ?_
      refine st_val (ro_loadA (cs := [_, _, _]) SesWalks2_g31 SesWalks2_z31 rfl (by exact rep_of (hk1.from_ ((From.rfl_.next E5).next E12)))) ?_
      refine st_unguard rfl ?_
      refine st_call SesWalks2_k41 (validReply_rt x.e x.n x.H x.hl x.hc _) ?_
      rintro v18 w8 ⟨rfl, E18⟩
      refine st_val (ro_pickT (v := .bool _) rfl rfl) ?_
      refine st_val (ro_assign (v := .bool _) rfl) ?_
      refine st_nil ?_
      refine nx_then ?_
      refine cd_ret ?_
      refine res1 (v := .bool _) rfl rfl ?_
      refine ⟨?_, ((((From.rfl_.next E1).next E5).next E12).next E18)⟩
      first
        | (rw [vS_eq, hA, hD]; rfl)
        | (rw [vS_eq, hA]; rfl)
    · (try first | replace Q7 := bn_t Q7 | replace Q7 := bn_f Q7)
      (try first | replace Q7 := bx_t Q7 | replace Q7 := bx_f Q7 | replace Q7 := be_t Q7 | replace Q7 := be_f Q7 | replace Q7 := of_decide_eq_true Q7 | replace Q7 := of_decide_eq_false Q7)
      have hD := Q7
      refine st_gno rfl rfl ?_
      refine st_gno rfl rfl ?_
      refine st_gno rfl rfl ?_
      refine st_val (ro_pickF (v := .bool _) rfl rfl) ?_
      refine st_val (ro_assign (v := .bool _) rfl) ?_
      refine st_nil ?_
      refine nx_then ?_
      refine cd_ret ?_
      refine res1 (v := .bool _) rfl rfl ?_
      refine ⟨?_, (((From.rfl_.next E1).next E5).next E12)⟩
      first
        | (rw [vS_eq, hA, hD]; rfl)
        | (rw [vS_eq, hA]; rfl)
  · (try first | replace Q4 := bn_t Q4 | replace Q4 := bn_f Q4)
    (try first | replace Q4 := bx_t Q4 | replace Q4 := bx_f Q4 | replace Q4 := be_t Q4 | replace Q4 := be_f Q4 | replace Q4 := of_decide_eq_true Q4 | replace Q4 := of_decide_eq_false Q4)
    have hA : inE 1 x.c = false := decide_eq_false Q4
    refine st_gno rfl rfl ?_
    refine st_gno rfl rfl ?_
    refine st_gno rfl rfl ?_
    refine st_gno rfl rfl ?_
    refine st_gno rfl rfl ?_
    refine st_gno rfl rfl ?_
    refine st_val (ro_pickF (v := .bool _) rfl rfl) ?_
    refine st_val (ro_move (v := .bool _) rfl) ?_
    refine st_gno rfl rfl ?_
    refine st_gno rfl rfl ?_
    refine st_gno rfl rfl ?_
    refine st_val (ro_pickF (v := .bool _) rfl rfl) ?_
    refine st_val (ro_assign (v := .bool _) rfl) ?_
    refine st_nil ?_
    refine nx_then ?_
    refine cd_ret ?_
    refine res1 (v := .bool _) rfl rfl ?_
    refine ⟨?_, ((From.rfl_.next E1).next E5)⟩
    first
      | (rw [vS_eq, hA, hD]; rfl)
      | (rw [vS_eq, hA]; rfl)
set_option maxRecDepth 100000 in
set_option maxHeartbeats 400000 in
theorem check_ok (A : Option Addr) (c : Nat) (L : List Ses) (w : World) (hr : RowS w A L) (hl : L.length ≤ 10000000000000) (hv : ValidL L) :
    Rt Try.prog 13 [.slice A L.length c] w (fun v w' => v = .int .i64 0 ∧ From w w') := by
  have hv8 := hv.1
  refine enter (n := 34) Try.func13 rfl rfl rfl ?_
  refine cd_seq ?_
  refine cd_region ?_
  refine st_val (ro_assign (v := .int _ _) rfl) ?_
  refine st_nil ?_
  refine nx_then ?_
  refine cd_seq ?_
  refine cd_seq ?_
  refine cd_region ?_
  refine st_val (ro_move (v := .slice _ _ _) rfl) ?_
  refine st_val (ro_len SesWalks2_l22 rfl) ?_
  refine st_val (ro_gtr rfl rfl) ?_
  refine st_nil ?_
  refine nx_then ?_
  refine cd_cond rfl (fun Q1 => ?_) (fun Q1 => ?_)
  · (try first | replace Q1 := bn_t Q1 | replace Q1 := bn_f Q1)
    (try first | replace Q1 := bx_t Q1 | replace Q1 := bx_f Q1 | replace Q1 := be_t Q1 | replace Q1 := be_f Q1 | replace Q1 := of_decide_eq_true Q1 | replace Q1 := of_decide_eq_false Q1)
    first
     | (exfalso; first | omega | contradiction | (cases Q1; done))
     | skip
       refine cd_seq ?_
       refine cd_region ?_
       refine st_val (ro_assign (v := .int _ _) rfl) ?_
       refine st_nil ?_
       refine nx_then ?_
       refine cd_ret ?_
       refine rt_then ?_
       refine res1 (v := .int _ _) rfl rfl ?_
       exact ⟨rfl, From.rfl_⟩
  · (try first | replace Q1 := bn_t Q1 | replace Q1 := bn_f Q1)
    (try first | replace Q1 := bx_t Q1 | replace Q1 := bx_f Q1 | replace Q1 := be_t Q1 | replace Q1 := be_f Q1 | replace Q1 := of_decide_eq_true Q1 | replace Q1 := of_decide_eq_false Q1)
    first
     | (exfalso; first | omega | contradiction | (cases Q1; done))
     | skip
       refine cd_skip ?_
       refine nx_then ?_
       refine cd_seq ?_
       refine cd_seq ?_
       refine cd_region ?_
       refine st_val (ro_move (v := .slice _ _ _) rfl) ?_
       refine st_val (ro_len SesWalks2_l22 rfl) ?_
       refine st_val (ro_move (v := .int _ _) rfl) ?_
       refine st_nil ?_
       refine nx_then ?_
       refine cd_block ?_
       refine cd_loop (G := Nat) [2, 3, 4, 11, 12, 13, 14, 15, 16, 17, 18, 19, 20, 21, 22, 23, 24, 25, 26, 27, 28, 29, 30, 31, 32, 33] (fun k => [(10, .int .i64 (k : Nat))]) (fun k w' => k ≤ L.length ∧ From w w') (fun k => L.length - k) (0) ⟨rfl, trivial⟩ ?_ ?_
       · exact ⟨Nat.zero_le _, From.rfl_⟩
       rintro k ρ2 w2 ⟨hk, hB⟩
       refine cd_seq ?_
       refine cd_region ?_
       refine st_val (ro_lss rfl rfl) ?_
       refine st_nil ?_
       refine nx_then ?_
       refine cd_seq ?_
       refine cd_cond rfl (fun Q3 => ?_) (fun Q3 => ?_)
       · (try first | replace Q3 := bn_t Q3 | replace Q3 := bn_f Q3)
         (try first | replace Q3 := bx_t Q3 | replace Q3 := bx_f Q3 | replace Q3 := be_t Q3 | replace Q3 := be_f Q3 | replace Q3 := of_decide_eq_true Q3 | replace Q3 := of_decide_eq_false Q3)
         obtain ⟨ba, oa, rfl, hcs⟩ := hr (by omega)
         have hvk := (hv.2 k (by omega)).1
         have hvp := (hv.2 k (by omega)).2
         first
          | (exfalso; first | omega | contradiction | (cases Q3; done))
          | skip
            refine cd_skip ?_
            refine nx_then ?_
            refine cd_seq ?_
            refine cd_block ?_
            refine cd_seq ?_
            refine cd_region ?_
            refine st_val (ro_move (v := .int _ _) rfl) ?_
            refine st_val (ro_indexAddrN SesWalks2_e22 rfl rfl (by omega)) ?_
            refine st_val (ro_loadA (cs := [_, _, _, _, _, _]) SesWalks2_g60 SesWalks2_z60 rfl (by exact rangeF hB (hcs k (by omega)))) ?_
            refine st_alloc SesWalks2_o60 ?_
            intro b4 w4 E4 hb4 hk4
            refine st_val (ro_assign (v := .int _ _) rfl) ?_
            refine st_putW (vs := [_, _, _, _, _, _]) SesWalks2_z60 rfl rfl (by simp [Value.oneCell']) (hk4) rfl ?_
            intro w5 O5 P5
            refine st_nil ?_
            refine nx_then ?_
            refine cd_seq ?_
            rcases Nat.eq_zero_or_pos k with hk0 | hk0
            · apply cd_drawn 18 [(15, eqp _), (16, eqp _), (17, eqp _), (18, eqp _), (19, eqp _), (20, eqp _), (21, eqp _), (22, eqp _), (23, eqp _), (24, eqp _), (25, eqp _), (26, eqp _), (27, eqp _), (28, eqp _), (29, eqp _), (30, eqp _), (31, eqp _), (32, eqp _)] (by kernel_rfl) (by kernel_rfl) ⟨eqp_mono _, eqp_mono _, eqp_mono _, eqp_mono _, eqp_mono _, eqp_mono _, eqp_mono _, eqp_mono _, eqp_mono _, eqp_mono _, eqp_mono _, eqp_mono _, eqp_mono _, eqp_mono _, eqp_mono _, eqp_mono _, eqp_mono _, eqp_mono _, trivial⟩
              case hop =>
               refine ⟨?_, ?_⟩
               · intro w7 D7
                 show OpOK _ _ _ _ _ _ _
                 exact ok_pure (ro_loadA (cs := [_, _, _, _, _, _]) SesWalks2_g60 SesWalks2_z60 rfl (by exact (P5.from_ (From.rfl_.next D7)).whole)) rfl
               refine ⟨?_, ?_⟩
               · intro w8 D8
                 rintro _ rfl
                 show OpOK _ _ _ _ _ _ _
                 refine ok_call SesWalks2_k35 ((validSession_rt L[k] _).mono ?_)
                 rintro v _ ⟨rfl, E8'⟩; exact ⟨E8', rfl⟩
               refine ⟨?_, ?_⟩
               · intro w9 D9
                 rintro _ rfl
                 show OpOK _ _ _ _ _ _ _
                 exact ok_pure (ro_bf (ro_not rfl) (by rw [hvk]; rfl)) rfl
               refine ⟨?_, ?_⟩
               · intro w10 D10
                 rintro _ rfl
                 show OpOK _ _ _ _ _ _ _
                 exact ok_pure (ro_move (v := .bool _) rfl) rfl
               refine ⟨?_, ?_⟩
               · intro w11 D11
                 rintro _ rfl
                 show OpOK _ _ _ _ _ _ _
                 exact ok_gpure rfl (ro_move (v := .int _ _) rfl) rfl
               refine ⟨?_, ?_⟩
               · intro w12 D12
                 rintro _ rfl _ rfl
                 show OpOK _ _ _ _ _ _ _
                 exact ok_gpure rfl (ro_bf (ro_gtr rfl rfl) (decide_eq_false (by omega))) rfl
               refine ⟨?_, ?_⟩
               · intro w13 D13
                 rintro _ rfl _ rfl
                 show OpOK _ _ _ _ _ _ _
                 exact ok_gpure rfl (ro_move (v := .bool _) rfl) rfl
               refine ⟨?_, ?_⟩
               · intro w14 D14
                 rintro _ rfl
                 show OpOK _ _ _ _ _ _ _
                 exact ok_gno rfl rfl rfl
               refine ⟨?_, ?_⟩
               · intro w15 D15
                 rintro _ rfl
                 show OpOK _ _ _ _ _ _ _
                 exact ok_gno rfl rfl rfl
               refine ⟨?_, ?_⟩
               · intro w16 D16
                 rintro _ rfl _ rfl
                 show OpOK _ _ _ _ _ _ _
                 exact ok_gno rfl rfl rfl
               refine ⟨?_, ?_⟩
               · intro w17 D17
                 rintro _ rfl _ rfl _ rfl
                 show OpOK _ _ _ _ _ _ _
                 exact ok_gno rfl rfl rfl
               refine ⟨?_, ?_⟩
               · intro w18 D18
                 rintro _ rfl _ rfl
                 show OpOK _ _ _ _ _ _ _
                 exact ok_gno rfl rfl rfl
               refine ⟨?_, ?_⟩
               · intro w19 D19
                 rintro _ rfl _ rfl
                 show OpOK _ _ _ _ _ _ _
                 exact ok_gno rfl rfl rfl
               refine ⟨?_, ?_⟩
               · intro w20 D20
                 rintro _ rfl
                 show OpOK _ _ _ _ _ _ _
                 exact ok_gno rfl rfl rfl
               refine ⟨?_, ?_⟩
               · intro w21 D21
                 rintro _ rfl _ rfl
                 show OpOK _ _ _ _ _ _ _
                 exact ok_gno rfl rfl rfl
               refine ⟨?_, ?_⟩
               · intro w22 D22
                 rintro _ rfl _ rfl _ rfl
                 show OpOK _ _ _ _ _ _ _
                 exact ok_gno rfl rfl rfl
               refine ⟨?_, ?_⟩
               · intro w23 D23
                 rintro _ rfl _ rfl _ rfl
                 show OpOK _ _ _ _ _ _ _
                 exact ok_gpure rfl (ro_pickF (v := .bool _) rfl rfl) rfl
               refine ⟨?_, ?_⟩
               · intro w24 D24
                 rintro _ rfl _ rfl
                 show OpOK _ _ _ _ _ _ _
                 exact ok_pure (ro_pickF (v := .bool _) rfl rfl) rfl
               exact trivial
              case hend =>
               intro w25 D25
               rintro _ rfl _ rfl _ rfl _ rfl _ rfl _ rfl _ rfl _ rfl _ rfl _ rfl _ rfl _ rfl _ rfl _ rfl _ rfl _ rfl _ rfl _ rfl
               show St _ _ _ _ _ _ _
               refine st_nil ?_
               refine nx_then ?_
               refine cd_condF rfl ?_
               refine cd_skip ?_
               refine nx_block ?_
               refine nx_then ?_
               refine cd_region ?_
               refine st_val (ro_addN (b := 1) rfl rfl (by omega)) ?_
               refine st_val (ro_move (v := .int _ _) rfl) ?_
               refine st_nil ?_
               refine nx_cut (k + 1) ⟨(by first | rfl | (refine int_eq ?_; omega)), trivial⟩ (by (iterate 53 refine agr_cons rfl ?_); exact agr_rfl) ⟨?_, ?_⟩
               · exact ⟨by omega, (((hB.next E4).only O5 (by rw [hb4]; exact hB.size)).next D25)⟩
               · omega
            · have hlt := hvp hk0
              apply cd_drawn 18 [(15, eqp _), (16, eqp _), (17, eqp _), (18, eqp _), (19, eqp _), (20, eqp _), (21, eqp _), (22, eqp _), (23, eqp _), (24, eqp _), (25, eqp _), (26, eqp _), (27, eqp _), (28, eqp _), (29, eqp _), (30, eqp _), (31, eqp _), (32, eqp _)] (by kernel_rfl) (by kernel_rfl) ⟨eqp_mono _, eqp_mono _, eqp_mono _, eqp_mono _, eqp_mono _, eqp_mono _, eqp_mono _, eqp_mono _, eqp_mono _, eqp_mono _, eqp_mono _, eqp_mono _, eqp_mono _, eqp_mono _, eqp_mono _, eqp_mono _, eqp_mono _, eqp_mono _, trivial⟩
              case hop =>
               refine ⟨?_, ?_⟩
               · intro w27 D27
                 show OpOK _ _ _ _ _ _ _
                 exact ok_pure (ro_loadA (cs := [_, _, _, _, _, _]) SesWalks2_g60 SesWalks2_z60 rfl (by exact (P5.from_ (From.rfl_.next D27)).whole)) rfl
               refine ⟨?_, ?_⟩
               · intro w28 D28
                 rintro _ rfl
                 show OpOK _ _ _ _ _ _ _
                 refine ok_call SesWalks2_k35 ((validSession_rt L[k] _).mono ?_)
                 rintro v _ ⟨rfl, E28'⟩; exact ⟨E28', rfl⟩
               refine ⟨?_, ?_⟩
               · intro w29 D29
                 rintro _ rfl
                 show OpOK _ _ _ _ _ _ _
                 exact ok_pure (ro_bf (ro_not rfl) (by rw [hvk]; rfl)) rfl
               refine ⟨?_, ?_⟩
               · intro w30 D30
                 rintro _ rfl
                 show OpOK _ _ _ _ _ _ _
                 exact ok_pure (ro_move (v := .bool _) rfl) rfl
               refine ⟨?_, ?_⟩
               · intro w31 D31
                 rintro _ rfl
                 show OpOK _ _ _ _ _ _ _
                 exact ok_gpure rfl (ro_move (v := .int _ _) rfl) rfl
               refine ⟨?_, ?_⟩
               · intro w32 D32
                 rintro _ rfl _ rfl
                 show OpOK _ _ _ _ _ _ _
                 exact ok_gpure rfl (ro_bt (ro_gtr rfl rfl) (decide_eq_true (by omega))) rfl
               refine ⟨?_, ?_⟩
               · intro w33 D33
                 rintro _ rfl _ rfl
                 show OpOK _ _ _ _ _ _ _
                 exact ok_gpure rfl (ro_move (v := .bool _) rfl) rfl
               refine ⟨?_, ?_⟩
               · intro w34 D34
                 rintro _ rfl
                 show OpOK _ _ _ _ _ _ _
                 exact ok_gpure rfl (ro_move (v := .slice _ _ _) rfl) rfl
               refine ⟨?_, ?_⟩
               · intro w35 D35
                 rintro _ rfl
                 show OpOK _ _ _ _ _ _ _
                 exact ok_gpure rfl (ro_move (v := .int _ _) rfl) rfl
               refine ⟨?_, ?_⟩
               · intro w36 D36
                 rintro _ rfl _ rfl
                 show OpOK _ _ _ _ _ _ _
                 exact ok_gpure rfl (ro_subN (b := 1) rfl rfl (by omega)) rfl
               refine ⟨?_, ?_⟩
               · intro w37 D37
                 rintro _ rfl _ rfl _ rfl
                 show OpOK _ _ _ _ _ _ _
                 exact ok_gpure rfl (ro_indexAddrN SesWalks2_e22 rfl rfl (by omega)) rfl
               refine ⟨?_, ?_⟩
               · intro w38 D38
                 rintro _ rfl _ rfl
                 show OpOK _ _ _ _ _ _ _
                 exact ok_gpure rfl (ro_fieldAddr SesWalks2_f60_0 rfl) rfl
               refine ⟨?_, ?_⟩
               · intro w39 D39
                 rintro _ rfl _ rfl
                 show OpOK _ _ _ _ _ _ _
                 exact ok_gpure rfl (ro_load SesWalks2_g3 rfl (by exact cellF (((hB.next E4).only O5 (by rw [hb4]; exact hB.size)).next D39) (hcs (k - 1) (by omega) 0 _ rfl))) rfl
               refine ⟨?_, ?_⟩
               · intro w40 D40
                 rintro _ rfl
                 show OpOK _ _ _ _ _ _ _
                 exact ok_gpure rfl (ro_fieldAddr SesWalks2_f60_0 rfl) rfl
               refine ⟨?_, ?_⟩
               · intro w41 D41
                 rintro _ rfl _ rfl
                 show OpOK _ _ _ _ _ _ _
                 exact ok_gpure rfl (ro_load SesWalks2_g3 rfl (by exact (P5.from_ (From.rfl_.next D41)).rd 0 rfl)) rfl
               refine ⟨?_, ?_⟩
               · intro w42 D42
                 rintro _ rfl _ rfl _ rfl
                 show OpOK _ _ _ _ _ _ _
                 exact ok_gpure rfl (ro_bf (ro_geq rfl rfl) (decide_eq_false (by omega))) rfl
               refine ⟨?_, ?_⟩
               · intro w43 D43
                 rintro _ rfl _ rfl _ rfl
                 show OpOK _ _ _ _ _ _ _
                 exact ok_gpure rfl (ro_pickT (v := .bool _) rfl rfl) rfl
               refine ⟨?_, ?_⟩
               · intro w44 D44
                 rintro _ rfl _ rfl
                 show OpOK _ _ _ _ _ _ _
                 exact ok_pure (ro_pickF (v := .bool _) rfl rfl) rfl
               exact trivial
              case hend =>
               intro w45 D45
               rintro _ rfl _ rfl _ rfl _ rfl _ rfl _ rfl _ rfl _ rfl _ rfl _ rfl _ rfl _ rfl _ rfl _ rfl _ rfl _ rfl _ rfl _ rfl
               show St _ _ _ _ _ _ _
               refine st_nil ?_
               refine nx_then ?_
               refine cd_condF rfl ?_
               refine cd_skip ?_
               refine nx_block ?_
               refine nx_then ?_
               refine cd_region ?_
               refine st_val (ro_addN (b := 1) rfl rfl (by omega)) ?_
               refine st_val (ro_move (v := .int _ _) rfl) ?_
               refine st_nil ?_
               refine nx_cut (k + 1) ⟨(by first | rfl | (refine int_eq ?_; omega)), trivial⟩ (by (iterate 53 refine agr_cons rfl ?_); exact agr_rfl) ⟨?_, ?_⟩
               · exact ⟨by omega, (((hB.next E4).only O5 (by rw [hb4]; exact hB.size)).next D45)⟩
               · omega
       · (try first | replace Q3 := bn_t Q3 | replace Q3 := bn_f Q3)
         (try first | replace Q3 := bx_t Q3 | replace Q3 := bx_f Q3 | replace Q3 := be_t Q3 | replace Q3 := be_f Q3 | replace Q3 := of_decide_eq_true Q3 | replace Q3 := of_decide_eq_false Q3)
         first
          | (exfalso; first | omega | contradiction | (cases Q3; done))
          | skip
            refine cd_exit ?_
            refine ex_then ?_
            refine ex_then ?_
            refine ex_block ?_
            refine nx_then ?_
            refine cd_seq ?_
            refine cd_region ?_
            refine st_val (ro_assign (v := .int _ _) rfl) ?_
            refine st_nil ?_
            refine nx_then ?_
            refine cd_ret ?_
            refine res1 (v := .int _ _) rfl rfl ?_
            exact ⟨rfl, hB⟩
set_option maxRecDepth 100000 in
set_option maxHeartbeats 3000000 in
theorem may_rt (A : Option Addr) (c : Nat) (L : List Ses) (w : World) (hr : RowS w A L) (hl : L.length ≤ 10000000000000) :
    Rt Try.prog 11 [.slice A L.length c] w (fun v w' => (∃ b, v = .bool b ∧ (b = true → ValidL L)) ∧ From w w') := by
  refine enter (n := 65) Try.func11 rfl rfl rfl ?_
  refine cd_seq ?_
  refine cd_region ?_
  refine st_val (ro_assign (v := .bool _) rfl) ?_
  refine st_nil ?_
  refine nx_then ?_
  refine cd_seq ?_
  refine cd_seq ?_
  refine cd_region ?_
  refine st_val (ro_move (v := .slice _ _ _) rfl) ?_
  refine st_val (ro_len SesWalks2_l22 rfl) ?_
  refine st_val (ro_gtr rfl rfl) ?_
  refine st_nil ?_
  refine nx_then ?_
  refine cd_cond rfl (fun Q1 => ?_) (fun Q1 => ?_)
  · (try first | replace Q1 := bn_t Q1 | replace Q1 := bn_f Q1)
    (try first | replace Q1 := bx_t Q1 | replace Q1 := bx_f Q1 | replace Q1 := be_t Q1 | replace Q1 := be_f Q1 | replace Q1 := of_decide_eq_true Q1 | replace Q1 := of_decide_eq_false Q1)
    first
     | (exfalso; first | omega | contradiction | (cases Q1; done))
     | skip
       refine cd_seq ?_
       refine cd_region ?_
       refine st_val (ro_assign (v := .bool _) rfl) ?_
       refine st_nil ?_
       refine nx_then ?_
       refine cd_ret ?_
       refine rt_then ?_
       refine res1 (v := .bool _) rfl rfl ?_
       exact ⟨⟨false, rfl, fun h => absurd h (by simp)⟩, From.rfl_⟩
  · (try first | replace Q1 := bn_t Q1 | replace Q1 := bn_f Q1)
    (try first | replace Q1 := bx_t Q1 | replace Q1 := bx_f Q1 | replace Q1 := be_t Q1 | replace Q1 := be_f Q1 | replace Q1 := of_decide_eq_true Q1 | replace Q1 := of_decide_eq_false Q1)
    first
     | (exfalso; first | omega | contradiction | (cases Q1; done))
     | skip
       refine cd_skip ?_
       refine nx_then ?_
       refine cd_seq ?_
       refine cd_seq ?_
       refine cd_region ?_
       refine st_val (ro_assign (v := .int _ _) rfl) ?_
       refine st_nil ?_
       refine nx_then ?_
       refine cd_block ?_
       refine cd_loop (G := Nat) [2, 7, 8, 9, 10, 11, 12, 13, 14, 15, 16, 17, 18, 19, 20, 21, 22, 23, 24, 25, 26, 27, 28, 29, 30, 31, 32, 33, 34, 35, 36, 37, 38, 39, 40, 41, 42, 43, 44, 45, 46, 47, 48, 49, 50, 51, 52, 53, 54, 55, 56, 57, 58, 59, 60, 61, 62, 63, 64] (fun k => [(3, .int .i64 (k : Nat))]) (fun k w' => k ≤ L.length ∧ (∀ i (h : i < L.length), i < k → vS L[i] = true ∧ (0 < i → (L[i - 1]'(by omega)).c < L[i].c)) ∧ From w w') (fun k => L.length - k) (0) ⟨rfl, trivial⟩ ?_ ?_
       · exact ⟨Nat.zero_le _, fun i h h0 => absurd h0 (by omega), From.rfl_⟩
       rintro k ρ2 w2 ⟨hk, hall, hB⟩
       refine cd_seq ?_
       refine cd_seq ?_
       refine cd_region ?_
       refine st_val (ro_move (v := .int _ _) rfl) ?_
       refine st_val (ro_move (v := .slice _ _ _) rfl) ?_
       refine st_val (ro_len SesWalks2_l22 rfl) ?_
       refine st_val (ro_lss rfl rfl) ?_
       refine st_nil ?_
       refine nx_then ?_
       refine cd_cond rfl (fun Q3 => ?_) (fun Q3 => ?_)
       · (try first | replace Q3 := bn_t Q3 | replace Q3 := bn_f Q3)
         (try first | replace Q3 := bx_t Q3 | replace Q3 := bx_f Q3 | replace Q3 := be_t Q3 | replace Q3 := be_f Q3 | replace Q3 := of_decide_eq_true Q3 | replace Q3 := of_decide_eq_false Q3)
         obtain ⟨ba, oa, rfl, hcs⟩ := hr (by omega)
         first
          | (exfalso; first | omega | contradiction | (cases Q3; done))
          | skip
            refine cd_skip ?_
            refine nx_then ?_
            refine cd_seq ?_
            refine cd_block ?_
            refine cd_seq ?_
            rcases may7 L[k] (L[k - 1]'(by omega)).c k with h1 | h1 | h1 | h1 | h1 | h1 | h1
            · apply cd_drawn 52 [(13, eqp _), (14, eqp _), (15, eqp _), (16, eqp _), (17, eqp _), (18, eqp _), (19, eqp _), (20, eqp _), (21, eqp _), (22, eqp _), (23, eqp _), (24, eqp _), (25, eqp _), (26, eqp _), (27, eqp _), (28, eqp _), (29, eqp _), (30, eqp _), (31, eqp _), (32, eqp _), (33, eqp _), (34, eqp _), (35, eqp _), (36, eqp _), (37, eqp _), (38, eqp _), (39, eqp _), (40, eqp _), (41, eqp _), (42, eqp _), (43, eqp _), (44, eqp _), (45, eqp _), (46, eqp _), (47, eqp _), (48, eqp _), (49, eqp _), (50, eqp _), (51, eqp _), (52, eqp _), (53, eqp _), (54, eqp _), (55, eqp _), (56, eqp _), (57, eqp _), (58, eqp _), (59, eqp _), (60, eqp _), (61, eqp _), (62, eqp _), (63, eqp _), (64, eqp _)] (by kernel_rfl) (by kernel_rfl) ⟨eqp_mono _, eqp_mono _, eqp_mono _, eqp_mono _, eqp_mono _, eqp_mono _, eqp_mono _, eqp_mono _, eqp_mono _, eqp_mono _, eqp_mono _, eqp_mono _, eqp_mono _, eqp_mono _, eqp_mono _, eqp_mono _, eqp_mono _, eqp_mono _, eqp_mono _, eqp_mono _, eqp_mono _, eqp_mono _, eqp_mono _, eqp_mono _, eqp_mono _, eqp_mono _, eqp_mono _, eqp_mono _, eqp_mono _, eqp_mono _, eqp_mono _, eqp_mono _, eqp_mono _, eqp_mono _, eqp_mono _, eqp_mono _, eqp_mono _, eqp_mono _, eqp_mono _, eqp_mono _, eqp_mono _, eqp_mono _, eqp_mono _, eqp_mono _, eqp_mono _, eqp_mono _, eqp_mono _, eqp_mono _, eqp_mono _, eqp_mono _, eqp_mono _, eqp_mono _, trivial⟩
              case hop =>
               refine ⟨?_, ?_⟩
               · intro w5 D5
                 show OpOK _ _ _ _ _ _ _
                 exact ok_pure (ro_move (v := .slice _ _ _) rfl) rfl
               refine ⟨?_, ?_⟩
               · intro w6 D6
                 show OpOK _ _ _ _ _ _ _
                 exact ok_pure (ro_move (v := .int _ _) rfl) rfl
               refine ⟨?_, ?_⟩
               · intro w7 D7
                 rintro _ rfl _ rfl
                 show OpOK _ _ _ _ _ _ _
                 exact ok_pure (ro_indexAddrN SesWalks2_e22 rfl rfl (by omega)) rfl
               refine ⟨?_, ?_⟩
               · intro w8 D8
                 rintro _ rfl
                 show OpOK _ _ _ _ _ _ _
                 exact ok_pure (ro_fieldAddr SesWalks2_f60_0 rfl) rfl
               refine ⟨?_, ?_⟩
               · intro w9 D9
                 rintro _ rfl
                 show OpOK _ _ _ _ _ _ _
                 exact ok_pure (ro_load SesWalks2_g3 rfl (by exact cellF (hB.next D9) (hcs k (by omega) 0 _ rfl))) rfl
               refine ⟨?_, ?_⟩
               · intro w10 D10
                 rintro _ rfl
                 show OpOK _ _ _ _ _ _ _
                 refine ok_call SesWalks2_k32 ((id_rt L[k].c _).mono ?_)
                 rintro v _ ⟨rfl, rfl⟩; exact ⟨From.rfl_, rfl⟩
               refine ⟨?_, ?_⟩
               · intro w11 D11
                 rintro _ rfl
                 show OpOK _ _ _ _ _ _ _
                 exact ok_pure (ro_bt (ro_not rfl) (by rw [h1]; rfl)) rfl
               refine ⟨?_, ?_⟩
               · intro w12 D12
                 rintro _ rfl
                 show OpOK _ _ _ _ _ _ _
                 exact ok_pure (ro_move (v := .bool _) rfl) rfl
               refine ⟨?_, ?_⟩
               · intro w13 D13
                 rintro _ rfl
                 show OpOK _ _ _ _ _ _ _
                 exact ok_gno rfl rfl rfl
               refine ⟨?_, ?_⟩
               · intro w14 D14
                 rintro _ rfl
                 show OpOK _ _ _ _ _ _ _
                 exact ok_gno rfl rfl rfl
               refine ⟨?_, ?_⟩
               · intro w15 D15
                 rintro _ rfl _ rfl _ rfl
                 show OpOK _ _ _ _ _ _ _
                 exact ok_gno rfl rfl rfl
               refine ⟨?_, ?_⟩
               · intro w16 D16
                 rintro _ rfl _ rfl
                 show OpOK _ _ _ _ _ _ _
                 exact ok_gno rfl rfl rfl
               refine ⟨?_, ?_⟩
               · intro w17 D17
                 rintro _ rfl _ rfl
                 show OpOK _ _ _ _ _ _ _
                 exact ok_gno rfl rfl rfl
               refine ⟨?_, ?_⟩
               · intro w18 D18
                 rintro _ rfl _ rfl
                 show OpOK _ _ _ _ _ _ _
                 exact ok_gno rfl rfl rfl
               refine ⟨?_, ?_⟩
               · intro w19 D19
                 rintro _ rfl _ rfl
                 show OpOK _ _ _ _ _ _ _
                 exact ok_gno rfl rfl rfl
               refine ⟨?_, ?_⟩
               · intro w20 D20
                 rintro _ rfl _ rfl
                 show OpOK _ _ _ _ _ _ _
                 exact ok_pure (ro_pickT (v := .bool _) rfl rfl) rfl
               refine ⟨?_, ?_⟩
               · intro w21 D21
                 rintro _ rfl
                 show OpOK _ _ _ _ _ _ _
                 exact ok_pure (ro_move (v := .bool _) rfl) rfl
               refine ⟨?_, ?_⟩
               · intro w22 D22
                 rintro _ rfl
                 show OpOK _ _ _ _ _ _ _
                 exact ok_gno rfl rfl rfl
               refine ⟨?_, ?_⟩
               · intro w23 D23
                 rintro _ rfl
                 show OpOK _ _ _ _ _ _ _
                 exact ok_gno rfl rfl rfl
               refine ⟨?_, ?_⟩
               · intro w24 D24
                 rintro _ rfl _ rfl _ rfl
                 show OpOK _ _ _ _ _ _ _
                 exact ok_gno rfl rfl rfl
               refine ⟨?_, ?_⟩
               · intro w25 D25
                 rintro _ rfl _ rfl
                 show OpOK _ _ _ _ _ _ _
                 exact ok_gno rfl rfl rfl
               refine ⟨?_, ?_⟩
               · intro w26 D26
                 rintro _ rfl _ rfl
                 show OpOK _ _ _ _ _ _ _
                 exact ok_gno rfl rfl rfl
               refine ⟨?_, ?_⟩
               · intro w27 D27
                 rintro _ rfl _ rfl
                 show OpOK _ _ _ _ _ _ _
                 exact ok_gno rfl rfl rfl
               refine ⟨?_, ?_⟩
               · intro w28 D28
                 rintro _ rfl _ rfl
                 show OpOK _ _ _ _ _ _ _
                 exact ok_gno rfl rfl rfl
               refine ⟨?_, ?_⟩
               · intro w29 D29
                 rintro _ rfl _ rfl
                 show OpOK _ _ _ _ _ _ _
                 exact ok_pure (ro_pickT (v := .bool _) rfl rfl) rfl
               refine ⟨?_, ?_⟩
               · intro w30 D30
                 rintro _ rfl
                 show OpOK _ _ _ _ _ _ _
                 exact ok_pure (ro_move (v := .bool _) rfl) rfl
               refine ⟨?_, ?_⟩
               · intro w31 D31
                 rintro _ rfl
                 show OpOK _ _ _ _ _ _ _
                 exact ok_gno rfl rfl rfl
               refine ⟨?_, ?_⟩
               · intro w32 D32
                 rintro _ rfl
                 show OpOK _ _ _ _ _ _ _
                 exact ok_gno rfl rfl rfl
               refine ⟨?_, ?_⟩
               · intro w33 D33
                 rintro _ rfl _ rfl _ rfl
                 show OpOK _ _ _ _ _ _ _
                 exact ok_gno rfl rfl rfl
               refine ⟨?_, ?_⟩
               · intro w34 D34
                 rintro _ rfl _ rfl
                 show OpOK _ _ _ _ _ _ _
                 exact ok_gno rfl rfl rfl
               refine ⟨?_, ?_⟩
               · intro w35 D35
                 rintro _ rfl _ rfl
                 show OpOK _ _ _ _ _ _ _
                 exact ok_gno rfl rfl rfl
               refine ⟨?_, ?_⟩
               · intro w36 D36
                 rintro _ rfl _ rfl
                 show OpOK _ _ _ _ _ _ _
                 exact ok_gno rfl rfl rfl
               refine ⟨?_, ?_⟩
               · intro w37 D37
                 rintro _ rfl _ rfl
                 show OpOK _ _ _ _ _ _ _
                 exact ok_gno rfl rfl rfl
               refine ⟨?_, ?_⟩
               · intro w38 D38
                 rintro _ rfl _ rfl
                 show OpOK _ _ _ _ _ _ _
                 exact ok_pure (ro_pickT (v := .bool _) rfl rfl) rfl
               refine ⟨?_, ?_⟩
               · intro w39 D39
                 rintro _ rfl
                 show OpOK _ _ _ _ _ _ _
                 exact ok_pure (ro_move (v := .bool _) rfl) rfl
               refine ⟨?_, ?_⟩
               · intro w40 D40
                 rintro _ rfl
                 show OpOK _ _ _ _ _ _ _
                 exact ok_gno rfl rfl rfl
               refine ⟨?_, ?_⟩
               · intro w41 D41
                 rintro _ rfl _ rfl
                 show OpOK _ _ _ _ _ _ _
                 exact ok_gno rfl rfl rfl
               refine ⟨?_, ?_⟩
               · intro w42 D42
                 rintro _ rfl _ rfl
                 show OpOK _ _ _ _ _ _ _
                 exact ok_gno rfl rfl rfl
               refine ⟨?_, ?_⟩
               · intro w43 D43
                 rintro _ rfl
                 show OpOK _ _ _ _ _ _ _
                 exact ok_gund rfl rfl
               refine ⟨?_, ?_⟩
               · intro w44 D44
                 rintro _ rfl
                 show OpOK _ _ _ _ _ _ _
                 exact ok_gund rfl rfl
               refine ⟨?_, ?_⟩
               · intro w45 D45
                 rintro _ rfl _ rfl
                 show OpOK _ _ _ _ _ _ _
                 exact ok_gund rfl rfl
               refine ⟨?_, ?_⟩
               · intro w46 D46
                 rintro _ rfl _ rfl _ rfl
                 show OpOK _ _ _ _ _ _ _
                 exact ok_gund rfl rfl
               refine ⟨?_, ?_⟩
               · intro w47 D47
                 rintro _ rfl _ rfl
                 show OpOK _ _ _ _ _ _ _
                 exact ok_gund rfl rfl
               refine ⟨?_, ?_⟩
               · intro w48 D48
                 rintro _ rfl _ rfl
                 show OpOK _ _ _ _ _ _ _
                 exact ok_gund rfl rfl
               refine ⟨?_, ?_⟩
               · intro w49 D49
                 rintro _ rfl
                 show OpOK _ _ _ _ _ _ _
                 exact ok_gund rfl rfl
               refine ⟨?_, ?_⟩
               · intro w50 D50
                 rintro _ rfl
                 show OpOK _ _ _ _ _ _ _
                 exact ok_gund rfl rfl
               refine ⟨?_, ?_⟩
               · intro w51 D51
                 rintro _ rfl _ rfl _ rfl
                 show OpOK _ _ _ _ _ _ _
                 exact ok_gund rfl rfl
               refine ⟨?_, ?_⟩
               · intro w52 D52
                 rintro _ rfl _ rfl
                 show OpOK _ _ _ _ _ _ _
                 exact ok_gund rfl rfl
               refine ⟨?_, ?_⟩
               · intro w53 D53
                 rintro _ rfl _ rfl
                 show OpOK _ _ _ _ _ _ _
                 exact ok_gund rfl rfl
               refine ⟨?_, ?_⟩
               · intro w54 D54
                 rintro _ rfl _ rfl _ rfl
                 show OpOK _ _ _ _ _ _ _
                 exact ok_gund rfl rfl
               refine ⟨?_, ?_⟩
               · intro w55 D55
                 rintro _ rfl _ rfl _ rfl
                 show OpOK _ _ _ _ _ _ _
                 exact ok_gno rfl rfl rfl
               refine ⟨?_, ?_⟩
               · intro w56 D56
                 rintro _ rfl _ rfl
                 show OpOK _ _ _ _ _ _ _
                 exact ok_pure (ro_pickT (v := .bool _) rfl rfl) rfl
               exact trivial
              case hend =>
               intro w57 D57
               rintro _ rfl _ rfl _ rfl _ rfl _ rfl _ rfl _ rfl _ rfl _ rfl _ rfl _ rfl _ rfl _ rfl _ rfl _ rfl _ rfl _ rfl _ rfl _ rfl _ rfl _ rfl _ rfl _ rfl _ rfl _ rfl _ rfl _ rfl _ rfl _ rfl _ rfl _ rfl _ rfl _ rfl _ rfl _ rfl _ rfl _ rfl _ rfl _ rfl _ rfl _ rfl _ rfl _ rfl _ rfl _ rfl _ rfl _ rfl _ rfl _ rfl _ rfl _ rfl _ rfl
               show St _ _ _ _ _ _ _
               refine st_nil ?_
               refine nx_then ?_
               refine cd_condT rfl ?_
               refine cd_seq ?_
               refine cd_region ?_
               refine st_val (ro_assign (v := .bool _) rfl) ?_
               refine st_nil ?_
               refine nx_then ?_
               refine cd_ret ?_
               refine rt_block ?_
               refine rt_then ?_
               refine rt_then ?_
               refine rt_block ?_
               refine rt_then ?_
               refine res1 (v := .bool _) rfl rfl ?_
               exact ⟨⟨false, rfl, fun h => absurd h (by simp)⟩, (hB.next D57)⟩
            · obtain ⟨h1, h2⟩ := h1
              apply cd_drawn 52 [(13, eqp _), (14, eqp _), (15, eqp _), (16, eqp _), (17, eqp _), (18, eqp _), (19, eqp _), (20, eqp _), (21, eqp _), (22, eqp _), (23, eqp _), (24, eqp _), (25, eqp _), (26, eqp _), (27, eqp _), (28, eqp _), (29, eqp _), (30, eqp _), (31, eqp _), (32, eqp _), (33, eqp _), (34, eqp _), (35, eqp _), (36, eqp _), (37, eqp _), (38, eqp _), (39, eqp _), (40, eqp _), (41, eqp _), (42, eqp _), (43, eqp _), (44, eqp _), (45, eqp _), (46, eqp _), (47, eqp _), (48, eqp _), (49, eqp _), (50, eqp _), (51, eqp _), (52, eqp _), (53, eqp _), (54, eqp _), (55, eqp _), (56, eqp _), (57, eqp _), (58, eqp _), (59, eqp _), (60, eqp _), (61, eqp _), (62, eqp _), (63, eqp _), (64, eqp _)] (by kernel_rfl) (by kernel_rfl) ⟨eqp_mono _, eqp_mono _, eqp_mono _, eqp_mono _, eqp_mono _, eqp_mono _, eqp_mono _, eqp_mono _, eqp_mono _, eqp_mono _, eqp_mono _, eqp_mono _, eqp_mono _, eqp_mono _, eqp_mono _, eqp_mono _, eqp_mono _, eqp_mono _, eqp_mono _, eqp_mono _, eqp_mono _, eqp_mono _, eqp_mono _, eqp_mono _, eqp_mono _, eqp_mono _, eqp_mono _, eqp_mono _, eqp_mono _, eqp_mono _, eqp_mono _, eqp_mono _, eqp_mono _, eqp_mono _, eqp_mono _, eqp_mono _, eqp_mono _, eqp_mono _, eqp_mono _, eqp_mono _, eqp_mono _, eqp_mono _, eqp_mono _, eqp_mono _, eqp_mono _, eqp_mono _, eqp_mono _, eqp_mono _, eqp_mono _, eqp_mono _, eqp_mono _, eqp_mono _, trivial⟩
              case hop =>
               refine ⟨?_, ?_⟩
               · intro w59 D59
                 show OpOK _ _ _ _ _ _ _
                 exact ok_pure (ro_move (v := .slice _ _ _) rfl) rfl
               refine ⟨?_, ?_⟩
               · intro w60 D60
                 show OpOK _ _ _ _ _ _ _
                 exact ok_pure (ro_move (v := .int _ _) rfl) rfl
               refine ⟨?_, ?_⟩
               · intro w61 D61
                 rintro _ rfl _ rfl
                 show OpOK _ _ _ _ _ _ _
                 exact ok_pure (ro_indexAddrN SesWalks2_e22 rfl rfl (by omega)) rfl
               refine ⟨?_, ?_⟩
               · intro w62 D62
                 rintro _ rfl
                 show OpOK _ _ _ _ _ _ _
                 exact ok_pure (ro_fieldAddr SesWalks2_f60_0 rfl) rfl
               refine ⟨?_, ?_⟩
               · intro w63 D63
                 rintro _ rfl
                 show OpOK _ _ _ _ _ _ _
                 exact ok_pure (ro_load SesWalks2_g3 rfl (by exact cellF (hB.next D63) (hcs k (by omega) 0 _ rfl))) rfl
               refine ⟨?_, ?_⟩
               · intro w64 D64
                 rintro _ rfl
                 show OpOK _ _ _ _ _ _ _
                 refine ok_call SesWalks2_k32 ((id_rt L[k].c _).mono ?_)
                 rintro v _ ⟨rfl, rfl⟩; exact ⟨From.rfl_, rfl⟩
               refine ⟨?_, ?_⟩
               · intro w65 D65
                 rintro _ rfl
                 show OpOK _ _ _ _ _ _ _
                 exact ok_pure (ro_bf (ro_not rfl) (by rw [h1]; rfl)) rfl
               refine ⟨?_, ?_⟩
               · intro w66 D66
                 rintro _ rfl
                 show OpOK _ _ _ _ _ _ _
                 exact ok_pure (ro_move (v := .bool _) rfl) rfl
               refine ⟨?_, ?_⟩
               · intro w67 D67
                 rintro _ rfl
                 show OpOK _ _ _ _ _ _ _
                 exact ok_gpure rfl (ro_move (v := .slice _ _ _) rfl) rfl
               refine ⟨?_, ?_⟩
               · intro w68 D68
                 rintro _ rfl
                 show OpOK _ _ _ _ _ _ _
                 exact ok_gpure rfl (ro_move (v := .int _ _) rfl) rfl
               refine ⟨?_, ?_⟩
               · intro w69 D69
                 rintro _ rfl _ rfl _ rfl
                 show OpOK _ _ _ _ _ _ _
                 exact ok_gpure rfl (ro_indexAddrN SesWalks2_e22 rfl rfl (by omega)) rfl
               refine ⟨?_, ?_⟩
               · intro w70 D70
                 rintro _ rfl _ rfl
                 show OpOK _ _ _ _ _ _ _
                 exact ok_gpure rfl (ro_fieldAddr SesWalks2_f60_1 rfl) rfl
               refine ⟨?_, ?_⟩
               · intro w71 D71
                 rintro _ rfl _ rfl
                 show OpOK _ _ _ _ _ _ _
                 exact ok_gpure rfl (ro_load SesWalks2_g3 rfl (by exact cellF (hB.next D71) (hcs k (by omega) 1 _ rfl))) rfl
               refine ⟨?_, ?_⟩
               · intro w72 D72
                 rintro _ rfl _ rfl
                 show OpOK _ _ _ _ _ _ _
                 refine ok_gcall rfl SesWalks2_k33 ((numB_rt L[k].s _).mono ?_)
                 rintro v _ ⟨rfl, rfl⟩; exact ⟨From.rfl_, rfl⟩
               refine ⟨?_, ?_⟩
               · intro w73 D73
                 rintro _ rfl _ rfl
                 show OpOK _ _ _ _ _ _ _
                 exact ok_gpure rfl (ro_bt (ro_not rfl) (by rw [h2]; rfl)) rfl
               refine ⟨?_, ?_⟩
               · intro w74 D74
                 rintro _ rfl _ rfl
                 show OpOK _ _ _ _ _ _ _
                 exact ok_pure (ro_pickF (v := .bool _) rfl rfl) rfl
               refine ⟨?_, ?_⟩
               · intro w75 D75
                 rintro _ rfl
                 show OpOK _ _ _ _ _ _ _
                 exact ok_pure (ro_move (v := .bool _) rfl) rfl
               refine ⟨?_, ?_⟩
               · intro w76 D76
                 rintro _ rfl
                 show OpOK _ _ _ _ _ _ _
                 exact ok_gno rfl rfl rfl
               refine ⟨?_, ?_⟩
               · intro w77 D77
                 rintro _ rfl
                 show OpOK _ _ _ _ _ _ _
                 exact ok_gno rfl rfl rfl
               refine ⟨?_, ?_⟩
               · intro w78 D78
                 rintro _ rfl _ rfl _ rfl
                 show OpOK _ _ _ _ _ _ _
                 exact ok_gno rfl rfl rfl
               refine ⟨?_, ?_⟩
               · intro w79 D79
                 rintro _ rfl _ rfl
                 show OpOK _ _ _ _ _ _ _
                 exact ok_gno rfl rfl rfl
               refine ⟨?_, ?_⟩
               · intro w80 D80
                 rintro _ rfl _ rfl
                 show OpOK _ _ _ _ _ _ _
                 exact ok_gno rfl rfl rfl
               refine ⟨?_, ?_⟩
               · intro w81 D81
                 rintro _ rfl _ rfl
                 show OpOK _ _ _ _ _ _ _
                 exact ok_gno rfl rfl rfl
               refine ⟨?_, ?_⟩
               · intro w82 D82
                 rintro _ rfl _ rfl
                 show OpOK _ _ _ _ _ _ _
                 exact ok_gno rfl rfl rfl
               refine ⟨?_, ?_⟩
               · intro w83 D83
                 rintro _ rfl _ rfl
                 show OpOK _ _ _ _ _ _ _
                 exact ok_pure (ro_pickT (v := .bool _) rfl rfl) rfl
               refine ⟨?_, ?_⟩
               · intro w84 D84
                 rintro _ rfl
                 show OpOK _ _ _ _ _ _ _
                 exact ok_pure (ro_move (v := .bool _) rfl) rfl
               refine ⟨?_, ?_⟩
               · intro w85 D85
                 rintro _ rfl
                 show OpOK _ _ _ _ _ _ _
                 exact ok_gno rfl rfl rfl
               refine ⟨?_, ?_⟩
               · intro w86 D86
                 rintro _ rfl
                 show OpOK _ _ _ _ _ _ _
                 exact ok_gno rfl rfl rfl
               refine ⟨?_, ?_⟩
               · intro w87 D87
                 rintro _ rfl _ rfl _ rfl
                 show OpOK _ _ _ _ _ _ _
                 exact ok_gno rfl rfl rfl
               refine ⟨?_, ?_⟩
               · intro w88 D88
                 rintro _ rfl _ rfl
                 show OpOK _ _ _ _ _ _ _
                 exact ok_gno rfl rfl rfl
               refine ⟨?_, ?_⟩
               · intro w89 D89
                 rintro _ rfl _ rfl
                 show OpOK _ _ _ _ _ _ _
                 exact ok_gno rfl rfl rfl
               refine ⟨?_, ?_⟩
               · intro w90 D90
                 rintro _ rfl _ rfl
                 show OpOK _ _ _ _ _ _ _
                 exact ok_gno rfl rfl rfl
               refine ⟨?_, ?_⟩
               · intro w91 D91
                 rintro _ rfl _ rfl
                 show OpOK _ _ _ _ _ _ _
                 exact ok_gno rfl rfl rfl
               refine ⟨?_, ?_⟩
               · intro w92 D92
                 rintro _ rfl _ rfl
                 show OpOK _ _ _ _ _ _ _
                 exact ok_pure (ro_pickT (v := .bool _) rfl rfl) rfl
               refine ⟨?_, ?_⟩
               · intro w93 D93
                 rintro _ rfl
                 show OpOK _ _ _ _ _ _ _
                 exact ok_pure (ro_move (v := .bool _) rfl) rfl
               refine ⟨?_, ?_⟩
               · intro w94 D94
                 rintro _ rfl
                 show OpOK _ _ _ _ _ _ _
                 exact ok_gno rfl rfl rfl
               refine ⟨?_, ?_⟩
               · intro w95 D95
                 rintro _ rfl _ rfl
                 show OpOK _ _ _ _ _ _ _
                 exact ok_gno rfl rfl rfl
               refine ⟨?_, ?_⟩
               · intro w96 D96
                 rintro _ rfl _ rfl
                 show OpOK _ _ _ _ _ _ _
                 exact ok_gno rfl rfl rfl
               refine ⟨?_, ?_⟩
               · intro w97 D97
                 rintro _ rfl
                 show OpOK _ _ _ _ _ _ _
                 exact ok_gund rfl rfl
               refine ⟨?_, ?_⟩
               · intro w98 D98
                 rintro _ rfl
                 show OpOK _ _ _ _ _ _ _
                 exact ok_gund rfl rfl
               refine ⟨?_, ?_⟩
               · intro w99 D99
                 rintro _ rfl _ rfl
                 show OpOK _ _ _ _ _ _ _
                 exact ok_gund rfl rfl
               refine ⟨?_, ?_⟩
               · intro w100 D100
                 rintro _ rfl _ rfl _ rfl
                 show OpOK _ _ _ _ _ _ _
                 exact ok_gund rfl rfl
               refine ⟨?_, ?_⟩
               · intro w101 D101
                 rintro _ rfl _ rfl
                 show OpOK _ _ _ _ _ _ _
                 exact ok_gund rfl rfl
               refine ⟨?_, ?_⟩
               · intro w102 D102
                 rintro _ rfl _ rfl
                 show OpOK _ _ _ _ _ _ _
                 exact ok_gund rfl rfl
               refine ⟨?_, ?_⟩
               · intro w103 D103
                 rintro _ rfl
                 show OpOK _ _ _ _ _ _ _
                 exact ok_gund rfl rfl
               refine ⟨?_, ?_⟩
               · intro w104 D104
                 rintro _ rfl
                 show OpOK _ _ _ _ _ _ _
                 exact ok_gund rfl rfl
               refine ⟨?_, ?_⟩
               · intro w105 D105
                 rintro _ rfl _ rfl _ rfl
                 show OpOK _ _ _ _ _ _ _
                 exact ok_gund rfl rfl
               refine ⟨?_, ?_⟩
               · intro w106 D106
                 rintro _ rfl _ rfl
                 show OpOK _ _ _ _ _ _ _
                 exact ok_gund rfl rfl
               refine ⟨?_, ?_⟩
               · intro w107 D107
                 rintro _ rfl _ rfl
                 show OpOK _ _ _ _ _ _ _
                 exact ok_gund rfl rfl
               refine ⟨?_, ?_⟩
               · intro w108 D108
                 rintro _ rfl _ rfl _ rfl
                 show OpOK _ _ _ _ _ _ _
                 exact ok_gund rfl rfl
               refine ⟨?_, ?_⟩
               · intro w109 D109
                 rintro _ rfl _ rfl _ rfl
                 show OpOK _ _ _ _ _ _ _
                 exact ok_gno rfl rfl rfl
               refine ⟨?_, ?_⟩
               · intro w110 D110
                 rintro _ rfl _ rfl
                 show OpOK _ _ _ _ _ _ _
                 exact ok_pure (ro_pickT (v := .bool _) rfl rfl) rfl
               exact trivial
              case hend =>
               intro w111 D111
               rintro _ rfl _ rfl _ rfl _ rfl _ rfl _ rfl _ rfl _ rfl _ rfl _ rfl _ rfl _ rfl _ rfl _ rfl _ rfl _ rfl _ rfl _ rfl _ rfl _ rfl _ rfl _ rfl _ rfl _ rfl _ rfl _ rfl _ rfl _ rfl _ rfl _ rfl _ rfl _ rfl _ rfl _ rfl _ rfl _ rfl _ rfl _ rfl _ rfl _ rfl _ rfl _ rfl _ rfl _ rfl _ rfl _ rfl _ rfl _ rfl _ rfl _ rfl _ rfl _ rfl
               show St _ _ _ _ _ _ _
               refine st_nil ?_
               refine nx_then ?_
               refine cd_condT rfl ?_
               refine cd_seq ?_
               refine cd_region ?_
               refine st_val (ro_assign (v := .bool _) rfl) ?_
               refine st_nil ?_
               refine nx_then ?_
               refine cd_ret ?_
               refine rt_block ?_
               refine rt_then ?_
               refine rt_then ?_
               refine rt_block ?_
               refine rt_then ?_
               refine res1 (v := .bool _) rfl rfl ?_
               exact ⟨⟨false, rfl, fun h => absurd h (by simp)⟩, (hB.next D111)⟩
            · obtain ⟨h1, h2, h3⟩ := h1
              apply cd_drawn 52 [(13, eqp _), (14, eqp _), (15, eqp _), (16, eqp _), (17, eqp _), (18, eqp _), (19, eqp _), (20, eqp _), (21, eqp _), (22, eqp _), (23, eqp _), (24, eqp _), (25, eqp _), (26, eqp _), (27, eqp _), (28, eqp _), (29, eqp _), (30, eqp _), (31, eqp _), (32, eqp _), (33, eqp _), (34, eqp _), (35, eqp _), (36, eqp _), (37, eqp _), (38, eqp _), (39, eqp _), (40, eqp _), (41, eqp _), (42, eqp _), (43, eqp _), (44, eqp _), (45, eqp _), (46, eqp _), (47, eqp _), (48, eqp _), (49, eqp _), (50, eqp _), (51, eqp _), (52, eqp _), (53, eqp _), (54, eqp _), (55, eqp _), (56, eqp _), (57, eqp _), (58, eqp _), (59, eqp _), (60, eqp _), (61, eqp _), (62, eqp _), (63, eqp _), (64, eqp _)] (by kernel_rfl) (by kernel_rfl) ⟨eqp_mono _, eqp_mono _, eqp_mono _, eqp_mono _, eqp_mono _, eqp_mono _, eqp_mono _, eqp_mono _, eqp_mono _, eqp_mono _, eqp_mono _, eqp_mono _, eqp_mono _, eqp_mono _, eqp_mono _, eqp_mono _, eqp_mono _, eqp_mono _, eqp_mono _, eqp_mono _, eqp_mono _, eqp_mono _, eqp_mono _, eqp_mono _, eqp_mono _, eqp_mono _, eqp_mono _, eqp_mono _, eqp_mono _, eqp_mono _, eqp_mono _, eqp_mono _, eqp_mono _, eqp_mono _, eqp_mono _, eqp_mono _, eqp_mono _, eqp_mono _, eqp_mono _, eqp_mono _, eqp_mono _, eqp_mono _, eqp_mono _, eqp_mono _, eqp_mono _, eqp_mono _, eqp_mono _, eqp_mono _, eqp_mono _, eqp_mono _, eqp_mono _, eqp_mono _, trivial⟩
              case hop =>
               refine ⟨?_, ?_⟩
               · intro w113 D113
                 show OpOK _ _ _ _ _ _ _
                 exact ok_pure (ro_move (v := .slice _ _ _) rfl) rfl
               refine ⟨?_, ?_⟩
               · intro w114 D114
                 show OpOK _ _ _ _ _ _ _
                 exact ok_pure (ro_move (v := .int _ _) rfl) rfl
               refine ⟨?_, ?_⟩
               · intro w115 D115
                 rintro _ rfl _ rfl
                 show OpOK _ _ _ _ _ _ _
                 exact ok_pure (ro_indexAddrN SesWalks2_e22 rfl rfl (by omega)) rfl
               refine ⟨?_, ?_⟩
               · intro w116 D116
                 rintro _ rfl
                 show OpOK _ _ _ _ _ _ _
                 exact ok_pure (ro_fieldAddr SesWalks2_f60_0 rfl) rfl
               refine ⟨?_, ?_⟩
               · intro w117 D117
                 rintro _ rfl
                 show OpOK _ _ _ _ _ _ _
                 exact ok_pure (ro_load SesWalks2_g3 rfl (by exact cellF (hB.next D117) (hcs k (by omega) 0 _ rfl))) rfl
               refine ⟨?_, ?_⟩
               · intro w118 D118
                 rintro _ rfl
                 show OpOK _ _ _ _ _ _ _
                 refine ok_call SesWalks2_k32 ((id_rt L[k].c _).mono ?_)
                 rintro v _ ⟨rfl, rfl⟩; exact ⟨From.rfl_, rfl⟩
               refine ⟨?_, ?_⟩
               · intro w119 D119
                 rintro _ rfl
                 show OpOK _ _ _ _ _ _ _
                 exact ok_pure (ro_bf (ro_not rfl) (by rw [h1]; rfl)) rfl
               refine ⟨?_, ?_⟩
               · intro w120 D120
                 rintro _ rfl
                 show OpOK _ _ _ _ _ _ _
                 exact ok_pure (ro_move (v := .bool _) rfl) rfl
               refine ⟨?_, ?_⟩
               · intro w121 D121
                 rintro _ rfl
                 show OpOK _ _ _ _ _ _ _
                 exact ok_gpure rfl (ro_move (v := .slice _ _ _) rfl) rfl
               refine ⟨?_, ?_⟩
               · intro w122 D122
                 rintro _ rfl
                 show OpOK _ _ _ _ _ _ _
                 exact ok_gpure rfl (ro_move (v := .int _ _) rfl) rfl
               refine ⟨?_, ?_⟩
               · intro w123 D123
                 rintro _ rfl _ rfl _ rfl
                 show OpOK _ _ _ _ _ _ _
                 exact ok_gpure rfl (ro_indexAddrN SesWalks2_e22 rfl rfl (by omega)) rfl
               refine ⟨?_, ?_⟩
               · intro w124 D124
                 rintro _ rfl _ rfl
                 show OpOK _ _ _ _ _ _ _
                 exact ok_gpure rfl (ro_fieldAddr SesWalks2_f60_1 rfl) rfl
               refine ⟨?_, ?_⟩
               · intro w125 D125
                 rintro _ rfl _ rfl
                 show OpOK _ _ _ _ _ _ _
                 exact ok_gpure rfl (ro_load SesWalks2_g3 rfl (by exact cellF (hB.next D125) (hcs k (by omega) 1 _ rfl))) rfl
               refine ⟨?_, ?_⟩
               · intro w126 D126
                 rintro _ rfl _ rfl
                 show OpOK _ _ _ _ _ _ _
                 refine ok_gcall rfl SesWalks2_k33 ((numB_rt L[k].s _).mono ?_)
                 rintro v _ ⟨rfl, rfl⟩; exact ⟨From.rfl_, rfl⟩
               refine ⟨?_, ?_⟩
               · intro w127 D127
                 rintro _ rfl _ rfl
                 show OpOK _ _ _ _ _ _ _
                 exact ok_gpure rfl (ro_bf (ro_not rfl) (by rw [h2]; rfl)) rfl
               refine ⟨?_, ?_⟩
               · intro w128 D128
                 rintro _ rfl _ rfl
                 show OpOK _ _ _ _ _ _ _
                 exact ok_pure (ro_pickF (v := .bool _) rfl rfl) rfl
               refine ⟨?_, ?_⟩
               · intro w129 D129
                 rintro _ rfl
                 show OpOK _ _ _ _ _ _ _
                 exact ok_pure (ro_move (v := .bool _) rfl) rfl
               refine ⟨?_, ?_⟩
               · intro w130 D130
                 rintro _ rfl
                 show OpOK _ _ _ _ _ _ _
                 exact ok_gpure rfl (ro_move (v := .slice _ _ _) rfl) rfl
               refine ⟨?_, ?_⟩
               · intro w131 D131
                 rintro _ rfl
                 show OpOK _ _ _ _ _ _ _
                 exact ok_gpure rfl (ro_move (v := .int _ _) rfl) rfl
               refine ⟨?_, ?_⟩
               · intro w132 D132
                 rintro _ rfl _ rfl _ rfl
                 show OpOK _ _ _ _ _ _ _
                 exact ok_gpure rfl (ro_indexAddrN SesWalks2_e22 rfl rfl (by omega)) rfl
               refine ⟨?_, ?_⟩
               · intro w133 D133
                 rintro _ rfl _ rfl
                 show OpOK _ _ _ _ _ _ _
                 exact ok_gpure rfl (ro_fieldAddr SesWalks2_f60_3 rfl) rfl
               refine ⟨?_, ?_⟩
               · intro w134 D134
                 rintro _ rfl _ rfl
                 show OpOK _ _ _ _ _ _ _
                 exact ok_gpure rfl (ro_load SesWalks2_g3 rfl (by exact cellF (hB.next D134) (hcs k (by omega) 5 _ rfl))) rfl
               refine ⟨?_, ?_⟩
               · intro w135 D135
                 rintro _ rfl _ rfl
                 show OpOK _ _ _ _ _ _ _
                 refine ok_gcall rfl SesWalks2_k33 ((numB_rt L[k].u _).mono ?_)
                 rintro v _ ⟨rfl, rfl⟩; exact ⟨From.rfl_, rfl⟩
               refine ⟨?_, ?_⟩
               · intro w136 D136
                 rintro _ rfl _ rfl
                 show OpOK _ _ _ _ _ _ _
                 exact ok_gpure rfl (ro_bt (ro_not rfl) (by rw [h3]; rfl)) rfl
               refine ⟨?_, ?_⟩
               · intro w137 D137
                 rintro _ rfl _ rfl
                 show OpOK _ _ _ _ _ _ _
                 exact ok_pure (ro_pickF (v := .bool _) rfl rfl) rfl
               refine ⟨?_, ?_⟩
               · intro w138 D138
                 rintro _ rfl
                 show OpOK _ _ _ _ _ _ _
                 exact ok_pure (ro_move (v := .bool _) rfl) rfl
               refine ⟨?_, ?_⟩
               · intro w139 D139
                 rintro _ rfl
                 show OpOK _ _ _ _ _ _ _
                 exact ok_gno rfl rfl rfl
               refine ⟨?_, ?_⟩
               · intro w140 D140
                 rintro _ rfl
                 show OpOK _ _ _ _ _ _ _
                 exact ok_gno rfl rfl rfl
               refine ⟨?_, ?_⟩
               · intro w141 D141
                 rintro _ rfl _ rfl _ rfl
                 show OpOK _ _ _ _ _ _ _
                 exact ok_gno rfl rfl rfl
               refine ⟨?_, ?_⟩
               · intro w142 D142
                 rintro _ rfl _ rfl
                 show OpOK _ _ _ _ _ _ _
                 exact ok_gno rfl rfl rfl
               refine ⟨?_, ?_⟩
               · intro w143 D143
                 rintro _ rfl _ rfl
                 show OpOK _ _ _ _ _ _ _
                 exact ok_gno rfl rfl rfl
               refine ⟨?_, ?_⟩
               · intro w144 D144
                 rintro _ rfl _ rfl
                 show OpOK _ _ _ _ _ _ _
                 exact ok_gno rfl rfl rfl
               refine ⟨?_, ?_⟩
               · intro w145 D145
                 rintro _ rfl _ rfl
                 show OpOK _ _ _ _ _ _ _
                 exact ok_gno rfl rfl rfl
               refine ⟨?_, ?_⟩
               · intro w146 D146
                 rintro _ rfl _ rfl
                 show OpOK _ _ _ _ _ _ _
                 exact ok_pure (ro_pickT (v := .bool _) rfl rfl) rfl
               refine ⟨?_, ?_⟩
               · intro w147 D147
                 rintro _ rfl
                 show OpOK _ _ _ _ _ _ _
                 exact ok_pure (ro_move (v := .bool _) rfl) rfl
               refine ⟨?_, ?_⟩
               · intro w148 D148
                 rintro _ rfl
                 show OpOK _ _ _ _ _ _ _
                 exact ok_gno rfl rfl rfl
               refine ⟨?_, ?_⟩
               · intro w149 D149
                 rintro _ rfl _ rfl
                 show OpOK _ _ _ _ _ _ _
                 exact ok_gno rfl rfl rfl
               refine ⟨?_, ?_⟩
               · intro w150 D150
                 rintro _ rfl _ rfl
                 show OpOK _ _ _ _ _ _ _
                 exact ok_gno rfl rfl rfl
               refine ⟨?_, ?_⟩
               · intro w151 D151
                 rintro _ rfl
                 show OpOK _ _ _ _ _ _ _
                 exact ok_gund rfl rfl
               refine ⟨?_, ?_⟩
               · intro w152 D152
                 rintro _ rfl
                 show OpOK _ _ _ _ _ _ _
                 exact ok_gund rfl rfl
               refine ⟨?_, ?_⟩
               · intro w153 D153
                 rintro _ rfl _ rfl
                 show OpOK _ _ _ _ _ _ _
                 exact ok_gund rfl rfl
               refine ⟨?_, ?_⟩
               · intro w154 D154
                 rintro _ rfl _ rfl _ rfl
                 show OpOK _ _ _ _ _ _ _
                 exact ok_gund rfl rfl
               refine ⟨?_, ?_⟩
               · intro w155 D155
                 rintro _ rfl _ rfl
                 show OpOK _ _ _ _ _ _ _
                 exact ok_gund rfl rfl
               refine ⟨?_, ?_⟩
               · intro w156 D156
                 rintro _ rfl _ rfl
                 show OpOK _ _ _ _ _ _ _
                 exact ok_gund rfl rfl
               refine ⟨?_, ?_⟩
               · intro w157 D157
                 rintro _ rfl
                 show OpOK _ _ _ _ _ _ _
                 exact ok_gund rfl rfl
               refine ⟨?_, ?_⟩
               · intro w158 D158
                 rintro _ rfl
                 show OpOK _ _ _ _ _ _ _
                 exact ok_gund rfl rfl
               refine ⟨?_, ?_⟩
               · intro w159 D159
                 rintro _ rfl _ rfl _ rfl
                 show OpOK _ _ _ _ _ _ _
                 exact ok_gund rfl rfl
               refine ⟨?_, ?_⟩
               · intro w160 D160
                 rintro _ rfl _ rfl
                 show OpOK _ _ _ _ _ _ _
                 exact ok_gund rfl rfl
               refine ⟨?_, ?_⟩
               · intro w161 D161
                 rintro _ rfl _ rfl
                 show OpOK _ _ _ _ _ _ _
                 exact ok_gund rfl rfl
               refine ⟨?_, ?_⟩
               · intro w162 D162
                 rintro _ rfl _ rfl _ rfl
                 show OpOK _ _ _ _ _ _ _
                 exact ok_gund rfl rfl
               refine ⟨?_, ?_⟩
               · intro w163 D163
                 rintro _ rfl _ rfl _ rfl
                 show OpOK _ _ _ _ _ _ _
                 exact ok_gno rfl rfl rfl
               refine ⟨?_, ?_⟩
               · intro w164 D164
                 rintro _ rfl _ rfl
                 show OpOK _ _ _ _ _ _ _
                 exact ok_pure (ro_pickT (v := .bool _) rfl rfl) rfl
               exact trivial
              case hend =>
               intro w165 D165
               rintro _ rfl _ rfl _ rfl _ rfl _ rfl _ rfl _ rfl _ rfl _ rfl _ rfl _ rfl _ rfl _ rfl _ rfl _ rfl _ rfl _ rfl _ rfl _ rfl _ rfl _ rfl _ rfl _ rfl _ rfl _ rfl _ rfl _ rfl _ rfl _ rfl _ rfl _ rfl _ rfl _ rfl _ rfl _ rfl _ rfl _ rfl _ rfl _ rfl _ rfl _ rfl _ rfl _ rfl _ rfl _ rfl _ rfl _ rfl _ rfl _ rfl _ rfl _ rfl _ rfl
               show St _ _ _ _ _ _ _
               refine st_nil ?_
               refine nx_then ?_
               refine cd_condT rfl ?_
               refine cd_seq ?_
               refine cd_region ?_
               refine st_val (ro_assign (v := .bool _) rfl) ?_
               refine st_nil ?_
               refine nx_then ?_
               refine cd_ret ?_
               refine rt_block ?_
               refine rt_then ?_
               refine rt_then ?_
               refine rt_block ?_
               refine rt_then ?_
               refine res1 (v := .bool _) rfl rfl ?_
               exact ⟨⟨false, rfl, fun h => absurd h (by simp)⟩, (hB.next D165)⟩
            · obtain ⟨h1, h2, h3, h4⟩ := h1
              apply cd_drawn 52 [(13, eqp _), (14, eqp _), (15, eqp _), (16, eqp _), (17, eqp _), (18, eqp _), (19, eqp _), (20, eqp _), (21, eqp _), (22, eqp _), (23, eqp _), (24, eqp _), (25, eqp _), (26, eqp _), (27, eqp _), (28, eqp _), (29, eqp _), (30, eqp _), (31, eqp _), (32, eqp _), (33, eqp _), (34, eqp _), (35, eqp _), (36, eqp _), (37, eqp _), (38, eqp _), (39, eqp _), (40, eqp _), (41, eqp _), (42, eqp _), (43, eqp _), (44, eqp _), (45, eqp _), (46, eqp _), (47, eqp _), (48, eqp _), (49, eqp _), (50, eqp _), (51, eqp _), (52, eqp _), (53, eqp _), (54, eqp _), (55, eqp _), (56, eqp _), (57, eqp _), (58, eqp _), (59, eqp _), (60, eqp _), (61, eqp _), (62, eqp _), (63, eqp _), (64, eqp _)] (by kernel_rfl) (by kernel_rfl) ⟨eqp_mono _, eqp_mono _, eqp_mono _, eqp_mono _, eqp_mono _, eqp_mono _, eqp_mono _, eqp_mono _, eqp_mono _, eqp_mono _, eqp_mono _, eqp_mono _, eqp_mono _, eqp_mono _, eqp_mono _, eqp_mono _, eqp_mono _, eqp_mono _, eqp_mono _, eqp_mono _, eqp_mono _, eqp_mono _, eqp_mono _, eqp_mono _, eqp_mono _, eqp_mono _, eqp_mono _, eqp_mono _, eqp_mono _, eqp_mono _, eqp_mono _, eqp_mono _, eqp_mono _, eqp_mono _, eqp_mono _, eqp_mono _, eqp_mono _, eqp_mono _, eqp_mono _, eqp_mono _, eqp_mono _, eqp_mono _, eqp_mono _, eqp_mono _, eqp_mono _, eqp_mono _, eqp_mono _, eqp_mono _, eqp_mono _, eqp_mono _, eqp_mono _, eqp_mono _, trivial⟩
              case hop =>
               refine ⟨?_, ?_⟩
               · intro w167 D167
                 show OpOK _ _ _ _ _ _ _
                 exact ok_pure (ro_move (v := .slice _ _ _) rfl) rfl
               refine ⟨?_, ?_⟩
               · intro w168 D168
                 show OpOK _ _ _ _ _ _ _
                 exact ok_pure (ro_move (v := .int _ _) rfl) rfl
               refine ⟨?_, ?_⟩
               · intro w169 D169
                 rintro _ rfl _ rfl
                 show OpOK _ _ _ _ _ _ _
                 exact ok_pure (ro_indexAddrN SesWalks2_e22 rfl rfl (by omega)) rfl
               refine ⟨?_, ?_⟩
               · intro w170 D170
                 rintro _ rfl
                 show OpOK _ _ _ _ _ _ _
                 exact ok_pure (ro_fieldAddr SesWalks2_f60_0 rfl) rfl
               refine ⟨?_, ?_⟩
               · intro w171 D171
                 rintro _ rfl
                 show OpOK _ _ _ _ _ _ _
                 exact ok_pure (ro_load SesWalks2_g3 rfl (by exact cellF (hB.next D171) (hcs k (by omega) 0 _ rfl))) rfl
               refine ⟨?_, ?_⟩
               · intro w172 D172
                 rintro _ rfl
                 show OpOK _ _ _ _ _ _ _
                 refine ok_call SesWalks2_k32 ((id_rt L[k].c _).mono ?_)
                 rintro v _ ⟨rfl, rfl⟩; exact ⟨From.rfl_, rfl⟩
               refine ⟨?_, ?_⟩
               · intro w173 D173
                 rintro _ rfl
                 show OpOK _ _ _ _ _ _ _
                 exact ok_pure (ro_bf (ro_not rfl) (by rw [h1]; rfl)) rfl
               refine ⟨?_, ?_⟩
               · intro w174 D174
                 rintro _ rfl
                 show OpOK _ _ _ _ _ _ _
                 exact ok_pure (ro_move (v := .bool _) rfl) rfl
               refine ⟨?_, ?_⟩
               · intro w175 D175
                 rintro _ rfl
                 show OpOK _ _ _ _ _ _ _
                 exact ok_gpure rfl (ro_move (v := .slice _ _ _) rfl) rfl
               refine ⟨?_, ?_⟩
               · intro w176 D176
                 rintro _ rfl
                 show OpOK _ _ _ _ _ _ _
                 exact ok_gpure rfl (ro_move (v := .int _ _) rfl) rfl
               refine ⟨?_, ?_⟩
               · intro w177 D177
                 rintro _ rfl _ rfl _ rfl
                 show OpOK _ _ _ _ _ _ _
                 exact ok_gpure rfl (ro_indexAddrN SesWalks2_e22 rfl rfl (by omega)) rfl
               refine ⟨?_, ?_⟩
               · intro w178 D178
                 rintro _ rfl _ rfl
                 show OpOK _ _ _ _ _ _ _
                 exact ok_gpure rfl (ro_fieldAddr SesWalks2_f60_1 rfl) rfl
               refine ⟨?_, ?_⟩
               · intro w179 D179
                 rintro _ rfl _ rfl
                 show OpOK _ _ _ _ _ _ _
                 exact ok_gpure rfl (ro_load SesWalks2_g3 rfl (by exact cellF (hB.next D179) (hcs k (by omega) 1 _ rfl))) rfl
               refine ⟨?_, ?_⟩
               · intro w180 D180
                 rintro _ rfl _ rfl
                 show OpOK _ _ _ _ _ _ _
                 refine ok_gcall rfl SesWalks2_k33 ((numB_rt L[k].s _).mono ?_)
                 rintro v _ ⟨rfl, rfl⟩; exact ⟨From.rfl_, rfl⟩
               refine ⟨?_, ?_⟩
               · intro w181 D181
                 rintro _ rfl _ rfl
                 show OpOK _ _ _ _ _ _ _
                 exact ok_gpure rfl (ro_bf (ro_not rfl) (by rw [h2]; rfl)) rfl
               refine ⟨?_, ?_⟩
               · intro w182 D182
                 rintro _ rfl _ rfl
                 show OpOK _ _ _ _ _ _ _
                 exact ok_pure (ro_pickF (v := .bool _) rfl rfl) rfl
               refine ⟨?_, ?_⟩
               · intro w183 D183
                 rintro _ rfl
                 show OpOK _ _ _ _ _ _ _
                 exact ok_pure (ro_move (v := .bool _) rfl) rfl
               refine ⟨?_, ?_⟩
               · intro w184 D184
                 rintro _ rfl
                 show OpOK _ _ _ _ _ _ _
                 exact ok_gpure rfl (ro_move (v := .slice _ _ _) rfl) rfl
               refine ⟨?_, ?_⟩
               · intro w185 D185
                 rintro _ rfl
                 show OpOK _ _ _ _ _ _ _
                 exact ok_gpure rfl (ro_move (v := .int _ _) rfl) rfl
               refine ⟨?_, ?_⟩
               · intro w186 D186
                 rintro _ rfl _ rfl _ rfl
                 show OpOK _ _ _ _ _ _ _
                 exact ok_gpure rfl (ro_indexAddrN SesWalks2_e22 rfl rfl (by omega)) rfl
               refine ⟨?_, ?_⟩
               · intro w187 D187
                 rintro _ rfl _ rfl
                 show OpOK _ _ _ _ _ _ _
                 exact ok_gpure rfl (ro_fieldAddr SesWalks2_f60_3 rfl) rfl
               refine ⟨?_, ?_⟩
               · intro w188 D188
                 rintro _ rfl _ rfl
                 show OpOK _ _ _ _ _ _ _
                 exact ok_gpure rfl (ro_load SesWalks2_g3 rfl (by exact cellF (hB.next D188) (hcs k (by omega) 5 _ rfl))) rfl
               refine ⟨?_, ?_⟩
               · intro w189 D189
                 rintro _ rfl _ rfl
                 show OpOK _ _ _ _ _ _ _
                 refine ok_gcall rfl SesWalks2_k33 ((numB_rt L[k].u _).mono ?_)
                 rintro v _ ⟨rfl, rfl⟩; exact ⟨From.rfl_, rfl⟩
               refine ⟨?_, ?_⟩
               · intro w190 D190
                 rintro _ rfl _ rfl
                 show OpOK _ _ _ _ _ _ _
                 exact ok_gpure rfl (ro_bf (ro_not rfl) (by rw [h3]; rfl)) rfl
               refine ⟨?_, ?_⟩
               · intro w191 D191
                 rintro _ rfl _ rfl
                 show OpOK _ _ _ _ _ _ _
                 exact ok_pure (ro_pickF (v := .bool _) rfl rfl) rfl
               refine ⟨?_, ?_⟩
               · intro w192 D192
                 rintro _ rfl
                 show OpOK _ _ _ _ _ _ _
                 exact ok_pure (ro_move (v := .bool _) rfl) rfl
               refine ⟨?_, ?_⟩
               · intro w193 D193
                 rintro _ rfl
                 show OpOK _ _ _ _ _ _ _
                 exact ok_gpure rfl (ro_move (v := .slice _ _ _) rfl) rfl
               refine ⟨?_, ?_⟩
               · intro w194 D194
                 rintro _ rfl
                 show OpOK _ _ _ _ _ _ _
                 exact ok_gpure rfl (ro_move (v := .int _ _) rfl) rfl
               refine ⟨?_, ?_⟩
               · intro w195 D195
                 rintro _ rfl _ rfl _ rfl
                 show OpOK _ _ _ _ _ _ _
                 exact ok_gpure rfl (ro_indexAddrN SesWalks2_e22 rfl rfl (by omega)) rfl
               refine ⟨?_, ?_⟩
               · intro w196 D196
                 rintro _ rfl _ rfl
                 show OpOK _ _ _ _ _ _ _
                 exact ok_gpure rfl (ro_fieldAddr SesWalks2_f60_2 rfl) rfl
               refine ⟨?_, ?_⟩
               · intro w197 D197
                 rintro _ rfl _ rfl
                 show OpOK _ _ _ _ _ _ _
                 exact ok_gpure rfl (ro_loadA (cs := [_, _, _]) SesWalks2_g31 SesWalks2_z31 rfl (by exact rangeF (hB.next D197) (rep_ses (hcs k (by omega))))) rfl
               refine ⟨?_, ?_⟩
               · intro w198 D198
                 rintro _ rfl _ rfl
                 show OpOK _ _ _ _ _ _ _
                 refine ok_gcall rfl SesWalks2_k34 ((mayReply_rt L[k].e L[k].n L[k].H L[k].hl L[k].hc _).mono ?_)
                 rintro v _ ⟨rfl, E198'⟩; exact ⟨E198', rfl⟩
               refine ⟨?_, ?_⟩
               · intro w199 D199
                 rintro _ rfl _ rfl
                 show OpOK _ _ _ _ _ _ _
                 exact ok_gpure rfl (ro_bt (ro_not rfl) (by rw [h4]; rfl)) rfl
               refine ⟨?_, ?_⟩
               · intro w200 D200
                 rintro _ rfl _ rfl
                 show OpOK _ _ _ _ _ _ _
                 exact ok_pure (ro_pickF (v := .bool _) rfl rfl) rfl
               refine ⟨?_, ?_⟩
               · intro w201 D201
                 rintro _ rfl
                 show OpOK _ _ _ _ _ _ _
                 exact ok_pure (ro_move (v := .bool _) rfl) rfl
               refine ⟨?_, ?_⟩
               · intro w202 D202
                 rintro _ rfl
                 show OpOK _ _ _ _ _ _ _
                 exact ok_gno rfl rfl rfl
               refine ⟨?_, ?_⟩
               · intro w203 D203
                 rintro _ rfl _ rfl
                 show OpOK _ _ _ _ _ _ _
                 exact ok_gno rfl rfl rfl
               refine ⟨?_, ?_⟩
               · intro w204 D204
                 rintro _ rfl _ rfl
                 show OpOK _ _ _ _ _ _ _
                 exact ok_gno rfl rfl rfl
               refine ⟨?_, ?_⟩
               · intro w205 D205
                 rintro _ rfl
                 show OpOK _ _ _ _ _ _ _
                 exact ok_gund rfl rfl
               refine ⟨?_, ?_⟩
               · intro w206 D206
                 rintro _ rfl
                 show OpOK _ _ _ _ _ _ _
                 exact ok_gund rfl rfl
               refine ⟨?_, ?_⟩
               · intro w207 D207
                 rintro _ rfl _ rfl
                 show OpOK _ _ _ _ _ _ _
                 exact ok_gund rfl rfl
               refine ⟨?_, ?_⟩
               · intro w208 D208
                 rintro _ rfl _ rfl _ rfl
                 show OpOK _ _ _ _ _ _ _
                 exact ok_gund rfl rfl
               refine ⟨?_, ?_⟩
               · intro w209 D209
                 rintro _ rfl _ rfl
                 show OpOK _ _ _ _ _ _ _
                 exact ok_gund rfl rfl
               refine ⟨?_, ?_⟩
               · intro w210 D210
                 rintro _ rfl _ rfl
                 show OpOK _ _ _ _ _ _ _
                 exact ok_gund rfl rfl
               refine ⟨?_, ?_⟩
               · intro w211 D211
                 rintro _ rfl
                 show OpOK _ _ _ _ _ _ _
                 exact ok_gund rfl rfl
               refine ⟨?_, ?_⟩
               · intro w212 D212
                 rintro _ rfl
                 show OpOK _ _ _ _ _ _ _
                 exact ok_gund rfl rfl
               refine ⟨?_, ?_⟩
               · intro w213 D213
                 rintro _ rfl _ rfl _ rfl
                 show OpOK _ _ _ _ _ _ _
                 exact ok_gund rfl rfl
               refine ⟨?_, ?_⟩
               · intro w214 D214
                 rintro _ rfl _ rfl
                 show OpOK _ _ _ _ _ _ _
                 exact ok_gund rfl rfl
               refine ⟨?_, ?_⟩
               · intro w215 D215
                 rintro _ rfl _ rfl
                 show OpOK _ _ _ _ _ _ _
                 exact ok_gund rfl rfl
               refine ⟨?_, ?_⟩
               · intro w216 D216
                 rintro _ rfl _ rfl _ rfl
                 show OpOK _ _ _ _ _ _ _
                 exact ok_gund rfl rfl
               refine ⟨?_, ?_⟩
               · intro w217 D217
                 rintro _ rfl _ rfl _ rfl
                 show OpOK _ _ _ _ _ _ _
                 exact ok_gno rfl rfl rfl
               refine ⟨?_, ?_⟩
               · intro w218 D218
                 rintro _ rfl _ rfl
                 show OpOK _ _ _ _ _ _ _
                 exact ok_pure (ro_pickT (v := .bool _) rfl rfl) rfl
               exact trivial
              case hend =>
               intro w219 D219
               rintro _ rfl _ rfl _ rfl _ rfl _ rfl _ rfl _ rfl _ rfl _ rfl _ rfl _ rfl _ rfl _ rfl _ rfl _ rfl _ rfl _ rfl _ rfl _ rfl _ rfl _ rfl _ rfl _ rfl _ rfl _ rfl _ rfl _ rfl _ rfl _ rfl _ rfl _ rfl _ rfl _ rfl _ rfl _ rfl _ rfl _ rfl _ rfl _ rfl _ rfl _ rfl _ rfl _ rfl _ rfl _ rfl _ rfl _ rfl _ rfl _ rfl _ rfl _ rfl _ rfl
               show St _ _ _ _ _ _ _
               refine st_nil ?_
               refine nx_then ?_
               refine cd_condT rfl ?_
               refine cd_seq ?_
               refine cd_region ?_
               refine st_val (ro_assign (v := .bool _) rfl) ?_
               refine st_nil ?_
               refine nx_then ?_
               refine cd_ret ?_
               refine rt_block ?_
               refine rt_then ?_
               refine rt_then ?_
               refine rt_block ?_
               refine rt_then ?_
               refine res1 (v := .bool _) rfl rfl ?_
               exact ⟨⟨false, rfl, fun h => absurd h (by simp)⟩, (hB.next D219)⟩
            · obtain ⟨hvs, h1, h2, h3, h4, hk0⟩ := h1
              have hstep : vS L[k] = true ∧ (0 < k → (L[k - 1]'(by omega)).c < L[k].c) := ⟨hvs, fun h => absurd h (by omega)⟩
              apply cd_drawn 52 [(13, eqp _), (14, eqp _), (15, eqp _), (16, eqp _), (17, eqp _), (18, eqp _), (19, eqp _), (20, eqp _), (21, eqp _), (22, eqp _), (23, eqp _), (24, eqp _), (25, eqp _), (26, eqp _), (27, eqp _), (28, eqp _), (29, eqp _), (30, eqp _), (31, eqp _), (32, eqp _), (33, eqp _), (34, eqp _), (35, eqp _), (36, eqp _), (37, eqp _), (38, eqp _), (39, eqp _), (40, eqp _), (41, eqp _), (42, eqp _), (43, eqp _), (44, eqp _), (45, eqp _), (46, eqp _), (47, eqp _), (48, eqp _), (49, eqp _), (50, eqp _), (51, eqp _), (52, eqp _), (53, eqp _), (54, eqp _), (55, eqp _), (56, eqp _), (57, eqp _), (58, eqp _), (59, eqp _), (60, eqp _), (61, eqp _), (62, eqp _), (63, eqp _), (64, eqp _)] (by kernel_rfl) (by kernel_rfl) ⟨eqp_mono _, eqp_mono _, eqp_mono _, eqp_mono _, eqp_mono _, eqp_mono _, eqp_mono _, eqp_mono _, eqp_mono _, eqp_mono _, eqp_mono _, eqp_mono _, eqp_mono _, eqp_mono _, eqp_mono _, eqp_mono _, eqp_mono _, eqp_mono _, eqp_mono _, eqp_mono _, eqp_mono _, eqp_mono _, eqp_mono _, eqp_mono _, eqp_mono _, eqp_mono _, eqp_mono _, eqp_mono _, eqp_mono _, eqp_mono _, eqp_mono _, eqp_mono _, eqp_mono _, eqp_mono _, eqp_mono _, eqp_mono _, eqp_mono _, eqp_mono _, eqp_mono _, eqp_mono _, eqp_mono _, eqp_mono _, eqp_mono _, eqp_mono _, eqp_mono _, eqp_mono _, eqp_mono _, eqp_mono _, eqp_mono _, eqp_mono _, eqp_mono _, eqp_mono _, trivial⟩
              case hop =>
               refine ⟨?_, ?_⟩
               · intro w221 D221
                 show OpOK _ _ _ _ _ _ _
                 exact ok_pure (ro_move (v := .slice _ _ _) rfl) rfl
               refine ⟨?_, ?_⟩
               · intro w222 D222
                 show OpOK _ _ _ _ _ _ _
                 exact ok_pure (ro_move (v := .int _ _) rfl) rfl
               refine ⟨?_, ?_⟩
               · intro w223 D223
                 rintro _ rfl _ rfl
                 show OpOK _ _ _ _ _ _ _
                 exact ok_pure (ro_indexAddrN SesWalks2_e22 rfl rfl (by omega)) rfl
               refine ⟨?_, ?_⟩
               · intro w224 D224
                 rintro _ rfl
                 show OpOK _ _ _ _ _ _ _
                 exact ok_pure (ro_fieldAddr SesWalks2_f60_0 rfl) rfl
               refine ⟨?_, ?_⟩
               · intro w225 D225
                 rintro _ rfl
                 show OpOK _ _ _ _ _ _ _
                 exact ok_pure (ro_load SesWalks2_g3 rfl (by exact cellF (hB.next D225) (hcs k (by omega) 0 _ rfl))) rfl
               refine ⟨?_, ?_⟩
               · intro w226 D226
                 rintro _ rfl
                 show OpOK _ _ _ _ _ _ _
                 refine ok_call SesWalks2_k32 ((id_rt L[k].c _).mono ?_)
                 rintro v _ ⟨rfl, rfl⟩; exact ⟨From.rfl_, rfl⟩
               refine ⟨?_, ?_⟩
               · intro w227 D227
                 rintro _ rfl
                 show OpOK _ _ _ _ _ _ _
                 exact ok_pure (ro_bf (ro_not rfl) (by rw [h1]; rfl)) rfl
               refine ⟨?_, ?_⟩
               · intro w228 D228
                 rintro _ rfl
                 show OpOK _ _ _ _ _ _ _
                 exact ok_pure (ro_move (v := .bool _) rfl) rfl
               refine ⟨?_, ?_⟩
               · intro w229 D229
                 rintro _ rfl
                 show OpOK _ _ _ _ _ _ _
                 exact ok_gpure rfl (ro_move (v := .slice _ _ _) rfl) rfl
               refine ⟨?_, ?_⟩
               · intro w230 D230
                 rintro _ rfl
                 show OpOK _ _ _ _ _ _ _
                 exact ok_gpure rfl (ro_move (v := .int _ _) rfl) rfl
               refine ⟨?_, ?_⟩
               · intro w231 D231
                 rintro _ rfl _ rfl _ rfl
                 show OpOK _ _ _ _ _ _ _
                 exact ok_gpure rfl (ro_indexAddrN SesWalks2_e22 rfl rfl (by omega)) rfl
               refine ⟨?_, ?_⟩
               · intro w232 D232
                 rintro _ rfl _ rfl
                 show OpOK _ _ _ _ _ _ _
                 exact ok_gpure rfl (ro_fieldAddr SesWalks2_f60_1 rfl) rfl
               refine ⟨?_, ?_⟩
               · intro w233 D233
                 rintro _ rfl _ rfl
                 show OpOK _ _ _ _ _ _ _
                 exact ok_gpure rfl (ro_load SesWalks2_g3 rfl (by exact cellF (hB.next D233) (hcs k (by omega) 1 _ rfl))) rfl
               refine ⟨?_, ?_⟩
               · intro w234 D234
                 rintro _ rfl _ rfl
                 show OpOK _ _ _ _ _ _ _
                 refine ok_gcall rfl SesWalks2_k33 ((numB_rt L[k].s _).mono ?_)
                 rintro v _ ⟨rfl, rfl⟩; exact ⟨From.rfl_, rfl⟩
               refine ⟨?_, ?_⟩
               · intro w235 D235
                 rintro _ rfl _ rfl
                 show OpOK _ _ _ _ _ _ _
                 exact ok_gpure rfl (ro_bf (ro_not rfl) (by rw [h2]; rfl)) rfl
               refine ⟨?_, ?_⟩
               · intro w236 D236
                 rintro _ rfl _ rfl
                 show OpOK _ _ _ _ _ _ _
                 exact ok_pure (ro_pickF (v := .bool _) rfl rfl) rfl
               refine ⟨?_, ?_⟩
               · intro w237 D237
                 rintro _ rfl
                 show OpOK _ _ _ _ _ _ _
                 exact ok_pure (ro_move (v := .bool _) rfl) rfl
               refine ⟨?_, ?_⟩
               · intro w238 D238
                 rintro _ rfl
                 show OpOK _ _ _ _ _ _ _
                 exact ok_gpure rfl (ro_move (v := .slice _ _ _) rfl) rfl
               refine ⟨?_, ?_⟩
               · intro w239 D239
                 rintro _ rfl
                 show OpOK _ _ _ _ _ _ _
                 exact ok_gpure rfl (ro_move (v := .int _ _) rfl) rfl
               refine ⟨?_, ?_⟩
               · intro w240 D240
                 rintro _ rfl _ rfl _ rfl
                 show OpOK _ _ _ _ _ _ _
                 exact ok_gpure rfl (ro_indexAddrN SesWalks2_e22 rfl rfl (by omega)) rfl
               refine ⟨?_, ?_⟩
               · intro w241 D241
                 rintro _ rfl _ rfl
                 show OpOK _ _ _ _ _ _ _
                 exact ok_gpure rfl (ro_fieldAddr SesWalks2_f60_3 rfl) rfl
               refine ⟨?_, ?_⟩
               · intro w242 D242
                 rintro _ rfl _ rfl
                 show OpOK _ _ _ _ _ _ _
                 exact ok_gpure rfl (ro_load SesWalks2_g3 rfl (by exact cellF (hB.next D242) (hcs k (by omega) 5 _ rfl))) rfl
               refine ⟨?_, ?_⟩
               · intro w243 D243
                 rintro _ rfl _ rfl
                 show OpOK _ _ _ _ _ _ _
                 refine ok_gcall rfl SesWalks2_k33 ((numB_rt L[k].u _).mono ?_)
                 rintro v _ ⟨rfl, rfl⟩; exact ⟨From.rfl_, rfl⟩
               refine ⟨?_, ?_⟩
               · intro w244 D244
                 rintro _ rfl _ rfl
                 show OpOK _ _ _ _ _ _ _
                 exact ok_gpure rfl (ro_bf (ro_not rfl) (by rw [h3]; rfl)) rfl
               refine ⟨?_, ?_⟩
               · intro w245 D245
                 rintro _ rfl _ rfl
                 show OpOK _ _ _ _ _ _ _
                 exact ok_pure (ro_pickF (v := .bool _) rfl rfl) rfl
               refine ⟨?_, ?_⟩
               · intro w246 D246
                 rintro _ rfl
                 show OpOK _ _ _ _ _ _ _
                 exact ok_pure (ro_move (v := .bool _) rfl) rfl
               refine ⟨?_, ?_⟩
               · intro w247 D247
                 rintro _ rfl
                 show OpOK _ _ _ _ _ _ _
                 exact ok_gpure rfl (ro_move (v := .slice _ _ _) rfl) rfl
               refine ⟨?_, ?_⟩
               · intro w248 D248
                 rintro _ rfl
                 show OpOK _ _ _ _ _ _ _
                 exact ok_gpure rfl (ro_move (v := .int _ _) rfl) rfl
               refine ⟨?_, ?_⟩
               · intro w249 D249
                 rintro _ rfl _ rfl _ rfl
                 show OpOK _ _ _ _ _ _ _
                 exact ok_gpure rfl (ro_indexAddrN SesWalks2_e22 rfl rfl (by omega)) rfl
               refine ⟨?_, ?_⟩
               · intro w250 D250
                 rintro _ rfl _ rfl
                 show OpOK _ _ _ _ _ _ _
                 exact ok_gpure rfl (ro_fieldAddr SesWalks2_f60_2 rfl) rfl
               refine ⟨?_, ?_⟩
               · intro w251 D251
                 rintro _ rfl _ rfl
                 show OpOK _ _ _ _ _ _ _
                 exact ok_gpure rfl (ro_loadA (cs := [_, _, _]) SesWalks2_g31 SesWalks2_z31 rfl (by exact rangeF (hB.next D251) (rep_ses (hcs k (by omega))))) rfl
               refine ⟨?_, ?_⟩
               · intro w252 D252
                 rintro _ rfl _ rfl
                 show OpOK _ _ _ _ _ _ _
                 refine ok_gcall rfl SesWalks2_k34 ((mayReply_rt L[k].e L[k].n L[k].H L[k].hl L[k].hc _).mono ?_)
                 rintro v _ ⟨rfl, E252'⟩; exact ⟨E252', rfl⟩
               refine ⟨?_, ?_⟩
               · intro w253 D253
                 rintro _ rfl _ rfl
                 show OpOK _ _ _ _ _ _ _
                 exact ok_gpure rfl (ro_bf (ro_not rfl) (by rw [h4]; rfl)) rfl
               refine ⟨?_, ?_⟩
               · intro w254 D254
                 rintro _ rfl _ rfl
                 show OpOK _ _ _ _ _ _ _
                 exact ok_pure (ro_pickF (v := .bool _) rfl rfl) rfl
               refine ⟨?_, ?_⟩
               · intro w255 D255
                 rintro _ rfl
                 show OpOK _ _ _ _ _ _ _
                 exact ok_pure (ro_move (v := .bool _) rfl) rfl
               refine ⟨?_, ?_⟩
               · intro w256 D256
                 rintro _ rfl
                 show OpOK _ _ _ _ _ _ _
                 exact ok_gpure rfl (ro_move (v := .int _ _) rfl) rfl
               refine ⟨?_, ?_⟩
               · intro w257 D257
                 rintro _ rfl _ rfl
                 show OpOK _ _ _ _ _ _ _
                 exact ok_gpure rfl (ro_bf (ro_gtr rfl rfl) (decide_eq_false (by omega))) rfl
               refine ⟨?_, ?_⟩
               · intro w258 D258
                 rintro _ rfl _ rfl
                 show OpOK _ _ _ _ _ _ _
                 exact ok_gpure rfl (ro_move (v := .bool _) rfl) rfl
               refine ⟨?_, ?_⟩
               · intro w259 D259
                 rintro _ rfl
                 show OpOK _ _ _ _ _ _ _
                 exact ok_gno rfl rfl rfl
               refine ⟨?_, ?_⟩
               · intro w260 D260
                 rintro _ rfl
                 show OpOK _ _ _ _ _ _ _
                 exact ok_gno rfl rfl rfl
               refine ⟨?_, ?_⟩
               · intro w261 D261
                 rintro _ rfl _ rfl
                 show OpOK _ _ _ _ _ _ _
                 exact ok_gno rfl rfl rfl
               refine ⟨?_, ?_⟩
               · intro w262 D262
                 rintro _ rfl _ rfl _ rfl
                 show OpOK _ _ _ _ _ _ _
                 exact ok_gno rfl rfl rfl
               refine ⟨?_, ?_⟩
               · intro w263 D263
                 rintro _ rfl _ rfl
                 show OpOK _ _ _ _ _ _ _
                 exact ok_gno rfl rfl rfl
               refine ⟨?_, ?_⟩
               · intro w264 D264
                 rintro _ rfl _ rfl
                 show OpOK _ _ _ _ _ _ _
                 exact ok_gno rfl rfl rfl
               refine ⟨?_, ?_⟩
               · intro w265 D265
                 rintro _ rfl
                 show OpOK _ _ _ _ _ _ _
                 exact ok_gno rfl rfl rfl
               refine ⟨?_, ?_⟩
               · intro w266 D266
                 rintro _ rfl
                 show OpOK _ _ _ _ _ _ _
                 exact ok_gno rfl rfl rfl
               refine ⟨?_, ?_⟩
               · intro w267 D267
                 rintro _ rfl _ rfl _ rfl
                 show OpOK _ _ _ _ _ _ _
                 exact ok_gno rfl rfl rfl
               refine ⟨?_, ?_⟩
               · intro w268 D268
                 rintro _ rfl _ rfl
                 show OpOK _ _ _ _ _ _ _
                 exact ok_gno rfl rfl rfl
               refine ⟨?_, ?_⟩
               · intro w269 D269
                 rintro _ rfl _ rfl
                 show OpOK _ _ _ _ _ _ _
                 exact ok_gno rfl rfl rfl
               refine ⟨?_, ?_⟩
               · intro w270 D270
                 rintro _ rfl _ rfl _ rfl
                 show OpOK _ _ _ _ _ _ _
                 exact ok_gno rfl rfl rfl
               refine ⟨?_, ?_⟩
               · intro w271 D271
                 rintro _ rfl _ rfl _ rfl
                 show OpOK _ _ _ _ _ _ _
                 exact ok_gpure rfl (ro_pickF (v := .bool _) rfl rfl) rfl
               refine ⟨?_, ?_⟩
               · intro w272 D272
                 rintro _ rfl _ rfl
                 show OpOK _ _ _ _ _ _ _
                 exact ok_pure (ro_pickF (v := .bool _) rfl rfl) rfl
               exact trivial
              case hend =>
               intro w273 D273
               rintro _ rfl _ rfl _ rfl _ rfl _ rfl _ rfl _ rfl _ rfl _ rfl _ rfl _ rfl _ rfl _ rfl _ rfl _ rfl _ rfl _ rfl _ rfl _ rfl _ rfl _ rfl _ rfl _ rfl _ rfl _ rfl _ rfl _ rfl _ rfl _ rfl _ rfl _ rfl _ rfl _ rfl _ rfl _ rfl _ rfl _ rfl _ rfl _ rfl _ rfl _ rfl _ rfl _ rfl _ rfl _ rfl _ rfl _ rfl _ rfl _ rfl _ rfl _ rfl _ rfl
               show St _ _ _ _ _ _ _
               refine st_nil ?_
               refine nx_then ?_
               refine cd_condF rfl ?_
               refine cd_skip ?_
               refine nx_block ?_
               refine nx_then ?_
               refine cd_region ?_
               refine st_val (ro_move (v := .int _ _) rfl) ?_
               refine st_val (ro_addN (b := 1) rfl rfl (by omega)) ?_
               refine st_val (ro_assign (v := .int _ _) rfl) ?_
               refine st_nil ?_
               refine nx_cut (k + 1) ⟨(by first | rfl | (refine int_eq ?_; omega)), trivial⟩ (by (iterate 119 refine agr_cons rfl ?_); exact agr_rfl) ⟨?_, ?_⟩
               · refine ⟨by omega, fun i h h0 => ?_, (hB.next D273)⟩
                 rcases Nat.lt_or_ge i k with a | a
                 · exact hall i h a
                 · obtain rfl : i = k := by omega
                   exact hstep
               · omega
            · obtain ⟨hvs, h1, h2, h3, h4, hk0, hlt⟩ := h1
              have hstep : vS L[k] = true ∧ (0 < k → (L[k - 1]'(by omega)).c < L[k].c) := ⟨hvs, fun _ => hlt⟩
              apply cd_drawn 52 [(13, eqp _), (14, eqp _), (15, eqp _), (16, eqp _), (17, eqp _), (18, eqp _), (19, eqp _), (20, eqp _), (21, eqp _), (22, eqp _), (23, eqp _), (24, eqp _), (25, eqp _), (26, eqp _), (27, eqp _), (28, eqp _), (29, eqp _), (30, eqp _), (31, eqp _), (32, eqp _), (33, eqp _), (34, eqp _), (35, eqp _), (36, eqp _), (37, eqp _), (38, eqp _), (39, eqp _), (40, eqp _), (41, eqp _), (42, eqp _), (43, eqp _), (44, eqp _), (45, eqp _), (46, eqp _), (47, eqp _), (48, eqp _), (49, eqp _), (50, eqp _), (51, eqp _), (52, eqp _), (53, eqp _), (54, eqp _), (55, eqp _), (56, eqp _), (57, eqp _), (58, eqp _), (59, eqp _), (60, eqp _), (61, eqp _), (62, eqp _), (63, eqp _), (64, eqp _)] (by kernel_rfl) (by kernel_rfl) ⟨eqp_mono _, eqp_mono _, eqp_mono _, eqp_mono _, eqp_mono _, eqp_mono _, eqp_mono _, eqp_mono _, eqp_mono _, eqp_mono _, eqp_mono _, eqp_mono _, eqp_mono _, eqp_mono _, eqp_mono _, eqp_mono _, eqp_mono _, eqp_mono _, eqp_mono _, eqp_mono _, eqp_mono _, eqp_mono _, eqp_mono _, eqp_mono _, eqp_mono _, eqp_mono _, eqp_mono _, eqp_mono _, eqp_mono _, eqp_mono _, eqp_mono _, eqp_mono _, eqp_mono _, eqp_mono _, eqp_mono _, eqp_mono _, eqp_mono _, eqp_mono _, eqp_mono _, eqp_mono _, eqp_mono _, eqp_mono _, eqp_mono _, eqp_mono _, eqp_mono _, eqp_mono _, eqp_mono _, eqp_mono _, eqp_mono _, eqp_mono _, eqp_mono _, eqp_mono _, trivial⟩
              case hop =>
               refine ⟨?_, ?_⟩
               · intro w275 D275
                 show OpOK _ _ _ _ _ _ _
                 exact ok_pure (ro_move (v := .slice _ _ _) rfl) rfl
               refine ⟨?_, ?_⟩
               · intro w276 D276
                 show OpOK _ _ _ _ _ _ _
                 exact ok_pure (ro_move (v := .int _ _) rfl) rfl
               refine ⟨?_, ?_⟩
               · intro w277 D277
                 rintro _ rfl _ rfl
                 show OpOK _ _ _ _ _ _ _
                 exact ok_pure (ro_indexAddrN SesWalks2_e22 rfl rfl (by omega)) rfl
               refine ⟨?_, ?_⟩
               · intro w278 D278
                 rintro _ rfl
                 show OpOK _ _ _ _ _ _ _
                 exact ok_pure (ro_fieldAddr SesWalks2_f60_0 rfl) rfl
               refine ⟨?_, ?_⟩
               · intro w279 D279
                 rintro _ rfl
                 show OpOK _ _ _ _ _ _ _
                 exact ok_pure (ro_load SesWalks2_g3 rfl (by exact cellF (hB.next D279) (hcs k (by omega) 0 _ rfl))) rfl
               refine ⟨?_, ?_⟩
               · intro w280 D280
                 rintro _ rfl
                 show OpOK _ _ _ _ _ _ _
                 refine ok_call SesWalks2_k32 ((id_rt L[k].c _).mono ?_)
                 rintro v _ ⟨rfl, rfl⟩; exact ⟨From.rfl_, rfl⟩
               refine ⟨?_, ?_⟩
               · intro w281 D281
                 rintro _ rfl
                 show OpOK _ _ _ _ _ _ _
                 exact ok_pure (ro_bf (ro_not rfl) (by rw [h1]; rfl)) rfl
               refine ⟨?_, ?_⟩
               · intro w282 D282
                 rintro _ rfl
                 show OpOK _ _ _ _ _ _ _
                 exact ok_pure (ro_move (v := .bool _) rfl) rfl
               refine ⟨?_, ?_⟩
               · intro w283 D283
                 rintro _ rfl
                 show OpOK _ _ _ _ _ _ _
                 exact ok_gpure rfl (ro_move (v := .slice _ _ _) rfl) rfl
               refine ⟨?_, ?_⟩
               · intro w284 D284
                 rintro _ rfl
                 show OpOK _ _ _ _ _ _ _
                 exact ok_gpure rfl (ro_move (v := .int _ _) rfl) rfl
               refine ⟨?_, ?_⟩
               · intro w285 D285
                 rintro _ rfl _ rfl _ rfl
                 show OpOK _ _ _ _ _ _ _
                 exact ok_gpure rfl (ro_indexAddrN SesWalks2_e22 rfl rfl (by omega)) rfl
               refine ⟨?_, ?_⟩
               · intro w286 D286
                 rintro _ rfl _ rfl
                 show OpOK _ _ _ _ _ _ _
                 exact ok_gpure rfl (ro_fieldAddr SesWalks2_f60_1 rfl) rfl
               refine ⟨?_, ?_⟩
               · intro w287 D287
                 rintro _ rfl _ rfl
                 show OpOK _ _ _ _ _ _ _
                 exact ok_gpure rfl (ro_load SesWalks2_g3 rfl (by exact cellF (hB.next D287) (hcs k (by omega) 1 _ rfl))) rfl
               refine ⟨?_, ?_⟩
               · intro w288 D288
                 rintro _ rfl _ rfl
                 show OpOK _ _ _ _ _ _ _
                 refine ok_gcall rfl SesWalks2_k33 ((numB_rt L[k].s _).mono ?_)
                 rintro v _ ⟨rfl, rfl⟩; exact ⟨From.rfl_, rfl⟩
               refine ⟨?_, ?_⟩
               · intro w289 D289
                 rintro _ rfl _ rfl
                 show OpOK _ _ _ _ _ _ _
                 exact ok_gpure rfl (ro_bf (ro_not rfl) (by rw [h2]; rfl)) rfl
               refine ⟨?_, ?_⟩
               · intro w290 D290
                 rintro _ rfl _ rfl
                 show OpOK _ _ _ _ _ _ _
                 exact ok_pure (ro_pickF (v := .bool _) rfl rfl) rfl
               refine ⟨?_, ?_⟩
               · intro w291 D291
                 rintro _ rfl
                 show OpOK _ _ _ _ _ _ _
                 exact ok_pure (ro_move (v := .bool _) rfl) rfl
               refine ⟨?_, ?_⟩
               · intro w292 D292
                 rintro _ rfl
                 show OpOK _ _ _ _ _ _ _
                 exact ok_gpure rfl (ro_move (v := .slice _ _ _) rfl) rfl
               refine ⟨?_, ?_⟩
               · intro w293 D293
                 rintro _ rfl
                 show OpOK _ _ _ _ _ _ _
                 exact ok_gpure rfl (ro_move (v := .int _ _) rfl) rfl
               refine ⟨?_, ?_⟩
               · intro w294 D294
                 rintro _ rfl _ rfl _ rfl
                 show OpOK _ _ _ _ _ _ _
                 exact ok_gpure rfl (ro_indexAddrN SesWalks2_e22 rfl rfl (by omega)) rfl
               refine ⟨?_, ?_⟩
               · intro w295 D295
                 rintro _ rfl _ rfl
                 show OpOK _ _ _ _ _ _ _
                 exact ok_gpure rfl (ro_fieldAddr SesWalks2_f60_3 rfl) rfl
               refine ⟨?_, ?_⟩
               · intro w296 D296
                 rintro _ rfl _ rfl
                 show OpOK _ _ _ _ _ _ _
                 exact ok_gpure rfl (ro_load SesWalks2_g3 rfl (by exact cellF (hB.next D296) (hcs k (by omega) 5 _ rfl))) rfl
               refine ⟨?_, ?_⟩
               · intro w297 D297
                 rintro _ rfl _ rfl
                 show OpOK _ _ _ _ _ _ _
                 refine ok_gcall rfl SesWalks2_k33 ((numB_rt L[k].u _).mono ?_)
                 rintro v _ ⟨rfl, rfl⟩; exact ⟨From.rfl_, rfl⟩
               refine ⟨?_, ?_⟩
               · intro w298 D298
                 rintro _ rfl _ rfl
                 show OpOK _ _ _ _ _ _ _
                 exact ok_gpure rfl (ro_bf (ro_not rfl) (by rw [h3]; rfl)) rfl
               refine ⟨?_, ?_⟩
               · intro w299 D299
                 rintro _ rfl _ rfl
                 show OpOK _ _ _ _ _ _ _
                 exact ok_pure (ro_pickF (v := .bool _) rfl rfl) rfl
               refine ⟨?_, ?_⟩
               · intro w300 D300
                 rintro _ rfl
                 show OpOK _ _ _ _ _ _ _
                 exact ok_pure (ro_move (v := .bool _) rfl) rfl
               refine ⟨?_, ?_⟩
               · intro w301 D301
                 rintro _ rfl
                 show OpOK _ _ _ _ _ _ _
                 exact ok_gpure rfl (ro_move (v := .slice _ _ _) rfl) rfl
               refine ⟨?_, ?_⟩
               · intro w302 D302
                 rintro _ rfl
                 show OpOK _ _ _ _ _ _ _
                 exact ok_gpure rfl (ro_move (v := .int _ _) rfl) rfl
               refine ⟨?_, ?_⟩
               · intro w303 D303
                 rintro _ rfl _ rfl _ rfl
                 show OpOK _ _ _ _ _ _ _
                 exact ok_gpure rfl (ro_indexAddrN SesWalks2_e22 rfl rfl (by omega)) rfl
               refine ⟨?_, ?_⟩
               · intro w304 D304
                 rintro _ rfl _ rfl
                 show OpOK _ _ _ _ _ _ _
                 exact ok_gpure rfl (ro_fieldAddr SesWalks2_f60_2 rfl) rfl
               refine ⟨?_, ?_⟩
               · intro w305 D305
                 rintro _ rfl _ rfl
                 show OpOK _ _ _ _ _ _ _
                 exact ok_gpure rfl (ro_loadA (cs := [_, _, _]) SesWalks2_g31 SesWalks2_z31 rfl (by exact rangeF (hB.next D305) (rep_ses (hcs k (by omega))))) rfl
               refine ⟨?_, ?_⟩
               · intro w306 D306
                 rintro _ rfl _ rfl
                 show OpOK _ _ _ _ _ _ _
                 refine ok_gcall rfl SesWalks2_k34 ((mayReply_rt L[k].e L[k].n L[k].H L[k].hl L[k].hc _).mono ?_)
                 rintro v _ ⟨rfl, E306'⟩; exact ⟨E306', rfl⟩
               refine ⟨?_, ?_⟩
               · intro w307 D307
                 rintro _ rfl _ rfl
                 show OpOK _ _ _ _ _ _ _
                 exact ok_gpure rfl (ro_bf (ro_not rfl) (by rw [h4]; rfl)) rfl
               refine ⟨?_, ?_⟩
               · intro w308 D308
                 rintro _ rfl _ rfl
                 show OpOK _ _ _ _ _ _ _
                 exact ok_pure (ro_pickF (v := .bool _) rfl rfl) rfl
               refine ⟨?_, ?_⟩
               · intro w309 D309
                 rintro _ rfl
                 show OpOK _ _ _ _ _ _ _
                 exact ok_pure (ro_move (v := .bool _) rfl) rfl
               refine ⟨?_, ?_⟩
               · intro w310 D310
                 rintro _ rfl
                 show OpOK _ _ _ _ _ _ _
                 exact ok_gpure rfl (ro_move (v := .int _ _) rfl) rfl
               refine ⟨?_, ?_⟩
               · intro w311 D311
                 rintro _ rfl _ rfl
                 show OpOK _ _ _ _ _ _ _
                 exact ok_gpure rfl (ro_bt (ro_gtr rfl rfl) (decide_eq_true (by omega))) rfl
               refine ⟨?_, ?_⟩
               · intro w312 D312
                 rintro _ rfl _ rfl
                 show OpOK _ _ _ _ _ _ _
                 exact ok_gpure rfl (ro_move (v := .bool _) rfl) rfl
               refine ⟨?_, ?_⟩
               · intro w313 D313
                 rintro _ rfl
                 show OpOK _ _ _ _ _ _ _
                 exact ok_gpure rfl (ro_move (v := .slice _ _ _) rfl) rfl
               refine ⟨?_, ?_⟩
               · intro w314 D314
                 rintro _ rfl
                 show OpOK _ _ _ _ _ _ _
                 exact ok_gpure rfl (ro_move (v := .int _ _) rfl) rfl
               refine ⟨?_, ?_⟩
               · intro w315 D315
                 rintro _ rfl _ rfl
                 show OpOK _ _ _ _ _ _ _
                 exact ok_gpure rfl (ro_subN (b := 1) rfl rfl (by omega)) rfl
               refine ⟨?_, ?_⟩
               · intro w316 D316
                 rintro _ rfl _ rfl _ rfl
                 show OpOK _ _ _ _ _ _ _
                 exact ok_gpure rfl (ro_indexAddrN SesWalks2_e22 rfl rfl (by omega)) rfl
               refine ⟨?_, ?_⟩
               · intro w317 D317
                 rintro _ rfl _ rfl
                 show OpOK _ _ _ _ _ _ _
                 exact ok_gpure rfl (ro_fieldAddr SesWalks2_f60_0 rfl) rfl
               refine ⟨?_, ?_⟩
               · intro w318 D318
                 rintro _ rfl _ rfl
                 show OpOK _ _ _ _ _ _ _
                 exact ok_gpure rfl (ro_load SesWalks2_g3 rfl (by exact cellF (hB.next D318) (hcs (k - 1) (by omega) 0 _ rfl))) rfl
               refine ⟨?_, ?_⟩
               · intro w319 D319
                 rintro _ rfl
                 show OpOK _ _ _ _ _ _ _
                 exact ok_gpure rfl (ro_move (v := .slice _ _ _) rfl) rfl
               refine ⟨?_, ?_⟩
               · intro w320 D320
                 rintro _ rfl
                 show OpOK _ _ _ _ _ _ _
                 exact ok_gpure rfl (ro_move (v := .int _ _) rfl) rfl
               refine ⟨?_, ?_⟩
               · intro w321 D321
                 rintro _ rfl _ rfl _ rfl
                 show OpOK _ _ _ _ _ _ _
                 exact ok_gpure rfl (ro_indexAddrN SesWalks2_e22 rfl rfl (by omega)) rfl
               refine ⟨?_, ?_⟩
               · intro w322 D322
                 rintro _ rfl _ rfl
                 show OpOK _ _ _ _ _ _ _
                 exact ok_gpure rfl (ro_fieldAddr SesWalks2_f60_0 rfl) rfl
               refine ⟨?_, ?_⟩
               · intro w323 D323
                 rintro _ rfl _ rfl
                 show OpOK _ _ _ _ _ _ _
                 exact ok_gpure rfl (ro_load SesWalks2_g3 rfl (by exact cellF (hB.next D323) (hcs k (by omega) 0 _ rfl))) rfl
               refine ⟨?_, ?_⟩
               · intro w324 D324
                 rintro _ rfl _ rfl _ rfl
                 show OpOK _ _ _ _ _ _ _
                 exact ok_gpure rfl (ro_bf (ro_geq rfl rfl) (decide_eq_false (by omega))) rfl
               refine ⟨?_, ?_⟩
               · intro w325 D325
                 rintro _ rfl _ rfl _ rfl
                 show OpOK _ _ _ _ _ _ _
                 exact ok_gpure rfl (ro_pickT (v := .bool _) rfl rfl) rfl
               refine ⟨?_, ?_⟩
               · intro w326 D326
                 rintro _ rfl _ rfl
                 show OpOK _ _ _ _ _ _ _
                 exact ok_pure (ro_pickF (v := .bool _) rfl rfl) rfl
               exact trivial
              case hend =>
               intro w327 D327
               rintro _ rfl _ rfl _ rfl _ rfl _ rfl _ rfl _ rfl _ rfl _ rfl _ rfl _ rfl _ rfl _ rfl _ rfl _ rfl _ rfl _ rfl _ rfl _ rfl _ rfl _ rfl _ rfl _ rfl _ rfl _ rfl _ rfl _ rfl _ rfl _ rfl _ rfl _ rfl _ rfl _ rfl _ rfl _ rfl _ rfl _ rfl _ rfl _ rfl _ rfl _ rfl _ rfl _ rfl _ rfl _ rfl _ rfl _ rfl _ rfl _ rfl _ rfl _ rfl _ rfl
               show St _ _ _ _ _ _ _
               refine st_nil ?_
               refine nx_then ?_
               refine cd_condF rfl ?_
               refine cd_skip ?_
               refine nx_block ?_
               refine nx_then ?_
               refine cd_region ?_
               refine st_val (ro_move (v := .int _ _) rfl) ?_
               refine st_val (ro_addN (b := 1) rfl rfl (by omega)) ?_
               refine st_val (ro_assign (v := .int _ _) rfl) ?_
               refine st_nil ?_
               refine nx_cut (k + 1) ⟨(by first | rfl | (refine int_eq ?_; omega)), trivial⟩ (by (iterate 119 refine agr_cons rfl ?_); exact agr_rfl) ⟨?_, ?_⟩
               · refine ⟨by omega, fun i h h0 => ?_, (hB.next D327)⟩
                 rcases Nat.lt_or_ge i k with a | a
                 · exact hall i h a
                 · obtain rfl : i = k := by omega
                   exact hstep
               · omega
            · obtain ⟨h1, h2, h3, h4, hk0, hlt⟩ := h1
              apply cd_drawn 52 [(13, eqp _), (14, eqp _), (15, eqp _), (16, eqp _), (17, eqp _), (18, eqp _), (19, eqp _), (20, eqp _), (21, eqp _), (22, eqp _), (23, eqp _), (24, eqp _), (25, eqp _), (26, eqp _), (27, eqp _), (28, eqp _), (29, eqp _), (30, eqp _), (31, eqp _), (32, eqp _), (33, eqp _), (34, eqp _), (35, eqp _), (36, eqp _), (37, eqp _), (38, eqp _), (39, eqp _), (40, eqp _), (41, eqp _), (42, eqp _), (43, eqp _), (44, eqp _), (45, eqp _), (46, eqp _), (47, eqp _), (48, eqp _), (49, eqp _), (50, eqp _), (51, eqp _), (52, eqp _), (53, eqp _), (54, eqp _), (55, eqp _), (56, eqp _), (57, eqp _), (58, eqp _), (59, eqp _), (60, eqp _), (61, eqp _), (62, eqp _), (63, eqp _), (64, eqp _)] (by kernel_rfl) (by kernel_rfl) ⟨eqp_mono _, eqp_mono _, eqp_mono _, eqp_mono _, eqp_mono _, eqp_mono _, eqp_mono _, eqp_mono _, eqp_mono _, eqp_mono _, eqp_mono _, eqp_mono _, eqp_mono _, eqp_mono _, eqp_mono _, eqp_mono _, eqp_mono _, eqp_mono _, eqp_mono _, eqp_mono _, eqp_mono _, eqp_mono _, eqp_mono _, eqp_mono _, eqp_mono _, eqp_mono _, eqp_mono _, eqp_mono _, eqp_mono _, eqp_mono _, eqp_mono _, eqp_mono _, eqp_mono _, eqp_mono _, eqp_mono _, eqp_mono _, eqp_mono _, eqp_mono _, eqp_mono _, eqp_mono _, eqp_mono _, eqp_mono _, eqp_mono _, eqp_mono _, eqp_mono _, eqp_mono _, eqp_mono _, eqp_mono _, eqp_mono _, eqp_mono _, eqp_mono _, eqp_mono _, trivial⟩
              case hop =>
               refine ⟨?_, ?_⟩
               · intro w329 D329
                 show OpOK _ _ _ _ _ _ _
                 exact ok_pure (ro_move (v := .slice _ _ _) rfl) rfl
               refine ⟨?_, ?_⟩
               · intro w330 D330
                 show OpOK _ _ _ _ _ _ _
                 exact ok_pure (ro_move (v := .int _ _) rfl) rfl
               refine ⟨?_, ?_⟩
               · intro w331 D331
                 rintro _ rfl _ rfl
                 show OpOK _ _ _ _ _ _ _
                 exact ok_pure (ro_indexAddrN SesWalks2_e22 rfl rfl (by omega)) rfl
               refine ⟨?_, ?_⟩
               · intro w332 D332
                 rintro _ rfl
                 show OpOK _ _ _ _ _ _ _
                 exact ok_pure (ro_fieldAddr SesWalks2_f60_0 rfl) rfl
               refine ⟨?_, ?_⟩
               · intro w333 D333
                 rintro _ rfl
                 show OpOK _ _ _ _ _ _ _
                 exact ok_pure (ro_load SesWalks2_g3 rfl (by exact cellF (hB.next D333) (hcs k (by omega) 0 _ rfl))) rfl
               refine ⟨?_, ?_⟩
               · intro w334 D334
                 rintro _ rfl
                 show OpOK _ _ _ _ _ _ _
                 refine ok_call SesWalks2_k32 ((id_rt L[k].c _).mono ?_)
                 rintro v _ ⟨rfl, rfl⟩; exact ⟨From.rfl_, rfl⟩
               refine ⟨?_, ?_⟩
               · intro w335 D335
                 rintro _ rfl
                 show OpOK _ _ _ _ _ _ _
                 exact ok_pure (ro_bf (ro_not rfl) (by rw [h1]; rfl)) rfl
               refine ⟨?_, ?_⟩
               · intro w336 D336
                 rintro _ rfl
                 show OpOK _ _ _ _ _ _ _
                 exact ok_pure (ro_move (v := .bool _) rfl) rfl
               refine ⟨?_, ?_⟩
               · intro w337 D337
                 rintro _ rfl
                 show OpOK _ _ _ _ _ _ _
                 exact ok_gpure rfl (ro_move (v := .slice _ _ _) rfl) rfl
               refine ⟨?_, ?_⟩
               · intro w338 D338
                 rintro _ rfl
                 show OpOK _ _ _ _ _ _ _
                 exact ok_gpure rfl (ro_move (v := .int _ _) rfl) rfl
               refine ⟨?_, ?_⟩
               · intro w339 D339
                 rintro _ rfl _ rfl _ rfl
                 show OpOK _ _ _ _ _ _ _
                 exact ok_gpure rfl (ro_indexAddrN SesWalks2_e22 rfl rfl (by omega)) rfl
               refine ⟨?_, ?_⟩
               · intro w340 D340
                 rintro _ rfl _ rfl
                 show OpOK _ _ _ _ _ _ _
                 exact ok_gpure rfl (ro_fieldAddr SesWalks2_f60_1 rfl) rfl
               refine ⟨?_, ?_⟩
               · intro w341 D341
                 rintro _ rfl _ rfl
                 show OpOK _ _ _ _ _ _ _
                 exact ok_gpure rfl (ro_load SesWalks2_g3 rfl (by exact cellF (hB.next D341) (hcs k (by omega) 1 _ rfl))) rfl
               refine ⟨?_, ?_⟩
               · intro w342 D342
                 rintro _ rfl _ rfl
                 show OpOK _ _ _ _ _ _ _
                 refine ok_gcall rfl SesWalks2_k33 ((numB_rt L[k].s _).mono ?_)
                 rintro v _ ⟨rfl, rfl⟩; exact ⟨From.rfl_, rfl⟩
               refine ⟨?_, ?_⟩
               · intro w343 D343
                 rintro _ rfl _ rfl
                 show OpOK _ _ _ _ _ _ _
                 exact ok_gpure rfl (ro_bf (ro_not rfl) (by rw [h2]; rfl)) rfl
               refine ⟨?_, ?_⟩
               · intro w344 D344
                 rintro _ rfl _ rfl
                 show OpOK _ _ _ _ _ _ _
                 exact ok_pure (ro_pickF (v := .bool _) rfl rfl) rfl
               refine ⟨?_, ?_⟩
               · intro w345 D345
                 rintro _ rfl
                 show OpOK _ _ _ _ _ _ _
                 exact ok_pure (ro_move (v := .bool _) rfl) rfl
               refine ⟨?_, ?_⟩
               · intro w346 D346
                 rintro _ rfl
                 show OpOK _ _ _ _ _ _ _
                 exact ok_gpure rfl (ro_move (v := .slice _ _ _) rfl) rfl
               refine ⟨?_, ?_⟩
               · intro w347 D347
                 rintro _ rfl
                 show OpOK _ _ _ _ _ _ _
                 exact ok_gpure rfl (ro_move (v := .int _ _) rfl) rfl
               refine ⟨?_, ?_⟩
               · intro w348 D348
                 rintro _ rfl _ rfl _ rfl
                 show OpOK _ _ _ _ _ _ _
                 exact ok_gpure rfl (ro_indexAddrN SesWalks2_e22 rfl rfl (by omega)) rfl
               refine ⟨?_, ?_⟩
               · intro w349 D349
                 rintro _ rfl _ rfl
                 show OpOK _ _ _ _ _ _ _
                 exact ok_gpure rfl (ro_fieldAddr SesWalks2_f60_3 rfl) rfl
               refine ⟨?_, ?_⟩
               · intro w350 D350
                 rintro _ rfl _ rfl
                 show OpOK _ _ _ _ _ _ _
                 exact ok_gpure rfl (ro_load SesWalks2_g3 rfl (by exact cellF (hB.next D350) (hcs k (by omega) 5 _ rfl))) rfl
               refine ⟨?_, ?_⟩
               · intro w351 D351
                 rintro _ rfl _ rfl
                 show OpOK _ _ _ _ _ _ _
                 refine ok_gcall rfl SesWalks2_k33 ((numB_rt L[k].u _).mono ?_)
                 rintro v _ ⟨rfl, rfl⟩; exact ⟨From.rfl_, rfl⟩
               refine ⟨?_, ?_⟩
               · intro w352 D352
                 rintro _ rfl _ rfl
                 show OpOK _ _ _ _ _ _ _
                 exact ok_gpure rfl (ro_bf (ro_not rfl) (by rw [h3]; rfl)) rfl
               refine ⟨?_, ?_⟩
               · intro w353 D353
                 rintro _ rfl _ rfl
                 show OpOK _ _ _ _ _ _ _
                 exact ok_pure (ro_pickF (v := .bool _) rfl rfl) rfl
               refine ⟨?_, ?_⟩
               · intro w354 D354
                 rintro _ rfl
                 show OpOK _ _ _ _ _ _ _
                 exact ok_pure (ro_move (v := .bool _) rfl) rfl
               refine ⟨?_, ?_⟩
               · intro w355 D355
                 rintro _ rfl
                 show OpOK _ _ _ _ _ _ _
                 exact ok_gpure rfl (ro_move (v := .slice _ _ _) rfl) rfl
               refine ⟨?_, ?_⟩
               · intro w356 D356
                 rintro _ rfl
                 show OpOK _ _ _ _ _ _ _
                 exact ok_gpure rfl (ro_move (v := .int _ _) rfl) rfl
               refine ⟨?_, ?_⟩
               · intro w357 D357
                 rintro _ rfl _ rfl _ rfl
                 show OpOK _ _ _ _ _ _ _
                 exact ok_gpure rfl (ro_indexAddrN SesWalks2_e22 rfl rfl (by omega)) rfl
               refine ⟨?_, ?_⟩
               · intro w358 D358
                 rintro _ rfl _ rfl
                 show OpOK _ _ _ _ _ _ _
                 exact ok_gpure rfl (ro_fieldAddr SesWalks2_f60_2 rfl) rfl
               refine ⟨?_, ?_⟩
               · intro w359 D359
                 rintro _ rfl _ rfl
                 show OpOK _ _ _ _ _ _ _
                 exact ok_gpure rfl (ro_loadA (cs := [_, _, _]) SesWalks2_g31 SesWalks2_z31 rfl (by exact rangeF (hB.next D359) (rep_ses (hcs k (by omega))))) rfl
               refine ⟨?_, ?_⟩
               · intro w360 D360
                 rintro _ rfl _ rfl
                 show OpOK _ _ _ _ _ _ _
                 refine ok_gcall rfl SesWalks2_k34 ((mayReply_rt L[k].e L[k].n L[k].H L[k].hl L[k].hc _).mono ?_)
                 rintro v _ ⟨rfl, E360'⟩; exact ⟨E360', rfl⟩
               refine ⟨?_, ?_⟩
               · intro w361 D361
                 rintro _ rfl _ rfl
                 show OpOK _ _ _ _ _ _ _
                 exact ok_gpure rfl (ro_bf (ro_not rfl) (by rw [h4]; rfl)) rfl
               refine ⟨?_, ?_⟩
               · intro w362 D362
                 rintro _ rfl _ rfl
                 show OpOK _ _ _ _ _ _ _
                 exact ok_pure (ro_pickF (v := .bool _) rfl rfl) rfl
               refine ⟨?_, ?_⟩
               · intro w363 D363
                 rintro _ rfl
                 show OpOK _ _ _ _ _ _ _
                 exact ok_pure (ro_move (v := .bool _) rfl) rfl
               refine ⟨?_, ?_⟩
               · intro w364 D364
                 rintro _ rfl
                 show OpOK _ _ _ _ _ _ _
                 exact ok_gpure rfl (ro_move (v := .int _ _) rfl) rfl
               refine ⟨?_, ?_⟩
               · intro w365 D365
                 rintro _ rfl _ rfl
                 show OpOK _ _ _ _ _ _ _
                 exact ok_gpure rfl (ro_bt (ro_gtr rfl rfl) (decide_eq_true (by omega))) rfl
               refine ⟨?_, ?_⟩
               · intro w366 D366
                 rintro _ rfl _ rfl
                 show OpOK _ _ _ _ _ _ _
                 exact ok_gpure rfl (ro_move (v := .bool _) rfl) rfl
               refine ⟨?_, ?_⟩
               · intro w367 D367
                 rintro _ rfl
                 show OpOK _ _ _ _ _ _ _
                 exact ok_gpure rfl (ro_move (v := .slice _ _ _) rfl) rfl
               refine ⟨?_, ?_⟩
               · intro w368 D368
                 rintro _ rfl
                 show OpOK _ _ _ _ _ _ _
                 exact ok_gpure rfl (ro_move (v := .int _ _) rfl) rfl
               refine ⟨?_, ?_⟩
               · intro w369 D369
                 rintro _ rfl _ rfl
                 show OpOK _ _ _ _ _ _ _
                 exact ok_gpure rfl (ro_subN (b := 1) rfl rfl (by omega)) rfl
               refine ⟨?_, ?_⟩
               · intro w370 D370
                 rintro _ rfl _ rfl _ rfl
                 show OpOK _ _ _ _ _ _ _
                 exact ok_gpure rfl (ro_indexAddrN SesWalks2_e22 rfl rfl (by omega)) rfl
               refine ⟨?_, ?_⟩
               · intro w371 D371
                 rintro _ rfl _ rfl
                 show OpOK _ _ _ _ _ _ _
                 exact ok_gpure rfl (ro_fieldAddr SesWalks2_f60_0 rfl) rfl
               refine ⟨?_, ?_⟩
               · intro w372 D372
                 rintro _ rfl _ rfl
                 show OpOK _ _ _ _ _ _ _
                 exact ok_gpure rfl (ro_load SesWalks2_g3 rfl (by exact cellF (hB.next D372) (hcs (k - 1) (by omega) 0 _ rfl))) rfl
               refine ⟨?_, ?_⟩
               · intro w373 D373
                 rintro _ rfl
                 show OpOK _ _ _ _ _ _ _
                 exact ok_gpure rfl (ro_move (v := .slice _ _ _) rfl) rfl
               refine ⟨?_, ?_⟩
               · intro w374 D374
                 rintro _ rfl
                 show OpOK _ _ _ _ _ _ _
                 exact ok_gpure rfl (ro_move (v := .int _ _) rfl) rfl
               refine ⟨?_, ?_⟩
               · intro w375 D375
                 rintro _ rfl _ rfl _ rfl
                 show OpOK _ _ _ _ _ _ _
                 exact ok_gpure rfl (ro_indexAddrN SesWalks2_e22 rfl rfl (by omega)) rfl
               refine ⟨?_, ?_⟩
               · intro w376 D376
                 rintro _ rfl _ rfl
                 show OpOK _ _ _ _ _ _ _
                 exact ok_gpure rfl (ro_fieldAddr SesWalks2_f60_0 rfl) rfl
               refine ⟨?_, ?_⟩
               · intro w377 D377
                 rintro _ rfl _ rfl
                 show OpOK _ _ _ _ _ _ _
                 exact ok_gpure rfl (ro_load SesWalks2_g3 rfl (by exact cellF (hB.next D377) (hcs k (by omega) 0 _ rfl))) rfl
               refine ⟨?_, ?_⟩
               · intro w378 D378
                 rintro _ rfl _ rfl _ rfl
                 show OpOK _ _ _ _ _ _ _
                 exact ok_gpure rfl (ro_bt (ro_geq rfl rfl) (decide_eq_true (by omega))) rfl
               refine ⟨?_, ?_⟩
               · intro w379 D379
                 rintro _ rfl _ rfl _ rfl
                 show OpOK _ _ _ _ _ _ _
                 exact ok_gpure rfl (ro_pickT (v := .bool _) rfl rfl) rfl
               refine ⟨?_, ?_⟩
               · intro w380 D380
                 rintro _ rfl _ rfl
                 show OpOK _ _ _ _ _ _ _
                 exact ok_pure (ro_pickF (v := .bool _) rfl rfl) rfl
               exact trivial
              case hend =>
               intro w381 D381
               rintro _ rfl _ rfl _ rfl _ rfl _ rfl _ rfl _ rfl _ rfl _ rfl _ rfl _ rfl _ rfl _ rfl _ rfl _ rfl _ rfl _ rfl _ rfl _ rfl _ rfl _ rfl _ rfl _ rfl _ rfl _ rfl _ rfl _ rfl _ rfl _ rfl _ rfl _ rfl _ rfl _ rfl _ rfl _ rfl _ rfl _ rfl _ rfl _ rfl _ rfl _ rfl _ rfl _ rfl _ rfl _ rfl _ rfl _ rfl _ rfl _ rfl _ rfl _ rfl _ rfl
               show St _ _ _ _ _ _ _
               refine st_nil ?_
               refine nx_then ?_
               refine cd_condT rfl ?_
               refine cd_seq ?_
               refine cd_region ?_
               refine st_val (ro_assign (v := .bool _) rfl) ?_
               refine st_nil ?_
               refine nx_then ?_
               refine cd_ret ?_
               refine rt_block ?_
               refine rt_then ?_
               refine rt_then ?_
               refine rt_block ?_
               refine rt_then ?_
               refine res1 (v := .bool _) rfl rfl ?_
               exact ⟨⟨false, rfl, fun h => absurd h (by simp)⟩, (hB.next D381)⟩
       · (try first | replace Q3 := bn_t Q3 | replace Q3 := bn_f Q3)
         (try first | replace Q3 := bx_t Q3 | replace Q3 := bx_f Q3 | replace Q3 := be_t Q3 | replace Q3 := be_f Q3 | replace Q3 := of_decide_eq_true Q3 | replace Q3 := of_decide_eq_false Q3)
         first
          | (exfalso; first | omega | contradiction | (cases Q3; done))
          | skip
            refine cd_exit ?_
            refine ex_then ?_
            refine ex_then ?_
            refine ex_block ?_
            refine nx_then ?_
            refine cd_seq ?_
            refine cd_region ?_
            refine st_val (ro_assign (v := .bool _) rfl) ?_
            refine st_nil ?_
            refine nx_then ?_
            refine cd_ret ?_
            refine res1 (v := .bool _) rfl rfl ?_
            exact ⟨⟨true, rfl, fun _ => ⟨by omega, fun i h => hall i h (by omega)⟩⟩, hB⟩
end Go.Proofs.Ytbikemhokgcboaa
