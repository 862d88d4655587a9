/- net: EqRpcs, wakes. -/
import Derived.Test.YthakmhdliginoaaNetTake
namespace Go.Proofs.Ythakmhdliginoaa
open Go.RowKit
open Go.ChangeShapes Go.WideShapes Go.ChangeAt
theorem NetWakes_q27 : litQ Try.prog 27 = some (33, 13, 128, (.agg #[.int .i64 0, .int .i64 0, .int .i64 0, .int .i64 0, .int .i64 0, .int .i64 0, .int .i64 0, .int .i64 0, .bool false, .slice none 0 0, .int .i64 0, .string ⟨#[]⟩, .bool false] : Value)) := by kernel_rfl
theorem NetWakes_g33 : aggQ Try.prog 33 = some true := by kernel_rfl
theorem NetWakes_z33 : sizeQ Try.prog 33 = some 13 := by kernel_rfl
theorem NetWakes_l31 : (elemQ Try.prog 31).isSome = true := by kernel_rfl
theorem NetWakes_f33_0 : fieldQ Try.prog 33 0 = some 0 := by kernel_rfl
theorem NetWakes_g3 : aggQ Try.prog 3 = some false := by kernel_rfl
theorem NetWakes_f33_1 : fieldQ Try.prog 33 1 = some 1 := by kernel_rfl
theorem NetWakes_f33_2 : fieldQ Try.prog 33 2 = some 2 := by kernel_rfl
theorem NetWakes_f33_3 : fieldQ Try.prog 33 3 = some 3 := by kernel_rfl
theorem NetWakes_f33_4 : fieldQ Try.prog 33 4 = some 4 := by kernel_rfl
theorem NetWakes_f33_5 : fieldQ Try.prog 33 5 = some 5 := by kernel_rfl
theorem NetWakes_f33_6 : fieldQ Try.prog 33 6 = some 6 := by kernel_rfl
theorem NetWakes_f33_7 : fieldQ Try.prog 33 7 = some 7 := by kernel_rfl
theorem NetWakes_f33_8 : fieldQ Try.prog 33 8 = some 8 := by kernel_rfl
theorem NetWakes_g4 : aggQ Try.prog 4 = some false := by kernel_rfl
theorem NetWakes_f33_9 : fieldQ Try.prog 33 9 = some 9 := by kernel_rfl
theorem NetWakes_g31 : aggQ Try.prog 31 = some false := by kernel_rfl
theorem NetWakes_k34 : callable Try.prog 34 = true := by kernel_rfl
theorem NetWakes_f33_10 : fieldQ Try.prog 33 10 = some 10 := by kernel_rfl
theorem NetWakes_f33_11 : fieldQ Try.prog 33 11 = some 11 := by kernel_rfl
theorem NetWakes_g9 : aggQ Try.prog 9 = some false := by kernel_rfl
theorem NetWakes_f33_12 : fieldQ Try.prog 33 12 = some 12 := by kernel_rfl
theorem NetWakes_l27 : (elemQ Try.prog 27).isSome = true := by kernel_rfl
theorem NetWakes_e27 : elemQ Try.prog 27 = some (33, 13) := by kernel_rfl
theorem NetWakes_k25 : callable Try.prog 25 = true := by kernel_rfl
theorem NetWakes_p24 : Try.prog.underlying 24 = some (.pointer (Try.prog.pointee 24)) := by kernel_rfl
theorem NetWakes_k7 : callable Try.prog 7 = true := by kernel_rfl
theorem NetWakes_b33_0cinti641 : Try.prog.built 33 [(0, .int .i64 1)] = some #[.int .i64 1, .int .i64 0, .int .i64 0, .int .i64 0, .int .i64 0, .int .i64 0, .int .i64 0, .int .i64 0, .bool false, .slice none 0 0, .int .i64 0, .string ⟨#[]⟩, .bool false] := by kernel_rfl
theorem NetWakes_k15 : callable Try.prog 15 = true := by kernel_rfl
theorem NetWakes_k9 : callable Try.prog 9 = true := by kernel_rfl
theorem NetWakes_k10 : callable Try.prog 10 = true := by kernel_rfl
set_option maxRecDepth 100000 in
set_option maxHeartbeats 400000 in
theorem eqEntries0 (w : World) :
    Rt Try.prog 34 [.slice none 0 0, .slice none 0 0] w (fun v w' => v = .bool true ∧ w = w') := by
  refine enter (n := 26) Try.func34 rfl rfl rfl ?_
  refine cd_seq ?_
  refine cd_region ?_
  refine st_val (ro_assign (v := .bool _) rfl) ?_
  refine st_nil ?_
  refine nx_then ?_
  refine cd_seq ?_
  refine cd_seq ?_
  refine cd_region ?_
  refine st_val (ro_move (v := .slice _ _ _) rfl) ?_
  refine st_val (ro_len NetWakes_l31 rfl) ?_
  refine st_val (ro_move (v := .slice _ _ _) rfl) ?_
  refine st_val (ro_len NetWakes_l31 rfl) ?_
  refine st_val (ro_bf (ro_neq rfl rfl) rfl) ?_
  refine st_nil ?_
  refine nx_then ?_
  refine cd_condF rfl ?_
  refine cd_skip ?_
  refine nx_then ?_
  refine cd_seq ?_
  refine cd_seq ?_
  refine cd_region ?_
  refine st_val (ro_assign (v := .int _ _) rfl) ?_
  refine st_nil ?_
  refine nx_then ?_
  refine cd_block ?_
  refine cd_loop (G := Unit) [4, 11, 12, 13, 14, 15, 16, 17, 18, 19, 20, 21, 22, 23, 24, 25] (fun _ => [(5, .int .i64 0)]) (fun _ w' => w = w') (fun _ => 0) (()) ⟨rfl, trivial⟩ ?_ ?_
  · rfl
  rintro - ρ1 w1 rfl
  refine cd_seq ?_
  refine cd_seq ?_
  refine cd_region ?_
  refine st_val (ro_move (v := .int _ _) rfl) ?_
  refine st_val (ro_move (v := .slice _ _ _) rfl) ?_
  refine st_val (ro_len NetWakes_l31 rfl) ?_
  refine st_val (ro_bf (ro_lss rfl rfl) rfl) ?_
  refine st_nil ?_
  refine nx_then ?_
  refine cd_condF rfl ?_
  refine cd_exit ?_
  refine ex_then ?_
  refine ex_then ?_
  refine ex_block ?_
  refine nx_then ?_
  refine cd_seq ?_
  refine cd_region ?_
  refine st_val (ro_assign (v := .bool _) rfl) ?_
  refine st_nil ?_
  refine nx_then ?_
  refine cd_ret ?_
  refine res1 (v := .bool _) rfl rfl ?_
  exact ⟨rfl, rfl⟩
set_option maxRecDepth 100000 in
set_option maxHeartbeats 400000 in
theorem eqRpc_t (x : Msg) (w : World) :
    Rt Try.prog 25 [.agg (msgV x).toArray, .agg (msgV x).toArray] w (fun v w' => v = .bool true ∧ From w w') := by
  refine enter (n := 94) Try.func25 rfl rfl rfl ?_
  refine cd_seq ?_
  refine cd_region ?_
  refine st_box (v := .agg _) rfl ?_
  intro b2 w1 E2 hb2 hk2
  refine st_box (v := .agg _) rfl ?_
  intro b3 w2 E3 hb3 hk3
  replace hk2 := hk2.from_ (From.rfl_.next E3)
  refine st_val (ro_assign (v := .bool _) rfl) ?_
  refine st_nil ?_
  refine nx_then ?_
  refine cd_seq ?_
  refine cd_region ?_
  refine st_val (ro_fieldAddr NetWakes_f33_0 rfl) ?_
  refine st_val (ro_load NetWakes_g3 rfl (by exact hk2.rd 0 rfl)) ?_
  refine st_val (ro_fieldAddr NetWakes_f33_0 rfl) ?_
  refine st_val (ro_load NetWakes_g3 rfl (by exact hk3.rd 0 rfl)) ?_
  refine st_val (ro_bt (ro_eql rfl rfl) (beq_self_eq_true _)) ?_
  refine st_val (ro_move (v := .bool _) rfl) ?_
  refine st_unguard rfl ?_
  refine st_val (ro_fieldAddr NetWakes_f33_1 rfl) ?_
  refine st_unguard rfl ?_
  refine st_val (ro_load NetWakes_g3 rfl (by exact hk2.rd 1 rfl)) ?_
  refine st_unguard rfl ?_
  refine st_val (ro_fieldAddr NetWakes_f33_1 rfl) ?_
  refine st_unguard rfl ?_
  refine st_val (ro_load NetWakes_g3 rfl (by exact hk3.rd 1 rfl)) ?_
  refine st_unguard rfl ?_
  refine st_val (ro_bt (ro_eql rfl rfl) (beq_self_eq_true _)) ?_
  refine st_val (ro_pickT (v := .bool _) rfl rfl) ?_
  refine st_val (ro_move (v := .bool _) rfl) ?_
  refine st_unguard rfl ?_
  refine st_val (ro_fieldAddr NetWakes_f33_2 rfl) ?_
  refine st_unguard rfl ?_
  refine st_val (ro_load NetWakes_g3 rfl (by exact hk2.rd 2 rfl)) ?_
  refine st_unguard rfl ?_
  refine st_val (ro_fieldAddr NetWakes_f33_2 rfl) ?_
  refine st_unguard rfl ?_
  refine st_val (ro_load NetWakes_g3 rfl (by exact hk3.rd 2 rfl)) ?_
  refine st_unguard rfl ?_
  refine st_val (ro_bt (ro_eql rfl rfl) (beq_self_eq_true _)) ?_
  refine st_val (ro_pickT (v := .bool _) rfl rfl) ?_
  refine st_val (ro_move (v := .bool _) rfl) ?_
  refine st_unguard rfl ?_
  refine st_val (ro_fieldAddr NetWakes_f33_3 rfl) ?_
  refine st_unguard rfl ?_
  refine st_val (ro_load NetWakes_g3 rfl (by exact hk2.rd 3 rfl)) ?_
  refine st_unguard rfl ?_
  refine st_val (ro_fieldAddr NetWakes_f33_3 rfl) ?_
  refine st_unguard rfl ?_
  refine st_val (ro_load NetWakes_g3 rfl (by exact hk3.rd 3 rfl)) ?_
  refine st_unguard rfl ?_
  refine st_val (ro_bt (ro_eql rfl rfl) (beq_self_eq_true _)) ?_
  refine st_val (ro_pickT (v := .bool _) rfl rfl) ?_
  refine st_val (ro_move (v := .bool _) rfl) ?_
  refine st_unguard rfl ?_
  refine st_val (ro_fieldAddr NetWakes_f33_4 rfl) ?_
  refine st_unguard rfl ?_
  refine st_val (ro_load NetWakes_g3 rfl (by exact hk2.rd 4 rfl)) ?_
  refine st_unguard rfl ?_
  refine st_val (ro_fieldAddr NetWakes_f33_4 rfl) ?_
  refine st_unguard rfl ?_
  refine st_val (ro_load NetWakes_g3 rfl (by exact hk3.rd 4 rfl)) ?_
  refine st_unguard rfl ?_
  refine st_val (ro_bt (ro_eql rfl rfl) (beq_self_eq_true _)) ?_
  refine st_val (ro_pickT (v := .bool _) rfl rfl) ?_
  refine st_val (ro_move (v := .bool _) rfl) ?_
  refine st_unguard rfl ?_
  refine st_val (ro_fieldAddr NetWakes_f33_5 rfl) ?_
  refine st_unguard rfl ?_
  refine st_val (ro_load NetWakes_g3 rfl (by exact hk2.rd 5 rfl)) ?_
  refine st_unguard rfl ?_
  refine st_val (ro_fieldAddr NetWakes_f33_5 rfl) ?_
  refine st_unguard rfl ?_
  refine st_val (ro_load NetWakes_g3 rfl (by exact hk3.rd 5 rfl)) ?_
  refine st_unguard rfl ?_
  refine st_val (ro_bt (ro_eql rfl rfl) (beq_self_eq_true _)) ?_
  refine st_val (ro_pickT (v := .bool _) rfl rfl) ?_
  refine st_val (ro_move (v := .bool _) rfl) ?_
  refine st_unguard rfl ?_
  refine st_val (ro_fieldAddr NetWakes_f33_6 rfl) ?_
  refine st_unguard rfl ?_
  refine st_val (ro_load NetWakes_g3 rfl (by exact hk2.rd 6 rfl)) ?_
  refine st_unguard rfl ?_
  refine st_val (ro_fieldAddr NetWakes_f33_6 rfl) ?_
  refine st_unguard rfl ?_
  refine st_val (ro_load NetWakes_g3 rfl (by exact hk3.rd 6 rfl)) ?_
  refine st_unguard rfl ?_
  refine st_val (ro_bt (ro_eql rfl rfl) (beq_self_eq_true _)) ?_
  refine st_val (ro_pickT (v := .bool _) rfl rfl) ?_
  refine st_val (ro_move (v := .bool _) rfl) ?_
  refine st_unguard rfl ?_
  refine st_val (ro_fieldAddr NetWakes_f33_7 rfl) ?_
  refine st_unguard rfl ?_
  refine st_val (ro_load NetWakes_g3 rfl (by exact hk2.rd 7 rfl)) ?_
  refine st_unguard rfl ?_
  refine st_val (ro_fieldAddr NetWakes_f33_7 rfl) ?_
  refine st_unguard rfl ?_
  refine st_val (ro_load NetWakes_g3 rfl (by exact hk3.rd 7 rfl)) ?_
  refine st_unguard rfl ?_
  refine st_val (ro_bt (ro_eql rfl rfl) (beq_self_eq_true _)) ?_
  refine st_val (ro_pickT (v := .bool _) rfl rfl) ?_
  refine st_val (ro_move (v := .bool _) rfl) ?_
  refine st_unguard rfl ?_
  refine st_val (ro_fieldAddr NetWakes_f33_8 rfl) ?_
  refine st_unguard rfl ?_
  refine st_val (ro_load NetWakes_g4 rfl (by exact hk2.rd 8 rfl)) ?_
  refine st_unguard rfl ?_
  refine st_val (ro_fieldAddr NetWakes_f33_8 rfl) ?_
  refine st_unguard rfl ?_
  refine st_val (ro_load NetWakes_g4 rfl (by exact hk3.rd 8 rfl)) ?_
  refine st_unguard rfl ?_
  refine st_val (ro_bt (ro_eqlB (by kernel_rfl) rfl rfl) (beq_self_eq_true _)) ?_
  refine st_val (ro_pickT (v := .bool _) rfl rfl) ?_
  refine st_val (ro_move (v := .bool _) rfl) ?_
  refine st_unguard rfl ?_
  refine st_val (ro_fieldAddr NetWakes_f33_9 rfl) ?_
  refine st_unguard rfl ?_
  refine st_val (ro_load NetWakes_g31 rfl (by exact hk2.rd 9 rfl)) ?_
  refine st_unguard rfl ?_
  refine st_val (ro_fieldAddr NetWakes_f33_9 rfl) ?_
  refine st_unguard rfl ?_
  refine st_val (ro_load NetWakes_g31 rfl (by exact hk3.rd 9 rfl)) ?_
  refine st_unguard rfl ?_
  refine st_call NetWakes_k34 (eqEntries0 _) ?_
  rintro v71 w3 ⟨rfl, rfl⟩
  refine st_val (ro_pickT (v := .bool _) rfl rfl) ?_
  refine st_val (ro_move (v := .bool _) rfl) ?_
  refine st_unguard rfl ?_
  refine st_val (ro_fieldAddr NetWakes_f33_10 rfl) ?_
  refine st_unguard rfl ?_
  refine st_val (ro_load NetWakes_g3 rfl (by exact hk2.rd 10 rfl)) ?_
  refine st_unguard rfl ?_
  refine st_val (ro_fieldAddr NetWakes_f33_10 rfl) ?_
  refine st_unguard rfl ?_
  refine st_val (ro_load NetWakes_g3 rfl (by exact hk3.rd 10 rfl)) ?_
  refine st_unguard rfl ?_
  refine st_val (ro_bt (ro_eql rfl rfl) (beq_self_eq_true _)) ?_
  refine st_val (ro_pickT (v := .bool _) rfl rfl) ?_
  refine st_val (ro_move (v := .bool _) rfl) ?_
  refine st_unguard rfl ?_
  refine st_val (ro_fieldAddr NetWakes_f33_11 rfl) ?_
  refine st_unguard rfl ?_
  refine st_val (ro_load NetWakes_g9 rfl (by exact hk2.rd 11 rfl)) ?_
  refine st_unguard rfl ?_
  refine st_val (ro_fieldAddr NetWakes_f33_11 rfl) ?_
  refine st_unguard rfl ?_
  refine st_val (ro_load NetWakes_g9 rfl (by exact hk3.rd 11 rfl)) ?_
  refine st_unguard rfl ?_
  refine st_val (ro_bt (ro_eqlS rfl rfl) (beq_self_eq_true _)) ?_
  refine st_val (ro_pickT (v := .bool _) rfl rfl) ?_
  refine st_val (ro_move (v := .bool _) rfl) ?_
  refine st_unguard rfl ?_
  refine st_val (ro_fieldAddr NetWakes_f33_12 rfl) ?_
  refine st_unguard rfl ?_
  refine st_val (ro_load NetWakes_g4 rfl (by exact hk2.rd 12 rfl)) ?_
  refine st_unguard rfl ?_
  refine st_val (ro_fieldAddr NetWakes_f33_12 rfl) ?_
  refine st_unguard rfl ?_
  refine st_val (ro_load NetWakes_g4 rfl (by exact hk3.rd 12 rfl)) ?_
  refine st_unguard rfl ?_
  refine st_val (ro_bt (ro_eqlB (by kernel_rfl) rfl rfl) (beq_self_eq_true _)) ?_
  refine st_val (ro_pickT (v := .bool _) rfl rfl) ?_
  refine st_val (ro_assign (v := .bool _) rfl) ?_
  refine st_nil ?_
  refine nx_then ?_
  refine cd_ret ?_
  refine res1 (v := .bool _) rfl rfl ?_
  exact ⟨rfl, ((From.rfl_.next E2).next E3)⟩
set_option maxRecDepth 100000 in
set_option maxHeartbeats 400000 in
theorem eqRpcs_t (A B : Option Addr) (c c2 n : Nat) (K : List Msg) (w : World) (hr : RowK 13 msgV w A K) (hr2 : RowK 13 msgV w B K) (hl : K.length = n) (hn : n ≤ 100000) :
    Rt Try.prog 10 [.slice A n c, .slice B n c2] w (fun v w' => v = .bool true ∧ From w w') := by
  refine enter (n := 27) Try.func10 rfl rfl rfl ?_
  refine cd_seq ?_
  refine cd_region ?_
  refine st_val (ro_assign (v := .bool _) rfl) ?_
  refine st_nil ?_
  refine nx_then ?_
  refine cd_seq ?_
  refine cd_seq ?_
  refine cd_region ?_
  refine st_val (ro_move (v := .slice _ _ _) rfl) ?_
  refine st_val (ro_len NetWakes_l27 rfl) ?_
  refine st_val (ro_move (v := .slice _ _ _) rfl) ?_
  refine st_val (ro_len NetWakes_l27 rfl) ?_
  refine st_val (ro_bf (ro_neq rfl rfl) (bne_self_eq_false _)) ?_
  refine st_nil ?_
  refine nx_then ?_
  refine cd_condF rfl ?_
  refine cd_skip ?_
  refine nx_then ?_
  refine cd_seq ?_
  refine cd_seq ?_
  refine cd_region ?_
  refine st_val (ro_assign (v := .int _ _) rfl) ?_
  refine st_nil ?_
  refine nx_then ?_
  refine cd_block ?_
  refine cd_loop (G := Nat) [4, 11, 12, 13, 14, 15, 16, 17, 18, 19, 20, 21, 22, 23, 24, 25, 26] (fun k => [(5, .int .i64 (k : Nat))]) (fun k w' => k ≤ n ∧ From w w') (fun k => n - k) (0) ⟨rfl, trivial⟩ ?_ ?_
  · exact ⟨Nat.zero_le _, From.rfl_⟩
  rintro k ρ1 w1 ⟨hk, hB⟩
  refine cd_seq ?_
  refine cd_seq ?_
  refine cd_region ?_
  refine st_val (ro_move (v := .int _ _) rfl) ?_
  refine st_val (ro_move (v := .slice _ _ _) rfl) ?_
  refine st_val (ro_len NetWakes_l27 rfl) ?_
  refine st_val (ro_lss rfl rfl) ?_
  refine st_nil ?_
  refine nx_then ?_
  refine cd_cond rfl (fun Q2 => ?_) (fun Q2 => ?_)
  · (try first | replace Q2 := bn_t Q2 | replace Q2 := bn_f Q2)
    (try first | replace Q2 := bx_t Q2 | replace Q2 := bx_f Q2 | replace Q2 := be_t Q2 | replace Q2 := be_f Q2 | replace Q2 := of_decide_eq_true Q2 | replace Q2 := of_decide_eq_false Q2)
    have hkK : k < K.length := by omega
    obtain ⟨ba, oa, rfl, hca⟩ := hr (by omega)
    obtain ⟨bb, ob, rfl, hcb⟩ := hr2 (by omega)
    first
     | (exfalso; first | omega | contradiction | (cases Q2; done))
     | skip
       refine cd_skip ?_
       refine nx_then ?_
       refine cd_seq ?_
       refine cd_block ?_
       refine cd_seq ?_
       apply cd_drawnD 10 [(17, eqp _), (18, eqp _), (19, eqp _), (20, eqp (.agg (msgV (K[k]'hkK)).toArray)), (21, eqp _), (22, eqp _), (23, eqp _), (24, eqp (.agg (msgV (K[k]'hkK)).toArray)), (25, eqp _), (26, eqp _)] (by repeat first | exact pq_body | refine pq_then ?_ | refine pq_block ?_) (by kernel_rfl) (by kernel_rfl) ⟨eqp_mono _, eqp_mono _, eqp_mono _, eqp_mono _, eqp_mono _, eqp_mono _, eqp_mono _, eqp_mono _, eqp_mono _, eqp_mono _, trivial⟩
       case hop =>
        refine ⟨?_, ?_⟩
        · rintro - w4 D4
          show OpOK _ _ _ _ _ _ _
          exact ok_pure (ro_move (v := .slice _ _ _) rfl) rfl
        refine ⟨?_, ?_⟩
        · rintro - w5 D5
          show OpOK _ _ _ _ _ _ _
          exact ok_pure (ro_move (v := .int _ _) rfl) rfl
        refine ⟨?_, ?_⟩
        · rintro - w6 D6
          rintro _ rfl _ rfl
          show OpOK _ _ _ _ _ _ _
          exact ok_pure (ro_indexAddrN NetWakes_e27 rfl rfl (by omega)) rfl
        refine ⟨?_, ?_⟩
        · rintro - w7 D7
          rintro _ rfl
          show OpOK _ _ _ _ _ _ _
          exact ok_pure (ro_loadA (cs := msgV (K[k]'hkK)) NetWakes_g33 NetWakes_z33 rfl (rangeF (hB.next D7) (hca k hkK))) rfl
        refine ⟨?_, ?_⟩
        · rintro - w8 D8
          show OpOK _ _ _ _ _ _ _
          exact ok_pure (ro_move (v := .slice _ _ _) rfl) rfl
        refine ⟨?_, ?_⟩
        · rintro - w9 D9
          show OpOK _ _ _ _ _ _ _
          exact ok_pure (ro_move (v := .int _ _) rfl) rfl
        refine ⟨?_, ?_⟩
        · rintro - w10 D10
          rintro _ rfl _ rfl
          show OpOK _ _ _ _ _ _ _
          exact ok_pure (ro_indexAddrN NetWakes_e27 rfl rfl (by omega)) rfl
        refine ⟨?_, ?_⟩
        · rintro - w11 D11
          rintro _ rfl
          show OpOK _ _ _ _ _ _ _
          exact ok_pure (ro_loadA (cs := msgV (K[k]'hkK)) NetWakes_g33 NetWakes_z33 rfl (rangeF (hB.next D11) (hcb k hkK))) rfl
        refine ⟨?_, ?_⟩
        · rintro - w12 D12
          rintro v12_20 rfl v12_24 rfl
          show OpOK _ _ _ _ _ _ _
          refine ok_call NetWakes_k25 ((eqRpc_t (K[k]'hkK) _).mono ?_)
          rintro v _ ⟨rfl, E12'⟩; exact ⟨E12', rfl⟩
        refine ⟨?_, ?_⟩
        · rintro - w13 D13
          rintro _ rfl
          show OpOK _ _ _ _ _ _ _
          exact ok_pure (ro_not rfl) rfl
        exact trivial
       case hend =>
        intro w14 D14
        rintro _ rfl _ rfl _ rfl v20 rfl _ rfl _ rfl _ rfl v24 rfl _ rfl _ rfl
        show St _ _ _ _ _ _ _
        refine st_nil ?_
        refine nx_then ?_
        refine cd_cond rfl (fun Q15 => ?_) (fun Q15 => ?_)
        · (try first | replace Q15 := bn_t Q15 | replace Q15 := bn_f Q15)
          (try first | replace Q15 := bx_t Q15 | replace Q15 := bx_f Q15 | replace Q15 := be_t Q15 | replace Q15 := be_f Q15 | replace Q15 := of_decide_eq_true Q15 | replace Q15 := of_decide_eq_false Q15)
          first
           | (exfalso; first | omega | contradiction | (cases Q15; done))
           | skip
             refine cd_seq ?_
             refine cd_region ?_
             refine st_val (ro_assign (v := .bool _) rfl) ?_
             refine st_nil ?_
             refine nx_then ?_
             refine cd_ret ?_
             refine rt_block ?_
             refine rt_then ?_
             refine rt_then ?_
             refine rt_block ?_
             refine rt_then ?_
             refine res1 (v := .bool _) rfl rfl ?_
             exact absurd rfl (by simp_all)
        · (try first | replace Q15 := bn_t Q15 | replace Q15 := bn_f Q15)
          (try first | replace Q15 := bx_t Q15 | replace Q15 := bx_f Q15 | replace Q15 := be_t Q15 | replace Q15 := be_f Q15 | replace Q15 := of_decide_eq_true Q15 | replace Q15 := of_decide_eq_false Q15)
          first
           | (exfalso; first | omega | contradiction | (cases Q15; done))
           | skip
             refine cd_skip ?_
             refine nx_block ?_
             refine nx_then ?_
             refine cd_region ?_
             refine st_val (ro_move (v := .int _ _) rfl) ?_
             refine st_val (ro_addN (b := 1) rfl rfl (by omega)) ?_
             refine st_val (ro_assign (v := .int _ _) rfl) ?_
             refine st_nil ?_
             refine nx_cut (k + 1) ⟨(by first | rfl | (refine int_eq ?_; omega)), trivial⟩ (by (iterate 35 refine agr_cons rfl ?_); exact agr_rfl) ⟨?_, ?_⟩
             · exact ⟨by omega, (hB.next D14)⟩
             · omega
  · (try first | replace Q2 := bn_t Q2 | replace Q2 := bn_f Q2)
    (try first | replace Q2 := bx_t Q2 | replace Q2 := bx_f Q2 | replace Q2 := be_t Q2 | replace Q2 := be_f Q2 | replace Q2 := of_decide_eq_true Q2 | replace Q2 := of_decide_eq_false Q2)
    first
     | (exfalso; first | omega | contradiction | (cases Q2; done))
     | skip
       refine cd_exit ?_
       refine ex_then ?_
       refine ex_then ?_
       refine ex_block ?_
       refine nx_then ?_
       refine cd_seq ?_
       refine cd_region ?_
       refine st_val (ro_assign (v := .bool _) rfl) ?_
       refine st_nil ?_
       refine nx_then ?_
       refine cd_ret ?_
       refine res1 (v := .bool _) rfl rfl ?_
       exact ⟨rfl, hB⟩
theorem RowK.own_blk1 {w : World} {g t : Nat} {x : Msg} (h : Blk w g t (msgV x).toArray) : RowK 13 msgV w (some ⟨g, 0, none⟩) [x] := fun _ => ⟨g, 0, rfl, fun i hi => by
  simp only [List.length_singleton] at hi
  obtain rfl : i = 0 := by omega
  exact h.whole⟩
def mK (k tm : Int) : Msg := ⟨k, 0, 0, tm, 0, 0, 0, 0, false, 0, ⟨#[]⟩, false⟩
theorem sorted_nil : Sorted [] := fun i j hi => absurd hi (by simp)
theorem take_n (base b : Nat) (A : Option Addr) (c : Nat) (L : Pars) (w : World) (hn : NetAt w base b A c L) (hl : L.length ≤ 4096) (hs : Sorted L) (now : Int) (n : Nat) (hd : dueN L now = n) :
    Rt Try.prog 9 [.pointer (some ⟨b, 0, none⟩), .int .i64 now] w fun v w' => (∃ A' c', v = .slice A' n c' ∧ w'.ownsRow w.heap.size 33 13 (.slice A' n c') n (((L.take n).map (·.1)).flatMap msgV)) ∧ (∃ A' c', NetAt w' base b A' c' (L.drop n)) ∧ Kp base b w w' := by
  subst hd
  exact take_rt base b A c L w hn hl hs now
theorem new_at (w : World) : Rt Try.prog 7 [] w fun v w' => (∃ b, v = .pointer (some ⟨b, 0, none⟩) ∧ NetAt w' w.heap.size b none 0 []) ∧ From w w' := new_rt w
theorem put_n (base b : Nat) (A : Option Addr) (c : Nat) (L : Pars) (w : World) (hn : NetAt w base b A c L) (hl : L.length ≤ 4096) (hs : Sorted L) (x : Msg) (now pick : Int) (hnow : 0 ≤ now ∧ now ≤ 4611686018427387904) (hp : -9223372036854775808 ≤ pick ∧ pick ≤ 9223372036854775807) (K : Pars) (hK : putAll x (timesOf now pick) L = K) :
    Rt Try.prog 15 [.pointer (some ⟨b, 0, none⟩), .agg (msgV x).toArray, .int .i64 now, .int .i64 pick] w fun v w' => v = .tuple #[] ∧ (∃ A' c', NetAt w' base b A' c' K) ∧ Kp base b w w' := by
  subst hK
  exact put_rt base b A c L w hn hl hs x now pick hnow hp
theorem put_first (x : Msg) (now : Int) : putAll x (timesOf now 0) [] = [(x, now + 1)] := by
  simp [timesOf, putAll, put1, dueN]
theorem due_first (x : Msg) (a : Int) : dueN [(x, a)] a = 1 := by simp [dueN]
theorem sorted_one (p : Msg × Int) : Sorted [p] := fun i j hi hj hij => by
  simp only [List.length_singleton] at hi hj
  omega
theorem row_own {w : World} {base n c : Nat} {A : Option Addr} {K : List Msg} (h : w.ownsRow base 33 13 (.slice A n c) n (K.flatMap msgV)) : K.length = n ∧ RowK 13 msgV w A K := RowK.own msg_len (by decide) h
set_option maxRecDepth 100000 in
set_option maxHeartbeats 400000 in
theorem wakes_any (w : World) :
    Rt Try.prog 19 [] w (fun v w' => v = .bool true ∧ From w w') := by
  refine enter (n := 13) Try.func19 rfl rfl rfl ?_
  refine cd_seq ?_
  refine cd_region ?_
  refine st_val (ro_assign (v := .bool _) rfl) ?_
  refine st_nil ?_
  refine nx_then ?_
  refine cd_seq ?_
  refine cd_region ?_
  refine st_call NetWakes_k7 (new_at _) ?_
  rintro v2 w1 ⟨⟨b, rfl, hn2⟩, E2⟩
  refine st_val (ro_assign (v := .pointer _) rfl) ?_
  refine st_nil ?_
  refine nx_then ?_
  refine cd_seq ?_
  refine cd_seq ?_
  refine cd_region ?_
  refine st_val (ro_move (v := .pointer _) rfl) ?_
  refine st_val (ro_bf (ro_eqlNil NetWakes_p24 rfl rfl) rfl) ?_
  refine st_nil ?_
  refine nx_then ?_
  refine cd_condF rfl ?_
  refine cd_skip ?_
  refine nx_then ?_
  refine cd_seq ?_
  refine cd_region ?_
  refine st_val (ro_move (v := .pointer _) rfl) ?_
  refine st_val (ro_build (l := [(0, .const (.int .i64 1))]) (NetWakes_b33_0cinti641)) ?_
  refine st_call NetWakes_k15 (put_n w.heap.size b none 0 [] _ hn2 (by simp) sorted_nil (mK 1 0) 0 0 (by decide) (by decide) [(mK 1 0, 1)] (put_first _ 0)) ?_
  rintro v7 w2 ⟨rfl, ⟨A7, c7, hn7⟩, hK7⟩
  refine st_nil ?_
  refine nx_then ?_
  refine cd_seq ?_
  refine cd_region ?_
  refine st_val (ro_move (v := .pointer _) rfl) ?_
  refine st_call NetWakes_k9 (take_n w.heap.size b A7 c7 [(mK 1 0, 1)] _ hn7 (by simp) (sorted_one _) 1 1 (due_first _ 1)) ?_
  rintro v9 w3 ⟨⟨A9, c9, rfl, ho9⟩, ⟨A10, c10, hn9⟩, hK9⟩
  have e9 : (([(mK 1 0, (1 : Int))] : Pars).take 1).map (·.1) = [mK 1 0] := rfl
  rw [e9] at ho9
  have hr9 := (row_own ho9).2
  refine st_val (ro_build (l := [(0, .const (.int .i64 1))]) (NetWakes_b33_0cinti641)) ?_
  refine st_lit (cells := (msgV (mK 1 0)).toArray) NetWakes_q27 rfl rfl (fillR (mK 1 0)) ?_
  intro b11 w4 E11 hb11 hk11
  refine st_call NetWakes_k10 (eqRpcs_t A9 _ c9 1 1 [mK 1 0] _ (hr9.from_ E11) (RowK.own_blk1 hk11) rfl (by decide)) ?_
  rintro v12 w5 ⟨rfl, E12⟩
  refine st_val (ro_assign (v := .bool _) rfl) ?_
  refine st_nil ?_
  refine nx_then ?_
  refine cd_ret ?_
  refine res1 (v := .bool _) rfl rfl ?_
  exact ⟨rfl, (((hK9.from_ (hK7.from_ (From.rfl_.next E2) (Nat.le_refl _)) (Nat.le_refl _)).next E11).next E12)⟩
abbrev entT : Ty := .pr (.int .i64) (.pr (.int .i64) (.pr .str .unit))
abbrev rpcT : Ty := .pr (.int .i64) (.pr (.int .i64) (.pr (.int .i64) (.pr (.int .i64) (.pr (.int .i64) (.pr (.int .i64) (.pr (.int .i64) (.pr (.int .i64) (.pr .bool (.pr (.sl entT) (.pr (.int .i64) (.pr .str (.pr .bool .unit))))))))))))
abbrev actT : Ty := .pr (.int .i64) (.pr rpcT (.pr (.int .i64) (.pr (.int .i64) .unit)))
theorem count_n (base b : Nat) (A : Option Addr) (c : Nat) (L : Pars) (w : World) (hn : NetAt w base b A c L) (n : Nat) (hl : L.length = n) (h9 : n ≤ 1000000 := by decide) : Rt Try.prog 18 [.pointer (some ⟨b, 0, none⟩)] w fun v w' => v = .int .i64 (n : Nat) ∧ w = w' := by
  subst hl
  exact count_rt base b A c L w hn h9
end Go.Proofs.Ythakmhdliginoaa
