/- The law BwtBacks. -/
import Derived.Test.YtpafbgdbjambgaaBwtHelp
namespace Go.Proofs.Ytpafbgdbjambgaa
open Go.RowKit
open Go.ChangeShapes Go.WideShapes Go.ChangeAt
open Go.Proofs.Ytpafbgdbjambgaa.SA
theorem BwtLawB_l22 : (elemQ Try.prog 22).isSome = true := by kernel_rfl
theorem BwtLawB_e22 : elemQ Try.prog 22 = some (26, 2) := by kernel_rfl
theorem BwtLawB_g26 : aggQ Try.prog 26 = some true := by kernel_rfl
theorem BwtLawB_z26 : sizeQ Try.prog 26 = some 2 := by kernel_rfl
theorem BwtLawB_k7 : callable Try.prog 7 = true := by kernel_rfl
theorem BwtLawB_f26_0 : fieldQ Try.prog 26 0 = some 0 := by kernel_rfl
theorem BwtLawB_g24 : aggQ Try.prog 24 = some false := by kernel_rfl
theorem BwtLawB_k8 : callable Try.prog 8 = true := by kernel_rfl
theorem BwtLawB_f26_1 : fieldQ Try.prog 26 1 = some 1 := by kernel_rfl
theorem BwtLawB_g3 : aggQ Try.prog 3 = some false := by kernel_rfl
theorem BwtLawB_k16 : callable Try.prog 16 = true := by kernel_rfl
theorem BwtLawB_k17 : callable Try.prog 17 = true := by kernel_rfl
theorem BwtLawB_k11 : callable Try.prog 11 = true := by kernel_rfl
theorem BwtLawB_l24 : (elemQ Try.prog 24).isSome = true := by kernel_rfl
theorem BwtLawB_k13 : callable Try.prog 13 = true := by kernel_rfl
theorem BwtLawB_k15 : callable Try.prog 15 = true := by kernel_rfl
set_option maxRecDepth 100000 in
set_option maxHeartbeats 4000000 in
theorem backs_law (A : Option Addr) (c : Nat) (xs : List askT5.den) (w : World) (hl : xs.length * askT5.bytes ≤ 140737488351232) (hel : 0 < xs.length → ∃ b o, A = some ⟨b, o, none⟩ ∧ ∀ (i : Nat) (hi : i < xs.length), askT5.At w (fun j => w.cell? ⟨b, o + i * askT5.size + j, none⟩) xs[i]) :
    Rt Try.prog 4 [.slice A xs.length c] w (fun v w' => v = .bool true ∧ From w w') := by
  have hlen : xs.length * 32 ≤ 140737488351232 := hl
  refine enter (n := 93) Try.func4 rfl rfl rfl ?_
  refine cd_seq ?_
  refine cd_region ?_
  refine st_val (ro_assign (v := .bool _) rfl) ?_
  refine st_nil ?_
  refine nx_then ?_
  refine cd_seq ?_
  refine cd_seq ?_
  refine cd_region ?_
  refine st_val (ro_assign (v := .int _ _) rfl) ?_
  refine st_nil ?_
  refine nx_then ?_
  refine cd_block ?_
  refine cd_loop (G := Nat) [2, 4, 5, 6, 7, 8, 9, 10, 11, 12, 13, 14, 15, 16, 17, 18, 19, 20, 21, 22, 23, 24, 25, 26, 27, 28, 29, 30, 31, 32, 33, 34, 35, 36, 37, 38, 39, 40, 41, 42, 43, 44, 45, 46, 47, 48, 49, 50, 51, 52, 53, 54, 55, 56, 57, 58, 59, 60, 61, 62, 63, 64, 65, 66, 67, 68, 69, 70, 71, 72, 73, 74, 75, 76, 77, 78, 79, 80, 81, 82, 83, 84, 85, 86, 87, 88, 89, 90, 91] (fun k => [(3, .int .i64 (k : Nat))]) (fun k w' => k ≤ xs.length ∧ From w w') (fun k => xs.length - k) (0) ⟨rfl, trivial⟩ ?_ ?_
  · exact ⟨Nat.zero_le _, From.rfl_⟩
  rintro k ρ1 w1 ⟨hk, hB⟩
  refine cd_seq ?_
  refine cd_seq ?_
  refine cd_region ?_
  refine st_val (ro_move (v := .int _ _) rfl) ?_
  refine st_val (ro_move (v := .slice _ _ _) rfl) ?_
  refine st_val (ro_len BwtLawB_l22 rfl) ?_
  refine st_val (ro_lss rfl rfl) ?_
  refine st_val (ro_move (v := .bool _) rfl) ?_
  refine st_split (t := 13) rfl (fun Q2 => ?_) (fun Q2 => ?_)
  · (try first | replace Q2 := bn_t Q2 | replace Q2 := bn_f Q2)
    (try first | replace Q2 := bx_t Q2 | replace Q2 := bx_f Q2 | replace Q2 := be_t Q2 | replace Q2 := be_f Q2 | replace Q2 := of_decide_eq_true Q2 | replace Q2 := of_decide_eq_false Q2)
    first
     | (exfalso; first | omega | contradiction | (cases Q2; done))
     | skip
       refine st_unguard rfl ?_
       refine st_val (ro_move (v := .int _ _) rfl) ?_
       refine st_unguard rfl ?_
       refine st_val (ro_lss rfl rfl) ?_
       refine st_val (ro_pickT (v := .bool _) rfl rfl) ?_
       refine st_nil ?_
       refine nx_then ?_
       refine cd_cond rfl (fun Q3 => ?_) (fun Q3 => ?_)
       · (try first | replace Q3 := bn_t Q3 | replace Q3 := bn_f Q3)
         (try first | replace Q3 := bx_t Q3 | replace Q3 := bx_f Q3 | replace Q3 := be_t Q3 | replace Q3 := be_f Q3 | replace Q3 := of_decide_eq_true Q3 | replace Q3 := of_decide_eq_false Q3)
         obtain ⟨b, o, rfl, hel2⟩ := hel (by omega)
         obtain ⟨A1, ca, L, x, hask⟩ := ask_at5 (hel2 k (by omega))
         have hlL := hask.lenL
         first
          | (exfalso; first | omega | contradiction | (cases Q3; done))
          | skip
            refine cd_skip ?_
            refine nx_then ?_
            refine cd_seq ?_
            refine cd_block ?_
            refine cd_seq ?_
            refine cd_seq ?_
            refine cd_region ?_
            refine st_val (ro_move (v := .slice _ _ _) rfl) ?_
            refine st_val (ro_move (v := .int _ _) rfl) ?_
            refine st_val (ro_indexAddrN BwtLawB_e22 rfl rfl (by omega)) ?_
            refine st_val (ro_loadA (cs := [_, _]) BwtLawB_g26 BwtLawB_z26 rfl (by exact rangeF hB hask.cells)) ?_
            refine st_call BwtLawB_k7 (heavy_any A1 L.length ca x _) ?_
            rintro v23 w4 ⟨rfl, E23⟩
            refine st_nil ?_
            refine nx_then ?_
            refine cd_cond rfl (fun Q5 => ?_) (fun Q5 => ?_)
            · (try first | replace Q5 := bn_t Q5 | replace Q5 := bn_f Q5)
              (try first | replace Q5 := bx_t Q5 | replace Q5 := bx_f Q5 | replace Q5 := be_t Q5 | replace Q5 := be_f Q5 | replace Q5 := of_decide_eq_true Q5 | replace Q5 := of_decide_eq_false Q5)
              first
               | (exfalso; first | omega | contradiction | (cases Q5; done))
               | skip
                 refine cd_seq ?_
                 refine cd_region ?_
                 refine st_val (ro_assign (v := .bool _) rfl) ?_
                 refine st_nil ?_
                 refine nx_then ?_
                 refine cd_ret ?_
                 refine rt_then ?_
                 refine rt_block ?_
                 refine rt_then ?_
                 refine rt_then ?_
                 refine rt_block ?_
                 refine rt_then ?_
                 refine res1 (v := .bool _) rfl rfl ?_
                 exact ⟨rfl, (hB.next E23)⟩
            (try first | replace Q5 := bn_t Q5 | replace Q5 := bn_f Q5)
            (try first | replace Q5 := bx_t Q5 | replace Q5 := bx_f Q5 | replace Q5 := be_t Q5 | replace Q5 := be_f Q5 | replace Q5 := of_decide_eq_true Q5 | replace Q5 := of_decide_eq_false Q5)
            first
             | (exfalso; first | omega | contradiction | (cases Q5; done))
             | skip
               refine cd_skip ?_
               refine nx_then ?_
               refine cd_seq ?_
               refine cd_region ?_
               refine st_val (ro_move (v := .slice _ _ _) rfl) ?_
               refine st_val (ro_move (v := .int _ _) rfl) ?_
               refine st_val (ro_indexAddrN BwtLawB_e22 rfl rfl (by omega)) ?_
               refine st_val (ro_fieldAddr BwtLawB_f26_0 rfl) ?_
               refine st_val (ro_load BwtLawB_g24 rfl (by exact cellF (hB.next E23) (hask.cells 0 _ rfl))) ?_
               refine st_call BwtLawB_k8 (copyNums_any A1 ca L _ (hask.rowL.from_ (hB.next E23)) (by omega)) ?_
               rintro v29 w6 ⟨A29, c29, rfl, ho29, E29⟩
               refine st_val (ro_assign (v := .slice _ _ _) rfl) ?_
               refine st_nil ?_
               refine nx_then ?_
               refine cd_seq ?_
               refine cd_region ?_
               refine st_val (ro_move (v := .slice _ _ _) rfl) ?_
               refine st_val (ro_move (v := .int _ _) rfl) ?_
               refine st_val (ro_indexAddrN BwtLawB_e22 rfl rfl (by omega)) ?_
               refine st_val (ro_fieldAddr BwtLawB_f26_1 rfl) ?_
               refine st_val (ro_load BwtLawB_g3 rfl (by exact cellF ((hB.next E23).next E29) (hask.cells 1 _ rfl))) ?_
               refine st_val (ro_move (v := .slice _ _ _) rfl) ?_
               have hr29 := (RowOf.own ho29).2
               refine st_call BwtLawB_k16 (back_two x A29 c29 L.length L _ (RowOf.own ho29).2 rfl (by omega)) ?_
               rintro v37 w7 ⟨hs37, E37⟩
               rcases hs37 with ⟨l9, A37, c37, hIs, rfl, hr37, hl9⟩ | ⟨hIs, rfl⟩
               · obtain ⟨okv, hokv⟩ : ∃ okv, okv = true := ⟨_, rfl⟩
                 rw [← hokv] at hIs
                 refine st_val (ro_move (v := .tuple _) rfl) ?_
                 refine st_val (ro_extract rfl rfl) ?_
                 refine st_val (ro_extract rfl rfl) ?_
                 refine st_val (ro_assign (v := .slice _ _ _) rfl) ?_
                 refine st_val (ro_assign (v := .int _ _) rfl) ?_
                 refine st_nil ?_
                 refine nx_then ?_
                 refine cd_seq ?_
                 apply cd_drawn 16 [(41, eqp _), (42, eqp _), (43, eqp _), (44, eqp _), (45, eqp _), (46, eqp _), (47, eqp _), (48, eqp _), (49, eqp _), (50, eqp _), (51, fun v w' => ∃ A' c', v = .tuple #[.slice A' l9.length c', .bool okv] ∧ RowOf iV w' A' (cI l9)), (40, fun v w' => ∃ A' c', v = .tuple #[.slice A' l9.length c', .bool okv] ∧ RowOf iV w' A' (cI l9)), (52, fun v w' => ∃ A' c', v = .slice A' l9.length c' ∧ RowOf iV w' A' (cI l9)), (53, eqp _), (7, fun v w' => ∃ A' c', v = .slice A' l9.length c' ∧ RowOf iV w' A' (cI l9)), (8, eqp _)] (by kernel_rfl) (by kernel_rfl) ⟨eqp_mono _, eqp_mono _, eqp_mono _, eqp_mono _, eqp_mono _, eqp_mono _, eqp_mono _, eqp_mono _, eqp_mono _, eqp_mono _, (fun _ _ _ hF ⟨A2, c2, h1, h2⟩ => ⟨A2, c2, h1, h2.from_ hF⟩), (fun _ _ _ hF ⟨A2, c2, h1, h2⟩ => ⟨A2, c2, h1, h2.from_ hF⟩), (fun _ _ _ hF ⟨A2, c2, h1, h2⟩ => ⟨A2, c2, h1, h2.from_ hF⟩), eqp_mono _, (fun _ _ _ hF ⟨A2, c2, h1, h2⟩ => ⟨A2, c2, h1, h2.from_ hF⟩), eqp_mono _, trivial⟩
                 case hop =>
                  refine ⟨?_, ?_⟩
                  · intro w9 D9
                    show OpOK _ _ _ _ _ _ _
                    exact ok_pure (ro_move (v := .slice _ _ _) rfl) rfl
                  refine ⟨?_, ?_⟩
                  · intro w10 D10
                    show OpOK _ _ _ _ _ _ _
                    exact ok_pure (ro_move (v := .int _ _) rfl) rfl
                  refine ⟨?_, ?_⟩
                  · intro w11 D11
                    rintro _ rfl _ rfl
                    show OpOK _ _ _ _ _ _ _
                    exact ok_pure (ro_indexAddrN BwtLawB_e22 rfl rfl (by omega)) rfl
                  refine ⟨?_, ?_⟩
                  · intro w12 D12
                    rintro _ rfl
                    show OpOK _ _ _ _ _ _ _
                    exact ok_pure (ro_fieldAddr BwtLawB_f26_1 rfl) rfl
                  refine ⟨?_, ?_⟩
                  · intro w13 D13
                    rintro _ rfl
                    show OpOK _ _ _ _ _ _ _
                    exact ok_pure (ro_load BwtLawB_g3 rfl (by exact cellF ((((hB.next E23).next E29).next E37).next D13) (hask.cells 1 _ rfl))) rfl
                  refine ⟨?_, ?_⟩
                  · intro w14 D14
                    show OpOK _ _ _ _ _ _ _
                    exact ok_pure (ro_move (v := .slice _ _ _) rfl) rfl
                  refine ⟨?_, ?_⟩
                  · intro w15 D15
                    show OpOK _ _ _ _ _ _ _
                    exact ok_pure (ro_move (v := .int _ _) rfl) rfl
                  refine ⟨?_, ?_⟩
                  · intro w16 D16
                    rintro _ rfl _ rfl
                    show OpOK _ _ _ _ _ _ _
                    exact ok_pure (ro_indexAddrN BwtLawB_e22 rfl rfl (by omega)) rfl
                  refine ⟨?_, ?_⟩
                  · intro w17 D17
                    rintro _ rfl
                    show OpOK _ _ _ _ _ _ _
                    exact ok_pure (ro_fieldAddr BwtLawB_f26_0 rfl) rfl
                  refine ⟨?_, ?_⟩
                  · intro w18 D18
                    rintro _ rfl
                    show OpOK _ _ _ _ _ _ _
                    exact ok_pure (ro_load BwtLawB_g24 rfl (by exact cellF ((((hB.next E23).next E29).next E37).next D18) (hask.cells 0 _ rfl))) rfl
                  refine ⟨?_, ?_⟩
                  · intro w19 D19
                    rintro _ rfl _ rfl
                    show OpOK _ _ _ _ _ _ _
                    refine ok_call BwtLawB_k17 ((refBack_is okv l9 x A1 ca L.length L _ (hask.rowL.from_ ((((hB.next E23).next E29).next E37).next D19)) rfl (by omega) hIs).mono ?_)
                    rintro v w2 ⟨⟨A3, c3, rfl, hr3⟩, E⟩
                    exact ⟨E, A3, c3, rfl, hr3⟩
                  refine ⟨?_, ?_⟩
                  · intro w20 D20
                    rintro v20_51 ⟨A51, c51, rfl, hr51⟩
                    show OpOK _ _ _ _ _ _ _
                    exact ok_val (ro_move (v := .tuple _) rfl) From.rfl_ ⟨_, _, rfl, hr51⟩
                  refine ⟨?_, ?_⟩
                  · intro w21 D21
                    rintro v21_40 ⟨A51, c51, rfl, hr51⟩
                    show OpOK _ _ _ _ _ _ _
                    exact ok_val (ro_extract rfl rfl) From.rfl_ ⟨_, _, rfl, hr51⟩
                  refine ⟨?_, ?_⟩
                  · intro w22 D22
                    rintro v22_40 ⟨A51, c51, rfl, hr51⟩
                    show OpOK _ _ _ _ _ _ _
                    exact ok_pure (ro_extract rfl rfl) rfl
                  refine ⟨?_, ?_⟩
                  · intro w23 D23
                    rintro v23_52 ⟨A51, c51, rfl, hr51⟩
                    show OpOK _ _ _ _ _ _ _
                    exact ok_val (ro_assign rfl) From.rfl_ ⟨_, _, rfl, hr51⟩
                  refine ⟨?_, ?_⟩
                  · intro w24 D24
                    rintro _ rfl
                    show OpOK _ _ _ _ _ _ _
                    exact ok_pure (ro_assign (v := .bool _) rfl) rfl
                  exact trivial
                 case hend =>
                  intro w25 D25
                  rintro _ rfl _ rfl _ rfl _ rfl _ rfl _ rfl _ rfl _ rfl _ rfl _ rfl v51 ⟨A51, c51, rfl, hr51⟩ v40 ⟨A51, c51, rfl, hr51⟩ v52 ⟨A51, c51, rfl, hr51⟩ _ rfl v7 ⟨A51, c51, rfl, hr51⟩ _ rfl
                  show St _ _ _ _ _ _ _
                  subst hokv
                  refine st_nil ?_
                  refine nx_then ?_
                  refine cd_seq ?_
                  refine cd_region ?_
                  refine st_val (ro_move (v := .bool _) rfl) ?_
                  refine st_val (ro_move (v := .int _ _) rfl) ?_
                  refine st_call BwtLawB_k11 (num_any _ _) ?_
                  rintro v56 w26 ⟨rfl, rfl⟩
                  refine st_val (ro_eql rfl rfl) ?_
                  refine st_val (ro_neqB (by kernel_rfl) rfl rfl) ?_
                  refine st_val (ro_move (v := .bool _) rfl) ?_
                  refine st_split (t := 59) rfl (fun Q27 => ?_) (fun Q27 => ?_)
                  · (try first | replace Q27 := bn_t Q27 | replace Q27 := bn_f Q27)
                    (try first | replace Q27 := bx_t Q27 | replace Q27 := bx_f Q27 | replace Q27 := be_t Q27 | replace Q27 := be_f Q27 | replace Q27 := of_decide_eq_true Q27 | replace Q27 := of_decide_eq_false Q27)
                    first
                     | (exfalso; first | omega | contradiction | (cases Q27; done))
                     | skip
                       refine st_gno rfl rfl ?_
                       refine st_gno rfl rfl ?_
                       refine st_gno rfl rfl ?_
                       refine st_gund rfl ?_
                       refine st_gund rfl ?_
                       refine st_gund rfl ?_
                       refine st_gund rfl ?_
                       refine st_gund rfl ?_
                       refine st_gund rfl ?_
                       refine st_gund rfl ?_
                       refine st_gund rfl ?_
                       refine st_gno rfl rfl ?_
                       refine st_val (ro_pickT (v := .bool _) rfl rfl) ?_
                       refine st_val (ro_move (v := .bool _) rfl) ?_
                       refine st_gno rfl rfl ?_
                       refine st_gno rfl rfl ?_
                       refine st_gund rfl ?_
                       refine st_gund rfl ?_
                       refine st_gund rfl ?_
                       refine st_gund rfl ?_
                       refine st_gno rfl rfl ?_
                       refine st_val (ro_pickT (v := .bool _) rfl rfl) ?_
                       refine st_val (ro_move (v := .bool _) rfl) ?_
                       refine st_gno rfl rfl ?_
                       refine st_gno rfl rfl ?_
                       refine st_gno rfl rfl ?_
                       refine st_gno rfl rfl ?_
                       refine st_gno rfl rfl ?_
                       refine st_gno rfl rfl ?_
                       refine st_gno rfl rfl ?_
                       refine st_gno rfl rfl ?_
                       refine st_val (ro_pickT (v := .bool _) rfl rfl) ?_
                       refine st_nil ?_
                       refine nx_then ?_
                       refine cd_condT rfl ?_
                       refine cd_seq ?_
                       refine cd_region ?_
                       refine st_val (ro_assign (v := .bool _) rfl) ?_
                       refine st_nil ?_
                       refine nx_then ?_
                       refine cd_ret ?_
                       refine rt_block ?_
                       refine rt_then ?_
                       refine rt_then ?_
                       refine rt_block ?_
                       refine rt_then ?_
                       refine res1 (v := .bool _) rfl rfl ?_
                       exact ⟨rfl, ((((hB.next E23).next E29).next E37).next D25)⟩
                  · (try first | replace Q27 := bn_t Q27 | replace Q27 := bn_f Q27)
                    (try first | replace Q27 := bx_t Q27 | replace Q27 := bx_f Q27 | replace Q27 := be_t Q27 | replace Q27 := be_f Q27 | replace Q27 := of_decide_eq_true Q27 | replace Q27 := of_decide_eq_false Q27)
                    first
                     | (exfalso; first | omega | contradiction | (cases Q27; done))
                     | skip
                       refine st_unguard rfl ?_
                       refine st_val (ro_move (v := .bool _) rfl) ?_
                       refine st_unguard rfl ?_
                       refine st_val (ro_not rfl) ?_
                       refine st_unguard rfl ?_
                       refine st_val (ro_move (v := .bool _) rfl) ?_
                       refine st_split (t := 62) rfl (fun Q28 => ?_) (fun Q28 => ?_)
                       · (try first | replace Q28 := bn_t Q28 | replace Q28 := bn_f Q28)
                         (try first | replace Q28 := bx_t Q28 | replace Q28 := bx_f Q28 | replace Q28 := be_t Q28 | replace Q28 := be_f Q28 | replace Q28 := of_decide_eq_true Q28 | replace Q28 := of_decide_eq_false Q28)
                         first
                          | (exfalso; first | omega | contradiction | (cases Q28; done))
                          | skip
                            refine st_unguard rfl ?_
                            refine st_val (ro_move (v := .int _ _) rfl) ?_
                            refine st_unguard rfl ?_
                            refine st_call BwtLawB_k11 (num_any _ _) ?_
                            rintro v64 w29 ⟨rfl, rfl⟩
                            refine st_unguard rfl ?_
                            refine st_val (ro_neq rfl rfl) ?_
                            refine st_unguard rfl ?_
                            refine st_val (ro_move (v := .bool _) rfl) ?_
                            refine st_split (t := 66) rfl (fun Q30 => ?_) (fun Q30 => ?_)
                            · (try first | replace Q30 := bn_t Q30 | replace Q30 := bn_f Q30)
                              (try first | replace Q30 := bx_t Q30 | replace Q30 := bx_f Q30 | replace Q30 := be_t Q30 | replace Q30 := be_f Q30 | replace Q30 := of_decide_eq_true Q30 | replace Q30 := of_decide_eq_false Q30)
                              first
                               | (exfalso; first | omega | contradiction | (cases Q30; done))
                               | skip
                                 refine st_gno rfl rfl ?_
                                 refine st_gno rfl rfl ?_
                                 refine st_gno rfl rfl ?_
                                 refine st_unguard rfl ?_
                                 refine st_val (ro_pickT (v := .bool _) rfl rfl) ?_
                                 refine st_unguard rfl ?_
                                 refine st_val (ro_pickT (v := .bool _) rfl rfl) ?_
                                 refine st_val (ro_pickF (v := .bool _) rfl rfl) ?_
                                 refine st_val (ro_move (v := .bool _) rfl) ?_
                                 refine st_gno rfl rfl ?_
                                 refine st_gno rfl rfl ?_
                                 refine st_gund rfl ?_
                                 refine st_gund rfl ?_
                                 refine st_gund rfl ?_
                                 refine st_gund rfl ?_
                                 refine st_gno rfl rfl ?_
                                 refine st_val (ro_pickT (v := .bool _) rfl rfl) ?_
                                 refine st_val (ro_move (v := .bool _) rfl) ?_
                                 refine st_gno rfl rfl ?_
                                 refine st_gno rfl rfl ?_
                                 refine st_gno rfl rfl ?_
                                 refine st_gno rfl rfl ?_
                                 refine st_gno rfl rfl ?_
                                 refine st_gno rfl rfl ?_
                                 refine st_gno rfl rfl ?_
                                 refine st_gno rfl rfl ?_
                                 refine st_val (ro_pickT (v := .bool _) rfl rfl) ?_
                                 refine st_nil ?_
                                 refine nx_then ?_
                                 refine cd_condT rfl ?_
                                 refine cd_seq ?_
                                 refine cd_region ?_
                                 refine st_val (ro_assign (v := .bool _) rfl) ?_
                                 refine st_nil ?_
                                 refine nx_then ?_
                                 refine cd_ret ?_
                                 refine rt_block ?_
                                 refine rt_then ?_
                                 refine rt_then ?_
                                 refine rt_block ?_
                                 refine rt_then ?_
                                 refine res1 (v := .bool _) rfl rfl ?_
                                 exact ⟨rfl, ((((hB.next E23).next E29).next E37).next D25)⟩
                            · (try first | replace Q30 := bn_t Q30 | replace Q30 := bn_f Q30)
                              (try first | replace Q30 := bx_t Q30 | replace Q30 := bx_f Q30 | replace Q30 := be_t Q30 | replace Q30 := be_f Q30 | replace Q30 := of_decide_eq_true Q30 | replace Q30 := of_decide_eq_false Q30)
                              first
                               | (exfalso; first | omega | contradiction | (cases Q30; done))
                               | skip
                                 refine st_unguard rfl ?_
                                 refine st_val (ro_move (v := .slice _ _ _) rfl) ?_
                                 refine st_unguard rfl ?_
                                 refine st_val (ro_len BwtLawB_l24 rfl) ?_
                                 refine st_unguard rfl ?_
                                 refine st_val (ro_gtr rfl rfl) ?_
                                 refine st_unguard rfl ?_
                                 refine st_val (ro_pickF (v := .bool _) rfl rfl) ?_
                                 refine st_unguard rfl ?_
                                 refine st_val (ro_pickT (v := .bool _) rfl rfl) ?_
                                 refine st_val (ro_pickF (v := .bool _) rfl rfl) ?_
                                 refine st_val (ro_move (v := .bool _) rfl) ?_
                                 refine st_split (t := 73) rfl (fun Q31 => ?_) (fun Q31 => ?_)
                                 · (try first | replace Q31 := bn_t Q31 | replace Q31 := bn_f Q31)
                                   (try first | replace Q31 := bx_t Q31 | replace Q31 := bx_f Q31 | replace Q31 := be_t Q31 | replace Q31 := be_f Q31 | replace Q31 := of_decide_eq_true Q31 | replace Q31 := of_decide_eq_false Q31)
                                   first
                                    | (exfalso; first | omega | contradiction | (cases Q31; done))
                                    | skip
                                      refine st_gno rfl rfl ?_
                                      refine st_gno rfl rfl ?_
                                      refine st_gund rfl ?_
                                      refine st_gund rfl ?_
                                      refine st_gund rfl ?_
                                      refine st_gund rfl ?_
                                      refine st_gno rfl rfl ?_
                                      refine st_val (ro_pickT (v := .bool _) rfl rfl) ?_
                                      refine st_val (ro_move (v := .bool _) rfl) ?_
                                      refine st_gno rfl rfl ?_
                                      refine st_gno rfl rfl ?_
                                      refine st_gno rfl rfl ?_
                                      refine st_gno rfl rfl ?_
                                      refine st_gno rfl rfl ?_
                                      refine st_gno rfl rfl ?_
                                      refine st_gno rfl rfl ?_
                                      refine st_gno rfl rfl ?_
                                      refine st_val (ro_pickT (v := .bool _) rfl rfl) ?_
                                      refine st_nil ?_
                                      refine nx_then ?_
                                      refine cd_condT rfl ?_
                                      refine cd_seq ?_
                                      refine cd_region ?_
                                      refine st_val (ro_assign (v := .bool _) rfl) ?_
                                      refine st_nil ?_
                                      refine nx_then ?_
                                      refine cd_ret ?_
                                      refine rt_block ?_
                                      refine rt_then ?_
                                      refine rt_then ?_
                                      refine rt_block ?_
                                      refine rt_then ?_
                                      refine res1 (v := .bool _) rfl rfl ?_
                                      exact ⟨rfl, ((((hB.next E23).next E29).next E37).next D25)⟩
                                 · (try first | replace Q31 := bn_t Q31 | replace Q31 := bn_f Q31)
                                   (try first | replace Q31 := bx_t Q31 | replace Q31 := bx_f Q31 | replace Q31 := be_t Q31 | replace Q31 := be_f Q31 | replace Q31 := of_decide_eq_true Q31 | replace Q31 := of_decide_eq_false Q31)
                                   first
                                    | (exfalso; first | omega | contradiction | (cases Q31; done))
                                    | skip
                                      refine st_unguard rfl ?_
                                      refine st_val (ro_move (v := .bool _) rfl) ?_
                                      refine st_unguard rfl ?_
                                      refine st_val (ro_move (v := .bool _) rfl) ?_
                                      refine st_split (t := 75) rfl (fun Q32 => ?_) (fun Q32 => ?_)
                                      · (try first | replace Q32 := bn_t Q32 | replace Q32 := bn_f Q32)
                                        (try first | replace Q32 := bx_t Q32 | replace Q32 := bx_f Q32 | replace Q32 := be_t Q32 | replace Q32 := be_f Q32 | replace Q32 := of_decide_eq_true Q32 | replace Q32 := of_decide_eq_false Q32)
                                        first
                                         | (exfalso; first | omega | contradiction | (cases Q32; done))
                                         | skip
                                           refine st_unguard rfl ?_
                                           refine st_val (ro_move (v := .slice _ _ _) rfl) ?_
                                           refine st_unguard rfl ?_
                                           refine st_val (ro_move (v := .slice _ _ _) rfl) ?_
                                           refine st_unguard rfl ?_
                                           refine st_call BwtLawB_k13 (eq_same A37 A51 c37 c51 l9.length l9.length (cI l9) _ (hr37.from_ (From.rfl_.next D25)) (hr51) (by rw [List.length_map]) (by rw [List.length_map]) (by omega)) ?_
                                           rintro v78 w33 ⟨rfl, E78⟩
                                           refine st_unguard rfl ?_
                                           refine st_val (ro_not rfl) ?_
                                           refine st_unguard rfl ?_
                                           refine st_val (ro_pickT (v := .bool _) rfl rfl) ?_
                                           refine st_val (ro_pickF (v := .bool _) rfl rfl) ?_
                                           refine st_val (ro_move (v := .bool _) rfl) ?_
                                           refine st_split (t := 82) rfl (fun Q34 => ?_) (fun Q34 => ?_)
                                           · (try first | replace Q34 := bn_t Q34 | replace Q34 := bn_f Q34)
                                             (try first | replace Q34 := bx_t Q34 | replace Q34 := bx_f Q34 | replace Q34 := be_t Q34 | replace Q34 := be_f Q34 | replace Q34 := of_decide_eq_true Q34 | replace Q34 := of_decide_eq_false Q34)
                                             first
                                              | (exfalso; first | omega | contradiction | (cases Q34; done))
                                              | skip
                                                refine st_gno rfl rfl ?_
                                                refine st_gno rfl rfl ?_
                                                refine st_gno rfl rfl ?_
                                                refine st_gno rfl rfl ?_
                                                refine st_gno rfl rfl ?_
                                                refine st_gno rfl rfl ?_
                                                refine st_gno rfl rfl ?_
                                                refine st_gno rfl rfl ?_
                                                refine st_val (ro_pickT (v := .bool _) rfl rfl) ?_
                                                refine st_nil ?_
                                                refine nx_then ?_
                                                refine cd_condT rfl ?_
                                                refine cd_seq ?_
                                                refine cd_region ?_
                                                refine st_val (ro_assign (v := .bool _) rfl) ?_
                                                refine st_nil ?_
                                                refine nx_then ?_
                                                refine cd_ret ?_
                                                refine rt_block ?_
                                                refine rt_then ?_
                                                refine rt_then ?_
                                                refine rt_block ?_
                                                refine rt_then ?_
                                                refine res1 (v := .bool _) rfl rfl ?_
                                                exact ⟨rfl, (((((hB.next E23).next E29).next E37).next D25).next E78)⟩
                                           · (try first | replace Q34 := bn_t Q34 | replace Q34 := bn_f Q34)
                                             (try first | replace Q34 := bx_t Q34 | replace Q34 := bx_f Q34 | replace Q34 := be_t Q34 | replace Q34 := be_f Q34 | replace Q34 := of_decide_eq_true Q34 | replace Q34 := of_decide_eq_false Q34)
                                             first
                                              | (exfalso; first | omega | contradiction | (cases Q34; done))
                                              | skip
                                                refine st_unguard rfl ?_
                                                refine st_val (ro_move (v := .slice _ _ _) rfl) ?_
                                                refine st_unguard rfl ?_
                                                refine st_val (ro_move (v := .slice _ _ _) rfl) ?_
                                                refine st_unguard rfl ?_
                                                refine st_val (ro_move (v := .int _ _) rfl) ?_
                                                refine st_unguard rfl ?_
                                                refine st_val (ro_indexAddrN BwtLawB_e22 rfl rfl (by omega)) ?_
                                                refine st_unguard rfl ?_
                                                refine st_val (ro_fieldAddr BwtLawB_f26_0 rfl) ?_
                                                refine st_unguard rfl ?_
                                                refine st_val (ro_load BwtLawB_g24 rfl (by exact cellF (((((hB.next E23).next E29).next E37).next D25).next E78) (hask.cells 0 _ rfl))) ?_
                                                refine st_unguard rfl ?_
                                                refine st_call BwtLawB_k13 (eq_same A29 A1 c29 ca L.length L.length L _ (hr29.from_ (E37.next ((From.rfl_.next D25).next E78))) (hask.rowL.from_ (((((hB.next E23).next E29).next E37).next D25).next E78)) rfl rfl (by omega)) ?_
                                                rintro v89 w35 ⟨rfl, E89⟩
                                                refine st_unguard rfl ?_
                                                refine st_val (ro_not rfl) ?_
                                                refine st_val (ro_pickF (v := .bool _) rfl rfl) ?_
                                                refine st_nil ?_
                                                refine nx_then ?_
                                                refine cd_cond rfl (fun Q36 => ?_) (fun Q36 => ?_)
                                                · (try first | replace Q36 := bn_t Q36 | replace Q36 := bn_f Q36)
                                                  (try first | replace Q36 := bx_t Q36 | replace Q36 := bx_f Q36 | replace Q36 := be_t Q36 | replace Q36 := be_f Q36 | replace Q36 := of_decide_eq_true Q36 | replace Q36 := of_decide_eq_false Q36)
                                                  first
                                                   | (exfalso; first | omega | contradiction | (cases Q36; done))
                                                   | skip
                                                     refine cd_seq ?_
                                                     refine cd_region ?_
                                                     refine st_val (ro_assign (v := .bool _) rfl) ?_
                                                     refine st_nil ?_
                                                     refine nx_then ?_
                                                     refine cd_ret ?_
                                                     refine rt_block ?_
                                                     refine rt_then ?_
                                                     refine rt_then ?_
                                                     refine rt_block ?_
                                                     refine rt_then ?_
                                                     refine res1 (v := .bool _) rfl rfl ?_
                                                     exact ⟨rfl, ((((((hB.next E23).next E29).next E37).next D25).next E78).next E89)⟩
                                                (try first | replace Q36 := bn_t Q36 | replace Q36 := bn_f Q36)
                                                (try first | replace Q36 := bx_t Q36 | replace Q36 := bx_f Q36 | replace Q36 := be_t Q36 | replace Q36 := be_f Q36 | replace Q36 := of_decide_eq_true Q36 | replace Q36 := of_decide_eq_false Q36)
                                                first
                                                 | (exfalso; first | omega | contradiction | (cases Q36; done))
                                                 | skip
                                                   refine cd_skip ?_
                                                   refine nx_block ?_
                                                   refine nx_then ?_
                                                   refine cd_region ?_
                                                   refine st_val (ro_move (v := .int _ _) rfl) ?_
                                                   refine st_val (ro_addN (b := 1) rfl rfl (by omega)) ?_
                                                   refine st_val (ro_assign (v := .int _ _) rfl) ?_
                                                   refine st_nil ?_
                                                   refine nx_cut (k + 1) ⟨(by first | rfl | (refine int_eq ?_; omega)), trivial⟩ (by (iterate 186 refine agr_cons rfl ?_); exact agr_rfl) ⟨?_, ?_⟩
                                                   · exact ⟨by omega, ((((((hB.next E23).next E29).next E37).next D25).next E78).next E89)⟩
                                                   · show xs.length - (k + 1) < xs.length - k; omega
                                      · (try first | replace Q32 := bn_t Q32 | replace Q32 := bn_f Q32)
                                        (try first | replace Q32 := bx_t Q32 | replace Q32 := bx_f Q32 | replace Q32 := be_t Q32 | replace Q32 := be_f Q32 | replace Q32 := of_decide_eq_true Q32 | replace Q32 := of_decide_eq_false Q32)
                                        first
                                         | (exfalso; first | omega | contradiction | (cases Q32; done))
                                         | skip
                                           refine st_gno rfl rfl ?_
                                           refine st_gno rfl rfl ?_
                                           refine st_gno rfl rfl ?_
                                           refine st_gno rfl rfl ?_
                                           refine st_unguard rfl ?_
                                           refine st_val (ro_pickF (v := .bool _) rfl rfl) ?_
                                           refine st_val (ro_pickF (v := .bool _) rfl rfl) ?_
                                           refine st_val (ro_move (v := .bool _) rfl) ?_
                                           refine st_unguard rfl ?_
                                           refine st_val (ro_move (v := .slice _ _ _) rfl) ?_
                                           refine st_unguard rfl ?_
                                           refine st_val (ro_move (v := .slice _ _ _) rfl) ?_
                                           refine st_unguard rfl ?_
                                           refine st_val (ro_move (v := .int _ _) rfl) ?_
                                           refine st_unguard rfl ?_
                                           refine st_val (ro_indexAddrN BwtLawB_e22 rfl rfl (by omega)) ?_
                                           refine st_unguard rfl ?_
                                           refine st_val (ro_fieldAddr BwtLawB_f26_0 rfl) ?_
                                           refine st_unguard rfl ?_
                                           refine st_val (ro_load BwtLawB_g24 rfl (by exact cellF ((((hB.next E23).next E29).next E37).next D25) (hask.cells 0 _ rfl))) ?_
                                           refine st_unguard rfl ?_
                                           refine st_call BwtLawB_k13 (eq_same A29 A1 c29 ca L.length L.length L _ (hr29.from_ (E37.next (From.rfl_.next D25))) (hask.rowL.from_ ((((hB.next E23).next E29).next E37).next D25)) rfl rfl (by omega)) ?_
                                           rintro v89 w37 ⟨rfl, E89⟩
                                           refine st_unguard rfl ?_
                                           refine st_val (ro_not rfl) ?_
                                           refine st_val (ro_pickF (v := .bool _) rfl rfl) ?_
                                           refine st_nil ?_
                                           refine nx_then ?_
                                           refine cd_cond rfl (fun Q38 => ?_) (fun Q38 => ?_)
                                           · (try first | replace Q38 := bn_t Q38 | replace Q38 := bn_f Q38)
                                             (try first | replace Q38 := bx_t Q38 | replace Q38 := bx_f Q38 | replace Q38 := be_t Q38 | replace Q38 := be_f Q38 | replace Q38 := of_decide_eq_true Q38 | replace Q38 := of_decide_eq_false Q38)
                                             first
                                              | (exfalso; first | omega | contradiction | (cases Q38; done))
                                              | skip
                                                refine cd_seq ?_
                                                refine cd_region ?_
                                                refine st_val (ro_assign (v := .bool _) rfl) ?_
                                                refine st_nil ?_
                                                refine nx_then ?_
                                                refine cd_ret ?_
                                                refine rt_block ?_
                                                refine rt_then ?_
                                                refine rt_then ?_
                                                refine rt_block ?_
                                                refine rt_then ?_
                                                refine res1 (v := .bool _) rfl rfl ?_
                                                exact ⟨rfl, (((((hB.next E23).next E29).next E37).next D25).next E89)⟩
                                           (try first | replace Q38 := bn_t Q38 | replace Q38 := bn_f Q38)
                                           (try first | replace Q38 := bx_t Q38 | replace Q38 := bx_f Q38 | replace Q38 := be_t Q38 | replace Q38 := be_f Q38 | replace Q38 := of_decide_eq_true Q38 | replace Q38 := of_decide_eq_false Q38)
                                           first
                                            | (exfalso; first | omega | contradiction | (cases Q38; done))
                                            | skip
                                              refine cd_skip ?_
                                              refine nx_block ?_
                                              refine nx_then ?_
                                              refine cd_region ?_
                                              refine st_val (ro_move (v := .int _ _) rfl) ?_
                                              refine st_val (ro_addN (b := 1) rfl rfl (by omega)) ?_
                                              refine st_val (ro_assign (v := .int _ _) rfl) ?_
                                              refine st_nil ?_
                                              refine nx_cut (k + 1) ⟨(by first | rfl | (refine int_eq ?_; omega)), trivial⟩ (by (iterate 185 refine agr_cons rfl ?_); exact agr_rfl) ⟨?_, ?_⟩
                                              · exact ⟨by omega, (((((hB.next E23).next E29).next E37).next D25).next E89)⟩
                                              · show xs.length - (k + 1) < xs.length - k; omega
                       · (try first | replace Q28 := bn_t Q28 | replace Q28 := bn_f Q28)
                         (try first | replace Q28 := bx_t Q28 | replace Q28 := bx_f Q28 | replace Q28 := be_t Q28 | replace Q28 := be_f Q28 | replace Q28 := of_decide_eq_true Q28 | replace Q28 := of_decide_eq_false Q28)
                         first
                          | (exfalso; first | omega | contradiction | (cases Q28; done))
                          | skip
                            refine st_gno rfl rfl ?_
                            refine st_gno rfl rfl ?_
                            refine st_gno rfl rfl ?_
                            refine st_gno rfl rfl ?_
                            refine st_gund rfl ?_
                            refine st_gund rfl ?_
                            refine st_gund rfl ?_
                            refine st_gno rfl rfl ?_
                            refine st_unguard rfl ?_
                            refine st_val (ro_pickF (v := .bool _) rfl rfl) ?_
                            refine st_val (ro_pickF (v := .bool _) rfl rfl) ?_
                            refine st_val (ro_move (v := .bool _) rfl) ?_
                            refine st_unguard rfl ?_
                            refine st_val (ro_move (v := .bool _) rfl) ?_
                            refine st_unguard rfl ?_
                            refine st_val (ro_move (v := .bool _) rfl) ?_
                            refine st_split (t := 75) rfl (fun Q39 => ?_) (fun Q39 => ?_)
                            · (try first | replace Q39 := bn_t Q39 | replace Q39 := bn_f Q39)
                              (try first | replace Q39 := bx_t Q39 | replace Q39 := bx_f Q39 | replace Q39 := be_t Q39 | replace Q39 := be_f Q39 | replace Q39 := of_decide_eq_true Q39 | replace Q39 := of_decide_eq_false Q39)
                              first
                               | (exfalso; first | omega | contradiction | (cases Q39; done))
                               | skip
                                 refine st_unguard rfl ?_
                                 refine st_val (ro_move (v := .slice _ _ _) rfl) ?_
                                 refine st_unguard rfl ?_
                                 refine st_val (ro_move (v := .slice _ _ _) rfl) ?_
                                 refine st_unguard rfl ?_
                                 refine st_call BwtLawB_k13 (eq_same A37 A51 c37 c51 l9.length l9.length (cI l9) _ (hr37.from_ (From.rfl_.next D25)) (hr51) (by rw [List.length_map]) (by rw [List.length_map]) (by omega)) ?_
                                 rintro v78 w40 ⟨rfl, E78⟩
                                 refine st_unguard rfl ?_
                                 refine st_val (ro_not rfl) ?_
                                 refine st_unguard rfl ?_
                                 refine st_val (ro_pickT (v := .bool _) rfl rfl) ?_
                                 refine st_val (ro_pickF (v := .bool _) rfl rfl) ?_
                                 refine st_val (ro_move (v := .bool _) rfl) ?_
                                 refine st_split (t := 82) rfl (fun Q41 => ?_) (fun Q41 => ?_)
                                 · (try first | replace Q41 := bn_t Q41 | replace Q41 := bn_f Q41)
                                   (try first | replace Q41 := bx_t Q41 | replace Q41 := bx_f Q41 | replace Q41 := be_t Q41 | replace Q41 := be_f Q41 | replace Q41 := of_decide_eq_true Q41 | replace Q41 := of_decide_eq_false Q41)
                                   first
                                    | (exfalso; first | omega | contradiction | (cases Q41; done))
                                    | skip
                                      refine st_gno rfl rfl ?_
                                      refine st_gno rfl rfl ?_
                                      refine st_gno rfl rfl ?_
                                      refine st_gno rfl rfl ?_
                                      refine st_gno rfl rfl ?_
                                      refine st_gno rfl rfl ?_
                                      refine st_gno rfl rfl ?_
                                      refine st_gno rfl rfl ?_
                                      refine st_val (ro_pickT (v := .bool _) rfl rfl) ?_
                                      refine st_nil ?_
                                      refine nx_then ?_
                                      refine cd_condT rfl ?_
                                      refine cd_seq ?_
                                      refine cd_region ?_
                                      refine st_val (ro_assign (v := .bool _) rfl) ?_
                                      refine st_nil ?_
                                      refine nx_then ?_
                                      refine cd_ret ?_
                                      refine rt_block ?_
                                      refine rt_then ?_
                                      refine rt_then ?_
                                      refine rt_block ?_
                                      refine rt_then ?_
                                      refine res1 (v := .bool _) rfl rfl ?_
                                      exact ⟨rfl, (((((hB.next E23).next E29).next E37).next D25).next E78)⟩
                                 · (try first | replace Q41 := bn_t Q41 | replace Q41 := bn_f Q41)
                                   (try first | replace Q41 := bx_t Q41 | replace Q41 := bx_f Q41 | replace Q41 := be_t Q41 | replace Q41 := be_f Q41 | replace Q41 := of_decide_eq_true Q41 | replace Q41 := of_decide_eq_false Q41)
                                   first
                                    | (exfalso; first | omega | contradiction | (cases Q41; done))
                                    | skip
                                      refine st_unguard rfl ?_
                                      refine st_val (ro_move (v := .slice _ _ _) rfl) ?_
                                      refine st_unguard rfl ?_
                                      refine st_val (ro_move (v := .slice _ _ _) rfl) ?_
                                      refine st_unguard rfl ?_
                                      refine st_val (ro_move (v := .int _ _) rfl) ?_
                                      refine st_unguard rfl ?_
                                      refine st_val (ro_indexAddrN BwtLawB_e22 rfl rfl (by omega)) ?_
                                      refine st_unguard rfl ?_
                                      refine st_val (ro_fieldAddr BwtLawB_f26_0 rfl) ?_
                                      refine st_unguard rfl ?_
                                      refine st_val (ro_load BwtLawB_g24 rfl (by exact cellF (((((hB.next E23).next E29).next E37).next D25).next E78) (hask.cells 0 _ rfl))) ?_
                                      refine st_unguard rfl ?_
                                      refine st_call BwtLawB_k13 (eq_same A29 A1 c29 ca L.length L.length L _ (hr29.from_ (E37.next ((From.rfl_.next D25).next E78))) (hask.rowL.from_ (((((hB.next E23).next E29).next E37).next D25).next E78)) rfl rfl (by omega)) ?_
                                      rintro v89 w42 ⟨rfl, E89⟩
                                      refine st_unguard rfl ?_
                                      refine st_val (ro_not rfl) ?_
                                      refine st_val (ro_pickF (v := .bool _) rfl rfl) ?_
                                      refine st_nil ?_
                                      refine nx_then ?_
                                      refine cd_cond rfl (fun Q43 => ?_) (fun Q43 => ?_)
                                      · (try first | replace Q43 := bn_t Q43 | replace Q43 := bn_f Q43)
                                        (try first | replace Q43 := bx_t Q43 | replace Q43 := bx_f Q43 | replace Q43 := be_t Q43 | replace Q43 := be_f Q43 | replace Q43 := of_decide_eq_true Q43 | replace Q43 := of_decide_eq_false Q43)
                                        first
                                         | (exfalso; first | omega | contradiction | (cases Q43; done))
                                         | skip
                                           refine cd_seq ?_
                                           refine cd_region ?_
                                           refine st_val (ro_assign (v := .bool _) rfl) ?_
                                           refine st_nil ?_
                                           refine nx_then ?_
                                           refine cd_ret ?_
                                           refine rt_block ?_
                                           refine rt_then ?_
                                           refine rt_then ?_
                                           refine rt_block ?_
                                           refine rt_then ?_
                                           refine res1 (v := .bool _) rfl rfl ?_
                                           exact ⟨rfl, ((((((hB.next E23).next E29).next E37).next D25).next E78).next E89)⟩
                                      (try first | replace Q43 := bn_t Q43 | replace Q43 := bn_f Q43)
                                      (try first | replace Q43 := bx_t Q43 | replace Q43 := bx_f Q43 | replace Q43 := be_t Q43 | replace Q43 := be_f Q43 | replace Q43 := of_decide_eq_true Q43 | replace Q43 := of_decide_eq_false Q43)
                                      first
                                       | (exfalso; first | omega | contradiction | (cases Q43; done))
                                       | skip
                                         refine cd_skip ?_
                                         refine nx_block ?_
                                         refine nx_then ?_
                                         refine cd_region ?_
                                         refine st_val (ro_move (v := .int _ _) rfl) ?_
                                         refine st_val (ro_addN (b := 1) rfl rfl (by omega)) ?_
                                         refine st_val (ro_assign (v := .int _ _) rfl) ?_
                                         refine st_nil ?_
                                         refine nx_cut (k + 1) ⟨(by first | rfl | (refine int_eq ?_; omega)), trivial⟩ (by (iterate 184 refine agr_cons rfl ?_); exact agr_rfl) ⟨?_, ?_⟩
                                         · exact ⟨by omega, ((((((hB.next E23).next E29).next E37).next D25).next E78).next E89)⟩
                                         · show xs.length - (k + 1) < xs.length - k; omega
                            · (try first | replace Q39 := bn_t Q39 | replace Q39 := bn_f Q39)
                              (try first | replace Q39 := bx_t Q39 | replace Q39 := bx_f Q39 | replace Q39 := be_t Q39 | replace Q39 := be_f Q39 | replace Q39 := of_decide_eq_true Q39 | replace Q39 := of_decide_eq_false Q39)
                              first
                               | (exfalso; first | omega | contradiction | (cases Q39; done))
                               | skip
                                 refine st_gno rfl rfl ?_
                                 refine st_gno rfl rfl ?_
                                 refine st_gno rfl rfl ?_
                                 refine st_gno rfl rfl ?_
                                 refine st_unguard rfl ?_
                                 refine st_val (ro_pickF (v := .bool _) rfl rfl) ?_
                                 refine st_val (ro_pickF (v := .bool _) rfl rfl) ?_
                                 refine st_val (ro_move (v := .bool _) rfl) ?_
                                 refine st_unguard rfl ?_
                                 refine st_val (ro_move (v := .slice _ _ _) rfl) ?_
                                 refine st_unguard rfl ?_
                                 refine st_val (ro_move (v := .slice _ _ _) rfl) ?_
                                 refine st_unguard rfl ?_
                                 refine st_val (ro_move (v := .int _ _) rfl) ?_
                                 refine st_unguard rfl ?_
                                 refine st_val (ro_indexAddrN BwtLawB_e22 rfl rfl (by omega)) ?_
                                 refine st_unguard rfl ?_
                                 refine st_val (ro_fieldAddr BwtLawB_f26_0 rfl) ?_
                                 refine st_unguard rfl ?_
                                 refine st_val (ro_load BwtLawB_g24 rfl (by exact cellF ((((hB.next E23).next E29).next E37).next D25) (hask.cells 0 _ rfl))) ?_
                                 refine st_unguard rfl ?_
                                 refine st_call BwtLawB_k13 (eq_same A29 A1 c29 ca L.length L.length L _ (hr29.from_ (E37.next (From.rfl_.next D25))) (hask.rowL.from_ ((((hB.next E23).next E29).next E37).next D25)) rfl rfl (by omega)) ?_
                                 rintro v89 w44 ⟨rfl, E89⟩
                                 refine st_unguard rfl ?_
                                 refine st_val (ro_not rfl) ?_
                                 refine st_val (ro_pickF (v := .bool _) rfl rfl) ?_
                                 refine st_nil ?_
                                 refine nx_then ?_
                                 refine cd_cond rfl (fun Q45 => ?_) (fun Q45 => ?_)
                                 · (try first | replace Q45 := bn_t Q45 | replace Q45 := bn_f Q45)
                                   (try first | replace Q45 := bx_t Q45 | replace Q45 := bx_f Q45 | replace Q45 := be_t Q45 | replace Q45 := be_f Q45 | replace Q45 := of_decide_eq_true Q45 | replace Q45 := of_decide_eq_false Q45)
                                   first
                                    | (exfalso; first | omega | contradiction | (cases Q45; done))
                                    | skip
                                      refine cd_seq ?_
                                      refine cd_region ?_
                                      refine st_val (ro_assign (v := .bool _) rfl) ?_
                                      refine st_nil ?_
                                      refine nx_then ?_
                                      refine cd_ret ?_
                                      refine rt_block ?_
                                      refine rt_then ?_
                                      refine rt_then ?_
                                      refine rt_block ?_
                                      refine rt_then ?_
                                      refine res1 (v := .bool _) rfl rfl ?_
                                      exact ⟨rfl, (((((hB.next E23).next E29).next E37).next D25).next E89)⟩
                                 (try first | replace Q45 := bn_t Q45 | replace Q45 := bn_f Q45)
                                 (try first | replace Q45 := bx_t Q45 | replace Q45 := bx_f Q45 | replace Q45 := be_t Q45 | replace Q45 := be_f Q45 | replace Q45 := of_decide_eq_true Q45 | replace Q45 := of_decide_eq_false Q45)
                                 first
                                  | (exfalso; first | omega | contradiction | (cases Q45; done))
                                  | skip
                                    refine cd_skip ?_
                                    refine nx_block ?_
                                    refine nx_then ?_
                                    refine cd_region ?_
                                    refine st_val (ro_move (v := .int _ _) rfl) ?_
                                    refine st_val (ro_addN (b := 1) rfl rfl (by omega)) ?_
                                    refine st_val (ro_assign (v := .int _ _) rfl) ?_
                                    refine st_nil ?_
                                    refine nx_cut (k + 1) ⟨(by first | rfl | (refine int_eq ?_; omega)), trivial⟩ (by (iterate 183 refine agr_cons rfl ?_); exact agr_rfl) ⟨?_, ?_⟩
                                    · exact ⟨by omega, (((((hB.next E23).next E29).next E37).next D25).next E89)⟩
                                    · show xs.length - (k + 1) < xs.length - k; omega
               · obtain ⟨okv, hokv⟩ : ∃ okv, okv = false := ⟨_, rfl⟩
                 obtain ⟨l9, hl9⟩ : ∃ l9 : List Nat, l9 = [] := ⟨_, rfl⟩
                 rw [← hl9, ← hokv] at hIs
                 refine st_val (ro_move (v := .tuple _) rfl) ?_
                 refine st_val (ro_extract rfl rfl) ?_
                 refine st_val (ro_extract rfl rfl) ?_
                 refine st_val (ro_assign (v := .slice _ _ _) rfl) ?_
                 refine st_val (ro_assign (v := .int _ _) rfl) ?_
                 refine st_nil ?_
                 refine nx_then ?_
                 refine cd_seq ?_
                 apply cd_drawn 16 [(41, eqp _), (42, eqp _), (43, eqp _), (44, eqp _), (45, eqp _), (46, eqp _), (47, eqp _), (48, eqp _), (49, eqp _), (50, eqp _), (51, fun v w' => ∃ A' c', v = .tuple #[.slice A' l9.length c', .bool okv] ∧ RowOf iV w' A' (cI l9)), (40, fun v w' => ∃ A' c', v = .tuple #[.slice A' l9.length c', .bool okv] ∧ RowOf iV w' A' (cI l9)), (52, fun v w' => ∃ A' c', v = .slice A' l9.length c' ∧ RowOf iV w' A' (cI l9)), (53, eqp _), (7, fun v w' => ∃ A' c', v = .slice A' l9.length c' ∧ RowOf iV w' A' (cI l9)), (8, eqp _)] (by kernel_rfl) (by kernel_rfl) ⟨eqp_mono _, eqp_mono _, eqp_mono _, eqp_mono _, eqp_mono _, eqp_mono _, eqp_mono _, eqp_mono _, eqp_mono _, eqp_mono _, (fun _ _ _ hF ⟨A2, c2, h1, h2⟩ => ⟨A2, c2, h1, h2.from_ hF⟩), (fun _ _ _ hF ⟨A2, c2, h1, h2⟩ => ⟨A2, c2, h1, h2.from_ hF⟩), (fun _ _ _ hF ⟨A2, c2, h1, h2⟩ => ⟨A2, c2, h1, h2.from_ hF⟩), eqp_mono _, (fun _ _ _ hF ⟨A2, c2, h1, h2⟩ => ⟨A2, c2, h1, h2.from_ hF⟩), eqp_mono _, trivial⟩
                 case hop =>
                  refine ⟨?_, ?_⟩
                  · intro w47 D47
                    show OpOK _ _ _ _ _ _ _
                    exact ok_pure (ro_move (v := .slice _ _ _) rfl) rfl
                  refine ⟨?_, ?_⟩
                  · intro w48 D48
                    show OpOK _ _ _ _ _ _ _
                    exact ok_pure (ro_move (v := .int _ _) rfl) rfl
                  refine ⟨?_, ?_⟩
                  · intro w49 D49
                    rintro _ rfl _ rfl
                    show OpOK _ _ _ _ _ _ _
                    exact ok_pure (ro_indexAddrN BwtLawB_e22 rfl rfl (by omega)) rfl
                  refine ⟨?_, ?_⟩
                  · intro w50 D50
                    rintro _ rfl
                    show OpOK _ _ _ _ _ _ _
                    exact ok_pure (ro_fieldAddr BwtLawB_f26_1 rfl) rfl
                  refine ⟨?_, ?_⟩
                  · intro w51 D51
                    rintro _ rfl
                    show OpOK _ _ _ _ _ _ _
                    exact ok_pure (ro_load BwtLawB_g3 rfl (by exact cellF ((((hB.next E23).next E29).next E37).next D51) (hask.cells 1 _ rfl))) rfl
                  refine ⟨?_, ?_⟩
                  · intro w52 D52
                    show OpOK _ _ _ _ _ _ _
                    exact ok_pure (ro_move (v := .slice _ _ _) rfl) rfl
                  refine ⟨?_, ?_⟩
                  · intro w53 D53
                    show OpOK _ _ _ _ _ _ _
                    exact ok_pure (ro_move (v := .int _ _) rfl) rfl
                  refine ⟨?_, ?_⟩
                  · intro w54 D54
                    rintro _ rfl _ rfl
                    show OpOK _ _ _ _ _ _ _
                    exact ok_pure (ro_indexAddrN BwtLawB_e22 rfl rfl (by omega)) rfl
                  refine ⟨?_, ?_⟩
                  · intro w55 D55
                    rintro _ rfl
                    show OpOK _ _ _ _ _ _ _
                    exact ok_pure (ro_fieldAddr BwtLawB_f26_0 rfl) rfl
                  refine ⟨?_, ?_⟩
                  · intro w56 D56
                    rintro _ rfl
                    show OpOK _ _ _ _ _ _ _
                    exact ok_pure (ro_load BwtLawB_g24 rfl (by exact cellF ((((hB.next E23).next E29).next E37).next D56) (hask.cells 0 _ rfl))) rfl
                  refine ⟨?_, ?_⟩
                  · intro w57 D57
                    rintro _ rfl _ rfl
                    show OpOK _ _ _ _ _ _ _
                    refine ok_call BwtLawB_k17 ((refBack_is okv l9 x A1 ca L.length L _ (hask.rowL.from_ ((((hB.next E23).next E29).next E37).next D57)) rfl (by omega) hIs).mono ?_)
                    rintro v w2 ⟨⟨A3, c3, rfl, hr3⟩, E⟩
                    exact ⟨E, A3, c3, rfl, hr3⟩
                  refine ⟨?_, ?_⟩
                  · intro w58 D58
                    rintro v58_51 ⟨A51, c51, rfl, hr51⟩
                    show OpOK _ _ _ _ _ _ _
                    exact ok_val (ro_move (v := .tuple _) rfl) From.rfl_ ⟨_, _, rfl, hr51⟩
                  refine ⟨?_, ?_⟩
                  · intro w59 D59
                    rintro v59_40 ⟨A51, c51, rfl, hr51⟩
                    show OpOK _ _ _ _ _ _ _
                    exact ok_val (ro_extract rfl rfl) From.rfl_ ⟨_, _, rfl, hr51⟩
                  refine ⟨?_, ?_⟩
                  · intro w60 D60
                    rintro v60_40 ⟨A51, c51, rfl, hr51⟩
                    show OpOK _ _ _ _ _ _ _
                    exact ok_pure (ro_extract rfl rfl) rfl
                  refine ⟨?_, ?_⟩
                  · intro w61 D61
                    rintro v61_52 ⟨A51, c51, rfl, hr51⟩
                    show OpOK _ _ _ _ _ _ _
                    exact ok_val (ro_assign rfl) From.rfl_ ⟨_, _, rfl, hr51⟩
                  refine ⟨?_, ?_⟩
                  · intro w62 D62
                    rintro _ rfl
                    show OpOK _ _ _ _ _ _ _
                    exact ok_pure (ro_assign (v := .bool _) rfl) rfl
                  exact trivial
                 case hend =>
                  intro w63 D63
                  rintro _ rfl _ rfl _ rfl _ rfl _ rfl _ rfl _ rfl _ rfl _ rfl _ rfl v51 ⟨A51, c51, rfl, hr51⟩ v40 ⟨A51, c51, rfl, hr51⟩ v52 ⟨A51, c51, rfl, hr51⟩ _ rfl v7 ⟨A51, c51, rfl, hr51⟩ _ rfl
                  show St _ _ _ _ _ _ _
                  subst hokv
                  refine st_nil ?_
                  refine nx_then ?_
                  refine cd_seq ?_
                  refine cd_region ?_
                  refine st_val (ro_move (v := .bool _) rfl) ?_
                  refine st_val (ro_move (v := .int _ _) rfl) ?_
                  refine st_call BwtLawB_k11 (num_any _ _) ?_
                  rintro v56 w64 ⟨rfl, rfl⟩
                  refine st_val (ro_eql rfl rfl) ?_
                  refine st_val (ro_neqB (by kernel_rfl) rfl rfl) ?_
                  refine st_val (ro_move (v := .bool _) rfl) ?_
                  refine st_split (t := 59) rfl (fun Q65 => ?_) (fun Q65 => ?_)
                  · (try first | replace Q65 := bn_t Q65 | replace Q65 := bn_f Q65)
                    (try first | replace Q65 := bx_t Q65 | replace Q65 := bx_f Q65 | replace Q65 := be_t Q65 | replace Q65 := be_f Q65 | replace Q65 := of_decide_eq_true Q65 | replace Q65 := of_decide_eq_false Q65)
                    first
                     | (exfalso; first | omega | contradiction | (cases Q65; done))
                     | skip
                       refine st_gno rfl rfl ?_
                       refine st_gno rfl rfl ?_
                       refine st_gno rfl rfl ?_
                       refine st_gund rfl ?_
                       refine st_gund rfl ?_
                       refine st_gund rfl ?_
                       refine st_gund rfl ?_
                       refine st_gund rfl ?_
                       refine st_gund rfl ?_
                       refine st_gund rfl ?_
                       refine st_gund rfl ?_
                       refine st_gno rfl rfl ?_
                       refine st_val (ro_pickT (v := .bool _) rfl rfl) ?_
                       refine st_val (ro_move (v := .bool _) rfl) ?_
                       refine st_gno rfl rfl ?_
                       refine st_gno rfl rfl ?_
                       refine st_gund rfl ?_
                       refine st_gund rfl ?_
                       refine st_gund rfl ?_
                       refine st_gund rfl ?_
                       refine st_gno rfl rfl ?_
                       refine st_val (ro_pickT (v := .bool _) rfl rfl) ?_
                       refine st_val (ro_move (v := .bool _) rfl) ?_
                       refine st_gno rfl rfl ?_
                       refine st_gno rfl rfl ?_
                       refine st_gno rfl rfl ?_
                       refine st_gno rfl rfl ?_
                       refine st_gno rfl rfl ?_
                       refine st_gno rfl rfl ?_
                       refine st_gno rfl rfl ?_
                       refine st_gno rfl rfl ?_
                       refine st_val (ro_pickT (v := .bool _) rfl rfl) ?_
                       refine st_nil ?_
                       refine nx_then ?_
                       refine cd_condT rfl ?_
                       refine cd_seq ?_
                       refine cd_region ?_
                       refine st_val (ro_assign (v := .bool _) rfl) ?_
                       refine st_nil ?_
                       refine nx_then ?_
                       refine cd_ret ?_
                       refine rt_block ?_
                       refine rt_then ?_
                       refine rt_then ?_
                       refine rt_block ?_
                       refine rt_then ?_
                       refine res1 (v := .bool _) rfl rfl ?_
                       exact ⟨rfl, ((((hB.next E23).next E29).next E37).next D63)⟩
                  · (try first | replace Q65 := bn_t Q65 | replace Q65 := bn_f Q65)
                    (try first | replace Q65 := bx_t Q65 | replace Q65 := bx_f Q65 | replace Q65 := be_t Q65 | replace Q65 := be_f Q65 | replace Q65 := of_decide_eq_true Q65 | replace Q65 := of_decide_eq_false Q65)
                    first
                     | (exfalso; first | omega | contradiction | (cases Q65; done))
                     | skip
                       refine st_unguard rfl ?_
                       refine st_val (ro_move (v := .bool _) rfl) ?_
                       refine st_unguard rfl ?_
                       refine st_val (ro_not rfl) ?_
                       refine st_unguard rfl ?_
                       refine st_val (ro_move (v := .bool _) rfl) ?_
                       refine st_split (t := 62) rfl (fun Q66 => ?_) (fun Q66 => ?_)
                       · (try first | replace Q66 := bn_t Q66 | replace Q66 := bn_f Q66)
                         (try first | replace Q66 := bx_t Q66 | replace Q66 := bx_f Q66 | replace Q66 := be_t Q66 | replace Q66 := be_f Q66 | replace Q66 := of_decide_eq_true Q66 | replace Q66 := of_decide_eq_false Q66)
                         first
                          | (exfalso; first | omega | contradiction | (cases Q66; done))
                          | skip
                            refine st_unguard rfl ?_
                            refine st_val (ro_move (v := .int _ _) rfl) ?_
                            refine st_unguard rfl ?_
                            refine st_call BwtLawB_k11 (num_any _ _) ?_
                            rintro v64 w67 ⟨rfl, rfl⟩
                            refine st_unguard rfl ?_
                            refine st_val (ro_neq rfl rfl) ?_
                            refine st_unguard rfl ?_
                            refine st_val (ro_move (v := .bool _) rfl) ?_
                            refine st_split (t := 66) rfl (fun Q68 => ?_) (fun Q68 => ?_)
                            · (try first | replace Q68 := bn_t Q68 | replace Q68 := bn_f Q68)
                              (try first | replace Q68 := bx_t Q68 | replace Q68 := bx_f Q68 | replace Q68 := be_t Q68 | replace Q68 := be_f Q68 | replace Q68 := of_decide_eq_true Q68 | replace Q68 := of_decide_eq_false Q68)
                              first
                               | (exfalso; first | omega | contradiction | (cases Q68; done))
                               | skip
                                 refine st_gno rfl rfl ?_
                                 refine st_gno rfl rfl ?_
                                 refine st_gno rfl rfl ?_
                                 refine st_unguard rfl ?_
                                 refine st_val (ro_pickT (v := .bool _) rfl rfl) ?_
                                 refine st_unguard rfl ?_
                                 refine st_val (ro_pickT (v := .bool _) rfl rfl) ?_
                                 refine st_val (ro_pickF (v := .bool _) rfl rfl) ?_
                                 refine st_val (ro_move (v := .bool _) rfl) ?_
                                 refine st_gno rfl rfl ?_
                                 refine st_gno rfl rfl ?_
                                 refine st_gund rfl ?_
                                 refine st_gund rfl ?_
                                 refine st_gund rfl ?_
                                 refine st_gund rfl ?_
                                 refine st_gno rfl rfl ?_
                                 refine st_val (ro_pickT (v := .bool _) rfl rfl) ?_
                                 refine st_val (ro_move (v := .bool _) rfl) ?_
                                 refine st_gno rfl rfl ?_
                                 refine st_gno rfl rfl ?_
                                 refine st_gno rfl rfl ?_
                                 refine st_gno rfl rfl ?_
                                 refine st_gno rfl rfl ?_
                                 refine st_gno rfl rfl ?_
                                 refine st_gno rfl rfl ?_
                                 refine st_gno rfl rfl ?_
                                 refine st_val (ro_pickT (v := .bool _) rfl rfl) ?_
                                 refine st_nil ?_
                                 refine nx_then ?_
                                 refine cd_condT rfl ?_
                                 refine cd_seq ?_
                                 refine cd_region ?_
                                 refine st_val (ro_assign (v := .bool _) rfl) ?_
                                 refine st_nil ?_
                                 refine nx_then ?_
                                 refine cd_ret ?_
                                 refine rt_block ?_
                                 refine rt_then ?_
                                 refine rt_then ?_
                                 refine rt_block ?_
                                 refine rt_then ?_
                                 refine res1 (v := .bool _) rfl rfl ?_
                                 exact ⟨rfl, ((((hB.next E23).next E29).next E37).next D63)⟩
                            · (try first | replace Q68 := bn_t Q68 | replace Q68 := bn_f Q68)
                              (try first | replace Q68 := bx_t Q68 | replace Q68 := bx_f Q68 | replace Q68 := be_t Q68 | replace Q68 := be_f Q68 | replace Q68 := of_decide_eq_true Q68 | replace Q68 := of_decide_eq_false Q68)
                              first
                               | (exfalso; first | omega | contradiction | (cases Q68; done))
                               | skip
                                 refine st_unguard rfl ?_
                                 refine st_val (ro_move (v := .slice _ _ _) rfl) ?_
                                 refine st_unguard rfl ?_
                                 refine st_val (ro_len BwtLawB_l24 rfl) ?_
                                 refine st_unguard rfl ?_
                                 refine st_val (ro_gtr rfl rfl) ?_
                                 refine st_unguard rfl ?_
                                 refine st_val (ro_pickF (v := .bool _) rfl rfl) ?_
                                 refine st_unguard rfl ?_
                                 refine st_val (ro_pickT (v := .bool _) rfl rfl) ?_
                                 refine st_val (ro_pickF (v := .bool _) rfl rfl) ?_
                                 refine st_val (ro_move (v := .bool _) rfl) ?_
                                 refine st_split (t := 73) rfl (fun Q69 => ?_) (fun Q69 => ?_)
                                 · (try first | replace Q69 := bn_t Q69 | replace Q69 := bn_f Q69)
                                   (try first | replace Q69 := bx_t Q69 | replace Q69 := bx_f Q69 | replace Q69 := be_t Q69 | replace Q69 := be_f Q69 | replace Q69 := of_decide_eq_true Q69 | replace Q69 := of_decide_eq_false Q69)
                                   first
                                    | (exfalso; first | omega | contradiction | (cases Q69; done))
                                    | skip
                                      refine st_gno rfl rfl ?_
                                      refine st_gno rfl rfl ?_
                                      refine st_gund rfl ?_
                                      refine st_gund rfl ?_
                                      refine st_gund rfl ?_
                                      refine st_gund rfl ?_
                                      refine st_gno rfl rfl ?_
                                      refine st_val (ro_pickT (v := .bool _) rfl rfl) ?_
                                      refine st_val (ro_move (v := .bool _) rfl) ?_
                                      refine st_gno rfl rfl ?_
                                      refine st_gno rfl rfl ?_
                                      refine st_gno rfl rfl ?_
                                      refine st_gno rfl rfl ?_
                                      refine st_gno rfl rfl ?_
                                      refine st_gno rfl rfl ?_
                                      refine st_gno rfl rfl ?_
                                      refine st_gno rfl rfl ?_
                                      refine st_val (ro_pickT (v := .bool _) rfl rfl) ?_
                                      refine st_nil ?_
                                      refine nx_then ?_
                                      refine cd_condT rfl ?_
                                      refine cd_seq ?_
                                      refine cd_region ?_
                                      refine st_val (ro_assign (v := .bool _) rfl) ?_
                                      refine st_nil ?_
                                      refine nx_then ?_
                                      refine cd_ret ?_
                                      refine rt_block ?_
                                      refine rt_then ?_
                                      refine rt_then ?_
                                      refine rt_block ?_
                                      refine rt_then ?_
                                      refine res1 (v := .bool _) rfl rfl ?_
                                      exact ⟨rfl, ((((hB.next E23).next E29).next E37).next D63)⟩
                                 · (try first | replace Q69 := bn_t Q69 | replace Q69 := bn_f Q69)
                                   (try first | replace Q69 := bx_t Q69 | replace Q69 := bx_f Q69 | replace Q69 := be_t Q69 | replace Q69 := be_f Q69 | replace Q69 := of_decide_eq_true Q69 | replace Q69 := of_decide_eq_false Q69)
                                   first
                                    | (exfalso; first | omega | contradiction | (cases Q69; done))
                                    | skip
                                      refine st_unguard rfl ?_
                                      refine st_val (ro_move (v := .bool _) rfl) ?_
                                      refine st_unguard rfl ?_
                                      refine st_val (ro_move (v := .bool _) rfl) ?_
                                      refine st_split (t := 75) rfl (fun Q70 => ?_) (fun Q70 => ?_)
                                      · (try first | replace Q70 := bn_t Q70 | replace Q70 := bn_f Q70)
                                        (try first | replace Q70 := bx_t Q70 | replace Q70 := bx_f Q70 | replace Q70 := be_t Q70 | replace Q70 := be_f Q70 | replace Q70 := of_decide_eq_true Q70 | replace Q70 := of_decide_eq_false Q70)
                                        first
                                         | (exfalso; first | omega | contradiction | (cases Q70; done))
                                         | skip
                                           refine st_unguard rfl ?_
                                           refine st_val (ro_move (v := .slice _ _ _) rfl) ?_
                                           refine st_unguard rfl ?_
                                           refine st_val (ro_move (v := .slice _ _ _) rfl) ?_
                                           refine st_unguard rfl ?_
                                           refine st_call BwtLawB_k13 (eq_same A37 A51 c37 c51 l9.length l9.length (cI l9) _ (hr37.from_ (From.rfl_.next D63)) (hr51) (by rw [List.length_map]) (by rw [List.length_map]) (by omega)) ?_
                                           rintro v78 w71 ⟨rfl, E78⟩
                                           refine st_unguard rfl ?_
                                           refine st_val (ro_not rfl) ?_
                                           refine st_unguard rfl ?_
                                           refine st_val (ro_pickT (v := .bool _) rfl rfl) ?_
                                           refine st_val (ro_pickF (v := .bool _) rfl rfl) ?_
                                           refine st_val (ro_move (v := .bool _) rfl) ?_
                                           refine st_split (t := 82) rfl (fun Q72 => ?_) (fun Q72 => ?_)
                                           · (try first | replace Q72 := bn_t Q72 | replace Q72 := bn_f Q72)
                                             (try first | replace Q72 := bx_t Q72 | replace Q72 := bx_f Q72 | replace Q72 := be_t Q72 | replace Q72 := be_f Q72 | replace Q72 := of_decide_eq_true Q72 | replace Q72 := of_decide_eq_false Q72)
                                             first
                                              | (exfalso; first | omega | contradiction | (cases Q72; done))
                                              | skip
                                                refine st_gno rfl rfl ?_
                                                refine st_gno rfl rfl ?_
                                                refine st_gno rfl rfl ?_
                                                refine st_gno rfl rfl ?_
                                                refine st_gno rfl rfl ?_
                                                refine st_gno rfl rfl ?_
                                                refine st_gno rfl rfl ?_
                                                refine st_gno rfl rfl ?_
                                                refine st_val (ro_pickT (v := .bool _) rfl rfl) ?_
                                                refine st_nil ?_
                                                refine nx_then ?_
                                                refine cd_condT rfl ?_
                                                refine cd_seq ?_
                                                refine cd_region ?_
                                                refine st_val (ro_assign (v := .bool _) rfl) ?_
                                                refine st_nil ?_
                                                refine nx_then ?_
                                                refine cd_ret ?_
                                                refine rt_block ?_
                                                refine rt_then ?_
                                                refine rt_then ?_
                                                refine rt_block ?_
                                                refine rt_then ?_
                                                refine res1 (v := .bool _) rfl rfl ?_
                                                exact ⟨rfl, (((((hB.next E23).next E29).next E37).next D63).next E78)⟩
                                           · (try first | replace Q72 := bn_t Q72 | replace Q72 := bn_f Q72)
                                             (try first | replace Q72 := bx_t Q72 | replace Q72 := bx_f Q72 | replace Q72 := be_t Q72 | replace Q72 := be_f Q72 | replace Q72 := of_decide_eq_true Q72 | replace Q72 := of_decide_eq_false Q72)
                                             first
                                              | (exfalso; first | omega | contradiction | (cases Q72; done))
                                              | skip
                                                refine st_unguard rfl ?_
                                                refine st_val (ro_move (v := .slice _ _ _) rfl) ?_
                                                refine st_unguard rfl ?_
                                                refine st_val (ro_move (v := .slice _ _ _) rfl) ?_
                                                refine st_unguard rfl ?_
                                                refine st_val (ro_move (v := .int _ _) rfl) ?_
                                                refine st_unguard rfl ?_
                                                refine st_val (ro_indexAddrN BwtLawB_e22 rfl rfl (by omega)) ?_
                                                refine st_unguard rfl ?_
                                                refine st_val (ro_fieldAddr BwtLawB_f26_0 rfl) ?_
                                                refine st_unguard rfl ?_
                                                refine st_val (ro_load BwtLawB_g24 rfl (by exact cellF (((((hB.next E23).next E29).next E37).next D63).next E78) (hask.cells 0 _ rfl))) ?_
                                                refine st_unguard rfl ?_
                                                refine st_call BwtLawB_k13 (eq_same A29 A1 c29 ca L.length L.length L _ (hr29.from_ (E37.next ((From.rfl_.next D63).next E78))) (hask.rowL.from_ (((((hB.next E23).next E29).next E37).next D63).next E78)) rfl rfl (by omega)) ?_
                                                rintro v89 w73 ⟨rfl, E89⟩
                                                refine st_unguard rfl ?_
                                                refine st_val (ro_not rfl) ?_
                                                refine st_val (ro_pickF (v := .bool _) rfl rfl) ?_
                                                refine st_nil ?_
                                                refine nx_then ?_
                                                refine cd_cond rfl (fun Q74 => ?_) (fun Q74 => ?_)
                                                · (try first | replace Q74 := bn_t Q74 | replace Q74 := bn_f Q74)
                                                  (try first | replace Q74 := bx_t Q74 | replace Q74 := bx_f Q74 | replace Q74 := be_t Q74 | replace Q74 := be_f Q74 | replace Q74 := of_decide_eq_true Q74 | replace Q74 := of_decide_eq_false Q74)
                                                  first
                                                   | (exfalso; first | omega | contradiction | (cases Q74; done))
                                                   | skip
                                                     refine cd_seq ?_
                                                     refine cd_region ?_
                                                     refine st_val (ro_assign (v := .bool _) rfl) ?_
                                                     refine st_nil ?_
                                                     refine nx_then ?_
                                                     refine cd_ret ?_
                                                     refine rt_block ?_
                                                     refine rt_then ?_
                                                     refine rt_then ?_
                                                     refine rt_block ?_
                                                     refine rt_then ?_
                                                     refine res1 (v := .bool _) rfl rfl ?_
                                                     exact ⟨rfl, ((((((hB.next E23).next E29).next E37).next D63).next E78).next E89)⟩
                                                (try first | replace Q74 := bn_t Q74 | replace Q74 := bn_f Q74)
                                                (try first | replace Q74 := bx_t Q74 | replace Q74 := bx_f Q74 | replace Q74 := be_t Q74 | replace Q74 := be_f Q74 | replace Q74 := of_decide_eq_true Q74 | replace Q74 := of_decide_eq_false Q74)
                                                first
                                                 | (exfalso; first | omega | contradiction | (cases Q74; done))
                                                 | skip
                                                   refine cd_skip ?_
                                                   refine nx_block ?_
                                                   refine nx_then ?_
                                                   refine cd_region ?_
                                                   refine st_val (ro_move (v := .int _ _) rfl) ?_
                                                   refine st_val (ro_addN (b := 1) rfl rfl (by omega)) ?_
                                                   refine st_val (ro_assign (v := .int _ _) rfl) ?_
                                                   refine st_nil ?_
                                                   refine nx_cut (k + 1) ⟨(by first | rfl | (refine int_eq ?_; omega)), trivial⟩ (by (iterate 186 refine agr_cons rfl ?_); exact agr_rfl) ⟨?_, ?_⟩
                                                   · exact ⟨by omega, ((((((hB.next E23).next E29).next E37).next D63).next E78).next E89)⟩
                                                   · show xs.length - (k + 1) < xs.length - k; omega
                                      · (try first | replace Q70 := bn_t Q70 | replace Q70 := bn_f Q70)
                                        (try first | replace Q70 := bx_t Q70 | replace Q70 := bx_f Q70 | replace Q70 := be_t Q70 | replace Q70 := be_f Q70 | replace Q70 := of_decide_eq_true Q70 | replace Q70 := of_decide_eq_false Q70)
                                        first
                                         | (exfalso; first | omega | contradiction | (cases Q70; done))
                                         | skip
                                           refine st_gno rfl rfl ?_
                                           refine st_gno rfl rfl ?_
                                           refine st_gno rfl rfl ?_
                                           refine st_gno rfl rfl ?_
                                           refine st_unguard rfl ?_
                                           refine st_val (ro_pickF (v := .bool _) rfl rfl) ?_
                                           refine st_val (ro_pickF (v := .bool _) rfl rfl) ?_
                                           refine st_val (ro_move (v := .bool _) rfl) ?_
                                           refine st_unguard rfl ?_
                                           refine st_val (ro_move (v := .slice _ _ _) rfl) ?_
                                           refine st_unguard rfl ?_
                                           refine st_val (ro_move (v := .slice _ _ _) rfl) ?_
                                           refine st_unguard rfl ?_
                                           refine st_val (ro_move (v := .int _ _) rfl) ?_
                                           refine st_unguard rfl ?_
                                           refine st_val (ro_indexAddrN BwtLawB_e22 rfl rfl (by omega)) ?_
                                           refine st_unguard rfl ?_
                                           refine st_val (ro_fieldAddr BwtLawB_f26_0 rfl) ?_
                                           refine st_unguard rfl ?_
                                           refine st_val (ro_load BwtLawB_g24 rfl (by exact cellF ((((hB.next E23).next E29).next E37).next D63) (hask.cells 0 _ rfl))) ?_
                                           refine st_unguard rfl ?_
                                           refine st_call BwtLawB_k13 (eq_same A29 A1 c29 ca L.length L.length L _ (hr29.from_ (E37.next (From.rfl_.next D63))) (hask.rowL.from_ ((((hB.next E23).next E29).next E37).next D63)) rfl rfl (by omega)) ?_
                                           rintro v89 w75 ⟨rfl, E89⟩
                                           refine st_unguard rfl ?_
                                           refine st_val (ro_not rfl) ?_
                                           refine st_val (ro_pickF (v := .bool _) rfl rfl) ?_
                                           refine st_nil ?_
                                           refine nx_then ?_
                                           refine cd_cond rfl (fun Q76 => ?_) (fun Q76 => ?_)
                                           · (try first | replace Q76 := bn_t Q76 | replace Q76 := bn_f Q76)
                                             (try first | replace Q76 := bx_t Q76 | replace Q76 := bx_f Q76 | replace Q76 := be_t Q76 | replace Q76 := be_f Q76 | replace Q76 := of_decide_eq_true Q76 | replace Q76 := of_decide_eq_false Q76)
                                             first
                                              | (exfalso; first | omega | contradiction | (cases Q76; done))
                                              | skip
                                                refine cd_seq ?_
                                                refine cd_region ?_
                                                refine st_val (ro_assign (v := .bool _) rfl) ?_
                                                refine st_nil ?_
                                                refine nx_then ?_
                                                refine cd_ret ?_
                                                refine rt_block ?_
                                                refine rt_then ?_
                                                refine rt_then ?_
                                                refine rt_block ?_
                                                refine rt_then ?_
                                                refine res1 (v := .bool _) rfl rfl ?_
                                                exact ⟨rfl, (((((hB.next E23).next E29).next E37).next D63).next E89)⟩
                                           (try first | replace Q76 := bn_t Q76 | replace Q76 := bn_f Q76)
                                           (try first | replace Q76 := bx_t Q76 | replace Q76 := bx_f Q76 | replace Q76 := be_t Q76 | replace Q76 := be_f Q76 | replace Q76 := of_decide_eq_true Q76 | replace Q76 := of_decide_eq_false Q76)
                                           first
                                            | (exfalso; first | omega | contradiction | (cases Q76; done))
                                            | skip
                                              refine cd_skip ?_
                                              refine nx_block ?_
                                              refine nx_then ?_
                                              refine cd_region ?_
                                              refine st_val (ro_move (v := .int _ _) rfl) ?_
                                              refine st_val (ro_addN (b := 1) rfl rfl (by omega)) ?_
                                              refine st_val (ro_assign (v := .int _ _) rfl) ?_
                                              refine st_nil ?_
                                              refine nx_cut (k + 1) ⟨(by first | rfl | (refine int_eq ?_; omega)), trivial⟩ (by (iterate 185 refine agr_cons rfl ?_); exact agr_rfl) ⟨?_, ?_⟩
                                              · exact ⟨by omega, (((((hB.next E23).next E29).next E37).next D63).next E89)⟩
                                              · show xs.length - (k + 1) < xs.length - k; omega
                       · (try first | replace Q66 := bn_t Q66 | replace Q66 := bn_f Q66)
                         (try first | replace Q66 := bx_t Q66 | replace Q66 := bx_f Q66 | replace Q66 := be_t Q66 | replace Q66 := be_f Q66 | replace Q66 := of_decide_eq_true Q66 | replace Q66 := of_decide_eq_false Q66)
                         first
                          | (exfalso; first | omega | contradiction | (cases Q66; done))
                          | skip
                            refine st_gno rfl rfl ?_
                            refine st_gno rfl rfl ?_
                            refine st_gno rfl rfl ?_
                            refine st_gno rfl rfl ?_
                            refine st_gund rfl ?_
                            refine st_gund rfl ?_
                            refine st_gund rfl ?_
                            refine st_gno rfl rfl ?_
                            refine st_unguard rfl ?_
                            refine st_val (ro_pickF (v := .bool _) rfl rfl) ?_
                            refine st_val (ro_pickF (v := .bool _) rfl rfl) ?_
                            refine st_val (ro_move (v := .bool _) rfl) ?_
                            refine st_unguard rfl ?_
                            refine st_val (ro_move (v := .bool _) rfl) ?_
                            refine st_unguard rfl ?_
                            refine st_val (ro_move (v := .bool _) rfl) ?_
                            refine st_split (t := 75) rfl (fun Q77 => ?_) (fun Q77 => ?_)
                            · (try first | replace Q77 := bn_t Q77 | replace Q77 := bn_f Q77)
                              (try first | replace Q77 := bx_t Q77 | replace Q77 := bx_f Q77 | replace Q77 := be_t Q77 | replace Q77 := be_f Q77 | replace Q77 := of_decide_eq_true Q77 | replace Q77 := of_decide_eq_false Q77)
                              first
                               | (exfalso; first | omega | contradiction | (cases Q77; done))
                               | skip
                                 refine st_unguard rfl ?_
                                 refine st_val (ro_move (v := .slice _ _ _) rfl) ?_
                                 refine st_unguard rfl ?_
                                 refine st_val (ro_move (v := .slice _ _ _) rfl) ?_
                                 refine st_unguard rfl ?_
                                 refine st_call BwtLawB_k13 (eq_same A37 A51 c37 c51 l9.length l9.length (cI l9) _ (hr37.from_ (From.rfl_.next D63)) (hr51) (by rw [List.length_map]) (by rw [List.length_map]) (by omega)) ?_
                                 rintro v78 w78 ⟨rfl, E78⟩
                                 refine st_unguard rfl ?_
                                 refine st_val (ro_not rfl) ?_
                                 refine st_unguard rfl ?_
                                 refine st_val (ro_pickT (v := .bool _) rfl rfl) ?_
                                 refine st_val (ro_pickF (v := .bool _) rfl rfl) ?_
                                 refine st_val (ro_move (v := .bool _) rfl) ?_
                                 refine st_split (t := 82) rfl (fun Q79 => ?_) (fun Q79 => ?_)
                                 · (try first | replace Q79 := bn_t Q79 | replace Q79 := bn_f Q79)
                                   (try first | replace Q79 := bx_t Q79 | replace Q79 := bx_f Q79 | replace Q79 := be_t Q79 | replace Q79 := be_f Q79 | replace Q79 := of_decide_eq_true Q79 | replace Q79 := of_decide_eq_false Q79)
                                   first
                                    | (exfalso; first | omega | contradiction | (cases Q79; done))
                                    | skip
                                      refine st_gno rfl rfl ?_
                                      refine st_gno rfl rfl ?_
                                      refine st_gno rfl rfl ?_
                                      refine st_gno rfl rfl ?_
                                      refine st_gno rfl rfl ?_
                                      refine st_gno rfl rfl ?_
                                      refine st_gno rfl rfl ?_
                                      refine st_gno rfl rfl ?_
                                      refine st_val (ro_pickT (v := .bool _) rfl rfl) ?_
                                      refine st_nil ?_
                                      refine nx_then ?_
                                      refine cd_condT rfl ?_
                                      refine cd_seq ?_
                                      refine cd_region ?_
                                      refine st_val (ro_assign (v := .bool _) rfl) ?_
                                      refine st_nil ?_
                                      refine nx_then ?_
                                      refine cd_ret ?_
                                      refine rt_block ?_
                                      refine rt_then ?_
                                      refine rt_then ?_
                                      refine rt_block ?_
                                      refine rt_then ?_
                                      refine res1 (v := .bool _) rfl rfl ?_
                                      exact ⟨rfl, (((((hB.next E23).next E29).next E37).next D63).next E78)⟩
                                 · (try first | replace Q79 := bn_t Q79 | replace Q79 := bn_f Q79)
                                   (try first | replace Q79 := bx_t Q79 | replace Q79 := bx_f Q79 | replace Q79 := be_t Q79 | replace Q79 := be_f Q79 | replace Q79 := of_decide_eq_true Q79 | replace Q79 := of_decide_eq_false Q79)
                                   first
                                    | (exfalso; first | omega | contradiction | (cases Q79; done))
                                    | skip
                                      refine st_unguard rfl ?_
                                      refine st_val (ro_move (v := .slice _ _ _) rfl) ?_
                                      refine st_unguard rfl ?_
                                      refine st_val (ro_move (v := .slice _ _ _) rfl) ?_
                                      refine st_unguard rfl ?_
                                      refine st_val (ro_move (v := .int _ _) rfl) ?_
                                      refine st_unguard rfl ?_
                                      refine st_val (ro_indexAddrN BwtLawB_e22 rfl rfl (by omega)) ?_
                                      refine st_unguard rfl ?_
                                      refine st_val (ro_fieldAddr BwtLawB_f26_0 rfl) ?_
                                      refine st_unguard rfl ?_
                                      refine st_val (ro_load BwtLawB_g24 rfl (by exact cellF (((((hB.next E23).next E29).next E37).next D63).next E78) (hask.cells 0 _ rfl))) ?_
                                      refine st_unguard rfl ?_
                                      refine st_call BwtLawB_k13 (eq_same A29 A1 c29 ca L.length L.length L _ (hr29.from_ (E37.next ((From.rfl_.next D63).next E78))) (hask.rowL.from_ (((((hB.next E23).next E29).next E37).next D63).next E78)) rfl rfl (by omega)) ?_
                                      rintro v89 w80 ⟨rfl, E89⟩
                                      refine st_unguard rfl ?_
                                      refine st_val (ro_not rfl) ?_
                                      refine st_val (ro_pickF (v := .bool _) rfl rfl) ?_
                                      refine st_nil ?_
                                      refine nx_then ?_
                                      refine cd_cond rfl (fun Q81 => ?_) (fun Q81 => ?_)
                                      · (try first | replace Q81 := bn_t Q81 | replace Q81 := bn_f Q81)
                                        (try first | replace Q81 := bx_t Q81 | replace Q81 := bx_f Q81 | replace Q81 := be_t Q81 | replace Q81 := be_f Q81 | replace Q81 := of_decide_eq_true Q81 | replace Q81 := of_decide_eq_false Q81)
                                        first
                                         | (exfalso; first | omega | contradiction | (cases Q81; done))
                                         | skip
                                           refine cd_seq ?_
                                           refine cd_region ?_
                                           refine st_val (ro_assign (v := .bool _) rfl) ?_
                                           refine st_nil ?_
                                           refine nx_then ?_
                                           refine cd_ret ?_
                                           refine rt_block ?_
                                           refine rt_then ?_
                                           refine rt_then ?_
                                           refine rt_block ?_
                                           refine rt_then ?_
                                           refine res1 (v := .bool _) rfl rfl ?_
                                           exact ⟨rfl, ((((((hB.next E23).next E29).next E37).next D63).next E78).next E89)⟩
                                      (try first | replace Q81 := bn_t Q81 | replace Q81 := bn_f Q81)
                                      (try first | replace Q81 := bx_t Q81 | replace Q81 := bx_f Q81 | replace Q81 := be_t Q81 | replace Q81 := be_f Q81 | replace Q81 := of_decide_eq_true Q81 | replace Q81 := of_decide_eq_false Q81)
                                      first
                                       | (exfalso; first | omega | contradiction | (cases Q81; done))
                                       | skip
                                         refine cd_skip ?_
                                         refine nx_block ?_
                                         refine nx_then ?_
                                         refine cd_region ?_
                                         refine st_val (ro_move (v := .int _ _) rfl) ?_
                                         refine st_val (ro_addN (b := 1) rfl rfl (by omega)) ?_
                                         refine st_val (ro_assign (v := .int _ _) rfl) ?_
                                         refine st_nil ?_
                                         refine nx_cut (k + 1) ⟨(by first | rfl | (refine int_eq ?_; omega)), trivial⟩ (by (iterate 184 refine agr_cons rfl ?_); exact agr_rfl) ⟨?_, ?_⟩
                                         · exact ⟨by omega, ((((((hB.next E23).next E29).next E37).next D63).next E78).next E89)⟩
                                         · show xs.length - (k + 1) < xs.length - k; omega
                            · (try first | replace Q77 := bn_t Q77 | replace Q77 := bn_f Q77)
                              (try first | replace Q77 := bx_t Q77 | replace Q77 := bx_f Q77 | replace Q77 := be_t Q77 | replace Q77 := be_f Q77 | replace Q77 := of_decide_eq_true Q77 | replace Q77 := of_decide_eq_false Q77)
                              first
                               | (exfalso; first | omega | contradiction | (cases Q77; done))
                               | skip
                                 refine st_gno rfl rfl ?_
                                 refine st_gno rfl rfl ?_
                                 refine st_gno rfl rfl ?_
                                 refine st_gno rfl rfl ?_
                                 refine st_unguard rfl ?_
                                 refine st_val (ro_pickF (v := .bool _) rfl rfl) ?_
                                 refine st_val (ro_pickF (v := .bool _) rfl rfl) ?_
                                 refine st_val (ro_move (v := .bool _) rfl) ?_
                                 refine st_unguard rfl ?_
                                 refine st_val (ro_move (v := .slice _ _ _) rfl) ?_
                                 refine st_unguard rfl ?_
                                 refine st_val (ro_move (v := .slice _ _ _) rfl) ?_
                                 refine st_unguard rfl ?_
                                 refine st_val (ro_move (v := .int _ _) rfl) ?_
                                 refine st_unguard rfl ?_
                                 refine st_val (ro_indexAddrN BwtLawB_e22 rfl rfl (by omega)) ?_
                                 refine st_unguard rfl ?_
                                 refine st_val (ro_fieldAddr BwtLawB_f26_0 rfl) ?_
                                 refine st_unguard rfl ?_
                                 refine st_val (ro_load BwtLawB_g24 rfl (by exact cellF ((((hB.next E23).next E29).next E37).next D63) (hask.cells 0 _ rfl))) ?_
                                 refine st_unguard rfl ?_
                                 refine st_call BwtLawB_k13 (eq_same A29 A1 c29 ca L.length L.length L _ (hr29.from_ (E37.next (From.rfl_.next D63))) (hask.rowL.from_ ((((hB.next E23).next E29).next E37).next D63)) rfl rfl (by omega)) ?_
                                 rintro v89 w82 ⟨rfl, E89⟩
                                 refine st_unguard rfl ?_
                                 refine st_val (ro_not rfl) ?_
                                 refine st_val (ro_pickF (v := .bool _) rfl rfl) ?_
                                 refine st_nil ?_
                                 refine nx_then ?_
                                 refine cd_cond rfl (fun Q83 => ?_) (fun Q83 => ?_)
                                 · (try first | replace Q83 := bn_t Q83 | replace Q83 := bn_f Q83)
                                   (try first | replace Q83 := bx_t Q83 | replace Q83 := bx_f Q83 | replace Q83 := be_t Q83 | replace Q83 := be_f Q83 | replace Q83 := of_decide_eq_true Q83 | replace Q83 := of_decide_eq_false Q83)
                                   first
                                    | (exfalso; first | omega | contradiction | (cases Q83; done))
                                    | skip
                                      refine cd_seq ?_
                                      refine cd_region ?_
                                      refine st_val (ro_assign (v := .bool _) rfl) ?_
                                      refine st_nil ?_
                                      refine nx_then ?_
                                      refine cd_ret ?_
                                      refine rt_block ?_
                                      refine rt_then ?_
                                      refine rt_then ?_
                                      refine rt_block ?_
                                      refine rt_then ?_
                                      refine res1 (v := .bool _) rfl rfl ?_
                                      exact ⟨rfl, (((((hB.next E23).next E29).next E37).next D63).next E89)⟩
                                 (try first | replace Q83 := bn_t Q83 | replace Q83 := bn_f Q83)
                                 (try first | replace Q83 := bx_t Q83 | replace Q83 := bx_f Q83 | replace Q83 := be_t Q83 | replace Q83 := be_f Q83 | replace Q83 := of_decide_eq_true Q83 | replace Q83 := of_decide_eq_false Q83)
                                 first
                                  | (exfalso; first | omega | contradiction | (cases Q83; done))
                                  | skip
                                    refine cd_skip ?_
                                    refine nx_block ?_
                                    refine nx_then ?_
                                    refine cd_region ?_
                                    refine st_val (ro_move (v := .int _ _) rfl) ?_
                                    refine st_val (ro_addN (b := 1) rfl rfl (by omega)) ?_
                                    refine st_val (ro_assign (v := .int _ _) rfl) ?_
                                    refine st_nil ?_
                                    refine nx_cut (k + 1) ⟨(by first | rfl | (refine int_eq ?_; omega)), trivial⟩ (by (iterate 183 refine agr_cons rfl ?_); exact agr_rfl) ⟨?_, ?_⟩
                                    · exact ⟨by omega, (((((hB.next E23).next E29).next E37).next D63).next E89)⟩
                                    · show xs.length - (k + 1) < xs.length - k; omega
       (try first | replace Q3 := bn_t Q3 | replace Q3 := bn_f Q3)
       (try first | replace Q3 := bx_t Q3 | replace Q3 := bx_f Q3 | replace Q3 := be_t Q3 | replace Q3 := be_f Q3 | replace Q3 := of_decide_eq_true Q3 | replace Q3 := of_decide_eq_false Q3)
       first
        | (exfalso; first | omega | contradiction | (cases Q3; done))
        | skip
          refine cd_exit ?_
          refine ex_then ?_
          refine ex_then ?_
          refine ex_block ?_
          refine nx_then ?_
          refine cd_seq ?_
          refine cd_region ?_
          refine st_call BwtLawB_k15 (wakes_rt _) ?_
          rintro v92 w84 ⟨rfl, E92⟩
          refine st_val (ro_assign (v := .bool _) rfl) ?_
          refine st_nil ?_
          refine nx_then ?_
          refine cd_ret ?_
          refine res1 (v := .bool _) rfl rfl ?_
          exact ⟨rfl, (hB.next E92)⟩
  · (try first | replace Q2 := bn_t Q2 | replace Q2 := bn_f Q2)
    (try first | replace Q2 := bx_t Q2 | replace Q2 := bx_f Q2 | replace Q2 := be_t Q2 | replace Q2 := be_f Q2 | replace Q2 := of_decide_eq_true Q2 | replace Q2 := of_decide_eq_false Q2)
    first
     | (exfalso; first | omega | contradiction | (cases Q2; done))
     | skip
       refine st_gno rfl rfl ?_
       refine st_gno rfl rfl ?_
       refine st_val (ro_pickF (v := .bool _) rfl rfl) ?_
       refine st_nil ?_
       refine nx_then ?_
       refine cd_condF rfl ?_
       refine cd_exit ?_
       refine ex_then ?_
       refine ex_then ?_
       refine ex_block ?_
       refine nx_then ?_
       refine cd_seq ?_
       refine cd_region ?_
       refine st_call BwtLawB_k15 (wakes_rt _) ?_
       rintro v92 w85 ⟨rfl, E92⟩
       refine st_val (ro_assign (v := .bool _) rfl) ?_
       refine st_nil ?_
       refine nx_then ?_
       refine cd_ret ?_
       refine res1 (v := .bool _) rfl rfl ?_
       exact ⟨rfl, (hB.next E92)⟩
set_option maxRecDepth 100000 in
theorem BwtBacks_lifted (os : Os) (started : os.Started) (H : Type) (enc : TypeId × Value → H) :
    ReturnsInHanded {} Try.checked os 4 .any (Rows.bwtBacksSpec.pre6 enc Try.prog Try.f4 Rows.bwtBacksRow.domain false) (Rows.bwtBacksSpec.post enc Try.prog Try.f4 false true false false) := by
  refine returnsInHanded_of_change_sized (C := Try.checked) Try.own started (by kernel_rfl) Try.func4
    (ChangeSpec.witness6 (enc := enc) (C := Try.checked) false ⟨#[], #[.slice none 0 0], []⟩ 8 (by kernel_rfl) (by kernel_rfl) (by kernel_rfl) (by kernel_rfl)) ?_
  intro W base args ds gs before hval hW _ hsz _
  exact law_step 4 Try.f4 22 4 Rows.bwtBacksSpec Try.params4 (by kernel_rfl) Try.underlying4 rfl (fun _ => rfl) (by kernel_rfl) (of_decide_eq_true (by kernel_rfl)) (walk_sl askT5 (by kernel_rfl) backs_law) W base args ds gs before hval hW hsz

theorem BwtBacks_holds : Rows.BwtBacksSaid :=
  OpenClaim.holds_of_wide 4 Try.f4 rfl rfl rfl rfl rfl rfl rfl ⟨rfl, rfl, rfl, rfl, rfl⟩ rfl rfl rfl rfl rfl (by kernel_rfl) Try.func4 (by kernel_rfl)
    (of_decide_eq_true (by kernel_rfl)) (by unfold Func.isWrapper; first | (rw [if_pos (by decide +kernel)]; kernel_rfl) | (rw [if_neg (by decide +kernel)]; exact ⟨rfl, rfl⟩))
    (fun os started H enc _ => BwtBacks_lifted os started H enc)
#print axioms BwtBacks_holds

end Go.Proofs.Ytpafbgdbjambgaa
