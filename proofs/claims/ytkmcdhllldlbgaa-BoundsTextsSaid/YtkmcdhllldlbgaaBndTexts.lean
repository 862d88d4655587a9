/- The law BoundsTexts. -/
import Derived.Test.YtkmcdhllldlbgaaBndHelp
namespace Go.Proofs.Ytkmcdhllldlbgaa
open Go.RowKit
open Go.ChangeShapes Go.WideShapes Go.ChangeAt
theorem BndTexts_g24 : aggQ Try.prog 24 = some true := by kernel_rfl
theorem BndTexts_z24 : sizeQ Try.prog 24 = some 2 := by kernel_rfl
theorem BndTexts_k7 : callable Try.prog 7 = true := by kernel_rfl
theorem BndTexts_k8 : callable Try.prog 8 = true := by kernel_rfl
theorem BndTexts_p26 : Try.prog.underlying 26 = some (.pointer (Try.prog.pointee 26)) := by kernel_rfl
theorem BndTexts_k9 : callable Try.prog 9 = true := by kernel_rfl
theorem BndTexts_k10 : callable Try.prog 10 = true := by kernel_rfl
theorem BndTexts_f24_0 : fieldQ Try.prog 24 0 = some 0 := by kernel_rfl
theorem BndTexts_g22 : aggQ Try.prog 22 = some false := by kernel_rfl
theorem BndTexts_l22 : (elemQ Try.prog 22).isSome = true := by kernel_rfl
theorem BndTexts_k11 : callable Try.prog 11 = true := by kernel_rfl
theorem BndTexts_k12 : callable Try.prog 12 = true := by kernel_rfl
theorem BndTexts_k13 : callable Try.prog 13 = true := by kernel_rfl
theorem BndTexts_k14 : callable Try.prog 14 = true := by kernel_rfl
theorem BndTexts_k15 : callable Try.prog 15 = true := by kernel_rfl
theorem BndTexts_e22 : elemQ Try.prog 22 = some (3, 1) := by kernel_rfl
theorem BndTexts_g3 : aggQ Try.prog 3 = some false := by kernel_rfl
set_option maxRecDepth 100000 in
set_option maxHeartbeats 3000000 in
theorem texts_law (A B : Option Addr) (ca cb : Nat) (L is : List Int) (w : World) (hr : RowOf iV w A L) (hb64 : ∀ x ∈ L, -9223372036854775808 ≤ x ∧ x ≤ 9223372036854775807) (hrB : RowOf iV w B is) (hB64 : ∀ x ∈ is, -9223372036854775808 ≤ x ∧ x ≤ 9223372036854775807) :
    Rt Try.prog 3 [.agg #[.slice A L.length ca, .slice B is.length cb]] w (fun v w' => v = .bool true ∧ From w w') := by
  refine enter (n := 111) Try.func3 rfl rfl rfl ?_
  refine cd_seq ?_
  refine cd_region ?_
  refine st_box (v := .agg _) rfl ?_
  intro b1 w1 E1 hb1 hk1
  refine st_val (ro_assign (v := .bool _) rfl) ?_
  refine st_nil ?_
  refine nx_then ?_
  refine cd_seq ?_
  refine cd_seq ?_
  refine cd_region ?_
  refine st_val (ro_loadA (cs := [_, _]) BndTexts_g24 BndTexts_z24 rfl (by first | (first | exact (hP1.from_ From.rfl_).whole | exact (hP1.from_ From.rfl_).rd 0 rfl | exact (hP1.from_ From.rfl_).rd 1 rfl) | (first | exact (hk1.from_ From.rfl_).whole | exact (hk1.from_ From.rfl_).rd 0 rfl | exact (hk1.from_ From.rfl_).rd 1 rfl))) ?_
  refine st_call BndTexts_k7 (heavy_any A B _ ca _ cb _) ?_
  rintro v11 w2 ⟨rfl, E11⟩
  refine st_nil ?_
  refine nx_then ?_
  refine cd_cond rfl (fun Q3 => ?_) (fun Q3 => ?_)
  · (try first | replace Q3 := bn_t Q3 | replace Q3 := bn_f Q3)
    (try first | replace Q3 := bx_t Q3 | replace Q3 := bx_f Q3 | replace Q3 := be_t Q3 | replace Q3 := be_f Q3 | replace Q3 := of_decide_eq_true Q3 | replace Q3 := of_decide_eq_false Q3)
    first
     | (exfalso; first | omega | contradiction | (cases Q3; done))
     | skip
       refine cd_seq ?_
       refine cd_region ?_
       refine st_val (ro_assign (v := .bool _) rfl) ?_
       refine st_nil ?_
       refine nx_then ?_
       refine cd_ret ?_
       refine rt_then ?_
       refine res1 (v := .bool _) rfl rfl ?_
       exact ⟨rfl, ((From.rfl_.next E1).next E11)⟩
  · (try first | replace Q3 := bn_t Q3 | replace Q3 := bn_f Q3)
    (try first | replace Q3 := bx_t Q3 | replace Q3 := bx_f Q3 | replace Q3 := be_t Q3 | replace Q3 := be_f Q3 | replace Q3 := of_decide_eq_true Q3 | replace Q3 := of_decide_eq_false Q3)
    first
     | (exfalso; first | omega | contradiction | (cases Q3; done))
     | skip
       refine cd_skip ?_
       refine nx_then ?_
       refine cd_seq ?_
       refine cd_region ?_
       refine st_val (ro_loadA (cs := [_, _]) BndTexts_g24 BndTexts_z24 rfl (by first | (first | exact (hP1.from_ (From.rfl_.next E11)).whole | exact (hP1.from_ (From.rfl_.next E11)).rd 0 rfl | exact (hP1.from_ (From.rfl_.next E11)).rd 1 rfl) | (first | exact (hk1.from_ (From.rfl_.next E11)).whole | exact (hk1.from_ (From.rfl_.next E11)).rd 0 rfl | exact (hk1.from_ (From.rfl_.next E11)).rd 1 rfl))) ?_
       have hz14 := (((From.rfl_.next E1).next E11)).size
       refine st_call BndTexts_k8 (made_rt A B ca _ cb L _ (hr.from_ ((From.rfl_.next E1).next E11)) hb64 (by omega)) ?_
       rintro v14 w4 ⟨hn14, E14⟩
       replace hk1 := hk1.from_ ((From.rfl_.next E11).next E14)
       rcases hn14 with ⟨hne, rfl⟩ | ⟨hz, b, rfl, hv⟩
       · refine st_val (ro_move (v := .tuple _) rfl) ?_
         refine st_val (ro_extract rfl rfl) ?_
         refine st_val (ro_extract rfl rfl) ?_
         refine st_val (ro_assign (v := .pointer _) rfl) ?_
         refine st_val (ro_assign (v := .int _ _) rfl) ?_
         refine st_nil ?_
         refine nx_then ?_
         refine cd_seq ?_
         refine cd_seq ?_
         refine cd_region ?_
         refine st_val (ro_move (v := .pointer _) rfl) ?_
         refine st_val (ro_eqlNil BndTexts_p26 rfl rfl) ?_
         refine st_nil ?_
         refine nx_then ?_
         refine cd_cond rfl (fun Q5 => ?_) (fun Q5 => ?_)
         · (try first | replace Q5 := bn_t Q5 | replace Q5 := bn_f Q5)
           (try first | replace Q5 := bx_t Q5 | replace Q5 := bx_f Q5 | replace Q5 := be_t Q5 | replace Q5 := be_f Q5 | replace Q5 := of_decide_eq_true Q5 | replace Q5 := of_decide_eq_false Q5)
           first
            | (exfalso; first | omega | contradiction | (cases Q5; done))
            | skip
              refine cd_seq ?_
              refine cd_region ?_
              refine st_val (ro_move (v := .int _ _) rfl) ?_
              refine st_val (ro_neq rfl rfl) ?_
              refine st_val (ro_move (v := .bool _) rfl) ?_
              refine st_split (t := 21) rfl (fun Q6 => ?_) (fun Q6 => ?_)
              · (try first | replace Q6 := bn_t Q6 | replace Q6 := bn_f Q6)
                (try first | replace Q6 := bx_t Q6 | replace Q6 := bx_f Q6 | replace Q6 := be_t Q6 | replace Q6 := be_f Q6 | replace Q6 := of_decide_eq_true Q6 | replace Q6 := of_decide_eq_false Q6)
                first
                 | (exfalso; first | omega | contradiction | (cases Q6; done))
                 | skip
                   refine st_unguard rfl ?_
                   refine st_call BndTexts_k9 (wakes_any _) ?_
                   rintro v22 w7 ⟨rfl, E22⟩
                   refine st_val (ro_pickT (v := .bool _) rfl rfl) ?_
                   refine st_val (ro_assign (v := .bool _) rfl) ?_
                   refine st_nil ?_
                   refine nx_then ?_
                   refine cd_ret ?_
                   refine rt_then ?_
                   refine res1 (v := .bool _) rfl rfl ?_
                   exact ⟨rfl, ((((From.rfl_.next E1).next E11).next E14).next E22)⟩
              · (try first | replace Q6 := bn_t Q6 | replace Q6 := bn_f Q6)
                (try first | replace Q6 := bx_t Q6 | replace Q6 := bx_f Q6 | replace Q6 := be_t Q6 | replace Q6 := be_f Q6 | replace Q6 := of_decide_eq_true Q6 | replace Q6 := of_decide_eq_false Q6)
                first
                 | (exfalso; first | omega | contradiction | (cases Q6; done))
                 | skip
                   refine st_gno rfl rfl ?_
                   refine st_val (ro_pickF (v := .bool _) rfl rfl) ?_
                   refine st_val (ro_assign (v := .bool _) rfl) ?_
                   refine st_nil ?_
                   refine nx_then ?_
                   refine cd_ret ?_
                   refine rt_then ?_
                   refine res1 (v := .bool _) rfl rfl ?_
                   exact ⟨rfl, (((From.rfl_.next E1).next E11).next E14)⟩
         · (try first | replace Q5 := bn_t Q5 | replace Q5 := bn_f Q5)
           (try first | replace Q5 := bx_t Q5 | replace Q5 := bx_f Q5 | replace Q5 := be_t Q5 | replace Q5 := be_f Q5 | replace Q5 := of_decide_eq_true Q5 | replace Q5 := of_decide_eq_false Q5)
           first
            | (exfalso; first | omega | contradiction | (cases Q5; done))
            | skip
              refine cd_skip ?_
              refine nx_then ?_
              refine cd_seq ?_
              refine cd_seq ?_
              have hz0 : (0 : Nat) = 0 := rfl
              · apply cd_drawn 17 [(24, eqp _), (25, eqp _), (26, eqp _), (27, eqp _), (28, eqp _), (29, eqp _), (30, eqp _), (31, eqp _), (32, eqp _), (33, eqp _), (34, eqp _), (35, eqp _), (36, eqp _), (37, eqp _), (38, eqp _), (39, eqp _), (40, eqp _)] (by kernel_rfl) (by kernel_rfl) ⟨eqp_mono _, eqp_mono _, eqp_mono _, eqp_mono _, eqp_mono _, eqp_mono _, eqp_mono _, eqp_mono _, eqp_mono _, eqp_mono _, eqp_mono _, eqp_mono _, eqp_mono _, eqp_mono _, eqp_mono _, eqp_mono _, eqp_mono _, trivial⟩
                case hop =>
                 refine ⟨?_, ?_⟩
                 · intro w9 D9
                   show OpOK _ _ _ _ _ _ _
                   exact ok_pure (ro_move (v := .pointer _) rfl) rfl
                 refine ⟨?_, ?_⟩
                 · intro w10 D10
                   rintro _ rfl
                   show OpOK _ _ _ _ _ _ _
                   refine ok_call BndTexts_k10 ((count_rt _ b L _ (hv.from_ (From.rfl_.next D10))).mono ?_)
                   rintro v _ ⟨rfl, rfl⟩; exact ⟨From.rfl_, rfl⟩
                 refine ⟨?_, ?_⟩
                 · intro w11 D11
                   show OpOK _ _ _ _ _ _ _
                   exact ok_pure (ro_fieldAddr BndTexts_f24_0 rfl) rfl
                 refine ⟨?_, ?_⟩
                 · intro w12 D12
                   rintro _ rfl
                   show OpOK _ _ _ _ _ _ _
                   exact ok_pure (ro_load BndTexts_g22 rfl (by first | (first | exact (hP1.from_ (From.rfl_.next D12)).whole | exact (hP1.from_ (From.rfl_.next D12)).rd 0 rfl | exact (hP1.from_ (From.rfl_.next D12)).rd 1 rfl) | (first | exact (hk1.from_ (From.rfl_.next D12)).whole | exact (hk1.from_ (From.rfl_.next D12)).rd 0 rfl | exact (hk1.from_ (From.rfl_.next D12)).rd 1 rfl))) rfl
                 refine ⟨?_, ?_⟩
                 · intro w13 D13
                   rintro _ rfl
                   show OpOK _ _ _ _ _ _ _
                   exact ok_pure (ro_len BndTexts_l22 rfl) rfl
                 refine ⟨?_, ?_⟩
                 · intro w14 D14
                   rintro _ rfl _ rfl
                   show OpOK _ _ _ _ _ _ _
                   exact ok_pure (ro_bf (ro_neq rfl rfl) (bne_self_eq_false _)) rfl
                 refine ⟨?_, ?_⟩
                 · intro w15 D15
                   rintro _ rfl
                   show OpOK _ _ _ _ _ _ _
                   exact ok_pure (ro_move (v := .bool _) rfl) rfl
                 refine ⟨?_, ?_⟩
                 · intro w16 D16
                   rintro _ rfl
                   show OpOK _ _ _ _ _ _ _
                   exact ok_gpure rfl (ro_move (v := .pointer _) rfl) rfl
                 refine ⟨?_, ?_⟩
                 · intro w17 D17
                   rintro _ rfl _ rfl
                   show OpOK _ _ _ _ _ _ _
                   refine ok_gcall rfl BndTexts_k11 ((all_rt _ b L _ (hv.from_ (From.rfl_.next D17))).mono ?_)
                   rintro v _ ⟨rfl, rfl⟩; exact ⟨From.rfl_, rfl⟩
                 refine ⟨?_, ?_⟩
                 · intro w18 D18
                   rintro _ rfl
                   show OpOK _ _ _ _ _ _ _
                   exact ok_gpure rfl (ro_fieldAddr BndTexts_f24_0 rfl) rfl
                 refine ⟨?_, ?_⟩
                 · intro w19 D19
                   rintro _ rfl _ rfl
                   show OpOK _ _ _ _ _ _ _
                   exact ok_gpure rfl (ro_load BndTexts_g22 rfl (by first | (first | exact (hP1.from_ (From.rfl_.next D19)).whole | exact (hP1.from_ (From.rfl_.next D19)).rd 0 rfl | exact (hP1.from_ (From.rfl_.next D19)).rd 1 rfl) | (first | exact (hk1.from_ (From.rfl_.next D19)).whole | exact (hk1.from_ (From.rfl_.next D19)).rd 0 rfl | exact (hk1.from_ (From.rfl_.next D19)).rd 1 rfl))) rfl
                 refine ⟨?_, ?_⟩
                 · intro w20 D20
                   rintro _ rfl
                   show OpOK _ _ _ _ _ _ _
                   exact ok_gpure rfl (ro_fieldAddr BndTexts_f24_0 rfl) rfl
                 refine ⟨?_, ?_⟩
                 · intro w21 D21
                   rintro _ rfl _ rfl
                   show OpOK _ _ _ _ _ _ _
                   exact ok_gpure rfl (ro_load BndTexts_g22 rfl (by first | (first | exact (hP1.from_ (From.rfl_.next D21)).whole | exact (hP1.from_ (From.rfl_.next D21)).rd 0 rfl | exact (hP1.from_ (From.rfl_.next D21)).rd 1 rfl) | (first | exact (hk1.from_ (From.rfl_.next D21)).whole | exact (hk1.from_ (From.rfl_.next D21)).rd 0 rfl | exact (hk1.from_ (From.rfl_.next D21)).rd 1 rfl))) rfl
                 refine ⟨?_, ?_⟩
                 · intro w22 D22
                   rintro _ rfl _ rfl
                   show OpOK _ _ _ _ _ _ _
                   exact ok_gpure rfl (ro_len BndTexts_l22 rfl) rfl
                 refine ⟨?_, ?_⟩
                 · intro w23 D23
                   rintro _ rfl _ rfl _ rfl
                   show OpOK _ _ _ _ _ _ _
                   refine ok_gcall rfl BndTexts_k12 ((refStart_rt A ca L.length L _ (hr.from_ ((((From.rfl_.next E1).next E11).next E14).next D23)) hG (Nat.le_refl _)).mono ?_)
                   rintro v _ ⟨rfl, rfl⟩; exact ⟨From.rfl_, rfl⟩
                 refine ⟨?_, ?_⟩
                 · intro w24 D24
                   rintro _ rfl _ rfl _ rfl
                   show OpOK _ _ _ _ _ _ _
                   exact ok_gpure rfl (ro_bf (ro_neq rfl rfl) (bne_self_eq_false _)) rfl
                 refine ⟨?_, ?_⟩
                 · intro w25 D25
                   rintro _ rfl _ rfl
                   show OpOK _ _ _ _ _ _ _
                   exact ok_pure (ro_pickF (v := .bool _) rfl rfl) rfl
                 exact trivial
                case hend =>
                 intro w26 D26
                 rintro _ rfl _ rfl _ rfl _ rfl _ rfl _ rfl _ rfl _ rfl _ rfl _ rfl _ rfl _ rfl _ rfl _ rfl _ rfl _ rfl _ rfl
                 show St _ _ _ _ _ _ _
                 refine st_nil ?_
                 refine nx_then ?_
                 refine cd_condF rfl ?_
                 refine cd_skip ?_
                 refine nx_then ?_
                 refine cd_seq ?_
                 refine cd_seq ?_
                 refine cd_region ?_
                 refine st_val (ro_assign (v := .int _ _) rfl) ?_
                 refine st_nil ?_
                 refine nx_then ?_
                 refine cd_block ?_
                 refine cd_loop (G := Int) [2, 6, 7, 8, 9, 41, 42, 43, 44, 45, 46, 47, 48, 49, 50, 51, 52, 53, 54, 55, 56, 57, 58, 59, 60, 61, 62, 63, 64, 65, 66, 67, 68, 69, 70, 71, 72, 73, 74, 75, 76, 77, 78, 79, 80, 81, 82, 83, 84, 85, 86, 87, 88, 89, 90, 91, 92, 93, 94, 95, 96, 97, 98, 99, 100, 101, 102, 103, 104, 105, 106, 107, 108, 109] (fun i => [(5, .int .i64 i)]) (fun i w' => (-1 ≤ i ∧ i ≤ L.length + 1) ∧ BAt w' w.heap.size b L ∧ Blk w' b1 24 #[.slice A L.length ca, .slice B is.length cb] ∧ From w w') (fun i => (L.length + 1 - i).toNat) (-1) ⟨rfl, trivial⟩ ?_ ?_
                 · exact ⟨by omega, hv.from_ (From.rfl_.next D26), hk1.from_ (From.rfl_.next D26), ((((From.rfl_.next E1).next E11).next E14).next D26)⟩
                 rintro i ρ27 w27 ⟨hi, hv, hP1, hB⟩
                 refine cd_seq ?_
                 refine cd_seq ?_
                 refine cd_region ?_
                 refine st_val (ro_move (v := .int _ _) rfl) ?_
                 refine st_val (ro_fieldAddr BndTexts_f24_0 rfl) ?_
                 refine st_val (ro_load BndTexts_g22 rfl (by first | (first | exact (hP1.from_ From.rfl_).whole | exact (hP1.from_ From.rfl_).rd 0 rfl | exact (hP1.from_ From.rfl_).rd 1 rfl) | (first | exact (hk1.from_ From.rfl_).whole | exact (hk1.from_ From.rfl_).rd 0 rfl | exact (hk1.from_ From.rfl_).rd 1 rfl))) ?_
                 refine st_val (ro_len BndTexts_l22 rfl) ?_
                 refine st_val (ro_leq rfl rfl) ?_
                 refine st_nil ?_
                 refine nx_then ?_
                 refine cd_cond rfl (fun Q28 => ?_) (fun Q28 => ?_)
                 · (try first | replace Q28 := bn_t Q28 | replace Q28 := bn_f Q28)
                   (try first | replace Q28 := bx_t Q28 | replace Q28 := bx_f Q28 | replace Q28 := be_t Q28 | replace Q28 := be_f Q28 | replace Q28 := of_decide_eq_true Q28 | replace Q28 := of_decide_eq_false Q28)
                   first
                    | (exfalso; first | omega | contradiction | (cases Q28; done))
                    | skip
                      refine cd_skip ?_
                      refine nx_then ?_
                      refine cd_seq ?_
                      refine cd_block ?_
                      refine cd_seq ?_
                      refine cd_region ?_
                      refine st_val (ro_move (v := .pointer _) rfl) ?_
                      refine st_val (ro_move (v := .int _ _) rfl) ?_
                      refine st_call BndTexts_k13 (starts_rt _ b L _ (hv.from_ From.rfl_) i) ?_
                      rintro v51 w29 ⟨rfl, E51⟩
                      refine st_val (ro_move (v := .tuple _) rfl) ?_
                      refine st_val (ro_extract rfl rfl) ?_
                      refine st_val (ro_extract rfl rfl) ?_
                      refine st_val (ro_assign (v := .int _ _) rfl) ?_
                      refine st_val (ro_assign (v := .int _ _) rfl) ?_
                      refine st_nil ?_
                      refine nx_then ?_
                      refine cd_seq ?_
                      refine cd_region ?_
                      refine st_val (ro_move (v := .pointer _) rfl) ?_
                      refine st_val (ro_move (v := .int _ _) rfl) ?_
                      refine st_call BndTexts_k14 (sizes_rt _ b L _ (hv.from_ (From.rfl_.next E51)) i) ?_
                      rintro v57 w30 ⟨rfl, E57⟩
                      refine st_val (ro_move (v := .tuple _) rfl) ?_
                      refine st_val (ro_extract rfl rfl) ?_
                      refine st_val (ro_extract rfl rfl) ?_
                      refine st_val (ro_assign (v := .int _ _) rfl) ?_
                      refine st_val (ro_assign (v := .int _ _) rfl) ?_
                      refine st_nil ?_
                      refine nx_then ?_
                      refine cd_seq ?_
                      refine cd_seq ?_
                      refine cd_region ?_
                      refine st_val (ro_move (v := .int _ _) rfl) ?_
                      refine st_val (ro_lss rfl rfl) ?_
                      refine st_val (ro_move (v := .bool _) rfl) ?_
                      refine st_split (t := 62) rfl (fun Q31 => ?_) (fun Q31 => ?_)
                      · (try first | replace Q31 := bn_t Q31 | replace Q31 := bn_f Q31)
                        (try first | replace Q31 := bx_t Q31 | replace Q31 := bx_f Q31 | replace Q31 := be_t Q31 | replace Q31 := be_f Q31 | replace Q31 := of_decide_eq_true Q31 | replace Q31 := of_decide_eq_false Q31)
                        have hE3 : sE L i = 3 := by unfold sE; rw [if_neg (by omega)]
                        have hS0 : sV L i = 0 := by unfold sV; rw [if_neg (by omega)]
                        have hN0 : nV L i = 0 := by unfold nV; rw [if_neg (by omega)]
                        first
                         | (exfalso; first | omega | contradiction | (cases Q31; done))
                         | skip
                           refine st_gno rfl rfl ?_
                           refine st_gno rfl rfl ?_
                           refine st_gno rfl rfl ?_
                           refine st_gno rfl rfl ?_
                           refine st_gno rfl rfl ?_
                           refine st_val (ro_pickT (v := .bool _) rfl rfl) ?_
                           refine st_nil ?_
                           refine nx_then ?_
                           refine cd_condT rfl ?_
                           refine cd_seq ?_
                           refine cd_seq ?_
                           refine cd_region ?_
                           refine st_val (ro_move (v := .int _ _) rfl) ?_
                           refine st_call BndTexts_k15 (num_any _ _) ?_
                           rintro v70 w32 ⟨rfl, rfl⟩
                           refine st_val (ro_neq rfl rfl) ?_
                           refine st_val (ro_move (v := .bool _) rfl) ?_
                           refine st_split (t := 72) rfl (fun Q33 => ?_) (fun Q33 => ?_)
                           · (try first | replace Q33 := bn_t Q33 | replace Q33 := bn_f Q33)
                             (try first | replace Q33 := bx_t Q33 | replace Q33 := bx_f Q33 | replace Q33 := be_t Q33 | replace Q33 := be_f Q33 | replace Q33 := of_decide_eq_true Q33 | replace Q33 := of_decide_eq_false Q33)
                             first
                              | (exfalso; first | omega | contradiction | (cases Q33; done))
                              | skip
                                refine st_gno rfl rfl ?_
                                refine st_gno rfl rfl ?_
                                refine st_gno rfl rfl ?_
                                refine st_val (ro_pickT (v := .bool _) rfl rfl) ?_
                                refine st_val (ro_move (v := .bool _) rfl) ?_
                                refine st_gno rfl rfl ?_
                                refine st_gno rfl rfl ?_
                                refine st_val (ro_pickT (v := .bool _) rfl rfl) ?_
                                refine st_val (ro_move (v := .bool _) rfl) ?_
                                refine st_gno rfl rfl ?_
                                refine st_gno rfl rfl ?_
                                refine st_val (ro_pickT (v := .bool _) rfl rfl) ?_
                                refine st_nil ?_
                                refine nx_then ?_
                                refine cd_condT rfl ?_
                                refine cd_seq ?_
                                refine cd_region ?_
                                refine st_val (ro_assign (v := .bool _) rfl) ?_
                                refine st_nil ?_
                                refine nx_then ?_
                                refine cd_ret ?_
                                refine rt_then ?_
                                refine rt_then ?_
                                refine rt_block ?_
                                refine rt_then ?_
                                refine rt_then ?_
                                refine rt_block ?_
                                refine rt_then ?_
                                refine res1 (v := .bool _) rfl rfl ?_
                                exact ⟨rfl, ((hB.next E51).next E57)⟩
                           · (try first | replace Q33 := bn_t Q33 | replace Q33 := bn_f Q33)
                             (try first | replace Q33 := bx_t Q33 | replace Q33 := bx_f Q33 | replace Q33 := be_t Q33 | replace Q33 := be_f Q33 | replace Q33 := of_decide_eq_true Q33 | replace Q33 := of_decide_eq_false Q33)
                             first
                              | (exfalso; first | omega | contradiction | (cases Q33; done))
                              | skip
                                refine st_unguard rfl ?_
                                refine st_val (ro_move (v := .int _ _) rfl) ?_
                                refine st_unguard rfl ?_
                                refine st_call BndTexts_k15 (num_any _ _) ?_
                                rintro v74 w34 ⟨rfl, rfl⟩
                                refine st_unguard rfl ?_
                                refine st_val (ro_neq rfl rfl) ?_
                                refine st_val (ro_pickF (v := .bool _) rfl rfl) ?_
                                refine st_val (ro_move (v := .bool _) rfl) ?_
                                refine st_split (t := 77) rfl (fun Q35 => ?_) (fun Q35 => ?_)
                                · (try first | replace Q35 := bn_t Q35 | replace Q35 := bn_f Q35)
                                  (try first | replace Q35 := bx_t Q35 | replace Q35 := bx_f Q35 | replace Q35 := be_t Q35 | replace Q35 := be_f Q35 | replace Q35 := of_decide_eq_true Q35 | replace Q35 := of_decide_eq_false Q35)
                                  first
                                   | (exfalso; first | omega | contradiction | (cases Q35; done))
                                   | skip
                                     refine st_gno rfl rfl ?_
                                     refine st_gno rfl rfl ?_
                                     refine st_val (ro_pickT (v := .bool _) rfl rfl) ?_
                                     refine st_val (ro_move (v := .bool _) rfl) ?_
                                     refine st_gno rfl rfl ?_
                                     refine st_gno rfl rfl ?_
                                     refine st_val (ro_pickT (v := .bool _) rfl rfl) ?_
                                     refine st_nil ?_
                                     refine nx_then ?_
                                     refine cd_condT rfl ?_
                                     refine cd_seq ?_
                                     refine cd_region ?_
                                     refine st_val (ro_assign (v := .bool _) rfl) ?_
                                     refine st_nil ?_
                                     refine nx_then ?_
                                     refine cd_ret ?_
                                     refine rt_then ?_
                                     refine rt_then ?_
                                     refine rt_block ?_
                                     refine rt_then ?_
                                     refine rt_then ?_
                                     refine rt_block ?_
                                     refine rt_then ?_
                                     refine res1 (v := .bool _) rfl rfl ?_
                                     exact ⟨rfl, ((hB.next E51).next E57)⟩
                                · (try first | replace Q35 := bn_t Q35 | replace Q35 := bn_f Q35)
                                  (try first | replace Q35 := bx_t Q35 | replace Q35 := bx_f Q35 | replace Q35 := be_t Q35 | replace Q35 := be_f Q35 | replace Q35 := of_decide_eq_true Q35 | replace Q35 := of_decide_eq_false Q35)
                                  first
                                   | (exfalso; first | omega | contradiction | (cases Q35; done))
                                   | skip
                                     refine st_unguard rfl ?_
                                     refine st_val (ro_move (v := .int _ _) rfl) ?_
                                     refine st_unguard rfl ?_
                                     refine st_val (ro_neq rfl rfl) ?_
                                     refine st_val (ro_pickF (v := .bool _) rfl rfl) ?_
                                     refine st_val (ro_move (v := .bool _) rfl) ?_
                                     refine st_split (t := 81) rfl (fun Q36 => ?_) (fun Q36 => ?_)
                                     · (try first | replace Q36 := bn_t Q36 | replace Q36 := bn_f Q36)
                                       (try first | replace Q36 := bx_t Q36 | replace Q36 := bx_f Q36 | replace Q36 := be_t Q36 | replace Q36 := be_f Q36 | replace Q36 := of_decide_eq_true Q36 | replace Q36 := of_decide_eq_false Q36)
                                       first
                                        | (exfalso; first | omega | contradiction | (cases Q36; done))
                                        | skip
                                          refine st_gno rfl rfl ?_
                                          refine st_gno rfl rfl ?_
                                          refine st_val (ro_pickT (v := .bool _) rfl rfl) ?_
                                          refine st_nil ?_
                                          refine nx_then ?_
                                          refine cd_condT rfl ?_
                                          refine cd_seq ?_
                                          refine cd_region ?_
                                          refine st_val (ro_assign (v := .bool _) rfl) ?_
                                          refine st_nil ?_
                                          refine nx_then ?_
                                          refine cd_ret ?_
                                          refine rt_then ?_
                                          refine rt_then ?_
                                          refine rt_block ?_
                                          refine rt_then ?_
                                          refine rt_then ?_
                                          refine rt_block ?_
                                          refine rt_then ?_
                                          refine res1 (v := .bool _) rfl rfl ?_
                                          exact ⟨rfl, ((hB.next E51).next E57)⟩
                                     · (try first | replace Q36 := bn_t Q36 | replace Q36 := bn_f Q36)
                                       (try first | replace Q36 := bx_t Q36 | replace Q36 := bx_f Q36 | replace Q36 := be_t Q36 | replace Q36 := be_f Q36 | replace Q36 := of_decide_eq_true Q36 | replace Q36 := of_decide_eq_false Q36)
                                       first
                                        | (exfalso; first | omega | contradiction | (cases Q36; done))
                                        | skip
                                          refine st_unguard rfl ?_
                                          refine st_val (ro_move (v := .int _ _) rfl) ?_
                                          refine st_unguard rfl ?_
                                          refine st_val (ro_neq rfl rfl) ?_
                                          refine st_val (ro_pickF (v := .bool _) rfl rfl) ?_
                                          refine st_nil ?_
                                          refine nx_then ?_
                                          refine cd_cond rfl (fun Q37 => ?_) (fun Q37 => ?_)
                                          · (try first | replace Q37 := bn_t Q37 | replace Q37 := bn_f Q37)
                                            (try first | replace Q37 := bx_t Q37 | replace Q37 := bx_f Q37 | replace Q37 := be_t Q37 | replace Q37 := be_f Q37 | replace Q37 := of_decide_eq_true Q37 | replace Q37 := of_decide_eq_false Q37)
                                            first
                                             | (exfalso; first | omega | contradiction | (cases Q37; done))
                                             | skip
                                               refine cd_seq ?_
                                               refine cd_region ?_
                                               refine st_val (ro_assign (v := .bool _) rfl) ?_
                                               refine st_nil ?_
                                               refine nx_then ?_
                                               refine cd_ret ?_
                                               refine rt_then ?_
                                               refine rt_then ?_
                                               refine rt_block ?_
                                               refine rt_then ?_
                                               refine rt_then ?_
                                               refine rt_block ?_
                                               refine rt_then ?_
                                               refine res1 (v := .bool _) rfl rfl ?_
                                               exact ⟨rfl, ((hB.next E51).next E57)⟩
                                          · (try first | replace Q37 := bn_t Q37 | replace Q37 := bn_f Q37)
                                            (try first | replace Q37 := bx_t Q37 | replace Q37 := bx_f Q37 | replace Q37 := be_t Q37 | replace Q37 := be_f Q37 | replace Q37 := of_decide_eq_true Q37 | replace Q37 := of_decide_eq_false Q37)
                                            first
                                             | (exfalso; first | omega | contradiction | (cases Q37; done))
                                             | skip
                                               refine cd_skip ?_
                                               refine nx_then ?_
                                               refine cd_exit ?_
                                               refine ex_then ?_
                                               refine ex_block ?_
                                               refine nx_then ?_
                                               refine cd_region ?_
                                               refine st_val (ro_move (v := .int _ _) rfl) ?_
                                               refine st_val (ro_add64 rfl rfl (by omega)) ?_
                                               refine st_val (ro_assign (v := .int _ _) rfl) ?_
                                               refine st_nil ?_
                                               refine nx_cut (i + 1) ⟨(by first | rfl | (refine int_eq ?_; omega)), trivial⟩ (by (iterate 128 refine agr_cons rfl ?_); exact agr_rfl) ⟨?_, ?_⟩
                                               · exact ⟨by omega, hv.from_ ((From.rfl_.next E51).next E57), hP1.from_ ((From.rfl_.next E51).next E57), ((hB.next E51).next E57)⟩
                                               · omega
                      · (try first | replace Q31 := bn_t Q31 | replace Q31 := bn_f Q31)
                        (try first | replace Q31 := bx_t Q31 | replace Q31 := bx_f Q31 | replace Q31 := be_t Q31 | replace Q31 := be_f Q31 | replace Q31 := of_decide_eq_true Q31 | replace Q31 := of_decide_eq_false Q31)
                        first
                         | (exfalso; first | omega | contradiction | (cases Q31; done))
                         | skip
                           refine st_unguard rfl ?_
                           refine st_val (ro_move (v := .int _ _) rfl) ?_
                           refine st_unguard rfl ?_
                           refine st_val (ro_fieldAddr BndTexts_f24_0 rfl) ?_
                           refine st_unguard rfl ?_
                           refine st_val (ro_load BndTexts_g22 rfl (by first | (first | exact (hP1.from_ ((From.rfl_.next E51).next E57)).whole | exact (hP1.from_ ((From.rfl_.next E51).next E57)).rd 0 rfl | exact (hP1.from_ ((From.rfl_.next E51).next E57)).rd 1 rfl) | (first | exact (hk1.from_ ((From.rfl_.next E51).next E57)).whole | exact (hk1.from_ ((From.rfl_.next E51).next E57)).rd 0 rfl | exact (hk1.from_ ((From.rfl_.next E51).next E57)).rd 1 rfl))) ?_
                           refine st_unguard rfl ?_
                           refine st_val (ro_len BndTexts_l22 rfl) ?_
                           refine st_unguard rfl ?_
                           refine st_val (ro_eql rfl rfl) ?_
                           refine st_val (ro_pickF (v := .bool _) rfl rfl) ?_
                           refine st_nil ?_
                           refine nx_then ?_
                           refine cd_cond rfl (fun Q38 => ?_) (fun Q38 => ?_)
                           · (try first | replace Q38 := bn_t Q38 | replace Q38 := bn_f Q38)
                             (try first | replace Q38 := bx_t Q38 | replace Q38 := bx_f Q38 | replace Q38 := be_t Q38 | replace Q38 := be_f Q38 | replace Q38 := of_decide_eq_true Q38 | replace Q38 := of_decide_eq_false Q38)
                             have hE3 : sE L i = 3 := by unfold sE; rw [if_neg (by omega)]
                             have hS0 : sV L i = 0 := by unfold sV; rw [if_neg (by omega)]
                             have hN0 : nV L i = 0 := by unfold nV; rw [if_neg (by omega)]
                             first
                              | (exfalso; first | omega | contradiction | (cases Q38; done))
                              | skip
                                refine cd_seq ?_
                                refine cd_seq ?_
                                refine cd_region ?_
                                refine st_val (ro_move (v := .int _ _) rfl) ?_
                                refine st_call BndTexts_k15 (num_any _ _) ?_
                                rintro v70 w39 ⟨rfl, rfl⟩
                                refine st_val (ro_neq rfl rfl) ?_
                                refine st_val (ro_move (v := .bool _) rfl) ?_
                                refine st_split (t := 72) rfl (fun Q40 => ?_) (fun Q40 => ?_)
                                · (try first | replace Q40 := bn_t Q40 | replace Q40 := bn_f Q40)
                                  (try first | replace Q40 := bx_t Q40 | replace Q40 := bx_f Q40 | replace Q40 := be_t Q40 | replace Q40 := be_f Q40 | replace Q40 := of_decide_eq_true Q40 | replace Q40 := of_decide_eq_false Q40)
                                  first
                                   | (exfalso; first | omega | contradiction | (cases Q40; done))
                                   | skip
                                     refine st_gno rfl rfl ?_
                                     refine st_gno rfl rfl ?_
                                     refine st_gno rfl rfl ?_
                                     refine st_val (ro_pickT (v := .bool _) rfl rfl) ?_
                                     refine st_val (ro_move (v := .bool _) rfl) ?_
                                     refine st_gno rfl rfl ?_
                                     refine st_gno rfl rfl ?_
                                     refine st_val (ro_pickT (v := .bool _) rfl rfl) ?_
                                     refine st_val (ro_move (v := .bool _) rfl) ?_
                                     refine st_gno rfl rfl ?_
                                     refine st_gno rfl rfl ?_
                                     refine st_val (ro_pickT (v := .bool _) rfl rfl) ?_
                                     refine st_nil ?_
                                     refine nx_then ?_
                                     refine cd_condT rfl ?_
                                     refine cd_seq ?_
                                     refine cd_region ?_
                                     refine st_val (ro_assign (v := .bool _) rfl) ?_
                                     refine st_nil ?_
                                     refine nx_then ?_
                                     refine cd_ret ?_
                                     refine rt_then ?_
                                     refine rt_then ?_
                                     refine rt_block ?_
                                     refine rt_then ?_
                                     refine rt_then ?_
                                     refine rt_block ?_
                                     refine rt_then ?_
                                     refine res1 (v := .bool _) rfl rfl ?_
                                     exact ⟨rfl, ((hB.next E51).next E57)⟩
                                · (try first | replace Q40 := bn_t Q40 | replace Q40 := bn_f Q40)
                                  (try first | replace Q40 := bx_t Q40 | replace Q40 := bx_f Q40 | replace Q40 := be_t Q40 | replace Q40 := be_f Q40 | replace Q40 := of_decide_eq_true Q40 | replace Q40 := of_decide_eq_false Q40)
                                  first
                                   | (exfalso; first | omega | contradiction | (cases Q40; done))
                                   | skip
                                     refine st_unguard rfl ?_
                                     refine st_val (ro_move (v := .int _ _) rfl) ?_
                                     refine st_unguard rfl ?_
                                     refine st_call BndTexts_k15 (num_any _ _) ?_
                                     rintro v74 w41 ⟨rfl, rfl⟩
                                     refine st_unguard rfl ?_
                                     refine st_val (ro_neq rfl rfl) ?_
                                     refine st_val (ro_pickF (v := .bool _) rfl rfl) ?_
                                     refine st_val (ro_move (v := .bool _) rfl) ?_
                                     refine st_split (t := 77) rfl (fun Q42 => ?_) (fun Q42 => ?_)
                                     · (try first | replace Q42 := bn_t Q42 | replace Q42 := bn_f Q42)
                                       (try first | replace Q42 := bx_t Q42 | replace Q42 := bx_f Q42 | replace Q42 := be_t Q42 | replace Q42 := be_f Q42 | replace Q42 := of_decide_eq_true Q42 | replace Q42 := of_decide_eq_false Q42)
                                       first
                                        | (exfalso; first | omega | contradiction | (cases Q42; done))
                                        | skip
                                          refine st_gno rfl rfl ?_
                                          refine st_gno rfl rfl ?_
                                          refine st_val (ro_pickT (v := .bool _) rfl rfl) ?_
                                          refine st_val (ro_move (v := .bool _) rfl) ?_
                                          refine st_gno rfl rfl ?_
                                          refine st_gno rfl rfl ?_
                                          refine st_val (ro_pickT (v := .bool _) rfl rfl) ?_
                                          refine st_nil ?_
                                          refine nx_then ?_
                                          refine cd_condT rfl ?_
                                          refine cd_seq ?_
                                          refine cd_region ?_
                                          refine st_val (ro_assign (v := .bool _) rfl) ?_
                                          refine st_nil ?_
                                          refine nx_then ?_
                                          refine cd_ret ?_
                                          refine rt_then ?_
                                          refine rt_then ?_
                                          refine rt_block ?_
                                          refine rt_then ?_
                                          refine rt_then ?_
                                          refine rt_block ?_
                                          refine rt_then ?_
                                          refine res1 (v := .bool _) rfl rfl ?_
                                          exact ⟨rfl, ((hB.next E51).next E57)⟩
                                     · (try first | replace Q42 := bn_t Q42 | replace Q42 := bn_f Q42)
                                       (try first | replace Q42 := bx_t Q42 | replace Q42 := bx_f Q42 | replace Q42 := be_t Q42 | replace Q42 := be_f Q42 | replace Q42 := of_decide_eq_true Q42 | replace Q42 := of_decide_eq_false Q42)
                                       first
                                        | (exfalso; first | omega | contradiction | (cases Q42; done))
                                        | skip
                                          refine st_unguard rfl ?_
                                          refine st_val (ro_move (v := .int _ _) rfl) ?_
                                          refine st_unguard rfl ?_
                                          refine st_val (ro_neq rfl rfl) ?_
                                          refine st_val (ro_pickF (v := .bool _) rfl rfl) ?_
                                          refine st_val (ro_move (v := .bool _) rfl) ?_
                                          refine st_split (t := 81) rfl (fun Q43 => ?_) (fun Q43 => ?_)
                                          · (try first | replace Q43 := bn_t Q43 | replace Q43 := bn_f Q43)
                                            (try first | replace Q43 := bx_t Q43 | replace Q43 := bx_f Q43 | replace Q43 := be_t Q43 | replace Q43 := be_f Q43 | replace Q43 := of_decide_eq_true Q43 | replace Q43 := of_decide_eq_false Q43)
                                            first
                                             | (exfalso; first | omega | contradiction | (cases Q43; done))
                                             | skip
                                               refine st_gno rfl rfl ?_
                                               refine st_gno rfl rfl ?_
                                               refine st_val (ro_pickT (v := .bool _) rfl rfl) ?_
                                               refine st_nil ?_
                                               refine nx_then ?_
                                               refine cd_condT rfl ?_
                                               refine cd_seq ?_
                                               refine cd_region ?_
                                               refine st_val (ro_assign (v := .bool _) rfl) ?_
                                               refine st_nil ?_
                                               refine nx_then ?_
                                               refine cd_ret ?_
                                               refine rt_then ?_
                                               refine rt_then ?_
                                               refine rt_block ?_
                                               refine rt_then ?_
                                               refine rt_then ?_
                                               refine rt_block ?_
                                               refine rt_then ?_
                                               refine res1 (v := .bool _) rfl rfl ?_
                                               exact ⟨rfl, ((hB.next E51).next E57)⟩
                                          · (try first | replace Q43 := bn_t Q43 | replace Q43 := bn_f Q43)
                                            (try first | replace Q43 := bx_t Q43 | replace Q43 := bx_f Q43 | replace Q43 := be_t Q43 | replace Q43 := be_f Q43 | replace Q43 := of_decide_eq_true Q43 | replace Q43 := of_decide_eq_false Q43)
                                            first
                                             | (exfalso; first | omega | contradiction | (cases Q43; done))
                                             | skip
                                               refine st_unguard rfl ?_
                                               refine st_val (ro_move (v := .int _ _) rfl) ?_
                                               refine st_unguard rfl ?_
                                               refine st_val (ro_neq rfl rfl) ?_
                                               refine st_val (ro_pickF (v := .bool _) rfl rfl) ?_
                                               refine st_nil ?_
                                               refine nx_then ?_
                                               refine cd_cond rfl (fun Q44 => ?_) (fun Q44 => ?_)
                                               · (try first | replace Q44 := bn_t Q44 | replace Q44 := bn_f Q44)
                                                 (try first | replace Q44 := bx_t Q44 | replace Q44 := bx_f Q44 | replace Q44 := be_t Q44 | replace Q44 := be_f Q44 | replace Q44 := of_decide_eq_true Q44 | replace Q44 := of_decide_eq_false Q44)
                                                 first
                                                  | (exfalso; first | omega | contradiction | (cases Q44; done))
                                                  | skip
                                                    refine cd_seq ?_
                                                    refine cd_region ?_
                                                    refine st_val (ro_assign (v := .bool _) rfl) ?_
                                                    refine st_nil ?_
                                                    refine nx_then ?_
                                                    refine cd_ret ?_
                                                    refine rt_then ?_
                                                    refine rt_then ?_
                                                    refine rt_block ?_
                                                    refine rt_then ?_
                                                    refine rt_then ?_
                                                    refine rt_block ?_
                                                    refine rt_then ?_
                                                    refine res1 (v := .bool _) rfl rfl ?_
                                                    exact ⟨rfl, ((hB.next E51).next E57)⟩
                                               · (try first | replace Q44 := bn_t Q44 | replace Q44 := bn_f Q44)
                                                 (try first | replace Q44 := bx_t Q44 | replace Q44 := bx_f Q44 | replace Q44 := be_t Q44 | replace Q44 := be_f Q44 | replace Q44 := of_decide_eq_true Q44 | replace Q44 := of_decide_eq_false Q44)
                                                 first
                                                  | (exfalso; first | omega | contradiction | (cases Q44; done))
                                                  | skip
                                                    refine cd_skip ?_
                                                    refine nx_then ?_
                                                    refine cd_exit ?_
                                                    refine ex_then ?_
                                                    refine ex_block ?_
                                                    refine nx_then ?_
                                                    refine cd_region ?_
                                                    refine st_val (ro_move (v := .int _ _) rfl) ?_
                                                    refine st_val (ro_add64 rfl rfl (by omega)) ?_
                                                    refine st_val (ro_assign (v := .int _ _) rfl) ?_
                                                    refine st_nil ?_
                                                    refine nx_cut (i + 1) ⟨(by first | rfl | (refine int_eq ?_; omega)), trivial⟩ (by (iterate 128 refine agr_cons rfl ?_); exact agr_rfl) ⟨?_, ?_⟩
                                                    · exact ⟨by omega, hv.from_ ((From.rfl_.next E51).next E57), hP1.from_ ((From.rfl_.next E51).next E57), ((hB.next E51).next E57)⟩
                                                    · omega
                           · (try first | replace Q38 := bn_t Q38 | replace Q38 := bn_f Q38)
                             (try first | replace Q38 := bx_t Q38 | replace Q38 := bx_f Q38 | replace Q38 := be_t Q38 | replace Q38 := be_f Q38 | replace Q38 := of_decide_eq_true Q38 | replace Q38 := of_decide_eq_false Q38)
                             obtain ⟨q, hq⟩ : ∃ q : Nat, i = (q : Int) := ⟨i.toNat, by omega⟩
                             have hE0 : sE L i = 0 := by unfold sE; rw [if_pos (by omega)]
                             have hSq : sV L i = st L q := by unfold sV; rw [if_pos (by omega), show i.toNat = q by omega]
                             have hNq : nV L i = L[q] := by
                               unfold nV
                               rw [if_pos (by omega), show i.toNat = q by omega, List.getD_eq_getElem?_getD, List.getElem?_eq_getElem (by omega)]
                               rfl
                             obtain ⟨ba, oa, rfl, hca⟩ := hr (by omega)
                             first
                              | (exfalso; first | omega | contradiction | (cases Q38; done))
                              | skip
                                refine cd_skip ?_
                                refine nx_then ?_
                                refine cd_seq ?_
                                refine cd_region ?_
                                refine st_val (ro_move (v := .int _ _) rfl) ?_
                                refine st_call BndTexts_k15 (num_any _ _) ?_
                                rintro v86 w45 ⟨rfl, rfl⟩
                                refine st_val (ro_neq rfl rfl) ?_
                                refine st_val (ro_move (v := .bool _) rfl) ?_
                                refine st_split (t := 88) rfl (fun Q46 => ?_) (fun Q46 => ?_)
                                · (try first | replace Q46 := bn_t Q46 | replace Q46 := bn_f Q46)
                                  (try first | replace Q46 := bx_t Q46 | replace Q46 := bx_f Q46 | replace Q46 := be_t Q46 | replace Q46 := be_f Q46 | replace Q46 := of_decide_eq_true Q46 | replace Q46 := of_decide_eq_false Q46)
                                  first
                                   | (exfalso; first | omega | contradiction | (cases Q46; done))
                                   | skip
                                     refine st_gno rfl rfl ?_
                                     refine st_gno rfl rfl ?_
                                     refine st_gno rfl rfl ?_
                                     refine st_val (ro_pickT (v := .bool _) rfl rfl) ?_
                                     refine st_val (ro_move (v := .bool _) rfl) ?_
                                     refine st_gno rfl rfl ?_
                                     refine st_gno rfl rfl ?_
                                     refine st_gno rfl rfl ?_
                                     refine st_gno rfl rfl ?_
                                     refine st_gno rfl rfl ?_
                                     refine st_gno rfl rfl ?_
                                     refine st_val (ro_pickT (v := .bool _) rfl rfl) ?_
                                     refine st_val (ro_move (v := .bool _) rfl) ?_
                                     refine st_gno rfl rfl ?_
                                     refine st_gno rfl rfl ?_
                                     refine st_gno rfl rfl ?_
                                     refine st_gno rfl rfl ?_
                                     refine st_gno rfl rfl ?_
                                     refine st_gno rfl rfl ?_
                                     refine st_gno rfl rfl ?_
                                     refine st_val (ro_pickT (v := .bool _) rfl rfl) ?_
                                     refine st_nil ?_
                                     refine nx_then ?_
                                     refine cd_condT rfl ?_
                                     refine cd_seq ?_
                                     refine cd_region ?_
                                     refine st_val (ro_assign (v := .bool _) rfl) ?_
                                     refine st_nil ?_
                                     refine nx_then ?_
                                     refine cd_ret ?_
                                     refine rt_block ?_
                                     refine rt_then ?_
                                     refine rt_then ?_
                                     refine rt_block ?_
                                     refine rt_then ?_
                                     refine res1 (v := .bool _) rfl rfl ?_
                                     exact ⟨rfl, ((hB.next E51).next E57)⟩
                                · (try first | replace Q46 := bn_t Q46 | replace Q46 := bn_f Q46)
                                  (try first | replace Q46 := bx_t Q46 | replace Q46 := bx_f Q46 | replace Q46 := be_t Q46 | replace Q46 := be_f Q46 | replace Q46 := of_decide_eq_true Q46 | replace Q46 := of_decide_eq_false Q46)
                                  first
                                   | (exfalso; first | omega | contradiction | (cases Q46; done))
                                   | skip
                                     refine st_unguard rfl ?_
                                     refine st_val (ro_move (v := .int _ _) rfl) ?_
                                     refine st_unguard rfl ?_
                                     refine st_call BndTexts_k15 (num_any _ _) ?_
                                     rintro v90 w47 ⟨rfl, rfl⟩
                                     refine st_unguard rfl ?_
                                     refine st_val (ro_neq rfl rfl) ?_
                                     refine st_val (ro_pickF (v := .bool _) rfl rfl) ?_
                                     refine st_val (ro_move (v := .bool _) rfl) ?_
                                     refine st_split (t := 93) rfl (fun Q48 => ?_) (fun Q48 => ?_)
                                     · (try first | replace Q48 := bn_t Q48 | replace Q48 := bn_f Q48)
                                       (try first | replace Q48 := bx_t Q48 | replace Q48 := bx_f Q48 | replace Q48 := be_t Q48 | replace Q48 := be_f Q48 | replace Q48 := of_decide_eq_true Q48 | replace Q48 := of_decide_eq_false Q48)
                                       first
                                        | (exfalso; first | omega | contradiction | (cases Q48; done))
                                        | skip
                                          refine st_gno rfl rfl ?_
                                          refine st_gno rfl rfl ?_
                                          refine st_gno rfl rfl ?_
                                          refine st_gno rfl rfl ?_
                                          refine st_gno rfl rfl ?_
                                          refine st_gno rfl rfl ?_
                                          refine st_val (ro_pickT (v := .bool _) rfl rfl) ?_
                                          refine st_val (ro_move (v := .bool _) rfl) ?_
                                          refine st_gno rfl rfl ?_
                                          refine st_gno rfl rfl ?_
                                          refine st_gno rfl rfl ?_
                                          refine st_gno rfl rfl ?_
                                          refine st_gno rfl rfl ?_
                                          refine st_gno rfl rfl ?_
                                          refine st_gno rfl rfl ?_
                                          refine st_val (ro_pickT (v := .bool _) rfl rfl) ?_
                                          refine st_nil ?_
                                          refine nx_then ?_
                                          refine cd_condT rfl ?_
                                          refine cd_seq ?_
                                          refine cd_region ?_
                                          refine st_val (ro_assign (v := .bool _) rfl) ?_
                                          refine st_nil ?_
                                          refine nx_then ?_
                                          refine cd_ret ?_
                                          refine rt_block ?_
                                          refine rt_then ?_
                                          refine rt_then ?_
                                          refine rt_block ?_
                                          refine rt_then ?_
                                          refine res1 (v := .bool _) rfl rfl ?_
                                          exact ⟨rfl, ((hB.next E51).next E57)⟩
                                     · (try first | replace Q48 := bn_t Q48 | replace Q48 := bn_f Q48)
                                       (try first | replace Q48 := bx_t Q48 | replace Q48 := bx_f Q48 | replace Q48 := be_t Q48 | replace Q48 := be_f Q48 | replace Q48 := of_decide_eq_true Q48 | replace Q48 := of_decide_eq_false Q48)
                                       first
                                        | (exfalso; first | omega | contradiction | (cases Q48; done))
                                        | skip
                                          refine st_unguard rfl ?_
                                          refine st_val (ro_move (v := .int _ _) rfl) ?_
                                          refine st_unguard rfl ?_
                                          refine st_val (ro_fieldAddr BndTexts_f24_0 rfl) ?_
                                          refine st_unguard rfl ?_
                                          refine st_val (ro_load BndTexts_g22 rfl (by first | (first | exact (hP1.from_ ((From.rfl_.next E51).next E57)).whole | exact (hP1.from_ ((From.rfl_.next E51).next E57)).rd 0 rfl | exact (hP1.from_ ((From.rfl_.next E51).next E57)).rd 1 rfl) | (first | exact (hk1.from_ ((From.rfl_.next E51).next E57)).whole | exact (hk1.from_ ((From.rfl_.next E51).next E57)).rd 0 rfl | exact (hk1.from_ ((From.rfl_.next E51).next E57)).rd 1 rfl))) ?_
                                          refine st_unguard rfl ?_
                                          refine st_val (ro_move (v := .int _ _) rfl) ?_
                                          refine st_spell (t := 97) (v := .int _ _) (v' := .int .i64 (q : Nat)) rfl (by rw [hq]) ?_
                                          refine st_unguard rfl ?_
                                          refine st_call BndTexts_k12 (refStart_rt _ ca q L _ (hr.from_ ((hB.next E51).next E57)) hG (by omega)) ?_
                                          rintro v98 w49 ⟨rfl, rfl⟩
                                          refine st_unguard rfl ?_
                                          refine st_val (ro_neq rfl rfl) ?_
                                          refine st_val (ro_pickF (v := .bool _) rfl rfl) ?_
                                          refine st_val (ro_move (v := .bool _) rfl) ?_
                                          refine st_split (t := 101) rfl (fun Q50 => ?_) (fun Q50 => ?_)
                                          · (try first | replace Q50 := bn_t Q50 | replace Q50 := bn_f Q50)
                                            (try first | replace Q50 := bx_t Q50 | replace Q50 := bx_f Q50 | replace Q50 := be_t Q50 | replace Q50 := be_f Q50 | replace Q50 := of_decide_eq_true Q50 | replace Q50 := of_decide_eq_false Q50)
                                            first
                                             | (exfalso; first | omega | contradiction | (cases Q50; done))
                                             | skip
                                               refine st_gno rfl rfl ?_
                                               refine st_gno rfl rfl ?_
                                               refine st_gno rfl rfl ?_
                                               refine st_gno rfl rfl ?_
                                               refine st_gno rfl rfl ?_
                                               refine st_gno rfl rfl ?_
                                               refine st_gno rfl rfl ?_
                                               refine st_val (ro_pickT (v := .bool _) rfl rfl) ?_
                                               refine st_nil ?_
                                               refine nx_then ?_
                                               refine cd_condT rfl ?_
                                               refine cd_seq ?_
                                               refine cd_region ?_
                                               refine st_val (ro_assign (v := .bool _) rfl) ?_
                                               refine st_nil ?_
                                               refine nx_then ?_
                                               refine cd_ret ?_
                                               refine rt_block ?_
                                               refine rt_then ?_
                                               refine rt_then ?_
                                               refine rt_block ?_
                                               refine rt_then ?_
                                               refine res1 (v := .bool _) rfl rfl ?_
                                               exact ⟨rfl, ((hB.next E51).next E57)⟩
                                          · (try first | replace Q50 := bn_t Q50 | replace Q50 := bn_f Q50)
                                            (try first | replace Q50 := bx_t Q50 | replace Q50 := bx_f Q50 | replace Q50 := be_t Q50 | replace Q50 := be_f Q50 | replace Q50 := of_decide_eq_true Q50 | replace Q50 := of_decide_eq_false Q50)
                                            first
                                             | (exfalso; first | omega | contradiction | (cases Q50; done))
                                             | skip
                                               refine st_unguard rfl ?_
                                               refine st_val (ro_move (v := .int _ _) rfl) ?_
                                               refine st_unguard rfl ?_
                                               refine st_val (ro_fieldAddr BndTexts_f24_0 rfl) ?_
                                               refine st_unguard rfl ?_
                                               refine st_val (ro_load BndTexts_g22 rfl (by first | (first | exact (hP1.from_ ((From.rfl_.next E51).next E57)).whole | exact (hP1.from_ ((From.rfl_.next E51).next E57)).rd 0 rfl | exact (hP1.from_ ((From.rfl_.next E51).next E57)).rd 1 rfl) | (first | exact (hk1.from_ ((From.rfl_.next E51).next E57)).whole | exact (hk1.from_ ((From.rfl_.next E51).next E57)).rd 0 rfl | exact (hk1.from_ ((From.rfl_.next E51).next E57)).rd 1 rfl))) ?_
                                               refine st_unguard rfl ?_
                                               refine st_val (ro_move (v := .int _ _) rfl) ?_
                                               refine st_spell (t := 105) (v := .int _ _) (v' := .int .i64 (q : Nat)) rfl (by rw [hq]) ?_
                                               refine st_unguard rfl ?_
                                               refine st_val (ro_indexAddr1 BndTexts_e22 rfl rfl (by omega)) ?_
                                               refine st_unguard rfl ?_
                                               refine st_val (ro_load BndTexts_g3 rfl (by exact cellF ((hB.next E51).next E57) (hca q (by omega)))) ?_
                                               refine st_unguard rfl ?_
                                               refine st_val (ro_neq rfl rfl) ?_
                                               refine st_val (ro_pickF (v := .bool _) rfl rfl) ?_
                                               refine st_nil ?_
                                               refine nx_then ?_
                                               refine cd_cond rfl (fun Q51 => ?_) (fun Q51 => ?_)
                                               · (try first | replace Q51 := bn_t Q51 | replace Q51 := bn_f Q51)
                                                 (try first | replace Q51 := bx_t Q51 | replace Q51 := bx_f Q51 | replace Q51 := be_t Q51 | replace Q51 := be_f Q51 | replace Q51 := of_decide_eq_true Q51 | replace Q51 := of_decide_eq_false Q51)
                                                 first
                                                  | (exfalso; first | omega | contradiction | (cases Q51; done))
                                                  | skip
                                                    refine cd_seq ?_
                                                    refine cd_region ?_
                                                    refine st_val (ro_assign (v := .bool _) rfl) ?_
                                                    refine st_nil ?_
                                                    refine nx_then ?_
                                                    refine cd_ret ?_
                                                    refine rt_block ?_
                                                    refine rt_then ?_
                                                    refine rt_then ?_
                                                    refine rt_block ?_
                                                    refine rt_then ?_
                                                    refine res1 (v := .bool _) rfl rfl ?_
                                                    exact ⟨rfl, ((hB.next E51).next E57)⟩
                                               · (try first | replace Q51 := bn_t Q51 | replace Q51 := bn_f Q51)
                                                 (try first | replace Q51 := bx_t Q51 | replace Q51 := bx_f Q51 | replace Q51 := be_t Q51 | replace Q51 := be_f Q51 | replace Q51 := of_decide_eq_true Q51 | replace Q51 := of_decide_eq_false Q51)
                                                 first
                                                  | (exfalso; first | omega | contradiction | (cases Q51; done))
                                                  | skip
                                                    refine cd_skip ?_
                                                    refine nx_block ?_
                                                    refine nx_then ?_
                                                    refine cd_region ?_
                                                    refine st_val (ro_move (v := .int _ _) rfl) ?_
                                                    refine st_val (ro_add64 rfl rfl (by omega)) ?_
                                                    refine st_val (ro_assign (v := .int _ _) rfl) ?_
                                                    refine st_nil ?_
                                                    refine nx_cut (i + 1) ⟨(by first | rfl | (refine int_eq ?_; omega)), trivial⟩ (by (iterate 139 refine agr_cons rfl ?_); exact agr_rfl) ⟨?_, ?_⟩
                                                    · exact ⟨by omega, hv.from_ ((From.rfl_.next E51).next E57), hP1.from_ ((From.rfl_.next E51).next E57), ((hB.next E51).next E57)⟩
                                                    · omega
                 · (try first | replace Q28 := bn_t Q28 | replace Q28 := bn_f Q28)
                   (try first | replace Q28 := bx_t Q28 | replace Q28 := bx_f Q28 | replace Q28 := be_t Q28 | replace Q28 := be_f Q28 | replace Q28 := of_decide_eq_true Q28 | replace Q28 := of_decide_eq_false Q28)
                   first
                    | (exfalso; first | omega | contradiction | (cases Q28; done))
                    | skip
                      refine cd_exit ?_
                      refine ex_then ?_
                      refine ex_then ?_
                      refine ex_block ?_
                      refine nx_then ?_
                      refine cd_seq ?_
                      refine cd_region ?_
                      refine st_call BndTexts_k9 (wakes_any _) ?_
                      rintro v110 w52 ⟨rfl, E110⟩
                      refine st_val (ro_assign (v := .bool _) rfl) ?_
                      refine st_nil ?_
                      refine nx_then ?_
                      refine cd_ret ?_
                      refine res1 (v := .bool _) rfl rfl ?_
                      exact ⟨rfl, (hB.next E110)⟩
       · replace hv := hv.le hz14
         obtain ⟨_, _, _, _, _, hG⟩ := id hv
         have hGl := hG.len
         refine st_val (ro_move (v := .tuple _) rfl) ?_
         refine st_val (ro_extract rfl rfl) ?_
         refine st_val (ro_extract rfl rfl) ?_
         refine st_val (ro_assign (v := .pointer _) rfl) ?_
         refine st_val (ro_assign (v := .int _ _) rfl) ?_
         refine st_nil ?_
         refine nx_then ?_
         refine cd_seq ?_
         refine cd_seq ?_
         refine cd_region ?_
         refine st_val (ro_move (v := .pointer _) rfl) ?_
         refine st_val (ro_eqlNil BndTexts_p26 rfl rfl) ?_
         refine st_nil ?_
         refine nx_then ?_
         refine cd_cond rfl (fun Q53 => ?_) (fun Q53 => ?_)
         · (try first | replace Q53 := bn_t Q53 | replace Q53 := bn_f Q53)
           (try first | replace Q53 := bx_t Q53 | replace Q53 := bx_f Q53 | replace Q53 := be_t Q53 | replace Q53 := be_f Q53 | replace Q53 := of_decide_eq_true Q53 | replace Q53 := of_decide_eq_false Q53)
           first
            | (exfalso; first | omega | contradiction | (cases Q53; done))
            | skip
              refine cd_seq ?_
              refine cd_region ?_
              refine st_val (ro_move (v := .int _ _) rfl) ?_
              refine st_val (ro_neq rfl rfl) ?_
              refine st_val (ro_move (v := .bool _) rfl) ?_
              refine st_split (t := 21) rfl (fun Q54 => ?_) (fun Q54 => ?_)
              · (try first | replace Q54 := bn_t Q54 | replace Q54 := bn_f Q54)
                (try first | replace Q54 := bx_t Q54 | replace Q54 := bx_f Q54 | replace Q54 := be_t Q54 | replace Q54 := be_f Q54 | replace Q54 := of_decide_eq_true Q54 | replace Q54 := of_decide_eq_false Q54)
                first
                 | (exfalso; first | omega | contradiction | (cases Q54; done))
                 | skip
                   refine st_unguard rfl ?_
                   refine st_call BndTexts_k9 (wakes_any _) ?_
                   rintro v22 w55 ⟨rfl, E22⟩
                   refine st_val (ro_pickT (v := .bool _) rfl rfl) ?_
                   refine st_val (ro_assign (v := .bool _) rfl) ?_
                   refine st_nil ?_
                   refine nx_then ?_
                   refine cd_ret ?_
                   refine rt_then ?_
                   refine res1 (v := .bool _) rfl rfl ?_
                   exact ⟨rfl, ((((From.rfl_.next E1).next E11).next E14).next E22)⟩
              · (try first | replace Q54 := bn_t Q54 | replace Q54 := bn_f Q54)
                (try first | replace Q54 := bx_t Q54 | replace Q54 := bx_f Q54 | replace Q54 := be_t Q54 | replace Q54 := be_f Q54 | replace Q54 := of_decide_eq_true Q54 | replace Q54 := of_decide_eq_false Q54)
                first
                 | (exfalso; first | omega | contradiction | (cases Q54; done))
                 | skip
                   refine st_gno rfl rfl ?_
                   refine st_val (ro_pickF (v := .bool _) rfl rfl) ?_
                   refine st_val (ro_assign (v := .bool _) rfl) ?_
                   refine st_nil ?_
                   refine nx_then ?_
                   refine cd_ret ?_
                   refine rt_then ?_
                   refine res1 (v := .bool _) rfl rfl ?_
                   exact ⟨rfl, (((From.rfl_.next E1).next E11).next E14)⟩
         · (try first | replace Q53 := bn_t Q53 | replace Q53 := bn_f Q53)
           (try first | replace Q53 := bx_t Q53 | replace Q53 := bx_f Q53 | replace Q53 := be_t Q53 | replace Q53 := be_f Q53 | replace Q53 := of_decide_eq_true Q53 | replace Q53 := of_decide_eq_false Q53)
           first
            | (exfalso; first | omega | contradiction | (cases Q53; done))
            | skip
              refine cd_skip ?_
              refine nx_then ?_
              refine cd_seq ?_
              refine cd_seq ?_
              have hz0 : (0 : Nat) = 0 := rfl
              · apply cd_drawn 17 [(24, eqp _), (25, eqp _), (26, eqp _), (27, eqp _), (28, eqp _), (29, eqp _), (30, eqp _), (31, eqp _), (32, eqp _), (33, eqp _), (34, eqp _), (35, eqp _), (36, eqp _), (37, eqp _), (38, eqp _), (39, eqp _), (40, eqp _)] (by kernel_rfl) (by kernel_rfl) ⟨eqp_mono _, eqp_mono _, eqp_mono _, eqp_mono _, eqp_mono _, eqp_mono _, eqp_mono _, eqp_mono _, eqp_mono _, eqp_mono _, eqp_mono _, eqp_mono _, eqp_mono _, eqp_mono _, eqp_mono _, eqp_mono _, eqp_mono _, trivial⟩
                case hop =>
                 refine ⟨?_, ?_⟩
                 · intro w57 D57
                   show OpOK _ _ _ _ _ _ _
                   exact ok_pure (ro_move (v := .pointer _) rfl) rfl
                 refine ⟨?_, ?_⟩
                 · intro w58 D58
                   rintro _ rfl
                   show OpOK _ _ _ _ _ _ _
                   refine ok_call BndTexts_k10 ((count_rt _ b L _ (hv.from_ (From.rfl_.next D58))).mono ?_)
                   rintro v _ ⟨rfl, rfl⟩; exact ⟨From.rfl_, rfl⟩
                 refine ⟨?_, ?_⟩
                 · intro w59 D59
                   show OpOK _ _ _ _ _ _ _
                   exact ok_pure (ro_fieldAddr BndTexts_f24_0 rfl) rfl
                 refine ⟨?_, ?_⟩
                 · intro w60 D60
                   rintro _ rfl
                   show OpOK _ _ _ _ _ _ _
                   exact ok_pure (ro_load BndTexts_g22 rfl (by first | (first | exact (hP1.from_ (From.rfl_.next D60)).whole | exact (hP1.from_ (From.rfl_.next D60)).rd 0 rfl | exact (hP1.from_ (From.rfl_.next D60)).rd 1 rfl) | (first | exact (hk1.from_ (From.rfl_.next D60)).whole | exact (hk1.from_ (From.rfl_.next D60)).rd 0 rfl | exact (hk1.from_ (From.rfl_.next D60)).rd 1 rfl))) rfl
                 refine ⟨?_, ?_⟩
                 · intro w61 D61
                   rintro _ rfl
                   show OpOK _ _ _ _ _ _ _
                   exact ok_pure (ro_len BndTexts_l22 rfl) rfl
                 refine ⟨?_, ?_⟩
                 · intro w62 D62
                   rintro _ rfl _ rfl
                   show OpOK _ _ _ _ _ _ _
                   exact ok_pure (ro_bf (ro_neq rfl rfl) (bne_self_eq_false _)) rfl
                 refine ⟨?_, ?_⟩
                 · intro w63 D63
                   rintro _ rfl
                   show OpOK _ _ _ _ _ _ _
                   exact ok_pure (ro_move (v := .bool _) rfl) rfl
                 refine ⟨?_, ?_⟩
                 · intro w64 D64
                   rintro _ rfl
                   show OpOK _ _ _ _ _ _ _
                   exact ok_gpure rfl (ro_move (v := .pointer _) rfl) rfl
                 refine ⟨?_, ?_⟩
                 · intro w65 D65
                   rintro _ rfl _ rfl
                   show OpOK _ _ _ _ _ _ _
                   refine ok_gcall rfl BndTexts_k11 ((all_rt _ b L _ (hv.from_ (From.rfl_.next D65))).mono ?_)
                   rintro v _ ⟨rfl, rfl⟩; exact ⟨From.rfl_, rfl⟩
                 refine ⟨?_, ?_⟩
                 · intro w66 D66
                   rintro _ rfl
                   show OpOK _ _ _ _ _ _ _
                   exact ok_gpure rfl (ro_fieldAddr BndTexts_f24_0 rfl) rfl
                 refine ⟨?_, ?_⟩
                 · intro w67 D67
                   rintro _ rfl _ rfl
                   show OpOK _ _ _ _ _ _ _
                   exact ok_gpure rfl (ro_load BndTexts_g22 rfl (by first | (first | exact (hP1.from_ (From.rfl_.next D67)).whole | exact (hP1.from_ (From.rfl_.next D67)).rd 0 rfl | exact (hP1.from_ (From.rfl_.next D67)).rd 1 rfl) | (first | exact (hk1.from_ (From.rfl_.next D67)).whole | exact (hk1.from_ (From.rfl_.next D67)).rd 0 rfl | exact (hk1.from_ (From.rfl_.next D67)).rd 1 rfl))) rfl
                 refine ⟨?_, ?_⟩
                 · intro w68 D68
                   rintro _ rfl
                   show OpOK _ _ _ _ _ _ _
                   exact ok_gpure rfl (ro_fieldAddr BndTexts_f24_0 rfl) rfl
                 refine ⟨?_, ?_⟩
                 · intro w69 D69
                   rintro _ rfl _ rfl
                   show OpOK _ _ _ _ _ _ _
                   exact ok_gpure rfl (ro_load BndTexts_g22 rfl (by first | (first | exact (hP1.from_ (From.rfl_.next D69)).whole | exact (hP1.from_ (From.rfl_.next D69)).rd 0 rfl | exact (hP1.from_ (From.rfl_.next D69)).rd 1 rfl) | (first | exact (hk1.from_ (From.rfl_.next D69)).whole | exact (hk1.from_ (From.rfl_.next D69)).rd 0 rfl | exact (hk1.from_ (From.rfl_.next D69)).rd 1 rfl))) rfl
                 refine ⟨?_, ?_⟩
                 · intro w70 D70
                   rintro _ rfl _ rfl
                   show OpOK _ _ _ _ _ _ _
                   exact ok_gpure rfl (ro_len BndTexts_l22 rfl) rfl
                 refine ⟨?_, ?_⟩
                 · intro w71 D71
                   rintro _ rfl _ rfl _ rfl
                   show OpOK _ _ _ _ _ _ _
                   refine ok_gcall rfl BndTexts_k12 ((refStart_rt A ca L.length L _ (hr.from_ ((((From.rfl_.next E1).next E11).next E14).next D71)) hG (Nat.le_refl _)).mono ?_)
                   rintro v _ ⟨rfl, rfl⟩; exact ⟨From.rfl_, rfl⟩
                 refine ⟨?_, ?_⟩
                 · intro w72 D72
                   rintro _ rfl _ rfl _ rfl
                   show OpOK _ _ _ _ _ _ _
                   exact ok_gpure rfl (ro_bf (ro_neq rfl rfl) (bne_self_eq_false _)) rfl
                 refine ⟨?_, ?_⟩
                 · intro w73 D73
                   rintro _ rfl _ rfl
                   show OpOK _ _ _ _ _ _ _
                   exact ok_pure (ro_pickF (v := .bool _) rfl rfl) rfl
                 exact trivial
                case hend =>
                 intro w74 D74
                 rintro _ rfl _ rfl _ rfl _ rfl _ rfl _ rfl _ rfl _ rfl _ rfl _ rfl _ rfl _ rfl _ rfl _ rfl _ rfl _ rfl _ rfl
                 show St _ _ _ _ _ _ _
                 refine st_nil ?_
                 refine nx_then ?_
                 refine cd_condF rfl ?_
                 refine cd_skip ?_
                 refine nx_then ?_
                 refine cd_seq ?_
                 refine cd_seq ?_
                 refine cd_region ?_
                 refine st_val (ro_assign (v := .int _ _) rfl) ?_
                 refine st_nil ?_
                 refine nx_then ?_
                 refine cd_block ?_
                 refine cd_loop (G := Int) [2, 6, 7, 8, 9, 41, 42, 43, 44, 45, 46, 47, 48, 49, 50, 51, 52, 53, 54, 55, 56, 57, 58, 59, 60, 61, 62, 63, 64, 65, 66, 67, 68, 69, 70, 71, 72, 73, 74, 75, 76, 77, 78, 79, 80, 81, 82, 83, 84, 85, 86, 87, 88, 89, 90, 91, 92, 93, 94, 95, 96, 97, 98, 99, 100, 101, 102, 103, 104, 105, 106, 107, 108, 109] (fun i => [(5, .int .i64 i)]) (fun i w' => (-1 ≤ i ∧ i ≤ L.length + 1) ∧ BAt w' w.heap.size b L ∧ Blk w' b1 24 #[.slice A L.length ca, .slice B is.length cb] ∧ From w w') (fun i => (L.length + 1 - i).toNat) (-1) ⟨rfl, trivial⟩ ?_ ?_
                 · exact ⟨by omega, hv.from_ (From.rfl_.next D74), hk1.from_ (From.rfl_.next D74), ((((From.rfl_.next E1).next E11).next E14).next D74)⟩
                 rintro i ρ75 w75 ⟨hi, hv, hP1, hB⟩
                 refine cd_seq ?_
                 refine cd_seq ?_
                 refine cd_region ?_
                 refine st_val (ro_move (v := .int _ _) rfl) ?_
                 refine st_val (ro_fieldAddr BndTexts_f24_0 rfl) ?_
                 refine st_val (ro_load BndTexts_g22 rfl (by first | (first | exact (hP1.from_ From.rfl_).whole | exact (hP1.from_ From.rfl_).rd 0 rfl | exact (hP1.from_ From.rfl_).rd 1 rfl) | (first | exact (hk1.from_ From.rfl_).whole | exact (hk1.from_ From.rfl_).rd 0 rfl | exact (hk1.from_ From.rfl_).rd 1 rfl))) ?_
                 refine st_val (ro_len BndTexts_l22 rfl) ?_
                 refine st_val (ro_leq rfl rfl) ?_
                 refine st_nil ?_
                 refine nx_then ?_
                 refine cd_cond rfl (fun Q76 => ?_) (fun Q76 => ?_)
                 · (try first | replace Q76 := bn_t Q76 | replace Q76 := bn_f Q76)
                   (try first | replace Q76 := bx_t Q76 | replace Q76 := bx_f Q76 | replace Q76 := be_t Q76 | replace Q76 := be_f Q76 | replace Q76 := of_decide_eq_true Q76 | replace Q76 := of_decide_eq_false Q76)
                   first
                    | (exfalso; first | omega | contradiction | (cases Q76; done))
                    | skip
                      refine cd_skip ?_
                      refine nx_then ?_
                      refine cd_seq ?_
                      refine cd_block ?_
                      refine cd_seq ?_
                      refine cd_region ?_
                      refine st_val (ro_move (v := .pointer _) rfl) ?_
                      refine st_val (ro_move (v := .int _ _) rfl) ?_
                      refine st_call BndTexts_k13 (starts_rt _ b L _ (hv.from_ From.rfl_) i) ?_
                      rintro v51 w77 ⟨rfl, E51⟩
                      refine st_val (ro_move (v := .tuple _) rfl) ?_
                      refine st_val (ro_extract rfl rfl) ?_
                      refine st_val (ro_extract rfl rfl) ?_
                      refine st_val (ro_assign (v := .int _ _) rfl) ?_
                      refine st_val (ro_assign (v := .int _ _) rfl) ?_
                      refine st_nil ?_
                      refine nx_then ?_
                      refine cd_seq ?_
                      refine cd_region ?_
                      refine st_val (ro_move (v := .pointer _) rfl) ?_
                      refine st_val (ro_move (v := .int _ _) rfl) ?_
                      refine st_call BndTexts_k14 (sizes_rt _ b L _ (hv.from_ (From.rfl_.next E51)) i) ?_
                      rintro v57 w78 ⟨rfl, E57⟩
                      refine st_val (ro_move (v := .tuple _) rfl) ?_
                      refine st_val (ro_extract rfl rfl) ?_
                      refine st_val (ro_extract rfl rfl) ?_
                      refine st_val (ro_assign (v := .int _ _) rfl) ?_
                      refine st_val (ro_assign (v := .int _ _) rfl) ?_
                      refine st_nil ?_
                      refine nx_then ?_
                      refine cd_seq ?_
                      refine cd_seq ?_
                      refine cd_region ?_
                      refine st_val (ro_move (v := .int _ _) rfl) ?_
                      refine st_val (ro_lss rfl rfl) ?_
                      refine st_val (ro_move (v := .bool _) rfl) ?_
                      refine st_split (t := 62) rfl (fun Q79 => ?_) (fun Q79 => ?_)
                      · (try first | replace Q79 := bn_t Q79 | replace Q79 := bn_f Q79)
                        (try first | replace Q79 := bx_t Q79 | replace Q79 := bx_f Q79 | replace Q79 := be_t Q79 | replace Q79 := be_f Q79 | replace Q79 := of_decide_eq_true Q79 | replace Q79 := of_decide_eq_false Q79)
                        have hE3 : sE L i = 3 := by unfold sE; rw [if_neg (by omega)]
                        have hS0 : sV L i = 0 := by unfold sV; rw [if_neg (by omega)]
                        have hN0 : nV L i = 0 := by unfold nV; rw [if_neg (by omega)]
                        first
                         | (exfalso; first | omega | contradiction | (cases Q79; done))
                         | skip
                           refine st_gno rfl rfl ?_
                           refine st_gno rfl rfl ?_
                           refine st_gno rfl rfl ?_
                           refine st_gno rfl rfl ?_
                           refine st_gno rfl rfl ?_
                           refine st_val (ro_pickT (v := .bool _) rfl rfl) ?_
                           refine st_nil ?_
                           refine nx_then ?_
                           refine cd_condT rfl ?_
                           refine cd_seq ?_
                           refine cd_seq ?_
                           refine cd_region ?_
                           refine st_val (ro_move (v := .int _ _) rfl) ?_
                           refine st_call BndTexts_k15 (num_any _ _) ?_
                           rintro v70 w80 ⟨rfl, rfl⟩
                           refine st_val (ro_neq rfl rfl) ?_
                           refine st_val (ro_move (v := .bool _) rfl) ?_
                           refine st_split (t := 72) rfl (fun Q81 => ?_) (fun Q81 => ?_)
                           · (try first | replace Q81 := bn_t Q81 | replace Q81 := bn_f Q81)
                             (try first | replace Q81 := bx_t Q81 | replace Q81 := bx_f Q81 | replace Q81 := be_t Q81 | replace Q81 := be_f Q81 | replace Q81 := of_decide_eq_true Q81 | replace Q81 := of_decide_eq_false Q81)
                             first
                              | (exfalso; first | omega | contradiction | (cases Q81; done))
                              | skip
                                refine st_gno rfl rfl ?_
                                refine st_gno rfl rfl ?_
                                refine st_gno rfl rfl ?_
                                refine st_val (ro_pickT (v := .bool _) rfl rfl) ?_
                                refine st_val (ro_move (v := .bool _) rfl) ?_
                                refine st_gno rfl rfl ?_
                                refine st_gno rfl rfl ?_
                                refine st_val (ro_pickT (v := .bool _) rfl rfl) ?_
                                refine st_val (ro_move (v := .bool _) rfl) ?_
                                refine st_gno rfl rfl ?_
                                refine st_gno rfl rfl ?_
                                refine st_val (ro_pickT (v := .bool _) rfl rfl) ?_
                                refine st_nil ?_
                                refine nx_then ?_
                                refine cd_condT rfl ?_
                                refine cd_seq ?_
                                refine cd_region ?_
                                refine st_val (ro_assign (v := .bool _) rfl) ?_
                                refine st_nil ?_
                                refine nx_then ?_
                                refine cd_ret ?_
                                refine rt_then ?_
                                refine rt_then ?_
                                refine rt_block ?_
                                refine rt_then ?_
                                refine rt_then ?_
                                refine rt_block ?_
                                refine rt_then ?_
                                refine res1 (v := .bool _) rfl rfl ?_
                                exact ⟨rfl, ((hB.next E51).next E57)⟩
                           · (try first | replace Q81 := bn_t Q81 | replace Q81 := bn_f Q81)
                             (try first | replace Q81 := bx_t Q81 | replace Q81 := bx_f Q81 | replace Q81 := be_t Q81 | replace Q81 := be_f Q81 | replace Q81 := of_decide_eq_true Q81 | replace Q81 := of_decide_eq_false Q81)
                             first
                              | (exfalso; first | omega | contradiction | (cases Q81; done))
                              | skip
                                refine st_unguard rfl ?_
                                refine st_val (ro_move (v := .int _ _) rfl) ?_
                                refine st_unguard rfl ?_
                                refine st_call BndTexts_k15 (num_any _ _) ?_
                                rintro v74 w82 ⟨rfl, rfl⟩
                                refine st_unguard rfl ?_
                                refine st_val (ro_neq rfl rfl) ?_
                                refine st_val (ro_pickF (v := .bool _) rfl rfl) ?_
                                refine st_val (ro_move (v := .bool _) rfl) ?_
                                refine st_split (t := 77) rfl (fun Q83 => ?_) (fun Q83 => ?_)
                                · (try first | replace Q83 := bn_t Q83 | replace Q83 := bn_f Q83)
                                  (try first | replace Q83 := bx_t Q83 | replace Q83 := bx_f Q83 | replace Q83 := be_t Q83 | replace Q83 := be_f Q83 | replace Q83 := of_decide_eq_true Q83 | replace Q83 := of_decide_eq_false Q83)
                                  first
                                   | (exfalso; first | omega | contradiction | (cases Q83; done))
                                   | skip
                                     refine st_gno rfl rfl ?_
                                     refine st_gno rfl rfl ?_
                                     refine st_val (ro_pickT (v := .bool _) rfl rfl) ?_
                                     refine st_val (ro_move (v := .bool _) rfl) ?_
                                     refine st_gno rfl rfl ?_
                                     refine st_gno rfl rfl ?_
                                     refine st_val (ro_pickT (v := .bool _) rfl rfl) ?_
                                     refine st_nil ?_
                                     refine nx_then ?_
                                     refine cd_condT rfl ?_
                                     refine cd_seq ?_
                                     refine cd_region ?_
                                     refine st_val (ro_assign (v := .bool _) rfl) ?_
                                     refine st_nil ?_
                                     refine nx_then ?_
                                     refine cd_ret ?_
                                     refine rt_then ?_
                                     refine rt_then ?_
                                     refine rt_block ?_
                                     refine rt_then ?_
                                     refine rt_then ?_
                                     refine rt_block ?_
                                     refine rt_then ?_
                                     refine res1 (v := .bool _) rfl rfl ?_
                                     exact ⟨rfl, ((hB.next E51).next E57)⟩
                                · (try first | replace Q83 := bn_t Q83 | replace Q83 := bn_f Q83)
                                  (try first | replace Q83 := bx_t Q83 | replace Q83 := bx_f Q83 | replace Q83 := be_t Q83 | replace Q83 := be_f Q83 | replace Q83 := of_decide_eq_true Q83 | replace Q83 := of_decide_eq_false Q83)
                                  first
                                   | (exfalso; first | omega | contradiction | (cases Q83; done))
                                   | skip
                                     refine st_unguard rfl ?_
                                     refine st_val (ro_move (v := .int _ _) rfl) ?_
                                     refine st_unguard rfl ?_
                                     refine st_val (ro_neq rfl rfl) ?_
                                     refine st_val (ro_pickF (v := .bool _) rfl rfl) ?_
                                     refine st_val (ro_move (v := .bool _) rfl) ?_
                                     refine st_split (t := 81) rfl (fun Q84 => ?_) (fun Q84 => ?_)
                                     · (try first | replace Q84 := bn_t Q84 | replace Q84 := bn_f Q84)
                                       (try first | replace Q84 := bx_t Q84 | replace Q84 := bx_f Q84 | replace Q84 := be_t Q84 | replace Q84 := be_f Q84 | replace Q84 := of_decide_eq_true Q84 | replace Q84 := of_decide_eq_false Q84)
                                       first
                                        | (exfalso; first | omega | contradiction | (cases Q84; done))
                                        | skip
                                          refine st_gno rfl rfl ?_
                                          refine st_gno rfl rfl ?_
                                          refine st_val (ro_pickT (v := .bool _) rfl rfl) ?_
                                          refine st_nil ?_
                                          refine nx_then ?_
                                          refine cd_condT rfl ?_
                                          refine cd_seq ?_
                                          refine cd_region ?_
                                          refine st_val (ro_assign (v := .bool _) rfl) ?_
                                          refine st_nil ?_
                                          refine nx_then ?_
                                          refine cd_ret ?_
                                          refine rt_then ?_
                                          refine rt_then ?_
                                          refine rt_block ?_
                                          refine rt_then ?_
                                          refine rt_then ?_
                                          refine rt_block ?_
                                          refine rt_then ?_
                                          refine res1 (v := .bool _) rfl rfl ?_
                                          exact ⟨rfl, ((hB.next E51).next E57)⟩
                                     · (try first | replace Q84 := bn_t Q84 | replace Q84 := bn_f Q84)
                                       (try first | replace Q84 := bx_t Q84 | replace Q84 := bx_f Q84 | replace Q84 := be_t Q84 | replace Q84 := be_f Q84 | replace Q84 := of_decide_eq_true Q84 | replace Q84 := of_decide_eq_false Q84)
                                       first
                                        | (exfalso; first | omega | contradiction | (cases Q84; done))
                                        | skip
                                          refine st_unguard rfl ?_
                                          refine st_val (ro_move (v := .int _ _) rfl) ?_
                                          refine st_unguard rfl ?_
                                          refine st_val (ro_neq rfl rfl) ?_
                                          refine st_val (ro_pickF (v := .bool _) rfl rfl) ?_
                                          refine st_nil ?_
                                          refine nx_then ?_
                                          refine cd_cond rfl (fun Q85 => ?_) (fun Q85 => ?_)
                                          · (try first | replace Q85 := bn_t Q85 | replace Q85 := bn_f Q85)
                                            (try first | replace Q85 := bx_t Q85 | replace Q85 := bx_f Q85 | replace Q85 := be_t Q85 | replace Q85 := be_f Q85 | replace Q85 := of_decide_eq_true Q85 | replace Q85 := of_decide_eq_false Q85)
                                            first
                                             | (exfalso; first | omega | contradiction | (cases Q85; done))
                                             | skip
                                               refine cd_seq ?_
                                               refine cd_region ?_
                                               refine st_val (ro_assign (v := .bool _) rfl) ?_
                                               refine st_nil ?_
                                               refine nx_then ?_
                                               refine cd_ret ?_
                                               refine rt_then ?_
                                               refine rt_then ?_
                                               refine rt_block ?_
                                               refine rt_then ?_
                                               refine rt_then ?_
                                               refine rt_block ?_
                                               refine rt_then ?_
                                               refine res1 (v := .bool _) rfl rfl ?_
                                               exact ⟨rfl, ((hB.next E51).next E57)⟩
                                          · (try first | replace Q85 := bn_t Q85 | replace Q85 := bn_f Q85)
                                            (try first | replace Q85 := bx_t Q85 | replace Q85 := bx_f Q85 | replace Q85 := be_t Q85 | replace Q85 := be_f Q85 | replace Q85 := of_decide_eq_true Q85 | replace Q85 := of_decide_eq_false Q85)
                                            first
                                             | (exfalso; first | omega | contradiction | (cases Q85; done))
                                             | skip
                                               refine cd_skip ?_
                                               refine nx_then ?_
                                               refine cd_exit ?_
                                               refine ex_then ?_
                                               refine ex_block ?_
                                               refine nx_then ?_
                                               refine cd_region ?_
                                               refine st_val (ro_move (v := .int _ _) rfl) ?_
                                               refine st_val (ro_add64 rfl rfl (by omega)) ?_
                                               refine st_val (ro_assign (v := .int _ _) rfl) ?_
                                               refine st_nil ?_
                                               refine nx_cut (i + 1) ⟨(by first | rfl | (refine int_eq ?_; omega)), trivial⟩ (by (iterate 128 refine agr_cons rfl ?_); exact agr_rfl) ⟨?_, ?_⟩
                                               · exact ⟨by omega, hv.from_ ((From.rfl_.next E51).next E57), hP1.from_ ((From.rfl_.next E51).next E57), ((hB.next E51).next E57)⟩
                                               · omega
                      · (try first | replace Q79 := bn_t Q79 | replace Q79 := bn_f Q79)
                        (try first | replace Q79 := bx_t Q79 | replace Q79 := bx_f Q79 | replace Q79 := be_t Q79 | replace Q79 := be_f Q79 | replace Q79 := of_decide_eq_true Q79 | replace Q79 := of_decide_eq_false Q79)
                        first
                         | (exfalso; first | omega | contradiction | (cases Q79; done))
                         | skip
                           refine st_unguard rfl ?_
                           refine st_val (ro_move (v := .int _ _) rfl) ?_
                           refine st_unguard rfl ?_
                           refine st_val (ro_fieldAddr BndTexts_f24_0 rfl) ?_
                           refine st_unguard rfl ?_
                           refine st_val (ro_load BndTexts_g22 rfl (by first | (first | exact (hP1.from_ ((From.rfl_.next E51).next E57)).whole | exact (hP1.from_ ((From.rfl_.next E51).next E57)).rd 0 rfl | exact (hP1.from_ ((From.rfl_.next E51).next E57)).rd 1 rfl) | (first | exact (hk1.from_ ((From.rfl_.next E51).next E57)).whole | exact (hk1.from_ ((From.rfl_.next E51).next E57)).rd 0 rfl | exact (hk1.from_ ((From.rfl_.next E51).next E57)).rd 1 rfl))) ?_
                           refine st_unguard rfl ?_
                           refine st_val (ro_len BndTexts_l22 rfl) ?_
                           refine st_unguard rfl ?_
                           refine st_val (ro_eql rfl rfl) ?_
                           refine st_val (ro_pickF (v := .bool _) rfl rfl) ?_
                           refine st_nil ?_
                           refine nx_then ?_
                           refine cd_cond rfl (fun Q86 => ?_) (fun Q86 => ?_)
                           · (try first | replace Q86 := bn_t Q86 | replace Q86 := bn_f Q86)
                             (try first | replace Q86 := bx_t Q86 | replace Q86 := bx_f Q86 | replace Q86 := be_t Q86 | replace Q86 := be_f Q86 | replace Q86 := of_decide_eq_true Q86 | replace Q86 := of_decide_eq_false Q86)
                             have hE3 : sE L i = 3 := by unfold sE; rw [if_neg (by omega)]
                             have hS0 : sV L i = 0 := by unfold sV; rw [if_neg (by omega)]
                             have hN0 : nV L i = 0 := by unfold nV; rw [if_neg (by omega)]
                             first
                              | (exfalso; first | omega | contradiction | (cases Q86; done))
                              | skip
                                refine cd_seq ?_
                                refine cd_seq ?_
                                refine cd_region ?_
                                refine st_val (ro_move (v := .int _ _) rfl) ?_
                                refine st_call BndTexts_k15 (num_any _ _) ?_
                                rintro v70 w87 ⟨rfl, rfl⟩
                                refine st_val (ro_neq rfl rfl) ?_
                                refine st_val (ro_move (v := .bool _) rfl) ?_
                                refine st_split (t := 72) rfl (fun Q88 => ?_) (fun Q88 => ?_)
                                · (try first | replace Q88 := bn_t Q88 | replace Q88 := bn_f Q88)
                                  (try first | replace Q88 := bx_t Q88 | replace Q88 := bx_f Q88 | replace Q88 := be_t Q88 | replace Q88 := be_f Q88 | replace Q88 := of_decide_eq_true Q88 | replace Q88 := of_decide_eq_false Q88)
                                  first
                                   | (exfalso; first | omega | contradiction | (cases Q88; done))
                                   | skip
                                     refine st_gno rfl rfl ?_
                                     refine st_gno rfl rfl ?_
                                     refine st_gno rfl rfl ?_
                                     refine st_val (ro_pickT (v := .bool _) rfl rfl) ?_
                                     refine st_val (ro_move (v := .bool _) rfl) ?_
                                     refine st_gno rfl rfl ?_
                                     refine st_gno rfl rfl ?_
                                     refine st_val (ro_pickT (v := .bool _) rfl rfl) ?_
                                     refine st_val (ro_move (v := .bool _) rfl) ?_
                                     refine st_gno rfl rfl ?_
                                     refine st_gno rfl rfl ?_
                                     refine st_val (ro_pickT (v := .bool _) rfl rfl) ?_
                                     refine st_nil ?_
                                     refine nx_then ?_
                                     refine cd_condT rfl ?_
                                     refine cd_seq ?_
                                     refine cd_region ?_
                                     refine st_val (ro_assign (v := .bool _) rfl) ?_
                                     refine st_nil ?_
                                     refine nx_then ?_
                                     refine cd_ret ?_
                                     refine rt_then ?_
                                     refine rt_then ?_
                                     refine rt_block ?_
                                     refine rt_then ?_
                                     refine rt_then ?_
                                     refine rt_block ?_
                                     refine rt_then ?_
                                     refine res1 (v := .bool _) rfl rfl ?_
                                     exact ⟨rfl, ((hB.next E51).next E57)⟩
                                · (try first | replace Q88 := bn_t Q88 | replace Q88 := bn_f Q88)
                                  (try first | replace Q88 := bx_t Q88 | replace Q88 := bx_f Q88 | replace Q88 := be_t Q88 | replace Q88 := be_f Q88 | replace Q88 := of_decide_eq_true Q88 | replace Q88 := of_decide_eq_false Q88)
                                  first
                                   | (exfalso; first | omega | contradiction | (cases Q88; done))
                                   | skip
                                     refine st_unguard rfl ?_
                                     refine st_val (ro_move (v := .int _ _) rfl) ?_
                                     refine st_unguard rfl ?_
                                     refine st_call BndTexts_k15 (num_any _ _) ?_
                                     rintro v74 w89 ⟨rfl, rfl⟩
                                     refine st_unguard rfl ?_
                                     refine st_val (ro_neq rfl rfl) ?_
                                     refine st_val (ro_pickF (v := .bool _) rfl rfl) ?_
                                     refine st_val (ro_move (v := .bool _) rfl) ?_
                                     refine st_split (t := 77) rfl (fun Q90 => ?_) (fun Q90 => ?_)
                                     · (try first | replace Q90 := bn_t Q90 | replace Q90 := bn_f Q90)
                                       (try first | replace Q90 := bx_t Q90 | replace Q90 := bx_f Q90 | replace Q90 := be_t Q90 | replace Q90 := be_f Q90 | replace Q90 := of_decide_eq_true Q90 | replace Q90 := of_decide_eq_false Q90)
                                       first
                                        | (exfalso; first | omega | contradiction | (cases Q90; done))
                                        | skip
                                          refine st_gno rfl rfl ?_
                                          refine st_gno rfl rfl ?_
                                          refine st_val (ro_pickT (v := .bool _) rfl rfl) ?_
                                          refine st_val (ro_move (v := .bool _) rfl) ?_
                                          refine st_gno rfl rfl ?_
                                          refine st_gno rfl rfl ?_
                                          refine st_val (ro_pickT (v := .bool _) rfl rfl) ?_
                                          refine st_nil ?_
                                          refine nx_then ?_
                                          refine cd_condT rfl ?_
                                          refine cd_seq ?_
                                          refine cd_region ?_
                                          refine st_val (ro_assign (v := .bool _) rfl) ?_
                                          refine st_nil ?_
                                          refine nx_then ?_
                                          refine cd_ret ?_
                                          refine rt_then ?_
                                          refine rt_then ?_
                                          refine rt_block ?_
                                          refine rt_then ?_
                                          refine rt_then ?_
                                          refine rt_block ?_
                                          refine rt_then ?_
                                          refine res1 (v := .bool _) rfl rfl ?_
                                          exact ⟨rfl, ((hB.next E51).next E57)⟩
                                     · (try first | replace Q90 := bn_t Q90 | replace Q90 := bn_f Q90)
                                       (try first | replace Q90 := bx_t Q90 | replace Q90 := bx_f Q90 | replace Q90 := be_t Q90 | replace Q90 := be_f Q90 | replace Q90 := of_decide_eq_true Q90 | replace Q90 := of_decide_eq_false Q90)
                                       first
                                        | (exfalso; first | omega | contradiction | (cases Q90; done))
                                        | skip
                                          refine st_unguard rfl ?_
                                          refine st_val (ro_move (v := .int _ _) rfl) ?_
                                          refine st_unguard rfl ?_
                                          refine st_val (ro_neq rfl rfl) ?_
                                          refine st_val (ro_pickF (v := .bool _) rfl rfl) ?_
                                          refine st_val (ro_move (v := .bool _) rfl) ?_
                                          refine st_split (t := 81) rfl (fun Q91 => ?_) (fun Q91 => ?_)
                                          · (try first | replace Q91 := bn_t Q91 | replace Q91 := bn_f Q91)
                                            (try first | replace Q91 := bx_t Q91 | replace Q91 := bx_f Q91 | replace Q91 := be_t Q91 | replace Q91 := be_f Q91 | replace Q91 := of_decide_eq_true Q91 | replace Q91 := of_decide_eq_false Q91)
                                            first
                                             | (exfalso; first | omega | contradiction | (cases Q91; done))
                                             | skip
                                               refine st_gno rfl rfl ?_
                                               refine st_gno rfl rfl ?_
                                               refine st_val (ro_pickT (v := .bool _) rfl rfl) ?_
                                               refine st_nil ?_
                                               refine nx_then ?_
                                               refine cd_condT rfl ?_
                                               refine cd_seq ?_
                                               refine cd_region ?_
                                               refine st_val (ro_assign (v := .bool _) rfl) ?_
                                               refine st_nil ?_
                                               refine nx_then ?_
                                               refine cd_ret ?_
                                               refine rt_then ?_
                                               refine rt_then ?_
                                               refine rt_block ?_
                                               refine rt_then ?_
                                               refine rt_then ?_
                                               refine rt_block ?_
                                               refine rt_then ?_
                                               refine res1 (v := .bool _) rfl rfl ?_
                                               exact ⟨rfl, ((hB.next E51).next E57)⟩
                                          · (try first | replace Q91 := bn_t Q91 | replace Q91 := bn_f Q91)
                                            (try first | replace Q91 := bx_t Q91 | replace Q91 := bx_f Q91 | replace Q91 := be_t Q91 | replace Q91 := be_f Q91 | replace Q91 := of_decide_eq_true Q91 | replace Q91 := of_decide_eq_false Q91)
                                            first
                                             | (exfalso; first | omega | contradiction | (cases Q91; done))
                                             | skip
                                               refine st_unguard rfl ?_
                                               refine st_val (ro_move (v := .int _ _) rfl) ?_
                                               refine st_unguard rfl ?_
                                               refine st_val (ro_neq rfl rfl) ?_
                                               refine st_val (ro_pickF (v := .bool _) rfl rfl) ?_
                                               refine st_nil ?_
                                               refine nx_then ?_
                                               refine cd_cond rfl (fun Q92 => ?_) (fun Q92 => ?_)
                                               · (try first | replace Q92 := bn_t Q92 | replace Q92 := bn_f Q92)
                                                 (try first | replace Q92 := bx_t Q92 | replace Q92 := bx_f Q92 | replace Q92 := be_t Q92 | replace Q92 := be_f Q92 | replace Q92 := of_decide_eq_true Q92 | replace Q92 := of_decide_eq_false Q92)
                                                 first
                                                  | (exfalso; first | omega | contradiction | (cases Q92; done))
                                                  | skip
                                                    refine cd_seq ?_
                                                    refine cd_region ?_
                                                    refine st_val (ro_assign (v := .bool _) rfl) ?_
                                                    refine st_nil ?_
                                                    refine nx_then ?_
                                                    refine cd_ret ?_
                                                    refine rt_then ?_
                                                    refine rt_then ?_
                                                    refine rt_block ?_
                                                    refine rt_then ?_
                                                    refine rt_then ?_
                                                    refine rt_block ?_
                                                    refine rt_then ?_
                                                    refine res1 (v := .bool _) rfl rfl ?_
                                                    exact ⟨rfl, ((hB.next E51).next E57)⟩
                                               · (try first | replace Q92 := bn_t Q92 | replace Q92 := bn_f Q92)
                                                 (try first | replace Q92 := bx_t Q92 | replace Q92 := bx_f Q92 | replace Q92 := be_t Q92 | replace Q92 := be_f Q92 | replace Q92 := of_decide_eq_true Q92 | replace Q92 := of_decide_eq_false Q92)
                                                 first
                                                  | (exfalso; first | omega | contradiction | (cases Q92; done))
                                                  | skip
                                                    refine cd_skip ?_
                                                    refine nx_then ?_
                                                    refine cd_exit ?_
                                                    refine ex_then ?_
                                                    refine ex_block ?_
                                                    refine nx_then ?_
                                                    refine cd_region ?_
                                                    refine st_val (ro_move (v := .int _ _) rfl) ?_
                                                    refine st_val (ro_add64 rfl rfl (by omega)) ?_
                                                    refine st_val (ro_assign (v := .int _ _) rfl) ?_
                                                    refine st_nil ?_
                                                    refine nx_cut (i + 1) ⟨(by first | rfl | (refine int_eq ?_; omega)), trivial⟩ (by (iterate 128 refine agr_cons rfl ?_); exact agr_rfl) ⟨?_, ?_⟩
                                                    · exact ⟨by omega, hv.from_ ((From.rfl_.next E51).next E57), hP1.from_ ((From.rfl_.next E51).next E57), ((hB.next E51).next E57)⟩
                                                    · omega
                           · (try first | replace Q86 := bn_t Q86 | replace Q86 := bn_f Q86)
                             (try first | replace Q86 := bx_t Q86 | replace Q86 := bx_f Q86 | replace Q86 := be_t Q86 | replace Q86 := be_f Q86 | replace Q86 := of_decide_eq_true Q86 | replace Q86 := of_decide_eq_false Q86)
                             obtain ⟨q, hq⟩ : ∃ q : Nat, i = (q : Int) := ⟨i.toNat, by omega⟩
                             have hE0 : sE L i = 0 := by unfold sE; rw [if_pos (by omega)]
                             have hSq : sV L i = st L q := by unfold sV; rw [if_pos (by omega), show i.toNat = q by omega]
                             have hNq : nV L i = L[q] := by
                               unfold nV
                               rw [if_pos (by omega), show i.toNat = q by omega, List.getD_eq_getElem?_getD, List.getElem?_eq_getElem (by omega)]
                               rfl
                             obtain ⟨ba, oa, rfl, hca⟩ := hr (by omega)
                             first
                              | (exfalso; first | omega | contradiction | (cases Q86; done))
                              | skip
                                refine cd_skip ?_
                                refine nx_then ?_
                                refine cd_seq ?_
                                refine cd_region ?_
                                refine st_val (ro_move (v := .int _ _) rfl) ?_
                                refine st_call BndTexts_k15 (num_any _ _) ?_
                                rintro v86 w93 ⟨rfl, rfl⟩
                                refine st_val (ro_neq rfl rfl) ?_
                                refine st_val (ro_move (v := .bool _) rfl) ?_
                                refine st_split (t := 88) rfl (fun Q94 => ?_) (fun Q94 => ?_)
                                · (try first | replace Q94 := bn_t Q94 | replace Q94 := bn_f Q94)
                                  (try first | replace Q94 := bx_t Q94 | replace Q94 := bx_f Q94 | replace Q94 := be_t Q94 | replace Q94 := be_f Q94 | replace Q94 := of_decide_eq_true Q94 | replace Q94 := of_decide_eq_false Q94)
                                  first
                                   | (exfalso; first | omega | contradiction | (cases Q94; done))
                                   | skip
                                     refine st_gno rfl rfl ?_
                                     refine st_gno rfl rfl ?_
                                     refine st_gno rfl rfl ?_
                                     refine st_val (ro_pickT (v := .bool _) rfl rfl) ?_
                                     refine st_val (ro_move (v := .bool _) rfl) ?_
                                     refine st_gno rfl rfl ?_
                                     refine st_gno rfl rfl ?_
                                     refine st_gno rfl rfl ?_
                                     refine st_gno rfl rfl ?_
                                     refine st_gno rfl rfl ?_
                                     refine st_gno rfl rfl ?_
                                     refine st_val (ro_pickT (v := .bool _) rfl rfl) ?_
                                     refine st_val (ro_move (v := .bool _) rfl) ?_
                                     refine st_gno rfl rfl ?_
                                     refine st_gno rfl rfl ?_
                                     refine st_gno rfl rfl ?_
                                     refine st_gno rfl rfl ?_
                                     refine st_gno rfl rfl ?_
                                     refine st_gno rfl rfl ?_
                                     refine st_gno rfl rfl ?_
                                     refine st_val (ro_pickT (v := .bool _) rfl rfl) ?_
                                     refine st_nil ?_
                                     refine nx_then ?_
                                     refine cd_condT rfl ?_
                                     refine cd_seq ?_
                                     refine cd_region ?_
                                     refine st_val (ro_assign (v := .bool _) rfl) ?_
                                     refine st_nil ?_
                                     refine nx_then ?_
                                     refine cd_ret ?_
                                     refine rt_block ?_
                                     refine rt_then ?_
                                     refine rt_then ?_
                                     refine rt_block ?_
                                     refine rt_then ?_
                                     refine res1 (v := .bool _) rfl rfl ?_
                                     exact ⟨rfl, ((hB.next E51).next E57)⟩
                                · (try first | replace Q94 := bn_t Q94 | replace Q94 := bn_f Q94)
                                  (try first | replace Q94 := bx_t Q94 | replace Q94 := bx_f Q94 | replace Q94 := be_t Q94 | replace Q94 := be_f Q94 | replace Q94 := of_decide_eq_true Q94 | replace Q94 := of_decide_eq_false Q94)
                                  first
                                   | (exfalso; first | omega | contradiction | (cases Q94; done))
                                   | skip
                                     refine st_unguard rfl ?_
                                     refine st_val (ro_move (v := .int _ _) rfl) ?_
                                     refine st_unguard rfl ?_
                                     refine st_call BndTexts_k15 (num_any _ _) ?_
                                     rintro v90 w95 ⟨rfl, rfl⟩
                                     refine st_unguard rfl ?_
                                     refine st_val (ro_neq rfl rfl) ?_
                                     refine st_val (ro_pickF (v := .bool _) rfl rfl) ?_
                                     refine st_val (ro_move (v := .bool _) rfl) ?_
                                     refine st_split (t := 93) rfl (fun Q96 => ?_) (fun Q96 => ?_)
                                     · (try first | replace Q96 := bn_t Q96 | replace Q96 := bn_f Q96)
                                       (try first | replace Q96 := bx_t Q96 | replace Q96 := bx_f Q96 | replace Q96 := be_t Q96 | replace Q96 := be_f Q96 | replace Q96 := of_decide_eq_true Q96 | replace Q96 := of_decide_eq_false Q96)
                                       first
                                        | (exfalso; first | omega | contradiction | (cases Q96; done))
                                        | skip
                                          refine st_gno rfl rfl ?_
                                          refine st_gno rfl rfl ?_
                                          refine st_gno rfl rfl ?_
                                          refine st_gno rfl rfl ?_
                                          refine st_gno rfl rfl ?_
                                          refine st_gno rfl rfl ?_
                                          refine st_val (ro_pickT (v := .bool _) rfl rfl) ?_
                                          refine st_val (ro_move (v := .bool _) rfl) ?_
                                          refine st_gno rfl rfl ?_
                                          refine st_gno rfl rfl ?_
                                          refine st_gno rfl rfl ?_
                                          refine st_gno rfl rfl ?_
                                          refine st_gno rfl rfl ?_
                                          refine st_gno rfl rfl ?_
                                          refine st_gno rfl rfl ?_
                                          refine st_val (ro_pickT (v := .bool _) rfl rfl) ?_
                                          refine st_nil ?_
                                          refine nx_then ?_
                                          refine cd_condT rfl ?_
                                          refine cd_seq ?_
                                          refine cd_region ?_
                                          refine st_val (ro_assign (v := .bool _) rfl) ?_
                                          refine st_nil ?_
                                          refine nx_then ?_
                                          refine cd_ret ?_
                                          refine rt_block ?_
                                          refine rt_then ?_
                                          refine rt_then ?_
                                          refine rt_block ?_
                                          refine rt_then ?_
                                          refine res1 (v := .bool _) rfl rfl ?_
                                          exact ⟨rfl, ((hB.next E51).next E57)⟩
                                     · (try first | replace Q96 := bn_t Q96 | replace Q96 := bn_f Q96)
                                       (try first | replace Q96 := bx_t Q96 | replace Q96 := bx_f Q96 | replace Q96 := be_t Q96 | replace Q96 := be_f Q96 | replace Q96 := of_decide_eq_true Q96 | replace Q96 := of_decide_eq_false Q96)
                                       first
                                        | (exfalso; first | omega | contradiction | (cases Q96; done))
                                        | skip
                                          refine st_unguard rfl ?_
                                          refine st_val (ro_move (v := .int _ _) rfl) ?_
                                          refine st_unguard rfl ?_
                                          refine st_val (ro_fieldAddr BndTexts_f24_0 rfl) ?_
                                          refine st_unguard rfl ?_
                                          refine st_val (ro_load BndTexts_g22 rfl (by first | (first | exact (hP1.from_ ((From.rfl_.next E51).next E57)).whole | exact (hP1.from_ ((From.rfl_.next E51).next E57)).rd 0 rfl | exact (hP1.from_ ((From.rfl_.next E51).next E57)).rd 1 rfl) | (first | exact (hk1.from_ ((From.rfl_.next E51).next E57)).whole | exact (hk1.from_ ((From.rfl_.next E51).next E57)).rd 0 rfl | exact (hk1.from_ ((From.rfl_.next E51).next E57)).rd 1 rfl))) ?_
                                          refine st_unguard rfl ?_
                                          refine st_val (ro_move (v := .int _ _) rfl) ?_
                                          refine st_spell (t := 97) (v := .int _ _) (v' := .int .i64 (q : Nat)) rfl (by rw [hq]) ?_
                                          refine st_unguard rfl ?_
                                          refine st_call BndTexts_k12 (refStart_rt _ ca q L _ (hr.from_ ((hB.next E51).next E57)) hG (by omega)) ?_
                                          rintro v98 w97 ⟨rfl, rfl⟩
                                          refine st_unguard rfl ?_
                                          refine st_val (ro_neq rfl rfl) ?_
                                          refine st_val (ro_pickF (v := .bool _) rfl rfl) ?_
                                          refine st_val (ro_move (v := .bool _) rfl) ?_
                                          refine st_split (t := 101) rfl (fun Q98 => ?_) (fun Q98 => ?_)
                                          · (try first | replace Q98 := bn_t Q98 | replace Q98 := bn_f Q98)
                                            (try first | replace Q98 := bx_t Q98 | replace Q98 := bx_f Q98 | replace Q98 := be_t Q98 | replace Q98 := be_f Q98 | replace Q98 := of_decide_eq_true Q98 | replace Q98 := of_decide_eq_false Q98)
                                            first
                                             | (exfalso; first | omega | contradiction | (cases Q98; done))
                                             | skip
                                               refine st_gno rfl rfl ?_
                                               refine st_gno rfl rfl ?_
                                               refine st_gno rfl rfl ?_
                                               refine st_gno rfl rfl ?_
                                               refine st_gno rfl rfl ?_
                                               refine st_gno rfl rfl ?_
                                               refine st_gno rfl rfl ?_
                                               refine st_val (ro_pickT (v := .bool _) rfl rfl) ?_
                                               refine st_nil ?_
                                               refine nx_then ?_
                                               refine cd_condT rfl ?_
                                               refine cd_seq ?_
                                               refine cd_region ?_
                                               refine st_val (ro_assign (v := .bool _) rfl) ?_
                                               refine st_nil ?_
                                               refine nx_then ?_
                                               refine cd_ret ?_
                                               refine rt_block ?_
                                               refine rt_then ?_
                                               refine rt_then ?_
                                               refine rt_block ?_
                                               refine rt_then ?_
                                               refine res1 (v := .bool _) rfl rfl ?_
                                               exact ⟨rfl, ((hB.next E51).next E57)⟩
                                          · (try first | replace Q98 := bn_t Q98 | replace Q98 := bn_f Q98)
                                            (try first | replace Q98 := bx_t Q98 | replace Q98 := bx_f Q98 | replace Q98 := be_t Q98 | replace Q98 := be_f Q98 | replace Q98 := of_decide_eq_true Q98 | replace Q98 := of_decide_eq_false Q98)
                                            first
                                             | (exfalso; first | omega | contradiction | (cases Q98; done))
                                             | skip
                                               refine st_unguard rfl ?_
                                               refine st_val (ro_move (v := .int _ _) rfl) ?_
                                               refine st_unguard rfl ?_
                                               refine st_val (ro_fieldAddr BndTexts_f24_0 rfl) ?_
                                               refine st_unguard rfl ?_
                                               refine st_val (ro_load BndTexts_g22 rfl (by first | (first | exact (hP1.from_ ((From.rfl_.next E51).next E57)).whole | exact (hP1.from_ ((From.rfl_.next E51).next E57)).rd 0 rfl | exact (hP1.from_ ((From.rfl_.next E51).next E57)).rd 1 rfl) | (first | exact (hk1.from_ ((From.rfl_.next E51).next E57)).whole | exact (hk1.from_ ((From.rfl_.next E51).next E57)).rd 0 rfl | exact (hk1.from_ ((From.rfl_.next E51).next E57)).rd 1 rfl))) ?_
                                               refine st_unguard rfl ?_
                                               refine st_val (ro_move (v := .int _ _) rfl) ?_
                                               refine st_spell (t := 105) (v := .int _ _) (v' := .int .i64 (q : Nat)) rfl (by rw [hq]) ?_
                                               refine st_unguard rfl ?_
                                               refine st_val (ro_indexAddr1 BndTexts_e22 rfl rfl (by omega)) ?_
                                               refine st_unguard rfl ?_
                                               refine st_val (ro_load BndTexts_g3 rfl (by exact cellF ((hB.next E51).next E57) (hca q (by omega)))) ?_
                                               refine st_unguard rfl ?_
                                               refine st_val (ro_neq rfl rfl) ?_
                                               refine st_val (ro_pickF (v := .bool _) rfl rfl) ?_
                                               refine st_nil ?_
                                               refine nx_then ?_
                                               refine cd_cond rfl (fun Q99 => ?_) (fun Q99 => ?_)
                                               · (try first | replace Q99 := bn_t Q99 | replace Q99 := bn_f Q99)
                                                 (try first | replace Q99 := bx_t Q99 | replace Q99 := bx_f Q99 | replace Q99 := be_t Q99 | replace Q99 := be_f Q99 | replace Q99 := of_decide_eq_true Q99 | replace Q99 := of_decide_eq_false Q99)
                                                 first
                                                  | (exfalso; first | omega | contradiction | (cases Q99; done))
                                                  | skip
                                                    refine cd_seq ?_
                                                    refine cd_region ?_
                                                    refine st_val (ro_assign (v := .bool _) rfl) ?_
                                                    refine st_nil ?_
                                                    refine nx_then ?_
                                                    refine cd_ret ?_
                                                    refine rt_block ?_
                                                    refine rt_then ?_
                                                    refine rt_then ?_
                                                    refine rt_block ?_
                                                    refine rt_then ?_
                                                    refine res1 (v := .bool _) rfl rfl ?_
                                                    exact ⟨rfl, ((hB.next E51).next E57)⟩
                                               · (try first | replace Q99 := bn_t Q99 | replace Q99 := bn_f Q99)
                                                 (try first | replace Q99 := bx_t Q99 | replace Q99 := bx_f Q99 | replace Q99 := be_t Q99 | replace Q99 := be_f Q99 | replace Q99 := of_decide_eq_true Q99 | replace Q99 := of_decide_eq_false Q99)
                                                 first
                                                  | (exfalso; first | omega | contradiction | (cases Q99; done))
                                                  | skip
                                                    refine cd_skip ?_
                                                    refine nx_block ?_
                                                    refine nx_then ?_
                                                    refine cd_region ?_
                                                    refine st_val (ro_move (v := .int _ _) rfl) ?_
                                                    refine st_val (ro_add64 rfl rfl (by omega)) ?_
                                                    refine st_val (ro_assign (v := .int _ _) rfl) ?_
                                                    refine st_nil ?_
                                                    refine nx_cut (i + 1) ⟨(by first | rfl | (refine int_eq ?_; omega)), trivial⟩ (by (iterate 139 refine agr_cons rfl ?_); exact agr_rfl) ⟨?_, ?_⟩
                                                    · exact ⟨by omega, hv.from_ ((From.rfl_.next E51).next E57), hP1.from_ ((From.rfl_.next E51).next E57), ((hB.next E51).next E57)⟩
                                                    · omega
                 · (try first | replace Q76 := bn_t Q76 | replace Q76 := bn_f Q76)
                   (try first | replace Q76 := bx_t Q76 | replace Q76 := bx_f Q76 | replace Q76 := be_t Q76 | replace Q76 := be_f Q76 | replace Q76 := of_decide_eq_true Q76 | replace Q76 := of_decide_eq_false Q76)
                   first
                    | (exfalso; first | omega | contradiction | (cases Q76; done))
                    | skip
                      refine cd_exit ?_
                      refine ex_then ?_
                      refine ex_then ?_
                      refine ex_block ?_
                      refine nx_then ?_
                      refine cd_seq ?_
                      refine cd_region ?_
                      refine st_call BndTexts_k9 (wakes_any _) ?_
                      rintro v110 w100 ⟨rfl, E110⟩
                      refine st_val (ro_assign (v := .bool _) rfl) ?_
                      refine st_nil ?_
                      refine nx_then ?_
                      refine cd_ret ?_
                      refine res1 (v := .bool _) rfl rfl ?_
                      exact ⟨rfl, (hB.next E110)⟩
theorem texts_arg (cs : Array Value) (x : askT.den) (w : World) (hs : cs.size = 2) (h : askT.At w (fun j => cs[j]?) x) : Rt Try.prog 3 [.agg cs] w fun v w' => v = .bool true ∧ From w w' := by
  obtain ⟨A, ca, L, B, cb, is, rfl, h1, h2, h3, h4⟩ := ask_of hs h
  exact texts_law A B ca cb L is w h1 h2 h3 h4
set_option maxRecDepth 100000 in
theorem BoundsTexts_lifted (os : Os) (started : os.Started) (H : Type) (enc : TypeId × Value → H) :
    ReturnsInHanded {} Try.checked os 3 .any (Rows.boundsTextsSpec.pre6 enc Try.prog Try.f3 Rows.boundsTextsRow.domain false) (Rows.boundsTextsSpec.post enc Try.prog Try.f3 false true false false) := by
  refine returnsInHanded_of_change_sized (C := Try.checked) Try.own started (by kernel_rfl) Try.func3
    (ChangeSpec.witness6 (enc := enc) (C := Try.checked) false ⟨#[], #[.agg #[.slice none 0 0, .slice none 0 0]], []⟩ 8 (by kernel_rfl) (by kernel_rfl) (by kernel_rfl) (by kernel_rfl)) ?_
  intro W base args ds gs before hval hW _ hsz _
  exact law_step 3 Try.f3 24 4 Rows.boundsTextsSpec Try.params3 (by kernel_rfl) Try.underlying4 rfl (fun _ => rfl) (by kernel_rfl) (of_decide_eq_true (by kernel_rfl)) (walk_struct (.sl (.int .i64)) (.pr (.sl (.int .i64)) .unit) (by kernel_rfl) texts_arg) W base args ds gs before hval hW hsz

theorem BoundsTexts_holds : Rows.BoundsTextsSaid :=
  OpenClaim.holds_of_wide 3 Try.f3 rfl rfl rfl rfl rfl rfl rfl ⟨rfl, rfl, rfl, rfl, rfl⟩ rfl rfl rfl rfl rfl (by kernel_rfl) Try.func3 (by kernel_rfl)
    (of_decide_eq_true (by kernel_rfl)) (by unfold Func.isWrapper; first | (rw [if_pos (by decide +kernel)]; kernel_rfl) | (rw [if_neg (by decide +kernel)]; exact ⟨rfl, rfl⟩))
    (fun os started H enc _ => BoundsTexts_lifted os started H enc)
#print axioms BoundsTexts_holds

end Go.Proofs.Ytkmcdhllldlbgaa
