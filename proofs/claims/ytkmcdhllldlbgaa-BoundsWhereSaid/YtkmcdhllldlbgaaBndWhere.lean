/- The law BoundsWhere. -/
import Derived.Test.YtkmcdhllldlbgaaBndHelp
namespace Go.Proofs.Ytkmcdhllldlbgaa
open Go.RowKit
open Go.ChangeShapes Go.WideShapes Go.ChangeAt
theorem BndWhere_g24 : aggQ Try.prog 24 = some true := by kernel_rfl
theorem BndWhere_z24 : sizeQ Try.prog 24 = some 2 := by kernel_rfl
theorem BndWhere_k7 : callable Try.prog 7 = true := by kernel_rfl
theorem BndWhere_k8 : callable Try.prog 8 = true := by kernel_rfl
theorem BndWhere_p26 : Try.prog.underlying 26 = some (.pointer (Try.prog.pointee 26)) := by kernel_rfl
theorem BndWhere_k9 : callable Try.prog 9 = true := by kernel_rfl
theorem BndWhere_f24_0 : fieldQ Try.prog 24 0 = some 0 := by kernel_rfl
theorem BndWhere_g22 : aggQ Try.prog 22 = some false := by kernel_rfl
theorem BndWhere_l22 : (elemQ Try.prog 22).isSome = true := by kernel_rfl
theorem BndWhere_k12 : callable Try.prog 12 = true := by kernel_rfl
theorem BndWhere_f24_1 : fieldQ Try.prog 24 1 = some 1 := by kernel_rfl
theorem BndWhere_e22 : elemQ Try.prog 22 = some (3, 1) := by kernel_rfl
theorem BndWhere_g3 : aggQ Try.prog 3 = some false := by kernel_rfl
theorem BndWhere_k16 : callable Try.prog 16 = true := by kernel_rfl
theorem BndWhere_k15 : callable Try.prog 15 = true := by kernel_rfl
theorem BndWhere_k17 : callable Try.prog 17 = true := by kernel_rfl
set_option maxRecDepth 100000 in
set_option maxHeartbeats 3000000 in
theorem where_law (A B : Option Addr) (ca cb : Nat) (L is : List Int) (w : World) (hr : RowOf iV w A L) (hb64 : ∀ x ∈ L, -9223372036854775808 ≤ x ∧ x ≤ 9223372036854775807) (hrB : RowOf iV w B is) (hB64 : ∀ x ∈ is, -9223372036854775808 ≤ x ∧ x ≤ 9223372036854775807) :
    Rt Try.prog 4 [.agg #[.slice A L.length ca, .slice B is.length cb]] w (fun v w' => v = .bool true ∧ From w w') := by
  refine enter (n := 91) Try.func4 rfl rfl rfl ?_
  refine cd_seq ?_
  refine cd_region ?_
  refine st_box (v := .agg _) rfl ?_
  intro b1 w1 E1 hb1 hk1
  refine st_val (ro_assign (v := .bool _) rfl) ?_
  refine st_nil ?_
  refine nx_then ?_
  refine cd_seq ?_
  refine cd_seq ?_
  refine cd_region ?_
  refine st_val (ro_loadA (cs := [_, _]) BndWhere_g24 BndWhere_z24 rfl (by first | (first | exact (hP1.from_ From.rfl_).whole | exact (hP1.from_ From.rfl_).rd 0 rfl | exact (hP1.from_ From.rfl_).rd 1 rfl) | (first | exact (hk1.from_ From.rfl_).whole | exact (hk1.from_ From.rfl_).rd 0 rfl | exact (hk1.from_ From.rfl_).rd 1 rfl))) ?_
  refine st_call BndWhere_k7 (heavy_any A B _ ca _ cb _) ?_
  rintro v14 w2 ⟨rfl, E14⟩
  refine st_nil ?_
  refine nx_then ?_
  refine cd_cond rfl (fun Q3 => ?_) (fun Q3 => ?_)
  · (try first | replace Q3 := bn_t Q3 | replace Q3 := bn_f Q3)
    (try first | replace Q3 := bx_t Q3 | replace Q3 := bx_f Q3 | replace Q3 := be_t Q3 | replace Q3 := be_f Q3 | replace Q3 := of_decide_eq_true Q3 | replace Q3 := of_decide_eq_false Q3)
    first
     | (exfalso; first | omega | contradiction | (cases Q3; done))
     | skip
       refine cd_seq ?_
       refine cd_region ?_
       refine st_val (ro_assign (v := .bool _) rfl) ?_
       refine st_nil ?_
       refine nx_then ?_
       refine cd_ret ?_
       refine rt_then ?_
       refine res1 (v := .bool _) rfl rfl ?_
       exact ⟨rfl, ((From.rfl_.next E1).next E14)⟩
  · (try first | replace Q3 := bn_t Q3 | replace Q3 := bn_f Q3)
    (try first | replace Q3 := bx_t Q3 | replace Q3 := bx_f Q3 | replace Q3 := be_t Q3 | replace Q3 := be_f Q3 | replace Q3 := of_decide_eq_true Q3 | replace Q3 := of_decide_eq_false Q3)
    first
     | (exfalso; first | omega | contradiction | (cases Q3; done))
     | skip
       refine cd_skip ?_
       refine nx_then ?_
       refine cd_seq ?_
       refine cd_region ?_
       refine st_val (ro_loadA (cs := [_, _]) BndWhere_g24 BndWhere_z24 rfl (by first | (first | exact (hP1.from_ (From.rfl_.next E14)).whole | exact (hP1.from_ (From.rfl_.next E14)).rd 0 rfl | exact (hP1.from_ (From.rfl_.next E14)).rd 1 rfl) | (first | exact (hk1.from_ (From.rfl_.next E14)).whole | exact (hk1.from_ (From.rfl_.next E14)).rd 0 rfl | exact (hk1.from_ (From.rfl_.next E14)).rd 1 rfl))) ?_
       have hz17 := (((From.rfl_.next E1).next E14)).size
       refine st_call BndWhere_k8 (made_rt A B ca _ cb L _ (hr.from_ ((From.rfl_.next E1).next E14)) hb64 (by omega)) ?_
       rintro v17 w4 ⟨hn17, E17⟩
       replace hk1 := hk1.from_ ((From.rfl_.next E14).next E17)
       rcases hn17 with ⟨hne, rfl⟩ | ⟨hz, b, rfl, hv⟩
       · refine st_val (ro_move (v := .tuple _) rfl) ?_
         refine st_val (ro_extract rfl rfl) ?_
         refine st_val (ro_extract rfl rfl) ?_
         refine st_val (ro_assign (v := .pointer _) rfl) ?_
         refine st_val (ro_assign (v := .int _ _) rfl) ?_
         refine st_nil ?_
         refine nx_then ?_
         refine cd_seq ?_
         refine cd_seq ?_
         refine cd_region ?_
         refine st_val (ro_move (v := .pointer _) rfl) ?_
         refine st_val (ro_eqlNil BndWhere_p26 rfl rfl) ?_
         refine st_nil ?_
         refine nx_then ?_
         refine cd_cond rfl (fun Q5 => ?_) (fun Q5 => ?_)
         · (try first | replace Q5 := bn_t Q5 | replace Q5 := bn_f Q5)
           (try first | replace Q5 := bx_t Q5 | replace Q5 := bx_f Q5 | replace Q5 := be_t Q5 | replace Q5 := be_f Q5 | replace Q5 := of_decide_eq_true Q5 | replace Q5 := of_decide_eq_false Q5)
           first
            | (exfalso; first | omega | contradiction | (cases Q5; done))
            | skip
              refine cd_seq ?_
              refine cd_region ?_
              refine st_val (ro_move (v := .int _ _) rfl) ?_
              refine st_val (ro_neq rfl rfl) ?_
              refine st_val (ro_move (v := .bool _) rfl) ?_
              refine st_split (t := 24) rfl (fun Q6 => ?_) (fun Q6 => ?_)
              · (try first | replace Q6 := bn_t Q6 | replace Q6 := bn_f Q6)
                (try first | replace Q6 := bx_t Q6 | replace Q6 := bx_f Q6 | replace Q6 := be_t Q6 | replace Q6 := be_f Q6 | replace Q6 := of_decide_eq_true Q6 | replace Q6 := of_decide_eq_false Q6)
                first
                 | (exfalso; first | omega | contradiction | (cases Q6; done))
                 | skip
                   refine st_unguard rfl ?_
                   refine st_call BndWhere_k9 (wakes_any _) ?_
                   rintro v25 w7 ⟨rfl, E25⟩
                   refine st_val (ro_pickT (v := .bool _) rfl rfl) ?_
                   refine st_val (ro_assign (v := .bool _) rfl) ?_
                   refine st_nil ?_
                   refine nx_then ?_
                   refine cd_ret ?_
                   refine rt_then ?_
                   refine res1 (v := .bool _) rfl rfl ?_
                   exact ⟨rfl, ((((From.rfl_.next E1).next E14).next E17).next E25)⟩
              · (try first | replace Q6 := bn_t Q6 | replace Q6 := bn_f Q6)
                (try first | replace Q6 := bx_t Q6 | replace Q6 := bx_f Q6 | replace Q6 := be_t Q6 | replace Q6 := be_f Q6 | replace Q6 := of_decide_eq_true Q6 | replace Q6 := of_decide_eq_false Q6)
                first
                 | (exfalso; first | omega | contradiction | (cases Q6; done))
                 | skip
                   refine st_gno rfl rfl ?_
                   refine st_val (ro_pickF (v := .bool _) rfl rfl) ?_
                   refine st_val (ro_assign (v := .bool _) rfl) ?_
                   refine st_nil ?_
                   refine nx_then ?_
                   refine cd_ret ?_
                   refine rt_then ?_
                   refine res1 (v := .bool _) rfl rfl ?_
                   exact ⟨rfl, (((From.rfl_.next E1).next E14).next E17)⟩
         · (try first | replace Q5 := bn_t Q5 | replace Q5 := bn_f Q5)
           (try first | replace Q5 := bx_t Q5 | replace Q5 := bx_f Q5 | replace Q5 := be_t Q5 | replace Q5 := be_f Q5 | replace Q5 := of_decide_eq_true Q5 | replace Q5 := of_decide_eq_false Q5)
           first
            | (exfalso; first | omega | contradiction | (cases Q5; done))
            | skip
              refine cd_skip ?_
              refine nx_then ?_
              refine cd_seq ?_
              refine cd_region ?_
              refine st_val (ro_fieldAddr BndWhere_f24_0 rfl) ?_
              refine st_val (ro_load BndWhere_g22 rfl (by first | (first | exact (hP1.from_ From.rfl_).whole | exact (hP1.from_ From.rfl_).rd 0 rfl | exact (hP1.from_ From.rfl_).rd 1 rfl) | (first | exact (hk1.from_ From.rfl_).whole | exact (hk1.from_ From.rfl_).rd 0 rfl | exact (hk1.from_ From.rfl_).rd 1 rfl))) ?_
              refine st_val (ro_fieldAddr BndWhere_f24_0 rfl) ?_
              refine st_val (ro_load BndWhere_g22 rfl (by first | (first | exact (hP1.from_ From.rfl_).whole | exact (hP1.from_ From.rfl_).rd 0 rfl | exact (hP1.from_ From.rfl_).rd 1 rfl) | (first | exact (hk1.from_ From.rfl_).whole | exact (hk1.from_ From.rfl_).rd 0 rfl | exact (hk1.from_ From.rfl_).rd 1 rfl))) ?_
              refine st_val (ro_len BndWhere_l22 rfl) ?_
              refine st_call BndWhere_k12 (refStart_rt A ca L.length L _ (hr.from_ (((From.rfl_.next E1).next E14).next E17)) hG (Nat.le_refl _)) ?_
              rintro v32 w8 ⟨rfl, rfl⟩
              refine st_val (ro_assign (v := .int _ _) rfl) ?_
              refine st_nil ?_
              refine nx_then ?_
              refine cd_seq ?_
              refine cd_seq ?_
              refine cd_region ?_
              refine st_val (ro_assign (v := .int _ _) rfl) ?_
              refine st_nil ?_
              refine nx_then ?_
              refine cd_block ?_
              refine cd_loop (G := Nat) [2, 7, 8, 9, 10, 11, 12, 33, 34, 35, 36, 37, 38, 39, 40, 41, 42, 43, 44, 45, 46, 47, 48, 49, 50, 51, 52, 53, 54, 55, 56, 57, 58, 59, 60, 61, 62, 63, 64, 65, 66, 67, 68, 69, 70, 71, 72, 73, 74, 75, 76, 77, 78, 79, 80, 81, 82, 83, 84, 85, 86, 87, 88, 89] (fun k => [(6, .int .i64 (k : Nat))]) (fun k w' => k ≤ is.length ∧ BAt w' w.heap.size b L ∧ Blk w' b1 24 #[.slice A L.length ca, .slice B is.length cb] ∧ From w w') (fun k => is.length - k) (0) ⟨rfl, trivial⟩ ?_ ?_
              · exact ⟨Nat.zero_le _, hv.from_ From.rfl_, hk1.from_ From.rfl_, (((From.rfl_.next E1).next E14).next E17)⟩
              rintro k ρ9 w9 ⟨hk, hv, hP1, hB⟩
              refine cd_seq ?_
              refine cd_seq ?_
              refine cd_region ?_
              refine st_val (ro_move (v := .int _ _) rfl) ?_
              refine st_val (ro_fieldAddr BndWhere_f24_1 rfl) ?_
              refine st_val (ro_load BndWhere_g22 rfl (by first | (first | exact (hP1.from_ From.rfl_).whole | exact (hP1.from_ From.rfl_).rd 0 rfl | exact (hP1.from_ From.rfl_).rd 1 rfl) | (first | exact (hk1.from_ From.rfl_).whole | exact (hk1.from_ From.rfl_).rd 0 rfl | exact (hk1.from_ From.rfl_).rd 1 rfl))) ?_
              refine st_val (ro_len BndWhere_l22 rfl) ?_
              refine st_val (ro_lss rfl rfl) ?_
              refine st_nil ?_
              refine nx_then ?_
              refine cd_cond rfl (fun Q10 => ?_) (fun Q10 => ?_)
              · (try first | replace Q10 := bn_t Q10 | replace Q10 := bn_f Q10)
                (try first | replace Q10 := bx_t Q10 | replace Q10 := bx_f Q10 | replace Q10 := be_t Q10 | replace Q10 := be_f Q10 | replace Q10 := of_decide_eq_true Q10 | replace Q10 := of_decide_eq_false Q10)
                obtain ⟨bb, ob, rfl, hcb⟩ := hrB (by omega)
                first
                 | (exfalso; first | omega | contradiction | (cases Q10; done))
                 | skip
                   refine cd_skip ?_
                   refine nx_then ?_
                   refine cd_seq ?_
                   refine cd_block ?_
                   refine cd_seq ?_
                   refine cd_region ?_
                   refine st_val (ro_fieldAddr BndWhere_f24_1 rfl) ?_
                   refine st_val (ro_load BndWhere_g22 rfl (by first | (first | exact (hP1.from_ From.rfl_).whole | exact (hP1.from_ From.rfl_).rd 0 rfl | exact (hP1.from_ From.rfl_).rd 1 rfl) | (first | exact (hk1.from_ From.rfl_).whole | exact (hk1.from_ From.rfl_).rd 0 rfl | exact (hk1.from_ From.rfl_).rd 1 rfl))) ?_
                   refine st_val (ro_move (v := .int _ _) rfl) ?_
                   refine st_val (ro_indexAddr1 BndWhere_e22 rfl rfl (by omega)) ?_
                   refine st_val (ro_load BndWhere_g3 rfl (by exact cellF hB (hcb k (by omega)))) ?_
                   refine st_val (ro_assign (v := .int _ _) rfl) ?_
                   refine st_nil ?_
                   refine nx_then ?_
                   refine cd_seq ?_
                   refine cd_region ?_
                   refine st_val (ro_move (v := .pointer _) rfl) ?_
                   refine st_val (ro_move (v := .int _ _) rfl) ?_
                   refine st_call BndWhere_k16 (where_any _ b L _ (hv.from_ From.rfl_) is[k]) ?_
                   rintro v48 w11 ⟨hw48, E48⟩
                   rcases hw48 with ⟨hout, rfl⟩ | ⟨q, hq, hq1, hq2, rfl⟩
                   · refine st_val (ro_move (v := .tuple _) rfl) ?_
                     refine st_val (ro_extract rfl rfl) ?_
                     refine st_val (ro_extract rfl rfl) ?_
                     refine st_val (ro_extract rfl rfl) ?_
                     refine st_val (ro_assign (v := .int _ _) rfl) ?_
                     refine st_val (ro_assign (v := .int _ _) rfl) ?_
                     refine st_val (ro_assign (v := .int _ _) rfl) ?_
                     refine st_nil ?_
                     refine nx_then ?_
                     refine cd_seq ?_
                     refine cd_seq ?_
                     refine cd_region ?_
                     refine st_val (ro_move (v := .int _ _) rfl) ?_
                     refine st_val (ro_lss rfl rfl) ?_
                     refine st_val (ro_move (v := .bool _) rfl) ?_
                     refine st_split (t := 54) rfl (fun Q12 => ?_) (fun Q12 => ?_)
                     · (try first | replace Q12 := bn_t Q12 | replace Q12 := bn_f Q12)
                       (try first | replace Q12 := bx_t Q12 | replace Q12 := bx_f Q12 | replace Q12 := be_t Q12 | replace Q12 := be_f Q12 | replace Q12 := of_decide_eq_true Q12 | replace Q12 := of_decide_eq_false Q12)
                       first
                        | (exfalso; first | omega | contradiction | (cases Q12; done))
                        | skip
                          refine st_gno rfl rfl ?_
                          refine st_gno rfl rfl ?_
                          refine st_gno rfl rfl ?_
                          refine st_val (ro_pickT (v := .bool _) rfl rfl) ?_
                          refine st_nil ?_
                          refine nx_then ?_
                          refine cd_condT rfl ?_
                          refine cd_seq ?_
                          refine cd_seq ?_
                          refine cd_region ?_
                          refine st_val (ro_move (v := .int _ _) rfl) ?_
                          refine st_call BndWhere_k15 (num_any _ _) ?_
                          rintro v60 w13 ⟨rfl, rfl⟩
                          refine st_val (ro_neq rfl rfl) ?_
                          refine st_val (ro_move (v := .bool _) rfl) ?_
                          refine st_split (t := 62) rfl (fun Q14 => ?_) (fun Q14 => ?_)
                          · (try first | replace Q14 := bn_t Q14 | replace Q14 := bn_f Q14)
                            (try first | replace Q14 := bx_t Q14 | replace Q14 := bx_f Q14 | replace Q14 := be_t Q14 | replace Q14 := be_f Q14 | replace Q14 := of_decide_eq_true Q14 | replace Q14 := of_decide_eq_false Q14)
                            first
                             | (exfalso; first | omega | contradiction | (cases Q14; done))
                             | skip
                               refine st_gno rfl rfl ?_
                               refine st_gno rfl rfl ?_
                               refine st_val (ro_pickT (v := .bool _) rfl rfl) ?_
                               refine st_val (ro_move (v := .bool _) rfl) ?_
                               refine st_gno rfl rfl ?_
                               refine st_gno rfl rfl ?_
                               refine st_val (ro_pickT (v := .bool _) rfl rfl) ?_
                               refine st_nil ?_
                               refine nx_then ?_
                               refine cd_condT rfl ?_
                               refine cd_seq ?_
                               refine cd_region ?_
                               refine st_val (ro_assign (v := .bool _) rfl) ?_
                               refine st_nil ?_
                               refine nx_then ?_
                               refine cd_ret ?_
                               refine rt_then ?_
                               refine rt_then ?_
                               refine rt_block ?_
                               refine rt_then ?_
                               refine rt_then ?_
                               refine rt_block ?_
                               refine rt_then ?_
                               refine res1 (v := .bool _) rfl rfl ?_
                               exact ⟨rfl, (hB.next E48)⟩
                          · (try first | replace Q14 := bn_t Q14 | replace Q14 := bn_f Q14)
                            (try first | replace Q14 := bx_t Q14 | replace Q14 := bx_f Q14 | replace Q14 := be_t Q14 | replace Q14 := be_f Q14 | replace Q14 := of_decide_eq_true Q14 | replace Q14 := of_decide_eq_false Q14)
                            first
                             | (exfalso; first | omega | contradiction | (cases Q14; done))
                             | skip
                               refine st_unguard rfl ?_
                               refine st_val (ro_move (v := .int _ _) rfl) ?_
                               refine st_unguard rfl ?_
                               refine st_val (ro_neq rfl rfl) ?_
                               refine st_val (ro_pickF (v := .bool _) rfl rfl) ?_
                               refine st_val (ro_move (v := .bool _) rfl) ?_
                               refine st_split (t := 66) rfl (fun Q15 => ?_) (fun Q15 => ?_)
                               · (try first | replace Q15 := bn_t Q15 | replace Q15 := bn_f Q15)
                                 (try first | replace Q15 := bx_t Q15 | replace Q15 := bx_f Q15 | replace Q15 := be_t Q15 | replace Q15 := be_f Q15 | replace Q15 := of_decide_eq_true Q15 | replace Q15 := of_decide_eq_false Q15)
                                 first
                                  | (exfalso; first | omega | contradiction | (cases Q15; done))
                                  | skip
                                    refine st_gno rfl rfl ?_
                                    refine st_gno rfl rfl ?_
                                    refine st_val (ro_pickT (v := .bool _) rfl rfl) ?_
                                    refine st_nil ?_
                                    refine nx_then ?_
                                    refine cd_condT rfl ?_
                                    refine cd_seq ?_
                                    refine cd_region ?_
                                    refine st_val (ro_assign (v := .bool _) rfl) ?_
                                    refine st_nil ?_
                                    refine nx_then ?_
                                    refine cd_ret ?_
                                    refine rt_then ?_
                                    refine rt_then ?_
                                    refine rt_block ?_
                                    refine rt_then ?_
                                    refine rt_then ?_
                                    refine rt_block ?_
                                    refine rt_then ?_
                                    refine res1 (v := .bool _) rfl rfl ?_
                                    exact ⟨rfl, (hB.next E48)⟩
                               · (try first | replace Q15 := bn_t Q15 | replace Q15 := bn_f Q15)
                                 (try first | replace Q15 := bx_t Q15 | replace Q15 := bx_f Q15 | replace Q15 := be_t Q15 | replace Q15 := be_f Q15 | replace Q15 := of_decide_eq_true Q15 | replace Q15 := of_decide_eq_false Q15)
                                 first
                                  | (exfalso; first | omega | contradiction | (cases Q15; done))
                                  | skip
                                    refine st_unguard rfl ?_
                                    refine st_val (ro_move (v := .int _ _) rfl) ?_
                                    refine st_unguard rfl ?_
                                    refine st_val (ro_neq rfl rfl) ?_
                                    refine st_val (ro_pickF (v := .bool _) rfl rfl) ?_
                                    refine st_nil ?_
                                    refine nx_then ?_
                                    refine cd_cond rfl (fun Q16 => ?_) (fun Q16 => ?_)
                                    · (try first | replace Q16 := bn_t Q16 | replace Q16 := bn_f Q16)
                                      (try first | replace Q16 := bx_t Q16 | replace Q16 := bx_f Q16 | replace Q16 := be_t Q16 | replace Q16 := be_f Q16 | replace Q16 := of_decide_eq_true Q16 | replace Q16 := of_decide_eq_false Q16)
                                      first
                                       | (exfalso; first | omega | contradiction | (cases Q16; done))
                                       | skip
                                         refine cd_seq ?_
                                         refine cd_region ?_
                                         refine st_val (ro_assign (v := .bool _) rfl) ?_
                                         refine st_nil ?_
                                         refine nx_then ?_
                                         refine cd_ret ?_
                                         refine rt_then ?_
                                         refine rt_then ?_
                                         refine rt_block ?_
                                         refine rt_then ?_
                                         refine rt_then ?_
                                         refine rt_block ?_
                                         refine rt_then ?_
                                         refine res1 (v := .bool _) rfl rfl ?_
                                         exact ⟨rfl, (hB.next E48)⟩
                                    · (try first | replace Q16 := bn_t Q16 | replace Q16 := bn_f Q16)
                                      (try first | replace Q16 := bx_t Q16 | replace Q16 := bx_f Q16 | replace Q16 := be_t Q16 | replace Q16 := be_f Q16 | replace Q16 := of_decide_eq_true Q16 | replace Q16 := of_decide_eq_false Q16)
                                      first
                                       | (exfalso; first | omega | contradiction | (cases Q16; done))
                                       | skip
                                         refine cd_skip ?_
                                         refine nx_then ?_
                                         refine cd_exit ?_
                                         refine ex_then ?_
                                         refine ex_block ?_
                                         refine nx_then ?_
                                         refine cd_region ?_
                                         refine st_val (ro_move (v := .int _ _) rfl) ?_
                                         refine st_val (ro_addN (b := 1) rfl rfl (by omega)) ?_
                                         refine st_val (ro_assign (v := .int _ _) rfl) ?_
                                         refine st_nil ?_
                                         refine nx_cut (k + 1) ⟨(by first | rfl | (refine int_eq ?_; omega)), trivial⟩ (by (iterate 110 refine agr_cons rfl ?_); exact agr_rfl) ⟨?_, ?_⟩
                                         · exact ⟨by omega, hv.from_ (From.rfl_.next E48), hP1.from_ (From.rfl_.next E48), (hB.next E48)⟩
                                         · omega
                     · (try first | replace Q12 := bn_t Q12 | replace Q12 := bn_f Q12)
                       (try first | replace Q12 := bx_t Q12 | replace Q12 := bx_f Q12 | replace Q12 := be_t Q12 | replace Q12 := be_f Q12 | replace Q12 := of_decide_eq_true Q12 | replace Q12 := of_decide_eq_false Q12)
                       first
                        | (exfalso; first | omega | contradiction | (cases Q12; done))
                        | skip
                          refine st_unguard rfl ?_
                          refine st_val (ro_move (v := .int _ _) rfl) ?_
                          refine st_unguard rfl ?_
                          refine st_val (ro_move (v := .int _ _) rfl) ?_
                          refine st_unguard rfl ?_
                          refine st_val (ro_geq rfl rfl) ?_
                          refine st_val (ro_pickF (v := .bool _) rfl rfl) ?_
                          refine st_nil ?_
                          refine nx_then ?_
                          refine cd_cond rfl (fun Q17 => ?_) (fun Q17 => ?_)
                          · (try first | replace Q17 := bn_t Q17 | replace Q17 := bn_f Q17)
                            (try first | replace Q17 := bx_t Q17 | replace Q17 := bx_f Q17 | replace Q17 := be_t Q17 | replace Q17 := be_f Q17 | replace Q17 := of_decide_eq_true Q17 | replace Q17 := of_decide_eq_false Q17)
                            first
                             | (exfalso; first | omega | contradiction | (cases Q17; done))
                             | skip
                               refine cd_seq ?_
                               refine cd_seq ?_
                               refine cd_region ?_
                               refine st_val (ro_move (v := .int _ _) rfl) ?_
                               refine st_call BndWhere_k15 (num_any _ _) ?_
                               rintro v60 w18 ⟨rfl, rfl⟩
                               refine st_val (ro_neq rfl rfl) ?_
                               refine st_val (ro_move (v := .bool _) rfl) ?_
                               refine st_split (t := 62) rfl (fun Q19 => ?_) (fun Q19 => ?_)
                               · (try first | replace Q19 := bn_t Q19 | replace Q19 := bn_f Q19)
                                 (try first | replace Q19 := bx_t Q19 | replace Q19 := bx_f Q19 | replace Q19 := be_t Q19 | replace Q19 := be_f Q19 | replace Q19 := of_decide_eq_true Q19 | replace Q19 := of_decide_eq_false Q19)
                                 first
                                  | (exfalso; first | omega | contradiction | (cases Q19; done))
                                  | skip
                                    refine st_gno rfl rfl ?_
                                    refine st_gno rfl rfl ?_
                                    refine st_val (ro_pickT (v := .bool _) rfl rfl) ?_
                                    refine st_val (ro_move (v := .bool _) rfl) ?_
                                    refine st_gno rfl rfl ?_
                                    refine st_gno rfl rfl ?_
                                    refine st_val (ro_pickT (v := .bool _) rfl rfl) ?_
                                    refine st_nil ?_
                                    refine nx_then ?_
                                    refine cd_condT rfl ?_
                                    refine cd_seq ?_
                                    refine cd_region ?_
                                    refine st_val (ro_assign (v := .bool _) rfl) ?_
                                    refine st_nil ?_
                                    refine nx_then ?_
                                    refine cd_ret ?_
                                    refine rt_then ?_
                                    refine rt_then ?_
                                    refine rt_block ?_
                                    refine rt_then ?_
                                    refine rt_then ?_
                                    refine rt_block ?_
                                    refine rt_then ?_
                                    refine res1 (v := .bool _) rfl rfl ?_
                                    exact ⟨rfl, (hB.next E48)⟩
                               · (try first | replace Q19 := bn_t Q19 | replace Q19 := bn_f Q19)
                                 (try first | replace Q19 := bx_t Q19 | replace Q19 := bx_f Q19 | replace Q19 := be_t Q19 | replace Q19 := be_f Q19 | replace Q19 := of_decide_eq_true Q19 | replace Q19 := of_decide_eq_false Q19)
                                 first
                                  | (exfalso; first | omega | contradiction | (cases Q19; done))
                                  | skip
                                    refine st_unguard rfl ?_
                                    refine st_val (ro_move (v := .int _ _) rfl) ?_
                                    refine st_unguard rfl ?_
                                    refine st_val (ro_neq rfl rfl) ?_
                                    refine st_val (ro_pickF (v := .bool _) rfl rfl) ?_
                                    refine st_val (ro_move (v := .bool _) rfl) ?_
                                    refine st_split (t := 66) rfl (fun Q20 => ?_) (fun Q20 => ?_)
                                    · (try first | replace Q20 := bn_t Q20 | replace Q20 := bn_f Q20)
                                      (try first | replace Q20 := bx_t Q20 | replace Q20 := bx_f Q20 | replace Q20 := be_t Q20 | replace Q20 := be_f Q20 | replace Q20 := of_decide_eq_true Q20 | replace Q20 := of_decide_eq_false Q20)
                                      first
                                       | (exfalso; first | omega | contradiction | (cases Q20; done))
                                       | skip
                                         refine st_gno rfl rfl ?_
                                         refine st_gno rfl rfl ?_
                                         refine st_val (ro_pickT (v := .bool _) rfl rfl) ?_
                                         refine st_nil ?_
                                         refine nx_then ?_
                                         refine cd_condT rfl ?_
                                         refine cd_seq ?_
                                         refine cd_region ?_
                                         refine st_val (ro_assign (v := .bool _) rfl) ?_
                                         refine st_nil ?_
                                         refine nx_then ?_
                                         refine cd_ret ?_
                                         refine rt_then ?_
                                         refine rt_then ?_
                                         refine rt_block ?_
                                         refine rt_then ?_
                                         refine rt_then ?_
                                         refine rt_block ?_
                                         refine rt_then ?_
                                         refine res1 (v := .bool _) rfl rfl ?_
                                         exact ⟨rfl, (hB.next E48)⟩
                                    · (try first | replace Q20 := bn_t Q20 | replace Q20 := bn_f Q20)
                                      (try first | replace Q20 := bx_t Q20 | replace Q20 := bx_f Q20 | replace Q20 := be_t Q20 | replace Q20 := be_f Q20 | replace Q20 := of_decide_eq_true Q20 | replace Q20 := of_decide_eq_false Q20)
                                      first
                                       | (exfalso; first | omega | contradiction | (cases Q20; done))
                                       | skip
                                         refine st_unguard rfl ?_
                                         refine st_val (ro_move (v := .int _ _) rfl) ?_
                                         refine st_unguard rfl ?_
                                         refine st_val (ro_neq rfl rfl) ?_
                                         refine st_val (ro_pickF (v := .bool _) rfl rfl) ?_
                                         refine st_nil ?_
                                         refine nx_then ?_
                                         refine cd_cond rfl (fun Q21 => ?_) (fun Q21 => ?_)
                                         · (try first | replace Q21 := bn_t Q21 | replace Q21 := bn_f Q21)
                                           (try first | replace Q21 := bx_t Q21 | replace Q21 := bx_f Q21 | replace Q21 := be_t Q21 | replace Q21 := be_f Q21 | replace Q21 := of_decide_eq_true Q21 | replace Q21 := of_decide_eq_false Q21)
                                           first
                                            | (exfalso; first | omega | contradiction | (cases Q21; done))
                                            | skip
                                              refine cd_seq ?_
                                              refine cd_region ?_
                                              refine st_val (ro_assign (v := .bool _) rfl) ?_
                                              refine st_nil ?_
                                              refine nx_then ?_
                                              refine cd_ret ?_
                                              refine rt_then ?_
                                              refine rt_then ?_
                                              refine rt_block ?_
                                              refine rt_then ?_
                                              refine rt_then ?_
                                              refine rt_block ?_
                                              refine rt_then ?_
                                              refine res1 (v := .bool _) rfl rfl ?_
                                              exact ⟨rfl, (hB.next E48)⟩
                                         · (try first | replace Q21 := bn_t Q21 | replace Q21 := bn_f Q21)
                                           (try first | replace Q21 := bx_t Q21 | replace Q21 := bx_f Q21 | replace Q21 := be_t Q21 | replace Q21 := be_f Q21 | replace Q21 := of_decide_eq_true Q21 | replace Q21 := of_decide_eq_false Q21)
                                           first
                                            | (exfalso; first | omega | contradiction | (cases Q21; done))
                                            | skip
                                              refine cd_skip ?_
                                              refine nx_then ?_
                                              refine cd_exit ?_
                                              refine ex_then ?_
                                              refine ex_block ?_
                                              refine nx_then ?_
                                              refine cd_region ?_
                                              refine st_val (ro_move (v := .int _ _) rfl) ?_
                                              refine st_val (ro_addN (b := 1) rfl rfl (by omega)) ?_
                                              refine st_val (ro_assign (v := .int _ _) rfl) ?_
                                              refine st_nil ?_
                                              refine nx_cut (k + 1) ⟨(by first | rfl | (refine int_eq ?_; omega)), trivial⟩ (by (iterate 110 refine agr_cons rfl ?_); exact agr_rfl) ⟨?_, ?_⟩
                                              · exact ⟨by omega, hv.from_ (From.rfl_.next E48), hP1.from_ (From.rfl_.next E48), (hB.next E48)⟩
                                              · omega
                          · (try first | replace Q17 := bn_t Q17 | replace Q17 := bn_f Q17)
                            (try first | replace Q17 := bx_t Q17 | replace Q17 := bx_f Q17 | replace Q17 := be_t Q17 | replace Q17 := be_f Q17 | replace Q17 := of_decide_eq_true Q17 | replace Q17 := of_decide_eq_false Q17)
                            first
                             | (exfalso; first | omega | contradiction | (cases Q17; done))
                             | skip
                               refine cd_skip ?_
                               refine nx_then ?_
                               refine cd_seq ?_
                               refine cd_region ?_
                               refine st_val (ro_fieldAddr BndWhere_f24_0 rfl) ?_
                               refine st_val (ro_load BndWhere_g22 rfl (by first | (first | exact (hP1.from_ (From.rfl_.next E48)).whole | exact (hP1.from_ (From.rfl_.next E48)).rd 0 rfl | exact (hP1.from_ (From.rfl_.next E48)).rd 1 rfl) | (first | exact (hk1.from_ (From.rfl_.next E48)).whole | exact (hk1.from_ (From.rfl_.next E48)).rd 0 rfl | exact (hk1.from_ (From.rfl_.next E48)).rd 1 rfl))) ?_
                               refine st_val (ro_move (v := .int _ _) rfl) ?_
                               refine st_call BndWhere_k17 (refWhere_rt A ca q is[k] L _ (hr.from_ (hB.next E48)) hG hq hq1 hq2) ?_
                               rintro v74 w22 ⟨rfl, rfl⟩
                               refine st_val (ro_move (v := .tuple _) rfl) ?_
                               refine st_val (ro_extract rfl rfl) ?_
                               refine st_val (ro_extract rfl rfl) ?_
                               refine st_val (ro_assign (v := .int _ _) rfl) ?_
                               refine st_val (ro_assign (v := .int _ _) rfl) ?_
                               refine st_nil ?_
                               refine nx_then ?_
                               refine cd_seq ?_
                               refine cd_region ?_
                               refine st_val (ro_move (v := .int _ _) rfl) ?_
                               refine st_call BndWhere_k15 (num_any _ _) ?_
                               rintro v78 w23 ⟨rfl, rfl⟩
                               refine st_val (ro_neq rfl rfl) ?_
                               refine st_val (ro_move (v := .bool _) rfl) ?_
                               refine st_split (t := 80) rfl (fun Q24 => ?_) (fun Q24 => ?_)
                               · (try first | replace Q24 := bn_t Q24 | replace Q24 := bn_f Q24)
                                 (try first | replace Q24 := bx_t Q24 | replace Q24 := bx_f Q24 | replace Q24 := be_t Q24 | replace Q24 := be_f Q24 | replace Q24 := of_decide_eq_true Q24 | replace Q24 := of_decide_eq_false Q24)
                                 first
                                  | (exfalso; first | omega | contradiction | (cases Q24; done))
                                  | skip
                                    refine st_gno rfl rfl ?_
                                    refine st_gno rfl rfl ?_
                                    refine st_gno rfl rfl ?_
                                    refine st_val (ro_pickT (v := .bool _) rfl rfl) ?_
                                    refine st_val (ro_move (v := .bool _) rfl) ?_
                                    refine st_gno rfl rfl ?_
                                    refine st_gno rfl rfl ?_
                                    refine st_gno rfl rfl ?_
                                    refine st_val (ro_pickT (v := .bool _) rfl rfl) ?_
                                    refine st_nil ?_
                                    refine nx_then ?_
                                    refine cd_condT rfl ?_
                                    refine cd_seq ?_
                                    refine cd_region ?_
                                    refine st_val (ro_assign (v := .bool _) rfl) ?_
                                    refine st_nil ?_
                                    refine nx_then ?_
                                    refine cd_ret ?_
                                    refine rt_block ?_
                                    refine rt_then ?_
                                    refine rt_then ?_
                                    refine rt_block ?_
                                    refine rt_then ?_
                                    refine res1 (v := .bool _) rfl rfl ?_
                                    exact ⟨rfl, (hB.next E48)⟩
                               · (try first | replace Q24 := bn_t Q24 | replace Q24 := bn_f Q24)
                                 (try first | replace Q24 := bx_t Q24 | replace Q24 := bx_f Q24 | replace Q24 := be_t Q24 | replace Q24 := be_f Q24 | replace Q24 := of_decide_eq_true Q24 | replace Q24 := of_decide_eq_false Q24)
                                 first
                                  | (exfalso; first | omega | contradiction | (cases Q24; done))
                                  | skip
                                    refine st_unguard rfl ?_
                                    refine st_val (ro_move (v := .int _ _) rfl) ?_
                                    refine st_unguard rfl ?_
                                    refine st_val (ro_move (v := .int _ _) rfl) ?_
                                    refine st_unguard rfl ?_
                                    refine st_val (ro_neq rfl rfl) ?_
                                    refine st_val (ro_pickF (v := .bool _) rfl rfl) ?_
                                    refine st_val (ro_move (v := .bool _) rfl) ?_
                                    refine st_split (t := 85) rfl (fun Q25 => ?_) (fun Q25 => ?_)
                                    · (try first | replace Q25 := bn_t Q25 | replace Q25 := bn_f Q25)
                                      (try first | replace Q25 := bx_t Q25 | replace Q25 := bx_f Q25 | replace Q25 := be_t Q25 | replace Q25 := be_f Q25 | replace Q25 := of_decide_eq_true Q25 | replace Q25 := of_decide_eq_false Q25)
                                      first
                                       | (exfalso; first | omega | contradiction | (cases Q25; done))
                                       | skip
                                         refine st_gno rfl rfl ?_
                                         refine st_gno rfl rfl ?_
                                         refine st_gno rfl rfl ?_
                                         refine st_val (ro_pickT (v := .bool _) rfl rfl) ?_
                                         refine st_nil ?_
                                         refine nx_then ?_
                                         refine cd_condT rfl ?_
                                         refine cd_seq ?_
                                         refine cd_region ?_
                                         refine st_val (ro_assign (v := .bool _) rfl) ?_
                                         refine st_nil ?_
                                         refine nx_then ?_
                                         refine cd_ret ?_
                                         refine rt_block ?_
                                         refine rt_then ?_
                                         refine rt_then ?_
                                         refine rt_block ?_
                                         refine rt_then ?_
                                         refine res1 (v := .bool _) rfl rfl ?_
                                         exact ⟨rfl, (hB.next E48)⟩
                                    · (try first | replace Q25 := bn_t Q25 | replace Q25 := bn_f Q25)
                                      (try first | replace Q25 := bx_t Q25 | replace Q25 := bx_f Q25 | replace Q25 := be_t Q25 | replace Q25 := be_f Q25 | replace Q25 := of_decide_eq_true Q25 | replace Q25 := of_decide_eq_false Q25)
                                      first
                                       | (exfalso; first | omega | contradiction | (cases Q25; done))
                                       | skip
                                         refine st_unguard rfl ?_
                                         refine st_val (ro_move (v := .int _ _) rfl) ?_
                                         refine st_unguard rfl ?_
                                         refine st_val (ro_move (v := .int _ _) rfl) ?_
                                         refine st_unguard rfl ?_
                                         refine st_val (ro_neq rfl rfl) ?_
                                         refine st_val (ro_pickF (v := .bool _) rfl rfl) ?_
                                         refine st_nil ?_
                                         refine nx_then ?_
                                         refine cd_cond rfl (fun Q26 => ?_) (fun Q26 => ?_)
                                         · (try first | replace Q26 := bn_t Q26 | replace Q26 := bn_f Q26)
                                           (try first | replace Q26 := bx_t Q26 | replace Q26 := bx_f Q26 | replace Q26 := be_t Q26 | replace Q26 := be_f Q26 | replace Q26 := of_decide_eq_true Q26 | replace Q26 := of_decide_eq_false Q26)
                                           first
                                            | (exfalso; first | omega | contradiction | (cases Q26; done))
                                            | skip
                                              refine cd_seq ?_
                                              refine cd_region ?_
                                              refine st_val (ro_assign (v := .bool _) rfl) ?_
                                              refine st_nil ?_
                                              refine nx_then ?_
                                              refine cd_ret ?_
                                              refine rt_block ?_
                                              refine rt_then ?_
                                              refine rt_then ?_
                                              refine rt_block ?_
                                              refine rt_then ?_
                                              refine res1 (v := .bool _) rfl rfl ?_
                                              exact ⟨rfl, (hB.next E48)⟩
                                         · (try first | replace Q26 := bn_t Q26 | replace Q26 := bn_f Q26)
                                           (try first | replace Q26 := bx_t Q26 | replace Q26 := bx_f Q26 | replace Q26 := be_t Q26 | replace Q26 := be_f Q26 | replace Q26 := of_decide_eq_true Q26 | replace Q26 := of_decide_eq_false Q26)
                                           first
                                            | (exfalso; first | omega | contradiction | (cases Q26; done))
                                            | skip
                                              refine cd_skip ?_
                                              refine nx_block ?_
                                              refine nx_then ?_
                                              refine cd_region ?_
                                              refine st_val (ro_move (v := .int _ _) rfl) ?_
                                              refine st_val (ro_addN (b := 1) rfl rfl (by omega)) ?_
                                              refine st_val (ro_assign (v := .int _ _) rfl) ?_
                                              refine st_nil ?_
                                              refine nx_cut (k + 1) ⟨(by first | rfl | (refine int_eq ?_; omega)), trivial⟩ (by (iterate 121 refine agr_cons rfl ?_); exact agr_rfl) ⟨?_, ?_⟩
                                              · exact ⟨by omega, hv.from_ (From.rfl_.next E48), hP1.from_ (From.rfl_.next E48), (hB.next E48)⟩
                                              · omega
                   · have hst0 := hG.st (k := q) (by omega)
                     have hst1 := st_mono hG.pos (show q + 1 ≤ L.length by omega)
                     refine st_val (ro_move (v := .tuple _) rfl) ?_
                     refine st_val (ro_extract rfl rfl) ?_
                     refine st_val (ro_extract rfl rfl) ?_
                     refine st_val (ro_extract rfl rfl) ?_
                     refine st_val (ro_assign (v := .int _ _) rfl) ?_
                     refine st_val (ro_assign (v := .int _ _) rfl) ?_
                     refine st_val (ro_assign (v := .int _ _) rfl) ?_
                     refine st_nil ?_
                     refine nx_then ?_
                     refine cd_seq ?_
                     refine cd_seq ?_
                     refine cd_region ?_
                     refine st_val (ro_move (v := .int _ _) rfl) ?_
                     refine st_val (ro_lss rfl rfl) ?_
                     refine st_val (ro_move (v := .bool _) rfl) ?_
                     refine st_split (t := 54) rfl (fun Q27 => ?_) (fun Q27 => ?_)
                     · (try first | replace Q27 := bn_t Q27 | replace Q27 := bn_f Q27)
                       (try first | replace Q27 := bx_t Q27 | replace Q27 := bx_f Q27 | replace Q27 := be_t Q27 | replace Q27 := be_f Q27 | replace Q27 := of_decide_eq_true Q27 | replace Q27 := of_decide_eq_false Q27)
                       first
                        | (exfalso; first | omega | contradiction | (cases Q27; done))
                        | skip
                          refine st_gno rfl rfl ?_
                          refine st_gno rfl rfl ?_
                          refine st_gno rfl rfl ?_
                          refine st_val (ro_pickT (v := .bool _) rfl rfl) ?_
                          refine st_nil ?_
                          refine nx_then ?_
                          refine cd_condT rfl ?_
                          refine cd_seq ?_
                          refine cd_seq ?_
                          refine cd_region ?_
                          refine st_val (ro_move (v := .int _ _) rfl) ?_
                          refine st_call BndWhere_k15 (num_any _ _) ?_
                          rintro v60 w28 ⟨rfl, rfl⟩
                          refine st_val (ro_neq rfl rfl) ?_
                          refine st_val (ro_move (v := .bool _) rfl) ?_
                          refine st_split (t := 62) rfl (fun Q29 => ?_) (fun Q29 => ?_)
                          · (try first | replace Q29 := bn_t Q29 | replace Q29 := bn_f Q29)
                            (try first | replace Q29 := bx_t Q29 | replace Q29 := bx_f Q29 | replace Q29 := be_t Q29 | replace Q29 := be_f Q29 | replace Q29 := of_decide_eq_true Q29 | replace Q29 := of_decide_eq_false Q29)
                            first
                             | (exfalso; first | omega | contradiction | (cases Q29; done))
                             | skip
                               refine st_gno rfl rfl ?_
                               refine st_gno rfl rfl ?_
                               refine st_val (ro_pickT (v := .bool _) rfl rfl) ?_
                               refine st_val (ro_move (v := .bool _) rfl) ?_
                               refine st_gno rfl rfl ?_
                               refine st_gno rfl rfl ?_
                               refine st_val (ro_pickT (v := .bool _) rfl rfl) ?_
                               refine st_nil ?_
                               refine nx_then ?_
                               refine cd_condT rfl ?_
                               refine cd_seq ?_
                               refine cd_region ?_
                               refine st_val (ro_assign (v := .bool _) rfl) ?_
                               refine st_nil ?_
                               refine nx_then ?_
                               refine cd_ret ?_
                               refine rt_then ?_
                               refine rt_then ?_
                               refine rt_block ?_
                               refine rt_then ?_
                               refine rt_then ?_
                               refine rt_block ?_
                               refine rt_then ?_
                               refine res1 (v := .bool _) rfl rfl ?_
                               exact ⟨rfl, (hB.next E48)⟩
                          · (try first | replace Q29 := bn_t Q29 | replace Q29 := bn_f Q29)
                            (try first | replace Q29 := bx_t Q29 | replace Q29 := bx_f Q29 | replace Q29 := be_t Q29 | replace Q29 := be_f Q29 | replace Q29 := of_decide_eq_true Q29 | replace Q29 := of_decide_eq_false Q29)
                            first
                             | (exfalso; first | omega | contradiction | (cases Q29; done))
                             | skip
                               refine st_unguard rfl ?_
                               refine st_val (ro_move (v := .int _ _) rfl) ?_
                               refine st_unguard rfl ?_
                               refine st_val (ro_neq rfl rfl) ?_
                               refine st_val (ro_pickF (v := .bool _) rfl rfl) ?_
                               refine st_val (ro_move (v := .bool _) rfl) ?_
                               refine st_split (t := 66) rfl (fun Q30 => ?_) (fun Q30 => ?_)
                               · (try first | replace Q30 := bn_t Q30 | replace Q30 := bn_f Q30)
                                 (try first | replace Q30 := bx_t Q30 | replace Q30 := bx_f Q30 | replace Q30 := be_t Q30 | replace Q30 := be_f Q30 | replace Q30 := of_decide_eq_true Q30 | replace Q30 := of_decide_eq_false Q30)
                                 first
                                  | (exfalso; first | omega | contradiction | (cases Q30; done))
                                  | skip
                                    refine st_gno rfl rfl ?_
                                    refine st_gno rfl rfl ?_
                                    refine st_val (ro_pickT (v := .bool _) rfl rfl) ?_
                                    refine st_nil ?_
                                    refine nx_then ?_
                                    refine cd_condT rfl ?_
                                    refine cd_seq ?_
                                    refine cd_region ?_
                                    refine st_val (ro_assign (v := .bool _) rfl) ?_
                                    refine st_nil ?_
                                    refine nx_then ?_
                                    refine cd_ret ?_
                                    refine rt_then ?_
                                    refine rt_then ?_
                                    refine rt_block ?_
                                    refine rt_then ?_
                                    refine rt_then ?_
                                    refine rt_block ?_
                                    refine rt_then ?_
                                    refine res1 (v := .bool _) rfl rfl ?_
                                    exact ⟨rfl, (hB.next E48)⟩
                               · (try first | replace Q30 := bn_t Q30 | replace Q30 := bn_f Q30)
                                 (try first | replace Q30 := bx_t Q30 | replace Q30 := bx_f Q30 | replace Q30 := be_t Q30 | replace Q30 := be_f Q30 | replace Q30 := of_decide_eq_true Q30 | replace Q30 := of_decide_eq_false Q30)
                                 first
                                  | (exfalso; first | omega | contradiction | (cases Q30; done))
                                  | skip
                                    refine st_unguard rfl ?_
                                    refine st_val (ro_move (v := .int _ _) rfl) ?_
                                    refine st_unguard rfl ?_
                                    refine st_val (ro_neq rfl rfl) ?_
                                    refine st_val (ro_pickF (v := .bool _) rfl rfl) ?_
                                    refine st_nil ?_
                                    refine nx_then ?_
                                    refine cd_cond rfl (fun Q31 => ?_) (fun Q31 => ?_)
                                    · (try first | replace Q31 := bn_t Q31 | replace Q31 := bn_f Q31)
                                      (try first | replace Q31 := bx_t Q31 | replace Q31 := bx_f Q31 | replace Q31 := be_t Q31 | replace Q31 := be_f Q31 | replace Q31 := of_decide_eq_true Q31 | replace Q31 := of_decide_eq_false Q31)
                                      first
                                       | (exfalso; first | omega | contradiction | (cases Q31; done))
                                       | skip
                                         refine cd_seq ?_
                                         refine cd_region ?_
                                         refine st_val (ro_assign (v := .bool _) rfl) ?_
                                         refine st_nil ?_
                                         refine nx_then ?_
                                         refine cd_ret ?_
                                         refine rt_then ?_
                                         refine rt_then ?_
                                         refine rt_block ?_
                                         refine rt_then ?_
                                         refine rt_then ?_
                                         refine rt_block ?_
                                         refine rt_then ?_
                                         refine res1 (v := .bool _) rfl rfl ?_
                                         exact ⟨rfl, (hB.next E48)⟩
                                    · (try first | replace Q31 := bn_t Q31 | replace Q31 := bn_f Q31)
                                      (try first | replace Q31 := bx_t Q31 | replace Q31 := bx_f Q31 | replace Q31 := be_t Q31 | replace Q31 := be_f Q31 | replace Q31 := of_decide_eq_true Q31 | replace Q31 := of_decide_eq_false Q31)
                                      first
                                       | (exfalso; first | omega | contradiction | (cases Q31; done))
                                       | skip
                                         refine cd_skip ?_
                                         refine nx_then ?_
                                         refine cd_exit ?_
                                         refine ex_then ?_
                                         refine ex_block ?_
                                         refine nx_then ?_
                                         refine cd_region ?_
                                         refine st_val (ro_move (v := .int _ _) rfl) ?_
                                         refine st_val (ro_addN (b := 1) rfl rfl (by omega)) ?_
                                         refine st_val (ro_assign (v := .int _ _) rfl) ?_
                                         refine st_nil ?_
                                         refine nx_cut (k + 1) ⟨(by first | rfl | (refine int_eq ?_; omega)), trivial⟩ (by (iterate 110 refine agr_cons rfl ?_); exact agr_rfl) ⟨?_, ?_⟩
                                         · exact ⟨by omega, hv.from_ (From.rfl_.next E48), hP1.from_ (From.rfl_.next E48), (hB.next E48)⟩
                                         · omega
                     · (try first | replace Q27 := bn_t Q27 | replace Q27 := bn_f Q27)
                       (try first | replace Q27 := bx_t Q27 | replace Q27 := bx_f Q27 | replace Q27 := be_t Q27 | replace Q27 := be_f Q27 | replace Q27 := of_decide_eq_true Q27 | replace Q27 := of_decide_eq_false Q27)
                       first
                        | (exfalso; first | omega | contradiction | (cases Q27; done))
                        | skip
                          refine st_unguard rfl ?_
                          refine st_val (ro_move (v := .int _ _) rfl) ?_
                          refine st_unguard rfl ?_
                          refine st_val (ro_move (v := .int _ _) rfl) ?_
                          refine st_unguard rfl ?_
                          refine st_val (ro_geq rfl rfl) ?_
                          refine st_val (ro_pickF (v := .bool _) rfl rfl) ?_
                          refine st_nil ?_
                          refine nx_then ?_
                          refine cd_cond rfl (fun Q32 => ?_) (fun Q32 => ?_)
                          · (try first | replace Q32 := bn_t Q32 | replace Q32 := bn_f Q32)
                            (try first | replace Q32 := bx_t Q32 | replace Q32 := bx_f Q32 | replace Q32 := be_t Q32 | replace Q32 := be_f Q32 | replace Q32 := of_decide_eq_true Q32 | replace Q32 := of_decide_eq_false Q32)
                            first
                             | (exfalso; first | omega | contradiction | (cases Q32; done))
                             | skip
                               refine cd_seq ?_
                               refine cd_seq ?_
                               refine cd_region ?_
                               refine st_val (ro_move (v := .int _ _) rfl) ?_
                               refine st_call BndWhere_k15 (num_any _ _) ?_
                               rintro v60 w33 ⟨rfl, rfl⟩
                               refine st_val (ro_neq rfl rfl) ?_
                               refine st_val (ro_move (v := .bool _) rfl) ?_
                               refine st_split (t := 62) rfl (fun Q34 => ?_) (fun Q34 => ?_)
                               · (try first | replace Q34 := bn_t Q34 | replace Q34 := bn_f Q34)
                                 (try first | replace Q34 := bx_t Q34 | replace Q34 := bx_f Q34 | replace Q34 := be_t Q34 | replace Q34 := be_f Q34 | replace Q34 := of_decide_eq_true Q34 | replace Q34 := of_decide_eq_false Q34)
                                 first
                                  | (exfalso; first | omega | contradiction | (cases Q34; done))
                                  | skip
                                    refine st_gno rfl rfl ?_
                                    refine st_gno rfl rfl ?_
                                    refine st_val (ro_pickT (v := .bool _) rfl rfl) ?_
                                    refine st_val (ro_move (v := .bool _) rfl) ?_
                                    refine st_gno rfl rfl ?_
                                    refine st_gno rfl rfl ?_
                                    refine st_val (ro_pickT (v := .bool _) rfl rfl) ?_
                                    refine st_nil ?_
                                    refine nx_then ?_
                                    refine cd_condT rfl ?_
                                    refine cd_seq ?_
                                    refine cd_region ?_
                                    refine st_val (ro_assign (v := .bool _) rfl) ?_
                                    refine st_nil ?_
                                    refine nx_then ?_
                                    refine cd_ret ?_
                                    refine rt_then ?_
                                    refine rt_then ?_
                                    refine rt_block ?_
                                    refine rt_then ?_
                                    refine rt_then ?_
                                    refine rt_block ?_
                                    refine rt_then ?_
                                    refine res1 (v := .bool _) rfl rfl ?_
                                    exact ⟨rfl, (hB.next E48)⟩
                               · (try first | replace Q34 := bn_t Q34 | replace Q34 := bn_f Q34)
                                 (try first | replace Q34 := bx_t Q34 | replace Q34 := bx_f Q34 | replace Q34 := be_t Q34 | replace Q34 := be_f Q34 | replace Q34 := of_decide_eq_true Q34 | replace Q34 := of_decide_eq_false Q34)
                                 first
                                  | (exfalso; first | omega | contradiction | (cases Q34; done))
                                  | skip
                                    refine st_unguard rfl ?_
                                    refine st_val (ro_move (v := .int _ _) rfl) ?_
                                    refine st_unguard rfl ?_
                                    refine st_val (ro_neq rfl rfl) ?_
                                    refine st_val (ro_pickF (v := .bool _) rfl rfl) ?_
                                    refine st_val (ro_move (v := .bool _) rfl) ?_
                                    refine st_split (t := 66) rfl (fun Q35 => ?_) (fun Q35 => ?_)
                                    · (try first | replace Q35 := bn_t Q35 | replace Q35 := bn_f Q35)
                                      (try first | replace Q35 := bx_t Q35 | replace Q35 := bx_f Q35 | replace Q35 := be_t Q35 | replace Q35 := be_f Q35 | replace Q35 := of_decide_eq_true Q35 | replace Q35 := of_decide_eq_false Q35)
                                      first
                                       | (exfalso; first | omega | contradiction | (cases Q35; done))
                                       | skip
                                         refine st_gno rfl rfl ?_
                                         refine st_gno rfl rfl ?_
                                         refine st_val (ro_pickT (v := .bool _) rfl rfl) ?_
                                         refine st_nil ?_
                                         refine nx_then ?_
                                         refine cd_condT rfl ?_
                                         refine cd_seq ?_
                                         refine cd_region ?_
                                         refine st_val (ro_assign (v := .bool _) rfl) ?_
                                         refine st_nil ?_
                                         refine nx_then ?_
                                         refine cd_ret ?_
                                         refine rt_then ?_
                                         refine rt_then ?_
                                         refine rt_block ?_
                                         refine rt_then ?_
                                         refine rt_then ?_
                                         refine rt_block ?_
                                         refine rt_then ?_
                                         refine res1 (v := .bool _) rfl rfl ?_
                                         exact ⟨rfl, (hB.next E48)⟩
                                    · (try first | replace Q35 := bn_t Q35 | replace Q35 := bn_f Q35)
                                      (try first | replace Q35 := bx_t Q35 | replace Q35 := bx_f Q35 | replace Q35 := be_t Q35 | replace Q35 := be_f Q35 | replace Q35 := of_decide_eq_true Q35 | replace Q35 := of_decide_eq_false Q35)
                                      first
                                       | (exfalso; first | omega | contradiction | (cases Q35; done))
                                       | skip
                                         refine st_unguard rfl ?_
                                         refine st_val (ro_move (v := .int _ _) rfl) ?_
                                         refine st_unguard rfl ?_
                                         refine st_val (ro_neq rfl rfl) ?_
                                         refine st_val (ro_pickF (v := .bool _) rfl rfl) ?_
                                         refine st_nil ?_
                                         refine nx_then ?_
                                         refine cd_cond rfl (fun Q36 => ?_) (fun Q36 => ?_)
                                         · (try first | replace Q36 := bn_t Q36 | replace Q36 := bn_f Q36)
                                           (try first | replace Q36 := bx_t Q36 | replace Q36 := bx_f Q36 | replace Q36 := be_t Q36 | replace Q36 := be_f Q36 | replace Q36 := of_decide_eq_true Q36 | replace Q36 := of_decide_eq_false Q36)
                                           first
                                            | (exfalso; first | omega | contradiction | (cases Q36; done))
                                            | skip
                                              refine cd_seq ?_
                                              refine cd_region ?_
                                              refine st_val (ro_assign (v := .bool _) rfl) ?_
                                              refine st_nil ?_
                                              refine nx_then ?_
                                              refine cd_ret ?_
                                              refine rt_then ?_
                                              refine rt_then ?_
                                              refine rt_block ?_
                                              refine rt_then ?_
                                              refine rt_then ?_
                                              refine rt_block ?_
                                              refine rt_then ?_
                                              refine res1 (v := .bool _) rfl rfl ?_
                                              exact ⟨rfl, (hB.next E48)⟩
                                         · (try first | replace Q36 := bn_t Q36 | replace Q36 := bn_f Q36)
                                           (try first | replace Q36 := bx_t Q36 | replace Q36 := bx_f Q36 | replace Q36 := be_t Q36 | replace Q36 := be_f Q36 | replace Q36 := of_decide_eq_true Q36 | replace Q36 := of_decide_eq_false Q36)
                                           first
                                            | (exfalso; first | omega | contradiction | (cases Q36; done))
                                            | skip
                                              refine cd_skip ?_
                                              refine nx_then ?_
                                              refine cd_exit ?_
                                              refine ex_then ?_
                                              refine ex_block ?_
                                              refine nx_then ?_
                                              refine cd_region ?_
                                              refine st_val (ro_move (v := .int _ _) rfl) ?_
                                              refine st_val (ro_addN (b := 1) rfl rfl (by omega)) ?_
                                              refine st_val (ro_assign (v := .int _ _) rfl) ?_
                                              refine st_nil ?_
                                              refine nx_cut (k + 1) ⟨(by first | rfl | (refine int_eq ?_; omega)), trivial⟩ (by (iterate 110 refine agr_cons rfl ?_); exact agr_rfl) ⟨?_, ?_⟩
                                              · exact ⟨by omega, hv.from_ (From.rfl_.next E48), hP1.from_ (From.rfl_.next E48), (hB.next E48)⟩
                                              · omega
                          · (try first | replace Q32 := bn_t Q32 | replace Q32 := bn_f Q32)
                            (try first | replace Q32 := bx_t Q32 | replace Q32 := bx_f Q32 | replace Q32 := be_t Q32 | replace Q32 := be_f Q32 | replace Q32 := of_decide_eq_true Q32 | replace Q32 := of_decide_eq_false Q32)
                            first
                             | (exfalso; first | omega | contradiction | (cases Q32; done))
                             | skip
                               refine cd_skip ?_
                               refine nx_then ?_
                               refine cd_seq ?_
                               refine cd_region ?_
                               refine st_val (ro_fieldAddr BndWhere_f24_0 rfl) ?_
                               refine st_val (ro_load BndWhere_g22 rfl (by first | (first | exact (hP1.from_ (From.rfl_.next E48)).whole | exact (hP1.from_ (From.rfl_.next E48)).rd 0 rfl | exact (hP1.from_ (From.rfl_.next E48)).rd 1 rfl) | (first | exact (hk1.from_ (From.rfl_.next E48)).whole | exact (hk1.from_ (From.rfl_.next E48)).rd 0 rfl | exact (hk1.from_ (From.rfl_.next E48)).rd 1 rfl))) ?_
                               refine st_val (ro_move (v := .int _ _) rfl) ?_
                               refine st_call BndWhere_k17 (refWhere_rt A ca q is[k] L _ (hr.from_ (hB.next E48)) hG hq hq1 hq2) ?_
                               rintro v74 w37 ⟨rfl, rfl⟩
                               refine st_val (ro_move (v := .tuple _) rfl) ?_
                               refine st_val (ro_extract rfl rfl) ?_
                               refine st_val (ro_extract rfl rfl) ?_
                               refine st_val (ro_assign (v := .int _ _) rfl) ?_
                               refine st_val (ro_assign (v := .int _ _) rfl) ?_
                               refine st_nil ?_
                               refine nx_then ?_
                               refine cd_seq ?_
                               refine cd_region ?_
                               refine st_val (ro_move (v := .int _ _) rfl) ?_
                               refine st_call BndWhere_k15 (num_any _ _) ?_
                               rintro v78 w38 ⟨rfl, rfl⟩
                               refine st_val (ro_neq rfl rfl) ?_
                               refine st_val (ro_move (v := .bool _) rfl) ?_
                               refine st_split (t := 80) rfl (fun Q39 => ?_) (fun Q39 => ?_)
                               · (try first | replace Q39 := bn_t Q39 | replace Q39 := bn_f Q39)
                                 (try first | replace Q39 := bx_t Q39 | replace Q39 := bx_f Q39 | replace Q39 := be_t Q39 | replace Q39 := be_f Q39 | replace Q39 := of_decide_eq_true Q39 | replace Q39 := of_decide_eq_false Q39)
                                 first
                                  | (exfalso; first | omega | contradiction | (cases Q39; done))
                                  | skip
                                    refine st_gno rfl rfl ?_
                                    refine st_gno rfl rfl ?_
                                    refine st_gno rfl rfl ?_
                                    refine st_val (ro_pickT (v := .bool _) rfl rfl) ?_
                                    refine st_val (ro_move (v := .bool _) rfl) ?_
                                    refine st_gno rfl rfl ?_
                                    refine st_gno rfl rfl ?_
                                    refine st_gno rfl rfl ?_
                                    refine st_val (ro_pickT (v := .bool _) rfl rfl) ?_
                                    refine st_nil ?_
                                    refine nx_then ?_
                                    refine cd_condT rfl ?_
                                    refine cd_seq ?_
                                    refine cd_region ?_
                                    refine st_val (ro_assign (v := .bool _) rfl) ?_
                                    refine st_nil ?_
                                    refine nx_then ?_
                                    refine cd_ret ?_
                                    refine rt_block ?_
                                    refine rt_then ?_
                                    refine rt_then ?_
                                    refine rt_block ?_
                                    refine rt_then ?_
                                    refine res1 (v := .bool _) rfl rfl ?_
                                    exact ⟨rfl, (hB.next E48)⟩
                               · (try first | replace Q39 := bn_t Q39 | replace Q39 := bn_f Q39)
                                 (try first | replace Q39 := bx_t Q39 | replace Q39 := bx_f Q39 | replace Q39 := be_t Q39 | replace Q39 := be_f Q39 | replace Q39 := of_decide_eq_true Q39 | replace Q39 := of_decide_eq_false Q39)
                                 first
                                  | (exfalso; first | omega | contradiction | (cases Q39; done))
                                  | skip
                                    refine st_unguard rfl ?_
                                    refine st_val (ro_move (v := .int _ _) rfl) ?_
                                    refine st_unguard rfl ?_
                                    refine st_val (ro_move (v := .int _ _) rfl) ?_
                                    refine st_unguard rfl ?_
                                    refine st_val (ro_neq rfl rfl) ?_
                                    refine st_val (ro_pickF (v := .bool _) rfl rfl) ?_
                                    refine st_val (ro_move (v := .bool _) rfl) ?_
                                    refine st_split (t := 85) rfl (fun Q40 => ?_) (fun Q40 => ?_)
                                    · (try first | replace Q40 := bn_t Q40 | replace Q40 := bn_f Q40)
                                      (try first | replace Q40 := bx_t Q40 | replace Q40 := bx_f Q40 | replace Q40 := be_t Q40 | replace Q40 := be_f Q40 | replace Q40 := of_decide_eq_true Q40 | replace Q40 := of_decide_eq_false Q40)
                                      first
                                       | (exfalso; first | omega | contradiction | (cases Q40; done))
                                       | skip
                                         refine st_gno rfl rfl ?_
                                         refine st_gno rfl rfl ?_
                                         refine st_gno rfl rfl ?_
                                         refine st_val (ro_pickT (v := .bool _) rfl rfl) ?_
                                         refine st_nil ?_
                                         refine nx_then ?_
                                         refine cd_condT rfl ?_
                                         refine cd_seq ?_
                                         refine cd_region ?_
                                         refine st_val (ro_assign (v := .bool _) rfl) ?_
                                         refine st_nil ?_
                                         refine nx_then ?_
                                         refine cd_ret ?_
                                         refine rt_block ?_
                                         refine rt_then ?_
                                         refine rt_then ?_
                                         refine rt_block ?_
                                         refine rt_then ?_
                                         refine res1 (v := .bool _) rfl rfl ?_
                                         exact ⟨rfl, (hB.next E48)⟩
                                    · (try first | replace Q40 := bn_t Q40 | replace Q40 := bn_f Q40)
                                      (try first | replace Q40 := bx_t Q40 | replace Q40 := bx_f Q40 | replace Q40 := be_t Q40 | replace Q40 := be_f Q40 | replace Q40 := of_decide_eq_true Q40 | replace Q40 := of_decide_eq_false Q40)
                                      first
                                       | (exfalso; first | omega | contradiction | (cases Q40; done))
                                       | skip
                                         refine st_unguard rfl ?_
                                         refine st_val (ro_move (v := .int _ _) rfl) ?_
                                         refine st_unguard rfl ?_
                                         refine st_val (ro_move (v := .int _ _) rfl) ?_
                                         refine st_unguard rfl ?_
                                         refine st_val (ro_neq rfl rfl) ?_
                                         refine st_val (ro_pickF (v := .bool _) rfl rfl) ?_
                                         refine st_nil ?_
                                         refine nx_then ?_
                                         refine cd_cond rfl (fun Q41 => ?_) (fun Q41 => ?_)
                                         · (try first | replace Q41 := bn_t Q41 | replace Q41 := bn_f Q41)
                                           (try first | replace Q41 := bx_t Q41 | replace Q41 := bx_f Q41 | replace Q41 := be_t Q41 | replace Q41 := be_f Q41 | replace Q41 := of_decide_eq_true Q41 | replace Q41 := of_decide_eq_false Q41)
                                           first
                                            | (exfalso; first | omega | contradiction | (cases Q41; done))
                                            | skip
                                              refine cd_seq ?_
                                              refine cd_region ?_
                                              refine st_val (ro_assign (v := .bool _) rfl) ?_
                                              refine st_nil ?_
                                              refine nx_then ?_
                                              refine cd_ret ?_
                                              refine rt_block ?_
                                              refine rt_then ?_
                                              refine rt_then ?_
                                              refine rt_block ?_
                                              refine rt_then ?_
                                              refine res1 (v := .bool _) rfl rfl ?_
                                              exact ⟨rfl, (hB.next E48)⟩
                                         · (try first | replace Q41 := bn_t Q41 | replace Q41 := bn_f Q41)
                                           (try first | replace Q41 := bx_t Q41 | replace Q41 := bx_f Q41 | replace Q41 := be_t Q41 | replace Q41 := be_f Q41 | replace Q41 := of_decide_eq_true Q41 | replace Q41 := of_decide_eq_false Q41)
                                           first
                                            | (exfalso; first | omega | contradiction | (cases Q41; done))
                                            | skip
                                              refine cd_skip ?_
                                              refine nx_block ?_
                                              refine nx_then ?_
                                              refine cd_region ?_
                                              refine st_val (ro_move (v := .int _ _) rfl) ?_
                                              refine st_val (ro_addN (b := 1) rfl rfl (by omega)) ?_
                                              refine st_val (ro_assign (v := .int _ _) rfl) ?_
                                              refine st_nil ?_
                                              refine nx_cut (k + 1) ⟨(by first | rfl | (refine int_eq ?_; omega)), trivial⟩ (by (iterate 121 refine agr_cons rfl ?_); exact agr_rfl) ⟨?_, ?_⟩
                                              · exact ⟨by omega, hv.from_ (From.rfl_.next E48), hP1.from_ (From.rfl_.next E48), (hB.next E48)⟩
                                              · omega
              · (try first | replace Q10 := bn_t Q10 | replace Q10 := bn_f Q10)
                (try first | replace Q10 := bx_t Q10 | replace Q10 := bx_f Q10 | replace Q10 := be_t Q10 | replace Q10 := be_f Q10 | replace Q10 := of_decide_eq_true Q10 | replace Q10 := of_decide_eq_false Q10)
                first
                 | (exfalso; first | omega | contradiction | (cases Q10; done))
                 | skip
                   refine cd_exit ?_
                   refine ex_then ?_
                   refine ex_then ?_
                   refine ex_block ?_
                   refine nx_then ?_
                   refine cd_seq ?_
                   refine cd_region ?_
                   refine st_call BndWhere_k9 (wakes_any _) ?_
                   rintro v90 w42 ⟨rfl, E90⟩
                   refine st_val (ro_assign (v := .bool _) rfl) ?_
                   refine st_nil ?_
                   refine nx_then ?_
                   refine cd_ret ?_
                   refine res1 (v := .bool _) rfl rfl ?_
                   exact ⟨rfl, (hB.next E90)⟩
       · replace hv := hv.le hz17
         obtain ⟨_, _, _, _, _, hG⟩ := id hv
         have hGl := hG.len
         refine st_val (ro_move (v := .tuple _) rfl) ?_
         refine st_val (ro_extract rfl rfl) ?_
         refine st_val (ro_extract rfl rfl) ?_
         refine st_val (ro_assign (v := .pointer _) rfl) ?_
         refine st_val (ro_assign (v := .int _ _) rfl) ?_
         refine st_nil ?_
         refine nx_then ?_
         refine cd_seq ?_
         refine cd_seq ?_
         refine cd_region ?_
         refine st_val (ro_move (v := .pointer _) rfl) ?_
         refine st_val (ro_eqlNil BndWhere_p26 rfl rfl) ?_
         refine st_nil ?_
         refine nx_then ?_
         refine cd_cond rfl (fun Q43 => ?_) (fun Q43 => ?_)
         · (try first | replace Q43 := bn_t Q43 | replace Q43 := bn_f Q43)
           (try first | replace Q43 := bx_t Q43 | replace Q43 := bx_f Q43 | replace Q43 := be_t Q43 | replace Q43 := be_f Q43 | replace Q43 := of_decide_eq_true Q43 | replace Q43 := of_decide_eq_false Q43)
           first
            | (exfalso; first | omega | contradiction | (cases Q43; done))
            | skip
              refine cd_seq ?_
              refine cd_region ?_
              refine st_val (ro_move (v := .int _ _) rfl) ?_
              refine st_val (ro_neq rfl rfl) ?_
              refine st_val (ro_move (v := .bool _) rfl) ?_
              refine st_split (t := 24) rfl (fun Q44 => ?_) (fun Q44 => ?_)
              · (try first | replace Q44 := bn_t Q44 | replace Q44 := bn_f Q44)
                (try first | replace Q44 := bx_t Q44 | replace Q44 := bx_f Q44 | replace Q44 := be_t Q44 | replace Q44 := be_f Q44 | replace Q44 := of_decide_eq_true Q44 | replace Q44 := of_decide_eq_false Q44)
                first
                 | (exfalso; first | omega | contradiction | (cases Q44; done))
                 | skip
                   refine st_unguard rfl ?_
                   refine st_call BndWhere_k9 (wakes_any _) ?_
                   rintro v25 w45 ⟨rfl, E25⟩
                   refine st_val (ro_pickT (v := .bool _) rfl rfl) ?_
                   refine st_val (ro_assign (v := .bool _) rfl) ?_
                   refine st_nil ?_
                   refine nx_then ?_
                   refine cd_ret ?_
                   refine rt_then ?_
                   refine res1 (v := .bool _) rfl rfl ?_
                   exact ⟨rfl, ((((From.rfl_.next E1).next E14).next E17).next E25)⟩
              · (try first | replace Q44 := bn_t Q44 | replace Q44 := bn_f Q44)
                (try first | replace Q44 := bx_t Q44 | replace Q44 := bx_f Q44 | replace Q44 := be_t Q44 | replace Q44 := be_f Q44 | replace Q44 := of_decide_eq_true Q44 | replace Q44 := of_decide_eq_false Q44)
                first
                 | (exfalso; first | omega | contradiction | (cases Q44; done))
                 | skip
                   refine st_gno rfl rfl ?_
                   refine st_val (ro_pickF (v := .bool _) rfl rfl) ?_
                   refine st_val (ro_assign (v := .bool _) rfl) ?_
                   refine st_nil ?_
                   refine nx_then ?_
                   refine cd_ret ?_
                   refine rt_then ?_
                   refine res1 (v := .bool _) rfl rfl ?_
                   exact ⟨rfl, (((From.rfl_.next E1).next E14).next E17)⟩
         · (try first | replace Q43 := bn_t Q43 | replace Q43 := bn_f Q43)
           (try first | replace Q43 := bx_t Q43 | replace Q43 := bx_f Q43 | replace Q43 := be_t Q43 | replace Q43 := be_f Q43 | replace Q43 := of_decide_eq_true Q43 | replace Q43 := of_decide_eq_false Q43)
           first
            | (exfalso; first | omega | contradiction | (cases Q43; done))
            | skip
              refine cd_skip ?_
              refine nx_then ?_
              refine cd_seq ?_
              refine cd_region ?_
              refine st_val (ro_fieldAddr BndWhere_f24_0 rfl) ?_
              refine st_val (ro_load BndWhere_g22 rfl (by first | (first | exact (hP1.from_ From.rfl_).whole | exact (hP1.from_ From.rfl_).rd 0 rfl | exact (hP1.from_ From.rfl_).rd 1 rfl) | (first | exact (hk1.from_ From.rfl_).whole | exact (hk1.from_ From.rfl_).rd 0 rfl | exact (hk1.from_ From.rfl_).rd 1 rfl))) ?_
              refine st_val (ro_fieldAddr BndWhere_f24_0 rfl) ?_
              refine st_val (ro_load BndWhere_g22 rfl (by first | (first | exact (hP1.from_ From.rfl_).whole | exact (hP1.from_ From.rfl_).rd 0 rfl | exact (hP1.from_ From.rfl_).rd 1 rfl) | (first | exact (hk1.from_ From.rfl_).whole | exact (hk1.from_ From.rfl_).rd 0 rfl | exact (hk1.from_ From.rfl_).rd 1 rfl))) ?_
              refine st_val (ro_len BndWhere_l22 rfl) ?_
              refine st_call BndWhere_k12 (refStart_rt A ca L.length L _ (hr.from_ (((From.rfl_.next E1).next E14).next E17)) hG (Nat.le_refl _)) ?_
              rintro v32 w46 ⟨rfl, rfl⟩
              refine st_val (ro_assign (v := .int _ _) rfl) ?_
              refine st_nil ?_
              refine nx_then ?_
              refine cd_seq ?_
              refine cd_seq ?_
              refine cd_region ?_
              refine st_val (ro_assign (v := .int _ _) rfl) ?_
              refine st_nil ?_
              refine nx_then ?_
              refine cd_block ?_
              refine cd_loop (G := Nat) [2, 7, 8, 9, 10, 11, 12, 33, 34, 35, 36, 37, 38, 39, 40, 41, 42, 43, 44, 45, 46, 47, 48, 49, 50, 51, 52, 53, 54, 55, 56, 57, 58, 59, 60, 61, 62, 63, 64, 65, 66, 67, 68, 69, 70, 71, 72, 73, 74, 75, 76, 77, 78, 79, 80, 81, 82, 83, 84, 85, 86, 87, 88, 89] (fun k => [(6, .int .i64 (k : Nat))]) (fun k w' => k ≤ is.length ∧ BAt w' w.heap.size b L ∧ Blk w' b1 24 #[.slice A L.length ca, .slice B is.length cb] ∧ From w w') (fun k => is.length - k) (0) ⟨rfl, trivial⟩ ?_ ?_
              · exact ⟨Nat.zero_le _, hv.from_ From.rfl_, hk1.from_ From.rfl_, (((From.rfl_.next E1).next E14).next E17)⟩
              rintro k ρ47 w47 ⟨hk, hv, hP1, hB⟩
              refine cd_seq ?_
              refine cd_seq ?_
              refine cd_region ?_
              refine st_val (ro_move (v := .int _ _) rfl) ?_
              refine st_val (ro_fieldAddr BndWhere_f24_1 rfl) ?_
              refine st_val (ro_load BndWhere_g22 rfl (by first | (first | exact (hP1.from_ From.rfl_).whole | exact (hP1.from_ From.rfl_).rd 0 rfl | exact (hP1.from_ From.rfl_).rd 1 rfl) | (first | exact (hk1.from_ From.rfl_).whole | exact (hk1.from_ From.rfl_).rd 0 rfl | exact (hk1.from_ From.rfl_).rd 1 rfl))) ?_
              refine st_val (ro_len BndWhere_l22 rfl) ?_
              refine st_val (ro_lss rfl rfl) ?_
              refine st_nil ?_
              refine nx_then ?_
              refine cd_cond rfl (fun Q48 => ?_) (fun Q48 => ?_)
              · (try first | replace Q48 := bn_t Q48 | replace Q48 := bn_f Q48)
                (try first | replace Q48 := bx_t Q48 | replace Q48 := bx_f Q48 | replace Q48 := be_t Q48 | replace Q48 := be_f Q48 | replace Q48 := of_decide_eq_true Q48 | replace Q48 := of_decide_eq_false Q48)
                obtain ⟨bb, ob, rfl, hcb⟩ := hrB (by omega)
                first
                 | (exfalso; first | omega | contradiction | (cases Q48; done))
                 | skip
                   refine cd_skip ?_
                   refine nx_then ?_
                   refine cd_seq ?_
                   refine cd_block ?_
                   refine cd_seq ?_
                   refine cd_region ?_
                   refine st_val (ro_fieldAddr BndWhere_f24_1 rfl) ?_
                   refine st_val (ro_load BndWhere_g22 rfl (by first | (first | exact (hP1.from_ From.rfl_).whole | exact (hP1.from_ From.rfl_).rd 0 rfl | exact (hP1.from_ From.rfl_).rd 1 rfl) | (first | exact (hk1.from_ From.rfl_).whole | exact (hk1.from_ From.rfl_).rd 0 rfl | exact (hk1.from_ From.rfl_).rd 1 rfl))) ?_
                   refine st_val (ro_move (v := .int _ _) rfl) ?_
                   refine st_val (ro_indexAddr1 BndWhere_e22 rfl rfl (by omega)) ?_
                   refine st_val (ro_load BndWhere_g3 rfl (by exact cellF hB (hcb k (by omega)))) ?_
                   refine st_val (ro_assign (v := .int _ _) rfl) ?_
                   refine st_nil ?_
                   refine nx_then ?_
                   refine cd_seq ?_
                   refine cd_region ?_
                   refine st_val (ro_move (v := .pointer _) rfl) ?_
                   refine st_val (ro_move (v := .int _ _) rfl) ?_
                   refine st_call BndWhere_k16 (where_any _ b L _ (hv.from_ From.rfl_) is[k]) ?_
                   rintro v48 w49 ⟨hw48, E48⟩
                   rcases hw48 with ⟨hout, rfl⟩ | ⟨q, hq, hq1, hq2, rfl⟩
                   · refine st_val (ro_move (v := .tuple _) rfl) ?_
                     refine st_val (ro_extract rfl rfl) ?_
                     refine st_val (ro_extract rfl rfl) ?_
                     refine st_val (ro_extract rfl rfl) ?_
                     refine st_val (ro_assign (v := .int _ _) rfl) ?_
                     refine st_val (ro_assign (v := .int _ _) rfl) ?_
                     refine st_val (ro_assign (v := .int _ _) rfl) ?_
                     refine st_nil ?_
                     refine nx_then ?_
                     refine cd_seq ?_
                     refine cd_seq ?_
                     refine cd_region ?_
                     refine st_val (ro_move (v := .int _ _) rfl) ?_
                     refine st_val (ro_lss rfl rfl) ?_
                     refine st_val (ro_move (v := .bool _) rfl) ?_
                     refine st_split (t := 54) rfl (fun Q50 => ?_) (fun Q50 => ?_)
                     · (try first | replace Q50 := bn_t Q50 | replace Q50 := bn_f Q50)
                       (try first | replace Q50 := bx_t Q50 | replace Q50 := bx_f Q50 | replace Q50 := be_t Q50 | replace Q50 := be_f Q50 | replace Q50 := of_decide_eq_true Q50 | replace Q50 := of_decide_eq_false Q50)
                       first
                        | (exfalso; first | omega | contradiction | (cases Q50; done))
                        | skip
                          refine st_gno rfl rfl ?_
                          refine st_gno rfl rfl ?_
                          refine st_gno rfl rfl ?_
                          refine st_val (ro_pickT (v := .bool _) rfl rfl) ?_
                          refine st_nil ?_
                          refine nx_then ?_
                          refine cd_condT rfl ?_
                          refine cd_seq ?_
                          refine cd_seq ?_
                          refine cd_region ?_
                          refine st_val (ro_move (v := .int _ _) rfl) ?_
                          refine st_call BndWhere_k15 (num_any _ _) ?_
                          rintro v60 w51 ⟨rfl, rfl⟩
                          refine st_val (ro_neq rfl rfl) ?_
                          refine st_val (ro_move (v := .bool _) rfl) ?_
                          refine st_split (t := 62) rfl (fun Q52 => ?_) (fun Q52 => ?_)
                          · (try first | replace Q52 := bn_t Q52 | replace Q52 := bn_f Q52)
                            (try first | replace Q52 := bx_t Q52 | replace Q52 := bx_f Q52 | replace Q52 := be_t Q52 | replace Q52 := be_f Q52 | replace Q52 := of_decide_eq_true Q52 | replace Q52 := of_decide_eq_false Q52)
                            first
                             | (exfalso; first | omega | contradiction | (cases Q52; done))
                             | skip
                               refine st_gno rfl rfl ?_
                               refine st_gno rfl rfl ?_
                               refine st_val (ro_pickT (v := .bool _) rfl rfl) ?_
                               refine st_val (ro_move (v := .bool _) rfl) ?_
                               refine st_gno rfl rfl ?_
                               refine st_gno rfl rfl ?_
                               refine st_val (ro_pickT (v := .bool _) rfl rfl) ?_
                               refine st_nil ?_
                               refine nx_then ?_
                               refine cd_condT rfl ?_
                               refine cd_seq ?_
                               refine cd_region ?_
                               refine st_val (ro_assign (v := .bool _) rfl) ?_
                               refine st_nil ?_
                               refine nx_then ?_
                               refine cd_ret ?_
                               refine rt_then ?_
                               refine rt_then ?_
                               refine rt_block ?_
                               refine rt_then ?_
                               refine rt_then ?_
                               refine rt_block ?_
                               refine rt_then ?_
                               refine res1 (v := .bool _) rfl rfl ?_
                               exact ⟨rfl, (hB.next E48)⟩
                          · (try first | replace Q52 := bn_t Q52 | replace Q52 := bn_f Q52)
                            (try first | replace Q52 := bx_t Q52 | replace Q52 := bx_f Q52 | replace Q52 := be_t Q52 | replace Q52 := be_f Q52 | replace Q52 := of_decide_eq_true Q52 | replace Q52 := of_decide_eq_false Q52)
                            first
                             | (exfalso; first | omega | contradiction | (cases Q52; done))
                             | skip
                               refine st_unguard rfl ?_
                               refine st_val (ro_move (v := .int _ _) rfl) ?_
                               refine st_unguard rfl ?_
                               refine st_val (ro_neq rfl rfl) ?_
                               refine st_val (ro_pickF (v := .bool _) rfl rfl) ?_
                               refine st_val (ro_move (v := .bool _) rfl) ?_
                               refine st_split (t := 66) rfl (fun Q53 => ?_) (fun Q53 => ?_)
                               · (try first | replace Q53 := bn_t Q53 | replace Q53 := bn_f Q53)
                                 (try first | replace Q53 := bx_t Q53 | replace Q53 := bx_f Q53 | replace Q53 := be_t Q53 | replace Q53 := be_f Q53 | replace Q53 := of_decide_eq_true Q53 | replace Q53 := of_decide_eq_false Q53)
                                 first
                                  | (exfalso; first | omega | contradiction | (cases Q53; done))
                                  | skip
                                    refine st_gno rfl rfl ?_
                                    refine st_gno rfl rfl ?_
                                    refine st_val (ro_pickT (v := .bool _) rfl rfl) ?_
                                    refine st_nil ?_
                                    refine nx_then ?_
                                    refine cd_condT rfl ?_
                                    refine cd_seq ?_
                                    refine cd_region ?_
                                    refine st_val (ro_assign (v := .bool _) rfl) ?_
                                    refine st_nil ?_
                                    refine nx_then ?_
                                    refine cd_ret ?_
                                    refine rt_then ?_
                                    refine rt_then ?_
                                    refine rt_block ?_
                                    refine rt_then ?_
                                    refine rt_then ?_
                                    refine rt_block ?_
                                    refine rt_then ?_
                                    refine res1 (v := .bool _) rfl rfl ?_
                                    exact ⟨rfl, (hB.next E48)⟩
                               · (try first | replace Q53 := bn_t Q53 | replace Q53 := bn_f Q53)
                                 (try first | replace Q53 := bx_t Q53 | replace Q53 := bx_f Q53 | replace Q53 := be_t Q53 | replace Q53 := be_f Q53 | replace Q53 := of_decide_eq_true Q53 | replace Q53 := of_decide_eq_false Q53)
                                 first
                                  | (exfalso; first | omega | contradiction | (cases Q53; done))
                                  | skip
                                    refine st_unguard rfl ?_
                                    refine st_val (ro_move (v := .int _ _) rfl) ?_
                                    refine st_unguard rfl ?_
                                    refine st_val (ro_neq rfl rfl) ?_
                                    refine st_val (ro_pickF (v := .bool _) rfl rfl) ?_
                                    refine st_nil ?_
                                    refine nx_then ?_
                                    refine cd_cond rfl (fun Q54 => ?_) (fun Q54 => ?_)
                                    · (try first | replace Q54 := bn_t Q54 | replace Q54 := bn_f Q54)
                                      (try first | replace Q54 := bx_t Q54 | replace Q54 := bx_f Q54 | replace Q54 := be_t Q54 | replace Q54 := be_f Q54 | replace Q54 := of_decide_eq_true Q54 | replace Q54 := of_decide_eq_false Q54)
                                      first
                                       | (exfalso; first | omega | contradiction | (cases Q54; done))
                                       | skip
                                         refine cd_seq ?_
                                         refine cd_region ?_
                                         refine st_val (ro_assign (v := .bool _) rfl) ?_
                                         refine st_nil ?_
                                         refine nx_then ?_
                                         refine cd_ret ?_
                                         refine rt_then ?_
                                         refine rt_then ?_
                                         refine rt_block ?_
                                         refine rt_then ?_
                                         refine rt_then ?_
                                         refine rt_block ?_
                                         refine rt_then ?_
                                         refine res1 (v := .bool _) rfl rfl ?_
                                         exact ⟨rfl, (hB.next E48)⟩
                                    · (try first | replace Q54 := bn_t Q54 | replace Q54 := bn_f Q54)
                                      (try first | replace Q54 := bx_t Q54 | replace Q54 := bx_f Q54 | replace Q54 := be_t Q54 | replace Q54 := be_f Q54 | replace Q54 := of_decide_eq_true Q54 | replace Q54 := of_decide_eq_false Q54)
                                      first
                                       | (exfalso; first | omega | contradiction | (cases Q54; done))
                                       | skip
                                         refine cd_skip ?_
                                         refine nx_then ?_
                                         refine cd_exit ?_
                                         refine ex_then ?_
                                         refine ex_block ?_
                                         refine nx_then ?_
                                         refine cd_region ?_
                                         refine st_val (ro_move (v := .int _ _) rfl) ?_
                                         refine st_val (ro_addN (b := 1) rfl rfl (by omega)) ?_
                                         refine st_val (ro_assign (v := .int _ _) rfl) ?_
                                         refine st_nil ?_
                                         refine nx_cut (k + 1) ⟨(by first | rfl | (refine int_eq ?_; omega)), trivial⟩ (by (iterate 110 refine agr_cons rfl ?_); exact agr_rfl) ⟨?_, ?_⟩
                                         · exact ⟨by omega, hv.from_ (From.rfl_.next E48), hP1.from_ (From.rfl_.next E48), (hB.next E48)⟩
                                         · omega
                     · (try first | replace Q50 := bn_t Q50 | replace Q50 := bn_f Q50)
                       (try first | replace Q50 := bx_t Q50 | replace Q50 := bx_f Q50 | replace Q50 := be_t Q50 | replace Q50 := be_f Q50 | replace Q50 := of_decide_eq_true Q50 | replace Q50 := of_decide_eq_false Q50)
                       first
                        | (exfalso; first | omega | contradiction | (cases Q50; done))
                        | skip
                          refine st_unguard rfl ?_
                          refine st_val (ro_move (v := .int _ _) rfl) ?_
                          refine st_unguard rfl ?_
                          refine st_val (ro_move (v := .int _ _) rfl) ?_
                          refine st_unguard rfl ?_
                          refine st_val (ro_geq rfl rfl) ?_
                          refine st_val (ro_pickF (v := .bool _) rfl rfl) ?_
                          refine st_nil ?_
                          refine nx_then ?_
                          refine cd_cond rfl (fun Q55 => ?_) (fun Q55 => ?_)
                          · (try first | replace Q55 := bn_t Q55 | replace Q55 := bn_f Q55)
                            (try first | replace Q55 := bx_t Q55 | replace Q55 := bx_f Q55 | replace Q55 := be_t Q55 | replace Q55 := be_f Q55 | replace Q55 := of_decide_eq_true Q55 | replace Q55 := of_decide_eq_false Q55)
                            first
                             | (exfalso; first | omega | contradiction | (cases Q55; done))
                             | skip
                               refine cd_seq ?_
                               refine cd_seq ?_
                               refine cd_region ?_
                               refine st_val (ro_move (v := .int _ _) rfl) ?_
                               refine st_call BndWhere_k15 (num_any _ _) ?_
                               rintro v60 w56 ⟨rfl, rfl⟩
                               refine st_val (ro_neq rfl rfl) ?_
                               refine st_val (ro_move (v := .bool _) rfl) ?_
                               refine st_split (t := 62) rfl (fun Q57 => ?_) (fun Q57 => ?_)
                               · (try first | replace Q57 := bn_t Q57 | replace Q57 := bn_f Q57)
                                 (try first | replace Q57 := bx_t Q57 | replace Q57 := bx_f Q57 | replace Q57 := be_t Q57 | replace Q57 := be_f Q57 | replace Q57 := of_decide_eq_true Q57 | replace Q57 := of_decide_eq_false Q57)
                                 first
                                  | (exfalso; first | omega | contradiction | (cases Q57; done))
                                  | skip
                                    refine st_gno rfl rfl ?_
                                    refine st_gno rfl rfl ?_
                                    refine st_val (ro_pickT (v := .bool _) rfl rfl) ?_
                                    refine st_val (ro_move (v := .bool _) rfl) ?_
                                    refine st_gno rfl rfl ?_
                                    refine st_gno rfl rfl ?_
                                    refine st_val (ro_pickT (v := .bool _) rfl rfl) ?_
                                    refine st_nil ?_
                                    refine nx_then ?_
                                    refine cd_condT rfl ?_
                                    refine cd_seq ?_
                                    refine cd_region ?_
                                    refine st_val (ro_assign (v := .bool _) rfl) ?_
                                    refine st_nil ?_
                                    refine nx_then ?_
                                    refine cd_ret ?_
                                    refine rt_then ?_
                                    refine rt_then ?_
                                    refine rt_block ?_
                                    refine rt_then ?_
                                    refine rt_then ?_
                                    refine rt_block ?_
                                    refine rt_then ?_
                                    refine res1 (v := .bool _) rfl rfl ?_
                                    exact ⟨rfl, (hB.next E48)⟩
                               · (try first | replace Q57 := bn_t Q57 | replace Q57 := bn_f Q57)
                                 (try first | replace Q57 := bx_t Q57 | replace Q57 := bx_f Q57 | replace Q57 := be_t Q57 | replace Q57 := be_f Q57 | replace Q57 := of_decide_eq_true Q57 | replace Q57 := of_decide_eq_false Q57)
                                 first
                                  | (exfalso; first | omega | contradiction | (cases Q57; done))
                                  | skip
                                    refine st_unguard rfl ?_
                                    refine st_val (ro_move (v := .int _ _) rfl) ?_
                                    refine st_unguard rfl ?_
                                    refine st_val (ro_neq rfl rfl) ?_
                                    refine st_val (ro_pickF (v := .bool _) rfl rfl) ?_
                                    refine st_val (ro_move (v := .bool _) rfl) ?_
                                    refine st_split (t := 66) rfl (fun Q58 => ?_) (fun Q58 => ?_)
                                    · (try first | replace Q58 := bn_t Q58 | replace Q58 := bn_f Q58)
                                      (try first | replace Q58 := bx_t Q58 | replace Q58 := bx_f Q58 | replace Q58 := be_t Q58 | replace Q58 := be_f Q58 | replace Q58 := of_decide_eq_true Q58 | replace Q58 := of_decide_eq_false Q58)
                                      first
                                       | (exfalso; first | omega | contradiction | (cases Q58; done))
                                       | skip
                                         refine st_gno rfl rfl ?_
                                         refine st_gno rfl rfl ?_
                                         refine st_val (ro_pickT (v := .bool _) rfl rfl) ?_
                                         refine st_nil ?_
                                         refine nx_then ?_
                                         refine cd_condT rfl ?_
                                         refine cd_seq ?_
                                         refine cd_region ?_
                                         refine st_val (ro_assign (v := .bool _) rfl) ?_
                                         refine st_nil ?_
                                         refine nx_then ?_
                                         refine cd_ret ?_
                                         refine rt_then ?_
                                         refine rt_then ?_
                                         refine rt_block ?_
                                         refine rt_then ?_
                                         refine rt_then ?_
                                         refine rt_block ?_
                                         refine rt_then ?_
                                         refine res1 (v := .bool _) rfl rfl ?_
                                         exact ⟨rfl, (hB.next E48)⟩
                                    · (try first | replace Q58 := bn_t Q58 | replace Q58 := bn_f Q58)
                                      (try first | replace Q58 := bx_t Q58 | replace Q58 := bx_f Q58 | replace Q58 := be_t Q58 | replace Q58 := be_f Q58 | replace Q58 := of_decide_eq_true Q58 | replace Q58 := of_decide_eq_false Q58)
                                      first
                                       | (exfalso; first | omega | contradiction | (cases Q58; done))
                                       | skip
                                         refine st_unguard rfl ?_
                                         refine st_val (ro_move (v := .int _ _) rfl) ?_
                                         refine st_unguard rfl ?_
                                         refine st_val (ro_neq rfl rfl) ?_
                                         refine st_val (ro_pickF (v := .bool _) rfl rfl) ?_
                                         refine st_nil ?_
                                         refine nx_then ?_
                                         refine cd_cond rfl (fun Q59 => ?_) (fun Q59 => ?_)
                                         · (try first | replace Q59 := bn_t Q59 | replace Q59 := bn_f Q59)
                                           (try first | replace Q59 := bx_t Q59 | replace Q59 := bx_f Q59 | replace Q59 := be_t Q59 | replace Q59 := be_f Q59 | replace Q59 := of_decide_eq_true Q59 | replace Q59 := of_decide_eq_false Q59)
                                           first
                                            | (exfalso; first | omega | contradiction | (cases Q59; done))
                                            | skip
                                              refine cd_seq ?_
                                              refine cd_region ?_
                                              refine st_val (ro_assign (v := .bool _) rfl) ?_
                                              refine st_nil ?_
                                              refine nx_then ?_
                                              refine cd_ret ?_
                                              refine rt_then ?_
                                              refine rt_then ?_
                                              refine rt_block ?_
                                              refine rt_then ?_
                                              refine rt_then ?_
                                              refine rt_block ?_
                                              refine rt_then ?_
                                              refine res1 (v := .bool _) rfl rfl ?_
                                              exact ⟨rfl, (hB.next E48)⟩
                                         · (try first | replace Q59 := bn_t Q59 | replace Q59 := bn_f Q59)
                                           (try first | replace Q59 := bx_t Q59 | replace Q59 := bx_f Q59 | replace Q59 := be_t Q59 | replace Q59 := be_f Q59 | replace Q59 := of_decide_eq_true Q59 | replace Q59 := of_decide_eq_false Q59)
                                           first
                                            | (exfalso; first | omega | contradiction | (cases Q59; done))
                                            | skip
                                              refine cd_skip ?_
                                              refine nx_then ?_
                                              refine cd_exit ?_
                                              refine ex_then ?_
                                              refine ex_block ?_
                                              refine nx_then ?_
                                              refine cd_region ?_
                                              refine st_val (ro_move (v := .int _ _) rfl) ?_
                                              refine st_val (ro_addN (b := 1) rfl rfl (by omega)) ?_
                                              refine st_val (ro_assign (v := .int _ _) rfl) ?_
                                              refine st_nil ?_
                                              refine nx_cut (k + 1) ⟨(by first | rfl | (refine int_eq ?_; omega)), trivial⟩ (by (iterate 110 refine agr_cons rfl ?_); exact agr_rfl) ⟨?_, ?_⟩
                                              · exact ⟨by omega, hv.from_ (From.rfl_.next E48), hP1.from_ (From.rfl_.next E48), (hB.next E48)⟩
                                              · omega
                          · (try first | replace Q55 := bn_t Q55 | replace Q55 := bn_f Q55)
                            (try first | replace Q55 := bx_t Q55 | replace Q55 := bx_f Q55 | replace Q55 := be_t Q55 | replace Q55 := be_f Q55 | replace Q55 := of_decide_eq_true Q55 | replace Q55 := of_decide_eq_false Q55)
                            first
                             | (exfalso; first | omega | contradiction | (cases Q55; done))
                             | skip
                               refine cd_skip ?_
                               refine nx_then ?_
                               refine cd_seq ?_
                               refine cd_region ?_
                               refine st_val (ro_fieldAddr BndWhere_f24_0 rfl) ?_
                               refine st_val (ro_load BndWhere_g22 rfl (by first | (first | exact (hP1.from_ (From.rfl_.next E48)).whole | exact (hP1.from_ (From.rfl_.next E48)).rd 0 rfl | exact (hP1.from_ (From.rfl_.next E48)).rd 1 rfl) | (first | exact (hk1.from_ (From.rfl_.next E48)).whole | exact (hk1.from_ (From.rfl_.next E48)).rd 0 rfl | exact (hk1.from_ (From.rfl_.next E48)).rd 1 rfl))) ?_
                               refine st_val (ro_move (v := .int _ _) rfl) ?_
                               refine st_call BndWhere_k17 (refWhere_rt A ca q is[k] L _ (hr.from_ (hB.next E48)) hG hq hq1 hq2) ?_
                               rintro v74 w60 ⟨rfl, rfl⟩
                               refine st_val (ro_move (v := .tuple _) rfl) ?_
                               refine st_val (ro_extract rfl rfl) ?_
                               refine st_val (ro_extract rfl rfl) ?_
                               refine st_val (ro_assign (v := .int _ _) rfl) ?_
                               refine st_val (ro_assign (v := .int _ _) rfl) ?_
                               refine st_nil ?_
                               refine nx_then ?_
                               refine cd_seq ?_
                               refine cd_region ?_
                               refine st_val (ro_move (v := .int _ _) rfl) ?_
                               refine st_call BndWhere_k15 (num_any _ _) ?_
                               rintro v78 w61 ⟨rfl, rfl⟩
                               refine st_val (ro_neq rfl rfl) ?_
                               refine st_val (ro_move (v := .bool _) rfl) ?_
                               refine st_split (t := 80) rfl (fun Q62 => ?_) (fun Q62 => ?_)
                               · (try first | replace Q62 := bn_t Q62 | replace Q62 := bn_f Q62)
                                 (try first | replace Q62 := bx_t Q62 | replace Q62 := bx_f Q62 | replace Q62 := be_t Q62 | replace Q62 := be_f Q62 | replace Q62 := of_decide_eq_true Q62 | replace Q62 := of_decide_eq_false Q62)
                                 first
                                  | (exfalso; first | omega | contradiction | (cases Q62; done))
                                  | skip
                                    refine st_gno rfl rfl ?_
                                    refine st_gno rfl rfl ?_
                                    refine st_gno rfl rfl ?_
                                    refine st_val (ro_pickT (v := .bool _) rfl rfl) ?_
                                    refine st_val (ro_move (v := .bool _) rfl) ?_
                                    refine st_gno rfl rfl ?_
                                    refine st_gno rfl rfl ?_
                                    refine st_gno rfl rfl ?_
                                    refine st_val (ro_pickT (v := .bool _) rfl rfl) ?_
                                    refine st_nil ?_
                                    refine nx_then ?_
                                    refine cd_condT rfl ?_
                                    refine cd_seq ?_
                                    refine cd_region ?_
                                    refine st_val (ro_assign (v := .bool _) rfl) ?_
                                    refine st_nil ?_
                                    refine nx_then ?_
                                    refine cd_ret ?_
                                    refine rt_block ?_
                                    refine rt_then ?_
                                    refine rt_then ?_
                                    refine rt_block ?_
                                    refine rt_then ?_
                                    refine res1 (v := .bool _) rfl rfl ?_
                                    exact ⟨rfl, (hB.next E48)⟩
                               · (try first | replace Q62 := bn_t Q62 | replace Q62 := bn_f Q62)
                                 (try first | replace Q62 := bx_t Q62 | replace Q62 := bx_f Q62 | replace Q62 := be_t Q62 | replace Q62 := be_f Q62 | replace Q62 := of_decide_eq_true Q62 | replace Q62 := of_decide_eq_false Q62)
                                 first
                                  | (exfalso; first | omega | contradiction | (cases Q62; done))
                                  | skip
                                    refine st_unguard rfl ?_
                                    refine st_val (ro_move (v := .int _ _) rfl) ?_
                                    refine st_unguard rfl ?_
                                    refine st_val (ro_move (v := .int _ _) rfl) ?_
                                    refine st_unguard rfl ?_
                                    refine st_val (ro_neq rfl rfl) ?_
                                    refine st_val (ro_pickF (v := .bool _) rfl rfl) ?_
                                    refine st_val (ro_move (v := .bool _) rfl) ?_
                                    refine st_split (t := 85) rfl (fun Q63 => ?_) (fun Q63 => ?_)
                                    · (try first | replace Q63 := bn_t Q63 | replace Q63 := bn_f Q63)
                                      (try first | replace Q63 := bx_t Q63 | replace Q63 := bx_f Q63 | replace Q63 := be_t Q63 | replace Q63 := be_f Q63 | replace Q63 := of_decide_eq_true Q63 | replace Q63 := of_decide_eq_false Q63)
                                      first
                                       | (exfalso; first | omega | contradiction | (cases Q63; done))
                                       | skip
                                         refine st_gno rfl rfl ?_
                                         refine st_gno rfl rfl ?_
                                         refine st_gno rfl rfl ?_
                                         refine st_val (ro_pickT (v := .bool _) rfl rfl) ?_
                                         refine st_nil ?_
                                         refine nx_then ?_
                                         refine cd_condT rfl ?_
                                         refine cd_seq ?_
                                         refine cd_region ?_
                                         refine st_val (ro_assign (v := .bool _) rfl) ?_
                                         refine st_nil ?_
                                         refine nx_then ?_
                                         refine cd_ret ?_
                                         refine rt_block ?_
                                         refine rt_then ?_
                                         refine rt_then ?_
                                         refine rt_block ?_
                                         refine rt_then ?_
                                         refine res1 (v := .bool _) rfl rfl ?_
                                         exact ⟨rfl, (hB.next E48)⟩
                                    · (try first | replace Q63 := bn_t Q63 | replace Q63 := bn_f Q63)
                                      (try first | replace Q63 := bx_t Q63 | replace Q63 := bx_f Q63 | replace Q63 := be_t Q63 | replace Q63 := be_f Q63 | replace Q63 := of_decide_eq_true Q63 | replace Q63 := of_decide_eq_false Q63)
                                      first
                                       | (exfalso; first | omega | contradiction | (cases Q63; done))
                                       | skip
                                         refine st_unguard rfl ?_
                                         refine st_val (ro_move (v := .int _ _) rfl) ?_
                                         refine st_unguard rfl ?_
                                         refine st_val (ro_move (v := .int _ _) rfl) ?_
                                         refine st_unguard rfl ?_
                                         refine st_val (ro_neq rfl rfl) ?_
                                         refine st_val (ro_pickF (v := .bool _) rfl rfl) ?_
                                         refine st_nil ?_
                                         refine nx_then ?_
                                         refine cd_cond rfl (fun Q64 => ?_) (fun Q64 => ?_)
                                         · (try first | replace Q64 := bn_t Q64 | replace Q64 := bn_f Q64)
                                           (try first | replace Q64 := bx_t Q64 | replace Q64 := bx_f Q64 | replace Q64 := be_t Q64 | replace Q64 := be_f Q64 | replace Q64 := of_decide_eq_true Q64 | replace Q64 := of_decide_eq_false Q64)
                                           first
                                            | (exfalso; first | omega | contradiction | (cases Q64; done))
                                            | skip
                                              refine cd_seq ?_
                                              refine cd_region ?_
                                              refine st_val (ro_assign (v := .bool _) rfl) ?_
                                              refine st_nil ?_
                                              refine nx_then ?_
                                              refine cd_ret ?_
                                              refine rt_block ?_
                                              refine rt_then ?_
                                              refine rt_then ?_
                                              refine rt_block ?_
                                              refine rt_then ?_
                                              refine res1 (v := .bool _) rfl rfl ?_
                                              exact ⟨rfl, (hB.next E48)⟩
                                         · (try first | replace Q64 := bn_t Q64 | replace Q64 := bn_f Q64)
                                           (try first | replace Q64 := bx_t Q64 | replace Q64 := bx_f Q64 | replace Q64 := be_t Q64 | replace Q64 := be_f Q64 | replace Q64 := of_decide_eq_true Q64 | replace Q64 := of_decide_eq_false Q64)
                                           first
                                            | (exfalso; first | omega | contradiction | (cases Q64; done))
                                            | skip
                                              refine cd_skip ?_
                                              refine nx_block ?_
                                              refine nx_then ?_
                                              refine cd_region ?_
                                              refine st_val (ro_move (v := .int _ _) rfl) ?_
                                              refine st_val (ro_addN (b := 1) rfl rfl (by omega)) ?_
                                              refine st_val (ro_assign (v := .int _ _) rfl) ?_
                                              refine st_nil ?_
                                              refine nx_cut (k + 1) ⟨(by first | rfl | (refine int_eq ?_; omega)), trivial⟩ (by (iterate 121 refine agr_cons rfl ?_); exact agr_rfl) ⟨?_, ?_⟩
                                              · exact ⟨by omega, hv.from_ (From.rfl_.next E48), hP1.from_ (From.rfl_.next E48), (hB.next E48)⟩
                                              · omega
                   · have hst0 := hG.st (k := q) (by omega)
                     have hst1 := st_mono hG.pos (show q + 1 ≤ L.length by omega)
                     refine st_val (ro_move (v := .tuple _) rfl) ?_
                     refine st_val (ro_extract rfl rfl) ?_
                     refine st_val (ro_extract rfl rfl) ?_
                     refine st_val (ro_extract rfl rfl) ?_
                     refine st_val (ro_assign (v := .int _ _) rfl) ?_
                     refine st_val (ro_assign (v := .int _ _) rfl) ?_
                     refine st_val (ro_assign (v := .int _ _) rfl) ?_
                     refine st_nil ?_
                     refine nx_then ?_
                     refine cd_seq ?_
                     refine cd_seq ?_
                     refine cd_region ?_
                     refine st_val (ro_move (v := .int _ _) rfl) ?_
                     refine st_val (ro_lss rfl rfl) ?_
                     refine st_val (ro_move (v := .bool _) rfl) ?_
                     refine st_split (t := 54) rfl (fun Q65 => ?_) (fun Q65 => ?_)
                     · (try first | replace Q65 := bn_t Q65 | replace Q65 := bn_f Q65)
                       (try first | replace Q65 := bx_t Q65 | replace Q65 := bx_f Q65 | replace Q65 := be_t Q65 | replace Q65 := be_f Q65 | replace Q65 := of_decide_eq_true Q65 | replace Q65 := of_decide_eq_false Q65)
                       first
                        | (exfalso; first | omega | contradiction | (cases Q65; done))
                        | skip
                          refine st_gno rfl rfl ?_
                          refine st_gno rfl rfl ?_
                          refine st_gno rfl rfl ?_
                          refine st_val (ro_pickT (v := .bool _) rfl rfl) ?_
                          refine st_nil ?_
                          refine nx_then ?_
                          refine cd_condT rfl ?_
                          refine cd_seq ?_
                          refine cd_seq ?_
                          refine cd_region ?_
                          refine st_val (ro_move (v := .int _ _) rfl) ?_
                          refine st_call BndWhere_k15 (num_any _ _) ?_
                          rintro v60 w66 ⟨rfl, rfl⟩
                          refine st_val (ro_neq rfl rfl) ?_
                          refine st_val (ro_move (v := .bool _) rfl) ?_
                          refine st_split (t := 62) rfl (fun Q67 => ?_) (fun Q67 => ?_)
                          · (try first | replace Q67 := bn_t Q67 | replace Q67 := bn_f Q67)
                            (try first | replace Q67 := bx_t Q67 | replace Q67 := bx_f Q67 | replace Q67 := be_t Q67 | replace Q67 := be_f Q67 | replace Q67 := of_decide_eq_true Q67 | replace Q67 := of_decide_eq_false Q67)
                            first
                             | (exfalso; first | omega | contradiction | (cases Q67; done))
                             | skip
                               refine st_gno rfl rfl ?_
                               refine st_gno rfl rfl ?_
                               refine st_val (ro_pickT (v := .bool _) rfl rfl) ?_
                               refine st_val (ro_move (v := .bool _) rfl) ?_
                               refine st_gno rfl rfl ?_
                               refine st_gno rfl rfl ?_
                               refine st_val (ro_pickT (v := .bool _) rfl rfl) ?_
                               refine st_nil ?_
                               refine nx_then ?_
                               refine cd_condT rfl ?_
                               refine cd_seq ?_
                               refine cd_region ?_
                               refine st_val (ro_assign (v := .bool _) rfl) ?_
                               refine st_nil ?_
                               refine nx_then ?_
                               refine cd_ret ?_
                               refine rt_then ?_
                               refine rt_then ?_
                               refine rt_block ?_
                               refine rt_then ?_
                               refine rt_then ?_
                               refine rt_block ?_
                               refine rt_then ?_
                               refine res1 (v := .bool _) rfl rfl ?_
                               exact ⟨rfl, (hB.next E48)⟩
                          · (try first | replace Q67 := bn_t Q67 | replace Q67 := bn_f Q67)
                            (try first | replace Q67 := bx_t Q67 | replace Q67 := bx_f Q67 | replace Q67 := be_t Q67 | replace Q67 := be_f Q67 | replace Q67 := of_decide_eq_true Q67 | replace Q67 := of_decide_eq_false Q67)
                            first
                             | (exfalso; first | omega | contradiction | (cases Q67; done))
                             | skip
                               refine st_unguard rfl ?_
                               refine st_val (ro_move (v := .int _ _) rfl) ?_
                               refine st_unguard rfl ?_
                               refine st_val (ro_neq rfl rfl) ?_
                               refine st_val (ro_pickF (v := .bool _) rfl rfl) ?_
                               refine st_val (ro_move (v := .bool _) rfl) ?_
                               refine st_split (t := 66) rfl (fun Q68 => ?_) (fun Q68 => ?_)
                               · (try first | replace Q68 := bn_t Q68 | replace Q68 := bn_f Q68)
                                 (try first | replace Q68 := bx_t Q68 | replace Q68 := bx_f Q68 | replace Q68 := be_t Q68 | replace Q68 := be_f Q68 | replace Q68 := of_decide_eq_true Q68 | replace Q68 := of_decide_eq_false Q68)
                                 first
                                  | (exfalso; first | omega | contradiction | (cases Q68; done))
                                  | skip
                                    refine st_gno rfl rfl ?_
                                    refine st_gno rfl rfl ?_
                                    refine st_val (ro_pickT (v := .bool _) rfl rfl) ?_
                                    refine st_nil ?_
                                    refine nx_then ?_
                                    refine cd_condT rfl ?_
                                    refine cd_seq ?_
                                    refine cd_region ?_
                                    refine st_val (ro_assign (v := .bool _) rfl) ?_
                                    refine st_nil ?_
                                    refine nx_then ?_
                                    refine cd_ret ?_
                                    refine rt_then ?_
                                    refine rt_then ?_
                                    refine rt_block ?_
                                    refine rt_then ?_
                                    refine rt_then ?_
                                    refine rt_block ?_
                                    refine rt_then ?_
                                    refine res1 (v := .bool _) rfl rfl ?_
                                    exact ⟨rfl, (hB.next E48)⟩
                               · (try first | replace Q68 := bn_t Q68 | replace Q68 := bn_f Q68)
                                 (try first | replace Q68 := bx_t Q68 | replace Q68 := bx_f Q68 | replace Q68 := be_t Q68 | replace Q68 := be_f Q68 | replace Q68 := of_decide_eq_true Q68 | replace Q68 := of_decide_eq_false Q68)
                                 first
                                  | (exfalso; first | omega | contradiction | (cases Q68; done))
                                  | skip
                                    refine st_unguard rfl ?_
                                    refine st_val (ro_move (v := .int _ _) rfl) ?_
                                    refine st_unguard rfl ?_
                                    refine st_val (ro_neq rfl rfl) ?_
                                    refine st_val (ro_pickF (v := .bool _) rfl rfl) ?_
                                    refine st_nil ?_
                                    refine nx_then ?_
                                    refine cd_cond rfl (fun Q69 => ?_) (fun Q69 => ?_)
                                    · (try first | replace Q69 := bn_t Q69 | replace Q69 := bn_f Q69)
                                      (try first | replace Q69 := bx_t Q69 | replace Q69 := bx_f Q69 | replace Q69 := be_t Q69 | replace Q69 := be_f Q69 | replace Q69 := of_decide_eq_true Q69 | replace Q69 := of_decide_eq_false Q69)
                                      first
                                       | (exfalso; first | omega | contradiction | (cases Q69; done))
                                       | skip
                                         refine cd_seq ?_
                                         refine cd_region ?_
                                         refine st_val (ro_assign (v := .bool _) rfl) ?_
                                         refine st_nil ?_
                                         refine nx_then ?_
                                         refine cd_ret ?_
                                         refine rt_then ?_
                                         refine rt_then ?_
                                         refine rt_block ?_
                                         refine rt_then ?_
                                         refine rt_then ?_
                                         refine rt_block ?_
                                         refine rt_then ?_
                                         refine res1 (v := .bool _) rfl rfl ?_
                                         exact ⟨rfl, (hB.next E48)⟩
                                    · (try first | replace Q69 := bn_t Q69 | replace Q69 := bn_f Q69)
                                      (try first | replace Q69 := bx_t Q69 | replace Q69 := bx_f Q69 | replace Q69 := be_t Q69 | replace Q69 := be_f Q69 | replace Q69 := of_decide_eq_true Q69 | replace Q69 := of_decide_eq_false Q69)
                                      first
                                       | (exfalso; first | omega | contradiction | (cases Q69; done))
                                       | skip
                                         refine cd_skip ?_
                                         refine nx_then ?_
                                         refine cd_exit ?_
                                         refine ex_then ?_
                                         refine ex_block ?_
                                         refine nx_then ?_
                                         refine cd_region ?_
                                         refine st_val (ro_move (v := .int _ _) rfl) ?_
                                         refine st_val (ro_addN (b := 1) rfl rfl (by omega)) ?_
                                         refine st_val (ro_assign (v := .int _ _) rfl) ?_
                                         refine st_nil ?_
                                         refine nx_cut (k + 1) ⟨(by first | rfl | (refine int_eq ?_; omega)), trivial⟩ (by (iterate 110 refine agr_cons rfl ?_); exact agr_rfl) ⟨?_, ?_⟩
                                         · exact ⟨by omega, hv.from_ (From.rfl_.next E48), hP1.from_ (From.rfl_.next E48), (hB.next E48)⟩
                                         · omega
                     · (try first | replace Q65 := bn_t Q65 | replace Q65 := bn_f Q65)
                       (try first | replace Q65 := bx_t Q65 | replace Q65 := bx_f Q65 | replace Q65 := be_t Q65 | replace Q65 := be_f Q65 | replace Q65 := of_decide_eq_true Q65 | replace Q65 := of_decide_eq_false Q65)
                       first
                        | (exfalso; first | omega | contradiction | (cases Q65; done))
                        | skip
                          refine st_unguard rfl ?_
                          refine st_val (ro_move (v := .int _ _) rfl) ?_
                          refine st_unguard rfl ?_
                          refine st_val (ro_move (v := .int _ _) rfl) ?_
                          refine st_unguard rfl ?_
                          refine st_val (ro_geq rfl rfl) ?_
                          refine st_val (ro_pickF (v := .bool _) rfl rfl) ?_
                          refine st_nil ?_
                          refine nx_then ?_
                          refine cd_cond rfl (fun Q70 => ?_) (fun Q70 => ?_)
                          · (try first | replace Q70 := bn_t Q70 | replace Q70 := bn_f Q70)
                            (try first | replace Q70 := bx_t Q70 | replace Q70 := bx_f Q70 | replace Q70 := be_t Q70 | replace Q70 := be_f Q70 | replace Q70 := of_decide_eq_true Q70 | replace Q70 := of_decide_eq_false Q70)
                            first
                             | (exfalso; first | omega | contradiction | (cases Q70; done))
                             | skip
                               refine cd_seq ?_
                               refine cd_seq ?_
                               refine cd_region ?_
                               refine st_val (ro_move (v := .int _ _) rfl) ?_
                               refine st_call BndWhere_k15 (num_any _ _) ?_
                               rintro v60 w71 ⟨rfl, rfl⟩
                               refine st_val (ro_neq rfl rfl) ?_
                               refine st_val (ro_move (v := .bool _) rfl) ?_
                               refine st_split (t := 62) rfl (fun Q72 => ?_) (fun Q72 => ?_)
                               · (try first | replace Q72 := bn_t Q72 | replace Q72 := bn_f Q72)
                                 (try first | replace Q72 := bx_t Q72 | replace Q72 := bx_f Q72 | replace Q72 := be_t Q72 | replace Q72 := be_f Q72 | replace Q72 := of_decide_eq_true Q72 | replace Q72 := of_decide_eq_false Q72)
                                 first
                                  | (exfalso; first | omega | contradiction | (cases Q72; done))
                                  | skip
                                    refine st_gno rfl rfl ?_
                                    refine st_gno rfl rfl ?_
                                    refine st_val (ro_pickT (v := .bool _) rfl rfl) ?_
                                    refine st_val (ro_move (v := .bool _) rfl) ?_
                                    refine st_gno rfl rfl ?_
                                    refine st_gno rfl rfl ?_
                                    refine st_val (ro_pickT (v := .bool _) rfl rfl) ?_
                                    refine st_nil ?_
                                    refine nx_then ?_
                                    refine cd_condT rfl ?_
                                    refine cd_seq ?_
                                    refine cd_region ?_
                                    refine st_val (ro_assign (v := .bool _) rfl) ?_
                                    refine st_nil ?_
                                    refine nx_then ?_
                                    refine cd_ret ?_
                                    refine rt_then ?_
                                    refine rt_then ?_
                                    refine rt_block ?_
                                    refine rt_then ?_
                                    refine rt_then ?_
                                    refine rt_block ?_
                                    refine rt_then ?_
                                    refine res1 (v := .bool _) rfl rfl ?_
                                    exact ⟨rfl, (hB.next E48)⟩
                               · (try first | replace Q72 := bn_t Q72 | replace Q72 := bn_f Q72)
                                 (try first | replace Q72 := bx_t Q72 | replace Q72 := bx_f Q72 | replace Q72 := be_t Q72 | replace Q72 := be_f Q72 | replace Q72 := of_decide_eq_true Q72 | replace Q72 := of_decide_eq_false Q72)
                                 first
                                  | (exfalso; first | omega | contradiction | (cases Q72; done))
                                  | skip
                                    refine st_unguard rfl ?_
                                    refine st_val (ro_move (v := .int _ _) rfl) ?_
                                    refine st_unguard rfl ?_
                                    refine st_val (ro_neq rfl rfl) ?_
                                    refine st_val (ro_pickF (v := .bool _) rfl rfl) ?_
                                    refine st_val (ro_move (v := .bool _) rfl) ?_
                                    refine st_split (t := 66) rfl (fun Q73 => ?_) (fun Q73 => ?_)
                                    · (try first | replace Q73 := bn_t Q73 | replace Q73 := bn_f Q73)
                                      (try first | replace Q73 := bx_t Q73 | replace Q73 := bx_f Q73 | replace Q73 := be_t Q73 | replace Q73 := be_f Q73 | replace Q73 := of_decide_eq_true Q73 | replace Q73 := of_decide_eq_false Q73)
                                      first
                                       | (exfalso; first | omega | contradiction | (cases Q73; done))
                                       | skip
                                         refine st_gno rfl rfl ?_
                                         refine st_gno rfl rfl ?_
                                         refine st_val (ro_pickT (v := .bool _) rfl rfl) ?_
                                         refine st_nil ?_
                                         refine nx_then ?_
                                         refine cd_condT rfl ?_
                                         refine cd_seq ?_
                                         refine cd_region ?_
                                         refine st_val (ro_assign (v := .bool _) rfl) ?_
                                         refine st_nil ?_
                                         refine nx_then ?_
                                         refine cd_ret ?_
                                         refine rt_then ?_
                                         refine rt_then ?_
                                         refine rt_block ?_
                                         refine rt_then ?_
                                         refine rt_then ?_
                                         refine rt_block ?_
                                         refine rt_then ?_
                                         refine res1 (v := .bool _) rfl rfl ?_
                                         exact ⟨rfl, (hB.next E48)⟩
                                    · (try first | replace Q73 := bn_t Q73 | replace Q73 := bn_f Q73)
                                      (try first | replace Q73 := bx_t Q73 | replace Q73 := bx_f Q73 | replace Q73 := be_t Q73 | replace Q73 := be_f Q73 | replace Q73 := of_decide_eq_true Q73 | replace Q73 := of_decide_eq_false Q73)
                                      first
                                       | (exfalso; first | omega | contradiction | (cases Q73; done))
                                       | skip
                                         refine st_unguard rfl ?_
                                         refine st_val (ro_move (v := .int _ _) rfl) ?_
                                         refine st_unguard rfl ?_
                                         refine st_val (ro_neq rfl rfl) ?_
                                         refine st_val (ro_pickF (v := .bool _) rfl rfl) ?_
                                         refine st_nil ?_
                                         refine nx_then ?_
                                         refine cd_cond rfl (fun Q74 => ?_) (fun Q74 => ?_)
                                         · (try first | replace Q74 := bn_t Q74 | replace Q74 := bn_f Q74)
                                           (try first | replace Q74 := bx_t Q74 | replace Q74 := bx_f Q74 | replace Q74 := be_t Q74 | replace Q74 := be_f Q74 | replace Q74 := of_decide_eq_true Q74 | replace Q74 := of_decide_eq_false Q74)
                                           first
                                            | (exfalso; first | omega | contradiction | (cases Q74; done))
                                            | skip
                                              refine cd_seq ?_
                                              refine cd_region ?_
                                              refine st_val (ro_assign (v := .bool _) rfl) ?_
                                              refine st_nil ?_
                                              refine nx_then ?_
                                              refine cd_ret ?_
                                              refine rt_then ?_
                                              refine rt_then ?_
                                              refine rt_block ?_
                                              refine rt_then ?_
                                              refine rt_then ?_
                                              refine rt_block ?_
                                              refine rt_then ?_
                                              refine res1 (v := .bool _) rfl rfl ?_
                                              exact ⟨rfl, (hB.next E48)⟩
                                         · (try first | replace Q74 := bn_t Q74 | replace Q74 := bn_f Q74)
                                           (try first | replace Q74 := bx_t Q74 | replace Q74 := bx_f Q74 | replace Q74 := be_t Q74 | replace Q74 := be_f Q74 | replace Q74 := of_decide_eq_true Q74 | replace Q74 := of_decide_eq_false Q74)
                                           first
                                            | (exfalso; first | omega | contradiction | (cases Q74; done))
                                            | skip
                                              refine cd_skip ?_
                                              refine nx_then ?_
                                              refine cd_exit ?_
                                              refine ex_then ?_
                                              refine ex_block ?_
                                              refine nx_then ?_
                                              refine cd_region ?_
                                              refine st_val (ro_move (v := .int _ _) rfl) ?_
                                              refine st_val (ro_addN (b := 1) rfl rfl (by omega)) ?_
                                              refine st_val (ro_assign (v := .int _ _) rfl) ?_
                                              refine st_nil ?_
                                              refine nx_cut (k + 1) ⟨(by first | rfl | (refine int_eq ?_; omega)), trivial⟩ (by (iterate 110 refine agr_cons rfl ?_); exact agr_rfl) ⟨?_, ?_⟩
                                              · exact ⟨by omega, hv.from_ (From.rfl_.next E48), hP1.from_ (From.rfl_.next E48), (hB.next E48)⟩
                                              · omega
                          · (try first | replace Q70 := bn_t Q70 | replace Q70 := bn_f Q70)
                            (try first | replace Q70 := bx_t Q70 | replace Q70 := bx_f Q70 | replace Q70 := be_t Q70 | replace Q70 := be_f Q70 | replace Q70 := of_decide_eq_true Q70 | replace Q70 := of_decide_eq_false Q70)
                            first
                             | (exfalso; first | omega | contradiction | (cases Q70; done))
                             | skip
                               refine cd_skip ?_
                               refine nx_then ?_
                               refine cd_seq ?_
                               refine cd_region ?_
                               refine st_val (ro_fieldAddr BndWhere_f24_0 rfl) ?_
                               refine st_val (ro_load BndWhere_g22 rfl (by first | (first | exact (hP1.from_ (From.rfl_.next E48)).whole | exact (hP1.from_ (From.rfl_.next E48)).rd 0 rfl | exact (hP1.from_ (From.rfl_.next E48)).rd 1 rfl) | (first | exact (hk1.from_ (From.rfl_.next E48)).whole | exact (hk1.from_ (From.rfl_.next E48)).rd 0 rfl | exact (hk1.from_ (From.rfl_.next E48)).rd 1 rfl))) ?_
                               refine st_val (ro_move (v := .int _ _) rfl) ?_
                               refine st_call BndWhere_k17 (refWhere_rt A ca q is[k] L _ (hr.from_ (hB.next E48)) hG hq hq1 hq2) ?_
                               rintro v74 w75 ⟨rfl, rfl⟩
                               refine st_val (ro_move (v := .tuple _) rfl) ?_
                               refine st_val (ro_extract rfl rfl) ?_
                               refine st_val (ro_extract rfl rfl) ?_
                               refine st_val (ro_assign (v := .int _ _) rfl) ?_
                               refine st_val (ro_assign (v := .int _ _) rfl) ?_
                               refine st_nil ?_
                               refine nx_then ?_
                               refine cd_seq ?_
                               refine cd_region ?_
                               refine st_val (ro_move (v := .int _ _) rfl) ?_
                               refine st_call BndWhere_k15 (num_any _ _) ?_
                               rintro v78 w76 ⟨rfl, rfl⟩
                               refine st_val (ro_neq rfl rfl) ?_
                               refine st_val (ro_move (v := .bool _) rfl) ?_
                               refine st_split (t := 80) rfl (fun Q77 => ?_) (fun Q77 => ?_)
                               · (try first | replace Q77 := bn_t Q77 | replace Q77 := bn_f Q77)
                                 (try first | replace Q77 := bx_t Q77 | replace Q77 := bx_f Q77 | replace Q77 := be_t Q77 | replace Q77 := be_f Q77 | replace Q77 := of_decide_eq_true Q77 | replace Q77 := of_decide_eq_false Q77)
                                 first
                                  | (exfalso; first | omega | contradiction | (cases Q77; done))
                                  | skip
                                    refine st_gno rfl rfl ?_
                                    refine st_gno rfl rfl ?_
                                    refine st_gno rfl rfl ?_
                                    refine st_val (ro_pickT (v := .bool _) rfl rfl) ?_
                                    refine st_val (ro_move (v := .bool _) rfl) ?_
                                    refine st_gno rfl rfl ?_
                                    refine st_gno rfl rfl ?_
                                    refine st_gno rfl rfl ?_
                                    refine st_val (ro_pickT (v := .bool _) rfl rfl) ?_
                                    refine st_nil ?_
                                    refine nx_then ?_
                                    refine cd_condT rfl ?_
                                    refine cd_seq ?_
                                    refine cd_region ?_
                                    refine st_val (ro_assign (v := .bool _) rfl) ?_
                                    refine st_nil ?_
                                    refine nx_then ?_
                                    refine cd_ret ?_
                                    refine rt_block ?_
                                    refine rt_then ?_
                                    refine rt_then ?_
                                    refine rt_block ?_
                                    refine rt_then ?_
                                    refine res1 (v := .bool _) rfl rfl ?_
                                    exact ⟨rfl, (hB.next E48)⟩
                               · (try first | replace Q77 := bn_t Q77 | replace Q77 := bn_f Q77)
                                 (try first | replace Q77 := bx_t Q77 | replace Q77 := bx_f Q77 | replace Q77 := be_t Q77 | replace Q77 := be_f Q77 | replace Q77 := of_decide_eq_true Q77 | replace Q77 := of_decide_eq_false Q77)
                                 first
                                  | (exfalso; first | omega | contradiction | (cases Q77; done))
                                  | skip
                                    refine st_unguard rfl ?_
                                    refine st_val (ro_move (v := .int _ _) rfl) ?_
                                    refine st_unguard rfl ?_
                                    refine st_val (ro_move (v := .int _ _) rfl) ?_
                                    refine st_unguard rfl ?_
                                    refine st_val (ro_neq rfl rfl) ?_
                                    refine st_val (ro_pickF (v := .bool _) rfl rfl) ?_
                                    refine st_val (ro_move (v := .bool _) rfl) ?_
                                    refine st_split (t := 85) rfl (fun Q78 => ?_) (fun Q78 => ?_)
                                    · (try first | replace Q78 := bn_t Q78 | replace Q78 := bn_f Q78)
                                      (try first | replace Q78 := bx_t Q78 | replace Q78 := bx_f Q78 | replace Q78 := be_t Q78 | replace Q78 := be_f Q78 | replace Q78 := of_decide_eq_true Q78 | replace Q78 := of_decide_eq_false Q78)
                                      first
                                       | (exfalso; first | omega | contradiction | (cases Q78; done))
                                       | skip
                                         refine st_gno rfl rfl ?_
                                         refine st_gno rfl rfl ?_
                                         refine st_gno rfl rfl ?_
                                         refine st_val (ro_pickT (v := .bool _) rfl rfl) ?_
                                         refine st_nil ?_
                                         refine nx_then ?_
                                         refine cd_condT rfl ?_
                                         refine cd_seq ?_
                                         refine cd_region ?_
                                         refine st_val (ro_assign (v := .bool _) rfl) ?_
                                         refine st_nil ?_
                                         refine nx_then ?_
                                         refine cd_ret ?_
                                         refine rt_block ?_
                                         refine rt_then ?_
                                         refine rt_then ?_
                                         refine rt_block ?_
                                         refine rt_then ?_
                                         refine res1 (v := .bool _) rfl rfl ?_
                                         exact ⟨rfl, (hB.next E48)⟩
                                    · (try first | replace Q78 := bn_t Q78 | replace Q78 := bn_f Q78)
                                      (try first | replace Q78 := bx_t Q78 | replace Q78 := bx_f Q78 | replace Q78 := be_t Q78 | replace Q78 := be_f Q78 | replace Q78 := of_decide_eq_true Q78 | replace Q78 := of_decide_eq_false Q78)
                                      first
                                       | (exfalso; first | omega | contradiction | (cases Q78; done))
                                       | skip
                                         refine st_unguard rfl ?_
                                         refine st_val (ro_move (v := .int _ _) rfl) ?_
                                         refine st_unguard rfl ?_
                                         refine st_val (ro_move (v := .int _ _) rfl) ?_
                                         refine st_unguard rfl ?_
                                         refine st_val (ro_neq rfl rfl) ?_
                                         refine st_val (ro_pickF (v := .bool _) rfl rfl) ?_
                                         refine st_nil ?_
                                         refine nx_then ?_
                                         refine cd_cond rfl (fun Q79 => ?_) (fun Q79 => ?_)
                                         · (try first | replace Q79 := bn_t Q79 | replace Q79 := bn_f Q79)
                                           (try first | replace Q79 := bx_t Q79 | replace Q79 := bx_f Q79 | replace Q79 := be_t Q79 | replace Q79 := be_f Q79 | replace Q79 := of_decide_eq_true Q79 | replace Q79 := of_decide_eq_false Q79)
                                           first
                                            | (exfalso; first | omega | contradiction | (cases Q79; done))
                                            | skip
                                              refine cd_seq ?_
                                              refine cd_region ?_
                                              refine st_val (ro_assign (v := .bool _) rfl) ?_
                                              refine st_nil ?_
                                              refine nx_then ?_
                                              refine cd_ret ?_
                                              refine rt_block ?_
                                              refine rt_then ?_
                                              refine rt_then ?_
                                              refine rt_block ?_
                                              refine rt_then ?_
                                              refine res1 (v := .bool _) rfl rfl ?_
                                              exact ⟨rfl, (hB.next E48)⟩
                                         · (try first | replace Q79 := bn_t Q79 | replace Q79 := bn_f Q79)
                                           (try first | replace Q79 := bx_t Q79 | replace Q79 := bx_f Q79 | replace Q79 := be_t Q79 | replace Q79 := be_f Q79 | replace Q79 := of_decide_eq_true Q79 | replace Q79 := of_decide_eq_false Q79)
                                           first
                                            | (exfalso; first | omega | contradiction | (cases Q79; done))
                                            | skip
                                              refine cd_skip ?_
                                              refine nx_block ?_
                                              refine nx_then ?_
                                              refine cd_region ?_
                                              refine st_val (ro_move (v := .int _ _) rfl) ?_
                                              refine st_val (ro_addN (b := 1) rfl rfl (by omega)) ?_
                                              refine st_val (ro_assign (v := .int _ _) rfl) ?_
                                              refine st_nil ?_
                                              refine nx_cut (k + 1) ⟨(by first | rfl | (refine int_eq ?_; omega)), trivial⟩ (by (iterate 121 refine agr_cons rfl ?_); exact agr_rfl) ⟨?_, ?_⟩
                                              · exact ⟨by omega, hv.from_ (From.rfl_.next E48), hP1.from_ (From.rfl_.next E48), (hB.next E48)⟩
                                              · omega
              · (try first | replace Q48 := bn_t Q48 | replace Q48 := bn_f Q48)
                (try first | replace Q48 := bx_t Q48 | replace Q48 := bx_f Q48 | replace Q48 := be_t Q48 | replace Q48 := be_f Q48 | replace Q48 := of_decide_eq_true Q48 | replace Q48 := of_decide_eq_false Q48)
                first
                 | (exfalso; first | omega | contradiction | (cases Q48; done))
                 | skip
                   refine cd_exit ?_
                   refine ex_then ?_
                   refine ex_then ?_
                   refine ex_block ?_
                   refine nx_then ?_
                   refine cd_seq ?_
                   refine cd_region ?_
                   refine st_call BndWhere_k9 (wakes_any _) ?_
                   rintro v90 w80 ⟨rfl, E90⟩
                   refine st_val (ro_assign (v := .bool _) rfl) ?_
                   refine st_nil ?_
                   refine nx_then ?_
                   refine cd_ret ?_
                   refine res1 (v := .bool _) rfl rfl ?_
                   exact ⟨rfl, (hB.next E90)⟩
theorem where_arg (cs : Array Value) (x : askT.den) (w : World) (hs : cs.size = 2) (h : askT.At w (fun j => cs[j]?) x) : Rt Try.prog 4 [.agg cs] w fun v w' => v = .bool true ∧ From w w' := by
  obtain ⟨A, ca, L, B, cb, is, rfl, h1, h2, h3, h4⟩ := ask_of hs h
  exact where_law A B ca cb L is w h1 h2 h3 h4
set_option maxRecDepth 100000 in
theorem BoundsWhere_lifted (os : Os) (started : os.Started) (H : Type) (enc : TypeId × Value → H) :
    ReturnsInHanded {} Try.checked os 4 .any (Rows.boundsWhereSpec.pre6 enc Try.prog Try.f4 Rows.boundsWhereRow.domain false) (Rows.boundsWhereSpec.post enc Try.prog Try.f4 false true false false) := by
  refine returnsInHanded_of_change_sized (C := Try.checked) Try.own started (by kernel_rfl) Try.func4
    (ChangeSpec.witness6 (enc := enc) (C := Try.checked) false ⟨#[], #[.agg #[.slice none 0 0, .slice none 0 0]], []⟩ 8 (by kernel_rfl) (by kernel_rfl) (by kernel_rfl) (by kernel_rfl)) ?_
  intro W base args ds gs before hval hW _ hsz _
  exact law_step 4 Try.f4 24 4 Rows.boundsWhereSpec Try.params4 (by kernel_rfl) Try.underlying4 rfl (fun _ => rfl) (by kernel_rfl) (of_decide_eq_true (by kernel_rfl)) (walk_struct (.sl (.int .i64)) (.pr (.sl (.int .i64)) .unit) (by kernel_rfl) where_arg) W base args ds gs before hval hW hsz

theorem BoundsWhere_holds : Rows.BoundsWhereSaid :=
  OpenClaim.holds_of_wide 4 Try.f4 rfl rfl rfl rfl rfl rfl rfl ⟨rfl, rfl, rfl, rfl, rfl⟩ rfl rfl rfl rfl rfl (by kernel_rfl) Try.func4 (by kernel_rfl)
    (of_decide_eq_true (by kernel_rfl)) (by unfold Func.isWrapper; first | (rw [if_pos (by decide +kernel)]; kernel_rfl) | (rw [if_neg (by decide +kernel)]; exact ⟨rfl, rfl⟩))
    (fun os started H enc _ => BoundsWhere_lifted os started H enc)
#print axioms BoundsWhere_holds

end Go.Proofs.Ytkmcdhllldlbgaa
