/- The law BoundsBack. -/
import Derived.Test.YtkmcdhllldlbgaaBndHelp
namespace Go.Proofs.Ytkmcdhllldlbgaa
open Go.RowKit
open Go.ChangeShapes Go.WideShapes Go.ChangeAt
theorem BndBack_g24 : aggQ Try.prog 24 = some true := by kernel_rfl
theorem BndBack_z24 : sizeQ Try.prog 24 = some 2 := by kernel_rfl
theorem BndBack_k7 : callable Try.prog 7 = true := by kernel_rfl
theorem BndBack_f24_0 : fieldQ Try.prog 24 0 = some 0 := by kernel_rfl
theorem BndBack_g22 : aggQ Try.prog 22 = some false := by kernel_rfl
theorem BndBack_k18 : callable Try.prog 18 = true := by kernel_rfl
theorem BndBack_k15 : callable Try.prog 15 = true := by kernel_rfl
theorem BndBack_p26 : Try.prog.underlying 26 = some (.pointer (Try.prog.pointee 26)) := by kernel_rfl
theorem BndBack_k9 : callable Try.prog 9 = true := by kernel_rfl
theorem BndBack_l22 : (elemQ Try.prog 22).isSome = true := by kernel_rfl
theorem BndBack_k13 : callable Try.prog 13 = true := by kernel_rfl
theorem BndBack_e22 : elemQ Try.prog 22 = some (3, 1) := by kernel_rfl
theorem BndBack_g3 : aggQ Try.prog 3 = some false := by kernel_rfl
theorem BndBack_k16 : callable Try.prog 16 = true := by kernel_rfl
theorem BndBack_k11 : callable Try.prog 11 = true := by kernel_rfl
set_option maxRecDepth 100000 in
set_option maxHeartbeats 3000000 in
theorem back_law (A B : Option Addr) (ca cb : Nat) (L is : List Int) (w : World) (hr : RowOf iV w A L) (hb64 : ∀ x ∈ L, -9223372036854775808 ≤ x ∧ x ≤ 9223372036854775807) (hrB : RowOf iV w B is) (hB64 : ∀ x ∈ is, -9223372036854775808 ≤ x ∧ x ≤ 9223372036854775807) :
    Rt Try.prog 5 [.agg #[.slice A L.length ca, .slice B is.length cb]] w (fun v w' => v = .bool true ∧ From w w') := by
  refine enter (n := 151) Try.func5 rfl rfl rfl ?_
  refine cd_seq ?_
  refine cd_region ?_
  refine st_box (v := .agg _) rfl ?_
  intro b1 w1 E1 hb1 hk1
  refine st_val (ro_assign (v := .bool _) rfl) ?_
  refine st_nil ?_
  refine nx_then ?_
  refine cd_seq ?_
  refine cd_seq ?_
  refine cd_region ?_
  refine st_val (ro_loadA (cs := [_, _]) BndBack_g24 BndBack_z24 rfl (by first | (first | exact (hP1.from_ From.rfl_).whole | exact (hP1.from_ From.rfl_).rd 0 rfl | exact (hP1.from_ From.rfl_).rd 1 rfl) | (first | exact (hk1.from_ From.rfl_).whole | exact (hk1.from_ From.rfl_).rd 0 rfl | exact (hk1.from_ From.rfl_).rd 1 rfl))) ?_
  refine st_call BndBack_k7 (heavy_any A B _ ca _ cb _) ?_
  rintro v20 w2 ⟨rfl, E20⟩
  refine st_nil ?_
  refine nx_then ?_
  refine cd_cond rfl (fun Q3 => ?_) (fun Q3 => ?_)
  · (try first | replace Q3 := bn_t Q3 | replace Q3 := bn_f Q3)
    (try first | replace Q3 := bx_t Q3 | replace Q3 := bx_f Q3 | replace Q3 := be_t Q3 | replace Q3 := be_f Q3 | replace Q3 := of_decide_eq_true Q3 | replace Q3 := of_decide_eq_false Q3)
    first
     | (exfalso; first | omega | contradiction | (cases Q3; done))
     | skip
       refine cd_seq ?_
       refine cd_region ?_
       refine st_val (ro_assign (v := .bool _) rfl) ?_
       refine st_nil ?_
       refine nx_then ?_
       refine cd_ret ?_
       refine rt_then ?_
       refine res1 (v := .bool _) rfl rfl ?_
       exact ⟨rfl, ((From.rfl_.next E1).next E20)⟩
  · (try first | replace Q3 := bn_t Q3 | replace Q3 := bn_f Q3)
    (try first | replace Q3 := bx_t Q3 | replace Q3 := bx_f Q3 | replace Q3 := be_t Q3 | replace Q3 := be_f Q3 | replace Q3 := of_decide_eq_true Q3 | replace Q3 := of_decide_eq_false Q3)
    first
     | (exfalso; first | omega | contradiction | (cases Q3; done))
     | skip
       refine cd_skip ?_
       refine nx_then ?_
       refine cd_seq ?_
       refine cd_region ?_
       refine st_val (ro_fieldAddr BndBack_f24_0 rfl) ?_
       refine st_val (ro_load BndBack_g22 rfl (by first | (first | exact (hP1.from_ (From.rfl_.next E20)).whole | exact (hP1.from_ (From.rfl_.next E20)).rd 0 rfl | exact (hP1.from_ (From.rfl_.next E20)).rd 1 rfl) | (first | exact (hk1.from_ (From.rfl_.next E20)).whole | exact (hk1.from_ (From.rfl_.next E20)).rd 0 rfl | exact (hk1.from_ (From.rfl_.next E20)).rd 1 rfl))) ?_
       have hz24 := (((From.rfl_.next E1).next E20)).size
       refine st_call BndBack_k18 (new_rt A ca L _ (hr.from_ ((From.rfl_.next E1).next E20)) hb64 (by omega)) ?_
       rintro v24 w4 ⟨hn24, E24⟩
       replace hk1 := hk1.from_ ((From.rfl_.next E20).next E24)
       rcases hn24 with ⟨hne, rfl⟩ | ⟨hz, b, rfl, hv⟩
       · refine st_val (ro_move (v := .tuple _) rfl) ?_
         refine st_val (ro_extract rfl rfl) ?_
         refine st_val (ro_extract rfl rfl) ?_
         refine st_val (ro_assign (v := .pointer _) rfl) ?_
         refine st_val (ro_assign (v := .int _ _) rfl) ?_
         refine st_nil ?_
         refine nx_then ?_
         refine cd_seq ?_
         refine cd_seq ?_
         refine cd_region ?_
         refine st_val (ro_move (v := .int _ _) rfl) ?_
         refine st_call BndBack_k15 (num_any _ _) ?_
         rintro v28 w5 ⟨rfl, rfl⟩
         refine st_val (ro_neq rfl rfl) ?_
         refine st_nil ?_
         refine nx_then ?_
         refine cd_cond rfl (fun Q6 => ?_) (fun Q6 => ?_)
         · (try first | replace Q6 := bn_t Q6 | replace Q6 := bn_f Q6)
           (try first | replace Q6 := bx_t Q6 | replace Q6 := bx_f Q6 | replace Q6 := be_t Q6 | replace Q6 := be_f Q6 | replace Q6 := of_decide_eq_true Q6 | replace Q6 := of_decide_eq_false Q6)
           first
            | (exfalso; first | omega | contradiction | (cases Q6; done))
            | skip
              refine cd_seq ?_
              refine cd_region ?_
              refine st_val (ro_move (v := .pointer _) rfl) ?_
              refine st_val (ro_eqlNil BndBack_p26 rfl rfl) ?_
              refine st_val (ro_move (v := .bool _) rfl) ?_
              refine st_split (t := 32) rfl (fun Q7 => ?_) (fun Q7 => ?_)
              · (try first | replace Q7 := bn_t Q7 | replace Q7 := bn_f Q7)
                (try first | replace Q7 := bx_t Q7 | replace Q7 := bx_f Q7 | replace Q7 := be_t Q7 | replace Q7 := be_f Q7 | replace Q7 := of_decide_eq_true Q7 | replace Q7 := of_decide_eq_false Q7)
                first
                 | (exfalso; first | omega | contradiction | (cases Q7; done))
                 | skip
                   refine st_unguard rfl ?_
                   refine st_call BndBack_k9 (wakes_any _) ?_
                   rintro v33 w8 ⟨rfl, E33⟩
                   refine st_val (ro_pickT (v := .bool _) rfl rfl) ?_
                   refine st_val (ro_assign (v := .bool _) rfl) ?_
                   refine st_nil ?_
                   refine nx_then ?_
                   refine cd_ret ?_
                   refine rt_then ?_
                   refine res1 (v := .bool _) rfl rfl ?_
                   exact ⟨rfl, ((((From.rfl_.next E1).next E20).next E24).next E33)⟩
              · (try first | replace Q7 := bn_t Q7 | replace Q7 := bn_f Q7)
                (try first | replace Q7 := bx_t Q7 | replace Q7 := bx_f Q7 | replace Q7 := be_t Q7 | replace Q7 := be_f Q7 | replace Q7 := of_decide_eq_true Q7 | replace Q7 := of_decide_eq_false Q7)
                first
                 | (exfalso; first | omega | contradiction | (cases Q7; done))
                 | skip
                   refine st_gno rfl rfl ?_
                   refine st_val (ro_pickF (v := .bool _) rfl rfl) ?_
                   refine st_val (ro_assign (v := .bool _) rfl) ?_
                   refine st_nil ?_
                   refine nx_then ?_
                   refine cd_ret ?_
                   refine rt_then ?_
                   refine res1 (v := .bool _) rfl rfl ?_
                   exact ⟨rfl, (((From.rfl_.next E1).next E20).next E24)⟩
         · (try first | replace Q6 := bn_t Q6 | replace Q6 := bn_f Q6)
           (try first | replace Q6 := bx_t Q6 | replace Q6 := bx_f Q6 | replace Q6 := be_t Q6 | replace Q6 := be_f Q6 | replace Q6 := of_decide_eq_true Q6 | replace Q6 := of_decide_eq_false Q6)
           first
            | (exfalso; first | omega | contradiction | (cases Q6; done))
            | skip
              refine cd_skip ?_
              refine nx_then ?_
              refine cd_seq ?_
              refine cd_region ?_
              refine st_val (ro_assign (v := .int _ _) rfl) ?_
              refine st_nil ?_
              refine nx_then ?_
              refine cd_seq ?_
              refine cd_seq ?_
              refine cd_region ?_
              refine st_val (ro_assign (v := .int _ _) rfl) ?_
              refine st_nil ?_
              refine nx_then ?_
              refine cd_block ?_
              refine cd_loop (G := Nat) [2, 7, 8, 9, 10, 11, 12, 13, 14, 15, 35, 36, 37, 38, 39, 40, 41, 42, 43, 44, 45, 46, 47, 48, 49, 50, 51, 52, 53, 54, 55, 56, 57, 58, 59, 60, 61, 62, 63, 64, 65, 66, 67, 68, 69, 70, 71, 72, 73, 74, 75, 76, 77, 78, 79, 80, 81, 82, 83, 84, 85, 86, 87, 88, 89, 90, 91, 92, 93, 94, 95, 96, 97, 98, 99, 100, 101, 102, 103, 104, 105, 106, 107, 108, 109, 110, 111, 112, 113, 114, 115, 116, 117, 118, 119, 120, 121, 122, 123, 124, 125, 126, 127, 128, 129, 130, 131] (fun i => [(5, .int .i64 (st L i)), (6, .int .i64 (i : Nat))]) (fun i w' => i ≤ L.length ∧ BAt w' w.heap.size b L ∧ Blk w' b1 24 #[.slice A L.length ca, .slice B is.length cb] ∧ From w w') (fun i => L.length - i) (0) ⟨rfl, rfl, trivial⟩ ?_ ?_
              · exact ⟨Nat.zero_le _, hv.from_ From.rfl_, hk1.from_ From.rfl_, (((From.rfl_.next E1).next E20).next E24)⟩
              rintro i ρ9 w9 ⟨hi, hv, hP1, hB⟩
              refine cd_seq ?_
              refine cd_seq ?_
              refine cd_region ?_
              refine st_val (ro_move (v := .int _ _) rfl) ?_
              refine st_val (ro_fieldAddr BndBack_f24_0 rfl) ?_
              refine st_val (ro_load BndBack_g22 rfl (by first | (first | exact (hP1.from_ From.rfl_).whole | exact (hP1.from_ From.rfl_).rd 0 rfl | exact (hP1.from_ From.rfl_).rd 1 rfl) | (first | exact (hk1.from_ From.rfl_).whole | exact (hk1.from_ From.rfl_).rd 0 rfl | exact (hk1.from_ From.rfl_).rd 1 rfl))) ?_
              refine st_val (ro_len BndBack_l22 rfl) ?_
              refine st_val (ro_lss rfl rfl) ?_
              refine st_nil ?_
              refine nx_then ?_
              refine cd_cond rfl (fun Q10 => ?_) (fun Q10 => ?_)
              · (try first | replace Q10 := bn_t Q10 | replace Q10 := bn_f Q10)
                (try first | replace Q10 := bx_t Q10 | replace Q10 := bx_f Q10 | replace Q10 := be_t Q10 | replace Q10 := be_f Q10 | replace Q10 := of_decide_eq_true Q10 | replace Q10 := of_decide_eq_false Q10)
                obtain ⟨ba, oa, rfl, hca⟩ := hr (by omega)
                have hs1 := hG.st (k := i) (by omega)
                have hs2 := hG.st (k := i + 1) (by omega)
                have hs3 := st_succ (L := L) (i := i) (by omega)
                have hp0 := hG.pos i (by omega)
                first
                 | (exfalso; first | omega | contradiction | (cases Q10; done))
                 | skip
                   refine cd_skip ?_
                   refine nx_then ?_
                   refine cd_seq ?_
                   refine cd_block ?_
                   refine cd_seq ?_
                   refine cd_region ?_
                   refine st_val (ro_move (v := .pointer _) rfl) ?_
                   refine st_val (ro_move (v := .int _ _) rfl) ?_
                   refine st_call BndBack_k13 (starts_rt _ b L _ (hv.from_ From.rfl_) (i : Nat)) ?_
                   rintro v45 w11 ⟨rfl, E45⟩
                   refine st_val (ro_move (v := .tuple _) rfl) ?_
                   refine st_val (ro_extract rfl rfl) ?_
                   refine st_spell (t := 46) (v := .int _ _) (v' := .int .i64 (st L i)) rfl (by unfold sV; rw [if_pos (by omega), Int.toNat_natCast]) ?_
                   refine st_val (ro_extract rfl rfl) ?_
                   refine st_spell (t := 47) (v := .int _ _) (v' := .int .i64 0) rfl (by unfold sE; rw [if_pos (by omega)]) ?_
                   refine st_val (ro_assign (v := .int _ _) rfl) ?_
                   refine st_val (ro_assign (v := .int _ _) rfl) ?_
                   refine st_nil ?_
                   refine nx_then ?_
                   refine cd_seq ?_
                   refine cd_seq ?_
                   refine cd_region ?_
                   refine st_val (ro_move (v := .int _ _) rfl) ?_
                   refine st_call BndBack_k15 (num_any _ _) ?_
                   rintro v49 w12 ⟨rfl, rfl⟩
                   refine st_val (ro_neq rfl rfl) ?_
                   refine st_val (ro_move (v := .bool _) rfl) ?_
                   refine st_split (t := 51) rfl (fun Q13 => ?_) (fun Q13 => ?_)
                   · (try first | replace Q13 := bn_t Q13 | replace Q13 := bn_f Q13)
                     (try first | replace Q13 := bx_t Q13 | replace Q13 := bx_f Q13 | replace Q13 := be_t Q13 | replace Q13 := be_f Q13 | replace Q13 := of_decide_eq_true Q13 | replace Q13 := of_decide_eq_false Q13)
                     first
                      | (exfalso; first | omega | contradiction | (cases Q13; done))
                      | skip
                        refine st_gno rfl rfl ?_
                        refine st_gno rfl rfl ?_
                        refine st_gno rfl rfl ?_
                        refine st_val (ro_pickT (v := .bool _) rfl rfl) ?_
                        refine st_nil ?_
                        refine nx_then ?_
                        refine cd_condT rfl ?_
                        refine cd_seq ?_
                        refine cd_region ?_
                        refine st_val (ro_assign (v := .bool _) rfl) ?_
                        refine st_nil ?_
                        refine nx_then ?_
                        refine cd_ret ?_
                        refine rt_then ?_
                        refine rt_block ?_
                        refine rt_then ?_
                        refine rt_then ?_
                        refine rt_block ?_
                        refine rt_then ?_
                        refine res1 (v := .bool _) rfl rfl ?_
                        exact ⟨rfl, (hB.next E45)⟩
                   · (try first | replace Q13 := bn_t Q13 | replace Q13 := bn_f Q13)
                     (try first | replace Q13 := bx_t Q13 | replace Q13 := bx_f Q13 | replace Q13 := be_t Q13 | replace Q13 := be_f Q13 | replace Q13 := of_decide_eq_true Q13 | replace Q13 := of_decide_eq_false Q13)
                     first
                      | (exfalso; first | omega | contradiction | (cases Q13; done))
                      | skip
                        refine st_unguard rfl ?_
                        refine st_val (ro_move (v := .int _ _) rfl) ?_
                        refine st_unguard rfl ?_
                        refine st_val (ro_move (v := .int _ _) rfl) ?_
                        refine st_unguard rfl ?_
                        refine st_val (ro_neq rfl rfl) ?_
                        refine st_val (ro_pickF (v := .bool _) rfl rfl) ?_
                        refine st_nil ?_
                        refine nx_then ?_
                        refine cd_cond rfl (fun Q14 => ?_) (fun Q14 => ?_)
                        · (try first | replace Q14 := bn_t Q14 | replace Q14 := bn_f Q14)
                          (try first | replace Q14 := bx_t Q14 | replace Q14 := bx_f Q14 | replace Q14 := be_t Q14 | replace Q14 := be_f Q14 | replace Q14 := of_decide_eq_true Q14 | replace Q14 := of_decide_eq_false Q14)
                          first
                           | (exfalso; first | omega | contradiction | (cases Q14; done))
                           | skip
                             refine cd_seq ?_
                             refine cd_region ?_
                             refine st_val (ro_assign (v := .bool _) rfl) ?_
                             refine st_nil ?_
                             refine nx_then ?_
                             refine cd_ret ?_
                             refine rt_then ?_
                             refine rt_block ?_
                             refine rt_then ?_
                             refine rt_then ?_
                             refine rt_block ?_
                             refine rt_then ?_
                             refine res1 (v := .bool _) rfl rfl ?_
                             exact ⟨rfl, (hB.next E45)⟩
                        · (try first | replace Q14 := bn_t Q14 | replace Q14 := bn_f Q14)
                          (try first | replace Q14 := bx_t Q14 | replace Q14 := bx_f Q14 | replace Q14 := be_t Q14 | replace Q14 := be_f Q14 | replace Q14 := of_decide_eq_true Q14 | replace Q14 := of_decide_eq_false Q14)
                          first
                           | (exfalso; first | omega | contradiction | (cases Q14; done))
                           | skip
                             refine cd_skip ?_
                             refine nx_then ?_
                             refine cd_seq ?_
                             refine cd_seq ?_
                             refine cd_region ?_
                             refine st_val (ro_assign (v := .int _ _) rfl) ?_
                             refine st_nil ?_
                             refine nx_then ?_
                             refine cd_block ?_
                             refine cd_loop (G := Int) [2, 10, 11, 12, 56, 57, 58, 59, 60, 61, 62, 63, 64, 65, 66, 67, 68, 69, 70, 71, 72, 73, 74, 75, 76, 77, 78, 79, 80, 81, 82, 83, 84, 85, 86, 87, 88, 89, 90, 91, 92, 93] (fun k => [(9, .int .i64 k)]) (fun k w' => (0 ≤ k ∧ k ≤ 300000) ∧ BAt w' w.heap.size b L ∧ Blk w' b1 24 #[.slice (some ⟨ba, oa, none⟩) L.length ca, .slice B is.length cb] ∧ From w w') (fun k => (300000 - k).toNat) (0) ⟨rfl, trivial⟩ ?_ ?_
                             · exact ⟨by omega, hv.from_ (From.rfl_.next E45), hP1.from_ (From.rfl_.next E45), (hB.next E45)⟩
                             rintro k ρ15 w15 ⟨hk, hv, hP1, hB⟩
                             refine cd_seq ?_
                             refine cd_seq ?_
                             refine cd_region ?_
                             refine st_val (ro_move (v := .int _ _) rfl) ?_
                             refine st_val (ro_fieldAddr BndBack_f24_0 rfl) ?_
                             refine st_val (ro_load BndBack_g22 rfl (by first | (first | exact (hP1.from_ From.rfl_).whole | exact (hP1.from_ From.rfl_).rd 0 rfl | exact (hP1.from_ From.rfl_).rd 1 rfl) | (first | exact (hk1.from_ From.rfl_).whole | exact (hk1.from_ From.rfl_).rd 0 rfl | exact (hk1.from_ From.rfl_).rd 1 rfl))) ?_
                             refine st_val (ro_move (v := .int _ _) rfl) ?_
                             refine st_val (ro_indexAddr1 BndBack_e22 rfl rfl (by omega)) ?_
                             refine st_val (ro_load BndBack_g3 rfl (by exact cellF hB (hca i (by omega)))) ?_
                             refine st_val (ro_leq rfl rfl) ?_
                             refine st_nil ?_
                             refine nx_then ?_
                             refine cd_cond rfl (fun Q16 => ?_) (fun Q16 => ?_)
                             · (try first | replace Q16 := bn_t Q16 | replace Q16 := bn_f Q16)
                               (try first | replace Q16 := bx_t Q16 | replace Q16 := bx_f Q16 | replace Q16 := be_t Q16 | replace Q16 := be_f Q16 | replace Q16 := of_decide_eq_true Q16 | replace Q16 := of_decide_eq_false Q16)
                               first
                                | (exfalso; first | omega | contradiction | (cases Q16; done))
                                | skip
                                  refine cd_skip ?_
                                  refine nx_then ?_
                                  refine cd_seq ?_
                                  refine cd_block ?_
                                  refine cd_seq ?_
                                  refine cd_region ?_
                                  refine st_val (ro_move (v := .pointer _) rfl) ?_
                                  refine st_val (ro_move (v := .int _ _) rfl) ?_
                                  refine st_val (ro_move (v := .int _ _) rfl) ?_
                                  refine st_val (ro_add64 rfl rfl (by omega)) ?_
                                  refine st_call BndBack_k16 (where_is _ b L _ (hv.from_ From.rfl_) (st L i + k) i (by omega) (by omega) (by omega)) ?_
                                  rintro v77 w17 ⟨rfl, E77⟩
                                  refine st_val (ro_move (v := .tuple _) rfl) ?_
                                  refine st_val (ro_extract rfl rfl) ?_
                                  refine st_val (ro_extract rfl rfl) ?_
                                  refine st_val (ro_extract rfl rfl) ?_
                                  refine st_val (ro_assign (v := .int _ _) rfl) ?_
                                  refine st_val (ro_assign (v := .int _ _) rfl) ?_
                                  refine st_val (ro_assign (v := .int _ _) rfl) ?_
                                  refine st_nil ?_
                                  refine nx_then ?_
                                  refine cd_seq ?_
                                  refine cd_region ?_
                                  refine st_val (ro_move (v := .int _ _) rfl) ?_
                                  refine st_call BndBack_k15 (num_any _ _) ?_
                                  rintro v82 w18 ⟨rfl, rfl⟩
                                  refine st_val (ro_neq rfl rfl) ?_
                                  refine st_val (ro_move (v := .bool _) rfl) ?_
                                  refine st_split (t := 84) rfl (fun Q19 => ?_) (fun Q19 => ?_)
                                  · (try first | replace Q19 := bn_t Q19 | replace Q19 := bn_f Q19)
                                    (try first | replace Q19 := bx_t Q19 | replace Q19 := bx_f Q19 | replace Q19 := be_t Q19 | replace Q19 := be_f Q19 | replace Q19 := of_decide_eq_true Q19 | replace Q19 := of_decide_eq_false Q19)
                                    first
                                     | (exfalso; first | omega | contradiction | (cases Q19; done))
                                     | skip
                                       refine st_gno rfl rfl ?_
                                       refine st_gno rfl rfl ?_
                                       refine st_gno rfl rfl ?_
                                       refine st_val (ro_pickT (v := .bool _) rfl rfl) ?_
                                       refine st_val (ro_move (v := .bool _) rfl) ?_
                                       refine st_gno rfl rfl ?_
                                       refine st_gno rfl rfl ?_
                                       refine st_gno rfl rfl ?_
                                       refine st_val (ro_pickT (v := .bool _) rfl rfl) ?_
                                       refine st_nil ?_
                                       refine nx_then ?_
                                       refine cd_condT rfl ?_
                                       refine cd_seq ?_
                                       refine cd_region ?_
                                       refine st_val (ro_assign (v := .bool _) rfl) ?_
                                       refine st_nil ?_
                                       refine nx_then ?_
                                       refine cd_ret ?_
                                       refine rt_block ?_
                                       refine rt_then ?_
                                       refine rt_then ?_
                                       refine rt_block ?_
                                       refine rt_then ?_
                                       refine rt_block ?_
                                       refine rt_then ?_
                                       refine rt_then ?_
                                       refine rt_block ?_
                                       refine rt_then ?_
                                       refine res1 (v := .bool _) rfl rfl ?_
                                       exact ⟨rfl, (hB.next E77)⟩
                                  · (try first | replace Q19 := bn_t Q19 | replace Q19 := bn_f Q19)
                                    (try first | replace Q19 := bx_t Q19 | replace Q19 := bx_f Q19 | replace Q19 := be_t Q19 | replace Q19 := be_f Q19 | replace Q19 := of_decide_eq_true Q19 | replace Q19 := of_decide_eq_false Q19)
                                    first
                                     | (exfalso; first | omega | contradiction | (cases Q19; done))
                                     | skip
                                       refine st_unguard rfl ?_
                                       refine st_val (ro_move (v := .int _ _) rfl) ?_
                                       refine st_unguard rfl ?_
                                       refine st_val (ro_move (v := .int _ _) rfl) ?_
                                       refine st_unguard rfl ?_
                                       refine st_val (ro_neq rfl rfl) ?_
                                       refine st_val (ro_pickF (v := .bool _) rfl rfl) ?_
                                       refine st_val (ro_move (v := .bool _) rfl) ?_
                                       refine st_split (t := 89) rfl (fun Q20 => ?_) (fun Q20 => ?_)
                                       · (try first | replace Q20 := bn_t Q20 | replace Q20 := bn_f Q20)
                                         (try first | replace Q20 := bx_t Q20 | replace Q20 := bx_f Q20 | replace Q20 := be_t Q20 | replace Q20 := be_f Q20 | replace Q20 := of_decide_eq_true Q20 | replace Q20 := of_decide_eq_false Q20)
                                         first
                                          | (exfalso; first | omega | contradiction | (cases Q20; done))
                                          | skip
                                            refine st_gno rfl rfl ?_
                                            refine st_gno rfl rfl ?_
                                            refine st_gno rfl rfl ?_
                                            refine st_val (ro_pickT (v := .bool _) rfl rfl) ?_
                                            refine st_nil ?_
                                            refine nx_then ?_
                                            refine cd_condT rfl ?_
                                            refine cd_seq ?_
                                            refine cd_region ?_
                                            refine st_val (ro_assign (v := .bool _) rfl) ?_
                                            refine st_nil ?_
                                            refine nx_then ?_
                                            refine cd_ret ?_
                                            refine rt_block ?_
                                            refine rt_then ?_
                                            refine rt_then ?_
                                            refine rt_block ?_
                                            refine rt_then ?_
                                            refine rt_block ?_
                                            refine rt_then ?_
                                            refine rt_then ?_
                                            refine rt_block ?_
                                            refine rt_then ?_
                                            refine res1 (v := .bool _) rfl rfl ?_
                                            exact ⟨rfl, (hB.next E77)⟩
                                       · (try first | replace Q20 := bn_t Q20 | replace Q20 := bn_f Q20)
                                         (try first | replace Q20 := bx_t Q20 | replace Q20 := bx_f Q20 | replace Q20 := be_t Q20 | replace Q20 := be_f Q20 | replace Q20 := of_decide_eq_true Q20 | replace Q20 := of_decide_eq_false Q20)
                                         first
                                          | (exfalso; first | omega | contradiction | (cases Q20; done))
                                          | skip
                                            refine st_unguard rfl ?_
                                            refine st_val (ro_move (v := .int _ _) rfl) ?_
                                            refine st_unguard rfl ?_
                                            refine st_val (ro_move (v := .int _ _) rfl) ?_
                                            refine st_unguard rfl ?_
                                            refine st_val (ro_neq rfl rfl) ?_
                                            refine st_val (ro_pickF (v := .bool _) rfl rfl) ?_
                                            refine st_nil ?_
                                            refine nx_then ?_
                                            refine cd_cond rfl (fun Q21 => ?_) (fun Q21 => ?_)
                                            · (try first | replace Q21 := bn_t Q21 | replace Q21 := bn_f Q21)
                                              (try first | replace Q21 := bx_t Q21 | replace Q21 := bx_f Q21 | replace Q21 := be_t Q21 | replace Q21 := be_f Q21 | replace Q21 := of_decide_eq_true Q21 | replace Q21 := of_decide_eq_false Q21)
                                              first
                                               | (exfalso; first | omega | contradiction | (cases Q21; done))
                                               | skip
                                                 refine cd_seq ?_
                                                 refine cd_region ?_
                                                 refine st_val (ro_assign (v := .bool _) rfl) ?_
                                                 refine st_nil ?_
                                                 refine nx_then ?_
                                                 refine cd_ret ?_
                                                 refine rt_block ?_
                                                 refine rt_then ?_
                                                 refine rt_then ?_
                                                 refine rt_block ?_
                                                 refine rt_then ?_
                                                 refine rt_block ?_
                                                 refine rt_then ?_
                                                 refine rt_then ?_
                                                 refine rt_block ?_
                                                 refine rt_then ?_
                                                 refine res1 (v := .bool _) rfl rfl ?_
                                                 exact ⟨rfl, (hB.next E77)⟩
                                            · (try first | replace Q21 := bn_t Q21 | replace Q21 := bn_f Q21)
                                              (try first | replace Q21 := bx_t Q21 | replace Q21 := bx_f Q21 | replace Q21 := be_t Q21 | replace Q21 := be_f Q21 | replace Q21 := of_decide_eq_true Q21 | replace Q21 := of_decide_eq_false Q21)
                                              first
                                               | (exfalso; first | omega | contradiction | (cases Q21; done))
                                               | skip
                                                 refine cd_skip ?_
                                                 refine nx_block ?_
                                                 refine nx_then ?_
                                                 refine cd_region ?_
                                                 refine st_val (ro_move (v := .int _ _) rfl) ?_
                                                 refine st_val (ro_add64 rfl rfl (by omega)) ?_
                                                 refine st_val (ro_fieldAddr BndBack_f24_0 rfl) ?_
                                                 refine st_val (ro_load BndBack_g22 rfl (by first | (first | exact (hP1.from_ (From.rfl_.next E77)).whole | exact (hP1.from_ (From.rfl_.next E77)).rd 0 rfl | exact (hP1.from_ (From.rfl_.next E77)).rd 1 rfl) | (first | exact (hk1.from_ (From.rfl_.next E77)).whole | exact (hk1.from_ (From.rfl_.next E77)).rd 0 rfl | exact (hk1.from_ (From.rfl_.next E77)).rd 1 rfl))) ?_
                                                 refine st_val (ro_move (v := .int _ _) rfl) ?_
                                                 refine st_val (ro_indexAddr1 BndBack_e22 rfl rfl (by omega)) ?_
                                                 refine st_val (ro_load BndBack_g3 rfl (by exact cellF (hB.next E77) (hca i (by omega)))) ?_
                                                 refine st_val (ro_quo64 rfl rfl (by exact ⟨by omega, by omega, by decide⟩)) ?_
                                                 refine st_val (ro_add64 rfl rfl (by omega)) ?_
                                                 refine st_val (ro_assign (v := .int _ _) rfl) ?_
                                                 refine st_nil ?_
                                                 refine nx_cut (k + 1 + L[i] / 20) ⟨(by first | rfl | (refine int_eq ?_; omega)), trivial⟩ (by (iterate 87 refine agr_cons rfl ?_); exact agr_rfl) ⟨?_, ?_⟩
                                                 · exact ⟨by omega, hv.from_ (From.rfl_.next E77), hP1.from_ (From.rfl_.next E77), (hB.next E77)⟩
                                                 · omega
                             · (try first | replace Q16 := bn_t Q16 | replace Q16 := bn_f Q16)
                               (try first | replace Q16 := bx_t Q16 | replace Q16 := bx_f Q16 | replace Q16 := be_t Q16 | replace Q16 := be_f Q16 | replace Q16 := of_decide_eq_true Q16 | replace Q16 := of_decide_eq_false Q16)
                               first
                                | (exfalso; first | omega | contradiction | (cases Q16; done))
                                | skip
                                  refine cd_exit ?_
                                  refine ex_then ?_
                                  refine ex_then ?_
                                  refine ex_block ?_
                                  refine nx_then ?_
                                  refine cd_seq ?_
                                  refine cd_region ?_
                                  refine st_val (ro_move (v := .pointer _) rfl) ?_
                                  refine st_val (ro_move (v := .int _ _) rfl) ?_
                                  refine st_val (ro_fieldAddr BndBack_f24_0 rfl) ?_
                                  refine st_val (ro_load BndBack_g22 rfl (by first | (first | exact (hP1.from_ From.rfl_).whole | exact (hP1.from_ From.rfl_).rd 0 rfl | exact (hP1.from_ From.rfl_).rd 1 rfl) | (first | exact (hk1.from_ From.rfl_).whole | exact (hk1.from_ From.rfl_).rd 0 rfl | exact (hk1.from_ From.rfl_).rd 1 rfl))) ?_
                                  refine st_val (ro_move (v := .int _ _) rfl) ?_
                                  refine st_val (ro_indexAddr1 BndBack_e22 rfl rfl (by omega)) ?_
                                  refine st_val (ro_load BndBack_g3 rfl (by exact cellF hB (hca i (by omega)))) ?_
                                  refine st_val (ro_add64 rfl rfl (by omega)) ?_
                                  refine st_call BndBack_k16 (where_is _ b L _ (hv.from_ From.rfl_) (st L i + L[i]) i (by omega) (by omega) (by omega)) ?_
                                  rintro v103 w22 ⟨rfl, E103⟩
                                  refine st_val (ro_move (v := .tuple _) rfl) ?_
                                  refine st_val (ro_extract rfl rfl) ?_
                                  refine st_val (ro_extract rfl rfl) ?_
                                  refine st_val (ro_extract rfl rfl) ?_
                                  refine st_val (ro_assign (v := .int _ _) rfl) ?_
                                  refine st_val (ro_assign (v := .int _ _) rfl) ?_
                                  refine st_val (ro_assign (v := .int _ _) rfl) ?_
                                  refine st_nil ?_
                                  refine nx_then ?_
                                  refine cd_seq ?_
                                  refine cd_seq ?_
                                  refine cd_region ?_
                                  refine st_val (ro_move (v := .int _ _) rfl) ?_
                                  refine st_call BndBack_k15 (num_any _ _) ?_
                                  rintro v108 w23 ⟨rfl, rfl⟩
                                  refine st_val (ro_neq rfl rfl) ?_
                                  refine st_val (ro_move (v := .bool _) rfl) ?_
                                  refine st_split (t := 110) rfl (fun Q24 => ?_) (fun Q24 => ?_)
                                  · (try first | replace Q24 := bn_t Q24 | replace Q24 := bn_f Q24)
                                    (try first | replace Q24 := bx_t Q24 | replace Q24 := bx_f Q24 | replace Q24 := be_t Q24 | replace Q24 := be_f Q24 | replace Q24 := of_decide_eq_true Q24 | replace Q24 := of_decide_eq_false Q24)
                                    first
                                     | (exfalso; first | omega | contradiction | (cases Q24; done))
                                     | skip
                                       refine st_gno rfl rfl ?_
                                       refine st_gno rfl rfl ?_
                                       refine st_gno rfl rfl ?_
                                       refine st_val (ro_pickT (v := .bool _) rfl rfl) ?_
                                       refine st_val (ro_move (v := .bool _) rfl) ?_
                                       refine st_gno rfl rfl ?_
                                       refine st_gno rfl rfl ?_
                                       refine st_gno rfl rfl ?_
                                       refine st_gno rfl rfl ?_
                                       refine st_gno rfl rfl ?_
                                       refine st_gno rfl rfl ?_
                                       refine st_gno rfl rfl ?_
                                       refine st_val (ro_pickT (v := .bool _) rfl rfl) ?_
                                       refine st_nil ?_
                                       refine nx_then ?_
                                       refine cd_condT rfl ?_
                                       refine cd_seq ?_
                                       refine cd_region ?_
                                       refine st_val (ro_assign (v := .bool _) rfl) ?_
                                       refine st_nil ?_
                                       refine nx_then ?_
                                       refine cd_ret ?_
                                       refine rt_then ?_
                                       refine rt_block ?_
                                       refine rt_then ?_
                                       refine rt_then ?_
                                       refine rt_block ?_
                                       refine rt_then ?_
                                       refine res1 (v := .bool _) rfl rfl ?_
                                       exact ⟨rfl, (hB.next E103)⟩
                                  · (try first | replace Q24 := bn_t Q24 | replace Q24 := bn_f Q24)
                                    (try first | replace Q24 := bx_t Q24 | replace Q24 := bx_f Q24 | replace Q24 := be_t Q24 | replace Q24 := be_f Q24 | replace Q24 := of_decide_eq_true Q24 | replace Q24 := of_decide_eq_false Q24)
                                    first
                                     | (exfalso; first | omega | contradiction | (cases Q24; done))
                                     | skip
                                       refine st_unguard rfl ?_
                                       refine st_val (ro_move (v := .int _ _) rfl) ?_
                                       refine st_unguard rfl ?_
                                       refine st_val (ro_move (v := .int _ _) rfl) ?_
                                       refine st_unguard rfl ?_
                                       refine st_val (ro_neq rfl rfl) ?_
                                       refine st_val (ro_pickF (v := .bool _) rfl rfl) ?_
                                       refine st_val (ro_move (v := .bool _) rfl) ?_
                                       refine st_split (t := 115) rfl (fun Q25 => ?_) (fun Q25 => ?_)
                                       · (try first | replace Q25 := bn_t Q25 | replace Q25 := bn_f Q25)
                                         (try first | replace Q25 := bx_t Q25 | replace Q25 := bx_f Q25 | replace Q25 := be_t Q25 | replace Q25 := be_f Q25 | replace Q25 := of_decide_eq_true Q25 | replace Q25 := of_decide_eq_false Q25)
                                         first
                                          | (exfalso; first | omega | contradiction | (cases Q25; done))
                                          | skip
                                            refine st_gno rfl rfl ?_
                                            refine st_gno rfl rfl ?_
                                            refine st_gno rfl rfl ?_
                                            refine st_gno rfl rfl ?_
                                            refine st_gno rfl rfl ?_
                                            refine st_gno rfl rfl ?_
                                            refine st_gno rfl rfl ?_
                                            refine st_val (ro_pickT (v := .bool _) rfl rfl) ?_
                                            refine st_nil ?_
                                            refine nx_then ?_
                                            refine cd_condT rfl ?_
                                            refine cd_seq ?_
                                            refine cd_region ?_
                                            refine st_val (ro_assign (v := .bool _) rfl) ?_
                                            refine st_nil ?_
                                            refine nx_then ?_
                                            refine cd_ret ?_
                                            refine rt_then ?_
                                            refine rt_block ?_
                                            refine rt_then ?_
                                            refine rt_then ?_
                                            refine rt_block ?_
                                            refine rt_then ?_
                                            refine res1 (v := .bool _) rfl rfl ?_
                                            exact ⟨rfl, (hB.next E103)⟩
                                       · (try first | replace Q25 := bn_t Q25 | replace Q25 := bn_f Q25)
                                         (try first | replace Q25 := bx_t Q25 | replace Q25 := bx_f Q25 | replace Q25 := be_t Q25 | replace Q25 := be_f Q25 | replace Q25 := of_decide_eq_true Q25 | replace Q25 := of_decide_eq_false Q25)
                                         first
                                          | (exfalso; first | omega | contradiction | (cases Q25; done))
                                          | skip
                                            refine st_unguard rfl ?_
                                            refine st_val (ro_move (v := .int _ _) rfl) ?_
                                            refine st_unguard rfl ?_
                                            refine st_val (ro_fieldAddr BndBack_f24_0 rfl) ?_
                                            refine st_unguard rfl ?_
                                            refine st_val (ro_load BndBack_g22 rfl (by first | (first | exact (hP1.from_ (From.rfl_.next E103)).whole | exact (hP1.from_ (From.rfl_.next E103)).rd 0 rfl | exact (hP1.from_ (From.rfl_.next E103)).rd 1 rfl) | (first | exact (hk1.from_ (From.rfl_.next E103)).whole | exact (hk1.from_ (From.rfl_.next E103)).rd 0 rfl | exact (hk1.from_ (From.rfl_.next E103)).rd 1 rfl))) ?_
                                            refine st_unguard rfl ?_
                                            refine st_val (ro_move (v := .int _ _) rfl) ?_
                                            refine st_unguard rfl ?_
                                            refine st_val (ro_indexAddr1 BndBack_e22 rfl rfl (by omega)) ?_
                                            refine st_unguard rfl ?_
                                            refine st_val (ro_load BndBack_g3 rfl (by exact cellF (hB.next E103) (hca i (by omega)))) ?_
                                            refine st_unguard rfl ?_
                                            refine st_val (ro_neq rfl rfl) ?_
                                            refine st_val (ro_pickF (v := .bool _) rfl rfl) ?_
                                            refine st_nil ?_
                                            refine nx_then ?_
                                            refine cd_cond rfl (fun Q26 => ?_) (fun Q26 => ?_)
                                            · (try first | replace Q26 := bn_t Q26 | replace Q26 := bn_f Q26)
                                              (try first | replace Q26 := bx_t Q26 | replace Q26 := bx_f Q26 | replace Q26 := be_t Q26 | replace Q26 := be_f Q26 | replace Q26 := of_decide_eq_true Q26 | replace Q26 := of_decide_eq_false Q26)
                                              first
                                               | (exfalso; first | omega | contradiction | (cases Q26; done))
                                               | skip
                                                 refine cd_seq ?_
                                                 refine cd_region ?_
                                                 refine st_val (ro_assign (v := .bool _) rfl) ?_
                                                 refine st_nil ?_
                                                 refine nx_then ?_
                                                 refine cd_ret ?_
                                                 refine rt_then ?_
                                                 refine rt_block ?_
                                                 refine rt_then ?_
                                                 refine rt_then ?_
                                                 refine rt_block ?_
                                                 refine rt_then ?_
                                                 refine res1 (v := .bool _) rfl rfl ?_
                                                 exact ⟨rfl, (hB.next E103)⟩
                                            · (try first | replace Q26 := bn_t Q26 | replace Q26 := bn_f Q26)
                                              (try first | replace Q26 := bx_t Q26 | replace Q26 := bx_f Q26 | replace Q26 := be_t Q26 | replace Q26 := be_f Q26 | replace Q26 := of_decide_eq_true Q26 | replace Q26 := of_decide_eq_false Q26)
                                              first
                                               | (exfalso; first | omega | contradiction | (cases Q26; done))
                                               | skip
                                                 refine cd_skip ?_
                                                 refine nx_then ?_
                                                 refine cd_region ?_
                                                 refine st_val (ro_move (v := .int _ _) rfl) ?_
                                                 refine st_val (ro_fieldAddr BndBack_f24_0 rfl) ?_
                                                 refine st_val (ro_load BndBack_g22 rfl (by first | (first | exact (hP1.from_ (From.rfl_.next E103)).whole | exact (hP1.from_ (From.rfl_.next E103)).rd 0 rfl | exact (hP1.from_ (From.rfl_.next E103)).rd 1 rfl) | (first | exact (hk1.from_ (From.rfl_.next E103)).whole | exact (hk1.from_ (From.rfl_.next E103)).rd 0 rfl | exact (hk1.from_ (From.rfl_.next E103)).rd 1 rfl))) ?_
                                                 refine st_val (ro_move (v := .int _ _) rfl) ?_
                                                 refine st_val (ro_indexAddr1 BndBack_e22 rfl rfl (by omega)) ?_
                                                 refine st_val (ro_load BndBack_g3 rfl (by exact cellF (hB.next E103) (hca i (by omega)))) ?_
                                                 refine st_val (ro_add64 rfl rfl (by omega)) ?_
                                                 refine st_val (ro_add64 rfl rfl (by omega)) ?_
                                                 refine st_val (ro_assign (v := .int _ _) rfl) ?_
                                                 refine st_nil ?_
                                                 refine nx_block ?_
                                                 refine nx_then ?_
                                                 refine cd_region ?_
                                                 refine st_val (ro_move (v := .int _ _) rfl) ?_
                                                 refine st_val (ro_addN (b := 1) rfl rfl (by omega)) ?_
                                                 refine st_val (ro_assign (v := .int _ _) rfl) ?_
                                                 refine st_nil ?_
                                                 refine nx_cut (i + 1) ⟨(int_eq (by rw [st_succ (by omega)])), rfl, trivial⟩ (by (iterate 231 refine agr_cons rfl ?_); exact agr_rfl) ⟨?_, ?_⟩
                                                 · exact ⟨by omega, hv.from_ (From.rfl_.next E103), hP1.from_ (From.rfl_.next E103), (hB.next E103)⟩
                                                 · omega
              · (try first | replace Q10 := bn_t Q10 | replace Q10 := bn_f Q10)
                (try first | replace Q10 := bx_t Q10 | replace Q10 := bx_f Q10 | replace Q10 := be_t Q10 | replace Q10 := be_f Q10 | replace Q10 := of_decide_eq_true Q10 | replace Q10 := of_decide_eq_false Q10)
                obtain rfl : i = L.length := by omega
                first
                 | (exfalso; first | omega | contradiction | (cases Q10; done))
                 | skip
                   refine cd_exit ?_
                   refine ex_then ?_
                   refine ex_then ?_
                   refine ex_block ?_
                   refine nx_then ?_
                   refine cd_seq ?_
                   refine cd_region ?_
                   refine st_val (ro_move (v := .pointer _) rfl) ?_
                   refine st_val (ro_move (v := .int _ _) rfl) ?_
                   refine st_call BndBack_k16 (where_out _ b L _ (hv.from_ From.rfl_) (st L L.length) (by omega)) ?_
                   rintro v135 w27 ⟨rfl, E135⟩
                   refine st_val (ro_move (v := .tuple _) rfl) ?_
                   refine st_val (ro_extract rfl rfl) ?_
                   refine st_val (ro_extract rfl rfl) ?_
                   refine st_val (ro_extract rfl rfl) ?_
                   refine st_val (ro_assign (v := .int _ _) rfl) ?_
                   refine st_val (ro_assign (v := .int _ _) rfl) ?_
                   refine st_val (ro_assign (v := .int _ _) rfl) ?_
                   refine st_nil ?_
                   refine nx_then ?_
                   refine cd_seq ?_
                   refine cd_region ?_
                   refine st_val (ro_move (v := .pointer _) rfl) ?_
                   refine st_call BndBack_k11 (all_rt _ b L _ (hv.from_ (From.rfl_.next E135))) ?_
                   rintro v140 w28 ⟨rfl, rfl⟩
                   refine st_val (ro_move (v := .int _ _) rfl) ?_
                   refine st_val (ro_eql rfl rfl) ?_
                   refine st_val (ro_move (v := .bool _) rfl) ?_
                   refine st_split (t := 143) rfl (fun Q29 => ?_) (fun Q29 => ?_)
                   · (try first | replace Q29 := bn_t Q29 | replace Q29 := bn_f Q29)
                     (try first | replace Q29 := bx_t Q29 | replace Q29 := bx_f Q29 | replace Q29 := be_t Q29 | replace Q29 := be_f Q29 | replace Q29 := of_decide_eq_true Q29 | replace Q29 := of_decide_eq_false Q29)
                     first
                      | (exfalso; first | omega | contradiction | (cases Q29; done))
                      | skip
                        refine st_unguard rfl ?_
                        refine st_val (ro_move (v := .int _ _) rfl) ?_
                        refine st_unguard rfl ?_
                        refine st_call BndBack_k15 (num_any _ _) ?_
                        rintro v145 w30 ⟨rfl, rfl⟩
                        refine st_unguard rfl ?_
                        refine st_val (ro_eql rfl rfl) ?_
                        refine st_val (ro_pickT (v := .bool _) rfl rfl) ?_
                        refine st_val (ro_move (v := .bool _) rfl) ?_
                        refine st_split (t := 148) rfl (fun Q31 => ?_) (fun Q31 => ?_)
                        · (try first | replace Q31 := bn_t Q31 | replace Q31 := bn_f Q31)
                          (try first | replace Q31 := bx_t Q31 | replace Q31 := bx_f Q31 | replace Q31 := be_t Q31 | replace Q31 := be_f Q31 | replace Q31 := of_decide_eq_true Q31 | replace Q31 := of_decide_eq_false Q31)
                          first
                           | (exfalso; first | omega | contradiction | (cases Q31; done))
                           | skip
                             refine st_unguard rfl ?_
                             refine st_call BndBack_k9 (wakes_any _) ?_
                             rintro v149 w32 ⟨rfl, E149⟩
                             refine st_val (ro_pickT (v := .bool _) rfl rfl) ?_
                             refine st_val (ro_assign (v := .bool _) rfl) ?_
                             refine st_nil ?_
                             refine nx_then ?_
                             refine cd_ret ?_
                             refine res1 (v := .bool _) rfl rfl ?_
                             exact ⟨rfl, ((hB.next E135).next E149)⟩
                        · (try first | replace Q31 := bn_t Q31 | replace Q31 := bn_f Q31)
                          (try first | replace Q31 := bx_t Q31 | replace Q31 := bx_f Q31 | replace Q31 := be_t Q31 | replace Q31 := be_f Q31 | replace Q31 := of_decide_eq_true Q31 | replace Q31 := of_decide_eq_false Q31)
                          first
                           | (exfalso; first | omega | contradiction | (cases Q31; done))
                           | skip
                             refine st_gno rfl rfl ?_
                             refine st_val (ro_pickF (v := .bool _) rfl rfl) ?_
                             refine st_val (ro_assign (v := .bool _) rfl) ?_
                             refine st_nil ?_
                             refine nx_then ?_
                             refine cd_ret ?_
                             refine res1 (v := .bool _) rfl rfl ?_
                             exact ⟨rfl, (hB.next E135)⟩
                   · (try first | replace Q29 := bn_t Q29 | replace Q29 := bn_f Q29)
                     (try first | replace Q29 := bx_t Q29 | replace Q29 := bx_f Q29 | replace Q29 := be_t Q29 | replace Q29 := be_f Q29 | replace Q29 := of_decide_eq_true Q29 | replace Q29 := of_decide_eq_false Q29)
                     first
                      | (exfalso; first | omega | contradiction | (cases Q29; done))
                      | skip
                        refine st_gno rfl rfl ?_
                        refine st_gno rfl rfl ?_
                        refine st_gno rfl rfl ?_
                        refine st_val (ro_pickF (v := .bool _) rfl rfl) ?_
                        refine st_val (ro_move (v := .bool _) rfl) ?_
                        refine st_gno rfl rfl ?_
                        refine st_val (ro_pickF (v := .bool _) rfl rfl) ?_
                        refine st_val (ro_assign (v := .bool _) rfl) ?_
                        refine st_nil ?_
                        refine nx_then ?_
                        refine cd_ret ?_
                        refine res1 (v := .bool _) rfl rfl ?_
                        exact ⟨rfl, (hB.next E135)⟩
       · replace hv := hv.le hz24
         obtain ⟨_, _, _, _, _, hG⟩ := id hv
         have hGl := hG.len
         refine st_val (ro_move (v := .tuple _) rfl) ?_
         refine st_val (ro_extract rfl rfl) ?_
         refine st_val (ro_extract rfl rfl) ?_
         refine st_val (ro_assign (v := .pointer _) rfl) ?_
         refine st_val (ro_assign (v := .int _ _) rfl) ?_
         refine st_nil ?_
         refine nx_then ?_
         refine cd_seq ?_
         refine cd_seq ?_
         refine cd_region ?_
         refine st_val (ro_move (v := .int _ _) rfl) ?_
         refine st_call BndBack_k15 (num_any _ _) ?_
         rintro v28 w33 ⟨rfl, rfl⟩
         refine st_val (ro_neq rfl rfl) ?_
         refine st_nil ?_
         refine nx_then ?_
         refine cd_cond rfl (fun Q34 => ?_) (fun Q34 => ?_)
         · (try first | replace Q34 := bn_t Q34 | replace Q34 := bn_f Q34)
           (try first | replace Q34 := bx_t Q34 | replace Q34 := bx_f Q34 | replace Q34 := be_t Q34 | replace Q34 := be_f Q34 | replace Q34 := of_decide_eq_true Q34 | replace Q34 := of_decide_eq_false Q34)
           first
            | (exfalso; first | omega | contradiction | (cases Q34; done))
            | skip
              refine cd_seq ?_
              refine cd_region ?_
              refine st_val (ro_move (v := .pointer _) rfl) ?_
              refine st_val (ro_eqlNil BndBack_p26 rfl rfl) ?_
              refine st_val (ro_move (v := .bool _) rfl) ?_
              refine st_split (t := 32) rfl (fun Q35 => ?_) (fun Q35 => ?_)
              · (try first | replace Q35 := bn_t Q35 | replace Q35 := bn_f Q35)
                (try first | replace Q35 := bx_t Q35 | replace Q35 := bx_f Q35 | replace Q35 := be_t Q35 | replace Q35 := be_f Q35 | replace Q35 := of_decide_eq_true Q35 | replace Q35 := of_decide_eq_false Q35)
                first
                 | (exfalso; first | omega | contradiction | (cases Q35; done))
                 | skip
                   refine st_unguard rfl ?_
                   refine st_call BndBack_k9 (wakes_any _) ?_
                   rintro v33 w36 ⟨rfl, E33⟩
                   refine st_val (ro_pickT (v := .bool _) rfl rfl) ?_
                   refine st_val (ro_assign (v := .bool _) rfl) ?_
                   refine st_nil ?_
                   refine nx_then ?_
                   refine cd_ret ?_
                   refine rt_then ?_
                   refine res1 (v := .bool _) rfl rfl ?_
                   exact ⟨rfl, ((((From.rfl_.next E1).next E20).next E24).next E33)⟩
              · (try first | replace Q35 := bn_t Q35 | replace Q35 := bn_f Q35)
                (try first | replace Q35 := bx_t Q35 | replace Q35 := bx_f Q35 | replace Q35 := be_t Q35 | replace Q35 := be_f Q35 | replace Q35 := of_decide_eq_true Q35 | replace Q35 := of_decide_eq_false Q35)
                first
                 | (exfalso; first | omega | contradiction | (cases Q35; done))
                 | skip
                   refine st_gno rfl rfl ?_
                   refine st_val (ro_pickF (v := .bool _) rfl rfl) ?_
                   refine st_val (ro_assign (v := .bool _) rfl) ?_
                   refine st_nil ?_
                   refine nx_then ?_
                   refine cd_ret ?_
                   refine rt_then ?_
                   refine res1 (v := .bool _) rfl rfl ?_
                   exact ⟨rfl, (((From.rfl_.next E1).next E20).next E24)⟩
         · (try first | replace Q34 := bn_t Q34 | replace Q34 := bn_f Q34)
           (try first | replace Q34 := bx_t Q34 | replace Q34 := bx_f Q34 | replace Q34 := be_t Q34 | replace Q34 := be_f Q34 | replace Q34 := of_decide_eq_true Q34 | replace Q34 := of_decide_eq_false Q34)
           first
            | (exfalso; first | omega | contradiction | (cases Q34; done))
            | skip
              refine cd_skip ?_
              refine nx_then ?_
              refine cd_seq ?_
              refine cd_region ?_
              refine st_val (ro_assign (v := .int _ _) rfl) ?_
              refine st_nil ?_
              refine nx_then ?_
              refine cd_seq ?_
              refine cd_seq ?_
              refine cd_region ?_
              refine st_val (ro_assign (v := .int _ _) rfl) ?_
              refine st_nil ?_
              refine nx_then ?_
              refine cd_block ?_
              refine cd_loop (G := Nat) [2, 7, 8, 9, 10, 11, 12, 13, 14, 15, 35, 36, 37, 38, 39, 40, 41, 42, 43, 44, 45, 46, 47, 48, 49, 50, 51, 52, 53, 54, 55, 56, 57, 58, 59, 60, 61, 62, 63, 64, 65, 66, 67, 68, 69, 70, 71, 72, 73, 74, 75, 76, 77, 78, 79, 80, 81, 82, 83, 84, 85, 86, 87, 88, 89, 90, 91, 92, 93, 94, 95, 96, 97, 98, 99, 100, 101, 102, 103, 104, 105, 106, 107, 108, 109, 110, 111, 112, 113, 114, 115, 116, 117, 118, 119, 120, 121, 122, 123, 124, 125, 126, 127, 128, 129, 130, 131] (fun i => [(5, .int .i64 (st L i)), (6, .int .i64 (i : Nat))]) (fun i w' => i ≤ L.length ∧ BAt w' w.heap.size b L ∧ Blk w' b1 24 #[.slice A L.length ca, .slice B is.length cb] ∧ From w w') (fun i => L.length - i) (0) ⟨rfl, rfl, trivial⟩ ?_ ?_
              · exact ⟨Nat.zero_le _, hv.from_ From.rfl_, hk1.from_ From.rfl_, (((From.rfl_.next E1).next E20).next E24)⟩
              rintro i ρ37 w37 ⟨hi, hv, hP1, hB⟩
              refine cd_seq ?_
              refine cd_seq ?_
              refine cd_region ?_
              refine st_val (ro_move (v := .int _ _) rfl) ?_
              refine st_val (ro_fieldAddr BndBack_f24_0 rfl) ?_
              refine st_val (ro_load BndBack_g22 rfl (by first | (first | exact (hP1.from_ From.rfl_).whole | exact (hP1.from_ From.rfl_).rd 0 rfl | exact (hP1.from_ From.rfl_).rd 1 rfl) | (first | exact (hk1.from_ From.rfl_).whole | exact (hk1.from_ From.rfl_).rd 0 rfl | exact (hk1.from_ From.rfl_).rd 1 rfl))) ?_
              refine st_val (ro_len BndBack_l22 rfl) ?_
              refine st_val (ro_lss rfl rfl) ?_
              refine st_nil ?_
              refine nx_then ?_
              refine cd_cond rfl (fun Q38 => ?_) (fun Q38 => ?_)
              · (try first | replace Q38 := bn_t Q38 | replace Q38 := bn_f Q38)
                (try first | replace Q38 := bx_t Q38 | replace Q38 := bx_f Q38 | replace Q38 := be_t Q38 | replace Q38 := be_f Q38 | replace Q38 := of_decide_eq_true Q38 | replace Q38 := of_decide_eq_false Q38)
                obtain ⟨ba, oa, rfl, hca⟩ := hr (by omega)
                have hs1 := hG.st (k := i) (by omega)
                have hs2 := hG.st (k := i + 1) (by omega)
                have hs3 := st_succ (L := L) (i := i) (by omega)
                have hp0 := hG.pos i (by omega)
                first
                 | (exfalso; first | omega | contradiction | (cases Q38; done))
                 | skip
                   refine cd_skip ?_
                   refine nx_then ?_
                   refine cd_seq ?_
                   refine cd_block ?_
                   refine cd_seq ?_
                   refine cd_region ?_
                   refine st_val (ro_move (v := .pointer _) rfl) ?_
                   refine st_val (ro_move (v := .int _ _) rfl) ?_
                   refine st_call BndBack_k13 (starts_rt _ b L _ (hv.from_ From.rfl_) (i : Nat)) ?_
                   rintro v45 w39 ⟨rfl, E45⟩
                   refine st_val (ro_move (v := .tuple _) rfl) ?_
                   refine st_val (ro_extract rfl rfl) ?_
                   refine st_spell (t := 46) (v := .int _ _) (v' := .int .i64 (st L i)) rfl (by unfold sV; rw [if_pos (by omega), Int.toNat_natCast]) ?_
                   refine st_val (ro_extract rfl rfl) ?_
                   refine st_spell (t := 47) (v := .int _ _) (v' := .int .i64 0) rfl (by unfold sE; rw [if_pos (by omega)]) ?_
                   refine st_val (ro_assign (v := .int _ _) rfl) ?_
                   refine st_val (ro_assign (v := .int _ _) rfl) ?_
                   refine st_nil ?_
                   refine nx_then ?_
                   refine cd_seq ?_
                   refine cd_seq ?_
                   refine cd_region ?_
                   refine st_val (ro_move (v := .int _ _) rfl) ?_
                   refine st_call BndBack_k15 (num_any _ _) ?_
                   rintro v49 w40 ⟨rfl, rfl⟩
                   refine st_val (ro_neq rfl rfl) ?_
                   refine st_val (ro_move (v := .bool _) rfl) ?_
                   refine st_split (t := 51) rfl (fun Q41 => ?_) (fun Q41 => ?_)
                   · (try first | replace Q41 := bn_t Q41 | replace Q41 := bn_f Q41)
                     (try first | replace Q41 := bx_t Q41 | replace Q41 := bx_f Q41 | replace Q41 := be_t Q41 | replace Q41 := be_f Q41 | replace Q41 := of_decide_eq_true Q41 | replace Q41 := of_decide_eq_false Q41)
                     first
                      | (exfalso; first | omega | contradiction | (cases Q41; done))
                      | skip
                        refine st_gno rfl rfl ?_
                        refine st_gno rfl rfl ?_
                        refine st_gno rfl rfl ?_
                        refine st_val (ro_pickT (v := .bool _) rfl rfl) ?_
                        refine st_nil ?_
                        refine nx_then ?_
                        refine cd_condT rfl ?_
                        refine cd_seq ?_
                        refine cd_region ?_
                        refine st_val (ro_assign (v := .bool _) rfl) ?_
                        refine st_nil ?_
                        refine nx_then ?_
                        refine cd_ret ?_
                        refine rt_then ?_
                        refine rt_block ?_
                        refine rt_then ?_
                        refine rt_then ?_
                        refine rt_block ?_
                        refine rt_then ?_
                        refine res1 (v := .bool _) rfl rfl ?_
                        exact ⟨rfl, (hB.next E45)⟩
                   · (try first | replace Q41 := bn_t Q41 | replace Q41 := bn_f Q41)
                     (try first | replace Q41 := bx_t Q41 | replace Q41 := bx_f Q41 | replace Q41 := be_t Q41 | replace Q41 := be_f Q41 | replace Q41 := of_decide_eq_true Q41 | replace Q41 := of_decide_eq_false Q41)
                     first
                      | (exfalso; first | omega | contradiction | (cases Q41; done))
                      | skip
                        refine st_unguard rfl ?_
                        refine st_val (ro_move (v := .int _ _) rfl) ?_
                        refine st_unguard rfl ?_
                        refine st_val (ro_move (v := .int _ _) rfl) ?_
                        refine st_unguard rfl ?_
                        refine st_val (ro_neq rfl rfl) ?_
                        refine st_val (ro_pickF (v := .bool _) rfl rfl) ?_
                        refine st_nil ?_
                        refine nx_then ?_
                        refine cd_cond rfl (fun Q42 => ?_) (fun Q42 => ?_)
                        · (try first | replace Q42 := bn_t Q42 | replace Q42 := bn_f Q42)
                          (try first | replace Q42 := bx_t Q42 | replace Q42 := bx_f Q42 | replace Q42 := be_t Q42 | replace Q42 := be_f Q42 | replace Q42 := of_decide_eq_true Q42 | replace Q42 := of_decide_eq_false Q42)
                          first
                           | (exfalso; first | omega | contradiction | (cases Q42; done))
                           | skip
                             refine cd_seq ?_
                             refine cd_region ?_
                             refine st_val (ro_assign (v := .bool _) rfl) ?_
                             refine st_nil ?_
                             refine nx_then ?_
                             refine cd_ret ?_
                             refine rt_then ?_
                             refine rt_block ?_
                             refine rt_then ?_
                             refine rt_then ?_
                             refine rt_block ?_
                             refine rt_then ?_
                             refine res1 (v := .bool _) rfl rfl ?_
                             exact ⟨rfl, (hB.next E45)⟩
                        · (try first | replace Q42 := bn_t Q42 | replace Q42 := bn_f Q42)
                          (try first | replace Q42 := bx_t Q42 | replace Q42 := bx_f Q42 | replace Q42 := be_t Q42 | replace Q42 := be_f Q42 | replace Q42 := of_decide_eq_true Q42 | replace Q42 := of_decide_eq_false Q42)
                          first
                           | (exfalso; first | omega | contradiction | (cases Q42; done))
                           | skip
                             refine cd_skip ?_
                             refine nx_then ?_
                             refine cd_seq ?_
                             refine cd_seq ?_
                             refine cd_region ?_
                             refine st_val (ro_assign (v := .int _ _) rfl) ?_
                             refine st_nil ?_
                             refine nx_then ?_
                             refine cd_block ?_
                             refine cd_loop (G := Int) [2, 10, 11, 12, 56, 57, 58, 59, 60, 61, 62, 63, 64, 65, 66, 67, 68, 69, 70, 71, 72, 73, 74, 75, 76, 77, 78, 79, 80, 81, 82, 83, 84, 85, 86, 87, 88, 89, 90, 91, 92, 93] (fun k => [(9, .int .i64 k)]) (fun k w' => (0 ≤ k ∧ k ≤ 300000) ∧ BAt w' w.heap.size b L ∧ Blk w' b1 24 #[.slice (some ⟨ba, oa, none⟩) L.length ca, .slice B is.length cb] ∧ From w w') (fun k => (300000 - k).toNat) (0) ⟨rfl, trivial⟩ ?_ ?_
                             · exact ⟨by omega, hv.from_ (From.rfl_.next E45), hP1.from_ (From.rfl_.next E45), (hB.next E45)⟩
                             rintro k ρ43 w43 ⟨hk, hv, hP1, hB⟩
                             refine cd_seq ?_
                             refine cd_seq ?_
                             refine cd_region ?_
                             refine st_val (ro_move (v := .int _ _) rfl) ?_
                             refine st_val (ro_fieldAddr BndBack_f24_0 rfl) ?_
                             refine st_val (ro_load BndBack_g22 rfl (by first | (first | exact (hP1.from_ From.rfl_).whole | exact (hP1.from_ From.rfl_).rd 0 rfl | exact (hP1.from_ From.rfl_).rd 1 rfl) | (first | exact (hk1.from_ From.rfl_).whole | exact (hk1.from_ From.rfl_).rd 0 rfl | exact (hk1.from_ From.rfl_).rd 1 rfl))) ?_
                             refine st_val (ro_move (v := .int _ _) rfl) ?_
                             refine st_val (ro_indexAddr1 BndBack_e22 rfl rfl (by omega)) ?_
                             refine st_val (ro_load BndBack_g3 rfl (by exact cellF hB (hca i (by omega)))) ?_
                             refine st_val (ro_leq rfl rfl) ?_
                             refine st_nil ?_
                             refine nx_then ?_
                             refine cd_cond rfl (fun Q44 => ?_) (fun Q44 => ?_)
                             · (try first | replace Q44 := bn_t Q44 | replace Q44 := bn_f Q44)
                               (try first | replace Q44 := bx_t Q44 | replace Q44 := bx_f Q44 | replace Q44 := be_t Q44 | replace Q44 := be_f Q44 | replace Q44 := of_decide_eq_true Q44 | replace Q44 := of_decide_eq_false Q44)
                               first
                                | (exfalso; first | omega | contradiction | (cases Q44; done))
                                | skip
                                  refine cd_skip ?_
                                  refine nx_then ?_
                                  refine cd_seq ?_
                                  refine cd_block ?_
                                  refine cd_seq ?_
                                  refine cd_region ?_
                                  refine st_val (ro_move (v := .pointer _) rfl) ?_
                                  refine st_val (ro_move (v := .int _ _) rfl) ?_
                                  refine st_val (ro_move (v := .int _ _) rfl) ?_
                                  refine st_val (ro_add64 rfl rfl (by omega)) ?_
                                  refine st_call BndBack_k16 (where_is _ b L _ (hv.from_ From.rfl_) (st L i + k) i (by omega) (by omega) (by omega)) ?_
                                  rintro v77 w45 ⟨rfl, E77⟩
                                  refine st_val (ro_move (v := .tuple _) rfl) ?_
                                  refine st_val (ro_extract rfl rfl) ?_
                                  refine st_val (ro_extract rfl rfl) ?_
                                  refine st_val (ro_extract rfl rfl) ?_
                                  refine st_val (ro_assign (v := .int _ _) rfl) ?_
                                  refine st_val (ro_assign (v := .int _ _) rfl) ?_
                                  refine st_val (ro_assign (v := .int _ _) rfl) ?_
                                  refine st_nil ?_
                                  refine nx_then ?_
                                  refine cd_seq ?_
                                  refine cd_region ?_
                                  refine st_val (ro_move (v := .int _ _) rfl) ?_
                                  refine st_call BndBack_k15 (num_any _ _) ?_
                                  rintro v82 w46 ⟨rfl, rfl⟩
                                  refine st_val (ro_neq rfl rfl) ?_
                                  refine st_val (ro_move (v := .bool _) rfl) ?_
                                  refine st_split (t := 84) rfl (fun Q47 => ?_) (fun Q47 => ?_)
                                  · (try first | replace Q47 := bn_t Q47 | replace Q47 := bn_f Q47)
                                    (try first | replace Q47 := bx_t Q47 | replace Q47 := bx_f Q47 | replace Q47 := be_t Q47 | replace Q47 := be_f Q47 | replace Q47 := of_decide_eq_true Q47 | replace Q47 := of_decide_eq_false Q47)
                                    first
                                     | (exfalso; first | omega | contradiction | (cases Q47; done))
                                     | skip
                                       refine st_gno rfl rfl ?_
                                       refine st_gno rfl rfl ?_
                                       refine st_gno rfl rfl ?_
                                       refine st_val (ro_pickT (v := .bool _) rfl rfl) ?_
                                       refine st_val (ro_move (v := .bool _) rfl) ?_
                                       refine st_gno rfl rfl ?_
                                       refine st_gno rfl rfl ?_
                                       refine st_gno rfl rfl ?_
                                       refine st_val (ro_pickT (v := .bool _) rfl rfl) ?_
                                       refine st_nil ?_
                                       refine nx_then ?_
                                       refine cd_condT rfl ?_
                                       refine cd_seq ?_
                                       refine cd_region ?_
                                       refine st_val (ro_assign (v := .bool _) rfl) ?_
                                       refine st_nil ?_
                                       refine nx_then ?_
                                       refine cd_ret ?_
                                       refine rt_block ?_
                                       refine rt_then ?_
                                       refine rt_then ?_
                                       refine rt_block ?_
                                       refine rt_then ?_
                                       refine rt_block ?_
                                       refine rt_then ?_
                                       refine rt_then ?_
                                       refine rt_block ?_
                                       refine rt_then ?_
                                       refine res1 (v := .bool _) rfl rfl ?_
                                       exact ⟨rfl, (hB.next E77)⟩
                                  · (try first | replace Q47 := bn_t Q47 | replace Q47 := bn_f Q47)
                                    (try first | replace Q47 := bx_t Q47 | replace Q47 := bx_f Q47 | replace Q47 := be_t Q47 | replace Q47 := be_f Q47 | replace Q47 := of_decide_eq_true Q47 | replace Q47 := of_decide_eq_false Q47)
                                    first
                                     | (exfalso; first | omega | contradiction | (cases Q47; done))
                                     | skip
                                       refine st_unguard rfl ?_
                                       refine st_val (ro_move (v := .int _ _) rfl) ?_
                                       refine st_unguard rfl ?_
                                       refine st_val (ro_move (v := .int _ _) rfl) ?_
                                       refine st_unguard rfl ?_
                                       refine st_val (ro_neq rfl rfl) ?_
                                       refine st_val (ro_pickF (v := .bool _) rfl rfl) ?_
                                       refine st_val (ro_move (v := .bool _) rfl) ?_
                                       refine st_split (t := 89) rfl (fun Q48 => ?_) (fun Q48 => ?_)
                                       · (try first | replace Q48 := bn_t Q48 | replace Q48 := bn_f Q48)
                                         (try first | replace Q48 := bx_t Q48 | replace Q48 := bx_f Q48 | replace Q48 := be_t Q48 | replace Q48 := be_f Q48 | replace Q48 := of_decide_eq_true Q48 | replace Q48 := of_decide_eq_false Q48)
                                         first
                                          | (exfalso; first | omega | contradiction | (cases Q48; done))
                                          | skip
                                            refine st_gno rfl rfl ?_
                                            refine st_gno rfl rfl ?_
                                            refine st_gno rfl rfl ?_
                                            refine st_val (ro_pickT (v := .bool _) rfl rfl) ?_
                                            refine st_nil ?_
                                            refine nx_then ?_
                                            refine cd_condT rfl ?_
                                            refine cd_seq ?_
                                            refine cd_region ?_
                                            refine st_val (ro_assign (v := .bool _) rfl) ?_
                                            refine st_nil ?_
                                            refine nx_then ?_
                                            refine cd_ret ?_
                                            refine rt_block ?_
                                            refine rt_then ?_
                                            refine rt_then ?_
                                            refine rt_block ?_
                                            refine rt_then ?_
                                            refine rt_block ?_
                                            refine rt_then ?_
                                            refine rt_then ?_
                                            refine rt_block ?_
                                            refine rt_then ?_
                                            refine res1 (v := .bool _) rfl rfl ?_
                                            exact ⟨rfl, (hB.next E77)⟩
                                       · (try first | replace Q48 := bn_t Q48 | replace Q48 := bn_f Q48)
                                         (try first | replace Q48 := bx_t Q48 | replace Q48 := bx_f Q48 | replace Q48 := be_t Q48 | replace Q48 := be_f Q48 | replace Q48 := of_decide_eq_true Q48 | replace Q48 := of_decide_eq_false Q48)
                                         first
                                          | (exfalso; first | omega | contradiction | (cases Q48; done))
                                          | skip
                                            refine st_unguard rfl ?_
                                            refine st_val (ro_move (v := .int _ _) rfl) ?_
                                            refine st_unguard rfl ?_
                                            refine st_val (ro_move (v := .int _ _) rfl) ?_
                                            refine st_unguard rfl ?_
                                            refine st_val (ro_neq rfl rfl) ?_
                                            refine st_val (ro_pickF (v := .bool _) rfl rfl) ?_
                                            refine st_nil ?_
                                            refine nx_then ?_
                                            refine cd_cond rfl (fun Q49 => ?_) (fun Q49 => ?_)
                                            · (try first | replace Q49 := bn_t Q49 | replace Q49 := bn_f Q49)
                                              (try first | replace Q49 := bx_t Q49 | replace Q49 := bx_f Q49 | replace Q49 := be_t Q49 | replace Q49 := be_f Q49 | replace Q49 := of_decide_eq_true Q49 | replace Q49 := of_decide_eq_false Q49)
                                              first
                                               | (exfalso; first | omega | contradiction | (cases Q49; done))
                                               | skip
                                                 refine cd_seq ?_
                                                 refine cd_region ?_
                                                 refine st_val (ro_assign (v := .bool _) rfl) ?_
                                                 refine st_nil ?_
                                                 refine nx_then ?_
                                                 refine cd_ret ?_
                                                 refine rt_block ?_
                                                 refine rt_then ?_
                                                 refine rt_then ?_
                                                 refine rt_block ?_
                                                 refine rt_then ?_
                                                 refine rt_block ?_
                                                 refine rt_then ?_
                                                 refine rt_then ?_
                                                 refine rt_block ?_
                                                 refine rt_then ?_
                                                 refine res1 (v := .bool _) rfl rfl ?_
                                                 exact ⟨rfl, (hB.next E77)⟩
                                            · (try first | replace Q49 := bn_t Q49 | replace Q49 := bn_f Q49)
                                              (try first | replace Q49 := bx_t Q49 | replace Q49 := bx_f Q49 | replace Q49 := be_t Q49 | replace Q49 := be_f Q49 | replace Q49 := of_decide_eq_true Q49 | replace Q49 := of_decide_eq_false Q49)
                                              first
                                               | (exfalso; first | omega | contradiction | (cases Q49; done))
                                               | skip
                                                 refine cd_skip ?_
                                                 refine nx_block ?_
                                                 refine nx_then ?_
                                                 refine cd_region ?_
                                                 refine st_val (ro_move (v := .int _ _) rfl) ?_
                                                 refine st_val (ro_add64 rfl rfl (by omega)) ?_
                                                 refine st_val (ro_fieldAddr BndBack_f24_0 rfl) ?_
                                                 refine st_val (ro_load BndBack_g22 rfl (by first | (first | exact (hP1.from_ (From.rfl_.next E77)).whole | exact (hP1.from_ (From.rfl_.next E77)).rd 0 rfl | exact (hP1.from_ (From.rfl_.next E77)).rd 1 rfl) | (first | exact (hk1.from_ (From.rfl_.next E77)).whole | exact (hk1.from_ (From.rfl_.next E77)).rd 0 rfl | exact (hk1.from_ (From.rfl_.next E77)).rd 1 rfl))) ?_
                                                 refine st_val (ro_move (v := .int _ _) rfl) ?_
                                                 refine st_val (ro_indexAddr1 BndBack_e22 rfl rfl (by omega)) ?_
                                                 refine st_val (ro_load BndBack_g3 rfl (by exact cellF (hB.next E77) (hca i (by omega)))) ?_
                                                 refine st_val (ro_quo64 rfl rfl (by exact ⟨by omega, by omega, by decide⟩)) ?_
                                                 refine st_val (ro_add64 rfl rfl (by omega)) ?_
                                                 refine st_val (ro_assign (v := .int _ _) rfl) ?_
                                                 refine st_nil ?_
                                                 refine nx_cut (k + 1 + L[i] / 20) ⟨(by first | rfl | (refine int_eq ?_; omega)), trivial⟩ (by (iterate 87 refine agr_cons rfl ?_); exact agr_rfl) ⟨?_, ?_⟩
                                                 · exact ⟨by omega, hv.from_ (From.rfl_.next E77), hP1.from_ (From.rfl_.next E77), (hB.next E77)⟩
                                                 · omega
                             · (try first | replace Q44 := bn_t Q44 | replace Q44 := bn_f Q44)
                               (try first | replace Q44 := bx_t Q44 | replace Q44 := bx_f Q44 | replace Q44 := be_t Q44 | replace Q44 := be_f Q44 | replace Q44 := of_decide_eq_true Q44 | replace Q44 := of_decide_eq_false Q44)
                               first
                                | (exfalso; first | omega | contradiction | (cases Q44; done))
                                | skip
                                  refine cd_exit ?_
                                  refine ex_then ?_
                                  refine ex_then ?_
                                  refine ex_block ?_
                                  refine nx_then ?_
                                  refine cd_seq ?_
                                  refine cd_region ?_
                                  refine st_val (ro_move (v := .pointer _) rfl) ?_
                                  refine st_val (ro_move (v := .int _ _) rfl) ?_
                                  refine st_val (ro_fieldAddr BndBack_f24_0 rfl) ?_
                                  refine st_val (ro_load BndBack_g22 rfl (by first | (first | exact (hP1.from_ From.rfl_).whole | exact (hP1.from_ From.rfl_).rd 0 rfl | exact (hP1.from_ From.rfl_).rd 1 rfl) | (first | exact (hk1.from_ From.rfl_).whole | exact (hk1.from_ From.rfl_).rd 0 rfl | exact (hk1.from_ From.rfl_).rd 1 rfl))) ?_
                                  refine st_val (ro_move (v := .int _ _) rfl) ?_
                                  refine st_val (ro_indexAddr1 BndBack_e22 rfl rfl (by omega)) ?_
                                  refine st_val (ro_load BndBack_g3 rfl (by exact cellF hB (hca i (by omega)))) ?_
                                  refine st_val (ro_add64 rfl rfl (by omega)) ?_
                                  refine st_call BndBack_k16 (where_is _ b L _ (hv.from_ From.rfl_) (st L i + L[i]) i (by omega) (by omega) (by omega)) ?_
                                  rintro v103 w50 ⟨rfl, E103⟩
                                  refine st_val (ro_move (v := .tuple _) rfl) ?_
                                  refine st_val (ro_extract rfl rfl) ?_
                                  refine st_val (ro_extract rfl rfl) ?_
                                  refine st_val (ro_extract rfl rfl) ?_
                                  refine st_val (ro_assign (v := .int _ _) rfl) ?_
                                  refine st_val (ro_assign (v := .int _ _) rfl) ?_
                                  refine st_val (ro_assign (v := .int _ _) rfl) ?_
                                  refine st_nil ?_
                                  refine nx_then ?_
                                  refine cd_seq ?_
                                  refine cd_seq ?_
                                  refine cd_region ?_
                                  refine st_val (ro_move (v := .int _ _) rfl) ?_
                                  refine st_call BndBack_k15 (num_any _ _) ?_
                                  rintro v108 w51 ⟨rfl, rfl⟩
                                  refine st_val (ro_neq rfl rfl) ?_
                                  refine st_val (ro_move (v := .bool _) rfl) ?_
                                  refine st_split (t := 110) rfl (fun Q52 => ?_) (fun Q52 => ?_)
                                  · (try first | replace Q52 := bn_t Q52 | replace Q52 := bn_f Q52)
                                    (try first | replace Q52 := bx_t Q52 | replace Q52 := bx_f Q52 | replace Q52 := be_t Q52 | replace Q52 := be_f Q52 | replace Q52 := of_decide_eq_true Q52 | replace Q52 := of_decide_eq_false Q52)
                                    first
                                     | (exfalso; first | omega | contradiction | (cases Q52; done))
                                     | skip
                                       refine st_gno rfl rfl ?_
                                       refine st_gno rfl rfl ?_
                                       refine st_gno rfl rfl ?_
                                       refine st_val (ro_pickT (v := .bool _) rfl rfl) ?_
                                       refine st_val (ro_move (v := .bool _) rfl) ?_
                                       refine st_gno rfl rfl ?_
                                       refine st_gno rfl rfl ?_
                                       refine st_gno rfl rfl ?_
                                       refine st_gno rfl rfl ?_
                                       refine st_gno rfl rfl ?_
                                       refine st_gno rfl rfl ?_
                                       refine st_gno rfl rfl ?_
                                       refine st_val (ro_pickT (v := .bool _) rfl rfl) ?_
                                       refine st_nil ?_
                                       refine nx_then ?_
                                       refine cd_condT rfl ?_
                                       refine cd_seq ?_
                                       refine cd_region ?_
                                       refine st_val (ro_assign (v := .bool _) rfl) ?_
                                       refine st_nil ?_
                                       refine nx_then ?_
                                       refine cd_ret ?_
                                       refine rt_then ?_
                                       refine rt_block ?_
                                       refine rt_then ?_
                                       refine rt_then ?_
                                       refine rt_block ?_
                                       refine rt_then ?_
                                       refine res1 (v := .bool _) rfl rfl ?_
                                       exact ⟨rfl, (hB.next E103)⟩
                                  · (try first | replace Q52 := bn_t Q52 | replace Q52 := bn_f Q52)
                                    (try first | replace Q52 := bx_t Q52 | replace Q52 := bx_f Q52 | replace Q52 := be_t Q52 | replace Q52 := be_f Q52 | replace Q52 := of_decide_eq_true Q52 | replace Q52 := of_decide_eq_false Q52)
                                    first
                                     | (exfalso; first | omega | contradiction | (cases Q52; done))
                                     | skip
                                       refine st_unguard rfl ?_
                                       refine st_val (ro_move (v := .int _ _) rfl) ?_
                                       refine st_unguard rfl ?_
                                       refine st_val (ro_move (v := .int _ _) rfl) ?_
                                       refine st_unguard rfl ?_
                                       refine st_val (ro_neq rfl rfl) ?_
                                       refine st_val (ro_pickF (v := .bool _) rfl rfl) ?_
                                       refine st_val (ro_move (v := .bool _) rfl) ?_
                                       refine st_split (t := 115) rfl (fun Q53 => ?_) (fun Q53 => ?_)
                                       · (try first | replace Q53 := bn_t Q53 | replace Q53 := bn_f Q53)
                                         (try first | replace Q53 := bx_t Q53 | replace Q53 := bx_f Q53 | replace Q53 := be_t Q53 | replace Q53 := be_f Q53 | replace Q53 := of_decide_eq_true Q53 | replace Q53 := of_decide_eq_false Q53)
                                         first
                                          | (exfalso; first | omega | contradiction | (cases Q53; done))
                                          | skip
                                            refine st_gno rfl rfl ?_
                                            refine st_gno rfl rfl ?_
                                            refine st_gno rfl rfl ?_
                                            refine st_gno rfl rfl ?_
                                            refine st_gno rfl rfl ?_
                                            refine st_gno rfl rfl ?_
                                            refine st_gno rfl rfl ?_
                                            refine st_val (ro_pickT (v := .bool _) rfl rfl) ?_
                                            refine st_nil ?_
                                            refine nx_then ?_
                                            refine cd_condT rfl ?_
                                            refine cd_seq ?_
                                            refine cd_region ?_
                                            refine st_val (ro_assign (v := .bool _) rfl) ?_
                                            refine st_nil ?_
                                            refine nx_then ?_
                                            refine cd_ret ?_
                                            refine rt_then ?_
                                            refine rt_block ?_
                                            refine rt_then ?_
                                            refine rt_then ?_
                                            refine rt_block ?_
                                            refine rt_then ?_
                                            refine res1 (v := .bool _) rfl rfl ?_
                                            exact ⟨rfl, (hB.next E103)⟩
                                       · (try first | replace Q53 := bn_t Q53 | replace Q53 := bn_f Q53)
                                         (try first | replace Q53 := bx_t Q53 | replace Q53 := bx_f Q53 | replace Q53 := be_t Q53 | replace Q53 := be_f Q53 | replace Q53 := of_decide_eq_true Q53 | replace Q53 := of_decide_eq_false Q53)
                                         first
                                          | (exfalso; first | omega | contradiction | (cases Q53; done))
                                          | skip
                                            refine st_unguard rfl ?_
                                            refine st_val (ro_move (v := .int _ _) rfl) ?_
                                            refine st_unguard rfl ?_
                                            refine st_val (ro_fieldAddr BndBack_f24_0 rfl) ?_
                                            refine st_unguard rfl ?_
                                            refine st_val (ro_load BndBack_g22 rfl (by first | (first | exact (hP1.from_ (From.rfl_.next E103)).whole | exact (hP1.from_ (From.rfl_.next E103)).rd 0 rfl | exact (hP1.from_ (From.rfl_.next E103)).rd 1 rfl) | (first | exact (hk1.from_ (From.rfl_.next E103)).whole | exact (hk1.from_ (From.rfl_.next E103)).rd 0 rfl | exact (hk1.from_ (From.rfl_.next E103)).rd 1 rfl))) ?_
                                            refine st_unguard rfl ?_
                                            refine st_val (ro_move (v := .int _ _) rfl) ?_
                                            refine st_unguard rfl ?_
                                            refine st_val (ro_indexAddr1 BndBack_e22 rfl rfl (by omega)) ?_
                                            refine st_unguard rfl ?_
                                            refine st_val (ro_load BndBack_g3 rfl (by exact cellF (hB.next E103) (hca i (by omega)))) ?_
                                            refine st_unguard rfl ?_
                                            refine st_val (ro_neq rfl rfl) ?_
                                            refine st_val (ro_pickF (v := .bool _) rfl rfl) ?_
                                            refine st_nil ?_
                                            refine nx_then ?_
                                            refine cd_cond rfl (fun Q54 => ?_) (fun Q54 => ?_)
                                            · (try first | replace Q54 := bn_t Q54 | replace Q54 := bn_f Q54)
                                              (try first | replace Q54 := bx_t Q54 | replace Q54 := bx_f Q54 | replace Q54 := be_t Q54 | replace Q54 := be_f Q54 | replace Q54 := of_decide_eq_true Q54 | replace Q54 := of_decide_eq_false Q54)
                                              first
                                               | (exfalso; first | omega | contradiction | (cases Q54; done))
                                               | skip
                                                 refine cd_seq ?_
                                                 refine cd_region ?_
                                                 refine st_val (ro_assign (v := .bool _) rfl) ?_
                                                 refine st_nil ?_
                                                 refine nx_then ?_
                                                 refine cd_ret ?_
                                                 refine rt_then ?_
                                                 refine rt_block ?_
                                                 refine rt_then ?_
                                                 refine rt_then ?_
                                                 refine rt_block ?_
                                                 refine rt_then ?_
                                                 refine res1 (v := .bool _) rfl rfl ?_
                                                 exact ⟨rfl, (hB.next E103)⟩
                                            · (try first | replace Q54 := bn_t Q54 | replace Q54 := bn_f Q54)
                                              (try first | replace Q54 := bx_t Q54 | replace Q54 := bx_f Q54 | replace Q54 := be_t Q54 | replace Q54 := be_f Q54 | replace Q54 := of_decide_eq_true Q54 | replace Q54 := of_decide_eq_false Q54)
                                              first
                                               | (exfalso; first | omega | contradiction | (cases Q54; done))
                                               | skip
                                                 refine cd_skip ?_
                                                 refine nx_then ?_
                                                 refine cd_region ?_
                                                 refine st_val (ro_move (v := .int _ _) rfl) ?_
                                                 refine st_val (ro_fieldAddr BndBack_f24_0 rfl) ?_
                                                 refine st_val (ro_load BndBack_g22 rfl (by first | (first | exact (hP1.from_ (From.rfl_.next E103)).whole | exact (hP1.from_ (From.rfl_.next E103)).rd 0 rfl | exact (hP1.from_ (From.rfl_.next E103)).rd 1 rfl) | (first | exact (hk1.from_ (From.rfl_.next E103)).whole | exact (hk1.from_ (From.rfl_.next E103)).rd 0 rfl | exact (hk1.from_ (From.rfl_.next E103)).rd 1 rfl))) ?_
                                                 refine st_val (ro_move (v := .int _ _) rfl) ?_
                                                 refine st_val (ro_indexAddr1 BndBack_e22 rfl rfl (by omega)) ?_
                                                 refine st_val (ro_load BndBack_g3 rfl (by exact cellF (hB.next E103) (hca i (by omega)))) ?_
                                                 refine st_val (ro_add64 rfl rfl (by omega)) ?_
                                                 refine st_val (ro_add64 rfl rfl (by omega)) ?_
                                                 refine st_val (ro_assign (v := .int _ _) rfl) ?_
                                                 refine st_nil ?_
                                                 refine nx_block ?_
                                                 refine nx_then ?_
                                                 refine cd_region ?_
                                                 refine st_val (ro_move (v := .int _ _) rfl) ?_
                                                 refine st_val (ro_addN (b := 1) rfl rfl (by omega)) ?_
                                                 refine st_val (ro_assign (v := .int _ _) rfl) ?_
                                                 refine st_nil ?_
                                                 refine nx_cut (i + 1) ⟨(int_eq (by rw [st_succ (by omega)])), rfl, trivial⟩ (by (iterate 231 refine agr_cons rfl ?_); exact agr_rfl) ⟨?_, ?_⟩
                                                 · exact ⟨by omega, hv.from_ (From.rfl_.next E103), hP1.from_ (From.rfl_.next E103), (hB.next E103)⟩
                                                 · omega
              · (try first | replace Q38 := bn_t Q38 | replace Q38 := bn_f Q38)
                (try first | replace Q38 := bx_t Q38 | replace Q38 := bx_f Q38 | replace Q38 := be_t Q38 | replace Q38 := be_f Q38 | replace Q38 := of_decide_eq_true Q38 | replace Q38 := of_decide_eq_false Q38)
                obtain rfl : i = L.length := by omega
                first
                 | (exfalso; first | omega | contradiction | (cases Q38; done))
                 | skip
                   refine cd_exit ?_
                   refine ex_then ?_
                   refine ex_then ?_
                   refine ex_block ?_
                   refine nx_then ?_
                   refine cd_seq ?_
                   refine cd_region ?_
                   refine st_val (ro_move (v := .pointer _) rfl) ?_
                   refine st_val (ro_move (v := .int _ _) rfl) ?_
                   refine st_call BndBack_k16 (where_out _ b L _ (hv.from_ From.rfl_) (st L L.length) (by omega)) ?_
                   rintro v135 w55 ⟨rfl, E135⟩
                   refine st_val (ro_move (v := .tuple _) rfl) ?_
                   refine st_val (ro_extract rfl rfl) ?_
                   refine st_val (ro_extract rfl rfl) ?_
                   refine st_val (ro_extract rfl rfl) ?_
                   refine st_val (ro_assign (v := .int _ _) rfl) ?_
                   refine st_val (ro_assign (v := .int _ _) rfl) ?_
                   refine st_val (ro_assign (v := .int _ _) rfl) ?_
                   refine st_nil ?_
                   refine nx_then ?_
                   refine cd_seq ?_
                   refine cd_region ?_
                   refine st_val (ro_move (v := .pointer _) rfl) ?_
                   refine st_call BndBack_k11 (all_rt _ b L _ (hv.from_ (From.rfl_.next E135))) ?_
                   rintro v140 w56 ⟨rfl, rfl⟩
                   refine st_val (ro_move (v := .int _ _) rfl) ?_
                   refine st_val (ro_eql rfl rfl) ?_
                   refine st_val (ro_move (v := .bool _) rfl) ?_
                   refine st_split (t := 143) rfl (fun Q57 => ?_) (fun Q57 => ?_)
                   · (try first | replace Q57 := bn_t Q57 | replace Q57 := bn_f Q57)
                     (try first | replace Q57 := bx_t Q57 | replace Q57 := bx_f Q57 | replace Q57 := be_t Q57 | replace Q57 := be_f Q57 | replace Q57 := of_decide_eq_true Q57 | replace Q57 := of_decide_eq_false Q57)
                     first
                      | (exfalso; first | omega | contradiction | (cases Q57; done))
                      | skip
                        refine st_unguard rfl ?_
                        refine st_val (ro_move (v := .int _ _) rfl) ?_
                        refine st_unguard rfl ?_
                        refine st_call BndBack_k15 (num_any _ _) ?_
                        rintro v145 w58 ⟨rfl, rfl⟩
                        refine st_unguard rfl ?_
                        refine st_val (ro_eql rfl rfl) ?_
                        refine st_val (ro_pickT (v := .bool _) rfl rfl) ?_
                        refine st_val (ro_move (v := .bool _) rfl) ?_
                        refine st_split (t := 148) rfl (fun Q59 => ?_) (fun Q59 => ?_)
                        · (try first | replace Q59 := bn_t Q59 | replace Q59 := bn_f Q59)
                          (try first | replace Q59 := bx_t Q59 | replace Q59 := bx_f Q59 | replace Q59 := be_t Q59 | replace Q59 := be_f Q59 | replace Q59 := of_decide_eq_true Q59 | replace Q59 := of_decide_eq_false Q59)
                          first
                           | (exfalso; first | omega | contradiction | (cases Q59; done))
                           | skip
                             refine st_unguard rfl ?_
                             refine st_call BndBack_k9 (wakes_any _) ?_
                             rintro v149 w60 ⟨rfl, E149⟩
                             refine st_val (ro_pickT (v := .bool _) rfl rfl) ?_
                             refine st_val (ro_assign (v := .bool _) rfl) ?_
                             refine st_nil ?_
                             refine nx_then ?_
                             refine cd_ret ?_
                             refine res1 (v := .bool _) rfl rfl ?_
                             exact ⟨rfl, ((hB.next E135).next E149)⟩
                        · (try first | replace Q59 := bn_t Q59 | replace Q59 := bn_f Q59)
                          (try first | replace Q59 := bx_t Q59 | replace Q59 := bx_f Q59 | replace Q59 := be_t Q59 | replace Q59 := be_f Q59 | replace Q59 := of_decide_eq_true Q59 | replace Q59 := of_decide_eq_false Q59)
                          first
                           | (exfalso; first | omega | contradiction | (cases Q59; done))
                           | skip
                             refine st_gno rfl rfl ?_
                             refine st_val (ro_pickF (v := .bool _) rfl rfl) ?_
                             refine st_val (ro_assign (v := .bool _) rfl) ?_
                             refine st_nil ?_
                             refine nx_then ?_
                             refine cd_ret ?_
                             refine res1 (v := .bool _) rfl rfl ?_
                             exact ⟨rfl, (hB.next E135)⟩
                   · (try first | replace Q57 := bn_t Q57 | replace Q57 := bn_f Q57)
                     (try first | replace Q57 := bx_t Q57 | replace Q57 := bx_f Q57 | replace Q57 := be_t Q57 | replace Q57 := be_f Q57 | replace Q57 := of_decide_eq_true Q57 | replace Q57 := of_decide_eq_false Q57)
                     first
                      | (exfalso; first | omega | contradiction | (cases Q57; done))
                      | skip
                        refine st_gno rfl rfl ?_
                        refine st_gno rfl rfl ?_
                        refine st_gno rfl rfl ?_
                        refine st_val (ro_pickF (v := .bool _) rfl rfl) ?_
                        refine st_val (ro_move (v := .bool _) rfl) ?_
                        refine st_gno rfl rfl ?_
                        refine st_val (ro_pickF (v := .bool _) rfl rfl) ?_
                        refine st_val (ro_assign (v := .bool _) rfl) ?_
                        refine st_nil ?_
                        refine nx_then ?_
                        refine cd_ret ?_
                        refine res1 (v := .bool _) rfl rfl ?_
                        exact ⟨rfl, (hB.next E135)⟩
theorem back_arg (cs : Array Value) (x : askT.den) (w : World) (hs : cs.size = 2) (h : askT.At w (fun j => cs[j]?) x) : Rt Try.prog 5 [.agg cs] w fun v w' => v = .bool true ∧ From w w' := by
  obtain ⟨A, ca, L, B, cb, is, rfl, h1, h2, h3, h4⟩ := ask_of hs h
  exact back_law A B ca cb L is w h1 h2 h3 h4
set_option maxRecDepth 100000 in
theorem BoundsBack_lifted (os : Os) (started : os.Started) (H : Type) (enc : TypeId × Value → H) :
    ReturnsInHanded {} Try.checked os 5 .any (Rows.boundsBackSpec.pre6 enc Try.prog Try.f5 Rows.boundsBackRow.domain false) (Rows.boundsBackSpec.post enc Try.prog Try.f5 false true false false) := by
  refine returnsInHanded_of_change_sized (C := Try.checked) Try.own started (by kernel_rfl) Try.func5
    (ChangeSpec.witness6 (enc := enc) (C := Try.checked) false ⟨#[], #[.agg #[.slice none 0 0, .slice none 0 0]], []⟩ 8 (by kernel_rfl) (by kernel_rfl) (by kernel_rfl) (by kernel_rfl)) ?_
  intro W base args ds gs before hval hW _ hsz _
  exact law_step 5 Try.f5 24 4 Rows.boundsBackSpec Try.params5 (by kernel_rfl) Try.underlying4 rfl (fun _ => rfl) (by kernel_rfl) (of_decide_eq_true (by kernel_rfl)) (walk_struct (.sl (.int .i64)) (.pr (.sl (.int .i64)) .unit) (by kernel_rfl) back_arg) W base args ds gs before hval hW hsz

theorem BoundsBack_holds : Rows.BoundsBackSaid :=
  OpenClaim.holds_of_wide 5 Try.f5 rfl rfl rfl rfl rfl rfl rfl ⟨rfl, rfl, rfl, rfl, rfl⟩ rfl rfl rfl rfl rfl (by kernel_rfl) Try.func5 (by kernel_rfl)
    (of_decide_eq_true (by kernel_rfl)) (by unfold Func.isWrapper; first | (rw [if_pos (by decide +kernel)]; kernel_rfl) | (rw [if_neg (by decide +kernel)]; exact ⟨rfl, rfl⟩))
    (fun os started H enc _ => BoundsBack_lifted os started H enc)
#print axioms BoundsBack_holds

end Go.Proofs.Ytkmcdhllldlbgaa
