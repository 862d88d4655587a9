/- The law WaveletAccess. -/
import Derived.Test.YtmiclfhpenjjfaaWavHelp
namespace Go.Proofs.Ytmiclfhpenjjfaa
open Go.RowKit
open Go.ChangeShapes Go.WideShapes Go.ChangeAt
theorem WavAccess_g24 : aggQ Try.prog 24 = some true := by kernel_rfl
theorem WavAccess_z24 : sizeQ Try.prog 24 = some 3 := by kernel_rfl
theorem WavAccess_k6 : callable Try.prog 6 = true := by kernel_rfl
theorem WavAccess_k7 : callable Try.prog 7 = true := by kernel_rfl
theorem WavAccess_p26 : Try.prog.underlying 26 = some (.pointer (Try.prog.pointee 26)) := by kernel_rfl
theorem WavAccess_k8 : callable Try.prog 8 = true := by kernel_rfl
theorem WavAccess_k9 : callable Try.prog 9 = true := by kernel_rfl
theorem WavAccess_f24_1 : fieldQ Try.prog 24 1 = some 1 := by kernel_rfl
theorem WavAccess_g22 : aggQ Try.prog 22 = some false := by kernel_rfl
theorem WavAccess_l22 : (elemQ Try.prog 22).isSome = true := by kernel_rfl
theorem WavAccess_k10 : callable Try.prog 10 = true := by kernel_rfl
theorem WavAccess_f24_0 : fieldQ Try.prog 24 0 = some 0 := by kernel_rfl
theorem WavAccess_g3 : aggQ Try.prog 3 = some false := by kernel_rfl
theorem WavAccess_k11 : callable Try.prog 11 = true := by kernel_rfl
theorem WavAccess_k12 : callable Try.prog 12 = true := by kernel_rfl
theorem WavAccess_e22 : elemQ Try.prog 22 = some (3, 1) := by kernel_rfl
theorem told_out {L : List Nat} {i : Int} (h : ¬ (0 ≤ i ∧ i < L.length)) : ((3 : Int) ≠ 0 → aE L i = 3 ∧ aV L i = 0) ∧ ((3 : Int) = 0 → aE L i = 0 ∧ aV L i = 0) := by
  unfold aE aV
  rw [if_neg h, if_neg h]
  exact ⟨fun _ => ⟨rfl, rfl⟩, fun h => by omega⟩
theorem told_in {L : List Nat} {xs : List Int} (hx : xs = L.map fun x : Nat => (x : Int)) {q : Nat} (h : q < xs.length) : ((0 : Int) ≠ 0 → aE L (q : Int) = 0 ∧ aV L (q : Int) = 0) ∧ ((0 : Int) = 0 → aE L (q : Int) = 0 ∧ aV L (q : Int) = xs[q]) := by
  subst hx
  rw [List.length_map] at h
  unfold aE aV
  rw [if_pos (by omega), if_pos (by omega), Int.toNat_natCast, List.getD_eq_getElem?_getD, List.getElem?_eq_getElem h, List.getElem_map]
  exact ⟨fun h => absurd rfl h, fun _ => ⟨rfl, rfl⟩⟩
set_option maxRecDepth 100000 in
set_option maxHeartbeats 3000000 in
theorem access_law (k : Int) (A B : Option Addr) (ca cb : Nat) (xs is : List Int) (w : World) (hr : RowOf iV w A xs) (hb64 : ∀ x ∈ xs, -9223372036854775808 ≤ x ∧ x ≤ 9223372036854775807) (hrB : RowOf iV w B is) (hB64 : ∀ x ∈ is, -9223372036854775808 ≤ x ∧ x ≤ 9223372036854775807) :
    Rt Try.prog 3 [.agg #[.int .i64 k, .slice A xs.length ca, .slice B is.length cb]] w (fun v w' => v = .bool true ∧ From w w') := by
  refine enter (n := 72) Try.func3 rfl rfl rfl ?_
  refine cd_seq ?_
  refine cd_region ?_
  refine st_box (v := .agg _) rfl ?_
  intro b1 w1 E1 hb1 hk1
  refine st_val (ro_assign (v := .bool _) rfl) ?_
  refine st_nil ?_
  refine nx_then ?_
  refine cd_seq ?_
  refine cd_seq ?_
  refine cd_region ?_
  refine st_val (ro_loadA (cs := [_, _, _]) WavAccess_g24 WavAccess_z24 rfl (by first | (first | exact (hP1.from_ From.rfl_).whole | exact (hP1.from_ From.rfl_).rd 0 rfl | exact (hP1.from_ From.rfl_).rd 1 rfl | exact (hP1.from_ From.rfl_).rd 2 rfl) | (first | exact (hk1.from_ From.rfl_).whole | exact (hk1.from_ From.rfl_).rd 0 rfl | exact (hk1.from_ From.rfl_).rd 1 rfl | exact (hk1.from_ From.rfl_).rd 2 rfl))) ?_
  refine st_call WavAccess_k6 (heavy_any k A B _ ca _ cb _) ?_
  rintro v9 w2 ⟨rfl, E9⟩
  refine st_nil ?_
  refine nx_then ?_
  refine cd_cond rfl (fun Q3 => ?_) (fun Q3 => ?_)
  · (try first | replace Q3 := bn_t Q3 | replace Q3 := bn_f Q3)
    (try first | replace Q3 := bx_t Q3 | replace Q3 := bx_f Q3 | replace Q3 := be_t Q3 | replace Q3 := be_f Q3 | replace Q3 := of_decide_eq_true Q3 | replace Q3 := of_decide_eq_false Q3)
    first
     | (exfalso; first | omega | (simp only [hne] at *; done) | (simp_all; done) | contradiction | (cases Q3; done))
     | skip
       refine cd_seq ?_
       refine cd_region ?_
       refine st_val (ro_assign (v := .bool _) rfl) ?_
       refine st_nil ?_
       refine nx_then ?_
       refine cd_ret ?_
       refine rt_then ?_
       refine res1 (v := .bool _) rfl rfl ?_
       exact ⟨rfl, ((From.rfl_.next E1).next E9)⟩
  · (try first | replace Q3 := bn_t Q3 | replace Q3 := bn_f Q3)
    (try first | replace Q3 := bx_t Q3 | replace Q3 := bx_f Q3 | replace Q3 := be_t Q3 | replace Q3 := be_f Q3 | replace Q3 := of_decide_eq_true Q3 | replace Q3 := of_decide_eq_false Q3)
    first
     | (exfalso; first | omega | (simp only [hne] at *; done) | (simp_all; done) | contradiction | (cases Q3; done))
     | skip
       refine cd_skip ?_
       refine nx_then ?_
       refine cd_seq ?_
       refine cd_region ?_
       refine st_val (ro_loadA (cs := [_, _, _]) WavAccess_g24 WavAccess_z24 rfl (by first | (first | exact (hP1.from_ (From.rfl_.next E9)).whole | exact (hP1.from_ (From.rfl_.next E9)).rd 0 rfl | exact (hP1.from_ (From.rfl_.next E9)).rd 1 rfl | exact (hP1.from_ (From.rfl_.next E9)).rd 2 rfl) | (first | exact (hk1.from_ (From.rfl_.next E9)).whole | exact (hk1.from_ (From.rfl_.next E9)).rd 0 rfl | exact (hk1.from_ (From.rfl_.next E9)).rd 1 rfl | exact (hk1.from_ (From.rfl_.next E9)).rd 2 rfl))) ?_
       have hz12 := (((From.rfl_.next E1).next E9)).size
       refine st_call WavAccess_k7 (made_rt k A B ca _ cb xs _ (hr.from_ ((From.rfl_.next E1).next E9)) (by omega)) ?_
       rintro v12 w4 ⟨hn12, E12⟩
       replace hk1 := hk1.from_ ((From.rfl_.next E9).next E12)
       rcases hn12 with ⟨hne, rfl⟩ | ⟨K, L, b, rfl, hx, rfl, hv⟩
       · refine st_val (ro_move (v := .tuple _) rfl) ?_
         refine st_val (ro_extract rfl rfl) ?_
         refine st_val (ro_extract rfl rfl) ?_
         refine st_val (ro_assign (v := .pointer _) rfl) ?_
         refine st_val (ro_assign (v := .int _ _) rfl) ?_
         refine st_nil ?_
         refine nx_then ?_
         refine cd_seq ?_
         refine cd_seq ?_
         refine cd_region ?_
         refine st_val (ro_move (v := .pointer _) rfl) ?_
         refine st_val (ro_eqlNil WavAccess_p26 rfl rfl) ?_
         refine st_nil ?_
         refine nx_then ?_
         refine cd_cond rfl (fun Q5 => ?_) (fun Q5 => ?_)
         · (try first | replace Q5 := bn_t Q5 | replace Q5 := bn_f Q5)
           (try first | replace Q5 := bx_t Q5 | replace Q5 := bx_f Q5 | replace Q5 := be_t Q5 | replace Q5 := be_f Q5 | replace Q5 := of_decide_eq_true Q5 | replace Q5 := of_decide_eq_false Q5)
           first
            | (exfalso; first | omega | (simp only [hne] at *; done) | (simp_all; done) | contradiction | (cases Q5; done))
            | skip
              refine cd_seq ?_
              refine cd_region ?_
              refine st_val (ro_move (v := .int _ _) rfl) ?_
              refine st_val (ro_neq rfl rfl) ?_
              refine st_val (ro_move (v := .bool _) rfl) ?_
              refine st_split (t := 19) rfl (fun Q6 => ?_) (fun Q6 => ?_)
              · (try first | replace Q6 := bn_t Q6 | replace Q6 := bn_f Q6)
                (try first | replace Q6 := bx_t Q6 | replace Q6 := bx_f Q6 | replace Q6 := be_t Q6 | replace Q6 := be_f Q6 | replace Q6 := of_decide_eq_true Q6 | replace Q6 := of_decide_eq_false Q6)
                first
                 | (exfalso; first | omega | (simp only [hne] at *; done) | (simp_all; done) | contradiction | (cases Q6; done))
                 | skip
                   refine st_unguard rfl ?_
                   refine st_call WavAccess_k8 (wakes_any _) ?_
                   rintro v20 w7 ⟨rfl, E20⟩
                   refine st_val (ro_pickT (v := .bool _) rfl rfl) ?_
                   refine st_val (ro_assign (v := .bool _) rfl) ?_
                   refine st_nil ?_
                   refine nx_then ?_
                   refine cd_ret ?_
                   refine rt_then ?_
                   refine res1 (v := .bool _) rfl rfl ?_
                   exact ⟨rfl, ((((From.rfl_.next E1).next E9).next E12).next E20)⟩
              · (try first | replace Q6 := bn_t Q6 | replace Q6 := bn_f Q6)
                (try first | replace Q6 := bx_t Q6 | replace Q6 := bx_f Q6 | replace Q6 := be_t Q6 | replace Q6 := be_f Q6 | replace Q6 := of_decide_eq_true Q6 | replace Q6 := of_decide_eq_false Q6)
                first
                 | (exfalso; first | omega | (simp only [hne] at *; done) | (simp_all; done) | contradiction | (cases Q6; done))
                 | skip
                   refine st_gno rfl rfl ?_
                   refine st_val (ro_pickF (v := .bool _) rfl rfl) ?_
                   refine st_val (ro_assign (v := .bool _) rfl) ?_
                   refine st_nil ?_
                   refine nx_then ?_
                   refine cd_ret ?_
                   refine rt_then ?_
                   refine res1 (v := .bool _) rfl rfl ?_
                   exact ⟨rfl, (((From.rfl_.next E1).next E9).next E12)⟩
         · (try first | replace Q5 := bn_t Q5 | replace Q5 := bn_f Q5)
           (try first | replace Q5 := bx_t Q5 | replace Q5 := bx_f Q5 | replace Q5 := be_t Q5 | replace Q5 := be_f Q5 | replace Q5 := of_decide_eq_true Q5 | replace Q5 := of_decide_eq_false Q5)
           first
            | (exfalso; first | omega | (simp only [hne] at *; done) | (simp_all; done) | contradiction | (cases Q5; done))
            | skip
              refine cd_skip ?_
              refine nx_then ?_
              refine cd_seq ?_
              refine cd_seq ?_
              have hz0 : (0 : Nat) = 0 := rfl
              · apply cd_drawn 13 [(22, eqp _), (23, eqp _), (24, eqp _), (25, eqp _), (26, eqp _), (27, eqp _), (28, eqp _), (29, eqp _), (30, eqp _), (31, eqp _), (32, eqp _), (33, eqp _), (34, eqp _)] (by kernel_rfl) (by kernel_rfl) ⟨eqp_mono _, eqp_mono _, eqp_mono _, eqp_mono _, eqp_mono _, eqp_mono _, eqp_mono _, eqp_mono _, eqp_mono _, eqp_mono _, eqp_mono _, eqp_mono _, eqp_mono _, trivial⟩
                case hop =>
                 refine ⟨?_, ?_⟩
                 · intro w9 D9
                   show OpOK _ _ _ _ _ _ _
                   exact ok_pure (ro_move (v := .pointer _) rfl) rfl
                 refine ⟨?_, ?_⟩
                 · intro w10 D10
                   rintro _ rfl
                   show OpOK _ _ _ _ _ _ _
                   refine ok_call WavAccess_k9 ((lenT _ b K L _ (hv.from_ (From.rfl_.next D10))).mono ?_)
                   rintro v _ ⟨rfl, E10'⟩; exact ⟨E10', rfl⟩
                 refine ⟨?_, ?_⟩
                 · intro w11 D11
                   show OpOK _ _ _ _ _ _ _
                   exact ok_pure (ro_fieldAddr WavAccess_f24_1 rfl) rfl
                 refine ⟨?_, ?_⟩
                 · intro w12 D12
                   rintro _ rfl
                   show OpOK _ _ _ _ _ _ _
                   exact ok_pure (ro_load WavAccess_g22 rfl (by first | (first | exact (hP1.from_ (From.rfl_.next D12)).whole | exact (hP1.from_ (From.rfl_.next D12)).rd 0 rfl | exact (hP1.from_ (From.rfl_.next D12)).rd 1 rfl | exact (hP1.from_ (From.rfl_.next D12)).rd 2 rfl) | (first | exact (hk1.from_ (From.rfl_.next D12)).whole | exact (hk1.from_ (From.rfl_.next D12)).rd 0 rfl | exact (hk1.from_ (From.rfl_.next D12)).rd 1 rfl | exact (hk1.from_ (From.rfl_.next D12)).rd 2 rfl))) rfl
                 refine ⟨?_, ?_⟩
                 · intro w13 D13
                   rintro _ rfl
                   show OpOK _ _ _ _ _ _ _
                   exact ok_pure (ro_len WavAccess_l22 rfl) rfl
                 refine ⟨?_, ?_⟩
                 · intro w14 D14
                   rintro _ rfl _ rfl
                   show OpOK _ _ _ _ _ _ _
                   exact ok_pure (ro_bf (ro_neq rfl rfl) (by rw [hxl]; exact bne_self_eq_false _)) rfl
                 refine ⟨?_, ?_⟩
                 · intro w15 D15
                   rintro _ rfl
                   show OpOK _ _ _ _ _ _ _
                   exact ok_pure (ro_move (v := .bool _) rfl) rfl
                 refine ⟨?_, ?_⟩
                 · intro w16 D16
                   rintro _ rfl
                   show OpOK _ _ _ _ _ _ _
                   exact ok_gpure rfl (ro_move (v := .pointer _) rfl) rfl
                 refine ⟨?_, ?_⟩
                 · intro w17 D17
                   rintro _ rfl _ rfl
                   show OpOK _ _ _ _ _ _ _
                   refine ok_gcall rfl WavAccess_k10 ((kindsT _ b K L _ (hv.from_ (From.rfl_.next D17))).mono ?_)
                   rintro v _ ⟨rfl, rfl⟩; exact ⟨From.rfl_, rfl⟩
                 refine ⟨?_, ?_⟩
                 · intro w18 D18
                   rintro _ rfl
                   show OpOK _ _ _ _ _ _ _
                   exact ok_gpure rfl (ro_fieldAddr WavAccess_f24_0 rfl) rfl
                 refine ⟨?_, ?_⟩
                 · intro w19 D19
                   rintro _ rfl _ rfl
                   show OpOK _ _ _ _ _ _ _
                   exact ok_gpure rfl (ro_load WavAccess_g3 rfl (by first | (first | exact (hP1.from_ (From.rfl_.next D19)).whole | exact (hP1.from_ (From.rfl_.next D19)).rd 0 rfl | exact (hP1.from_ (From.rfl_.next D19)).rd 1 rfl | exact (hP1.from_ (From.rfl_.next D19)).rd 2 rfl) | (first | exact (hk1.from_ (From.rfl_.next D19)).whole | exact (hk1.from_ (From.rfl_.next D19)).rd 0 rfl | exact (hk1.from_ (From.rfl_.next D19)).rd 1 rfl | exact (hk1.from_ (From.rfl_.next D19)).rd 2 rfl))) rfl
                 refine ⟨?_, ?_⟩
                 · intro w20 D20
                   rintro _ rfl _ rfl _ rfl
                   show OpOK _ _ _ _ _ _ _
                   exact ok_gpure rfl (ro_bf (ro_neq rfl rfl) (bne_self_eq_false _)) rfl
                 refine ⟨?_, ?_⟩
                 · intro w21 D21
                   rintro _ rfl _ rfl
                   show OpOK _ _ _ _ _ _ _
                   exact ok_pure (ro_pickF (v := .bool _) rfl rfl) rfl
                 exact trivial
                case hend =>
                 intro w22 D22
                 rintro _ rfl _ rfl _ rfl _ rfl _ rfl _ rfl _ rfl _ rfl _ rfl _ rfl _ rfl _ rfl _ rfl
                 show St _ _ _ _ _ _ _
                 refine st_nil ?_
                 refine nx_then ?_
                 refine cd_condF rfl ?_
                 refine cd_skip ?_
                 refine nx_then ?_
                 refine cd_seq ?_
                 refine cd_seq ?_
                 refine cd_region ?_
                 refine st_val (ro_assign (v := .int _ _) rfl) ?_
                 refine st_nil ?_
                 refine nx_then ?_
                 refine cd_block ?_
                 refine cd_loop (G := Int) [2, 6, 7, 35, 36, 37, 38, 39, 40, 41, 42, 43, 44, 45, 46, 47, 48, 49, 50, 51, 52, 53, 54, 55, 56, 57, 58, 59, 60, 61, 62, 63, 64, 65, 66, 67, 68, 69, 70] (fun i => [(5, .int .i64 i)]) (fun i w' => (-2 ≤ i ∧ i ≤ xs.length + 2) ∧ TreeAt w' w.heap.size b K L ∧ Blk w' b1 24 #[.int .i64 (K : Nat), .slice A xs.length ca, .slice B is.length cb] ∧ From w w') (fun i => (xs.length + 2 - i).toNat) (-2) ⟨rfl, trivial⟩ ?_ ?_
                 · exact ⟨by omega, hv.from_ (From.rfl_.next D22), hk1.from_ (From.rfl_.next D22), ((((From.rfl_.next E1).next E9).next E12).next D22)⟩
                 rintro i ρ23 w23 ⟨hi, hv, hP1, hB⟩
                 refine cd_seq ?_
                 refine cd_seq ?_
                 refine cd_region ?_
                 refine st_val (ro_move (v := .int _ _) rfl) ?_
                 refine st_val (ro_fieldAddr WavAccess_f24_1 rfl) ?_
                 refine st_val (ro_load WavAccess_g22 rfl (by first | (first | exact (hP1.from_ From.rfl_).whole | exact (hP1.from_ From.rfl_).rd 0 rfl | exact (hP1.from_ From.rfl_).rd 1 rfl | exact (hP1.from_ From.rfl_).rd 2 rfl) | (first | exact (hk1.from_ From.rfl_).whole | exact (hk1.from_ From.rfl_).rd 0 rfl | exact (hk1.from_ From.rfl_).rd 1 rfl | exact (hk1.from_ From.rfl_).rd 2 rfl))) ?_
                 refine st_val (ro_len WavAccess_l22 rfl) ?_
                 refine st_val (ro_addN (b := 1) rfl rfl (by omega)) ?_
                 refine st_val (ro_leq rfl rfl) ?_
                 refine st_nil ?_
                 refine nx_then ?_
                 refine cd_cond rfl (fun Q24 => ?_) (fun Q24 => ?_)
                 · (try first | replace Q24 := bn_t Q24 | replace Q24 := bn_f Q24)
                   (try first | replace Q24 := bx_t Q24 | replace Q24 := bx_f Q24 | replace Q24 := be_t Q24 | replace Q24 := be_f Q24 | replace Q24 := of_decide_eq_true Q24 | replace Q24 := of_decide_eq_false Q24)
                   first
                    | (exfalso; first | omega | (simp only [hne] at *; done) | (simp_all; done) | contradiction | (cases Q24; done))
                    | skip
                      refine cd_skip ?_
                      refine nx_then ?_
                      refine cd_seq ?_
                      refine cd_block ?_
                      refine cd_seq ?_
                      refine cd_region ?_
                      refine st_val (ro_move (v := .pointer _) rfl) ?_
                      refine st_val (ro_move (v := .int _ _) rfl) ?_
                      refine st_call WavAccess_k11 (accessT _ b K L _ (hv.from_ From.rfl_) i) ?_
                      rintro v46 w25 ⟨rfl, E46⟩
                      refine st_val (ro_move (v := .tuple _) rfl) ?_
                      refine st_val (ro_extract rfl rfl) ?_
                      refine st_val (ro_extract rfl rfl) ?_
                      refine st_val (ro_assign (v := .int _ _) rfl) ?_
                      refine st_val (ro_assign (v := .int _ _) rfl) ?_
                      refine st_nil ?_
                      refine nx_then ?_
                      refine cd_seq ?_
                      refine cd_seq ?_
                      refine cd_region ?_
                      refine st_val (ro_move (v := .int _ _) rfl) ?_
                      refine st_val (ro_lss rfl rfl) ?_
                      refine st_val (ro_move (v := .bool _) rfl) ?_
                      refine st_split (t := 51) rfl (fun Q26 => ?_) (fun Q26 => ?_)
                      · (try first | replace Q26 := bn_t Q26 | replace Q26 := bn_f Q26)
                        (try first | replace Q26 := bx_t Q26 | replace Q26 := bx_f Q26 | replace Q26 := be_t Q26 | replace Q26 := be_f Q26 | replace Q26 := of_decide_eq_true Q26 | replace Q26 := of_decide_eq_false Q26)
                        first
                         | (exfalso; first | omega | (simp only [hne] at *; done) | (simp_all; done) | contradiction | (cases Q26; done))
                         | skip
                           refine st_gno rfl rfl ?_
                           refine st_gno rfl rfl ?_
                           refine st_gno rfl rfl ?_
                           refine st_gno rfl rfl ?_
                           refine st_gno rfl rfl ?_
                           refine st_val (ro_pickT (v := .bool _) rfl rfl) ?_
                           refine st_nil ?_
                           refine nx_then ?_
                           refine cd_condT rfl ?_
                           refine cd_seq ?_
                           refine cd_seq ?_
                           refine cd_region ?_
                           refine st_val (ro_move (v := .int _ _) rfl) ?_
                           refine st_val (ro_move (v := .int _ _) rfl) ?_
                           refine st_call WavAccess_k12 (told_any _ _ 0 3 _ (told_out (by omega))) ?_
                           rintro v60 w27 ⟨rfl, rfl⟩
                           refine st_val (ro_not rfl) ?_
                           refine st_nil ?_
                           refine nx_then ?_
                           refine cd_cond rfl (fun Q28 => ?_) (fun Q28 => ?_)
                           · (try first | replace Q28 := bn_t Q28 | replace Q28 := bn_f Q28)
                             (try first | replace Q28 := bx_t Q28 | replace Q28 := bx_f Q28 | replace Q28 := be_t Q28 | replace Q28 := be_f Q28 | replace Q28 := of_decide_eq_true Q28 | replace Q28 := of_decide_eq_false Q28)
                             first
                              | (exfalso; first | omega | (simp only [hne] at *; done) | (simp_all; done) | contradiction | (cases Q28; done))
                              | skip
                                refine cd_seq ?_
                                refine cd_region ?_
                                refine st_val (ro_assign (v := .bool _) rfl) ?_
                                refine st_nil ?_
                                refine nx_then ?_
                                refine cd_ret ?_
                                refine rt_then ?_
                                refine rt_then ?_
                                refine rt_block ?_
                                refine rt_then ?_
                                refine rt_then ?_
                                refine rt_block ?_
                                refine rt_then ?_
                                refine res1 (v := .bool _) rfl rfl ?_
                                exact ⟨rfl, (hB.next E46)⟩
                           · (try first | replace Q28 := bn_t Q28 | replace Q28 := bn_f Q28)
                             (try first | replace Q28 := bx_t Q28 | replace Q28 := bx_f Q28 | replace Q28 := be_t Q28 | replace Q28 := be_f Q28 | replace Q28 := of_decide_eq_true Q28 | replace Q28 := of_decide_eq_false Q28)
                             first
                              | (exfalso; first | omega | (simp only [hne] at *; done) | (simp_all; done) | contradiction | (cases Q28; done))
                              | skip
                                refine cd_skip ?_
                                refine nx_then ?_
                                refine cd_exit ?_
                                refine ex_then ?_
                                refine ex_block ?_
                                refine nx_then ?_
                                refine cd_region ?_
                                refine st_val (ro_move (v := .int _ _) rfl) ?_
                                refine st_val (ro_add64 rfl rfl (by omega)) ?_
                                refine st_val (ro_assign (v := .int _ _) rfl) ?_
                                refine st_nil ?_
                                refine nx_cut (i + 1) ⟨(by first | rfl | (refine int_eq ?_; omega)), trivial⟩ (by (iterate 71 refine agr_cons rfl ?_); exact agr_rfl) ⟨?_, ?_⟩
                                · exact ⟨by omega, hv.from_ (From.rfl_.next E46), hP1.from_ (From.rfl_.next E46), (hB.next E46)⟩
                                · omega
                      · (try first | replace Q26 := bn_t Q26 | replace Q26 := bn_f Q26)
                        (try first | replace Q26 := bx_t Q26 | replace Q26 := bx_f Q26 | replace Q26 := be_t Q26 | replace Q26 := be_f Q26 | replace Q26 := of_decide_eq_true Q26 | replace Q26 := of_decide_eq_false Q26)
                        first
                         | (exfalso; first | omega | (simp only [hne] at *; done) | (simp_all; done) | contradiction | (cases Q26; done))
                         | skip
                           refine st_unguard rfl ?_
                           refine st_val (ro_move (v := .int _ _) rfl) ?_
                           refine st_unguard rfl ?_
                           refine st_val (ro_fieldAddr WavAccess_f24_1 rfl) ?_
                           refine st_unguard rfl ?_
                           refine st_val (ro_load WavAccess_g22 rfl (by first | (first | exact (hP1.from_ (From.rfl_.next E46)).whole | exact (hP1.from_ (From.rfl_.next E46)).rd 0 rfl | exact (hP1.from_ (From.rfl_.next E46)).rd 1 rfl | exact (hP1.from_ (From.rfl_.next E46)).rd 2 rfl) | (first | exact (hk1.from_ (From.rfl_.next E46)).whole | exact (hk1.from_ (From.rfl_.next E46)).rd 0 rfl | exact (hk1.from_ (From.rfl_.next E46)).rd 1 rfl | exact (hk1.from_ (From.rfl_.next E46)).rd 2 rfl))) ?_
                           refine st_unguard rfl ?_
                           refine st_val (ro_len WavAccess_l22 rfl) ?_
                           refine st_unguard rfl ?_
                           refine st_val (ro_geq rfl rfl) ?_
                           refine st_val (ro_pickF (v := .bool _) rfl rfl) ?_
                           refine st_nil ?_
                           refine nx_then ?_
                           refine cd_cond rfl (fun Q29 => ?_) (fun Q29 => ?_)
                           · (try first | replace Q29 := bn_t Q29 | replace Q29 := bn_f Q29)
                             (try first | replace Q29 := bx_t Q29 | replace Q29 := bx_f Q29 | replace Q29 := be_t Q29 | replace Q29 := be_f Q29 | replace Q29 := of_decide_eq_true Q29 | replace Q29 := of_decide_eq_false Q29)
                             first
                              | (exfalso; first | omega | (simp only [hne] at *; done) | (simp_all; done) | contradiction | (cases Q29; done))
                              | skip
                                refine cd_seq ?_
                                refine cd_seq ?_
                                refine cd_region ?_
                                refine st_val (ro_move (v := .int _ _) rfl) ?_
                                refine st_val (ro_move (v := .int _ _) rfl) ?_
                                refine st_call WavAccess_k12 (told_any _ _ 0 3 _ (told_out (by omega))) ?_
                                rintro v60 w30 ⟨rfl, rfl⟩
                                refine st_val (ro_not rfl) ?_
                                refine st_nil ?_
                                refine nx_then ?_
                                refine cd_cond rfl (fun Q31 => ?_) (fun Q31 => ?_)
                                · (try first | replace Q31 := bn_t Q31 | replace Q31 := bn_f Q31)
                                  (try first | replace Q31 := bx_t Q31 | replace Q31 := bx_f Q31 | replace Q31 := be_t Q31 | replace Q31 := be_f Q31 | replace Q31 := of_decide_eq_true Q31 | replace Q31 := of_decide_eq_false Q31)
                                  first
                                   | (exfalso; first | omega | (simp only [hne] at *; done) | (simp_all; done) | contradiction | (cases Q31; done))
                                   | skip
                                     refine cd_seq ?_
                                     refine cd_region ?_
                                     refine st_val (ro_assign (v := .bool _) rfl) ?_
                                     refine st_nil ?_
                                     refine nx_then ?_
                                     refine cd_ret ?_
                                     refine rt_then ?_
                                     refine rt_then ?_
                                     refine rt_block ?_
                                     refine rt_then ?_
                                     refine rt_then ?_
                                     refine rt_block ?_
                                     refine rt_then ?_
                                     refine res1 (v := .bool _) rfl rfl ?_
                                     exact ⟨rfl, (hB.next E46)⟩
                                · (try first | replace Q31 := bn_t Q31 | replace Q31 := bn_f Q31)
                                  (try first | replace Q31 := bx_t Q31 | replace Q31 := bx_f Q31 | replace Q31 := be_t Q31 | replace Q31 := be_f Q31 | replace Q31 := of_decide_eq_true Q31 | replace Q31 := of_decide_eq_false Q31)
                                  first
                                   | (exfalso; first | omega | (simp only [hne] at *; done) | (simp_all; done) | contradiction | (cases Q31; done))
                                   | skip
                                     refine cd_skip ?_
                                     refine nx_then ?_
                                     refine cd_exit ?_
                                     refine ex_then ?_
                                     refine ex_block ?_
                                     refine nx_then ?_
                                     refine cd_region ?_
                                     refine st_val (ro_move (v := .int _ _) rfl) ?_
                                     refine st_val (ro_add64 rfl rfl (by omega)) ?_
                                     refine st_val (ro_assign (v := .int _ _) rfl) ?_
                                     refine st_nil ?_
                                     refine nx_cut (i + 1) ⟨(by first | rfl | (refine int_eq ?_; omega)), trivial⟩ (by (iterate 71 refine agr_cons rfl ?_); exact agr_rfl) ⟨?_, ?_⟩
                                     · exact ⟨by omega, hv.from_ (From.rfl_.next E46), hP1.from_ (From.rfl_.next E46), (hB.next E46)⟩
                                     · omega
                           · (try first | replace Q29 := bn_t Q29 | replace Q29 := bn_f Q29)
                             (try first | replace Q29 := bx_t Q29 | replace Q29 := bx_f Q29 | replace Q29 := be_t Q29 | replace Q29 := be_f Q29 | replace Q29 := of_decide_eq_true Q29 | replace Q29 := of_decide_eq_false Q29)
                             obtain ⟨q, hq⟩ : ∃ q : Nat, i = (q : Int) := ⟨i.toNat, by omega⟩
                             have hqx : q < xs.length := by omega
                             obtain ⟨ba, oa, hA, hca⟩ := hr (by omega)
                             subst hA
                             first
                              | (exfalso; first | omega | (simp only [hne] at *; done) | (simp_all; done) | contradiction | (cases Q29; done))
                              | skip
                                refine cd_skip ?_
                                refine nx_then ?_
                                refine cd_seq ?_
                                refine cd_region ?_
                                refine st_val (ro_move (v := .int _ _) rfl) ?_
                                refine st_val (ro_move (v := .int _ _) rfl) ?_
                                refine st_val (ro_fieldAddr WavAccess_f24_1 rfl) ?_
                                refine st_val (ro_load WavAccess_g22 rfl (by first | (first | exact (hP1.from_ (From.rfl_.next E46)).whole | exact (hP1.from_ (From.rfl_.next E46)).rd 0 rfl | exact (hP1.from_ (From.rfl_.next E46)).rd 1 rfl | exact (hP1.from_ (From.rfl_.next E46)).rd 2 rfl) | (first | exact (hk1.from_ (From.rfl_.next E46)).whole | exact (hk1.from_ (From.rfl_.next E46)).rd 0 rfl | exact (hk1.from_ (From.rfl_.next E46)).rd 1 rfl | exact (hk1.from_ (From.rfl_.next E46)).rd 2 rfl))) ?_
                                refine st_val (ro_move (v := .int _ _) rfl) ?_
                                refine st_spell (t := 66) (v := .int _ _) (v' := .int .i64 (q : Nat)) rfl (by rw [hq]) ?_
                                refine st_val (ro_indexAddr1 WavAccess_e22 rfl rfl (by omega)) ?_
                                refine st_val (ro_load WavAccess_g3 rfl (by exact cellF (hB.next E46) (hca q hqx))) ?_
                                refine st_call WavAccess_k12 (told_any _ _ _ 0 _ (by rw [hq]; exact told_in hx hqx)) ?_
                                rintro v69 w32 ⟨rfl, rfl⟩
                                refine st_val (ro_not rfl) ?_
                                refine st_nil ?_
                                refine nx_then ?_
                                refine cd_cond rfl (fun Q33 => ?_) (fun Q33 => ?_)
                                · (try first | replace Q33 := bn_t Q33 | replace Q33 := bn_f Q33)
                                  (try first | replace Q33 := bx_t Q33 | replace Q33 := bx_f Q33 | replace Q33 := be_t Q33 | replace Q33 := be_f Q33 | replace Q33 := of_decide_eq_true Q33 | replace Q33 := of_decide_eq_false Q33)
                                  first
                                   | (exfalso; first | omega | (simp only [hne] at *; done) | (simp_all; done) | contradiction | (cases Q33; done))
                                   | skip
                                     refine cd_seq ?_
                                     refine cd_region ?_
                                     refine st_val (ro_assign (v := .bool _) rfl) ?_
                                     refine st_nil ?_
                                     refine nx_then ?_
                                     refine cd_ret ?_
                                     refine rt_block ?_
                                     refine rt_then ?_
                                     refine rt_then ?_
                                     refine rt_block ?_
                                     refine rt_then ?_
                                     refine res1 (v := .bool _) rfl rfl ?_
                                     exact ⟨rfl, (hB.next E46)⟩
                                · (try first | replace Q33 := bn_t Q33 | replace Q33 := bn_f Q33)
                                  (try first | replace Q33 := bx_t Q33 | replace Q33 := bx_f Q33 | replace Q33 := be_t Q33 | replace Q33 := be_f Q33 | replace Q33 := of_decide_eq_true Q33 | replace Q33 := of_decide_eq_false Q33)
                                  first
                                   | (exfalso; first | omega | (simp only [hne] at *; done) | (simp_all; done) | contradiction | (cases Q33; done))
                                   | skip
                                     refine cd_skip ?_
                                     refine nx_block ?_
                                     refine nx_then ?_
                                     refine cd_region ?_
                                     refine st_val (ro_move (v := .int _ _) rfl) ?_
                                     refine st_val (ro_add64 rfl rfl (by omega)) ?_
                                     refine st_val (ro_assign (v := .int _ _) rfl) ?_
                                     refine st_nil ?_
                                     refine nx_cut (i + 1) ⟨(by first | rfl | (refine int_eq ?_; omega)), trivial⟩ (by (iterate 77 refine agr_cons rfl ?_); exact agr_rfl) ⟨?_, ?_⟩
                                     · exact ⟨by omega, hv.from_ (From.rfl_.next E46), hP1.from_ (From.rfl_.next E46), (hB.next E46)⟩
                                     · omega
                 · (try first | replace Q24 := bn_t Q24 | replace Q24 := bn_f Q24)
                   (try first | replace Q24 := bx_t Q24 | replace Q24 := bx_f Q24 | replace Q24 := be_t Q24 | replace Q24 := be_f Q24 | replace Q24 := of_decide_eq_true Q24 | replace Q24 := of_decide_eq_false Q24)
                   first
                    | (exfalso; first | omega | (simp only [hne] at *; done) | (simp_all; done) | contradiction | (cases Q24; done))
                    | skip
                      refine cd_exit ?_
                      refine ex_then ?_
                      refine ex_then ?_
                      refine ex_block ?_
                      refine nx_then ?_
                      refine cd_seq ?_
                      refine cd_region ?_
                      refine st_call WavAccess_k8 (wakes_any _) ?_
                      rintro v71 w34 ⟨rfl, E71⟩
                      refine st_val (ro_assign (v := .bool _) rfl) ?_
                      refine st_nil ?_
                      refine nx_then ?_
                      refine cd_ret ?_
                      refine res1 (v := .bool _) rfl rfl ?_
                      exact ⟨rfl, (hB.next E71)⟩
       · replace hv := hv.le hz12
         have hxl : xs.length = L.length := by rw [hx, List.length_map]
         obtain ⟨_, _, _, _, _, _, _, _, _, _, hK1, hK2, hlt, hLl⟩ := id hv
         refine st_val (ro_move (v := .tuple _) rfl) ?_
         refine st_val (ro_extract rfl rfl) ?_
         refine st_val (ro_extract rfl rfl) ?_
         refine st_val (ro_assign (v := .pointer _) rfl) ?_
         refine st_val (ro_assign (v := .int _ _) rfl) ?_
         refine st_nil ?_
         refine nx_then ?_
         refine cd_seq ?_
         refine cd_seq ?_
         refine cd_region ?_
         refine st_val (ro_move (v := .pointer _) rfl) ?_
         refine st_val (ro_eqlNil WavAccess_p26 rfl rfl) ?_
         refine st_nil ?_
         refine nx_then ?_
         refine cd_cond rfl (fun Q35 => ?_) (fun Q35 => ?_)
         · (try first | replace Q35 := bn_t Q35 | replace Q35 := bn_f Q35)
           (try first | replace Q35 := bx_t Q35 | replace Q35 := bx_f Q35 | replace Q35 := be_t Q35 | replace Q35 := be_f Q35 | replace Q35 := of_decide_eq_true Q35 | replace Q35 := of_decide_eq_false Q35)
           first
            | (exfalso; first | omega | (simp only [hne] at *; done) | (simp_all; done) | contradiction | (cases Q35; done))
            | skip
              refine cd_seq ?_
              refine cd_region ?_
              refine st_val (ro_move (v := .int _ _) rfl) ?_
              refine st_val (ro_neq rfl rfl) ?_
              refine st_val (ro_move (v := .bool _) rfl) ?_
              refine st_split (t := 19) rfl (fun Q36 => ?_) (fun Q36 => ?_)
              · (try first | replace Q36 := bn_t Q36 | replace Q36 := bn_f Q36)
                (try first | replace Q36 := bx_t Q36 | replace Q36 := bx_f Q36 | replace Q36 := be_t Q36 | replace Q36 := be_f Q36 | replace Q36 := of_decide_eq_true Q36 | replace Q36 := of_decide_eq_false Q36)
                first
                 | (exfalso; first | omega | (simp only [hne] at *; done) | (simp_all; done) | contradiction | (cases Q36; done))
                 | skip
                   refine st_unguard rfl ?_
                   refine st_call WavAccess_k8 (wakes_any _) ?_
                   rintro v20 w37 ⟨rfl, E20⟩
                   refine st_val (ro_pickT (v := .bool _) rfl rfl) ?_
                   refine st_val (ro_assign (v := .bool _) rfl) ?_
                   refine st_nil ?_
                   refine nx_then ?_
                   refine cd_ret ?_
                   refine rt_then ?_
                   refine res1 (v := .bool _) rfl rfl ?_
                   exact ⟨rfl, ((((From.rfl_.next E1).next E9).next E12).next E20)⟩
              · (try first | replace Q36 := bn_t Q36 | replace Q36 := bn_f Q36)
                (try first | replace Q36 := bx_t Q36 | replace Q36 := bx_f Q36 | replace Q36 := be_t Q36 | replace Q36 := be_f Q36 | replace Q36 := of_decide_eq_true Q36 | replace Q36 := of_decide_eq_false Q36)
                first
                 | (exfalso; first | omega | (simp only [hne] at *; done) | (simp_all; done) | contradiction | (cases Q36; done))
                 | skip
                   refine st_gno rfl rfl ?_
                   refine st_val (ro_pickF (v := .bool _) rfl rfl) ?_
                   refine st_val (ro_assign (v := .bool _) rfl) ?_
                   refine st_nil ?_
                   refine nx_then ?_
                   refine cd_ret ?_
                   refine rt_then ?_
                   refine res1 (v := .bool _) rfl rfl ?_
                   exact ⟨rfl, (((From.rfl_.next E1).next E9).next E12)⟩
         · (try first | replace Q35 := bn_t Q35 | replace Q35 := bn_f Q35)
           (try first | replace Q35 := bx_t Q35 | replace Q35 := bx_f Q35 | replace Q35 := be_t Q35 | replace Q35 := be_f Q35 | replace Q35 := of_decide_eq_true Q35 | replace Q35 := of_decide_eq_false Q35)
           first
            | (exfalso; first | omega | (simp only [hne] at *; done) | (simp_all; done) | contradiction | (cases Q35; done))
            | skip
              refine cd_skip ?_
              refine nx_then ?_
              refine cd_seq ?_
              refine cd_seq ?_
              have hz0 : (0 : Nat) = 0 := rfl
              · apply cd_drawn 13 [(22, eqp _), (23, eqp _), (24, eqp _), (25, eqp _), (26, eqp _), (27, eqp _), (28, eqp _), (29, eqp _), (30, eqp _), (31, eqp _), (32, eqp _), (33, eqp _), (34, eqp _)] (by kernel_rfl) (by kernel_rfl) ⟨eqp_mono _, eqp_mono _, eqp_mono _, eqp_mono _, eqp_mono _, eqp_mono _, eqp_mono _, eqp_mono _, eqp_mono _, eqp_mono _, eqp_mono _, eqp_mono _, eqp_mono _, trivial⟩
                case hop =>
                 refine ⟨?_, ?_⟩
                 · intro w39 D39
                   show OpOK _ _ _ _ _ _ _
                   exact ok_pure (ro_move (v := .pointer _) rfl) rfl
                 refine ⟨?_, ?_⟩
                 · intro w40 D40
                   rintro _ rfl
                   show OpOK _ _ _ _ _ _ _
                   refine ok_call WavAccess_k9 ((lenT _ b K L _ (hv.from_ (From.rfl_.next D40))).mono ?_)
                   rintro v _ ⟨rfl, E40'⟩; exact ⟨E40', rfl⟩
                 refine ⟨?_, ?_⟩
                 · intro w41 D41
                   show OpOK _ _ _ _ _ _ _
                   exact ok_pure (ro_fieldAddr WavAccess_f24_1 rfl) rfl
                 refine ⟨?_, ?_⟩
                 · intro w42 D42
                   rintro _ rfl
                   show OpOK _ _ _ _ _ _ _
                   exact ok_pure (ro_load WavAccess_g22 rfl (by first | (first | exact (hP1.from_ (From.rfl_.next D42)).whole | exact (hP1.from_ (From.rfl_.next D42)).rd 0 rfl | exact (hP1.from_ (From.rfl_.next D42)).rd 1 rfl | exact (hP1.from_ (From.rfl_.next D42)).rd 2 rfl) | (first | exact (hk1.from_ (From.rfl_.next D42)).whole | exact (hk1.from_ (From.rfl_.next D42)).rd 0 rfl | exact (hk1.from_ (From.rfl_.next D42)).rd 1 rfl | exact (hk1.from_ (From.rfl_.next D42)).rd 2 rfl))) rfl
                 refine ⟨?_, ?_⟩
                 · intro w43 D43
                   rintro _ rfl
                   show OpOK _ _ _ _ _ _ _
                   exact ok_pure (ro_len WavAccess_l22 rfl) rfl
                 refine ⟨?_, ?_⟩
                 · intro w44 D44
                   rintro _ rfl _ rfl
                   show OpOK _ _ _ _ _ _ _
                   exact ok_pure (ro_bf (ro_neq rfl rfl) (by rw [hxl]; exact bne_self_eq_false _)) rfl
                 refine ⟨?_, ?_⟩
                 · intro w45 D45
                   rintro _ rfl
                   show OpOK _ _ _ _ _ _ _
                   exact ok_pure (ro_move (v := .bool _) rfl) rfl
                 refine ⟨?_, ?_⟩
                 · intro w46 D46
                   rintro _ rfl
                   show OpOK _ _ _ _ _ _ _
                   exact ok_gpure rfl (ro_move (v := .pointer _) rfl) rfl
                 refine ⟨?_, ?_⟩
                 · intro w47 D47
                   rintro _ rfl _ rfl
                   show OpOK _ _ _ _ _ _ _
                   refine ok_gcall rfl WavAccess_k10 ((kindsT _ b K L _ (hv.from_ (From.rfl_.next D47))).mono ?_)
                   rintro v _ ⟨rfl, rfl⟩; exact ⟨From.rfl_, rfl⟩
                 refine ⟨?_, ?_⟩
                 · intro w48 D48
                   rintro _ rfl
                   show OpOK _ _ _ _ _ _ _
                   exact ok_gpure rfl (ro_fieldAddr WavAccess_f24_0 rfl) rfl
                 refine ⟨?_, ?_⟩
                 · intro w49 D49
                   rintro _ rfl _ rfl
                   show OpOK _ _ _ _ _ _ _
                   exact ok_gpure rfl (ro_load WavAccess_g3 rfl (by first | (first | exact (hP1.from_ (From.rfl_.next D49)).whole | exact (hP1.from_ (From.rfl_.next D49)).rd 0 rfl | exact (hP1.from_ (From.rfl_.next D49)).rd 1 rfl | exact (hP1.from_ (From.rfl_.next D49)).rd 2 rfl) | (first | exact (hk1.from_ (From.rfl_.next D49)).whole | exact (hk1.from_ (From.rfl_.next D49)).rd 0 rfl | exact (hk1.from_ (From.rfl_.next D49)).rd 1 rfl | exact (hk1.from_ (From.rfl_.next D49)).rd 2 rfl))) rfl
                 refine ⟨?_, ?_⟩
                 · intro w50 D50
                   rintro _ rfl _ rfl _ rfl
                   show OpOK _ _ _ _ _ _ _
                   exact ok_gpure rfl (ro_bf (ro_neq rfl rfl) (bne_self_eq_false _)) rfl
                 refine ⟨?_, ?_⟩
                 · intro w51 D51
                   rintro _ rfl _ rfl
                   show OpOK _ _ _ _ _ _ _
                   exact ok_pure (ro_pickF (v := .bool _) rfl rfl) rfl
                 exact trivial
                case hend =>
                 intro w52 D52
                 rintro _ rfl _ rfl _ rfl _ rfl _ rfl _ rfl _ rfl _ rfl _ rfl _ rfl _ rfl _ rfl _ rfl
                 show St _ _ _ _ _ _ _
                 refine st_nil ?_
                 refine nx_then ?_
                 refine cd_condF rfl ?_
                 refine cd_skip ?_
                 refine nx_then ?_
                 refine cd_seq ?_
                 refine cd_seq ?_
                 refine cd_region ?_
                 refine st_val (ro_assign (v := .int _ _) rfl) ?_
                 refine st_nil ?_
                 refine nx_then ?_
                 refine cd_block ?_
                 refine cd_loop (G := Int) [2, 6, 7, 35, 36, 37, 38, 39, 40, 41, 42, 43, 44, 45, 46, 47, 48, 49, 50, 51, 52, 53, 54, 55, 56, 57, 58, 59, 60, 61, 62, 63, 64, 65, 66, 67, 68, 69, 70] (fun i => [(5, .int .i64 i)]) (fun i w' => (-2 ≤ i ∧ i ≤ xs.length + 2) ∧ TreeAt w' w.heap.size b K L ∧ Blk w' b1 24 #[.int .i64 (K : Nat), .slice A xs.length ca, .slice B is.length cb] ∧ From w w') (fun i => (xs.length + 2 - i).toNat) (-2) ⟨rfl, trivial⟩ ?_ ?_
                 · exact ⟨by omega, hv.from_ (From.rfl_.next D52), hk1.from_ (From.rfl_.next D52), ((((From.rfl_.next E1).next E9).next E12).next D52)⟩
                 rintro i ρ53 w53 ⟨hi, hv, hP1, hB⟩
                 refine cd_seq ?_
                 refine cd_seq ?_
                 refine cd_region ?_
                 refine st_val (ro_move (v := .int _ _) rfl) ?_
                 refine st_val (ro_fieldAddr WavAccess_f24_1 rfl) ?_
                 refine st_val (ro_load WavAccess_g22 rfl (by first | (first | exact (hP1.from_ From.rfl_).whole | exact (hP1.from_ From.rfl_).rd 0 rfl | exact (hP1.from_ From.rfl_).rd 1 rfl | exact (hP1.from_ From.rfl_).rd 2 rfl) | (first | exact (hk1.from_ From.rfl_).whole | exact (hk1.from_ From.rfl_).rd 0 rfl | exact (hk1.from_ From.rfl_).rd 1 rfl | exact (hk1.from_ From.rfl_).rd 2 rfl))) ?_
                 refine st_val (ro_len WavAccess_l22 rfl) ?_
                 refine st_val (ro_addN (b := 1) rfl rfl (by omega)) ?_
                 refine st_val (ro_leq rfl rfl) ?_
                 refine st_nil ?_
                 refine nx_then ?_
                 refine cd_cond rfl (fun Q54 => ?_) (fun Q54 => ?_)
                 · (try first | replace Q54 := bn_t Q54 | replace Q54 := bn_f Q54)
                   (try first | replace Q54 := bx_t Q54 | replace Q54 := bx_f Q54 | replace Q54 := be_t Q54 | replace Q54 := be_f Q54 | replace Q54 := of_decide_eq_true Q54 | replace Q54 := of_decide_eq_false Q54)
                   first
                    | (exfalso; first | omega | (simp only [hne] at *; done) | (simp_all; done) | contradiction | (cases Q54; done))
                    | skip
                      refine cd_skip ?_
                      refine nx_then ?_
                      refine cd_seq ?_
                      refine cd_block ?_
                      refine cd_seq ?_
                      refine cd_region ?_
                      refine st_val (ro_move (v := .pointer _) rfl) ?_
                      refine st_val (ro_move (v := .int _ _) rfl) ?_
                      refine st_call WavAccess_k11 (accessT _ b K L _ (hv.from_ From.rfl_) i) ?_
                      rintro v46 w55 ⟨rfl, E46⟩
                      refine st_val (ro_move (v := .tuple _) rfl) ?_
                      refine st_val (ro_extract rfl rfl) ?_
                      refine st_val (ro_extract rfl rfl) ?_
                      refine st_val (ro_assign (v := .int _ _) rfl) ?_
                      refine st_val (ro_assign (v := .int _ _) rfl) ?_
                      refine st_nil ?_
                      refine nx_then ?_
                      refine cd_seq ?_
                      refine cd_seq ?_
                      refine cd_region ?_
                      refine st_val (ro_move (v := .int _ _) rfl) ?_
                      refine st_val (ro_lss rfl rfl) ?_
                      refine st_val (ro_move (v := .bool _) rfl) ?_
                      refine st_split (t := 51) rfl (fun Q56 => ?_) (fun Q56 => ?_)
                      · (try first | replace Q56 := bn_t Q56 | replace Q56 := bn_f Q56)
                        (try first | replace Q56 := bx_t Q56 | replace Q56 := bx_f Q56 | replace Q56 := be_t Q56 | replace Q56 := be_f Q56 | replace Q56 := of_decide_eq_true Q56 | replace Q56 := of_decide_eq_false Q56)
                        first
                         | (exfalso; first | omega | (simp only [hne] at *; done) | (simp_all; done) | contradiction | (cases Q56; done))
                         | skip
                           refine st_gno rfl rfl ?_
                           refine st_gno rfl rfl ?_
                           refine st_gno rfl rfl ?_
                           refine st_gno rfl rfl ?_
                           refine st_gno rfl rfl ?_
                           refine st_val (ro_pickT (v := .bool _) rfl rfl) ?_
                           refine st_nil ?_
                           refine nx_then ?_
                           refine cd_condT rfl ?_
                           refine cd_seq ?_
                           refine cd_seq ?_
                           refine cd_region ?_
                           refine st_val (ro_move (v := .int _ _) rfl) ?_
                           refine st_val (ro_move (v := .int _ _) rfl) ?_
                           refine st_call WavAccess_k12 (told_any _ _ 0 3 _ (told_out (by omega))) ?_
                           rintro v60 w57 ⟨rfl, rfl⟩
                           refine st_val (ro_not rfl) ?_
                           refine st_nil ?_
                           refine nx_then ?_
                           refine cd_cond rfl (fun Q58 => ?_) (fun Q58 => ?_)
                           · (try first | replace Q58 := bn_t Q58 | replace Q58 := bn_f Q58)
                             (try first | replace Q58 := bx_t Q58 | replace Q58 := bx_f Q58 | replace Q58 := be_t Q58 | replace Q58 := be_f Q58 | replace Q58 := of_decide_eq_true Q58 | replace Q58 := of_decide_eq_false Q58)
                             first
                              | (exfalso; first | omega | (simp only [hne] at *; done) | (simp_all; done) | contradiction | (cases Q58; done))
                              | skip
                                refine cd_seq ?_
                                refine cd_region ?_
                                refine st_val (ro_assign (v := .bool _) rfl) ?_
                                refine st_nil ?_
                                refine nx_then ?_
                                refine cd_ret ?_
                                refine rt_then ?_
                                refine rt_then ?_
                                refine rt_block ?_
                                refine rt_then ?_
                                refine rt_then ?_
                                refine rt_block ?_
                                refine rt_then ?_
                                refine res1 (v := .bool _) rfl rfl ?_
                                exact ⟨rfl, (hB.next E46)⟩
                           · (try first | replace Q58 := bn_t Q58 | replace Q58 := bn_f Q58)
                             (try first | replace Q58 := bx_t Q58 | replace Q58 := bx_f Q58 | replace Q58 := be_t Q58 | replace Q58 := be_f Q58 | replace Q58 := of_decide_eq_true Q58 | replace Q58 := of_decide_eq_false Q58)
                             first
                              | (exfalso; first | omega | (simp only [hne] at *; done) | (simp_all; done) | contradiction | (cases Q58; done))
                              | skip
                                refine cd_skip ?_
                                refine nx_then ?_
                                refine cd_exit ?_
                                refine ex_then ?_
                                refine ex_block ?_
                                refine nx_then ?_
                                refine cd_region ?_
                                refine st_val (ro_move (v := .int _ _) rfl) ?_
                                refine st_val (ro_add64 rfl rfl (by omega)) ?_
                                refine st_val (ro_assign (v := .int _ _) rfl) ?_
                                refine st_nil ?_
                                refine nx_cut (i + 1) ⟨(by first | rfl | (refine int_eq ?_; omega)), trivial⟩ (by (iterate 71 refine agr_cons rfl ?_); exact agr_rfl) ⟨?_, ?_⟩
                                · exact ⟨by omega, hv.from_ (From.rfl_.next E46), hP1.from_ (From.rfl_.next E46), (hB.next E46)⟩
                                · omega
                      · (try first | replace Q56 := bn_t Q56 | replace Q56 := bn_f Q56)
                        (try first | replace Q56 := bx_t Q56 | replace Q56 := bx_f Q56 | replace Q56 := be_t Q56 | replace Q56 := be_f Q56 | replace Q56 := of_decide_eq_true Q56 | replace Q56 := of_decide_eq_false Q56)
                        first
                         | (exfalso; first | omega | (simp only [hne] at *; done) | (simp_all; done) | contradiction | (cases Q56; done))
                         | skip
                           refine st_unguard rfl ?_
                           refine st_val (ro_move (v := .int _ _) rfl) ?_
                           refine st_unguard rfl ?_
                           refine st_val (ro_fieldAddr WavAccess_f24_1 rfl) ?_
                           refine st_unguard rfl ?_
                           refine st_val (ro_load WavAccess_g22 rfl (by first | (first | exact (hP1.from_ (From.rfl_.next E46)).whole | exact (hP1.from_ (From.rfl_.next E46)).rd 0 rfl | exact (hP1.from_ (From.rfl_.next E46)).rd 1 rfl | exact (hP1.from_ (From.rfl_.next E46)).rd 2 rfl) | (first | exact (hk1.from_ (From.rfl_.next E46)).whole | exact (hk1.from_ (From.rfl_.next E46)).rd 0 rfl | exact (hk1.from_ (From.rfl_.next E46)).rd 1 rfl | exact (hk1.from_ (From.rfl_.next E46)).rd 2 rfl))) ?_
                           refine st_unguard rfl ?_
                           refine st_val (ro_len WavAccess_l22 rfl) ?_
                           refine st_unguard rfl ?_
                           refine st_val (ro_geq rfl rfl) ?_
                           refine st_val (ro_pickF (v := .bool _) rfl rfl) ?_
                           refine st_nil ?_
                           refine nx_then ?_
                           refine cd_cond rfl (fun Q59 => ?_) (fun Q59 => ?_)
                           · (try first | replace Q59 := bn_t Q59 | replace Q59 := bn_f Q59)
                             (try first | replace Q59 := bx_t Q59 | replace Q59 := bx_f Q59 | replace Q59 := be_t Q59 | replace Q59 := be_f Q59 | replace Q59 := of_decide_eq_true Q59 | replace Q59 := of_decide_eq_false Q59)
                             first
                              | (exfalso; first | omega | (simp only [hne] at *; done) | (simp_all; done) | contradiction | (cases Q59; done))
                              | skip
                                refine cd_seq ?_
                                refine cd_seq ?_
                                refine cd_region ?_
                                refine st_val (ro_move (v := .int _ _) rfl) ?_
                                refine st_val (ro_move (v := .int _ _) rfl) ?_
                                refine st_call WavAccess_k12 (told_any _ _ 0 3 _ (told_out (by omega))) ?_
                                rintro v60 w60 ⟨rfl, rfl⟩
                                refine st_val (ro_not rfl) ?_
                                refine st_nil ?_
                                refine nx_then ?_
                                refine cd_cond rfl (fun Q61 => ?_) (fun Q61 => ?_)
                                · (try first | replace Q61 := bn_t Q61 | replace Q61 := bn_f Q61)
                                  (try first | replace Q61 := bx_t Q61 | replace Q61 := bx_f Q61 | replace Q61 := be_t Q61 | replace Q61 := be_f Q61 | replace Q61 := of_decide_eq_true Q61 | replace Q61 := of_decide_eq_false Q61)
                                  first
                                   | (exfalso; first | omega | (simp only [hne] at *; done) | (simp_all; done) | contradiction | (cases Q61; done))
                                   | skip
                                     refine cd_seq ?_
                                     refine cd_region ?_
                                     refine st_val (ro_assign (v := .bool _) rfl) ?_
                                     refine st_nil ?_
                                     refine nx_then ?_
                                     refine cd_ret ?_
                                     refine rt_then ?_
                                     refine rt_then ?_
                                     refine rt_block ?_
                                     refine rt_then ?_
                                     refine rt_then ?_
                                     refine rt_block ?_
                                     refine rt_then ?_
                                     refine res1 (v := .bool _) rfl rfl ?_
                                     exact ⟨rfl, (hB.next E46)⟩
                                · (try first | replace Q61 := bn_t Q61 | replace Q61 := bn_f Q61)
                                  (try first | replace Q61 := bx_t Q61 | replace Q61 := bx_f Q61 | replace Q61 := be_t Q61 | replace Q61 := be_f Q61 | replace Q61 := of_decide_eq_true Q61 | replace Q61 := of_decide_eq_false Q61)
                                  first
                                   | (exfalso; first | omega | (simp only [hne] at *; done) | (simp_all; done) | contradiction | (cases Q61; done))
                                   | skip
                                     refine cd_skip ?_
                                     refine nx_then ?_
                                     refine cd_exit ?_
                                     refine ex_then ?_
                                     refine ex_block ?_
                                     refine nx_then ?_
                                     refine cd_region ?_
                                     refine st_val (ro_move (v := .int _ _) rfl) ?_
                                     refine st_val (ro_add64 rfl rfl (by omega)) ?_
                                     refine st_val (ro_assign (v := .int _ _) rfl) ?_
                                     refine st_nil ?_
                                     refine nx_cut (i + 1) ⟨(by first | rfl | (refine int_eq ?_; omega)), trivial⟩ (by (iterate 71 refine agr_cons rfl ?_); exact agr_rfl) ⟨?_, ?_⟩
                                     · exact ⟨by omega, hv.from_ (From.rfl_.next E46), hP1.from_ (From.rfl_.next E46), (hB.next E46)⟩
                                     · omega
                           · (try first | replace Q59 := bn_t Q59 | replace Q59 := bn_f Q59)
                             (try first | replace Q59 := bx_t Q59 | replace Q59 := bx_f Q59 | replace Q59 := be_t Q59 | replace Q59 := be_f Q59 | replace Q59 := of_decide_eq_true Q59 | replace Q59 := of_decide_eq_false Q59)
                             obtain ⟨q, hq⟩ : ∃ q : Nat, i = (q : Int) := ⟨i.toNat, by omega⟩
                             have hqx : q < xs.length := by omega
                             obtain ⟨ba, oa, hA, hca⟩ := hr (by omega)
                             subst hA
                             first
                              | (exfalso; first | omega | (simp only [hne] at *; done) | (simp_all; done) | contradiction | (cases Q59; done))
                              | skip
                                refine cd_skip ?_
                                refine nx_then ?_
                                refine cd_seq ?_
                                refine cd_region ?_
                                refine st_val (ro_move (v := .int _ _) rfl) ?_
                                refine st_val (ro_move (v := .int _ _) rfl) ?_
                                refine st_val (ro_fieldAddr WavAccess_f24_1 rfl) ?_
                                refine st_val (ro_load WavAccess_g22 rfl (by first | (first | exact (hP1.from_ (From.rfl_.next E46)).whole | exact (hP1.from_ (From.rfl_.next E46)).rd 0 rfl | exact (hP1.from_ (From.rfl_.next E46)).rd 1 rfl | exact (hP1.from_ (From.rfl_.next E46)).rd 2 rfl) | (first | exact (hk1.from_ (From.rfl_.next E46)).whole | exact (hk1.from_ (From.rfl_.next E46)).rd 0 rfl | exact (hk1.from_ (From.rfl_.next E46)).rd 1 rfl | exact (hk1.from_ (From.rfl_.next E46)).rd 2 rfl))) ?_
                                refine st_val (ro_move (v := .int _ _) rfl) ?_
                                refine st_spell (t := 66) (v := .int _ _) (v' := .int .i64 (q : Nat)) rfl (by rw [hq]) ?_
                                refine st_val (ro_indexAddr1 WavAccess_e22 rfl rfl (by omega)) ?_
                                refine st_val (ro_load WavAccess_g3 rfl (by exact cellF (hB.next E46) (hca q hqx))) ?_
                                refine st_call WavAccess_k12 (told_any _ _ _ 0 _ (by rw [hq]; exact told_in hx hqx)) ?_
                                rintro v69 w62 ⟨rfl, rfl⟩
                                refine st_val (ro_not rfl) ?_
                                refine st_nil ?_
                                refine nx_then ?_
                                refine cd_cond rfl (fun Q63 => ?_) (fun Q63 => ?_)
                                · (try first | replace Q63 := bn_t Q63 | replace Q63 := bn_f Q63)
                                  (try first | replace Q63 := bx_t Q63 | replace Q63 := bx_f Q63 | replace Q63 := be_t Q63 | replace Q63 := be_f Q63 | replace Q63 := of_decide_eq_true Q63 | replace Q63 := of_decide_eq_false Q63)
                                  first
                                   | (exfalso; first | omega | (simp only [hne] at *; done) | (simp_all; done) | contradiction | (cases Q63; done))
                                   | skip
                                     refine cd_seq ?_
                                     refine cd_region ?_
                                     refine st_val (ro_assign (v := .bool _) rfl) ?_
                                     refine st_nil ?_
                                     refine nx_then ?_
                                     refine cd_ret ?_
                                     refine rt_block ?_
                                     refine rt_then ?_
                                     refine rt_then ?_
                                     refine rt_block ?_
                                     refine rt_then ?_
                                     refine res1 (v := .bool _) rfl rfl ?_
                                     exact ⟨rfl, (hB.next E46)⟩
                                · (try first | replace Q63 := bn_t Q63 | replace Q63 := bn_f Q63)
                                  (try first | replace Q63 := bx_t Q63 | replace Q63 := bx_f Q63 | replace Q63 := be_t Q63 | replace Q63 := be_f Q63 | replace Q63 := of_decide_eq_true Q63 | replace Q63 := of_decide_eq_false Q63)
                                  first
                                   | (exfalso; first | omega | (simp only [hne] at *; done) | (simp_all; done) | contradiction | (cases Q63; done))
                                   | skip
                                     refine cd_skip ?_
                                     refine nx_block ?_
                                     refine nx_then ?_
                                     refine cd_region ?_
                                     refine st_val (ro_move (v := .int _ _) rfl) ?_
                                     refine st_val (ro_add64 rfl rfl (by omega)) ?_
                                     refine st_val (ro_assign (v := .int _ _) rfl) ?_
                                     refine st_nil ?_
                                     refine nx_cut (i + 1) ⟨(by first | rfl | (refine int_eq ?_; omega)), trivial⟩ (by (iterate 77 refine agr_cons rfl ?_); exact agr_rfl) ⟨?_, ?_⟩
                                     · exact ⟨by omega, hv.from_ (From.rfl_.next E46), hP1.from_ (From.rfl_.next E46), (hB.next E46)⟩
                                     · omega
                 · (try first | replace Q54 := bn_t Q54 | replace Q54 := bn_f Q54)
                   (try first | replace Q54 := bx_t Q54 | replace Q54 := bx_f Q54 | replace Q54 := be_t Q54 | replace Q54 := be_f Q54 | replace Q54 := of_decide_eq_true Q54 | replace Q54 := of_decide_eq_false Q54)
                   first
                    | (exfalso; first | omega | (simp only [hne] at *; done) | (simp_all; done) | contradiction | (cases Q54; done))
                    | skip
                      refine cd_exit ?_
                      refine ex_then ?_
                      refine ex_then ?_
                      refine ex_block ?_
                      refine nx_then ?_
                      refine cd_seq ?_
                      refine cd_region ?_
                      refine st_call WavAccess_k8 (wakes_any _) ?_
                      rintro v71 w64 ⟨rfl, E71⟩
                      refine st_val (ro_assign (v := .bool _) rfl) ?_
                      refine st_nil ?_
                      refine nx_then ?_
                      refine cd_ret ?_
                      refine res1 (v := .bool _) rfl rfl ?_
                      exact ⟨rfl, (hB.next E71)⟩
theorem access_arg (cs : Array Value) (x : (Ty.pr (.int .i64) (.pr (.sl (.int .i64)) (.pr (.sl (.int .i64)) .unit))).den) (w : World) (hs : cs.size = 3) (h : (Ty.pr (.int .i64) (.pr (.sl (.int .i64)) (.pr (.sl (.int .i64)) .unit))).At w (fun j => cs[j]?) x) :
    Rt Try.prog 3 [.agg cs] w fun v w' => v = .bool true ∧ From w w' := by
  obtain ⟨k, A, ca, xs, B, cb, is, rfl, h1, h2, h3, h4, h5⟩ := ask_of hs h
  exact access_law k A B ca cb xs is w h1 h2 h3 h4
set_option maxRecDepth 100000 in
theorem WaveletAccess_lifted (os : Os) (started : os.Started) (H : Type) (enc : TypeId × Value → H) :
    ReturnsInHanded {} Try.checked os 3 .any (Rows.waveletAccessSpec.pre6 enc Try.prog Try.f3 Rows.waveletAccessRow.domain false) (Rows.waveletAccessSpec.post enc Try.prog Try.f3 false true false false) := by
  refine returnsInHanded_of_change_sized (C := Try.checked) Try.own started (by kernel_rfl) Try.func3
    (ChangeSpec.witness6 (enc := enc) (C := Try.checked) false ⟨#[], #[.agg #[.int .i64 0, .slice none 0 0, .slice none 0 0]], []⟩ 8 (by kernel_rfl) (by kernel_rfl) (by kernel_rfl) (by kernel_rfl)) ?_
  intro W base args ds gs before hval hW _ hsz _
  exact law_step 3 Try.f3 24 4 Rows.waveletAccessSpec Try.params3 (by kernel_rfl) Try.underlying4 rfl (fun _ => rfl) (by kernel_rfl) (of_decide_eq_true (by kernel_rfl)) (walk_struct (.int .i64) (.pr (.sl (.int .i64)) (.pr (.sl (.int .i64)) .unit)) (by kernel_rfl) access_arg) W base args ds gs before hval hW hsz

theorem WaveletAccess_holds : Rows.WaveletAccessSaid :=
  OpenClaim.holds_of_wide 3 Try.f3 rfl rfl rfl rfl rfl rfl rfl ⟨rfl, rfl, rfl, rfl, rfl⟩ rfl rfl rfl rfl rfl (by kernel_rfl) Try.func3 (by kernel_rfl)
    (of_decide_eq_true (by kernel_rfl)) (by unfold Func.isWrapper; first | (rw [if_pos (by decide +kernel)]; kernel_rfl) | (rw [if_neg (by decide +kernel)]; exact ⟨rfl, rfl⟩))
    (fun os started H enc _ => WaveletAccess_lifted os started H enc)
#print axioms WaveletAccess_holds

end Go.Proofs.Ytmiclfhpenjjfaa
