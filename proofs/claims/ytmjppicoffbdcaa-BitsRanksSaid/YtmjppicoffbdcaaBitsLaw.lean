/- The laws BitsGets and BitsRanks. -/
import Derived.Test.YtmjppicoffbdcaaBitsHelp
namespace Go.Proofs.Ytmjppicoffbdcaa
open Go.RowKit
open Go.ChangeShapes Go.WideShapes Go.ChangeAt
theorem BitsLaw_g25 : aggQ Try.prog 25 = some true := by kernel_rfl
theorem BitsLaw_z25 : sizeQ Try.prog 25 = some 2 := by kernel_rfl
theorem BitsLaw_k5 : callable Try.prog 5 = true := by kernel_rfl
theorem BitsLaw_k6 : callable Try.prog 6 = true := by kernel_rfl
theorem BitsLaw_p27 : Try.prog.underlying 27 = some (.pointer (Try.prog.pointee 27)) := by kernel_rfl
theorem BitsLaw_f25_0 : fieldQ Try.prog 25 0 = some 0 := by kernel_rfl
theorem BitsLaw_g22 : aggQ Try.prog 22 = some false := by kernel_rfl
theorem BitsLaw_l22 : (elemQ Try.prog 22).isSome = true := by kernel_rfl
theorem BitsLaw_k7 : callable Try.prog 7 = true := by kernel_rfl
theorem BitsLaw_k8 : callable Try.prog 8 = true := by kernel_rfl
theorem BitsLaw_e22 : elemQ Try.prog 22 = some (4, 1) := by kernel_rfl
theorem BitsLaw_g4 : aggQ Try.prog 4 = some false := by kernel_rfl
theorem BitsLaw_f25_1 : fieldQ Try.prog 25 1 = some 1 := by kernel_rfl
theorem BitsLaw_g23 : aggQ Try.prog 23 = some false := by kernel_rfl
theorem BitsLaw_l23 : (elemQ Try.prog 23).isSome = true := by kernel_rfl
theorem BitsLaw_e23 : elemQ Try.prog 23 = some (3, 1) := by kernel_rfl
theorem BitsLaw_g3 : aggQ Try.prog 3 = some false := by kernel_rfl
theorem BitsLaw_k9 : callable Try.prog 9 = true := by kernel_rfl
theorem BitsLaw_k10 : callable Try.prog 10 = true := by kernel_rfl
theorem BitsLaw_k11 : callable Try.prog 11 = true := by kernel_rfl
theorem BitsLaw_k12 : callable Try.prog 12 = true := by kernel_rfl
theorem refRank_rt2 (A : Option Addr) (c : Nat) (i : Int) (l : List Bool) (w : World) (hr : RowOf boV w A l) (hl : l.length ≤ 1048576) (hi : 0 ≤ i ∧ i ≤ l.length) :
    Rt Try.prog 11 [.slice A l.length c, .bool true, .int .i64 i] w fun v w' => v = .int .i64 (rB l i) ∧ w = w' := by
  obtain ⟨q, rfl⟩ : ∃ q : Nat, i = (q : Int) := ⟨i.toNat, by omega⟩
  refine Rt.mono (refRank_rt A c q l w hr hl (by omega)) fun v w' h => ⟨?_, h.2⟩
  rw [h.1]
  unfold rB
  rw [if_pos hi, Int.toNat_natCast]
set_option maxRecDepth 100000 in
set_option maxHeartbeats 2000000 in
theorem gets_law (A B : Option Addr) (ca cb : Nat) (l : List Bool) (is : List Int) (w : World) (hr : RowOf boV w A l) (hrB : RowOf iV w B is) (hB64 : ∀ x ∈ is, -9223372036854775808 ≤ x ∧ x ≤ 9223372036854775807) :
    Rt Try.prog 3 [.agg #[.slice A l.length ca, .slice B is.length cb]] w (fun v w' => v = .bool true ∧ From w w') := by
  refine enter (n := 97) Try.func3 rfl rfl rfl ?_
  refine cd_seq ?_
  refine cd_region ?_
  refine st_box (v := .agg _) rfl ?_
  intro b1 w1 E1 hb1 hk1
  refine st_val (ro_assign (v := .bool _) rfl) ?_
  refine st_nil ?_
  refine nx_then ?_
  refine cd_seq ?_
  refine cd_seq ?_
  refine cd_region ?_
  refine st_val (ro_loadA (cs := [_, _]) BitsLaw_g25 BitsLaw_z25 rfl (by first | (first | exact (hP1.from_ From.rfl_).whole | exact (hP1.from_ From.rfl_).rd 0 rfl | exact (hP1.from_ From.rfl_).rd 1 rfl) | (first | exact (hk1.from_ From.rfl_).whole | exact (hk1.from_ From.rfl_).rd 0 rfl | exact (hk1.from_ From.rfl_).rd 1 rfl) | (exact cellF (From.rfl_.next E1) (hca q (by omega))) | (exact cellF (From.rfl_.next E1) (hcb k (by omega))))) ?_
  refine st_call BitsLaw_k5 (heavy_any A B _ ca _ cb _) ?_
  rintro v11 w2 ⟨rfl, E11⟩
  refine st_nil ?_
  refine nx_then ?_
  refine cd_cond rfl (fun Q3 => ?_) (fun Q3 => ?_)
  · (try first | replace Q3 := bn_t Q3 | replace Q3 := bn_f Q3)
    (try first | replace Q3 := bx_t Q3 | replace Q3 := bx_f Q3 | replace Q3 := be_t Q3 | replace Q3 := be_f Q3 | replace Q3 := of_decide_eq_true Q3 | replace Q3 := of_decide_eq_false Q3)
    first
     | (exfalso; first | omega | (simp only [hB2, Bool.false_eq_true] at *; done) | contradiction | (cases Q3; done))
     | skip
       refine cd_seq ?_
       refine cd_region ?_
       refine st_val (ro_assign (v := .bool _) rfl) ?_
       refine st_nil ?_
       refine nx_then ?_
       refine cd_ret ?_
       refine rt_then ?_
       refine res1 (v := .bool _) rfl rfl ?_
       exact ⟨rfl, ((From.rfl_.next E1).next E11)⟩
  · (try first | replace Q3 := bn_t Q3 | replace Q3 := bn_f Q3)
    (try first | replace Q3 := bx_t Q3 | replace Q3 := bx_f Q3 | replace Q3 := be_t Q3 | replace Q3 := be_f Q3 | replace Q3 := of_decide_eq_true Q3 | replace Q3 := of_decide_eq_false Q3)
    first
     | (exfalso; first | omega | (simp only [hB2, Bool.false_eq_true] at *; done) | contradiction | (cases Q3; done))
     | skip
       refine cd_skip ?_
       refine nx_then ?_
       refine cd_seq ?_
       refine cd_region ?_
       refine st_val (ro_loadA (cs := [_, _]) BitsLaw_g25 BitsLaw_z25 rfl (by first | (first | exact (hP1.from_ (From.rfl_.next E11)).whole | exact (hP1.from_ (From.rfl_.next E11)).rd 0 rfl | exact (hP1.from_ (From.rfl_.next E11)).rd 1 rfl) | (first | exact (hk1.from_ (From.rfl_.next E11)).whole | exact (hk1.from_ (From.rfl_.next E11)).rd 0 rfl | exact (hk1.from_ (From.rfl_.next E11)).rd 1 rfl) | (exact cellF ((From.rfl_.next E1).next E11) (hca q (by omega))) | (exact cellF ((From.rfl_.next E1).next E11) (hcb k (by omega))))) ?_
       have hz13 := (((From.rfl_.next E1).next E11)).size
       refine st_call BitsLaw_k6 (made_rt A B ca _ cb l _ (hr.from_ ((From.rfl_.next E1).next E11)) (by omega)) ?_
       rintro v13 w4 ⟨b, rfl, hv, E13⟩
       replace hv := hv.le hz13
       refine st_val (ro_assign (v := .pointer _) rfl) ?_
       refine st_nil ?_
       refine nx_then ?_
       refine cd_seq ?_
       refine cd_seq ?_
       refine cd_region ?_
       refine st_val (ro_move (v := .pointer _) rfl) ?_
       refine st_val (ro_eqlNil BitsLaw_p27 rfl rfl) ?_
       refine st_nil ?_
       refine nx_then ?_
       refine cd_cond rfl (fun Q5 => ?_) (fun Q5 => ?_)
       · (try first | replace Q5 := bn_t Q5 | replace Q5 := bn_f Q5)
         (try first | replace Q5 := bx_t Q5 | replace Q5 := bx_f Q5 | replace Q5 := be_t Q5 | replace Q5 := be_f Q5 | replace Q5 := of_decide_eq_true Q5 | replace Q5 := of_decide_eq_false Q5)
         first
          | (exfalso; first | omega | (simp only [hB2, Bool.false_eq_true] at *; done) | contradiction | (cases Q5; done))
          | skip
            refine cd_seq ?_
            refine cd_region ?_
            refine st_val (ro_assign (v := .bool _) rfl) ?_
            refine st_nil ?_
            refine nx_then ?_
            refine cd_ret ?_
            refine rt_then ?_
            refine res1 (v := .bool _) rfl rfl ?_
            exact ⟨rfl, (((From.rfl_.next E1).next E11).next E13)⟩
       · (try first | replace Q5 := bn_t Q5 | replace Q5 := bn_f Q5)
         (try first | replace Q5 := bx_t Q5 | replace Q5 := bx_f Q5 | replace Q5 := be_t Q5 | replace Q5 := be_f Q5 | replace Q5 := of_decide_eq_true Q5 | replace Q5 := of_decide_eq_false Q5)
         first
          | (exfalso; first | omega | (simp only [hB2, Bool.false_eq_true] at *; done) | contradiction | (cases Q5; done))
          | skip
            refine cd_skip ?_
            refine nx_then ?_
            refine cd_seq ?_
            refine cd_seq ?_
            refine cd_region ?_
            refine st_val (ro_assign (v := .int _ _) rfl) ?_
            refine st_nil ?_
            refine nx_then ?_
            refine cd_block ?_
            refine cd_loop (G := Int) [2, 5, 6, 16, 17, 18, 19, 20, 21, 22, 23, 24, 25, 26, 27, 28, 29, 30, 31, 32, 33, 34, 35, 36, 37, 38, 39, 40, 41, 42, 43, 44, 45, 46, 47, 48, 49, 50, 51, 52, 53, 54, 55] (fun i => [(4, .int .i64 i)]) (fun i w' => (-1 ≤ i ∧ i ≤ l.length + 1) ∧ Vec w' w.heap.size b l ∧ Blk w' b1 25 #[.slice A l.length ca, .slice B is.length cb] ∧ From w w') (fun i => (l.length + 1 - i).toNat) (-1) ⟨rfl, trivial⟩ ?_ ?_
            · exact ⟨by omega, hv.from_ From.rfl_, (hk1.from_ ((From.rfl_.next E11).next E13)), (((From.rfl_.next E1).next E11).next E13)⟩
            rintro i ρ6 w6 ⟨hi, hv, hP1, hB⟩
            refine cd_seq ?_
            refine cd_seq ?_
            refine cd_region ?_
            refine st_val (ro_move (v := .int _ _) rfl) ?_
            refine st_val (ro_fieldAddr BitsLaw_f25_0 rfl) ?_
            refine st_val (ro_load BitsLaw_g22 rfl (by first | (first | exact (hP1.from_ From.rfl_).whole | exact (hP1.from_ From.rfl_).rd 0 rfl | exact (hP1.from_ From.rfl_).rd 1 rfl) | (first | exact (hk1.from_ From.rfl_).whole | exact (hk1.from_ From.rfl_).rd 0 rfl | exact (hk1.from_ From.rfl_).rd 1 rfl) | (exact cellF hB (hca q (by omega))) | (exact cellF hB (hcb k (by omega))))) ?_
            refine st_val (ro_len BitsLaw_l22 rfl) ?_
            refine st_val (ro_leq rfl rfl) ?_
            refine st_nil ?_
            refine nx_then ?_
            refine cd_cond rfl (fun Q7 => ?_) (fun Q7 => ?_)
            · (try first | replace Q7 := bn_t Q7 | replace Q7 := bn_f Q7)
              (try first | replace Q7 := bx_t Q7 | replace Q7 := bx_f Q7 | replace Q7 := be_t Q7 | replace Q7 := be_f Q7 | replace Q7 := of_decide_eq_true Q7 | replace Q7 := of_decide_eq_false Q7)
              first
               | (exfalso; first | omega | (simp only [hB2, Bool.false_eq_true] at *; done) | contradiction | (cases Q7; done))
               | skip
                 refine cd_skip ?_
                 refine nx_then ?_
                 refine cd_seq ?_
                 refine cd_block ?_
                 refine cd_seq ?_
                 refine cd_region ?_
                 refine st_val (ro_move (v := .pointer _) rfl) ?_
                 refine st_val (ro_move (v := .int _ _) rfl) ?_
                 refine st_call BitsLaw_k7 (get_rt _ b i l _ (hv.from_ From.rfl_)) ?_
                 rintro v26 w8 ⟨rfl, rfl⟩
                 refine st_val (ro_move (v := .tuple _) rfl) ?_
                 refine st_val (ro_extract rfl rfl) ?_
                 refine st_val (ro_extract rfl rfl) ?_
                 refine st_val (ro_assign (v := .bool _) rfl) ?_
                 refine st_val (ro_assign (v := .int _ _) rfl) ?_
                 refine st_nil ?_
                 refine nx_then ?_
                 refine cd_seq ?_
                 refine cd_seq ?_
                 refine cd_region ?_
                 refine st_val (ro_move (v := .int _ _) rfl) ?_
                 refine st_val (ro_lss rfl rfl) ?_
                 refine st_val (ro_move (v := .bool _) rfl) ?_
                 refine st_split (t := 31) rfl (fun Q9 => ?_) (fun Q9 => ?_)
                 · (try first | replace Q9 := bn_t Q9 | replace Q9 := bn_f Q9)
                   (try first | replace Q9 := bx_t Q9 | replace Q9 := bx_f Q9 | replace Q9 := be_t Q9 | replace Q9 := be_f Q9 | replace Q9 := of_decide_eq_true Q9 | replace Q9 := of_decide_eq_false Q9)
                   have hE3 : gE l i = 3 := by unfold gE; rw [if_neg (by omega)]
                   have hB2 : gB l i = false := by unfold gB; rw [if_neg (by omega)]
                   first
                    | (exfalso; first | omega | (simp only [hB2, Bool.false_eq_true] at *; done) | contradiction | (cases Q9; done))
                    | skip
                      refine st_gno rfl rfl ?_
                      refine st_gno rfl rfl ?_
                      refine st_gno rfl rfl ?_
                      refine st_gno rfl rfl ?_
                      refine st_gno rfl rfl ?_
                      refine st_val (ro_pickT (v := .bool _) rfl rfl) ?_
                      refine st_nil ?_
                      refine nx_then ?_
                      refine cd_condT rfl ?_
                      refine cd_seq ?_
                      refine cd_seq ?_
                      refine cd_region ?_
                      refine st_val (ro_move (v := .int _ _) rfl) ?_
                      refine st_call BitsLaw_k8 (num_any _ _) ?_
                      rintro v39 w10 ⟨rfl, rfl⟩
                      refine st_val (ro_neq rfl rfl) ?_
                      refine st_val (ro_move (v := .bool _) rfl) ?_
                      refine st_split (t := 41) rfl (fun Q11 => ?_) (fun Q11 => ?_)
                      · (try first | replace Q11 := bn_t Q11 | replace Q11 := bn_f Q11)
                        (try first | replace Q11 := bx_t Q11 | replace Q11 := bx_f Q11 | replace Q11 := be_t Q11 | replace Q11 := be_f Q11 | replace Q11 := of_decide_eq_true Q11 | replace Q11 := of_decide_eq_false Q11)
                        first
                         | (exfalso; first | omega | (simp only [hB2, Bool.false_eq_true] at *; done) | contradiction | (cases Q11; done))
                         | skip
                           refine st_gno rfl rfl ?_
                           refine st_val (ro_pickT (v := .bool _) rfl rfl) ?_
                           refine st_nil ?_
                           refine nx_then ?_
                           refine cd_condT rfl ?_
                           refine cd_seq ?_
                           refine cd_region ?_
                           refine st_val (ro_assign (v := .bool _) rfl) ?_
                           refine st_nil ?_
                           refine nx_then ?_
                           refine cd_ret ?_
                           refine rt_then ?_
                           refine rt_then ?_
                           refine rt_block ?_
                           refine rt_then ?_
                           refine rt_then ?_
                           refine rt_block ?_
                           refine rt_then ?_
                           refine res1 (v := .bool _) rfl rfl ?_
                           exact ⟨rfl, hB⟩
                      · (try first | replace Q11 := bn_t Q11 | replace Q11 := bn_f Q11)
                        (try first | replace Q11 := bx_t Q11 | replace Q11 := bx_f Q11 | replace Q11 := be_t Q11 | replace Q11 := be_f Q11 | replace Q11 := of_decide_eq_true Q11 | replace Q11 := of_decide_eq_false Q11)
                        first
                         | (exfalso; first | omega | (simp only [hB2, Bool.false_eq_true] at *; done) | contradiction | (cases Q11; done))
                         | skip
                           refine st_unguard rfl ?_
                           refine st_val (ro_move (v := .bool _) rfl) ?_
                           refine st_val (ro_pickF (v := .bool _) rfl rfl) ?_
                           refine st_nil ?_
                           refine nx_then ?_
                           refine cd_cond rfl (fun Q12 => ?_) (fun Q12 => ?_)
                           · (try first | replace Q12 := bn_t Q12 | replace Q12 := bn_f Q12)
                             (try first | replace Q12 := bx_t Q12 | replace Q12 := bx_f Q12 | replace Q12 := be_t Q12 | replace Q12 := be_f Q12 | replace Q12 := of_decide_eq_true Q12 | replace Q12 := of_decide_eq_false Q12)
                             first
                              | (exfalso; first | omega | (simp only [hB2, Bool.false_eq_true] at *; done) | contradiction | (cases Q12; done))
                              | skip
                                refine cd_seq ?_
                                refine cd_region ?_
                                refine st_val (ro_assign (v := .bool _) rfl) ?_
                                refine st_nil ?_
                                refine nx_then ?_
                                refine cd_ret ?_
                                refine rt_then ?_
                                refine rt_then ?_
                                refine rt_block ?_
                                refine rt_then ?_
                                refine rt_then ?_
                                refine rt_block ?_
                                refine rt_then ?_
                                refine res1 (v := .bool _) rfl rfl ?_
                                exact ⟨rfl, hB⟩
                           · (try first | replace Q12 := bn_t Q12 | replace Q12 := bn_f Q12)
                             (try first | replace Q12 := bx_t Q12 | replace Q12 := bx_f Q12 | replace Q12 := be_t Q12 | replace Q12 := be_f Q12 | replace Q12 := of_decide_eq_true Q12 | replace Q12 := of_decide_eq_false Q12)
                             first
                              | (exfalso; first | omega | (simp only [hB2, Bool.false_eq_true] at *; done) | contradiction | (cases Q12; done))
                              | skip
                                refine cd_skip ?_
                                refine nx_then ?_
                                refine cd_exit ?_
                                refine ex_then ?_
                                refine ex_block ?_
                                refine nx_then ?_
                                refine cd_region ?_
                                refine st_val (ro_move (v := .int _ _) rfl) ?_
                                refine st_val (ro_add64 rfl rfl (by omega)) ?_
                                refine st_val (ro_assign (v := .int _ _) rfl) ?_
                                refine st_nil ?_
                                refine nx_cut (i + 1) ⟨(by first | rfl | (refine int_eq ?_; omega)), trivial⟩ (by (iterate 77 refine agr_cons rfl ?_); exact agr_rfl) ⟨?_, ?_⟩
                                · exact ⟨by omega, hv.from_ From.rfl_, hP1.from_ From.rfl_, hB⟩
                                · omega
                 · (try first | replace Q9 := bn_t Q9 | replace Q9 := bn_f Q9)
                   (try first | replace Q9 := bx_t Q9 | replace Q9 := bx_f Q9 | replace Q9 := be_t Q9 | replace Q9 := be_f Q9 | replace Q9 := of_decide_eq_true Q9 | replace Q9 := of_decide_eq_false Q9)
                   first
                    | (exfalso; first | omega | (simp only [hB2, Bool.false_eq_true] at *; done) | contradiction | (cases Q9; done))
                    | skip
                      refine st_unguard rfl ?_
                      refine st_val (ro_move (v := .int _ _) rfl) ?_
                      refine st_unguard rfl ?_
                      refine st_val (ro_fieldAddr BitsLaw_f25_0 rfl) ?_
                      refine st_unguard rfl ?_
                      refine st_val (ro_load BitsLaw_g22 rfl (by first | (first | exact (hP1.from_ From.rfl_).whole | exact (hP1.from_ From.rfl_).rd 0 rfl | exact (hP1.from_ From.rfl_).rd 1 rfl) | (first | exact (hk1.from_ From.rfl_).whole | exact (hk1.from_ From.rfl_).rd 0 rfl | exact (hk1.from_ From.rfl_).rd 1 rfl) | (exact cellF hB (hca q (by omega))) | (exact cellF hB (hcb k (by omega))))) ?_
                      refine st_unguard rfl ?_
                      refine st_val (ro_len BitsLaw_l22 rfl) ?_
                      refine st_unguard rfl ?_
                      refine st_val (ro_eql rfl rfl) ?_
                      refine st_val (ro_pickF (v := .bool _) rfl rfl) ?_
                      refine st_nil ?_
                      refine nx_then ?_
                      refine cd_cond rfl (fun Q13 => ?_) (fun Q13 => ?_)
                      · (try first | replace Q13 := bn_t Q13 | replace Q13 := bn_f Q13)
                        (try first | replace Q13 := bx_t Q13 | replace Q13 := bx_f Q13 | replace Q13 := be_t Q13 | replace Q13 := be_f Q13 | replace Q13 := of_decide_eq_true Q13 | replace Q13 := of_decide_eq_false Q13)
                        have hE3 : gE l i = 3 := by unfold gE; rw [if_neg (by omega)]
                        have hB2 : gB l i = false := by unfold gB; rw [if_neg (by omega)]
                        first
                         | (exfalso; first | omega | (simp only [hB2, Bool.false_eq_true] at *; done) | contradiction | (cases Q13; done))
                         | skip
                           refine cd_seq ?_
                           refine cd_seq ?_
                           refine cd_region ?_
                           refine st_val (ro_move (v := .int _ _) rfl) ?_
                           refine st_call BitsLaw_k8 (num_any _ _) ?_
                           rintro v39 w14 ⟨rfl, rfl⟩
                           refine st_val (ro_neq rfl rfl) ?_
                           refine st_val (ro_move (v := .bool _) rfl) ?_
                           refine st_split (t := 41) rfl (fun Q15 => ?_) (fun Q15 => ?_)
                           · (try first | replace Q15 := bn_t Q15 | replace Q15 := bn_f Q15)
                             (try first | replace Q15 := bx_t Q15 | replace Q15 := bx_f Q15 | replace Q15 := be_t Q15 | replace Q15 := be_f Q15 | replace Q15 := of_decide_eq_true Q15 | replace Q15 := of_decide_eq_false Q15)
                             first
                              | (exfalso; first | omega | (simp only [hB2, Bool.false_eq_true] at *; done) | contradiction | (cases Q15; done))
                              | skip
                                refine st_gno rfl rfl ?_
                                refine st_val (ro_pickT (v := .bool _) rfl rfl) ?_
                                refine st_nil ?_
                                refine nx_then ?_
                                refine cd_condT rfl ?_
                                refine cd_seq ?_
                                refine cd_region ?_
                                refine st_val (ro_assign (v := .bool _) rfl) ?_
                                refine st_nil ?_
                                refine nx_then ?_
                                refine cd_ret ?_
                                refine rt_then ?_
                                refine rt_then ?_
                                refine rt_block ?_
                                refine rt_then ?_
                                refine rt_then ?_
                                refine rt_block ?_
                                refine rt_then ?_
                                refine res1 (v := .bool _) rfl rfl ?_
                                exact ⟨rfl, hB⟩
                           · (try first | replace Q15 := bn_t Q15 | replace Q15 := bn_f Q15)
                             (try first | replace Q15 := bx_t Q15 | replace Q15 := bx_f Q15 | replace Q15 := be_t Q15 | replace Q15 := be_f Q15 | replace Q15 := of_decide_eq_true Q15 | replace Q15 := of_decide_eq_false Q15)
                             first
                              | (exfalso; first | omega | (simp only [hB2, Bool.false_eq_true] at *; done) | contradiction | (cases Q15; done))
                              | skip
                                refine st_unguard rfl ?_
                                refine st_val (ro_move (v := .bool _) rfl) ?_
                                refine st_val (ro_pickF (v := .bool _) rfl rfl) ?_
                                refine st_nil ?_
                                refine nx_then ?_
                                refine cd_cond rfl (fun Q16 => ?_) (fun Q16 => ?_)
                                · (try first | replace Q16 := bn_t Q16 | replace Q16 := bn_f Q16)
                                  (try first | replace Q16 := bx_t Q16 | replace Q16 := bx_f Q16 | replace Q16 := be_t Q16 | replace Q16 := be_f Q16 | replace Q16 := of_decide_eq_true Q16 | replace Q16 := of_decide_eq_false Q16)
                                  first
                                   | (exfalso; first | omega | (simp only [hB2, Bool.false_eq_true] at *; done) | contradiction | (cases Q16; done))
                                   | skip
                                     refine cd_seq ?_
                                     refine cd_region ?_
                                     refine st_val (ro_assign (v := .bool _) rfl) ?_
                                     refine st_nil ?_
                                     refine nx_then ?_
                                     refine cd_ret ?_
                                     refine rt_then ?_
                                     refine rt_then ?_
                                     refine rt_block ?_
                                     refine rt_then ?_
                                     refine rt_then ?_
                                     refine rt_block ?_
                                     refine rt_then ?_
                                     refine res1 (v := .bool _) rfl rfl ?_
                                     exact ⟨rfl, hB⟩
                                · (try first | replace Q16 := bn_t Q16 | replace Q16 := bn_f Q16)
                                  (try first | replace Q16 := bx_t Q16 | replace Q16 := bx_f Q16 | replace Q16 := be_t Q16 | replace Q16 := be_f Q16 | replace Q16 := of_decide_eq_true Q16 | replace Q16 := of_decide_eq_false Q16)
                                  first
                                   | (exfalso; first | omega | (simp only [hB2, Bool.false_eq_true] at *; done) | contradiction | (cases Q16; done))
                                   | skip
                                     refine cd_skip ?_
                                     refine nx_then ?_
                                     refine cd_exit ?_
                                     refine ex_then ?_
                                     refine ex_block ?_
                                     refine nx_then ?_
                                     refine cd_region ?_
                                     refine st_val (ro_move (v := .int _ _) rfl) ?_
                                     refine st_val (ro_add64 rfl rfl (by omega)) ?_
                                     refine st_val (ro_assign (v := .int _ _) rfl) ?_
                                     refine st_nil ?_
                                     refine nx_cut (i + 1) ⟨(by first | rfl | (refine int_eq ?_; omega)), trivial⟩ (by (iterate 77 refine agr_cons rfl ?_); exact agr_rfl) ⟨?_, ?_⟩
                                     · exact ⟨by omega, hv.from_ From.rfl_, hP1.from_ From.rfl_, hB⟩
                                     · omega
                      · (try first | replace Q13 := bn_t Q13 | replace Q13 := bn_f Q13)
                        (try first | replace Q13 := bx_t Q13 | replace Q13 := bx_f Q13 | replace Q13 := be_t Q13 | replace Q13 := be_f Q13 | replace Q13 := of_decide_eq_true Q13 | replace Q13 := of_decide_eq_false Q13)
                        obtain ⟨q, hq⟩ : ∃ q : Nat, i = (q : Int) := ⟨i.toNat, by omega⟩
                        have hE0 : gE l i = 0 := by unfold gE; rw [if_pos (by omega)]
                        have hG : gB l i = l[q] := by unfold gB; rw [if_pos (by omega), show i.toNat = q by omega, bt_at (by omega)]
                        obtain ⟨ba, oa, rfl, hca⟩ := hr (by omega)
                        first
                         | (exfalso; first | omega | (simp only [hB2, Bool.false_eq_true] at *; done) | contradiction | (cases Q13; done))
                         | skip
                           refine cd_skip ?_
                           refine nx_then ?_
                           refine cd_seq ?_
                           refine cd_region ?_
                           refine st_val (ro_move (v := .int _ _) rfl) ?_
                           refine st_call BitsLaw_k8 (num_any _ _) ?_
                           rintro v45 w17 ⟨rfl, rfl⟩
                           refine st_val (ro_neq rfl rfl) ?_
                           refine st_val (ro_move (v := .bool _) rfl) ?_
                           refine st_split (t := 47) rfl (fun Q18 => ?_) (fun Q18 => ?_)
                           · (try first | replace Q18 := bn_t Q18 | replace Q18 := bn_f Q18)
                             (try first | replace Q18 := bx_t Q18 | replace Q18 := bx_f Q18 | replace Q18 := be_t Q18 | replace Q18 := be_f Q18 | replace Q18 := of_decide_eq_true Q18 | replace Q18 := of_decide_eq_false Q18)
                             first
                              | (exfalso; first | omega | (simp only [hB2, Bool.false_eq_true] at *; done) | contradiction | (cases Q18; done))
                              | skip
                                refine st_gno rfl rfl ?_
                                refine st_gno rfl rfl ?_
                                refine st_gno rfl rfl ?_
                                refine st_gno rfl rfl ?_
                                refine st_gno rfl rfl ?_
                                refine st_gno rfl rfl ?_
                                refine st_gno rfl rfl ?_
                                refine st_val (ro_pickT (v := .bool _) rfl rfl) ?_
                                refine st_nil ?_
                                refine nx_then ?_
                                refine cd_condT rfl ?_
                                refine cd_seq ?_
                                refine cd_region ?_
                                refine st_val (ro_assign (v := .bool _) rfl) ?_
                                refine st_nil ?_
                                refine nx_then ?_
                                refine cd_ret ?_
                                refine rt_block ?_
                                refine rt_then ?_
                                refine rt_then ?_
                                refine rt_block ?_
                                refine rt_then ?_
                                refine res1 (v := .bool _) rfl rfl ?_
                                exact ⟨rfl, hB⟩
                           · (try first | replace Q18 := bn_t Q18 | replace Q18 := bn_f Q18)
                             (try first | replace Q18 := bx_t Q18 | replace Q18 := bx_f Q18 | replace Q18 := be_t Q18 | replace Q18 := be_f Q18 | replace Q18 := of_decide_eq_true Q18 | replace Q18 := of_decide_eq_false Q18)
                             first
                              | (exfalso; first | omega | (simp only [hB2, Bool.false_eq_true] at *; done) | contradiction | (cases Q18; done))
                              | skip
                                refine st_unguard rfl ?_
                                refine st_val (ro_move (v := .bool _) rfl) ?_
                                refine st_unguard rfl ?_
                                refine st_val (ro_fieldAddr BitsLaw_f25_0 rfl) ?_
                                refine st_unguard rfl ?_
                                refine st_val (ro_load BitsLaw_g22 rfl (by first | (first | exact (hP1.from_ From.rfl_).whole | exact (hP1.from_ From.rfl_).rd 0 rfl | exact (hP1.from_ From.rfl_).rd 1 rfl) | (first | exact (hk1.from_ From.rfl_).whole | exact (hk1.from_ From.rfl_).rd 0 rfl | exact (hk1.from_ From.rfl_).rd 1 rfl) | (exact cellF hB (hca q (by omega))) | (exact cellF hB (hcb k (by omega))))) ?_
                                refine st_unguard rfl ?_
                                refine st_val (ro_move (v := .int _ _) rfl) ?_
                                refine st_spell (t := 51) (v := .int _ _) (v' := .int .i64 (q : Nat)) rfl (by rw [hq]) ?_
                                refine st_unguard rfl ?_
                                refine st_val (ro_indexAddr1 BitsLaw_e22 rfl rfl (by omega)) ?_
                                refine st_unguard rfl ?_
                                refine st_val (ro_load BitsLaw_g4 rfl (by exact cellF hB (hca q (by omega)))) ?_
                                refine st_unguard rfl ?_
                                refine st_val (ro_neqB (by kernel_rfl) rfl rfl) ?_
                                refine st_val (ro_pickF (v := .bool _) rfl rfl) ?_
                                refine st_nil ?_
                                refine nx_then ?_
                                refine cd_cond rfl (fun Q19 => ?_) (fun Q19 => ?_)
                                · (try first | replace Q19 := bn_t Q19 | replace Q19 := bn_f Q19)
                                  (try first | replace Q19 := bx_t Q19 | replace Q19 := bx_f Q19 | replace Q19 := be_t Q19 | replace Q19 := be_f Q19 | replace Q19 := of_decide_eq_true Q19 | replace Q19 := of_decide_eq_false Q19)
                                  first
                                   | (exfalso; first | omega | (simp only [hB2, Bool.false_eq_true] at *; done) | contradiction | (cases Q19; done))
                                   | skip
                                     refine cd_seq ?_
                                     refine cd_region ?_
                                     refine st_val (ro_assign (v := .bool _) rfl) ?_
                                     refine st_nil ?_
                                     refine nx_then ?_
                                     refine cd_ret ?_
                                     refine rt_block ?_
                                     refine rt_then ?_
                                     refine rt_then ?_
                                     refine rt_block ?_
                                     refine rt_then ?_
                                     refine res1 (v := .bool _) rfl rfl ?_
                                     exact ⟨rfl, hB⟩
                                · (try first | replace Q19 := bn_t Q19 | replace Q19 := bn_f Q19)
                                  (try first | replace Q19 := bx_t Q19 | replace Q19 := bx_f Q19 | replace Q19 := be_t Q19 | replace Q19 := be_f Q19 | replace Q19 := of_decide_eq_true Q19 | replace Q19 := of_decide_eq_false Q19)
                                  first
                                   | (exfalso; first | omega | (simp only [hB2, Bool.false_eq_true] at *; done) | contradiction | (cases Q19; done))
                                   | skip
                                     refine cd_skip ?_
                                     refine nx_block ?_
                                     refine nx_then ?_
                                     refine cd_region ?_
                                     refine st_val (ro_move (v := .int _ _) rfl) ?_
                                     refine st_val (ro_add64 rfl rfl (by omega)) ?_
                                     refine st_val (ro_assign (v := .int _ _) rfl) ?_
                                     refine st_nil ?_
                                     refine nx_cut (i + 1) ⟨(by first | rfl | (refine int_eq ?_; omega)), trivial⟩ (by (iterate 84 refine agr_cons rfl ?_); exact agr_rfl) ⟨?_, ?_⟩
                                     · exact ⟨by omega, hv.from_ From.rfl_, hP1.from_ From.rfl_, hB⟩
                                     · omega
            · (try first | replace Q7 := bn_t Q7 | replace Q7 := bn_f Q7)
              (try first | replace Q7 := bx_t Q7 | replace Q7 := bx_f Q7 | replace Q7 := be_t Q7 | replace Q7 := be_f Q7 | replace Q7 := of_decide_eq_true Q7 | replace Q7 := of_decide_eq_false Q7)
              first
               | (exfalso; first | omega | (simp only [hB2, Bool.false_eq_true] at *; done) | contradiction | (cases Q7; done))
               | skip
                 refine cd_exit ?_
                 refine ex_then ?_
                 refine ex_then ?_
                 refine ex_block ?_
                 refine nx_then ?_
                 refine cd_seq ?_
                 refine cd_seq ?_
                 refine cd_region ?_
                 refine st_val (ro_assign (v := .int _ _) rfl) ?_
                 refine st_nil ?_
                 refine nx_then ?_
                 refine cd_block ?_
                 refine cd_loop (G := Nat) [2, 8, 9, 56, 57, 58, 59, 60, 61, 62, 63, 64, 65, 66, 67, 68, 69, 70, 71, 72, 73, 74, 75, 76, 77, 78, 79, 80, 81, 82, 83, 84, 85, 86, 87, 88, 89, 90, 91, 92, 93, 94, 95] (fun k => [(7, .int .i64 (k : Nat))]) (fun k w' => k ≤ is.length ∧ Vec w' w.heap.size b l ∧ Blk w' b1 25 #[.slice A l.length ca, .slice B is.length cb] ∧ From w w') (fun k => is.length - k) (0) ⟨rfl, trivial⟩ ?_ ?_
                 · exact ⟨Nat.zero_le _, hv.from_ From.rfl_, hP1.from_ From.rfl_, hB⟩
                 rintro k ρ20 w20 ⟨hk, hv, hP1, hB⟩
                 refine cd_seq ?_
                 refine cd_seq ?_
                 refine cd_region ?_
                 refine st_val (ro_move (v := .int _ _) rfl) ?_
                 refine st_val (ro_fieldAddr BitsLaw_f25_1 rfl) ?_
                 refine st_val (ro_load BitsLaw_g23 rfl (by first | (first | exact (hP1.from_ From.rfl_).whole | exact (hP1.from_ From.rfl_).rd 0 rfl | exact (hP1.from_ From.rfl_).rd 1 rfl) | (first | exact (hk1.from_ From.rfl_).whole | exact (hk1.from_ From.rfl_).rd 0 rfl | exact (hk1.from_ From.rfl_).rd 1 rfl) | (exact cellF hB (hca q (by omega))) | (exact cellF hB (hcb k (by omega))))) ?_
                 refine st_val (ro_len BitsLaw_l23 rfl) ?_
                 refine st_val (ro_lss rfl rfl) ?_
                 refine st_nil ?_
                 refine nx_then ?_
                 refine cd_cond rfl (fun Q21 => ?_) (fun Q21 => ?_)
                 · (try first | replace Q21 := bn_t Q21 | replace Q21 := bn_f Q21)
                   (try first | replace Q21 := bx_t Q21 | replace Q21 := bx_f Q21 | replace Q21 := be_t Q21 | replace Q21 := be_f Q21 | replace Q21 := of_decide_eq_true Q21 | replace Q21 := of_decide_eq_false Q21)
                   obtain ⟨bb, ob, rfl, hcb⟩ := hrB (by omega)
                   first
                    | (exfalso; first | omega | (simp only [hB2, Bool.false_eq_true] at *; done) | contradiction | (cases Q21; done))
                    | skip
                      refine cd_skip ?_
                      refine nx_then ?_
                      refine cd_seq ?_
                      refine cd_block ?_
                      refine cd_seq ?_
                      refine cd_region ?_
                      refine st_val (ro_move (v := .pointer _) rfl) ?_
                      refine st_val (ro_fieldAddr BitsLaw_f25_1 rfl) ?_
                      refine st_val (ro_load BitsLaw_g23 rfl (by first | (first | exact (hP1.from_ From.rfl_).whole | exact (hP1.from_ From.rfl_).rd 0 rfl | exact (hP1.from_ From.rfl_).rd 1 rfl) | (first | exact (hk1.from_ From.rfl_).whole | exact (hk1.from_ From.rfl_).rd 0 rfl | exact (hk1.from_ From.rfl_).rd 1 rfl) | (exact cellF hB (hca q (by omega))) | (exact cellF hB (hcb k (by omega))))) ?_
                      refine st_val (ro_move (v := .int _ _) rfl) ?_
                      refine st_val (ro_indexAddr1 BitsLaw_e23 rfl rfl (by omega)) ?_
                      refine st_val (ro_load BitsLaw_g3 rfl (by exact cellF hB (hcb k (by omega)))) ?_
                      refine st_call BitsLaw_k7 (get_rt _ b is[k] l _ (hv.from_ From.rfl_)) ?_
                      rintro v70 w22 ⟨rfl, rfl⟩
                      refine st_val (ro_move (v := .tuple _) rfl) ?_
                      refine st_val (ro_extract rfl rfl) ?_
                      refine st_val (ro_extract rfl rfl) ?_
                      refine st_val (ro_assign (v := .bool _) rfl) ?_
                      refine st_val (ro_assign (v := .int _ _) rfl) ?_
                      refine st_nil ?_
                      refine nx_then ?_
                      refine cd_seq ?_
                      refine cd_seq ?_
                      rcases Int.lt_or_le is[k] 0 with hneg | hpos
                      · have hE3 : gE l is[k] = 3 := by unfold gE; rw [if_neg (by omega)]
                        have hB2 : gB l is[k] = false := by unfold gB; rw [if_neg (by omega)]
                        apply cd_drawn 17 [(73, eqp _), (74, eqp _), (75, eqp _), (76, eqp _), (77, eqp _), (78, eqp _), (79, eqp _), (80, eqp _), (81, eqp _), (82, eqp _), (83, eqp _), (84, eqp _), (85, eqp _), (86, eqp _), (87, eqp _), (88, eqp _), (89, eqp _)] (by kernel_rfl) (by kernel_rfl) ⟨eqp_mono _, eqp_mono _, eqp_mono _, eqp_mono _, eqp_mono _, eqp_mono _, eqp_mono _, eqp_mono _, eqp_mono _, eqp_mono _, eqp_mono _, eqp_mono _, eqp_mono _, eqp_mono _, eqp_mono _, eqp_mono _, eqp_mono _, trivial⟩
                        case hop =>
                         refine ⟨?_, ?_⟩
                         · intro w24 D24
                           show OpOK _ _ _ _ _ _ _
                           exact ok_pure (ro_fieldAddr BitsLaw_f25_1 rfl) rfl
                         refine ⟨?_, ?_⟩
                         · intro w25 D25
                           rintro _ rfl
                           show OpOK _ _ _ _ _ _ _
                           exact ok_pure (ro_load BitsLaw_g23 rfl (by first | (first | exact (hP1.from_ (From.rfl_.next D25)).whole | exact (hP1.from_ (From.rfl_.next D25)).rd 0 rfl | exact (hP1.from_ (From.rfl_.next D25)).rd 1 rfl) | (first | exact (hk1.from_ (From.rfl_.next D25)).whole | exact (hk1.from_ (From.rfl_.next D25)).rd 0 rfl | exact (hk1.from_ (From.rfl_.next D25)).rd 1 rfl) | (exact cellF (hB.next D25) (hca q (by omega))) | (exact cellF (hB.next D25) (hcb k (by omega))))) rfl
                         refine ⟨?_, ?_⟩
                         · intro w26 D26
                           show OpOK _ _ _ _ _ _ _
                           exact ok_pure (ro_move (v := .int _ _) rfl) rfl
                         refine ⟨?_, ?_⟩
                         · intro w27 D27
                           rintro _ rfl _ rfl
                           show OpOK _ _ _ _ _ _ _
                           exact ok_pure (ro_indexAddr1 BitsLaw_e23 rfl rfl (by omega)) rfl
                         refine ⟨?_, ?_⟩
                         · intro w28 D28
                           rintro _ rfl
                           show OpOK _ _ _ _ _ _ _
                           exact ok_pure (ro_load BitsLaw_g3 rfl (by exact cellF (hB.next D28) (hcb k (by omega)))) rfl
                         refine ⟨?_, ?_⟩
                         · intro w29 D29
                           rintro _ rfl
                           show OpOK _ _ _ _ _ _ _
                           exact ok_pure (ro_bf (ro_geq rfl rfl) (decide_eq_false (by omega))) rfl
                         refine ⟨?_, ?_⟩
                         · intro w30 D30
                           rintro _ rfl
                           show OpOK _ _ _ _ _ _ _
                           exact ok_pure (ro_move (v := .bool _) rfl) rfl
                         refine ⟨?_, ?_⟩
                         · intro w31 D31
                           rintro _ rfl
                           show OpOK _ _ _ _ _ _ _
                           exact ok_gno rfl rfl rfl
                         refine ⟨?_, ?_⟩
                         · intro w32 D32
                           rintro _ rfl _ rfl
                           show OpOK _ _ _ _ _ _ _
                           exact ok_gno rfl rfl rfl
                         refine ⟨?_, ?_⟩
                         · intro w33 D33
                           rintro _ rfl
                           show OpOK _ _ _ _ _ _ _
                           exact ok_gno rfl rfl rfl
                         refine ⟨?_, ?_⟩
                         · intro w34 D34
                           rintro _ rfl _ rfl _ rfl
                           show OpOK _ _ _ _ _ _ _
                           exact ok_gno rfl rfl rfl
                         refine ⟨?_, ?_⟩
                         · intro w35 D35
                           rintro _ rfl _ rfl
                           show OpOK _ _ _ _ _ _ _
                           exact ok_gno rfl rfl rfl
                         refine ⟨?_, ?_⟩
                         · intro w36 D36
                           rintro _ rfl
                           show OpOK _ _ _ _ _ _ _
                           exact ok_gno rfl rfl rfl
                         refine ⟨?_, ?_⟩
                         · intro w37 D37
                           rintro _ rfl _ rfl
                           show OpOK _ _ _ _ _ _ _
                           exact ok_gno rfl rfl rfl
                         refine ⟨?_, ?_⟩
                         · intro w38 D38
                           rintro _ rfl _ rfl
                           show OpOK _ _ _ _ _ _ _
                           exact ok_gno rfl rfl rfl
                         refine ⟨?_, ?_⟩
                         · intro w39 D39
                           rintro _ rfl _ rfl _ rfl
                           show OpOK _ _ _ _ _ _ _
                           exact ok_gno rfl rfl rfl
                         refine ⟨?_, ?_⟩
                         · intro w40 D40
                           rintro _ rfl _ rfl
                           show OpOK _ _ _ _ _ _ _
                           exact ok_pure (ro_pickF (v := .bool _) rfl rfl) rfl
                         exact trivial
                        case hend =>
                         intro w41 D41
                         rintro _ rfl _ rfl _ rfl _ rfl _ rfl _ rfl _ rfl _ rfl _ rfl _ rfl _ rfl _ rfl _ rfl _ rfl _ rfl _ rfl _ rfl
                         show St _ _ _ _ _ _ _
                         refine st_nil ?_
                         refine nx_then ?_
                         refine cd_condF rfl ?_
                         refine cd_skip ?_
                         refine nx_then ?_
                         refine cd_seq ?_
                         refine cd_region ?_
                         refine st_val (ro_move (v := .int _ _) rfl) ?_
                         refine st_call BitsLaw_k8 (num_any _ _) ?_
                         rintro v91 w42 ⟨rfl, rfl⟩
                         refine st_val (ro_neq rfl rfl) ?_
                         refine st_val (ro_move (v := .bool _) rfl) ?_
                         refine st_split (t := 93) rfl (fun Q43 => ?_) (fun Q43 => ?_)
                         · (try first | replace Q43 := bn_t Q43 | replace Q43 := bn_f Q43)
                           (try first | replace Q43 := bx_t Q43 | replace Q43 := bx_f Q43 | replace Q43 := be_t Q43 | replace Q43 := be_f Q43 | replace Q43 := of_decide_eq_true Q43 | replace Q43 := of_decide_eq_false Q43)
                           first
                            | (exfalso; first | omega | (simp only [hB2, Bool.false_eq_true] at *; done) | contradiction | (cases Q43; done))
                            | skip
                              refine st_gno rfl rfl ?_
                              refine st_val (ro_pickT (v := .bool _) rfl rfl) ?_
                              refine st_nil ?_
                              refine nx_then ?_
                              refine cd_condT rfl ?_
                              refine cd_seq ?_
                              refine cd_region ?_
                              refine st_val (ro_assign (v := .bool _) rfl) ?_
                              refine st_nil ?_
                              refine nx_then ?_
                              refine cd_ret ?_
                              refine rt_block ?_
                              refine rt_then ?_
                              refine rt_then ?_
                              refine rt_block ?_
                              refine rt_then ?_
                              refine res1 (v := .bool _) rfl rfl ?_
                              exact ⟨rfl, (hB.next D41)⟩
                         · (try first | replace Q43 := bn_t Q43 | replace Q43 := bn_f Q43)
                           (try first | replace Q43 := bx_t Q43 | replace Q43 := bx_f Q43 | replace Q43 := be_t Q43 | replace Q43 := be_f Q43 | replace Q43 := of_decide_eq_true Q43 | replace Q43 := of_decide_eq_false Q43)
                           first
                            | (exfalso; first | omega | (simp only [hB2, Bool.false_eq_true] at *; done) | contradiction | (cases Q43; done))
                            | skip
                              refine st_unguard rfl ?_
                              refine st_val (ro_move (v := .bool _) rfl) ?_
                              refine st_val (ro_pickF (v := .bool _) rfl rfl) ?_
                              refine st_nil ?_
                              refine nx_then ?_
                              refine cd_cond rfl (fun Q44 => ?_) (fun Q44 => ?_)
                              · (try first | replace Q44 := bn_t Q44 | replace Q44 := bn_f Q44)
                                (try first | replace Q44 := bx_t Q44 | replace Q44 := bx_f Q44 | replace Q44 := be_t Q44 | replace Q44 := be_f Q44 | replace Q44 := of_decide_eq_true Q44 | replace Q44 := of_decide_eq_false Q44)
                                first
                                 | (exfalso; first | omega | (simp only [hB2, Bool.false_eq_true] at *; done) | contradiction | (cases Q44; done))
                                 | skip
                                   refine cd_seq ?_
                                   refine cd_region ?_
                                   refine st_val (ro_assign (v := .bool _) rfl) ?_
                                   refine st_nil ?_
                                   refine nx_then ?_
                                   refine cd_ret ?_
                                   refine rt_block ?_
                                   refine rt_then ?_
                                   refine rt_then ?_
                                   refine rt_block ?_
                                   refine rt_then ?_
                                   refine res1 (v := .bool _) rfl rfl ?_
                                   exact ⟨rfl, (hB.next D41)⟩
                              · (try first | replace Q44 := bn_t Q44 | replace Q44 := bn_f Q44)
                                (try first | replace Q44 := bx_t Q44 | replace Q44 := bx_f Q44 | replace Q44 := be_t Q44 | replace Q44 := be_f Q44 | replace Q44 := of_decide_eq_true Q44 | replace Q44 := of_decide_eq_false Q44)
                                first
                                 | (exfalso; first | omega | (simp only [hB2, Bool.false_eq_true] at *; done) | contradiction | (cases Q44; done))
                                 | skip
                                   refine cd_skip ?_
                                   refine nx_block ?_
                                   refine nx_then ?_
                                   refine cd_region ?_
                                   refine st_val (ro_move (v := .int _ _) rfl) ?_
                                   refine st_val (ro_addN (b := 1) rfl rfl (by omega)) ?_
                                   refine st_val (ro_assign (v := .int _ _) rfl) ?_
                                   refine st_nil ?_
                                   refine nx_cut (k + 1) ⟨(by first | rfl | (refine int_eq ?_; omega)), trivial⟩ (by (iterate 88 refine agr_cons rfl ?_); exact agr_rfl) ⟨?_, ?_⟩
                                   · exact ⟨by omega, hv.from_ (From.rfl_.next D41), hP1.from_ (From.rfl_.next D41), (hB.next D41)⟩
                                   · omega
                      · apply cd_drawn 17 [(73, eqp _), (74, eqp _), (75, eqp _), (76, eqp _), (77, eqp _), (78, eqp _), (79, eqp _), (80, eqp _), (81, eqp _), (82, eqp _), (83, eqp _), (84, eqp _), (85, eqp _), (86, eqp _), (87, eqp _), (88, eqp _), (89, eqp _)] (by kernel_rfl) (by kernel_rfl) ⟨eqp_mono _, eqp_mono _, eqp_mono _, eqp_mono _, eqp_mono _, eqp_mono _, eqp_mono _, eqp_mono _, eqp_mono _, eqp_mono _, eqp_mono _, eqp_mono _, eqp_mono _, eqp_mono _, eqp_mono _, eqp_mono _, eqp_mono _, trivial⟩
                        case hop =>
                         refine ⟨?_, ?_⟩
                         · intro w46 D46
                           show OpOK _ _ _ _ _ _ _
                           exact ok_pure (ro_fieldAddr BitsLaw_f25_1 rfl) rfl
                         refine ⟨?_, ?_⟩
                         · intro w47 D47
                           rintro _ rfl
                           show OpOK _ _ _ _ _ _ _
                           exact ok_pure (ro_load BitsLaw_g23 rfl (by first | (first | exact (hP1.from_ (From.rfl_.next D47)).whole | exact (hP1.from_ (From.rfl_.next D47)).rd 0 rfl | exact (hP1.from_ (From.rfl_.next D47)).rd 1 rfl) | (first | exact (hk1.from_ (From.rfl_.next D47)).whole | exact (hk1.from_ (From.rfl_.next D47)).rd 0 rfl | exact (hk1.from_ (From.rfl_.next D47)).rd 1 rfl) | (exact cellF (hB.next D47) (hca q (by omega))) | (exact cellF (hB.next D47) (hcb k (by omega))))) rfl
                         refine ⟨?_, ?_⟩
                         · intro w48 D48
                           show OpOK _ _ _ _ _ _ _
                           exact ok_pure (ro_move (v := .int _ _) rfl) rfl
                         refine ⟨?_, ?_⟩
                         · intro w49 D49
                           rintro _ rfl _ rfl
                           show OpOK _ _ _ _ _ _ _
                           exact ok_pure (ro_indexAddr1 BitsLaw_e23 rfl rfl (by omega)) rfl
                         refine ⟨?_, ?_⟩
                         · intro w50 D50
                           rintro _ rfl
                           show OpOK _ _ _ _ _ _ _
                           exact ok_pure (ro_load BitsLaw_g3 rfl (by exact cellF (hB.next D50) (hcb k (by omega)))) rfl
                         refine ⟨?_, ?_⟩
                         · intro w51 D51
                           rintro _ rfl
                           show OpOK _ _ _ _ _ _ _
                           exact ok_pure (ro_bt (ro_geq rfl rfl) (decide_eq_true (by omega))) rfl
                         refine ⟨?_, ?_⟩
                         · intro w52 D52
                           rintro _ rfl
                           show OpOK _ _ _ _ _ _ _
                           exact ok_pure (ro_move (v := .bool _) rfl) rfl
                         refine ⟨?_, ?_⟩
                         · intro w53 D53
                           rintro _ rfl
                           show OpOK _ _ _ _ _ _ _
                           exact ok_gpure rfl (ro_fieldAddr BitsLaw_f25_1 rfl) rfl
                         refine ⟨?_, ?_⟩
                         · intro w54 D54
                           rintro _ rfl _ rfl
                           show OpOK _ _ _ _ _ _ _
                           exact ok_gpure rfl (ro_load BitsLaw_g23 rfl (by first | (first | exact (hP1.from_ (From.rfl_.next D54)).whole | exact (hP1.from_ (From.rfl_.next D54)).rd 0 rfl | exact (hP1.from_ (From.rfl_.next D54)).rd 1 rfl) | (first | exact (hk1.from_ (From.rfl_.next D54)).whole | exact (hk1.from_ (From.rfl_.next D54)).rd 0 rfl | exact (hk1.from_ (From.rfl_.next D54)).rd 1 rfl) | (exact cellF (hB.next D54) (hca q (by omega))) | (exact cellF (hB.next D54) (hcb k (by omega))))) rfl
                         refine ⟨?_, ?_⟩
                         · intro w55 D55
                           rintro _ rfl
                           show OpOK _ _ _ _ _ _ _
                           exact ok_gpure rfl (ro_move (v := .int _ _) rfl) rfl
                         refine ⟨?_, ?_⟩
                         · intro w56 D56
                           rintro _ rfl _ rfl _ rfl
                           show OpOK _ _ _ _ _ _ _
                           exact ok_gpure rfl (ro_indexAddr1 BitsLaw_e23 rfl rfl (by omega)) rfl
                         refine ⟨?_, ?_⟩
                         · intro w57 D57
                           rintro _ rfl _ rfl
                           show OpOK _ _ _ _ _ _ _
                           exact ok_gpure rfl (ro_load BitsLaw_g3 rfl (by exact cellF (hB.next D57) (hcb k (by omega)))) rfl
                         refine ⟨?_, ?_⟩
                         · intro w58 D58
                           rintro _ rfl
                           show OpOK _ _ _ _ _ _ _
                           exact ok_gpure rfl (ro_fieldAddr BitsLaw_f25_0 rfl) rfl
                         refine ⟨?_, ?_⟩
                         · intro w59 D59
                           rintro _ rfl _ rfl
                           show OpOK _ _ _ _ _ _ _
                           exact ok_gpure rfl (ro_load BitsLaw_g22 rfl (by first | (first | exact (hP1.from_ (From.rfl_.next D59)).whole | exact (hP1.from_ (From.rfl_.next D59)).rd 0 rfl | exact (hP1.from_ (From.rfl_.next D59)).rd 1 rfl) | (first | exact (hk1.from_ (From.rfl_.next D59)).whole | exact (hk1.from_ (From.rfl_.next D59)).rd 0 rfl | exact (hk1.from_ (From.rfl_.next D59)).rd 1 rfl) | (exact cellF (hB.next D59) (hca q (by omega))) | (exact cellF (hB.next D59) (hcb k (by omega))))) rfl
                         refine ⟨?_, ?_⟩
                         · intro w60 D60
                           rintro _ rfl _ rfl
                           show OpOK _ _ _ _ _ _ _
                           exact ok_gpure rfl (ro_len BitsLaw_l22 rfl) rfl
                         refine ⟨?_, ?_⟩
                         · intro w61 D61
                           rintro _ rfl _ rfl _ rfl
                           show OpOK _ _ _ _ _ _ _
                           exact ok_gpure rfl (ro_lss rfl rfl) rfl
                         refine ⟨?_, ?_⟩
                         · intro w62 D62
                           rintro _ rfl _ rfl
                           show OpOK _ _ _ _ _ _ _
                           exact ok_pure (ro_pickT (v := .bool _) rfl rfl) rfl
                         exact trivial
                        case hend =>
                         intro w63 D63
                         rintro _ rfl _ rfl _ rfl _ rfl _ rfl _ rfl _ rfl _ rfl _ rfl _ rfl _ rfl _ rfl _ rfl _ rfl _ rfl _ rfl _ rfl
                         show St _ _ _ _ _ _ _
                         refine st_nil ?_
                         refine nx_then ?_
                         refine cd_cond rfl (fun Q64 => ?_) (fun Q64 => ?_)
                         · (try first | replace Q64 := bn_t Q64 | replace Q64 := bn_f Q64)
                           (try first | replace Q64 := bx_t Q64 | replace Q64 := bx_f Q64 | replace Q64 := be_t Q64 | replace Q64 := be_f Q64 | replace Q64 := of_decide_eq_true Q64 | replace Q64 := of_decide_eq_false Q64)
                           first
                            | (exfalso; first | omega | (simp only [hB2, Bool.false_eq_true] at *; done) | contradiction | (cases Q64; done))
                            | skip
                              refine cd_exit ?_
                              refine ex_then ?_
                              refine ex_block ?_
                              refine nx_then ?_
                              refine cd_region ?_
                              refine st_val (ro_move (v := .int _ _) rfl) ?_
                              refine st_val (ro_addN (b := 1) rfl rfl (by omega)) ?_
                              refine st_val (ro_assign (v := .int _ _) rfl) ?_
                              refine st_nil ?_
                              refine nx_cut (k + 1) ⟨(by first | rfl | (refine int_eq ?_; omega)), trivial⟩ (by (iterate 81 refine agr_cons rfl ?_); exact agr_rfl) ⟨?_, ?_⟩
                              · exact ⟨by omega, hv.from_ (From.rfl_.next D63), hP1.from_ (From.rfl_.next D63), (hB.next D63)⟩
                              · omega
                         · (try first | replace Q64 := bn_t Q64 | replace Q64 := bn_f Q64)
                           (try first | replace Q64 := bx_t Q64 | replace Q64 := bx_f Q64 | replace Q64 := be_t Q64 | replace Q64 := be_f Q64 | replace Q64 := of_decide_eq_true Q64 | replace Q64 := of_decide_eq_false Q64)
                           have hE3 : gE l is[k] = 3 := by unfold gE; rw [if_neg (by omega)]
                           have hB2 : gB l is[k] = false := by unfold gB; rw [if_neg (by omega)]
                           first
                            | (exfalso; first | omega | (simp only [hB2, Bool.false_eq_true] at *; done) | contradiction | (cases Q64; done))
                            | skip
                              refine cd_skip ?_
                              refine nx_then ?_
                              refine cd_seq ?_
                              refine cd_region ?_
                              refine st_val (ro_move (v := .int _ _) rfl) ?_
                              refine st_call BitsLaw_k8 (num_any _ _) ?_
                              rintro v91 w65 ⟨rfl, rfl⟩
                              refine st_val (ro_neq rfl rfl) ?_
                              refine st_val (ro_move (v := .bool _) rfl) ?_
                              refine st_split (t := 93) rfl (fun Q66 => ?_) (fun Q66 => ?_)
                              · (try first | replace Q66 := bn_t Q66 | replace Q66 := bn_f Q66)
                                (try first | replace Q66 := bx_t Q66 | replace Q66 := bx_f Q66 | replace Q66 := be_t Q66 | replace Q66 := be_f Q66 | replace Q66 := of_decide_eq_true Q66 | replace Q66 := of_decide_eq_false Q66)
                                first
                                 | (exfalso; first | omega | (simp only [hB2, Bool.false_eq_true] at *; done) | contradiction | (cases Q66; done))
                                 | skip
                                   refine st_gno rfl rfl ?_
                                   refine st_val (ro_pickT (v := .bool _) rfl rfl) ?_
                                   refine st_nil ?_
                                   refine nx_then ?_
                                   refine cd_condT rfl ?_
                                   refine cd_seq ?_
                                   refine cd_region ?_
                                   refine st_val (ro_assign (v := .bool _) rfl) ?_
                                   refine st_nil ?_
                                   refine nx_then ?_
                                   refine cd_ret ?_
                                   refine rt_block ?_
                                   refine rt_then ?_
                                   refine rt_then ?_
                                   refine rt_block ?_
                                   refine rt_then ?_
                                   refine res1 (v := .bool _) rfl rfl ?_
                                   exact ⟨rfl, (hB.next D63)⟩
                              · (try first | replace Q66 := bn_t Q66 | replace Q66 := bn_f Q66)
                                (try first | replace Q66 := bx_t Q66 | replace Q66 := bx_f Q66 | replace Q66 := be_t Q66 | replace Q66 := be_f Q66 | replace Q66 := of_decide_eq_true Q66 | replace Q66 := of_decide_eq_false Q66)
                                first
                                 | (exfalso; first | omega | (simp only [hB2, Bool.false_eq_true] at *; done) | contradiction | (cases Q66; done))
                                 | skip
                                   refine st_unguard rfl ?_
                                   refine st_val (ro_move (v := .bool _) rfl) ?_
                                   refine st_val (ro_pickF (v := .bool _) rfl rfl) ?_
                                   refine st_nil ?_
                                   refine nx_then ?_
                                   refine cd_cond rfl (fun Q67 => ?_) (fun Q67 => ?_)
                                   · (try first | replace Q67 := bn_t Q67 | replace Q67 := bn_f Q67)
                                     (try first | replace Q67 := bx_t Q67 | replace Q67 := bx_f Q67 | replace Q67 := be_t Q67 | replace Q67 := be_f Q67 | replace Q67 := of_decide_eq_true Q67 | replace Q67 := of_decide_eq_false Q67)
                                     first
                                      | (exfalso; first | omega | (simp only [hB2, Bool.false_eq_true] at *; done) | contradiction | (cases Q67; done))
                                      | skip
                                        refine cd_seq ?_
                                        refine cd_region ?_
                                        refine st_val (ro_assign (v := .bool _) rfl) ?_
                                        refine st_nil ?_
                                        refine nx_then ?_
                                        refine cd_ret ?_
                                        refine rt_block ?_
                                        refine rt_then ?_
                                        refine rt_then ?_
                                        refine rt_block ?_
                                        refine rt_then ?_
                                        refine res1 (v := .bool _) rfl rfl ?_
                                        exact ⟨rfl, (hB.next D63)⟩
                                   · (try first | replace Q67 := bn_t Q67 | replace Q67 := bn_f Q67)
                                     (try first | replace Q67 := bx_t Q67 | replace Q67 := bx_f Q67 | replace Q67 := be_t Q67 | replace Q67 := be_f Q67 | replace Q67 := of_decide_eq_true Q67 | replace Q67 := of_decide_eq_false Q67)
                                     first
                                      | (exfalso; first | omega | (simp only [hB2, Bool.false_eq_true] at *; done) | contradiction | (cases Q67; done))
                                      | skip
                                        refine cd_skip ?_
                                        refine nx_block ?_
                                        refine nx_then ?_
                                        refine cd_region ?_
                                        refine st_val (ro_move (v := .int _ _) rfl) ?_
                                        refine st_val (ro_addN (b := 1) rfl rfl (by omega)) ?_
                                        refine st_val (ro_assign (v := .int _ _) rfl) ?_
                                        refine st_nil ?_
                                        refine nx_cut (k + 1) ⟨(by first | rfl | (refine int_eq ?_; omega)), trivial⟩ (by (iterate 88 refine agr_cons rfl ?_); exact agr_rfl) ⟨?_, ?_⟩
                                        · exact ⟨by omega, hv.from_ (From.rfl_.next D63), hP1.from_ (From.rfl_.next D63), (hB.next D63)⟩
                                        · omega
                 · (try first | replace Q21 := bn_t Q21 | replace Q21 := bn_f Q21)
                   (try first | replace Q21 := bx_t Q21 | replace Q21 := bx_f Q21 | replace Q21 := be_t Q21 | replace Q21 := be_f Q21 | replace Q21 := of_decide_eq_true Q21 | replace Q21 := of_decide_eq_false Q21)
                   first
                    | (exfalso; first | omega | (simp only [hB2, Bool.false_eq_true] at *; done) | contradiction | (cases Q21; done))
                    | skip
                      refine cd_exit ?_
                      refine ex_then ?_
                      refine ex_then ?_
                      refine ex_block ?_
                      refine nx_then ?_
                      refine cd_seq ?_
                      refine cd_region ?_
                      refine st_call BitsLaw_k9 (wakes_any _) ?_
                      rintro v96 w68 ⟨rfl, E96⟩
                      refine st_val (ro_assign (v := .bool _) rfl) ?_
                      refine st_nil ?_
                      refine nx_then ?_
                      refine cd_ret ?_
                      refine res1 (v := .bool _) rfl rfl ?_
                      exact ⟨rfl, (hB.next E96)⟩
set_option maxRecDepth 100000 in
set_option maxHeartbeats 2000000 in
theorem ranks_law (A B : Option Addr) (ca cb : Nat) (l : List Bool) (is : List Int) (w : World) (hr : RowOf boV w A l) (hrB : RowOf iV w B is) (hB64 : ∀ x ∈ is, -9223372036854775808 ≤ x ∧ x ≤ 9223372036854775807) :
    Rt Try.prog 4 [.agg #[.slice A l.length ca, .slice B is.length cb]] w (fun v w' => v = .bool true ∧ From w w') := by
  refine enter (n := 104) Try.func4 rfl rfl rfl ?_
  refine cd_seq ?_
  refine cd_region ?_
  refine st_box (v := .agg _) rfl ?_
  intro b1 w1 E1 hb1 hk1
  refine st_val (ro_assign (v := .bool _) rfl) ?_
  refine st_nil ?_
  refine nx_then ?_
  refine cd_seq ?_
  refine cd_seq ?_
  refine cd_region ?_
  refine st_val (ro_loadA (cs := [_, _]) BitsLaw_g25 BitsLaw_z25 rfl (by first | (first | exact (hP1.from_ From.rfl_).whole | exact (hP1.from_ From.rfl_).rd 0 rfl | exact (hP1.from_ From.rfl_).rd 1 rfl) | (first | exact (hk1.from_ From.rfl_).whole | exact (hk1.from_ From.rfl_).rd 0 rfl | exact (hk1.from_ From.rfl_).rd 1 rfl) | (exact cellF (From.rfl_.next E1) (hca q (by omega))) | (exact cellF (From.rfl_.next E1) (hcb k (by omega))))) ?_
  refine st_call BitsLaw_k5 (heavy_any A B _ ca _ cb _) ?_
  rintro v14 w2 ⟨rfl, E14⟩
  refine st_nil ?_
  refine nx_then ?_
  refine cd_cond rfl (fun Q3 => ?_) (fun Q3 => ?_)
  · (try first | replace Q3 := bn_t Q3 | replace Q3 := bn_f Q3)
    (try first | replace Q3 := bx_t Q3 | replace Q3 := bx_f Q3 | replace Q3 := be_t Q3 | replace Q3 := be_f Q3 | replace Q3 := of_decide_eq_true Q3 | replace Q3 := of_decide_eq_false Q3)
    first
     | (exfalso; first | omega | contradiction | (cases Q3; done))
     | skip
       refine cd_seq ?_
       refine cd_region ?_
       refine st_val (ro_assign (v := .bool _) rfl) ?_
       refine st_nil ?_
       refine nx_then ?_
       refine cd_ret ?_
       refine rt_then ?_
       refine res1 (v := .bool _) rfl rfl ?_
       exact ⟨rfl, ((From.rfl_.next E1).next E14)⟩
  · (try first | replace Q3 := bn_t Q3 | replace Q3 := bn_f Q3)
    (try first | replace Q3 := bx_t Q3 | replace Q3 := bx_f Q3 | replace Q3 := be_t Q3 | replace Q3 := be_f Q3 | replace Q3 := of_decide_eq_true Q3 | replace Q3 := of_decide_eq_false Q3)
    first
     | (exfalso; first | omega | contradiction | (cases Q3; done))
     | skip
       refine cd_skip ?_
       refine nx_then ?_
       refine cd_seq ?_
       refine cd_region ?_
       refine st_val (ro_loadA (cs := [_, _]) BitsLaw_g25 BitsLaw_z25 rfl (by first | (first | exact (hP1.from_ (From.rfl_.next E14)).whole | exact (hP1.from_ (From.rfl_.next E14)).rd 0 rfl | exact (hP1.from_ (From.rfl_.next E14)).rd 1 rfl) | (first | exact (hk1.from_ (From.rfl_.next E14)).whole | exact (hk1.from_ (From.rfl_.next E14)).rd 0 rfl | exact (hk1.from_ (From.rfl_.next E14)).rd 1 rfl) | (exact cellF ((From.rfl_.next E1).next E14) (hca q (by omega))) | (exact cellF ((From.rfl_.next E1).next E14) (hcb k (by omega))))) ?_
       have hz16 := (((From.rfl_.next E1).next E14)).size
       refine st_call BitsLaw_k6 (made_rt A B ca _ cb l _ (hr.from_ ((From.rfl_.next E1).next E14)) (by omega)) ?_
       rintro v16 w4 ⟨b, rfl, hv, E16⟩
       replace hv := hv.le hz16
       refine st_val (ro_assign (v := .pointer _) rfl) ?_
       refine st_nil ?_
       refine nx_then ?_
       refine cd_seq ?_
       refine cd_seq ?_
       refine cd_region ?_
       refine st_val (ro_move (v := .pointer _) rfl) ?_
       refine st_val (ro_eqlNil BitsLaw_p27 rfl rfl) ?_
       refine st_nil ?_
       refine nx_then ?_
       refine cd_cond rfl (fun Q5 => ?_) (fun Q5 => ?_)
       · (try first | replace Q5 := bn_t Q5 | replace Q5 := bn_f Q5)
         (try first | replace Q5 := bx_t Q5 | replace Q5 := bx_f Q5 | replace Q5 := be_t Q5 | replace Q5 := be_f Q5 | replace Q5 := of_decide_eq_true Q5 | replace Q5 := of_decide_eq_false Q5)
         first
          | (exfalso; first | omega | contradiction | (cases Q5; done))
          | skip
            refine cd_seq ?_
            refine cd_region ?_
            refine st_val (ro_assign (v := .bool _) rfl) ?_
            refine st_nil ?_
            refine nx_then ?_
            refine cd_ret ?_
            refine rt_then ?_
            refine res1 (v := .bool _) rfl rfl ?_
            exact ⟨rfl, (((From.rfl_.next E1).next E14).next E16)⟩
       · (try first | replace Q5 := bn_t Q5 | replace Q5 := bn_f Q5)
         (try first | replace Q5 := bx_t Q5 | replace Q5 := bx_f Q5 | replace Q5 := be_t Q5 | replace Q5 := be_f Q5 | replace Q5 := of_decide_eq_true Q5 | replace Q5 := of_decide_eq_false Q5)
         first
          | (exfalso; first | omega | contradiction | (cases Q5; done))
          | skip
            refine cd_skip ?_
            refine nx_then ?_
            refine cd_seq ?_
            refine cd_region ?_
            refine st_val (ro_assign (v := .int _ _) rfl) ?_
            refine st_nil ?_
            refine nx_then ?_
            refine cd_seq ?_
            refine cd_seq ?_
            refine cd_region ?_
            refine st_val (ro_assign (v := .int _ _) rfl) ?_
            refine st_nil ?_
            refine nx_then ?_
            refine cd_block ?_
            refine cd_loop (G := Nat) [2, 6, 7, 19, 20, 21, 22, 23, 24, 25, 26, 27, 28, 29, 30, 31, 32, 33, 34, 35, 36, 37, 38, 39, 40, 41, 42, 43, 44, 45, 46, 47, 48, 49, 50, 51, 52, 53] (fun i => [(4, .int .i64 (rk l i : Nat)), (5, .int .i64 (i : Nat))]) (fun i w' => i ≤ l.length + 1 ∧ Vec w' w.heap.size b l ∧ Blk w' b1 25 #[.slice A l.length ca, .slice B is.length cb] ∧ From w w') (fun i => l.length + 1 - i) (0) ⟨rfl, rfl, trivial⟩ ?_ ?_
            · exact ⟨by omega, hv.from_ From.rfl_, (hk1.from_ ((From.rfl_.next E14).next E16)), (((From.rfl_.next E1).next E14).next E16)⟩
            rintro q ρ6 w6 ⟨hi, hv, hP1, hB⟩
            refine cd_seq ?_
            refine cd_seq ?_
            refine cd_region ?_
            refine st_val (ro_move (v := .int _ _) rfl) ?_
            refine st_val (ro_fieldAddr BitsLaw_f25_0 rfl) ?_
            refine st_val (ro_load BitsLaw_g22 rfl (by first | (first | exact (hP1.from_ From.rfl_).whole | exact (hP1.from_ From.rfl_).rd 0 rfl | exact (hP1.from_ From.rfl_).rd 1 rfl) | (first | exact (hk1.from_ From.rfl_).whole | exact (hk1.from_ From.rfl_).rd 0 rfl | exact (hk1.from_ From.rfl_).rd 1 rfl) | (exact cellF hB (hca q (by omega))) | (exact cellF hB (hcb k (by omega))))) ?_
            refine st_val (ro_len BitsLaw_l22 rfl) ?_
            refine st_val (ro_leq rfl rfl) ?_
            refine st_nil ?_
            refine nx_then ?_
            refine cd_cond rfl (fun Q7 => ?_) (fun Q7 => ?_)
            · (try first | replace Q7 := bn_t Q7 | replace Q7 := bn_f Q7)
              (try first | replace Q7 := bx_t Q7 | replace Q7 := bx_f Q7 | replace Q7 := be_t Q7 | replace Q7 := be_f Q7 | replace Q7 := of_decide_eq_true Q7 | replace Q7 := of_decide_eq_false Q7)
              first
               | (exfalso; first | omega | contradiction | (cases Q7; done))
               | skip
                 refine cd_skip ?_
                 refine nx_then ?_
                 refine cd_seq ?_
                 refine cd_block ?_
                 refine cd_seq ?_
                 refine cd_region ?_
                 refine st_val (ro_move (v := .pointer _) rfl) ?_
                 refine st_val (ro_move (v := .int _ _) rfl) ?_
                 refine st_call BitsLaw_k10 (rank_rt _ b (q : Int) l _ (hv.from_ From.rfl_)) ?_
                 rintro v29 w8 ⟨rfl, E29⟩
                 have hE0 : rE l (q : Int) = 0 := by unfold rE; rw [if_pos (by omega)]
                 have hR : rB l (q : Int) = (rk l q : Nat) := by unfold rB; rw [if_pos (by omega), Int.toNat_natCast]
                 refine st_val (ro_move (v := .tuple _) rfl) ?_
                 refine st_val (ro_extract rfl rfl) ?_
                 refine st_val (ro_extract rfl rfl) ?_
                 refine st_val (ro_assign (v := .int _ _) rfl) ?_
                 refine st_val (ro_assign (v := .int _ _) rfl) ?_
                 refine st_nil ?_
                 refine nx_then ?_
                 refine cd_seq ?_
                 refine cd_seq ?_
                 refine cd_region ?_
                 refine st_val (ro_move (v := .int _ _) rfl) ?_
                 refine st_call BitsLaw_k8 (num_any _ _) ?_
                 rintro v33 w9 ⟨rfl, rfl⟩
                 refine st_val (ro_neq rfl rfl) ?_
                 refine st_val (ro_move (v := .bool _) rfl) ?_
                 refine st_split (t := 35) rfl (fun Q10 => ?_) (fun Q10 => ?_)
                 · (try first | replace Q10 := bn_t Q10 | replace Q10 := bn_f Q10)
                   (try first | replace Q10 := bx_t Q10 | replace Q10 := bx_f Q10 | replace Q10 := be_t Q10 | replace Q10 := be_f Q10 | replace Q10 := of_decide_eq_true Q10 | replace Q10 := of_decide_eq_false Q10)
                   first
                    | (exfalso; first | omega | contradiction | (cases Q10; done))
                    | skip
                      refine st_gno rfl rfl ?_
                      refine st_gno rfl rfl ?_
                      refine st_gno rfl rfl ?_
                      refine st_val (ro_pickT (v := .bool _) rfl rfl) ?_
                      refine st_nil ?_
                      refine nx_then ?_
                      refine cd_condT rfl ?_
                      refine cd_seq ?_
                      refine cd_region ?_
                      refine st_val (ro_assign (v := .bool _) rfl) ?_
                      refine st_nil ?_
                      refine nx_then ?_
                      refine cd_ret ?_
                      refine rt_then ?_
                      refine rt_block ?_
                      refine rt_then ?_
                      refine rt_then ?_
                      refine rt_block ?_
                      refine rt_then ?_
                      refine res1 (v := .bool _) rfl rfl ?_
                      exact ⟨rfl, (hB.next E29)⟩
                 · (try first | replace Q10 := bn_t Q10 | replace Q10 := bn_f Q10)
                   (try first | replace Q10 := bx_t Q10 | replace Q10 := bx_f Q10 | replace Q10 := be_t Q10 | replace Q10 := be_f Q10 | replace Q10 := of_decide_eq_true Q10 | replace Q10 := of_decide_eq_false Q10)
                   first
                    | (exfalso; first | omega | contradiction | (cases Q10; done))
                    | skip
                      refine st_unguard rfl ?_
                      refine st_val (ro_move (v := .int _ _) rfl) ?_
                      refine st_unguard rfl ?_
                      refine st_val (ro_move (v := .int _ _) rfl) ?_
                      refine st_unguard rfl ?_
                      refine st_val (ro_neq rfl rfl) ?_
                      refine st_val (ro_pickF (v := .bool _) rfl rfl) ?_
                      refine st_nil ?_
                      refine nx_then ?_
                      refine cd_cond rfl (fun Q11 => ?_) (fun Q11 => ?_)
                      · (try first | replace Q11 := bn_t Q11 | replace Q11 := bn_f Q11)
                        (try first | replace Q11 := bx_t Q11 | replace Q11 := bx_f Q11 | replace Q11 := be_t Q11 | replace Q11 := be_f Q11 | replace Q11 := of_decide_eq_true Q11 | replace Q11 := of_decide_eq_false Q11)
                        first
                         | (exfalso; first | omega | contradiction | (cases Q11; done))
                         | skip
                           refine cd_seq ?_
                           refine cd_region ?_
                           refine st_val (ro_assign (v := .bool _) rfl) ?_
                           refine st_nil ?_
                           refine nx_then ?_
                           refine cd_ret ?_
                           refine rt_then ?_
                           refine rt_block ?_
                           refine rt_then ?_
                           refine rt_then ?_
                           refine rt_block ?_
                           refine rt_then ?_
                           refine res1 (v := .bool _) rfl rfl ?_
                           exact ⟨rfl, (hB.next E29)⟩
                      · (try first | replace Q11 := bn_t Q11 | replace Q11 := bn_f Q11)
                        (try first | replace Q11 := bx_t Q11 | replace Q11 := bx_f Q11 | replace Q11 := be_t Q11 | replace Q11 := be_f Q11 | replace Q11 := of_decide_eq_true Q11 | replace Q11 := of_decide_eq_false Q11)
                        first
                         | (exfalso; first | omega | contradiction | (cases Q11; done))
                         | skip
                           refine cd_skip ?_
                           refine nx_then ?_
                           refine cd_seq ?_
                           refine cd_region ?_
                           refine st_val (ro_move (v := .int _ _) rfl) ?_
                           refine st_val (ro_fieldAddr BitsLaw_f25_0 rfl) ?_
                           refine st_val (ro_load BitsLaw_g22 rfl (by first | (first | exact (hP1.from_ (From.rfl_.next E29)).whole | exact (hP1.from_ (From.rfl_.next E29)).rd 0 rfl | exact (hP1.from_ (From.rfl_.next E29)).rd 1 rfl) | (first | exact (hk1.from_ (From.rfl_.next E29)).whole | exact (hk1.from_ (From.rfl_.next E29)).rd 0 rfl | exact (hk1.from_ (From.rfl_.next E29)).rd 1 rfl) | (exact cellF (hB.next E29) (hca q (by omega))) | (exact cellF (hB.next E29) (hcb k (by omega))))) ?_
                           refine st_val (ro_len BitsLaw_l22 rfl) ?_
                           refine st_val (ro_lss rfl rfl) ?_
                           refine st_val (ro_move (v := .bool _) rfl) ?_
                           refine st_split (t := 45) rfl (fun Q12 => ?_) (fun Q12 => ?_)
                           · (try first | replace Q12 := bn_t Q12 | replace Q12 := bn_f Q12)
                             (try first | replace Q12 := bx_t Q12 | replace Q12 := bx_f Q12 | replace Q12 := be_t Q12 | replace Q12 := be_f Q12 | replace Q12 := of_decide_eq_true Q12 | replace Q12 := of_decide_eq_false Q12)
                             obtain ⟨ba, oa, rfl, hca⟩ := hr (by omega)
                             first
                              | (exfalso; first | omega | contradiction | (cases Q12; done))
                              | skip
                                refine st_unguard rfl ?_
                                refine st_val (ro_fieldAddr BitsLaw_f25_0 rfl) ?_
                                refine st_unguard rfl ?_
                                refine st_val (ro_load BitsLaw_g22 rfl (by first | (first | exact (hP1.from_ (From.rfl_.next E29)).whole | exact (hP1.from_ (From.rfl_.next E29)).rd 0 rfl | exact (hP1.from_ (From.rfl_.next E29)).rd 1 rfl) | (first | exact (hk1.from_ (From.rfl_.next E29)).whole | exact (hk1.from_ (From.rfl_.next E29)).rd 0 rfl | exact (hk1.from_ (From.rfl_.next E29)).rd 1 rfl) | (exact cellF (hB.next E29) (hca q (by omega))) | (exact cellF (hB.next E29) (hcb k (by omega))))) ?_
                                refine st_unguard rfl ?_
                                refine st_val (ro_move (v := .int _ _) rfl) ?_
                                refine st_unguard rfl ?_
                                refine st_val (ro_indexAddr1 BitsLaw_e22 rfl rfl (by omega)) ?_
                                refine st_unguard rfl ?_
                                refine st_val (ro_load BitsLaw_g4 rfl (by exact cellF (hB.next E29) (hca q (by omega)))) ?_
                                refine st_val (ro_pickT (v := .bool _) rfl rfl) ?_
                                refine st_nil ?_
                                refine nx_then ?_
                                refine cd_cond rfl (fun Q13 => ?_) (fun Q13 => ?_)
                                · (try first | replace Q13 := bn_t Q13 | replace Q13 := bn_f Q13)
                                  (try first | replace Q13 := bx_t Q13 | replace Q13 := bx_f Q13 | replace Q13 := be_t Q13 | replace Q13 := be_f Q13 | replace Q13 := of_decide_eq_true Q13 | replace Q13 := of_decide_eq_false Q13)
                                  have hs : rk l (q + 1) = rk l q + 1 := by rw [rk_succ, bt_at (by omega), Q13]; rfl
                                  first
                                   | (exfalso; first | omega | contradiction | (cases Q13; done))
                                   | skip
                                     refine cd_region ?_
                                     refine st_val (ro_move (v := .int _ _) rfl) ?_
                                     refine st_val (ro_addN (b := 1) rfl rfl (by have := rk_le l q; omega)) ?_
                                     refine st_val (ro_assign (v := .int _ _) rfl) ?_
                                     refine st_nil ?_
                                     refine nx_block ?_
                                     refine nx_then ?_
                                     refine cd_region ?_
                                     refine st_val (ro_move (v := .int _ _) rfl) ?_
                                     refine st_val (ro_addN (b := 1) rfl rfl (by omega)) ?_
                                     refine st_val (ro_assign (v := .int _ _) rfl) ?_
                                     refine st_nil ?_
                                     refine nx_cut (q + 1) ⟨(int_eq (by rw [hs])), rfl, trivial⟩ (by (iterate 81 refine agr_cons rfl ?_); exact agr_rfl) ⟨?_, ?_⟩
                                     · exact ⟨by omega, hv.from_ (From.rfl_.next E29), hP1.from_ (From.rfl_.next E29), (hB.next E29)⟩
                                     · omega
                                · (try first | replace Q13 := bn_t Q13 | replace Q13 := bn_f Q13)
                                  (try first | replace Q13 := bx_t Q13 | replace Q13 := bx_f Q13 | replace Q13 := be_t Q13 | replace Q13 := be_f Q13 | replace Q13 := of_decide_eq_true Q13 | replace Q13 := of_decide_eq_false Q13)
                                  have hs : rk l (q + 1) = rk l q := by rw [rk_succ, bt_at (by omega), Q13]; rfl
                                  first
                                   | (exfalso; first | omega | contradiction | (cases Q13; done))
                                   | skip
                                     refine cd_skip ?_
                                     refine nx_block ?_
                                     refine nx_then ?_
                                     refine cd_region ?_
                                     refine st_val (ro_move (v := .int _ _) rfl) ?_
                                     refine st_val (ro_addN (b := 1) rfl rfl (by omega)) ?_
                                     refine st_val (ro_assign (v := .int _ _) rfl) ?_
                                     refine st_nil ?_
                                     refine nx_cut (q + 1) ⟨(int_eq (by rw [hs])), rfl, trivial⟩ (by (iterate 78 refine agr_cons rfl ?_); exact agr_rfl) ⟨?_, ?_⟩
                                     · exact ⟨by omega, hv.from_ (From.rfl_.next E29), hP1.from_ (From.rfl_.next E29), (hB.next E29)⟩
                                     · omega
                           · (try first | replace Q12 := bn_t Q12 | replace Q12 := bn_f Q12)
                             (try first | replace Q12 := bx_t Q12 | replace Q12 := bx_f Q12 | replace Q12 := be_t Q12 | replace Q12 := be_f Q12 | replace Q12 := of_decide_eq_true Q12 | replace Q12 := of_decide_eq_false Q12)
                             have hs : rk l (q + 1) = rk l q := by rw [rk_succ, bt_past (by omega)]; rfl
                             first
                              | (exfalso; first | omega | contradiction | (cases Q12; done))
                              | skip
                                refine st_gno rfl rfl ?_
                                refine st_gno rfl rfl ?_
                                refine st_gno rfl rfl ?_
                                refine st_gno rfl rfl ?_
                                refine st_gno rfl rfl ?_
                                refine st_val (ro_pickF (v := .bool _) rfl rfl) ?_
                                refine st_nil ?_
                                refine nx_then ?_
                                refine cd_condF rfl ?_
                                refine cd_skip ?_
                                refine nx_block ?_
                                refine nx_then ?_
                                refine cd_region ?_
                                refine st_val (ro_move (v := .int _ _) rfl) ?_
                                refine st_val (ro_addN (b := 1) rfl rfl (by omega)) ?_
                                refine st_val (ro_assign (v := .int _ _) rfl) ?_
                                refine st_nil ?_
                                refine nx_cut (q + 1) ⟨(int_eq (by rw [hs])), rfl, trivial⟩ (by (iterate 78 refine agr_cons rfl ?_); exact agr_rfl) ⟨?_, ?_⟩
                                · exact ⟨by omega, hv.from_ (From.rfl_.next E29), hP1.from_ (From.rfl_.next E29), (hB.next E29)⟩
                                · omega
            · (try first | replace Q7 := bn_t Q7 | replace Q7 := bn_f Q7)
              (try first | replace Q7 := bx_t Q7 | replace Q7 := bx_f Q7 | replace Q7 := be_t Q7 | replace Q7 := be_f Q7 | replace Q7 := of_decide_eq_true Q7 | replace Q7 := of_decide_eq_false Q7)
              first
               | (exfalso; first | omega | contradiction | (cases Q7; done))
               | skip
                 refine cd_exit ?_
                 refine ex_then ?_
                 refine ex_then ?_
                 refine ex_block ?_
                 refine nx_then ?_
                 refine cd_seq ?_
                 refine cd_seq ?_
                 refine cd_region ?_
                 refine st_val (ro_assign (v := .int _ _) rfl) ?_
                 refine st_nil ?_
                 refine nx_then ?_
                 refine cd_block ?_
                 refine cd_loop (G := Nat) [2, 9, 10, 11, 12, 54, 55, 56, 57, 58, 59, 60, 61, 62, 63, 64, 65, 66, 67, 68, 69, 70, 71, 72, 73, 74, 75, 76, 77, 78, 79, 80, 81, 82, 83, 84, 85, 86, 87, 88, 89, 90, 91, 92, 93, 94, 95, 96, 97, 98, 99, 100, 101, 102] (fun k => [(8, .int .i64 (k : Nat))]) (fun k w' => k ≤ is.length ∧ Vec w' w.heap.size b l ∧ Blk w' b1 25 #[.slice A l.length ca, .slice B is.length cb] ∧ From w w') (fun k => is.length - k) (0) ⟨rfl, trivial⟩ ?_ ?_
                 · exact ⟨Nat.zero_le _, hv.from_ From.rfl_, hP1.from_ From.rfl_, hB⟩
                 rintro k ρ14 w14 ⟨hk, hv, hP1, hB⟩
                 refine cd_seq ?_
                 refine cd_seq ?_
                 refine cd_region ?_
                 refine st_val (ro_move (v := .int _ _) rfl) ?_
                 refine st_val (ro_fieldAddr BitsLaw_f25_1 rfl) ?_
                 refine st_val (ro_load BitsLaw_g23 rfl (by first | (first | exact (hP1.from_ From.rfl_).whole | exact (hP1.from_ From.rfl_).rd 0 rfl | exact (hP1.from_ From.rfl_).rd 1 rfl) | (first | exact (hk1.from_ From.rfl_).whole | exact (hk1.from_ From.rfl_).rd 0 rfl | exact (hk1.from_ From.rfl_).rd 1 rfl) | (exact cellF hB (hca q (by omega))) | (exact cellF hB (hcb k (by omega))))) ?_
                 refine st_val (ro_len BitsLaw_l23 rfl) ?_
                 refine st_val (ro_lss rfl rfl) ?_
                 refine st_nil ?_
                 refine nx_then ?_
                 refine cd_cond rfl (fun Q15 => ?_) (fun Q15 => ?_)
                 · (try first | replace Q15 := bn_t Q15 | replace Q15 := bn_f Q15)
                   (try first | replace Q15 := bx_t Q15 | replace Q15 := bx_f Q15 | replace Q15 := be_t Q15 | replace Q15 := be_f Q15 | replace Q15 := of_decide_eq_true Q15 | replace Q15 := of_decide_eq_false Q15)
                   obtain ⟨bb, ob, rfl, hcb⟩ := hrB (by omega)
                   first
                    | (exfalso; first | omega | contradiction | (cases Q15; done))
                    | skip
                      refine cd_skip ?_
                      refine nx_then ?_
                      refine cd_seq ?_
                      refine cd_block ?_
                      refine cd_cut (G := Unit) [61, 62, 63, 64, 65, 66, 67, 68, 69, 70, 71, 72, 73, 74, 75, 76, 77] (fun _ => [(9, .bool (decide (0 ≤ is[k] ∧ is[k] ≤ (l.length : Int))))]) (fun _ w' => Vec w' w.heap.size b l ∧ Blk w' b1 25 #[.slice A l.length ca, .slice (some ⟨bb, ob, none⟩) is.length cb] ∧ From w w') ?_ ?_
                      · rcases Int.lt_or_le is[k] 0 with hneg | hpos
                        · have h9 : false = decide (0 ≤ is[k] ∧ is[k] ≤ (l.length : Int)) := (decide_eq_false (by omega)).symm
                          apply cd_drawn 18 [(61, eqp _), (62, eqp _), (63, eqp _), (64, eqp _), (65, eqp _), (66, eqp _), (67, eqp _), (68, eqp _), (69, eqp _), (70, eqp _), (71, eqp _), (72, eqp _), (73, eqp _), (74, eqp _), (75, eqp _), (76, eqp _), (77, eqp _), (9, eqp _)] (by kernel_rfl) (by kernel_rfl) ⟨eqp_mono _, eqp_mono _, eqp_mono _, eqp_mono _, eqp_mono _, eqp_mono _, eqp_mono _, eqp_mono _, eqp_mono _, eqp_mono _, eqp_mono _, eqp_mono _, eqp_mono _, eqp_mono _, eqp_mono _, eqp_mono _, eqp_mono _, eqp_mono _, trivial⟩
                          case hop =>
                           refine ⟨?_, ?_⟩
                           · intro w17 D17
                             show OpOK _ _ _ _ _ _ _
                             exact ok_pure (ro_fieldAddr BitsLaw_f25_1 rfl) rfl
                           refine ⟨?_, ?_⟩
                           · intro w18 D18
                             rintro _ rfl
                             show OpOK _ _ _ _ _ _ _
                             exact ok_pure (ro_load BitsLaw_g23 rfl (by first | (first | exact (hP1.from_ (From.rfl_.next D18)).whole | exact (hP1.from_ (From.rfl_.next D18)).rd 0 rfl | exact (hP1.from_ (From.rfl_.next D18)).rd 1 rfl) | (first | exact (hk1.from_ (From.rfl_.next D18)).whole | exact (hk1.from_ (From.rfl_.next D18)).rd 0 rfl | exact (hk1.from_ (From.rfl_.next D18)).rd 1 rfl) | (exact cellF (hB.next D18) (hca q (by omega))) | (exact cellF (hB.next D18) (hcb k (by omega))))) rfl
                           refine ⟨?_, ?_⟩
                           · intro w19 D19
                             show OpOK _ _ _ _ _ _ _
                             exact ok_pure (ro_move (v := .int _ _) rfl) rfl
                           refine ⟨?_, ?_⟩
                           · intro w20 D20
                             rintro _ rfl _ rfl
                             show OpOK _ _ _ _ _ _ _
                             exact ok_pure (ro_indexAddr1 BitsLaw_e23 rfl rfl (by omega)) rfl
                           refine ⟨?_, ?_⟩
                           · intro w21 D21
                             rintro _ rfl
                             show OpOK _ _ _ _ _ _ _
                             exact ok_pure (ro_load BitsLaw_g3 rfl (by exact cellF (hB.next D21) (hcb k (by omega)))) rfl
                           refine ⟨?_, ?_⟩
                           · intro w22 D22
                             rintro _ rfl
                             show OpOK _ _ _ _ _ _ _
                             exact ok_pure (ro_bf (ro_geq rfl rfl) (decide_eq_false (by omega))) rfl
                           refine ⟨?_, ?_⟩
                           · intro w23 D23
                             rintro _ rfl
                             show OpOK _ _ _ _ _ _ _
                             exact ok_pure (ro_move (v := .bool _) rfl) rfl
                           refine ⟨?_, ?_⟩
                           · intro w24 D24
                             rintro _ rfl
                             show OpOK _ _ _ _ _ _ _
                             exact ok_gno rfl rfl rfl
                           refine ⟨?_, ?_⟩
                           · intro w25 D25
                             rintro _ rfl _ rfl
                             show OpOK _ _ _ _ _ _ _
                             exact ok_gno rfl rfl rfl
                           refine ⟨?_, ?_⟩
                           · intro w26 D26
                             rintro _ rfl
                             show OpOK _ _ _ _ _ _ _
                             exact ok_gno rfl rfl rfl
                           refine ⟨?_, ?_⟩
                           · intro w27 D27
                             rintro _ rfl _ rfl _ rfl
                             show OpOK _ _ _ _ _ _ _
                             exact ok_gno rfl rfl rfl
                           refine ⟨?_, ?_⟩
                           · intro w28 D28
                             rintro _ rfl _ rfl
                             show OpOK _ _ _ _ _ _ _
                             exact ok_gno rfl rfl rfl
                           refine ⟨?_, ?_⟩
                           · intro w29 D29
                             rintro _ rfl
                             show OpOK _ _ _ _ _ _ _
                             exact ok_gno rfl rfl rfl
                           refine ⟨?_, ?_⟩
                           · intro w30 D30
                             rintro _ rfl _ rfl
                             show OpOK _ _ _ _ _ _ _
                             exact ok_gno rfl rfl rfl
                           refine ⟨?_, ?_⟩
                           · intro w31 D31
                             rintro _ rfl _ rfl
                             show OpOK _ _ _ _ _ _ _
                             exact ok_gno rfl rfl rfl
                           refine ⟨?_, ?_⟩
                           · intro w32 D32
                             rintro _ rfl _ rfl _ rfl
                             show OpOK _ _ _ _ _ _ _
                             exact ok_gno rfl rfl rfl
                           refine ⟨?_, ?_⟩
                           · intro w33 D33
                             rintro _ rfl _ rfl
                             show OpOK _ _ _ _ _ _ _
                             exact ok_pure (ro_pickF (v := .bool _) rfl rfl) rfl
                           refine ⟨?_, ?_⟩
                           · intro w34 D34
                             rintro _ rfl
                             show OpOK _ _ _ _ _ _ _
                             exact ok_pure (ro_assign (v := .bool _) rfl) rfl
                           exact trivial
                          case hend =>
                           intro w35 D35
                           rintro _ rfl _ rfl _ rfl _ rfl _ rfl _ rfl _ rfl _ rfl _ rfl _ rfl _ rfl _ rfl _ rfl _ rfl _ rfl _ rfl _ rfl _ rfl
                           show St _ _ _ _ _ _ _
                           refine st_nil ?_
                           refine nx_cut (()) ⟨(congrArg Value.bool h9), trivial⟩ (by (iterate 18 refine agr_cons rfl ?_); exact agr_rfl) ?_
                           exact ⟨hv.from_ (From.rfl_.next D35), hP1.from_ (From.rfl_.next D35), (hB.next D35)⟩
                        · have h9 : decide (is[k] ≤ (l.length : Int)) = decide (0 ≤ is[k] ∧ is[k] ≤ (l.length : Int)) := decide_eq_decide.2 (by omega)
                          apply cd_drawn 18 [(61, eqp _), (62, eqp _), (63, eqp _), (64, eqp _), (65, eqp _), (66, eqp _), (67, eqp _), (68, eqp _), (69, eqp _), (70, eqp _), (71, eqp _), (72, eqp _), (73, eqp _), (74, eqp _), (75, eqp _), (76, eqp _), (77, eqp _), (9, eqp _)] (by kernel_rfl) (by kernel_rfl) ⟨eqp_mono _, eqp_mono _, eqp_mono _, eqp_mono _, eqp_mono _, eqp_mono _, eqp_mono _, eqp_mono _, eqp_mono _, eqp_mono _, eqp_mono _, eqp_mono _, eqp_mono _, eqp_mono _, eqp_mono _, eqp_mono _, eqp_mono _, eqp_mono _, trivial⟩
                          case hop =>
                           refine ⟨?_, ?_⟩
                           · intro w37 D37
                             show OpOK _ _ _ _ _ _ _
                             exact ok_pure (ro_fieldAddr BitsLaw_f25_1 rfl) rfl
                           refine ⟨?_, ?_⟩
                           · intro w38 D38
                             rintro _ rfl
                             show OpOK _ _ _ _ _ _ _
                             exact ok_pure (ro_load BitsLaw_g23 rfl (by first | (first | exact (hP1.from_ (From.rfl_.next D38)).whole | exact (hP1.from_ (From.rfl_.next D38)).rd 0 rfl | exact (hP1.from_ (From.rfl_.next D38)).rd 1 rfl) | (first | exact (hk1.from_ (From.rfl_.next D38)).whole | exact (hk1.from_ (From.rfl_.next D38)).rd 0 rfl | exact (hk1.from_ (From.rfl_.next D38)).rd 1 rfl) | (exact cellF (hB.next D38) (hca q (by omega))) | (exact cellF (hB.next D38) (hcb k (by omega))))) rfl
                           refine ⟨?_, ?_⟩
                           · intro w39 D39
                             show OpOK _ _ _ _ _ _ _
                             exact ok_pure (ro_move (v := .int _ _) rfl) rfl
                           refine ⟨?_, ?_⟩
                           · intro w40 D40
                             rintro _ rfl _ rfl
                             show OpOK _ _ _ _ _ _ _
                             exact ok_pure (ro_indexAddr1 BitsLaw_e23 rfl rfl (by omega)) rfl
                           refine ⟨?_, ?_⟩
                           · intro w41 D41
                             rintro _ rfl
                             show OpOK _ _ _ _ _ _ _
                             exact ok_pure (ro_load BitsLaw_g3 rfl (by exact cellF (hB.next D41) (hcb k (by omega)))) rfl
                           refine ⟨?_, ?_⟩
                           · intro w42 D42
                             rintro _ rfl
                             show OpOK _ _ _ _ _ _ _
                             exact ok_pure (ro_bt (ro_geq rfl rfl) (decide_eq_true (by omega))) rfl
                           refine ⟨?_, ?_⟩
                           · intro w43 D43
                             rintro _ rfl
                             show OpOK _ _ _ _ _ _ _
                             exact ok_pure (ro_move (v := .bool _) rfl) rfl
                           refine ⟨?_, ?_⟩
                           · intro w44 D44
                             rintro _ rfl
                             show OpOK _ _ _ _ _ _ _
                             exact ok_gpure rfl (ro_fieldAddr BitsLaw_f25_1 rfl) rfl
                           refine ⟨?_, ?_⟩
                           · intro w45 D45
                             rintro _ rfl _ rfl
                             show OpOK _ _ _ _ _ _ _
                             exact ok_gpure rfl (ro_load BitsLaw_g23 rfl (by first | (first | exact (hP1.from_ (From.rfl_.next D45)).whole | exact (hP1.from_ (From.rfl_.next D45)).rd 0 rfl | exact (hP1.from_ (From.rfl_.next D45)).rd 1 rfl) | (first | exact (hk1.from_ (From.rfl_.next D45)).whole | exact (hk1.from_ (From.rfl_.next D45)).rd 0 rfl | exact (hk1.from_ (From.rfl_.next D45)).rd 1 rfl) | (exact cellF (hB.next D45) (hca q (by omega))) | (exact cellF (hB.next D45) (hcb k (by omega))))) rfl
                           refine ⟨?_, ?_⟩
                           · intro w46 D46
                             rintro _ rfl
                             show OpOK _ _ _ _ _ _ _
                             exact ok_gpure rfl (ro_move (v := .int _ _) rfl) rfl
                           refine ⟨?_, ?_⟩
                           · intro w47 D47
                             rintro _ rfl _ rfl _ rfl
                             show OpOK _ _ _ _ _ _ _
                             exact ok_gpure rfl (ro_indexAddr1 BitsLaw_e23 rfl rfl (by omega)) rfl
                           refine ⟨?_, ?_⟩
                           · intro w48 D48
                             rintro _ rfl _ rfl
                             show OpOK _ _ _ _ _ _ _
                             exact ok_gpure rfl (ro_load BitsLaw_g3 rfl (by exact cellF (hB.next D48) (hcb k (by omega)))) rfl
                           refine ⟨?_, ?_⟩
                           · intro w49 D49
                             rintro _ rfl
                             show OpOK _ _ _ _ _ _ _
                             exact ok_gpure rfl (ro_fieldAddr BitsLaw_f25_0 rfl) rfl
                           refine ⟨?_, ?_⟩
                           · intro w50 D50
                             rintro _ rfl _ rfl
                             show OpOK _ _ _ _ _ _ _
                             exact ok_gpure rfl (ro_load BitsLaw_g22 rfl (by first | (first | exact (hP1.from_ (From.rfl_.next D50)).whole | exact (hP1.from_ (From.rfl_.next D50)).rd 0 rfl | exact (hP1.from_ (From.rfl_.next D50)).rd 1 rfl) | (first | exact (hk1.from_ (From.rfl_.next D50)).whole | exact (hk1.from_ (From.rfl_.next D50)).rd 0 rfl | exact (hk1.from_ (From.rfl_.next D50)).rd 1 rfl) | (exact cellF (hB.next D50) (hca q (by omega))) | (exact cellF (hB.next D50) (hcb k (by omega))))) rfl
                           refine ⟨?_, ?_⟩
                           · intro w51 D51
                             rintro _ rfl _ rfl
                             show OpOK _ _ _ _ _ _ _
                             exact ok_gpure rfl (ro_len BitsLaw_l22 rfl) rfl
                           refine ⟨?_, ?_⟩
                           · intro w52 D52
                             rintro _ rfl _ rfl _ rfl
                             show OpOK _ _ _ _ _ _ _
                             exact ok_gpure rfl (ro_leq rfl rfl) rfl
                           refine ⟨?_, ?_⟩
                           · intro w53 D53
                             rintro _ rfl _ rfl
                             show OpOK _ _ _ _ _ _ _
                             exact ok_pure (ro_pickT (v := .bool _) rfl rfl) rfl
                           refine ⟨?_, ?_⟩
                           · intro w54 D54
                             rintro _ rfl
                             show OpOK _ _ _ _ _ _ _
                             exact ok_pure (ro_assign (v := .bool _) rfl) rfl
                           exact trivial
                          case hend =>
                           intro w55 D55
                           rintro _ rfl _ rfl _ rfl _ rfl _ rfl _ rfl _ rfl _ rfl _ rfl _ rfl _ rfl _ rfl _ rfl _ rfl _ rfl _ rfl _ rfl _ rfl
                           show St _ _ _ _ _ _ _
                           refine st_nil ?_
                           refine nx_cut (()) ⟨(congrArg Value.bool h9), trivial⟩ (by (iterate 18 refine agr_cons rfl ?_); exact agr_rfl) ?_
                           exact ⟨hv.from_ (From.rfl_.next D55), hP1.from_ (From.rfl_.next D55), (hB.next D55)⟩
                      · rintro ⟨⟩ ρ56 w56 ⟨hv, hP1, hB⟩
                        refine cd_seq ?_
                        refine cd_region ?_
                        refine st_val (ro_assign (v := .int _ _) rfl) ?_
                        refine st_nil ?_
                        refine nx_then ?_
                        refine cd_cut (G := Unit) [78, 79, 80, 81, 82, 83, 84, 85, 86] (fun _ => [(10, .int .i64 (rB l is[k]))]) (fun _ w' => Vec w' w.heap.size b l ∧ Blk w' b1 25 #[.slice A l.length ca, .slice (some ⟨bb, ob, none⟩) is.length cb] ∧ From w w') ?_ ?_
                        · refine cd_seq ?_
                          refine cd_region ?_
                          refine st_val (ro_move (v := .bool _) rfl) ?_
                          refine st_nil ?_
                          refine nx_then ?_
                          refine cd_cond rfl (fun Q57 => ?_) (fun Q57 => ?_)
                          · (try first | replace Q57 := bn_t Q57 | replace Q57 := bn_f Q57)
                            (try first | replace Q57 := bx_t Q57 | replace Q57 := bx_f Q57 | replace Q57 := be_t Q57 | replace Q57 := be_f Q57 | replace Q57 := of_decide_eq_true Q57 | replace Q57 := of_decide_eq_false Q57)
                            have h78 := Q57
                            have h10 : rB l is[k] = rB l is[k] := rfl
                            first
                             | (exfalso; first | omega | contradiction | (cases Q57; done))
                             | skip
                               apply cd_drawn 9 [(79, eqp _), (80, eqp _), (81, eqp _), (82, eqp _), (83, eqp _), (84, eqp _), (85, eqp _), (86, eqp _), (10, eqp _)] (by kernel_rfl) (by kernel_rfl) ⟨eqp_mono _, eqp_mono _, eqp_mono _, eqp_mono _, eqp_mono _, eqp_mono _, eqp_mono _, eqp_mono _, eqp_mono _, trivial⟩
                               case hop =>
                                refine ⟨?_, ?_⟩
                                · intro w59 D59
                                  show OpOK _ _ _ _ _ _ _
                                  exact ok_pure (ro_fieldAddr BitsLaw_f25_0 rfl) rfl
                                refine ⟨?_, ?_⟩
                                · intro w60 D60
                                  rintro _ rfl
                                  show OpOK _ _ _ _ _ _ _
                                  exact ok_pure (ro_load BitsLaw_g22 rfl (by first | (first | exact (hP1.from_ (From.rfl_.next D60)).whole | exact (hP1.from_ (From.rfl_.next D60)).rd 0 rfl | exact (hP1.from_ (From.rfl_.next D60)).rd 1 rfl) | (first | exact (hk1.from_ (From.rfl_.next D60)).whole | exact (hk1.from_ (From.rfl_.next D60)).rd 0 rfl | exact (hk1.from_ (From.rfl_.next D60)).rd 1 rfl) | (exact cellF (hB.next D60) (hca q (by omega))) | (exact cellF (hB.next D60) (hcb k (by omega))))) rfl
                                refine ⟨?_, ?_⟩
                                · intro w61 D61
                                  show OpOK _ _ _ _ _ _ _
                                  exact ok_pure (ro_fieldAddr BitsLaw_f25_1 rfl) rfl
                                refine ⟨?_, ?_⟩
                                · intro w62 D62
                                  rintro _ rfl
                                  show OpOK _ _ _ _ _ _ _
                                  exact ok_pure (ro_load BitsLaw_g23 rfl (by first | (first | exact (hP1.from_ (From.rfl_.next D62)).whole | exact (hP1.from_ (From.rfl_.next D62)).rd 0 rfl | exact (hP1.from_ (From.rfl_.next D62)).rd 1 rfl) | (first | exact (hk1.from_ (From.rfl_.next D62)).whole | exact (hk1.from_ (From.rfl_.next D62)).rd 0 rfl | exact (hk1.from_ (From.rfl_.next D62)).rd 1 rfl) | (exact cellF (hB.next D62) (hca q (by omega))) | (exact cellF (hB.next D62) (hcb k (by omega))))) rfl
                                refine ⟨?_, ?_⟩
                                · intro w63 D63
                                  show OpOK _ _ _ _ _ _ _
                                  exact ok_pure (ro_move (v := .int _ _) rfl) rfl
                                refine ⟨?_, ?_⟩
                                · intro w64 D64
                                  rintro _ rfl _ rfl
                                  show OpOK _ _ _ _ _ _ _
                                  exact ok_pure (ro_indexAddr1 BitsLaw_e23 rfl rfl (by omega)) rfl
                                refine ⟨?_, ?_⟩
                                · intro w65 D65
                                  rintro _ rfl
                                  show OpOK _ _ _ _ _ _ _
                                  exact ok_pure (ro_load BitsLaw_g3 rfl (by exact cellF (hB.next D65) (hcb k (by omega)))) rfl
                                refine ⟨?_, ?_⟩
                                · intro w66 D66
                                  rintro _ rfl _ rfl
                                  show OpOK _ _ _ _ _ _ _
                                  refine ok_call BitsLaw_k11 ((refRank_rt2 A ca is[k] l _ (hr.from_ (hB.next D66)) (by omega) h78).mono ?_)
                                  rintro v _ ⟨rfl, rfl⟩; exact ⟨From.rfl_, rfl⟩
                                refine ⟨?_, ?_⟩
                                · intro w67 D67
                                  rintro _ rfl
                                  show OpOK _ _ _ _ _ _ _
                                  exact ok_pure (ro_assign (v := .int _ _) rfl) rfl
                                exact trivial
                               case hend =>
                                intro w68 D68
                                rintro _ rfl _ rfl _ rfl _ rfl _ rfl _ rfl _ rfl _ rfl _ rfl
                                show St _ _ _ _ _ _ _
                                refine st_nil ?_
                                refine nx_cut (()) ⟨(int_eq h10), trivial⟩ (by (iterate 10 refine agr_cons rfl ?_); exact agr_rfl) ?_
                                exact ⟨hv.from_ (From.rfl_.next D68), hP1.from_ (From.rfl_.next D68), (hB.next D68)⟩
                          · (try first | replace Q57 := bn_t Q57 | replace Q57 := bn_f Q57)
                            (try first | replace Q57 := bx_t Q57 | replace Q57 := bx_f Q57 | replace Q57 := be_t Q57 | replace Q57 := be_f Q57 | replace Q57 := of_decide_eq_true Q57 | replace Q57 := of_decide_eq_false Q57)
                            have h10 : 0 = rB l is[k] := by unfold rB; rw [if_neg Q57]
                            first
                             | (exfalso; first | omega | contradiction | (cases Q57; done))
                             | skip
                               refine cd_skip ?_
                               refine nx_cut (()) ⟨(int_eq h10), trivial⟩ (by (iterate 1 refine agr_cons rfl ?_); exact agr_rfl) ?_
                               exact ⟨hv.from_ From.rfl_, hP1.from_ From.rfl_, hB⟩
                        · rintro ⟨⟩ ρ69 w69 ⟨hv, hP1, hB⟩
                          refine cd_seq ?_
                          refine cd_region ?_
                          refine st_val (ro_move (v := .pointer _) rfl) ?_
                          refine st_val (ro_fieldAddr BitsLaw_f25_1 rfl) ?_
                          refine st_val (ro_load BitsLaw_g23 rfl (by first | (first | exact (hP1.from_ From.rfl_).whole | exact (hP1.from_ From.rfl_).rd 0 rfl | exact (hP1.from_ From.rfl_).rd 1 rfl) | (first | exact (hk1.from_ From.rfl_).whole | exact (hk1.from_ From.rfl_).rd 0 rfl | exact (hk1.from_ From.rfl_).rd 1 rfl) | (exact cellF hB (hca q (by omega))) | (exact cellF hB (hcb k (by omega))))) ?_
                          refine st_val (ro_move (v := .int _ _) rfl) ?_
                          refine st_val (ro_indexAddr1 BitsLaw_e23 rfl rfl (by omega)) ?_
                          refine st_val (ro_load BitsLaw_g3 rfl (by exact cellF hB (hcb k (by omega)))) ?_
                          refine st_call BitsLaw_k10 (rank_rt _ b is[k] l _ (hv.from_ From.rfl_)) ?_
                          rintro v94 w70 ⟨rfl, E94⟩
                          have hT : (decide (0 ≤ is[k] ∧ is[k] ≤ (l.length : Int)) = true → rE l is[k] = 0 ∧ rB l is[k] = rB l is[k]) ∧ (decide (0 ≤ is[k] ∧ is[k] ≤ (l.length : Int)) = false → rE l is[k] = 3 ∧ rB l is[k] = 0) := by
                            refine ⟨fun h => ⟨?_, rfl⟩, fun h => ⟨?_, ?_⟩⟩
                            · unfold rE; rw [if_pos (of_decide_eq_true h)]
                            · unfold rE; rw [if_neg (of_decide_eq_false h)]
                            · unfold rB; rw [if_neg (of_decide_eq_false h)]
                          refine st_val (ro_move (v := .tuple _) rfl) ?_
                          refine st_val (ro_extract rfl rfl) ?_
                          refine st_val (ro_extract rfl rfl) ?_
                          refine st_val (ro_assign (v := .int _ _) rfl) ?_
                          refine st_val (ro_assign (v := .int _ _) rfl) ?_
                          refine st_nil ?_
                          refine nx_then ?_
                          refine cd_seq ?_
                          refine cd_region ?_
                          refine st_val (ro_move (v := .int _ _) rfl) ?_
                          refine st_val (ro_move (v := .int _ _) rfl) ?_
                          refine st_val (ro_move (v := .int _ _) rfl) ?_
                          refine st_val (ro_move (v := .bool _) rfl) ?_
                          refine st_call BitsLaw_k12 (told_any _ _ _ _ _ hT) ?_
                          rintro v101 w71 ⟨rfl, rfl⟩
                          refine st_val (ro_not rfl) ?_
                          refine st_nil ?_
                          refine nx_then ?_
                          refine cd_cond rfl (fun Q72 => ?_) (fun Q72 => ?_)
                          · (try first | replace Q72 := bn_t Q72 | replace Q72 := bn_f Q72)
                            (try first | replace Q72 := bx_t Q72 | replace Q72 := bx_f Q72 | replace Q72 := be_t Q72 | replace Q72 := be_f Q72 | replace Q72 := of_decide_eq_true Q72 | replace Q72 := of_decide_eq_false Q72)
                            first
                             | (exfalso; first | omega | contradiction | (cases Q72; done))
                             | skip
                               refine cd_seq ?_
                               refine cd_region ?_
                               refine st_val (ro_assign (v := .bool _) rfl) ?_
                               refine st_nil ?_
                               refine nx_then ?_
                               refine cd_ret ?_
                               refine rt_block ?_
                               refine rt_then ?_
                               refine rt_then ?_
                               refine rt_block ?_
                               refine rt_then ?_
                               refine res1 (v := .bool _) rfl rfl ?_
                               exact ⟨rfl, (hB.next E94)⟩
                          · (try first | replace Q72 := bn_t Q72 | replace Q72 := bn_f Q72)
                            (try first | replace Q72 := bx_t Q72 | replace Q72 := bx_f Q72 | replace Q72 := be_t Q72 | replace Q72 := be_f Q72 | replace Q72 := of_decide_eq_true Q72 | replace Q72 := of_decide_eq_false Q72)
                            first
                             | (exfalso; first | omega | contradiction | (cases Q72; done))
                             | skip
                               refine cd_skip ?_
                               refine nx_block ?_
                               refine nx_then ?_
                               refine cd_region ?_
                               refine st_val (ro_move (v := .int _ _) rfl) ?_
                               refine st_val (ro_addN (b := 1) rfl rfl (by omega)) ?_
                               refine st_val (ro_assign (v := .int _ _) rfl) ?_
                               refine st_nil ?_
                               refine nx_cut (k + 1) ⟨(by first | rfl | (refine int_eq ?_; omega)), trivial⟩ (by (iterate 110 refine agr_cons rfl ?_); exact agr_rfl) ⟨?_, ?_⟩
                               · exact ⟨by omega, hv.from_ (From.rfl_.next E94), hP1.from_ (From.rfl_.next E94), (hB.next E94)⟩
                               · omega
                 · (try first | replace Q15 := bn_t Q15 | replace Q15 := bn_f Q15)
                   (try first | replace Q15 := bx_t Q15 | replace Q15 := bx_f Q15 | replace Q15 := be_t Q15 | replace Q15 := be_f Q15 | replace Q15 := of_decide_eq_true Q15 | replace Q15 := of_decide_eq_false Q15)
                   first
                    | (exfalso; first | omega | contradiction | (cases Q15; done))
                    | skip
                      refine cd_exit ?_
                      refine ex_then ?_
                      refine ex_then ?_
                      refine ex_block ?_
                      refine nx_then ?_
                      refine cd_seq ?_
                      refine cd_region ?_
                      refine st_call BitsLaw_k9 (wakes_any _) ?_
                      rintro v103 w73 ⟨rfl, E103⟩
                      refine st_val (ro_assign (v := .bool _) rfl) ?_
                      refine st_nil ?_
                      refine nx_then ?_
                      refine cd_ret ?_
                      refine res1 (v := .bool _) rfl rfl ?_
                      exact ⟨rfl, (hB.next E103)⟩
theorem gets_arg (cs : Array Value) (x : (Ty.pr (.sl .bool) (.pr (.sl (.int .i64)) .unit)).den) (w : World) (hs : cs.size = 2) (h : (Ty.pr (.sl .bool) (.pr (.sl (.int .i64)) .unit)).At w (fun j => cs[j]?) x) :
    Rt Try.prog 3 [.agg cs] w fun v w' => v = .bool true ∧ From w w' := by
  obtain ⟨A, ca, l, B, cb, is, rfl, h1, _, h3, _, h5⟩ := ask_of hs h
  exact gets_law A B ca cb l is w h1 h3 h5
set_option maxRecDepth 100000 in
theorem BitsGets_lifted (os : Os) (started : os.Started) (H : Type) (enc : TypeId × Value → H) :
    ReturnsInHanded {} Try.checked os 3 .any (Rows.bitsGetsSpec.pre6 enc Try.prog Try.f3 Rows.bitsGetsRow.domain false) (Rows.bitsGetsSpec.post enc Try.prog Try.f3 false true false false) := by
  refine returnsInHanded_of_change_sized (C := Try.checked) Try.own started (by kernel_rfl) Try.func3
    (ChangeSpec.witness6 (enc := enc) (C := Try.checked) false ⟨#[], #[.agg #[.slice none 0 0, .slice none 0 0]], []⟩ 8 (by kernel_rfl) (by kernel_rfl) (by kernel_rfl) (by kernel_rfl)) ?_
  intro W base args ds gs before hval hW _ hsz _
  exact law_step 3 Try.f3 25 4 Rows.bitsGetsSpec Try.params3 (by kernel_rfl) Try.underlying4 rfl (fun _ => rfl) (by kernel_rfl) (of_decide_eq_true (by kernel_rfl)) (walk_st (.sl .bool) (.pr (.sl (.int .i64)) .unit) (by kernel_rfl) gets_arg) W base args ds gs before hval hW hsz

theorem BitsGets_holds : Rows.BitsGetsSaid :=
  OpenClaim.holds_of_wide 3 Try.f3 rfl rfl rfl rfl rfl rfl rfl ⟨rfl, rfl, rfl, rfl, rfl⟩ rfl rfl rfl rfl rfl (by kernel_rfl) Try.func3 (by kernel_rfl)
    (of_decide_eq_true (by kernel_rfl)) (by unfold Func.isWrapper; first | (rw [if_pos (by decide +kernel)]; kernel_rfl) | (rw [if_neg (by decide +kernel)]; exact ⟨rfl, rfl⟩))
    (fun os started H enc _ => BitsGets_lifted os started H enc)
#print axioms BitsGets_holds

theorem ranks_arg (cs : Array Value) (x : (Ty.pr (.sl .bool) (.pr (.sl (.int .i64)) .unit)).den) (w : World) (hs : cs.size = 2) (h : (Ty.pr (.sl .bool) (.pr (.sl (.int .i64)) .unit)).At w (fun j => cs[j]?) x) :
    Rt Try.prog 4 [.agg cs] w fun v w' => v = .bool true ∧ From w w' := by
  obtain ⟨A, ca, l, B, cb, is, rfl, h1, _, h3, _, h5⟩ := ask_of hs h
  exact ranks_law A B ca cb l is w h1 h3 h5
set_option maxRecDepth 100000 in
theorem BitsRanks_lifted (os : Os) (started : os.Started) (H : Type) (enc : TypeId × Value → H) :
    ReturnsInHanded {} Try.checked os 4 .any (Rows.bitsRanksSpec.pre6 enc Try.prog Try.f4 Rows.bitsRanksRow.domain false) (Rows.bitsRanksSpec.post enc Try.prog Try.f4 false true false false) := by
  refine returnsInHanded_of_change_sized (C := Try.checked) Try.own started (by kernel_rfl) Try.func4
    (ChangeSpec.witness6 (enc := enc) (C := Try.checked) false ⟨#[], #[.agg #[.slice none 0 0, .slice none 0 0]], []⟩ 8 (by kernel_rfl) (by kernel_rfl) (by kernel_rfl) (by kernel_rfl)) ?_
  intro W base args ds gs before hval hW _ hsz _
  exact law_step 4 Try.f4 25 4 Rows.bitsRanksSpec Try.params4 (by kernel_rfl) Try.underlying4 rfl (fun _ => rfl) (by kernel_rfl) (of_decide_eq_true (by kernel_rfl)) (walk_st (.sl .bool) (.pr (.sl (.int .i64)) .unit) (by kernel_rfl) ranks_arg) W base args ds gs before hval hW hsz

theorem BitsRanks_holds : Rows.BitsRanksSaid :=
  OpenClaim.holds_of_wide 4 Try.f4 rfl rfl rfl rfl rfl rfl rfl ⟨rfl, rfl, rfl, rfl, rfl⟩ rfl rfl rfl rfl rfl (by kernel_rfl) Try.func4 (by kernel_rfl)
    (of_decide_eq_true (by kernel_rfl)) (by unfold Func.isWrapper; first | (rw [if_pos (by decide +kernel)]; kernel_rfl) | (rw [if_neg (by decide +kernel)]; exact ⟨rfl, rfl⟩))
    (fun os started H enc _ => BitsRanks_lifted os started H enc)
#print axioms BitsRanks_holds

end Go.Proofs.Ytmjppicoffbdcaa
