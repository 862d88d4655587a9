/- The law of package ints on widths. -/
import Derived.Test.YtgnmmifolhoaeaaIntsLaws2
namespace Go.Proofs.Ytgnmmifolhoaeaa
open Go.RowKit

theorem IntsLaws3_q23 : litQ Try.prog 23 = some (47, 1, 8, (.int .u64 0)) := by kernel_rfl
theorem IntsLaws3_k9 : callable Try.prog 9 = true := by kernel_rfl
theorem IntsLaws3_k12 : callable Try.prog 12 = true := by kernel_rfl
theorem IntsLaws3_p29 : Try.prog.underlying 29 = some (.pointer (Try.prog.pointee 29)) := by kernel_rfl
theorem IntsLaws3_k22 : callable Try.prog 22 = true := by kernel_rfl
theorem IntsLaws3_k23 : callable Try.prog 23 = true := by kernel_rfl
theorem IntsLaws3_k14 : callable Try.prog 14 = true := by kernel_rfl
theorem IntsLaws3_l24 : (elemQ Try.prog 24).isSome = true := by kernel_rfl
theorem IntsLaws3_k24 : callable Try.prog 24 = true := by kernel_rfl
theorem IntsLaws3_l22 : (elemQ Try.prog 22).isSome = true := by kernel_rfl
theorem IntsLaws3_k18 : callable Try.prog 18 = true := by kernel_rfl
set_option maxRecDepth 100000 in
set_option maxHeartbeats 2000000 in
theorem intsWidths_law (A : Option Addr) (c n : Nat) (w : World) :
    Rt Try.prog 6 [.slice A n c] w (fun v w' => v = .bool true ∧ From w w') := by
  refine enter (n := 155) Try.func6 rfl rfl rfl ?_
  refine cd_seq ?_
  refine cd_region ?_
  refine st_val (ro_assign (v := .bool _) rfl) ?_
  refine st_nil ?_
  refine nx_then ?_
  refine cd_seq ?_
  refine cd_seq ?_
  refine cd_region ?_
  refine st_val (ro_assign (v := .int _ _) rfl) ?_
  refine st_nil ?_
  refine nx_then ?_
  refine cd_block ?_
  refine cd_loop (G := Nat) [2, 4, 5, 6, 7, 8, 9, 10, 11, 12, 13, 14, 19, 20, 21, 22, 23, 24, 25, 26, 27, 28, 29, 30, 31, 32, 33, 34, 35, 36, 37, 38, 39, 40, 41, 42, 43, 44, 45, 46, 47, 48, 49, 50, 51, 52, 53, 54, 55, 56, 57, 58, 59, 60, 61, 62, 63, 64, 65, 66, 67, 68, 69, 70, 71, 72, 73, 74, 75, 76, 77, 78, 79, 80, 81, 82, 83, 84, 85, 86, 87, 88, 89, 90, 91, 92, 93, 94, 95, 96, 97, 98, 99, 100, 101, 102, 103, 104, 105, 106, 107, 108, 109, 110, 111, 112, 113, 114, 115, 116, 117, 118, 119, 120, 121, 122] (fun k => [(3, .int .i64 (k : Nat))]) (fun k w' => k ≤ 65 ∧ From w w') (fun k => 65 - k) (0) ⟨rfl, trivial⟩ ?_ ?_
  · exact ⟨by omega, From.rfl_⟩
  rintro k ρ1 w1 ⟨hk, hB⟩
  refine cd_seq ?_
  refine cd_seq ?_
  refine cd_region ?_
  refine st_val (ro_move (v := .int _ _) rfl) ?_
  refine st_val (ro_leq rfl rfl) ?_
  refine st_nil ?_
  refine nx_then ?_
  refine cd_cond rfl (fun Q2 => ?_) (fun Q2 => ?_)
  · (try first | replace Q2 := bn_t Q2 | replace Q2 := bn_f Q2)
    (try first | replace Q2 := bx_t Q2 | replace Q2 := bx_f Q2 | replace Q2 := be_t Q2 | replace Q2 := be_f Q2 | replace Q2 := of_decide_eq_true Q2 | replace Q2 := of_decide_eq_false Q2)
    first
     | (exfalso; first | omega | contradiction | (cases Q2; done))
     | skip
       refine cd_skip ?_
       refine nx_then ?_
       refine cd_seq ?_
       refine cd_block ?_
       refine cd_seq ?_
       refine cd_region ?_
       refine st_val (ro_move (v := .int _ _) rfl) ?_
       refine st_val (ro_shlN (a := 1) rfl rfl (by omega)) ?_
       refine st_val (ro_sub rfl rfl) ?_
       refine st_spell (t := 25) (v := .int _ _) (v' := .int .u64 ((2 ^ k - 1 : Nat) : Int)) rfl (by exact int_eq (top_eq k (by omega))) ?_
       refine st_val (ro_assign (v := .int _ _) rfl) ?_
       refine st_nil ?_
       refine nx_then ?_
       refine cd_cut (G := Unit) [26, 27] (fun _ => [(4, .int .u64 ((2 ^ k - 1 : Nat) : Int))]) (fun _ w' => From w w') ?_ ?_
       · refine cd_seq ?_
         refine cd_region ?_
         refine st_val (ro_move (v := .int _ _) rfl) ?_
         refine st_val (ro_eql rfl rfl) ?_
         refine st_nil ?_
         refine nx_then ?_
         refine cd_cond rfl (fun Q3 => ?_) (fun Q3 => ?_)
         · (try first | replace Q3 := bn_t Q3 | replace Q3 := bn_f Q3)
           (try first | replace Q3 := bx_t Q3 | replace Q3 := bx_f Q3 | replace Q3 := be_t Q3 | replace Q3 := be_f Q3 | replace Q3 := of_decide_eq_true Q3 | replace Q3 := of_decide_eq_false Q3)
           first
            | (exfalso; first | omega | contradiction | (cases Q3; done))
            | skip
              refine cd_region ?_
              refine st_val (ro_assign (v := .int _ _) rfl) ?_
              refine st_nil ?_
              refine nx_cut (()) ⟨(by first | rfl | (have hk64 : k = 64 := (by omega); subst hk64; rfl)), trivial⟩ (by (iterate 3 refine agr_cons rfl ?_); exact agr_rfl) ?_
              exact hB
         · (try first | replace Q3 := bn_t Q3 | replace Q3 := bn_f Q3)
           (try first | replace Q3 := bx_t Q3 | replace Q3 := bx_f Q3 | replace Q3 := be_t Q3 | replace Q3 := be_f Q3 | replace Q3 := of_decide_eq_true Q3 | replace Q3 := of_decide_eq_false Q3)
           first
            | (exfalso; first | omega | contradiction | (cases Q3; done))
            | skip
              refine cd_skip ?_
              refine nx_cut (()) ⟨(by first | rfl | (have hk64 : k = 64 := (by omega); subst hk64; rfl)), trivial⟩ (by (iterate 2 refine agr_cons rfl ?_); exact agr_rfl) ?_
              exact hB
       · rintro _ ρ4 w4 hB
         refine cd_seq ?_
         refine cd_region ?_
         refine st_val (ro_move (v := .int _ _) rfl) ?_
         refine st_val (ro_move (v := .int _ _) rfl) ?_
         refine st_val (ro_move (v := .int _ _) rfl) ?_
         refine st_lits [.tmp 30, .const (.int .u64 0), .tmp 31] [.int _ _, .int .u64 0, .int _ _] IntsLaws3_q23 rfl rfl rfl rfl (by simp [Value.cells]) ?_
         intro b32 w5 E32 hb32 hk32
         refine st_call IntsLaws3_k9 (new_rt k (some ⟨b32, 0, none⟩) 3 [2 ^ k - 1, 0, 2 ^ k - 1] _ (rows3 hk32) (by simp) (top_lt k (by omega))) ?_
         rintro v33 w6 ⟨hn33, E33⟩
         rcases hn33 with ⟨_, hm⟩ | ⟨g, W1, rfl, hW1, hm, hlt, hW, hI⟩
         · rw [may_top k (by omega)] at hm; cases hm
         · obtain rfl : k = W1 := by omega
           refine st_val (ro_move (v := .tuple _) rfl) ?_
           refine st_val (ro_extract rfl rfl) ?_
           refine st_val (ro_extract rfl rfl) ?_
           refine st_val (ro_assign (v := .pointer _) rfl) ?_
           refine st_val (ro_assign (v := .int _ _) rfl) ?_
           refine st_nil ?_
           refine nx_then ?_
           refine cd_seq ?_
           refine cd_seq ?_
           refine cd_region ?_
           refine st_val (ro_move (v := .int _ _) rfl) ?_
           refine st_call IntsLaws3_k12 (num_any _ _) ?_
           rintro v37 w7 ⟨rfl, rfl⟩
           refine st_val (ro_neq rfl rfl) ?_
           refine st_val (ro_move (v := .bool _) rfl) ?_
           refine st_split (t := 39) rfl (fun Q8 => ?_) (fun Q8 => ?_)
           · (try first | replace Q8 := bn_t Q8 | replace Q8 := bn_f Q8)
             (try first | replace Q8 := bx_t Q8 | replace Q8 := bx_f Q8 | replace Q8 := be_t Q8 | replace Q8 := be_f Q8 | replace Q8 := of_decide_eq_true Q8 | replace Q8 := of_decide_eq_false Q8)
             first
              | (exfalso; first | omega | contradiction | (cases Q8; done))
              | skip
                refine st_gno rfl rfl ?_
                refine st_gno rfl rfl ?_
                refine st_val (ro_pickT (v := .bool _) rfl rfl) ?_
                refine st_val (ro_move (v := .bool _) rfl) ?_
                refine st_gno rfl rfl ?_
                refine st_gno rfl rfl ?_
                refine st_gno rfl rfl ?_
                refine st_gno rfl rfl ?_
                refine st_val (ro_pickT (v := .bool _) rfl rfl) ?_
                refine st_val (ro_move (v := .bool _) rfl) ?_
                refine st_gno rfl rfl ?_
                refine st_gno rfl rfl ?_
                refine st_gno rfl rfl ?_
                refine st_val (ro_pickT (v := .bool _) rfl rfl) ?_
                refine st_val (ro_move (v := .bool _) rfl) ?_
                refine st_gno rfl rfl ?_
                refine st_gno rfl rfl ?_
                refine st_gno rfl rfl ?_
                refine st_gno rfl rfl ?_
                refine st_gno rfl rfl ?_
                refine st_gno rfl rfl ?_
                refine st_gno rfl rfl ?_
                refine st_gno rfl rfl ?_
                refine st_val (ro_pickT (v := .bool _) rfl rfl) ?_
                refine st_nil ?_
                refine nx_then ?_
                refine cd_condT rfl ?_
                refine cd_seq ?_
                refine cd_region ?_
                refine st_val (ro_assign (v := .bool _) rfl) ?_
                refine st_nil ?_
                refine nx_then ?_
                refine cd_ret ?_
                refine rt_then ?_
                refine rt_block ?_
                refine rt_then ?_
                refine rt_then ?_
                refine rt_block ?_
                refine rt_then ?_
                refine res1 (v := .bool _) rfl rfl ?_
                exfalso; first | omega | contradiction
           · (try first | replace Q8 := bn_t Q8 | replace Q8 := bn_f Q8)
             (try first | replace Q8 := bx_t Q8 | replace Q8 := bx_f Q8 | replace Q8 := be_t Q8 | replace Q8 := be_f Q8 | replace Q8 := of_decide_eq_true Q8 | replace Q8 := of_decide_eq_false Q8)
             first
              | (exfalso; first | omega | contradiction | (cases Q8; done))
              | skip
                refine st_unguard rfl ?_
                refine st_val (ro_move (v := .pointer _) rfl) ?_
                refine st_unguard rfl ?_
                refine st_val (ro_eqlNil IntsLaws3_p29 rfl rfl) ?_
                refine st_val (ro_pickF (v := .bool _) rfl rfl) ?_
                refine st_val (ro_move (v := .bool _) rfl) ?_
                refine st_split (t := 43) rfl (fun Q9 => ?_) (fun Q9 => ?_)
                · (try first | replace Q9 := bn_t Q9 | replace Q9 := bn_f Q9)
                  (try first | replace Q9 := bx_t Q9 | replace Q9 := bx_f Q9 | replace Q9 := be_t Q9 | replace Q9 := be_f Q9 | replace Q9 := of_decide_eq_true Q9 | replace Q9 := of_decide_eq_false Q9)
                  first
                   | (exfalso; first | omega | contradiction | (cases Q9; done))
                   | skip
                     refine st_gno rfl rfl ?_
                     refine st_gno rfl rfl ?_
                     refine st_gno rfl rfl ?_
                     refine st_gno rfl rfl ?_
                     refine st_val (ro_pickT (v := .bool _) rfl rfl) ?_
                     refine st_val (ro_move (v := .bool _) rfl) ?_
                     refine st_gno rfl rfl ?_
                     refine st_gno rfl rfl ?_
                     refine st_gno rfl rfl ?_
                     refine st_val (ro_pickT (v := .bool _) rfl rfl) ?_
                     refine st_val (ro_move (v := .bool _) rfl) ?_
                     refine st_gno rfl rfl ?_
                     refine st_gno rfl rfl ?_
                     refine st_gno rfl rfl ?_
                     refine st_gno rfl rfl ?_
                     refine st_gno rfl rfl ?_
                     refine st_gno rfl rfl ?_
                     refine st_gno rfl rfl ?_
                     refine st_gno rfl rfl ?_
                     refine st_val (ro_pickT (v := .bool _) rfl rfl) ?_
                     refine st_nil ?_
                     refine nx_then ?_
                     refine cd_condT rfl ?_
                     refine cd_seq ?_
                     refine cd_region ?_
                     refine st_val (ro_assign (v := .bool _) rfl) ?_
                     refine st_nil ?_
                     refine nx_then ?_
                     refine cd_ret ?_
                     refine rt_then ?_
                     refine rt_block ?_
                     refine rt_then ?_
                     refine rt_then ?_
                     refine rt_block ?_
                     refine rt_then ?_
                     refine res1 (v := .bool _) rfl rfl ?_
                     exfalso; first | omega | contradiction
                · (try first | replace Q9 := bn_t Q9 | replace Q9 := bn_f Q9)
                  (try first | replace Q9 := bx_t Q9 | replace Q9 := bx_f Q9 | replace Q9 := be_t Q9 | replace Q9 := be_f Q9 | replace Q9 := of_decide_eq_true Q9 | replace Q9 := of_decide_eq_false Q9)
                  first
                   | (exfalso; first | omega | contradiction | (cases Q9; done))
                   | skip
                     refine st_unguard rfl ?_
                     refine st_val (ro_move (v := .pointer _) rfl) ?_
                     refine st_unguard rfl ?_
                     refine st_call IntsLaws3_k22 (Rt.of (width_any _ g k [2 ^ k - 1, 0, 2 ^ k - 1] _ (hI.from_ From.rfl_))) ?_
                     rintro v45 w10 ⟨rfl, E45⟩
                     refine st_unguard rfl ?_
                     refine st_val (ro_move (v := .int _ _) rfl) ?_
                     refine st_unguard rfl ?_
                     refine st_val (ro_neq rfl rfl) ?_
                     refine st_val (ro_pickF (v := .bool _) rfl rfl) ?_
                     refine st_val (ro_move (v := .bool _) rfl) ?_
                     refine st_split (t := 49) rfl (fun Q11 => ?_) (fun Q11 => ?_)
                     · (try first | replace Q11 := bn_t Q11 | replace Q11 := bn_f Q11)
                       (try first | replace Q11 := bx_t Q11 | replace Q11 := bx_f Q11 | replace Q11 := be_t Q11 | replace Q11 := be_f Q11 | replace Q11 := of_decide_eq_true Q11 | replace Q11 := of_decide_eq_false Q11)
                       first
                        | (exfalso; first | omega | contradiction | (cases Q11; done))
                        | skip
                          refine st_gno rfl rfl ?_
                          refine st_gno rfl rfl ?_
                          refine st_gno rfl rfl ?_
                          refine st_val (ro_pickT (v := .bool _) rfl rfl) ?_
                          refine st_val (ro_move (v := .bool _) rfl) ?_
                          refine st_gno rfl rfl ?_
                          refine st_gno rfl rfl ?_
                          refine st_gno rfl rfl ?_
                          refine st_gno rfl rfl ?_
                          refine st_gno rfl rfl ?_
                          refine st_gno rfl rfl ?_
                          refine st_gno rfl rfl ?_
                          refine st_gno rfl rfl ?_
                          refine st_val (ro_pickT (v := .bool _) rfl rfl) ?_
                          refine st_nil ?_
                          refine nx_then ?_
                          refine cd_condT rfl ?_
                          refine cd_seq ?_
                          refine cd_region ?_
                          refine st_val (ro_assign (v := .bool _) rfl) ?_
                          refine st_nil ?_
                          refine nx_then ?_
                          refine cd_ret ?_
                          refine rt_then ?_
                          refine rt_block ?_
                          refine rt_then ?_
                          refine rt_then ?_
                          refine rt_block ?_
                          refine rt_then ?_
                          refine res1 (v := .bool _) rfl rfl ?_
                          exfalso; first | omega | contradiction
                     · (try first | replace Q11 := bn_t Q11 | replace Q11 := bn_f Q11)
                       (try first | replace Q11 := bx_t Q11 | replace Q11 := bx_f Q11 | replace Q11 := be_t Q11 | replace Q11 := be_f Q11 | replace Q11 := of_decide_eq_true Q11 | replace Q11 := of_decide_eq_false Q11)
                       first
                        | (exfalso; first | omega | contradiction | (cases Q11; done))
                        | skip
                          refine st_unguard rfl ?_
                          refine st_val (ro_move (v := .pointer _) rfl) ?_
                          refine st_unguard rfl ?_
                          refine st_call IntsLaws3_k23 (Rt.of (len_any _ g k [2 ^ k - 1, 0, 2 ^ k - 1] _ (hI.from_ (From.rfl_.next E45)))) ?_
                          rintro v51 w12 ⟨rfl, E51⟩
                          refine st_unguard rfl ?_
                          refine st_val (ro_neq rfl rfl) ?_
                          refine st_val (ro_pickF (v := .bool _) rfl rfl) ?_
                          refine st_val (ro_move (v := .bool _) rfl) ?_
                          refine st_split (t := 54) rfl (fun Q13 => ?_) (fun Q13 => ?_)
                          · (try first | replace Q13 := bn_t Q13 | replace Q13 := bn_f Q13)
                            (try first | replace Q13 := bx_t Q13 | replace Q13 := bx_f Q13 | replace Q13 := be_t Q13 | replace Q13 := be_f Q13 | replace Q13 := of_decide_eq_true Q13 | replace Q13 := of_decide_eq_false Q13)
                            first
                             | (exfalso; first | omega | contradiction | (cases Q13; done))
                             | skip
                               refine st_gno rfl rfl ?_
                               refine st_gno rfl rfl ?_
                               refine st_gno rfl rfl ?_
                               refine st_gno rfl rfl ?_
                               refine st_gno rfl rfl ?_
                               refine st_gno rfl rfl ?_
                               refine st_gno rfl rfl ?_
                               refine st_gno rfl rfl ?_
                               refine st_val (ro_pickT (v := .bool _) rfl rfl) ?_
                               refine st_nil ?_
                               refine nx_then ?_
                               refine cd_condT rfl ?_
                               refine cd_seq ?_
                               refine cd_region ?_
                               refine st_val (ro_assign (v := .bool _) rfl) ?_
                               refine st_nil ?_
                               refine nx_then ?_
                               refine cd_ret ?_
                               refine rt_then ?_
                               refine rt_block ?_
                               refine rt_then ?_
                               refine rt_then ?_
                               refine rt_block ?_
                               refine rt_then ?_
                               refine res1 (v := .bool _) rfl rfl ?_
                               exfalso; first | omega | contradiction
                          · (try first | replace Q13 := bn_t Q13 | replace Q13 := bn_f Q13)
                            (try first | replace Q13 := bx_t Q13 | replace Q13 := bx_f Q13 | replace Q13 := be_t Q13 | replace Q13 := be_f Q13 | replace Q13 := of_decide_eq_true Q13 | replace Q13 := of_decide_eq_false Q13)
                            first
                             | (exfalso; first | omega | contradiction | (cases Q13; done))
                             | skip
                               refine st_unguard rfl ?_
                               refine st_val (ro_move (v := .pointer _) rfl) ?_
                               refine st_unguard rfl ?_
                               refine st_call IntsLaws3_k14 (bytes_rt _ g k [2 ^ k - 1, 0, 2 ^ k - 1] _ (hI.from_ ((From.rfl_.next E45).next E51))) ?_
                               rintro v56 w14 ⟨A56, c56, bs56, rfl, ho56, hl56, hp56, E56⟩
                               have hbl : bs56.length = (k * 3 + 7) / 8 := hl56
                               refine st_unguard rfl ?_
                               refine st_val (ro_len IntsLaws3_l24 rfl) ?_
                               refine st_unguard rfl ?_
                               refine st_val (ro_move (v := .int _ _) rfl) ?_
                               refine st_unguard rfl ?_
                               refine st_val (ro_mulN (a := 3) rfl rfl (by omega)) ?_
                               refine st_unguard rfl ?_
                               refine st_val (ro_addN (b := 7) rfl rfl (by omega)) ?_
                               refine st_unguard rfl ?_
                               refine st_val (ro_quoN (b := 8) rfl rfl (by omega)) ?_
                               refine st_unguard rfl ?_
                               refine st_val (ro_neq rfl rfl) ?_
                               refine st_val (ro_pickF (v := .bool _) rfl rfl) ?_
                               refine st_nil ?_
                               refine nx_then ?_
                               refine cd_cond rfl (fun Q15 => ?_) (fun Q15 => ?_)
                               · (try first | replace Q15 := bn_t Q15 | replace Q15 := bn_f Q15)
                                 (try first | replace Q15 := bx_t Q15 | replace Q15 := bx_f Q15 | replace Q15 := be_t Q15 | replace Q15 := be_f Q15 | replace Q15 := of_decide_eq_true Q15 | replace Q15 := of_decide_eq_false Q15)
                                 first
                                  | (exfalso; first | omega | contradiction | (cases Q15; done))
                                  | skip
                                    refine cd_seq ?_
                                    refine cd_region ?_
                                    refine st_val (ro_assign (v := .bool _) rfl) ?_
                                    refine st_nil ?_
                                    refine nx_then ?_
                                    refine cd_ret ?_
                                    refine rt_then ?_
                                    refine rt_block ?_
                                    refine rt_then ?_
                                    refine rt_then ?_
                                    refine rt_block ?_
                                    refine rt_then ?_
                                    refine res1 (v := .bool _) rfl rfl ?_
                                    exfalso; first | omega | contradiction
                               · (try first | replace Q15 := bn_t Q15 | replace Q15 := bn_f Q15)
                                 (try first | replace Q15 := bx_t Q15 | replace Q15 := bx_f Q15 | replace Q15 := be_t Q15 | replace Q15 := be_f Q15 | replace Q15 := of_decide_eq_true Q15 | replace Q15 := of_decide_eq_false Q15)
                                 first
                                  | (exfalso; first | omega | contradiction | (cases Q15; done))
                                  | skip
                                    refine cd_skip ?_
                                    refine nx_then ?_
                                    refine cd_seq ?_
                                    refine cd_region ?_
                                    refine st_val (ro_move (v := .pointer _) rfl) ?_
                                    refine st_call IntsLaws3_k24 (get_rt _ g k [2 ^ k - 1, 0, 2 ^ k - 1] 0 _ (hI.from_ (((From.rfl_.next E45).next E51).next E56))) ?_
                                    rintro v66 w16 ⟨x66, e66, rfl, hi66, hn66, hx66, E66⟩
                                    obtain rfl : e66 = 0 := hi66 ⟨by decide, by simp⟩
                                    obtain rfl : x66 = 2 ^ k - 1 := hx66 0 (by simp) rfl
                                    refine st_val (ro_move (v := .tuple _) rfl) ?_
                                    refine st_val (ro_extract rfl rfl) ?_
                                    refine st_val (ro_extract rfl rfl) ?_
                                    refine st_val (ro_assign (v := .int _ _) rfl) ?_
                                    refine st_val (ro_assign (v := .int _ _) rfl) ?_
                                    refine st_nil ?_
                                    refine nx_then ?_
                                    refine cd_seq ?_
                                    refine cd_region ?_
                                    refine st_val (ro_move (v := .pointer _) rfl) ?_
                                    refine st_call IntsLaws3_k24 (get_rt _ g k [2 ^ k - 1, 0, 2 ^ k - 1] 1 _ (hI.from_ ((((From.rfl_.next E45).next E51).next E56).next E66))) ?_
                                    rintro v71 w17 ⟨x71, e71, rfl, hi71, hn71, hx71, E71⟩
                                    obtain rfl : e71 = 0 := hi71 ⟨by decide, by simp⟩
                                    obtain rfl : x71 = 0 := hx71 1 (by simp) rfl
                                    refine st_val (ro_move (v := .tuple _) rfl) ?_
                                    refine st_val (ro_extract rfl rfl) ?_
                                    refine st_val (ro_extract rfl rfl) ?_
                                    refine st_val (ro_assign (v := .int _ _) rfl) ?_
                                    refine st_val (ro_assign (v := .int _ _) rfl) ?_
                                    refine st_nil ?_
                                    refine nx_then ?_
                                    refine cd_seq ?_
                                    refine cd_region ?_
                                    refine st_val (ro_move (v := .pointer _) rfl) ?_
                                    refine st_call IntsLaws3_k24 (get_rt _ g k [2 ^ k - 1, 0, 2 ^ k - 1] 2 _ (hI.from_ (((((From.rfl_.next E45).next E51).next E56).next E66).next E71))) ?_
                                    rintro v76 w18 ⟨x76, e76, rfl, hi76, hn76, hx76, E76⟩
                                    obtain rfl : e76 = 0 := hi76 ⟨by decide, by simp⟩
                                    obtain rfl : x76 = 2 ^ k - 1 := hx76 2 (by simp) rfl
                                    refine st_val (ro_move (v := .tuple _) rfl) ?_
                                    refine st_val (ro_extract rfl rfl) ?_
                                    refine st_val (ro_extract rfl rfl) ?_
                                    refine st_val (ro_assign (v := .int _ _) rfl) ?_
                                    refine st_val (ro_assign (v := .int _ _) rfl) ?_
                                    refine st_nil ?_
                                    refine nx_then ?_
                                    refine cd_seq ?_
                                    refine cd_seq ?_
                                    refine cd_region ?_
                                    refine st_val (ro_move (v := .int _ _) rfl) ?_
                                    refine st_call IntsLaws3_k12 (num_any _ _) ?_
                                    rintro v80 w19 ⟨rfl, rfl⟩
                                    refine st_val (ro_neq rfl rfl) ?_
                                    refine st_val (ro_move (v := .bool _) rfl) ?_
                                    refine st_split (t := 82) rfl (fun Q20 => ?_) (fun Q20 => ?_)
                                    · (try first | replace Q20 := bn_t Q20 | replace Q20 := bn_f Q20)
                                      (try first | replace Q20 := bx_t Q20 | replace Q20 := bx_f Q20 | replace Q20 := be_t Q20 | replace Q20 := be_f Q20 | replace Q20 := of_decide_eq_true Q20 | replace Q20 := of_decide_eq_false Q20)
                                      first
                                       | (exfalso; first | omega | contradiction | (cases Q20; done))
                                       | skip
                                         refine st_gno rfl rfl ?_
                                         refine st_gno rfl rfl ?_
                                         refine st_gno rfl rfl ?_
                                         refine st_val (ro_pickT (v := .bool _) rfl rfl) ?_
                                         refine st_val (ro_move (v := .bool _) rfl) ?_
                                         refine st_gno rfl rfl ?_
                                         refine st_gno rfl rfl ?_
                                         refine st_gno rfl rfl ?_
                                         refine st_val (ro_pickT (v := .bool _) rfl rfl) ?_
                                         refine st_val (ro_move (v := .bool _) rfl) ?_
                                         refine st_gno rfl rfl ?_
                                         refine st_gno rfl rfl ?_
                                         refine st_gno rfl rfl ?_
                                         refine st_val (ro_pickT (v := .bool _) rfl rfl) ?_
                                         refine st_val (ro_move (v := .bool _) rfl) ?_
                                         refine st_gno rfl rfl ?_
                                         refine st_gno rfl rfl ?_
                                         refine st_val (ro_pickT (v := .bool _) rfl rfl) ?_
                                         refine st_val (ro_move (v := .bool _) rfl) ?_
                                         refine st_gno rfl rfl ?_
                                         refine st_gno rfl rfl ?_
                                         refine st_gno rfl rfl ?_
                                         refine st_val (ro_pickT (v := .bool _) rfl rfl) ?_
                                         refine st_nil ?_
                                         refine nx_then ?_
                                         refine cd_condT rfl ?_
                                         refine cd_seq ?_
                                         refine cd_region ?_
                                         refine st_val (ro_assign (v := .bool _) rfl) ?_
                                         refine st_nil ?_
                                         refine nx_then ?_
                                         refine cd_ret ?_
                                         refine rt_then ?_
                                         refine rt_block ?_
                                         refine rt_then ?_
                                         refine rt_then ?_
                                         refine rt_block ?_
                                         refine rt_then ?_
                                         refine res1 (v := .bool _) rfl rfl ?_
                                         exfalso; first | omega | contradiction
                                    · (try first | replace Q20 := bn_t Q20 | replace Q20 := bn_f Q20)
                                      (try first | replace Q20 := bx_t Q20 | replace Q20 := bx_f Q20 | replace Q20 := be_t Q20 | replace Q20 := be_f Q20 | replace Q20 := of_decide_eq_true Q20 | replace Q20 := of_decide_eq_false Q20)
                                      first
                                       | (exfalso; first | omega | contradiction | (cases Q20; done))
                                       | skip
                                         refine st_unguard rfl ?_
                                         refine st_val (ro_move (v := .int _ _) rfl) ?_
                                         refine st_unguard rfl ?_
                                         refine st_call IntsLaws3_k12 (num_any _ _) ?_
                                         rintro v84 w21 ⟨rfl, rfl⟩
                                         refine st_unguard rfl ?_
                                         refine st_val (ro_neq rfl rfl) ?_
                                         refine st_val (ro_pickF (v := .bool _) rfl rfl) ?_
                                         refine st_val (ro_move (v := .bool _) rfl) ?_
                                         refine st_split (t := 87) rfl (fun Q22 => ?_) (fun Q22 => ?_)
                                         · (try first | replace Q22 := bn_t Q22 | replace Q22 := bn_f Q22)
                                           (try first | replace Q22 := bx_t Q22 | replace Q22 := bx_f Q22 | replace Q22 := be_t Q22 | replace Q22 := be_f Q22 | replace Q22 := of_decide_eq_true Q22 | replace Q22 := of_decide_eq_false Q22)
                                           first
                                            | (exfalso; first | omega | contradiction | (cases Q22; done))
                                            | skip
                                              refine st_gno rfl rfl ?_
                                              refine st_gno rfl rfl ?_
                                              refine st_gno rfl rfl ?_
                                              refine st_val (ro_pickT (v := .bool _) rfl rfl) ?_
                                              refine st_val (ro_move (v := .bool _) rfl) ?_
                                              refine st_gno rfl rfl ?_
                                              refine st_gno rfl rfl ?_
                                              refine st_gno rfl rfl ?_
                                              refine st_val (ro_pickT (v := .bool _) rfl rfl) ?_
                                              refine st_val (ro_move (v := .bool _) rfl) ?_
                                              refine st_gno rfl rfl ?_
                                              refine st_gno rfl rfl ?_
                                              refine st_val (ro_pickT (v := .bool _) rfl rfl) ?_
                                              refine st_val (ro_move (v := .bool _) rfl) ?_
                                              refine st_gno rfl rfl ?_
                                              refine st_gno rfl rfl ?_
                                              refine st_gno rfl rfl ?_
                                              refine st_val (ro_pickT (v := .bool _) rfl rfl) ?_
                                              refine st_nil ?_
                                              refine nx_then ?_
                                              refine cd_condT rfl ?_
                                              refine cd_seq ?_
                                              refine cd_region ?_
                                              refine st_val (ro_assign (v := .bool _) rfl) ?_
                                              refine st_nil ?_
                                              refine nx_then ?_
                                              refine cd_ret ?_
                                              refine rt_then ?_
                                              refine rt_block ?_
                                              refine rt_then ?_
                                              refine rt_then ?_
                                              refine rt_block ?_
                                              refine rt_then ?_
                                              refine res1 (v := .bool _) rfl rfl ?_
                                              exfalso; first | omega | contradiction
                                         · (try first | replace Q22 := bn_t Q22 | replace Q22 := bn_f Q22)
                                           (try first | replace Q22 := bx_t Q22 | replace Q22 := bx_f Q22 | replace Q22 := be_t Q22 | replace Q22 := be_f Q22 | replace Q22 := of_decide_eq_true Q22 | replace Q22 := of_decide_eq_false Q22)
                                           first
                                            | (exfalso; first | omega | contradiction | (cases Q22; done))
                                            | skip
                                              refine st_unguard rfl ?_
                                              refine st_val (ro_move (v := .int _ _) rfl) ?_
                                              refine st_unguard rfl ?_
                                              refine st_call IntsLaws3_k12 (num_any _ _) ?_
                                              rintro v89 w23 ⟨rfl, rfl⟩
                                              refine st_unguard rfl ?_
                                              refine st_val (ro_neq rfl rfl) ?_
                                              refine st_val (ro_pickF (v := .bool _) rfl rfl) ?_
                                              refine st_val (ro_move (v := .bool _) rfl) ?_
                                              refine st_split (t := 92) rfl (fun Q24 => ?_) (fun Q24 => ?_)
                                              · (try first | replace Q24 := bn_t Q24 | replace Q24 := bn_f Q24)
                                                (try first | replace Q24 := bx_t Q24 | replace Q24 := bx_f Q24 | replace Q24 := be_t Q24 | replace Q24 := be_f Q24 | replace Q24 := of_decide_eq_true Q24 | replace Q24 := of_decide_eq_false Q24)
                                                first
                                                 | (exfalso; first | omega | contradiction | (cases Q24; done))
                                                 | skip
                                                   refine st_gno rfl rfl ?_
                                                   refine st_gno rfl rfl ?_
                                                   refine st_gno rfl rfl ?_
                                                   refine st_val (ro_pickT (v := .bool _) rfl rfl) ?_
                                                   refine st_val (ro_move (v := .bool _) rfl) ?_
                                                   refine st_gno rfl rfl ?_
                                                   refine st_gno rfl rfl ?_
                                                   refine st_val (ro_pickT (v := .bool _) rfl rfl) ?_
                                                   refine st_val (ro_move (v := .bool _) rfl) ?_
                                                   refine st_gno rfl rfl ?_
                                                   refine st_gno rfl rfl ?_
                                                   refine st_gno rfl rfl ?_
                                                   refine st_val (ro_pickT (v := .bool _) rfl rfl) ?_
                                                   refine st_nil ?_
                                                   refine nx_then ?_
                                                   refine cd_condT rfl ?_
                                                   refine cd_seq ?_
                                                   refine cd_region ?_
                                                   refine st_val (ro_assign (v := .bool _) rfl) ?_
                                                   refine st_nil ?_
                                                   refine nx_then ?_
                                                   refine cd_ret ?_
                                                   refine rt_then ?_
                                                   refine rt_block ?_
                                                   refine rt_then ?_
                                                   refine rt_then ?_
                                                   refine rt_block ?_
                                                   refine rt_then ?_
                                                   refine res1 (v := .bool _) rfl rfl ?_
                                                   exfalso; first | omega | contradiction
                                              · (try first | replace Q24 := bn_t Q24 | replace Q24 := bn_f Q24)
                                                (try first | replace Q24 := bx_t Q24 | replace Q24 := bx_f Q24 | replace Q24 := be_t Q24 | replace Q24 := be_f Q24 | replace Q24 := of_decide_eq_true Q24 | replace Q24 := of_decide_eq_false Q24)
                                                first
                                                 | (exfalso; first | omega | contradiction | (cases Q24; done))
                                                 | skip
                                                   refine st_unguard rfl ?_
                                                   refine st_val (ro_move (v := .int _ _) rfl) ?_
                                                   refine st_unguard rfl ?_
                                                   refine st_val (ro_move (v := .int _ _) rfl) ?_
                                                   refine st_unguard rfl ?_
                                                   refine st_val (ro_neq rfl rfl) ?_
                                                   refine st_val (ro_pickF (v := .bool _) rfl rfl) ?_
                                                   refine st_val (ro_move (v := .bool _) rfl) ?_
                                                   refine st_split (t := 97) rfl (fun Q25 => ?_) (fun Q25 => ?_)
                                                   · (try first | replace Q25 := bn_t Q25 | replace Q25 := bn_f Q25)
                                                     (try first | replace Q25 := bx_t Q25 | replace Q25 := bx_f Q25 | replace Q25 := be_t Q25 | replace Q25 := be_f Q25 | replace Q25 := of_decide_eq_true Q25 | replace Q25 := of_decide_eq_false Q25)
                                                     first
                                                      | (exfalso; first | omega | contradiction | (cases Q25; done))
                                                      | skip
                                                        refine st_gno rfl rfl ?_
                                                        refine st_gno rfl rfl ?_
                                                        refine st_val (ro_pickT (v := .bool _) rfl rfl) ?_
                                                        refine st_val (ro_move (v := .bool _) rfl) ?_
                                                        refine st_gno rfl rfl ?_
                                                        refine st_gno rfl rfl ?_
                                                        refine st_gno rfl rfl ?_
                                                        refine st_val (ro_pickT (v := .bool _) rfl rfl) ?_
                                                        refine st_nil ?_
                                                        refine nx_then ?_
                                                        refine cd_condT rfl ?_
                                                        refine cd_seq ?_
                                                        refine cd_region ?_
                                                        refine st_val (ro_assign (v := .bool _) rfl) ?_
                                                        refine st_nil ?_
                                                        refine nx_then ?_
                                                        refine cd_ret ?_
                                                        refine rt_then ?_
                                                        refine rt_block ?_
                                                        refine rt_then ?_
                                                        refine rt_then ?_
                                                        refine rt_block ?_
                                                        refine rt_then ?_
                                                        refine res1 (v := .bool _) rfl rfl ?_
                                                        exfalso; first | omega | contradiction
                                                   · (try first | replace Q25 := bn_t Q25 | replace Q25 := bn_f Q25)
                                                     (try first | replace Q25 := bx_t Q25 | replace Q25 := bx_f Q25 | replace Q25 := be_t Q25 | replace Q25 := be_f Q25 | replace Q25 := of_decide_eq_true Q25 | replace Q25 := of_decide_eq_false Q25)
                                                     first
                                                      | (exfalso; first | omega | contradiction | (cases Q25; done))
                                                      | skip
                                                        refine st_unguard rfl ?_
                                                        refine st_val (ro_move (v := .int _ _) rfl) ?_
                                                        refine st_unguard rfl ?_
                                                        refine st_val (ro_neq rfl rfl) ?_
                                                        refine st_val (ro_pickF (v := .bool _) rfl rfl) ?_
                                                        refine st_val (ro_move (v := .bool _) rfl) ?_
                                                        refine st_split (t := 101) rfl (fun Q26 => ?_) (fun Q26 => ?_)
                                                        · (try first | replace Q26 := bn_t Q26 | replace Q26 := bn_f Q26)
                                                          (try first | replace Q26 := bx_t Q26 | replace Q26 := bx_f Q26 | replace Q26 := be_t Q26 | replace Q26 := be_f Q26 | replace Q26 := of_decide_eq_true Q26 | replace Q26 := of_decide_eq_false Q26)
                                                          first
                                                           | (exfalso; first | omega | contradiction | (cases Q26; done))
                                                           | skip
                                                             refine st_gno rfl rfl ?_
                                                             refine st_gno rfl rfl ?_
                                                             refine st_gno rfl rfl ?_
                                                             refine st_val (ro_pickT (v := .bool _) rfl rfl) ?_
                                                             refine st_nil ?_
                                                             refine nx_then ?_
                                                             refine cd_condT rfl ?_
                                                             refine cd_seq ?_
                                                             refine cd_region ?_
                                                             refine st_val (ro_assign (v := .bool _) rfl) ?_
                                                             refine st_nil ?_
                                                             refine nx_then ?_
                                                             refine cd_ret ?_
                                                             refine rt_then ?_
                                                             refine rt_block ?_
                                                             refine rt_then ?_
                                                             refine rt_then ?_
                                                             refine rt_block ?_
                                                             refine rt_then ?_
                                                             refine res1 (v := .bool _) rfl rfl ?_
                                                             exfalso; first | omega | contradiction
                                                        · (try first | replace Q26 := bn_t Q26 | replace Q26 := bn_f Q26)
                                                          (try first | replace Q26 := bx_t Q26 | replace Q26 := bx_f Q26 | replace Q26 := be_t Q26 | replace Q26 := be_f Q26 | replace Q26 := of_decide_eq_true Q26 | replace Q26 := of_decide_eq_false Q26)
                                                          first
                                                           | (exfalso; first | omega | contradiction | (cases Q26; done))
                                                           | skip
                                                             refine st_unguard rfl ?_
                                                             refine st_val (ro_move (v := .int _ _) rfl) ?_
                                                             refine st_unguard rfl ?_
                                                             refine st_val (ro_move (v := .int _ _) rfl) ?_
                                                             refine st_unguard rfl ?_
                                                             refine st_val (ro_neq rfl rfl) ?_
                                                             refine st_val (ro_pickF (v := .bool _) rfl rfl) ?_
                                                             refine st_nil ?_
                                                             refine nx_then ?_
                                                             refine cd_cond rfl (fun Q27 => ?_) (fun Q27 => ?_)
                                                             · (try first | replace Q27 := bn_t Q27 | replace Q27 := bn_f Q27)
                                                               (try first | replace Q27 := bx_t Q27 | replace Q27 := bx_f Q27 | replace Q27 := be_t Q27 | replace Q27 := be_f Q27 | replace Q27 := of_decide_eq_true Q27 | replace Q27 := of_decide_eq_false Q27)
                                                               first
                                                                | (exfalso; first | omega | contradiction | (cases Q27; done))
                                                                | skip
                                                                  refine cd_seq ?_
                                                                  refine cd_region ?_
                                                                  refine st_val (ro_assign (v := .bool _) rfl) ?_
                                                                  refine st_nil ?_
                                                                  refine nx_then ?_
                                                                  refine cd_ret ?_
                                                                  refine rt_then ?_
                                                                  refine rt_block ?_
                                                                  refine rt_then ?_
                                                                  refine rt_then ?_
                                                                  refine rt_block ?_
                                                                  refine rt_then ?_
                                                                  refine res1 (v := .bool _) rfl rfl ?_
                                                                  exfalso; first | omega | contradiction
                                                             · (try first | replace Q27 := bn_t Q27 | replace Q27 := bn_f Q27)
                                                               (try first | replace Q27 := bx_t Q27 | replace Q27 := bx_f Q27 | replace Q27 := be_t Q27 | replace Q27 := be_f Q27 | replace Q27 := of_decide_eq_true Q27 | replace Q27 := of_decide_eq_false Q27)
                                                               first
                                                                | (exfalso; first | omega | contradiction | (cases Q27; done))
                                                                | skip
                                                                  refine cd_skip ?_
                                                                  refine nx_then ?_
                                                                  refine cd_seq ?_
                                                                  refine cd_region ?_
                                                                  refine st_val (ro_move (v := .int _ _) rfl) ?_
                                                                  refine st_val (ro_lss rfl rfl) ?_
                                                                  refine st_nil ?_
                                                                  refine nx_then ?_
                                                                  refine cd_cond rfl (fun Q28 => ?_) (fun Q28 => ?_)
                                                                  · (try first | replace Q28 := bn_t Q28 | replace Q28 := bn_f Q28)
                                                                    (try first | replace Q28 := bx_t Q28 | replace Q28 := bx_f Q28 | replace Q28 := be_t Q28 | replace Q28 := be_f Q28 | replace Q28 := of_decide_eq_true Q28 | replace Q28 := of_decide_eq_false Q28)
                                                                    first
                                                                     | (exfalso; first | omega | contradiction | (cases Q28; done))
                                                                     | skip
                                                                       refine cd_seq ?_
                                                                       refine cd_region ?_
                                                                       refine st_val (ro_move (v := .int _ _) rfl) ?_
                                                                       refine st_val (ro_move (v := .int _ _) rfl) ?_
                                                                       refine st_val (ro_add rfl rfl) ?_
                                                                       refine st_spell (t := 111) (v := .int _ _) (v' := .int .u64 ((2 ^ k : Nat) : Int)) rfl (by exact int_eq (top_succ k (by omega))) ?_
                                                                       refine st_lit1 (v := .int _ _) IntsLaws3_q23 rfl rfl rfl ?_
                                                                       intro b112 w29 E112 hb112 hk112
                                                                       refine st_call IntsLaws3_k9 (new_rt k (some ⟨b112, 0, none⟩) 1 [2 ^ k] _ (RowOf.blk hk112 (fun i hi => by match i, hi with | 0, _ => rfl)) (by simp) (by simp only [List.mem_singleton]; rintro x rfl; exact Nat.pow_lt_pow_right (by decide) (by omega))) ?_
                                                                       rintro v113 w30 ⟨hn113, E113⟩
                                                                       rcases hn113 with ⟨rfl, hm2⟩ | ⟨_, _, _, _, hm2, _⟩
                                                                       · refine st_val (ro_move (v := .tuple _) rfl) ?_
                                                                         refine st_val (ro_extract rfl rfl) ?_
                                                                         refine st_val (ro_extract rfl rfl) ?_
                                                                         refine st_val (ro_assign (v := .pointer _) rfl) ?_
                                                                         refine st_val (ro_assign (v := .int _ _) rfl) ?_
                                                                         refine st_nil ?_
                                                                         refine nx_then ?_
                                                                         refine cd_seq ?_
                                                                         refine cd_region ?_
                                                                         refine st_val (ro_move (v := .int _ _) rfl) ?_
                                                                         refine st_call IntsLaws3_k12 (num_any _ _) ?_
                                                                         rintro v117 w31 ⟨rfl, rfl⟩
                                                                         refine st_val (ro_neq rfl rfl) ?_
                                                                         refine st_val (ro_move (v := .bool _) rfl) ?_
                                                                         refine st_split (t := 119) rfl (fun Q32 => ?_) (fun Q32 => ?_)
                                                                         · (try first | replace Q32 := bn_t Q32 | replace Q32 := bn_f Q32)
                                                                           (try first | replace Q32 := bx_t Q32 | replace Q32 := bx_f Q32 | replace Q32 := be_t Q32 | replace Q32 := be_f Q32 | replace Q32 := of_decide_eq_true Q32 | replace Q32 := of_decide_eq_false Q32)
                                                                           first
                                                                            | (exfalso; first | omega | contradiction | (cases Q32; done))
                                                                            | skip
                                                                              refine st_gno rfl rfl ?_
                                                                              refine st_gno rfl rfl ?_
                                                                              refine st_val (ro_pickT (v := .bool _) rfl rfl) ?_
                                                                              refine st_nil ?_
                                                                              refine nx_then ?_
                                                                              refine cd_condT rfl ?_
                                                                              refine cd_seq ?_
                                                                              refine cd_region ?_
                                                                              refine st_val (ro_assign (v := .bool _) rfl) ?_
                                                                              refine st_nil ?_
                                                                              refine nx_then ?_
                                                                              refine cd_ret ?_
                                                                              refine rt_block ?_
                                                                              refine rt_then ?_
                                                                              refine rt_then ?_
                                                                              refine rt_block ?_
                                                                              refine rt_then ?_
                                                                              refine res1 (v := .bool _) rfl rfl ?_
                                                                              exfalso; first | omega | contradiction
                                                                         · (try first | replace Q32 := bn_t Q32 | replace Q32 := bn_f Q32)
                                                                           (try first | replace Q32 := bx_t Q32 | replace Q32 := bx_f Q32 | replace Q32 := be_t Q32 | replace Q32 := be_f Q32 | replace Q32 := of_decide_eq_true Q32 | replace Q32 := of_decide_eq_false Q32)
                                                                           first
                                                                            | (exfalso; first | omega | contradiction | (cases Q32; done))
                                                                            | skip
                                                                              refine st_unguard rfl ?_
                                                                              refine st_val (ro_move (v := .pointer _) rfl) ?_
                                                                              refine st_unguard rfl ?_
                                                                              refine st_val (ro_neqNil IntsLaws3_p29 rfl rfl) ?_
                                                                              refine st_val (ro_pickF (v := .bool _) rfl rfl) ?_
                                                                              refine st_nil ?_
                                                                              refine nx_then ?_
                                                                              refine cd_cond rfl (fun Q33 => ?_) (fun Q33 => ?_)
                                                                              · (try first | replace Q33 := bn_t Q33 | replace Q33 := bn_f Q33)
                                                                                (try first | replace Q33 := bx_t Q33 | replace Q33 := bx_f Q33 | replace Q33 := be_t Q33 | replace Q33 := be_f Q33 | replace Q33 := of_decide_eq_true Q33 | replace Q33 := of_decide_eq_false Q33)
                                                                                first
                                                                                 | (exfalso; first | omega | contradiction | (cases Q33; done))
                                                                                 | skip
                                                                                   refine cd_seq ?_
                                                                                   refine cd_region ?_
                                                                                   refine st_val (ro_assign (v := .bool _) rfl) ?_
                                                                                   refine st_nil ?_
                                                                                   refine nx_then ?_
                                                                                   refine cd_ret ?_
                                                                                   refine rt_block ?_
                                                                                   refine rt_then ?_
                                                                                   refine rt_then ?_
                                                                                   refine rt_block ?_
                                                                                   refine rt_then ?_
                                                                                   refine res1 (v := .bool _) rfl rfl ?_
                                                                                   exfalso; first | omega | contradiction
                                                                              · (try first | replace Q33 := bn_t Q33 | replace Q33 := bn_f Q33)
                                                                                (try first | replace Q33 := bx_t Q33 | replace Q33 := bx_f Q33 | replace Q33 := be_t Q33 | replace Q33 := be_f Q33 | replace Q33 := of_decide_eq_true Q33 | replace Q33 := of_decide_eq_false Q33)
                                                                                first
                                                                                 | (exfalso; first | omega | contradiction | (cases Q33; done))
                                                                                 | skip
                                                                                   refine cd_skip ?_
                                                                                   refine nx_block ?_
                                                                                   refine nx_then ?_
                                                                                   refine cd_region ?_
                                                                                   refine st_val (ro_move (v := .int _ _) rfl) ?_
                                                                                   refine st_val (ro_addN (b := 1) rfl rfl (by omega)) ?_
                                                                                   refine st_val (ro_assign (v := .int _ _) rfl) ?_
                                                                                   refine st_nil ?_
                                                                                   refine nx_cut (k + 1) ⟨(by first | rfl | (refine int_eq ?_; omega)), trivial⟩ (by (iterate 246 refine agr_cons rfl ?_); exact agr_rfl) ⟨?_, ?_⟩
                                                                                   · exact ⟨by omega, ((((((((((hB.next E32).next E33).next E45).next E51).next E56).next E66).next E71).next E76).next E112).next E113)⟩
                                                                                   · omega
                                                                       · rw [may_above] at hm2; cases hm2
                                                                  · (try first | replace Q28 := bn_t Q28 | replace Q28 := bn_f Q28)
                                                                    (try first | replace Q28 := bx_t Q28 | replace Q28 := bx_f Q28 | replace Q28 := be_t Q28 | replace Q28 := be_f Q28 | replace Q28 := of_decide_eq_true Q28 | replace Q28 := of_decide_eq_false Q28)
                                                                    first
                                                                     | (exfalso; first | omega | contradiction | (cases Q28; done))
                                                                     | skip
                                                                       refine cd_skip ?_
                                                                       refine nx_block ?_
                                                                       refine nx_then ?_
                                                                       refine cd_region ?_
                                                                       refine st_val (ro_move (v := .int _ _) rfl) ?_
                                                                       refine st_val (ro_addN (b := 1) rfl rfl (by omega)) ?_
                                                                       refine st_val (ro_assign (v := .int _ _) rfl) ?_
                                                                       refine st_nil ?_
                                                                       refine nx_cut (k + 1) ⟨(by first | rfl | (refine int_eq ?_; omega)), trivial⟩ (by (iterate 227 refine agr_cons rfl ?_); exact agr_rfl) ⟨?_, ?_⟩
                                                                       · exact ⟨by omega, ((((((((hB.next E32).next E33).next E45).next E51).next E56).next E66).next E71).next E76)⟩
                                                                       · omega
  · (try first | replace Q2 := bn_t Q2 | replace Q2 := bn_f Q2)
    (try first | replace Q2 := bx_t Q2 | replace Q2 := bx_f Q2 | replace Q2 := be_t Q2 | replace Q2 := be_f Q2 | replace Q2 := of_decide_eq_true Q2 | replace Q2 := of_decide_eq_false Q2)
    first
     | (exfalso; first | omega | contradiction | (cases Q2; done))
     | skip
       refine cd_exit ?_
       refine ex_then ?_
       refine ex_then ?_
       refine ex_block ?_
       refine nx_then ?_
       refine cd_seq ?_
       refine cd_region ?_
       refine st_call IntsLaws3_k9 (new_rt 65 none 0 [] _ RowOf.nil (by simp) (by simp)) ?_
       rintro v124 w34 ⟨hn124, E124⟩
       rcases hn124 with ⟨rfl, hm3⟩ | ⟨_, _, _, _, hm3, _⟩
       · refine st_val (ro_move (v := .tuple _) rfl) ?_
         refine st_val (ro_extract rfl rfl) ?_
         refine st_val (ro_extract rfl rfl) ?_
         refine st_val (ro_assign (v := .pointer _) rfl) ?_
         refine st_val (ro_assign (v := .int _ _) rfl) ?_
         refine st_nil ?_
         refine nx_then ?_
         refine cd_seq ?_
         refine cd_region ?_
         refine st_call IntsLaws3_k9 (new_rt (-1) none 0 [] _ RowOf.nil (by simp) (by simp)) ?_
         rintro v128 w35 ⟨hn128, E128⟩
         rcases hn128 with ⟨rfl, hm4⟩ | ⟨_, _, _, _, hm4, _⟩
         · refine st_val (ro_move (v := .tuple _) rfl) ?_
           refine st_val (ro_extract rfl rfl) ?_
           refine st_val (ro_extract rfl rfl) ?_
           refine st_val (ro_assign (v := .pointer _) rfl) ?_
           refine st_val (ro_assign (v := .int _ _) rfl) ?_
           refine st_nil ?_
           refine nx_then ?_
           refine cd_seq ?_
           refine cd_region ?_
           refine st_val (ro_move (v := .int _ _) rfl) ?_
           refine st_call IntsLaws3_k12 (num_any _ _) ?_
           rintro v132 w36 ⟨rfl, rfl⟩
           refine st_val (ro_eql rfl rfl) ?_
           refine st_val (ro_move (v := .bool _) rfl) ?_
           refine st_split (t := 134) rfl (fun Q37 => ?_) (fun Q37 => ?_)
           · (try first | replace Q37 := bn_t Q37 | replace Q37 := bn_f Q37)
             (try first | replace Q37 := bx_t Q37 | replace Q37 := bx_f Q37 | replace Q37 := be_t Q37 | replace Q37 := be_f Q37 | replace Q37 := of_decide_eq_true Q37 | replace Q37 := of_decide_eq_false Q37)
             first
              | (exfalso; first | omega | contradiction | (cases Q37; done))
              | skip
                refine st_unguard rfl ?_
                refine st_val (ro_move (v := .pointer _) rfl) ?_
                refine st_unguard rfl ?_
                refine st_val (ro_eqlNil IntsLaws3_p29 rfl rfl) ?_
                refine st_val (ro_pickT (v := .bool _) rfl rfl) ?_
                refine st_val (ro_move (v := .bool _) rfl) ?_
                refine st_split (t := 138) rfl (fun Q38 => ?_) (fun Q38 => ?_)
                · (try first | replace Q38 := bn_t Q38 | replace Q38 := bn_f Q38)
                  (try first | replace Q38 := bx_t Q38 | replace Q38 := bx_f Q38 | replace Q38 := be_t Q38 | replace Q38 := be_f Q38 | replace Q38 := of_decide_eq_true Q38 | replace Q38 := of_decide_eq_false Q38)
                  first
                   | (exfalso; first | omega | contradiction | (cases Q38; done))
                   | skip
                     refine st_unguard rfl ?_
                     refine st_val (ro_move (v := .int _ _) rfl) ?_
                     refine st_unguard rfl ?_
                     refine st_call IntsLaws3_k12 (num_any _ _) ?_
                     rintro v140 w39 ⟨rfl, rfl⟩
                     refine st_unguard rfl ?_
                     refine st_val (ro_eql rfl rfl) ?_
                     refine st_val (ro_pickT (v := .bool _) rfl rfl) ?_
                     refine st_val (ro_move (v := .bool _) rfl) ?_
                     refine st_split (t := 143) rfl (fun Q40 => ?_) (fun Q40 => ?_)
                     · (try first | replace Q40 := bn_t Q40 | replace Q40 := bn_f Q40)
                       (try first | replace Q40 := bx_t Q40 | replace Q40 := bx_f Q40 | replace Q40 := be_t Q40 | replace Q40 := be_f Q40 | replace Q40 := of_decide_eq_true Q40 | replace Q40 := of_decide_eq_false Q40)
                       first
                        | (exfalso; first | omega | contradiction | (cases Q40; done))
                        | skip
                          refine st_unguard rfl ?_
                          refine st_val (ro_move (v := .pointer _) rfl) ?_
                          refine st_unguard rfl ?_
                          refine st_val (ro_eqlNil IntsLaws3_p29 rfl rfl) ?_
                          refine st_val (ro_pickT (v := .bool _) rfl rfl) ?_
                          refine st_val (ro_move (v := .bool _) rfl) ?_
                          refine st_split (t := 147) rfl (fun Q41 => ?_) (fun Q41 => ?_)
                          · (try first | replace Q41 := bn_t Q41 | replace Q41 := bn_f Q41)
                            (try first | replace Q41 := bx_t Q41 | replace Q41 := bx_f Q41 | replace Q41 := be_t Q41 | replace Q41 := be_f Q41 | replace Q41 := of_decide_eq_true Q41 | replace Q41 := of_decide_eq_false Q41)
                            first
                             | (exfalso; first | omega | contradiction | (cases Q41; done))
                             | skip
                               refine st_unguard rfl ?_
                               refine st_val (ro_move (v := .slice _ _ _) rfl) ?_
                               refine st_unguard rfl ?_
                               refine st_val (ro_len IntsLaws3_l22 rfl) ?_
                               refine st_unguard rfl ?_
                               refine st_val (ro_geq rfl rfl) ?_
                               refine st_val (ro_pickT (v := .bool _) rfl rfl) ?_
                               refine st_val (ro_move (v := .bool _) rfl) ?_
                               refine st_split (t := 152) rfl (fun Q42 => ?_) (fun Q42 => ?_)
                               · (try first | replace Q42 := bn_t Q42 | replace Q42 := bn_f Q42)
                                 (try first | replace Q42 := bx_t Q42 | replace Q42 := bx_f Q42 | replace Q42 := be_t Q42 | replace Q42 := be_f Q42 | replace Q42 := of_decide_eq_true Q42 | replace Q42 := of_decide_eq_false Q42)
                                 first
                                  | (exfalso; first | omega | contradiction | (cases Q42; done))
                                  | skip
                                    refine st_unguard rfl ?_
                                    refine st_call IntsLaws3_k18 (wakes_any _) ?_
                                    rintro v153 w43 ⟨rfl, E153⟩
                                    refine st_val (ro_pickT (v := .bool _) rfl rfl) ?_
                                    refine st_val (ro_assign (v := .bool _) rfl) ?_
                                    refine st_nil ?_
                                    refine nx_then ?_
                                    refine cd_ret ?_
                                    refine res1 (v := .bool _) rfl rfl ?_
                                    exact ⟨rfl, (((hB.next E124).next E128).next E153)⟩
                               · (try first | replace Q42 := bn_t Q42 | replace Q42 := bn_f Q42)
                                 (try first | replace Q42 := bx_t Q42 | replace Q42 := bx_f Q42 | replace Q42 := be_t Q42 | replace Q42 := be_f Q42 | replace Q42 := of_decide_eq_true Q42 | replace Q42 := of_decide_eq_false Q42)
                                 first
                                  | (exfalso; first | omega | contradiction | (cases Q42; done))
                                  | skip
                                    refine st_gno rfl rfl ?_
                                    refine st_val (ro_pickF (v := .bool _) rfl rfl) ?_
                                    refine st_val (ro_assign (v := .bool _) rfl) ?_
                                    refine st_nil ?_
                                    refine nx_then ?_
                                    refine cd_ret ?_
                                    refine res1 (v := .bool _) rfl rfl ?_
                                    exact ⟨rfl, ((hB.next E124).next E128)⟩
                          · (try first | replace Q41 := bn_t Q41 | replace Q41 := bn_f Q41)
                            (try first | replace Q41 := bx_t Q41 | replace Q41 := bx_f Q41 | replace Q41 := be_t Q41 | replace Q41 := be_f Q41 | replace Q41 := of_decide_eq_true Q41 | replace Q41 := of_decide_eq_false Q41)
                            first
                             | (exfalso; first | omega | contradiction | (cases Q41; done))
                             | skip
                               refine st_gno rfl rfl ?_
                               refine st_gno rfl rfl ?_
                               refine st_gno rfl rfl ?_
                               refine st_val (ro_pickF (v := .bool _) rfl rfl) ?_
                               refine st_val (ro_move (v := .bool _) rfl) ?_
                               refine st_gno rfl rfl ?_
                               refine st_val (ro_pickF (v := .bool _) rfl rfl) ?_
                               refine st_val (ro_assign (v := .bool _) rfl) ?_
                               refine st_nil ?_
                               refine nx_then ?_
                               refine cd_ret ?_
                               refine res1 (v := .bool _) rfl rfl ?_
                               exact ⟨rfl, ((hB.next E124).next E128)⟩
                     · (try first | replace Q40 := bn_t Q40 | replace Q40 := bn_f Q40)
                       (try first | replace Q40 := bx_t Q40 | replace Q40 := bx_f Q40 | replace Q40 := be_t Q40 | replace Q40 := be_f Q40 | replace Q40 := of_decide_eq_true Q40 | replace Q40 := of_decide_eq_false Q40)
                       first
                        | (exfalso; first | omega | contradiction | (cases Q40; done))
                        | skip
                          refine st_gno rfl rfl ?_
                          refine st_gno rfl rfl ?_
                          refine st_val (ro_pickF (v := .bool _) rfl rfl) ?_
                          refine st_val (ro_move (v := .bool _) rfl) ?_
                          refine st_gno rfl rfl ?_
                          refine st_gno rfl rfl ?_
                          refine st_gno rfl rfl ?_
                          refine st_val (ro_pickF (v := .bool _) rfl rfl) ?_
                          refine st_val (ro_move (v := .bool _) rfl) ?_
                          refine st_gno rfl rfl ?_
                          refine st_val (ro_pickF (v := .bool _) rfl rfl) ?_
                          refine st_val (ro_assign (v := .bool _) rfl) ?_
                          refine st_nil ?_
                          refine nx_then ?_
                          refine cd_ret ?_
                          refine res1 (v := .bool _) rfl rfl ?_
                          exact ⟨rfl, ((hB.next E124).next E128)⟩
                · (try first | replace Q38 := bn_t Q38 | replace Q38 := bn_f Q38)
                  (try first | replace Q38 := bx_t Q38 | replace Q38 := bx_f Q38 | replace Q38 := be_t Q38 | replace Q38 := be_f Q38 | replace Q38 := of_decide_eq_true Q38 | replace Q38 := of_decide_eq_false Q38)
                  first
                   | (exfalso; first | omega | contradiction | (cases Q38; done))
                   | skip
                     refine st_gno rfl rfl ?_
                     refine st_gno rfl rfl ?_
                     refine st_gno rfl rfl ?_
                     refine st_val (ro_pickF (v := .bool _) rfl rfl) ?_
                     refine st_val (ro_move (v := .bool _) rfl) ?_
                     refine st_gno rfl rfl ?_
                     refine st_gno rfl rfl ?_
                     refine st_val (ro_pickF (v := .bool _) rfl rfl) ?_
                     refine st_val (ro_move (v := .bool _) rfl) ?_
                     refine st_gno rfl rfl ?_
                     refine st_gno rfl rfl ?_
                     refine st_gno rfl rfl ?_
                     refine st_val (ro_pickF (v := .bool _) rfl rfl) ?_
                     refine st_val (ro_move (v := .bool _) rfl) ?_
                     refine st_gno rfl rfl ?_
                     refine st_val (ro_pickF (v := .bool _) rfl rfl) ?_
                     refine st_val (ro_assign (v := .bool _) rfl) ?_
                     refine st_nil ?_
                     refine nx_then ?_
                     refine cd_ret ?_
                     refine res1 (v := .bool _) rfl rfl ?_
                     exact ⟨rfl, ((hB.next E124).next E128)⟩
           · (try first | replace Q37 := bn_t Q37 | replace Q37 := bn_f Q37)
             (try first | replace Q37 := bx_t Q37 | replace Q37 := bx_f Q37 | replace Q37 := be_t Q37 | replace Q37 := be_f Q37 | replace Q37 := of_decide_eq_true Q37 | replace Q37 := of_decide_eq_false Q37)
             first
              | (exfalso; first | omega | contradiction | (cases Q37; done))
              | skip
                refine st_gno rfl rfl ?_
                refine st_gno rfl rfl ?_
                refine st_val (ro_pickF (v := .bool _) rfl rfl) ?_
                refine st_val (ro_move (v := .bool _) rfl) ?_
                refine st_gno rfl rfl ?_
                refine st_gno rfl rfl ?_
                refine st_gno rfl rfl ?_
                refine st_val (ro_pickF (v := .bool _) rfl rfl) ?_
                refine st_val (ro_move (v := .bool _) rfl) ?_
                refine st_gno rfl rfl ?_
                refine st_gno rfl rfl ?_
                refine st_val (ro_pickF (v := .bool _) rfl rfl) ?_
                refine st_val (ro_move (v := .bool _) rfl) ?_
                refine st_gno rfl rfl ?_
                refine st_gno rfl rfl ?_
                refine st_gno rfl rfl ?_
                refine st_val (ro_pickF (v := .bool _) rfl rfl) ?_
                refine st_val (ro_move (v := .bool _) rfl) ?_
                refine st_gno rfl rfl ?_
                refine st_val (ro_pickF (v := .bool _) rfl rfl) ?_
                refine st_val (ro_assign (v := .bool _) rfl) ?_
                refine st_nil ?_
                refine nx_then ?_
                refine cd_ret ?_
                refine res1 (v := .bool _) rfl rfl ?_
                exact ⟨rfl, ((hB.next E124).next E128)⟩
         · exact absurd hm4 (by decide)
       · exact absurd hm3 (by decide)
end Go.Proofs.Ytgnmmifolhoaeaa
