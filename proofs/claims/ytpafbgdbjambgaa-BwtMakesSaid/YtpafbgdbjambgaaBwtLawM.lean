/- The law BwtMakes. -/
import Derived.Test.YtpafbgdbjambgaaBwtHelp
namespace Go.Proofs.Ytpafbgdbjambgaa
open Go.RowKit
open Go.ChangeShapes Go.WideShapes Go.ChangeAt
open Go.Proofs.Ytpafbgdbjambgaa.SA
theorem BwtLawM_l22 : (elemQ Try.prog 22).isSome = true := by kernel_rfl
theorem BwtLawM_e22 : elemQ Try.prog 22 = some (26, 2) := by kernel_rfl
theorem BwtLawM_g26 : aggQ Try.prog 26 = some true := by kernel_rfl
theorem BwtLawM_z26 : sizeQ Try.prog 26 = some 2 := by kernel_rfl
theorem BwtLawM_k7 : callable Try.prog 7 = true := by kernel_rfl
theorem BwtLawM_f26_0 : fieldQ Try.prog 26 0 = some 0 := by kernel_rfl
theorem BwtLawM_g24 : aggQ Try.prog 24 = some false := by kernel_rfl
theorem BwtLawM_k8 : callable Try.prog 8 = true := by kernel_rfl
theorem BwtLawM_k9 : callable Try.prog 9 = true := by kernel_rfl
theorem BwtLawM_k10 : callable Try.prog 10 = true := by kernel_rfl
theorem BwtLawM_k11 : callable Try.prog 11 = true := by kernel_rfl
theorem BwtLawM_l24 : (elemQ Try.prog 24).isSome = true := by kernel_rfl
theorem BwtLawM_k12 : callable Try.prog 12 = true := by kernel_rfl
theorem BwtLawM_k13 : callable Try.prog 13 = true := by kernel_rfl
theorem BwtLawM_k14 : callable Try.prog 14 = true := by kernel_rfl
theorem BwtLawM_k15 : callable Try.prog 15 = true := by kernel_rfl
set_option maxRecDepth 100000 in
set_option maxHeartbeats 4000000 in
theorem makes_law (A : Option Addr) (c : Nat) (xs : List askT5.den) (w : World) (hl : xs.length * askT5.bytes ≤ 140737488351232) (hel : 0 < xs.length → ∃ b o, A = some ⟨b, o, none⟩ ∧ ∀ (i : Nat) (hi : i < xs.length), askT5.At w (fun j => w.cell? ⟨b, o + i * askT5.size + j, none⟩) xs[i]) :
    Rt Try.prog 3 [.slice A xs.length c] w (fun v w' => v = .bool true ∧ From w w') := by
  have hlen : xs.length * 32 ≤ 140737488351232 := hl
  refine enter (n := 92) Try.func3 rfl rfl rfl ?_
  refine cd_seq ?_
  refine cd_region ?_
  refine st_val (ro_assign (v := .bool _) rfl) ?_
  refine st_nil ?_
  refine nx_then ?_
  refine cd_seq ?_
  refine cd_seq ?_
  refine cd_region ?_
  refine st_val (ro_assign (v := .int _ _) rfl) ?_
  refine st_nil ?_
  refine nx_then ?_
  refine cd_block ?_
  refine cd_loop (G := Nat) [2, 4, 5, 6, 7, 8, 9, 10, 11, 12, 13, 14, 15, 16, 17, 18, 19, 20, 21, 22, 23, 24, 25, 26, 27, 28, 29, 30, 31, 32, 33, 34, 35, 36, 37, 38, 39, 40, 41, 42, 43, 44, 45, 46, 47, 48, 49, 50, 51, 52, 53, 54, 55, 56, 57, 58, 59, 60, 61, 62, 63, 64, 65, 66, 67, 68, 69, 70, 71, 72, 73, 74, 75, 76, 77, 78, 79, 80, 81, 82, 83, 84, 85, 86, 87, 88, 89, 90] (fun k => [(3, .int .i64 (k : Nat))]) (fun k w' => k ≤ xs.length ∧ From w w') (fun k => xs.length - k) (0) ⟨rfl, trivial⟩ ?_ ?_
  · exact ⟨Nat.zero_le _, From.rfl_⟩
  rintro k ρ1 w1 ⟨hk, hB⟩
  refine cd_seq ?_
  refine cd_seq ?_
  refine cd_region ?_
  refine st_val (ro_move (v := .int _ _) rfl) ?_
  refine st_val (ro_move (v := .slice _ _ _) rfl) ?_
  refine st_val (ro_len BwtLawM_l22 rfl) ?_
  refine st_val (ro_lss rfl rfl) ?_
  refine st_val (ro_move (v := .bool _) rfl) ?_
  refine st_split (t := 14) rfl (fun Q2 => ?_) (fun Q2 => ?_)
  · (try first | replace Q2 := bn_t Q2 | replace Q2 := bn_f Q2)
    (try first | replace Q2 := bx_t Q2 | replace Q2 := bx_f Q2 | replace Q2 := be_t Q2 | replace Q2 := be_f Q2 | replace Q2 := of_decide_eq_true Q2 | replace Q2 := of_decide_eq_false Q2)
    first
     | (exfalso; first | omega | contradiction | (cases Q2; done))
     | skip
       refine st_unguard rfl ?_
       refine st_val (ro_move (v := .int _ _) rfl) ?_
       refine st_unguard rfl ?_
       refine st_val (ro_lss rfl rfl) ?_
       refine st_val (ro_pickT (v := .bool _) rfl rfl) ?_
       refine st_nil ?_
       refine nx_then ?_
       refine cd_cond rfl (fun Q3 => ?_) (fun Q3 => ?_)
       · (try first | replace Q3 := bn_t Q3 | replace Q3 := bn_f Q3)
         (try first | replace Q3 := bx_t Q3 | replace Q3 := bx_f Q3 | replace Q3 := be_t Q3 | replace Q3 := be_f Q3 | replace Q3 := of_decide_eq_true Q3 | replace Q3 := of_decide_eq_false Q3)
         obtain ⟨b, o, rfl, hel2⟩ := hel (by omega)
         obtain ⟨A1, ca, L, x, hask⟩ := ask_at5 (hel2 k (by omega))
         have hlL := hask.lenL
         first
          | (exfalso; first | omega | contradiction | (cases Q3; done))
          | skip
            refine cd_skip ?_
            refine nx_then ?_
            refine cd_seq ?_
            refine cd_block ?_
            refine cd_seq ?_
            refine cd_seq ?_
            refine cd_region ?_
            refine st_val (ro_move (v := .slice _ _ _) rfl) ?_
            refine st_val (ro_move (v := .int _ _) rfl) ?_
            refine st_val (ro_indexAddrN BwtLawM_e22 rfl rfl (by omega)) ?_
            refine st_val (ro_loadA (cs := [_, _]) BwtLawM_g26 BwtLawM_z26 rfl (by exact rangeF hB hask.cells)) ?_
            refine st_call BwtLawM_k7 (heavy_any A1 L.length ca x _) ?_
            rintro v24 w4 ⟨rfl, E24⟩
            refine st_nil ?_
            refine nx_then ?_
            refine cd_cond rfl (fun Q5 => ?_) (fun Q5 => ?_)
            · (try first | replace Q5 := bn_t Q5 | replace Q5 := bn_f Q5)
              (try first | replace Q5 := bx_t Q5 | replace Q5 := bx_f Q5 | replace Q5 := be_t Q5 | replace Q5 := be_f Q5 | replace Q5 := of_decide_eq_true Q5 | replace Q5 := of_decide_eq_false Q5)
              first
               | (exfalso; first | omega | contradiction | (cases Q5; done))
               | skip
                 refine cd_seq ?_
                 refine cd_region ?_
                 refine st_val (ro_assign (v := .bool _) rfl) ?_
                 refine st_nil ?_
                 refine nx_then ?_
                 refine cd_ret ?_
                 refine rt_then ?_
                 refine rt_block ?_
                 refine rt_then ?_
                 refine rt_then ?_
                 refine rt_block ?_
                 refine rt_then ?_
                 refine res1 (v := .bool _) rfl rfl ?_
                 exact ⟨rfl, (hB.next E24)⟩
            (try first | replace Q5 := bn_t Q5 | replace Q5 := bn_f Q5)
            (try first | replace Q5 := bx_t Q5 | replace Q5 := bx_f Q5 | replace Q5 := be_t Q5 | replace Q5 := be_f Q5 | replace Q5 := of_decide_eq_true Q5 | replace Q5 := of_decide_eq_false Q5)
            first
             | (exfalso; first | omega | contradiction | (cases Q5; done))
             | skip
               refine cd_skip ?_
               refine nx_then ?_
               refine cd_seq ?_
               refine cd_region ?_
               refine st_val (ro_move (v := .slice _ _ _) rfl) ?_
               refine st_val (ro_move (v := .int _ _) rfl) ?_
               refine st_val (ro_indexAddrN BwtLawM_e22 rfl rfl (by omega)) ?_
               refine st_val (ro_fieldAddr BwtLawM_f26_0 rfl) ?_
               refine st_val (ro_load BwtLawM_g24 rfl (by exact cellF (hB.next E24) (hask.cells 0 _ rfl))) ?_
               refine st_call BwtLawM_k8 (copyNums_any A1 ca L _ (hask.rowL.from_ (hB.next E24)) (by omega)) ?_
               rintro v30 w6 ⟨A30, c30, rfl, ho30, E30⟩
               refine st_val (ro_assign (v := .slice _ _ _) rfl) ?_
               refine st_nil ?_
               refine nx_then ?_
               refine cd_seq ?_
               refine cd_region ?_
               refine st_val (ro_move (v := .slice _ _ _) rfl) ?_
               have hz33 := (((hB.next E24).next E30)).size
               have hr30 := (RowOf.own ho30).2
               refine st_call BwtLawM_k9 (make_rt A30 c30 L.length L _ (RowOf.own ho30).2 rfl (by omega)) ?_
               rintro v33 w7 ⟨hs33, E33⟩
               rcases hs33 with ⟨hmay, rfl⟩ | ⟨Ln, Bs, a, A', c', hLn, hlt, hbw, rfl, ho33⟩
               · refine st_val (ro_move (v := .tuple _) rfl) ?_
                 refine st_val (ro_extract rfl rfl) ?_
                 refine st_val (ro_extract rfl rfl) ?_
                 refine st_val (ro_extract rfl rfl) ?_
                 refine st_val (ro_assign (v := .slice _ _ _) rfl) ?_
                 refine st_val (ro_assign (v := .int _ _) rfl) ?_
                 refine st_val (ro_assign (v := .int _ _) rfl) ?_
                 refine st_nil ?_
                 refine nx_then ?_
                 refine cd_seq ?_
                 refine cd_seq ?_
                 refine cd_region ?_
                 refine st_val (ro_move (v := .slice _ _ _) rfl) ?_
                 refine st_val (ro_move (v := .int _ _) rfl) ?_
                 refine st_val (ro_indexAddrN BwtLawM_e22 rfl rfl (by omega)) ?_
                 refine st_val (ro_fieldAddr BwtLawM_f26_0 rfl) ?_
                 refine st_val (ro_load BwtLawM_g24 rfl (by exact cellF (((hB.next E24).next E30).next E33) (hask.cells 0 _ rfl))) ?_
                 refine st_call BwtLawM_k10 (may_is _ 512 A1 ca L.length L _ hmay (hask.rowL.from_ (((hB.next E24).next E30).next E33)) rfl (by omega)) ?_
                 rintro v42 w8 ⟨rfl, E42⟩
                 refine st_val (ro_not rfl) ?_
                 refine st_nil ?_
                 refine nx_then ?_
                 refine cd_cond rfl (fun Q9 => ?_) (fun Q9 => ?_)
                 · (try first | replace Q9 := bn_t Q9 | replace Q9 := bn_f Q9)
                   (try first | replace Q9 := bx_t Q9 | replace Q9 := bx_f Q9 | replace Q9 := be_t Q9 | replace Q9 := be_f Q9 | replace Q9 := of_decide_eq_true Q9 | replace Q9 := of_decide_eq_false Q9)
                   first
                    | (exfalso; first | omega | contradiction | (cases Q9; done))
                    | skip
                      refine cd_seq ?_
                      refine cd_seq ?_
                      refine cd_region ?_
                      refine st_val (ro_move (v := .int _ _) rfl) ?_
                      refine st_call BwtLawM_k11 (num_any _ _) ?_
                      rintro v45 w10 ⟨rfl, rfl⟩
                      refine st_val (ro_neq rfl rfl) ?_
                      refine st_val (ro_move (v := .bool _) rfl) ?_
                      refine st_split (t := 47) rfl (fun Q11 => ?_) (fun Q11 => ?_)
                      · (try first | replace Q11 := bn_t Q11 | replace Q11 := bn_f Q11)
                        (try first | replace Q11 := bx_t Q11 | replace Q11 := bx_f Q11 | replace Q11 := be_t Q11 | replace Q11 := be_f Q11 | replace Q11 := of_decide_eq_true Q11 | replace Q11 := of_decide_eq_false Q11)
                        first
                         | (exfalso; first | omega | contradiction | (cases Q11; done))
                         | skip
                           refine st_gno rfl rfl ?_
                           refine st_gno rfl rfl ?_
                           refine st_gno rfl rfl ?_
                           refine st_val (ro_pickT (v := .bool _) rfl rfl) ?_
                           refine st_val (ro_move (v := .bool _) rfl) ?_
                           refine st_gno rfl rfl ?_
                           refine st_gno rfl rfl ?_
                           refine st_val (ro_pickT (v := .bool _) rfl rfl) ?_
                           refine st_nil ?_
                           refine nx_then ?_
                           refine cd_condT rfl ?_
                           refine cd_seq ?_
                           refine cd_region ?_
                           refine st_val (ro_assign (v := .bool _) rfl) ?_
                           refine st_nil ?_
                           refine nx_then ?_
                           refine cd_ret ?_
                           refine rt_then ?_
                           refine rt_then ?_
                           refine rt_block ?_
                           refine rt_then ?_
                           refine rt_then ?_
                           refine rt_block ?_
                           refine rt_then ?_
                           refine res1 (v := .bool _) rfl rfl ?_
                           exact ⟨rfl, ((((hB.next E24).next E30).next E33).next E42)⟩
                      · (try first | replace Q11 := bn_t Q11 | replace Q11 := bn_f Q11)
                        (try first | replace Q11 := bx_t Q11 | replace Q11 := bx_f Q11 | replace Q11 := be_t Q11 | replace Q11 := be_f Q11 | replace Q11 := of_decide_eq_true Q11 | replace Q11 := of_decide_eq_false Q11)
                        first
                         | (exfalso; first | omega | contradiction | (cases Q11; done))
                         | skip
                           refine st_unguard rfl ?_
                           refine st_val (ro_move (v := .slice _ _ _) rfl) ?_
                           refine st_unguard rfl ?_
                           refine st_val (ro_len BwtLawM_l24 rfl) ?_
                           refine st_unguard rfl ?_
                           refine st_val (ro_gtr rfl rfl) ?_
                           refine st_val (ro_pickF (v := .bool _) rfl rfl) ?_
                           refine st_val (ro_move (v := .bool _) rfl) ?_
                           refine st_split (t := 52) rfl (fun Q12 => ?_) (fun Q12 => ?_)
                           · (try first | replace Q12 := bn_t Q12 | replace Q12 := bn_f Q12)
                             (try first | replace Q12 := bx_t Q12 | replace Q12 := bx_f Q12 | replace Q12 := be_t Q12 | replace Q12 := be_f Q12 | replace Q12 := of_decide_eq_true Q12 | replace Q12 := of_decide_eq_false Q12)
                             first
                              | (exfalso; first | omega | contradiction | (cases Q12; done))
                              | skip
                                refine st_gno rfl rfl ?_
                                refine st_gno rfl rfl ?_
                                refine st_val (ro_pickT (v := .bool _) rfl rfl) ?_
                                refine st_nil ?_
                                refine nx_then ?_
                                refine cd_condT rfl ?_
                                refine cd_seq ?_
                                refine cd_region ?_
                                refine st_val (ro_assign (v := .bool _) rfl) ?_
                                refine st_nil ?_
                                refine nx_then ?_
                                refine cd_ret ?_
                                refine rt_then ?_
                                refine rt_then ?_
                                refine rt_block ?_
                                refine rt_then ?_
                                refine rt_then ?_
                                refine rt_block ?_
                                refine rt_then ?_
                                refine res1 (v := .bool _) rfl rfl ?_
                                exact ⟨rfl, ((((hB.next E24).next E30).next E33).next E42)⟩
                           · (try first | replace Q12 := bn_t Q12 | replace Q12 := bn_f Q12)
                             (try first | replace Q12 := bx_t Q12 | replace Q12 := bx_f Q12 | replace Q12 := be_t Q12 | replace Q12 := be_f Q12 | replace Q12 := of_decide_eq_true Q12 | replace Q12 := of_decide_eq_false Q12)
                             first
                              | (exfalso; first | omega | contradiction | (cases Q12; done))
                              | skip
                                refine st_unguard rfl ?_
                                refine st_val (ro_move (v := .int _ _) rfl) ?_
                                refine st_unguard rfl ?_
                                refine st_val (ro_neq rfl rfl) ?_
                                refine st_val (ro_pickF (v := .bool _) rfl rfl) ?_
                                refine st_nil ?_
                                refine nx_then ?_
                                refine cd_cond rfl (fun Q13 => ?_) (fun Q13 => ?_)
                                · (try first | replace Q13 := bn_t Q13 | replace Q13 := bn_f Q13)
                                  (try first | replace Q13 := bx_t Q13 | replace Q13 := bx_f Q13 | replace Q13 := be_t Q13 | replace Q13 := be_f Q13 | replace Q13 := of_decide_eq_true Q13 | replace Q13 := of_decide_eq_false Q13)
                                  first
                                   | (exfalso; first | omega | contradiction | (cases Q13; done))
                                   | skip
                                     refine cd_seq ?_
                                     refine cd_region ?_
                                     refine st_val (ro_assign (v := .bool _) rfl) ?_
                                     refine st_nil ?_
                                     refine nx_then ?_
                                     refine cd_ret ?_
                                     refine rt_then ?_
                                     refine rt_then ?_
                                     refine rt_block ?_
                                     refine rt_then ?_
                                     refine rt_then ?_
                                     refine rt_block ?_
                                     refine rt_then ?_
                                     refine res1 (v := .bool _) rfl rfl ?_
                                     exact ⟨rfl, ((((hB.next E24).next E30).next E33).next E42)⟩
                                (try first | replace Q13 := bn_t Q13 | replace Q13 := bn_f Q13)
                                (try first | replace Q13 := bx_t Q13 | replace Q13 := bx_f Q13 | replace Q13 := be_t Q13 | replace Q13 := be_f Q13 | replace Q13 := of_decide_eq_true Q13 | replace Q13 := of_decide_eq_false Q13)
                                first
                                 | (exfalso; first | omega | contradiction | (cases Q13; done))
                                 | skip
                                   refine cd_skip ?_
                                   refine nx_then ?_
                                   refine cd_exit ?_
                                   refine ex_then ?_
                                   refine ex_block ?_
                                   refine nx_then ?_
                                   refine cd_region ?_
                                   refine st_val (ro_move (v := .int _ _) rfl) ?_
                                   refine st_val (ro_addN (b := 1) rfl rfl (by omega)) ?_
                                   refine st_val (ro_assign (v := .int _ _) rfl) ?_
                                   refine st_nil ?_
                                   refine nx_cut (k + 1) ⟨(by first | rfl | (refine int_eq ?_; omega)), trivial⟩ (by (iterate 143 refine agr_cons rfl ?_); exact agr_rfl) ⟨?_, ?_⟩
                                   · exact ⟨by omega, ((((hB.next E24).next E30).next E33).next E42)⟩
                                   · show xs.length - (k + 1) < xs.length - k; omega
                 (try first | replace Q9 := bn_t Q9 | replace Q9 := bn_f Q9)
                 (try first | replace Q9 := bx_t Q9 | replace Q9 := bx_f Q9 | replace Q9 := be_t Q9 | replace Q9 := be_f Q9 | replace Q9 := of_decide_eq_true Q9 | replace Q9 := of_decide_eq_false Q9)
                 first
                  | (exfalso; first | omega | contradiction | (cases Q9; done))
                  | skip
                    refine cd_skip ?_
                    refine nx_then ?_
                    refine cd_seq ?_
                    refine cd_region ?_
                    refine st_val (ro_move (v := .slice _ _ _) rfl) ?_
                    refine st_val (ro_move (v := .int _ _) rfl) ?_
                    refine st_val (ro_indexAddrN BwtLawM_e22 rfl rfl (by omega)) ?_
                    refine st_val (ro_fieldAddr BwtLawM_f26_0 rfl) ?_
                    refine st_val (ro_load BwtLawM_g24 rfl (by exact cellF ((((hB.next E24).next E30).next E33).next E42) (hask.cells 0 _ rfl))) ?_
                    refine st_call BwtLawM_k12 (refMake_rt A1 ca L.length Ln _ (by rw [← hLn]; exact hask.rowL.from_ ((((hB.next E24).next E30).next E33).next E42)) (by rw [hLn, List.length_map]) (by omega)) ?_
                    rintro v62 w14 ⟨⟨B62, a62, A62, c62, rfl, hbw62, ho62⟩, E62⟩
                    obtain ⟨rfl, rfl⟩ := hbw.uniq hbw62
                    refine st_val (ro_move (v := .tuple _) rfl) ?_
                    refine st_val (ro_extract rfl rfl) ?_
                    refine st_val (ro_extract rfl rfl) ?_
                    refine st_val (ro_assign (v := .slice _ _ _) rfl) ?_
                    refine st_val (ro_assign (v := .int _ _) rfl) ?_
                    refine st_nil ?_
                    refine nx_then ?_
                    refine cd_seq ?_
                    refine cd_seq ?_
                    refine cd_region ?_
                    refine st_val (ro_move (v := .int _ _) rfl) ?_
                    refine st_call BwtLawM_k11 (num_any _ _) ?_
                    rintro v66 w15 ⟨rfl, rfl⟩
                    refine st_val (ro_neq rfl rfl) ?_
                    refine st_val (ro_move (v := .bool _) rfl) ?_
                    refine st_split (t := 68) rfl (fun Q16 => ?_) (fun Q16 => ?_)
                    · (try first | replace Q16 := bn_t Q16 | replace Q16 := bn_f Q16)
                      (try first | replace Q16 := bx_t Q16 | replace Q16 := bx_f Q16 | replace Q16 := be_t Q16 | replace Q16 := be_f Q16 | replace Q16 := of_decide_eq_true Q16 | replace Q16 := of_decide_eq_false Q16)
                      first
                       | (exfalso; first | omega | contradiction | (cases Q16; done))
                       | skip
                         refine st_gno rfl rfl ?_
                         refine st_gno rfl rfl ?_
                         refine st_gno rfl rfl ?_
                         refine st_val (ro_pickT (v := .bool _) rfl rfl) ?_
                         refine st_val (ro_move (v := .bool _) rfl) ?_
                         refine st_gno rfl rfl ?_
                         refine st_gno rfl rfl ?_
                         refine st_gno rfl rfl ?_
                         refine st_gno rfl rfl ?_
                         refine st_val (ro_pickT (v := .bool _) rfl rfl) ?_
                         refine st_val (ro_move (v := .bool _) rfl) ?_
                         refine st_gno rfl rfl ?_
                         refine st_gno rfl rfl ?_
                         refine st_gno rfl rfl ?_
                         refine st_gno rfl rfl ?_
                         refine st_gno rfl rfl ?_
                         refine st_gno rfl rfl ?_
                         refine st_gno rfl rfl ?_
                         refine st_gno rfl rfl ?_
                         refine st_val (ro_pickT (v := .bool _) rfl rfl) ?_
                         refine st_nil ?_
                         refine nx_then ?_
                         refine cd_condT rfl ?_
                         refine cd_seq ?_
                         refine cd_region ?_
                         refine st_val (ro_assign (v := .bool _) rfl) ?_
                         refine st_nil ?_
                         refine nx_then ?_
                         refine cd_ret ?_
                         refine rt_then ?_
                         refine rt_block ?_
                         refine rt_then ?_
                         refine rt_then ?_
                         refine rt_block ?_
                         refine rt_then ?_
                         refine res1 (v := .bool _) rfl rfl ?_
                         exact ⟨rfl, (((((hB.next E24).next E30).next E33).next E42).next E62)⟩
                    · (try first | replace Q16 := bn_t Q16 | replace Q16 := bn_f Q16)
                      (try first | replace Q16 := bx_t Q16 | replace Q16 := bx_f Q16 | replace Q16 := be_t Q16 | replace Q16 := be_f Q16 | replace Q16 := of_decide_eq_true Q16 | replace Q16 := of_decide_eq_false Q16)
                      first
                       | (exfalso; first | omega | contradiction | (cases Q16; done))
                       | skip
                         refine st_unguard rfl ?_
                         refine st_val (ro_move (v := .int _ _) rfl) ?_
                         refine st_unguard rfl ?_
                         refine st_val (ro_move (v := .int _ _) rfl) ?_
                         refine st_unguard rfl ?_
                         refine st_val (ro_neq rfl rfl) ?_
                         refine st_val (ro_pickF (v := .bool _) rfl rfl) ?_
                         refine st_val (ro_move (v := .bool _) rfl) ?_
                         refine st_split (t := 73) rfl (fun Q17 => ?_) (fun Q17 => ?_)
                         · (try first | replace Q17 := bn_t Q17 | replace Q17 := bn_f Q17)
                           (try first | replace Q17 := bx_t Q17 | replace Q17 := bx_f Q17 | replace Q17 := be_t Q17 | replace Q17 := be_f Q17 | replace Q17 := of_decide_eq_true Q17 | replace Q17 := of_decide_eq_false Q17)
                           first
                            | (exfalso; first | omega | contradiction | (cases Q17; done))
                            | skip
                              refine st_gno rfl rfl ?_
                              refine st_gno rfl rfl ?_
                              refine st_gno rfl rfl ?_
                              refine st_gno rfl rfl ?_
                              refine st_val (ro_pickT (v := .bool _) rfl rfl) ?_
                              refine st_val (ro_move (v := .bool _) rfl) ?_
                              refine st_gno rfl rfl ?_
                              refine st_gno rfl rfl ?_
                              refine st_gno rfl rfl ?_
                              refine st_gno rfl rfl ?_
                              refine st_gno rfl rfl ?_
                              refine st_gno rfl rfl ?_
                              refine st_gno rfl rfl ?_
                              refine st_gno rfl rfl ?_
                              refine st_val (ro_pickT (v := .bool _) rfl rfl) ?_
                              refine st_nil ?_
                              refine nx_then ?_
                              refine cd_condT rfl ?_
                              refine cd_seq ?_
                              refine cd_region ?_
                              refine st_val (ro_assign (v := .bool _) rfl) ?_
                              refine st_nil ?_
                              refine nx_then ?_
                              refine cd_ret ?_
                              refine rt_then ?_
                              refine rt_block ?_
                              refine rt_then ?_
                              refine rt_then ?_
                              refine rt_block ?_
                              refine rt_then ?_
                              refine res1 (v := .bool _) rfl rfl ?_
                              exact ⟨rfl, (((((hB.next E24).next E30).next E33).next E42).next E62)⟩
                         · (try first | replace Q17 := bn_t Q17 | replace Q17 := bn_f Q17)
                           (try first | replace Q17 := bx_t Q17 | replace Q17 := bx_f Q17 | replace Q17 := be_t Q17 | replace Q17 := be_f Q17 | replace Q17 := of_decide_eq_true Q17 | replace Q17 := of_decide_eq_false Q17)
                           first
                            | (exfalso; first | omega | contradiction | (cases Q17; done))
                            | skip
                              refine st_unguard rfl ?_
                              refine st_val (ro_move (v := .slice _ _ _) rfl) ?_
                              refine st_unguard rfl ?_
                              refine st_val (ro_move (v := .slice _ _ _) rfl) ?_
                              refine st_unguard rfl ?_
                              refine st_call BwtLawM_k13 (eq_same A' A62 c' c62 Bs.length Bs.length (cI Bs) _ ((RowOf.own ho33).2.from_ ((From.rfl_.next E42).next E62)) (RowOf.own ho62).2 (by rw [List.length_map]) (by rw [List.length_map]) (by omega)) ?_
                              rintro v76 w18 ⟨rfl, E76⟩
                              refine st_unguard rfl ?_
                              refine st_val (ro_not rfl) ?_
                              refine st_val (ro_pickF (v := .bool _) rfl rfl) ?_
                              refine st_val (ro_move (v := .bool _) rfl) ?_
                              refine st_split (t := 79) rfl (fun Q19 => ?_) (fun Q19 => ?_)
                              · (try first | replace Q19 := bn_t Q19 | replace Q19 := bn_f Q19)
                                (try first | replace Q19 := bx_t Q19 | replace Q19 := bx_f Q19 | replace Q19 := be_t Q19 | replace Q19 := be_f Q19 | replace Q19 := of_decide_eq_true Q19 | replace Q19 := of_decide_eq_false Q19)
                                first
                                 | (exfalso; first | omega | contradiction | (cases Q19; done))
                                 | skip
                                   refine st_gno rfl rfl ?_
                                   refine st_gno rfl rfl ?_
                                   refine st_gno rfl rfl ?_
                                   refine st_gno rfl rfl ?_
                                   refine st_gno rfl rfl ?_
                                   refine st_gno rfl rfl ?_
                                   refine st_gno rfl rfl ?_
                                   refine st_gno rfl rfl ?_
                                   refine st_val (ro_pickT (v := .bool _) rfl rfl) ?_
                                   refine st_nil ?_
                                   refine nx_then ?_
                                   refine cd_condT rfl ?_
                                   refine cd_seq ?_
                                   refine cd_region ?_
                                   refine st_val (ro_assign (v := .bool _) rfl) ?_
                                   refine st_nil ?_
                                   refine nx_then ?_
                                   refine cd_ret ?_
                                   refine rt_then ?_
                                   refine rt_block ?_
                                   refine rt_then ?_
                                   refine rt_then ?_
                                   refine rt_block ?_
                                   refine rt_then ?_
                                   refine res1 (v := .bool _) rfl rfl ?_
                                   exact ⟨rfl, ((((((hB.next E24).next E30).next E33).next E42).next E62).next E76)⟩
                              · (try first | replace Q19 := bn_t Q19 | replace Q19 := bn_f Q19)
                                (try first | replace Q19 := bx_t Q19 | replace Q19 := bx_f Q19 | replace Q19 := be_t Q19 | replace Q19 := be_f Q19 | replace Q19 := of_decide_eq_true Q19 | replace Q19 := of_decide_eq_false Q19)
                                first
                                 | (exfalso; first | omega | contradiction | (cases Q19; done))
                                 | skip
                                   refine st_unguard rfl ?_
                                   refine st_val (ro_move (v := .slice _ _ _) rfl) ?_
                                   refine st_unguard rfl ?_
                                   refine st_val (ro_move (v := .slice _ _ _) rfl) ?_
                                   refine st_unguard rfl ?_
                                   refine st_val (ro_move (v := .int _ _) rfl) ?_
                                   refine st_unguard rfl ?_
                                   refine st_val (ro_indexAddrN BwtLawM_e22 rfl rfl (by omega)) ?_
                                   refine st_unguard rfl ?_
                                   refine st_val (ro_fieldAddr BwtLawM_f26_0 rfl) ?_
                                   refine st_unguard rfl ?_
                                   refine st_val (ro_load BwtLawM_g24 rfl (by exact cellF ((((((hB.next E24).next E30).next E33).next E42).next E62).next E76) (hask.cells 0 _ rfl))) ?_
                                   refine st_unguard rfl ?_
                                   refine st_call BwtLawM_k13 (eq_same A30 A1 c30 ca L.length L.length L _ (hr30.from_ (E33.next (((From.rfl_.next E42).next E62).next E76))) (hask.rowL.from_ ((((((hB.next E24).next E30).next E33).next E42).next E62).next E76)) rfl rfl (by omega)) ?_
                                   rintro v86 w20 ⟨rfl, E86⟩
                                   refine st_unguard rfl ?_
                                   refine st_val (ro_not rfl) ?_
                                   refine st_val (ro_pickF (v := .bool _) rfl rfl) ?_
                                   refine st_nil ?_
                                   refine nx_then ?_
                                   refine cd_cond rfl (fun Q21 => ?_) (fun Q21 => ?_)
                                   · (try first | replace Q21 := bn_t Q21 | replace Q21 := bn_f Q21)
                                     (try first | replace Q21 := bx_t Q21 | replace Q21 := bx_f Q21 | replace Q21 := be_t Q21 | replace Q21 := be_f Q21 | replace Q21 := of_decide_eq_true Q21 | replace Q21 := of_decide_eq_false Q21)
                                     first
                                      | (exfalso; first | omega | contradiction | (cases Q21; done))
                                      | skip
                                        refine cd_seq ?_
                                        refine cd_region ?_
                                        refine st_val (ro_assign (v := .bool _) rfl) ?_
                                        refine st_nil ?_
                                        refine nx_then ?_
                                        refine cd_ret ?_
                                        refine rt_then ?_
                                        refine rt_block ?_
                                        refine rt_then ?_
                                        refine rt_then ?_
                                        refine rt_block ?_
                                        refine rt_then ?_
                                        refine res1 (v := .bool _) rfl rfl ?_
                                        exact ⟨rfl, (((((((hB.next E24).next E30).next E33).next E42).next E62).next E76).next E86)⟩
                                   (try first | replace Q21 := bn_t Q21 | replace Q21 := bn_f Q21)
                                   (try first | replace Q21 := bx_t Q21 | replace Q21 := bx_f Q21 | replace Q21 := be_t Q21 | replace Q21 := be_f Q21 | replace Q21 := of_decide_eq_true Q21 | replace Q21 := of_decide_eq_false Q21)
                                   first
                                    | (exfalso; first | omega | contradiction | (cases Q21; done))
                                    | skip
                                      refine cd_skip ?_
                                      refine nx_then ?_
                                      refine cd_region ?_
                                      refine st_val (ro_move (v := .slice _ _ _) rfl) ?_
                                      have ho89 := ho33.kept_from ((((From.rfl_.next E42).next E62).next E76).next E86)
                                      rw [show (cI Bs).map iV = Bs.map fun x : Nat => iV (x : Nat) by simp [cI]] at ho89
                                      have hz89 := (E33.next ((((From.rfl_.next E42).next E62).next E76).next E86)).size
                                      refine st_call BwtLawM_k14 (spoil_n _ A' c' Bs.length Bs _ ho89 (by omega) hz89) ?_
                                      rintro v90 w22 hg90
                                      refine st_nil ?_
                                      refine nx_block ?_
                                      refine nx_then ?_
                                      refine cd_region ?_
                                      refine st_val (ro_move (v := .int _ _) rfl) ?_
                                      refine st_val (ro_addN (b := 1) rfl rfl (by omega)) ?_
                                      refine st_val (ro_assign (v := .int _ _) rfl) ?_
                                      refine st_nil ?_
                                      refine nx_cut (k + 1) ⟨(by first | rfl | (refine int_eq ?_; omega)), trivial⟩ (by (iterate 169 refine agr_cons rfl ?_); exact agr_rfl) ⟨?_, ?_⟩
                                      · exact ⟨by omega, (((((((((hB.next E24).next E30).next E33).next E42).next E62).next E76).next E86)).grew hg90 (fun k hk => Nat.le_trans hz33 (own_at ho89 k hk).1))⟩
                                      · show xs.length - (k + 1) < xs.length - k; omega
               · have hmay : L.all (okS 512) = true := by rw [hLn]; exact all_nat hlt
                 have hBl := hbw.len
                 have hLl : Ln.length = L.length := by rw [hLn, List.length_map]
                 refine st_val (ro_move (v := .tuple _) rfl) ?_
                 refine st_val (ro_extract rfl rfl) ?_
                 refine st_val (ro_extract rfl rfl) ?_
                 refine st_val (ro_extract rfl rfl) ?_
                 refine st_val (ro_assign (v := .slice _ _ _) rfl) ?_
                 refine st_val (ro_assign (v := .int _ _) rfl) ?_
                 refine st_val (ro_assign (v := .int _ _) rfl) ?_
                 refine st_nil ?_
                 refine nx_then ?_
                 refine cd_seq ?_
                 refine cd_seq ?_
                 refine cd_region ?_
                 refine st_val (ro_move (v := .slice _ _ _) rfl) ?_
                 refine st_val (ro_move (v := .int _ _) rfl) ?_
                 refine st_val (ro_indexAddrN BwtLawM_e22 rfl rfl (by omega)) ?_
                 refine st_val (ro_fieldAddr BwtLawM_f26_0 rfl) ?_
                 refine st_val (ro_load BwtLawM_g24 rfl (by exact cellF (((hB.next E24).next E30).next E33) (hask.cells 0 _ rfl))) ?_
                 refine st_call BwtLawM_k10 (may_is _ 512 A1 ca L.length L _ hmay (hask.rowL.from_ (((hB.next E24).next E30).next E33)) rfl (by omega)) ?_
                 rintro v42 w23 ⟨rfl, E42⟩
                 refine st_val (ro_not rfl) ?_
                 refine st_nil ?_
                 refine nx_then ?_
                 refine cd_cond rfl (fun Q24 => ?_) (fun Q24 => ?_)
                 · (try first | replace Q24 := bn_t Q24 | replace Q24 := bn_f Q24)
                   (try first | replace Q24 := bx_t Q24 | replace Q24 := bx_f Q24 | replace Q24 := be_t Q24 | replace Q24 := be_f Q24 | replace Q24 := of_decide_eq_true Q24 | replace Q24 := of_decide_eq_false Q24)
                   first
                    | (exfalso; first | omega | contradiction | (cases Q24; done))
                    | skip
                      refine cd_seq ?_
                      refine cd_seq ?_
                      refine cd_region ?_
                      refine st_val (ro_move (v := .int _ _) rfl) ?_
                      refine st_call BwtLawM_k11 (num_any _ _) ?_
                      rintro v45 w25 ⟨rfl, rfl⟩
                      refine st_val (ro_neq rfl rfl) ?_
                      refine st_val (ro_move (v := .bool _) rfl) ?_
                      refine st_split (t := 47) rfl (fun Q26 => ?_) (fun Q26 => ?_)
                      · (try first | replace Q26 := bn_t Q26 | replace Q26 := bn_f Q26)
                        (try first | replace Q26 := bx_t Q26 | replace Q26 := bx_f Q26 | replace Q26 := be_t Q26 | replace Q26 := be_f Q26 | replace Q26 := of_decide_eq_true Q26 | replace Q26 := of_decide_eq_false Q26)
                        first
                         | (exfalso; first | omega | contradiction | (cases Q26; done))
                         | skip
                           refine st_gno rfl rfl ?_
                           refine st_gno rfl rfl ?_
                           refine st_gno rfl rfl ?_
                           refine st_val (ro_pickT (v := .bool _) rfl rfl) ?_
                           refine st_val (ro_move (v := .bool _) rfl) ?_
                           refine st_gno rfl rfl ?_
                           refine st_gno rfl rfl ?_
                           refine st_val (ro_pickT (v := .bool _) rfl rfl) ?_
                           refine st_nil ?_
                           refine nx_then ?_
                           refine cd_condT rfl ?_
                           refine cd_seq ?_
                           refine cd_region ?_
                           refine st_val (ro_assign (v := .bool _) rfl) ?_
                           refine st_nil ?_
                           refine nx_then ?_
                           refine cd_ret ?_
                           refine rt_then ?_
                           refine rt_then ?_
                           refine rt_block ?_
                           refine rt_then ?_
                           refine rt_then ?_
                           refine rt_block ?_
                           refine rt_then ?_
                           refine res1 (v := .bool _) rfl rfl ?_
                           exact ⟨rfl, ((((hB.next E24).next E30).next E33).next E42)⟩
                      · (try first | replace Q26 := bn_t Q26 | replace Q26 := bn_f Q26)
                        (try first | replace Q26 := bx_t Q26 | replace Q26 := bx_f Q26 | replace Q26 := be_t Q26 | replace Q26 := be_f Q26 | replace Q26 := of_decide_eq_true Q26 | replace Q26 := of_decide_eq_false Q26)
                        first
                         | (exfalso; first | omega | contradiction | (cases Q26; done))
                         | skip
                           refine st_unguard rfl ?_
                           refine st_val (ro_move (v := .slice _ _ _) rfl) ?_
                           refine st_unguard rfl ?_
                           refine st_val (ro_len BwtLawM_l24 rfl) ?_
                           refine st_unguard rfl ?_
                           refine st_val (ro_gtr rfl rfl) ?_
                           refine st_val (ro_pickF (v := .bool _) rfl rfl) ?_
                           refine st_val (ro_move (v := .bool _) rfl) ?_
                           refine st_split (t := 52) rfl (fun Q27 => ?_) (fun Q27 => ?_)
                           · (try first | replace Q27 := bn_t Q27 | replace Q27 := bn_f Q27)
                             (try first | replace Q27 := bx_t Q27 | replace Q27 := bx_f Q27 | replace Q27 := be_t Q27 | replace Q27 := be_f Q27 | replace Q27 := of_decide_eq_true Q27 | replace Q27 := of_decide_eq_false Q27)
                             first
                              | (exfalso; first | omega | contradiction | (cases Q27; done))
                              | skip
                                refine st_gno rfl rfl ?_
                                refine st_gno rfl rfl ?_
                                refine st_val (ro_pickT (v := .bool _) rfl rfl) ?_
                                refine st_nil ?_
                                refine nx_then ?_
                                refine cd_condT rfl ?_
                                refine cd_seq ?_
                                refine cd_region ?_
                                refine st_val (ro_assign (v := .bool _) rfl) ?_
                                refine st_nil ?_
                                refine nx_then ?_
                                refine cd_ret ?_
                                refine rt_then ?_
                                refine rt_then ?_
                                refine rt_block ?_
                                refine rt_then ?_
                                refine rt_then ?_
                                refine rt_block ?_
                                refine rt_then ?_
                                refine res1 (v := .bool _) rfl rfl ?_
                                exact ⟨rfl, ((((hB.next E24).next E30).next E33).next E42)⟩
                           · (try first | replace Q27 := bn_t Q27 | replace Q27 := bn_f Q27)
                             (try first | replace Q27 := bx_t Q27 | replace Q27 := bx_f Q27 | replace Q27 := be_t Q27 | replace Q27 := be_f Q27 | replace Q27 := of_decide_eq_true Q27 | replace Q27 := of_decide_eq_false Q27)
                             first
                              | (exfalso; first | omega | contradiction | (cases Q27; done))
                              | skip
                                refine st_unguard rfl ?_
                                refine st_val (ro_move (v := .int _ _) rfl) ?_
                                refine st_unguard rfl ?_
                                refine st_val (ro_neq rfl rfl) ?_
                                refine st_val (ro_pickF (v := .bool _) rfl rfl) ?_
                                refine st_nil ?_
                                refine nx_then ?_
                                refine cd_cond rfl (fun Q28 => ?_) (fun Q28 => ?_)
                                · (try first | replace Q28 := bn_t Q28 | replace Q28 := bn_f Q28)
                                  (try first | replace Q28 := bx_t Q28 | replace Q28 := bx_f Q28 | replace Q28 := be_t Q28 | replace Q28 := be_f Q28 | replace Q28 := of_decide_eq_true Q28 | replace Q28 := of_decide_eq_false Q28)
                                  first
                                   | (exfalso; first | omega | contradiction | (cases Q28; done))
                                   | skip
                                     refine cd_seq ?_
                                     refine cd_region ?_
                                     refine st_val (ro_assign (v := .bool _) rfl) ?_
                                     refine st_nil ?_
                                     refine nx_then ?_
                                     refine cd_ret ?_
                                     refine rt_then ?_
                                     refine rt_then ?_
                                     refine rt_block ?_
                                     refine rt_then ?_
                                     refine rt_then ?_
                                     refine rt_block ?_
                                     refine rt_then ?_
                                     refine res1 (v := .bool _) rfl rfl ?_
                                     exact ⟨rfl, ((((hB.next E24).next E30).next E33).next E42)⟩
                                (try first | replace Q28 := bn_t Q28 | replace Q28 := bn_f Q28)
                                (try first | replace Q28 := bx_t Q28 | replace Q28 := bx_f Q28 | replace Q28 := be_t Q28 | replace Q28 := be_f Q28 | replace Q28 := of_decide_eq_true Q28 | replace Q28 := of_decide_eq_false Q28)
                                first
                                 | (exfalso; first | omega | contradiction | (cases Q28; done))
                                 | skip
                                   refine cd_skip ?_
                                   refine nx_then ?_
                                   refine cd_exit ?_
                                   refine ex_then ?_
                                   refine ex_block ?_
                                   refine nx_then ?_
                                   refine cd_region ?_
                                   refine st_val (ro_move (v := .int _ _) rfl) ?_
                                   refine st_val (ro_addN (b := 1) rfl rfl (by omega)) ?_
                                   refine st_val (ro_assign (v := .int _ _) rfl) ?_
                                   refine st_nil ?_
                                   refine nx_cut (k + 1) ⟨(by first | rfl | (refine int_eq ?_; omega)), trivial⟩ (by (iterate 143 refine agr_cons rfl ?_); exact agr_rfl) ⟨?_, ?_⟩
                                   · exact ⟨by omega, ((((hB.next E24).next E30).next E33).next E42)⟩
                                   · show xs.length - (k + 1) < xs.length - k; omega
                 (try first | replace Q24 := bn_t Q24 | replace Q24 := bn_f Q24)
                 (try first | replace Q24 := bx_t Q24 | replace Q24 := bx_f Q24 | replace Q24 := be_t Q24 | replace Q24 := be_f Q24 | replace Q24 := of_decide_eq_true Q24 | replace Q24 := of_decide_eq_false Q24)
                 first
                  | (exfalso; first | omega | contradiction | (cases Q24; done))
                  | skip
                    refine cd_skip ?_
                    refine nx_then ?_
                    refine cd_seq ?_
                    refine cd_region ?_
                    refine st_val (ro_move (v := .slice _ _ _) rfl) ?_
                    refine st_val (ro_move (v := .int _ _) rfl) ?_
                    refine st_val (ro_indexAddrN BwtLawM_e22 rfl rfl (by omega)) ?_
                    refine st_val (ro_fieldAddr BwtLawM_f26_0 rfl) ?_
                    refine st_val (ro_load BwtLawM_g24 rfl (by exact cellF ((((hB.next E24).next E30).next E33).next E42) (hask.cells 0 _ rfl))) ?_
                    refine st_call BwtLawM_k12 (refMake_rt A1 ca L.length Ln _ (by rw [← hLn]; exact hask.rowL.from_ ((((hB.next E24).next E30).next E33).next E42)) (by rw [hLn, List.length_map]) (by omega)) ?_
                    rintro v62 w29 ⟨⟨B62, a62, A62, c62, rfl, hbw62, ho62⟩, E62⟩
                    obtain ⟨rfl, rfl⟩ := hbw.uniq hbw62
                    refine st_val (ro_move (v := .tuple _) rfl) ?_
                    refine st_val (ro_extract rfl rfl) ?_
                    refine st_val (ro_extract rfl rfl) ?_
                    refine st_val (ro_assign (v := .slice _ _ _) rfl) ?_
                    refine st_val (ro_assign (v := .int _ _) rfl) ?_
                    refine st_nil ?_
                    refine nx_then ?_
                    refine cd_seq ?_
                    refine cd_seq ?_
                    refine cd_region ?_
                    refine st_val (ro_move (v := .int _ _) rfl) ?_
                    refine st_call BwtLawM_k11 (num_any _ _) ?_
                    rintro v66 w30 ⟨rfl, rfl⟩
                    refine st_val (ro_neq rfl rfl) ?_
                    refine st_val (ro_move (v := .bool _) rfl) ?_
                    refine st_split (t := 68) rfl (fun Q31 => ?_) (fun Q31 => ?_)
                    · (try first | replace Q31 := bn_t Q31 | replace Q31 := bn_f Q31)
                      (try first | replace Q31 := bx_t Q31 | replace Q31 := bx_f Q31 | replace Q31 := be_t Q31 | replace Q31 := be_f Q31 | replace Q31 := of_decide_eq_true Q31 | replace Q31 := of_decide_eq_false Q31)
                      first
                       | (exfalso; first | omega | contradiction | (cases Q31; done))
                       | skip
                         refine st_gno rfl rfl ?_
                         refine st_gno rfl rfl ?_
                         refine st_gno rfl rfl ?_
                         refine st_val (ro_pickT (v := .bool _) rfl rfl) ?_
                         refine st_val (ro_move (v := .bool _) rfl) ?_
                         refine st_gno rfl rfl ?_
                         refine st_gno rfl rfl ?_
                         refine st_gno rfl rfl ?_
                         refine st_gno rfl rfl ?_
                         refine st_val (ro_pickT (v := .bool _) rfl rfl) ?_
                         refine st_val (ro_move (v := .bool _) rfl) ?_
                         refine st_gno rfl rfl ?_
                         refine st_gno rfl rfl ?_
                         refine st_gno rfl rfl ?_
                         refine st_gno rfl rfl ?_
                         refine st_gno rfl rfl ?_
                         refine st_gno rfl rfl ?_
                         refine st_gno rfl rfl ?_
                         refine st_gno rfl rfl ?_
                         refine st_val (ro_pickT (v := .bool _) rfl rfl) ?_
                         refine st_nil ?_
                         refine nx_then ?_
                         refine cd_condT rfl ?_
                         refine cd_seq ?_
                         refine cd_region ?_
                         refine st_val (ro_assign (v := .bool _) rfl) ?_
                         refine st_nil ?_
                         refine nx_then ?_
                         refine cd_ret ?_
                         refine rt_then ?_
                         refine rt_block ?_
                         refine rt_then ?_
                         refine rt_then ?_
                         refine rt_block ?_
                         refine rt_then ?_
                         refine res1 (v := .bool _) rfl rfl ?_
                         exact ⟨rfl, (((((hB.next E24).next E30).next E33).next E42).next E62)⟩
                    · (try first | replace Q31 := bn_t Q31 | replace Q31 := bn_f Q31)
                      (try first | replace Q31 := bx_t Q31 | replace Q31 := bx_f Q31 | replace Q31 := be_t Q31 | replace Q31 := be_f Q31 | replace Q31 := of_decide_eq_true Q31 | replace Q31 := of_decide_eq_false Q31)
                      first
                       | (exfalso; first | omega | contradiction | (cases Q31; done))
                       | skip
                         refine st_unguard rfl ?_
                         refine st_val (ro_move (v := .int _ _) rfl) ?_
                         refine st_unguard rfl ?_
                         refine st_val (ro_move (v := .int _ _) rfl) ?_
                         refine st_unguard rfl ?_
                         refine st_val (ro_neq rfl rfl) ?_
                         refine st_val (ro_pickF (v := .bool _) rfl rfl) ?_
                         refine st_val (ro_move (v := .bool _) rfl) ?_
                         refine st_split (t := 73) rfl (fun Q32 => ?_) (fun Q32 => ?_)
                         · (try first | replace Q32 := bn_t Q32 | replace Q32 := bn_f Q32)
                           (try first | replace Q32 := bx_t Q32 | replace Q32 := bx_f Q32 | replace Q32 := be_t Q32 | replace Q32 := be_f Q32 | replace Q32 := of_decide_eq_true Q32 | replace Q32 := of_decide_eq_false Q32)
                           first
                            | (exfalso; first | omega | contradiction | (cases Q32; done))
                            | skip
                              refine st_gno rfl rfl ?_
                              refine st_gno rfl rfl ?_
                              refine st_gno rfl rfl ?_
                              refine st_gno rfl rfl ?_
                              refine st_val (ro_pickT (v := .bool _) rfl rfl) ?_
                              refine st_val (ro_move (v := .bool _) rfl) ?_
                              refine st_gno rfl rfl ?_
                              refine st_gno rfl rfl ?_
                              refine st_gno rfl rfl ?_
                              refine st_gno rfl rfl ?_
                              refine st_gno rfl rfl ?_
                              refine st_gno rfl rfl ?_
                              refine st_gno rfl rfl ?_
                              refine st_gno rfl rfl ?_
                              refine st_val (ro_pickT (v := .bool _) rfl rfl) ?_
                              refine st_nil ?_
                              refine nx_then ?_
                              refine cd_condT rfl ?_
                              refine cd_seq ?_
                              refine cd_region ?_
                              refine st_val (ro_assign (v := .bool _) rfl) ?_
                              refine st_nil ?_
                              refine nx_then ?_
                              refine cd_ret ?_
                              refine rt_then ?_
                              refine rt_block ?_
                              refine rt_then ?_
                              refine rt_then ?_
                              refine rt_block ?_
                              refine rt_then ?_
                              refine res1 (v := .bool _) rfl rfl ?_
                              exact ⟨rfl, (((((hB.next E24).next E30).next E33).next E42).next E62)⟩
                         · (try first | replace Q32 := bn_t Q32 | replace Q32 := bn_f Q32)
                           (try first | replace Q32 := bx_t Q32 | replace Q32 := bx_f Q32 | replace Q32 := be_t Q32 | replace Q32 := be_f Q32 | replace Q32 := of_decide_eq_true Q32 | replace Q32 := of_decide_eq_false Q32)
                           first
                            | (exfalso; first | omega | contradiction | (cases Q32; done))
                            | skip
                              refine st_unguard rfl ?_
                              refine st_val (ro_move (v := .slice _ _ _) rfl) ?_
                              refine st_unguard rfl ?_
                              refine st_val (ro_move (v := .slice _ _ _) rfl) ?_
                              refine st_unguard rfl ?_
                              refine st_call BwtLawM_k13 (eq_same A' A62 c' c62 Bs.length Bs.length (cI Bs) _ ((RowOf.own ho33).2.from_ ((From.rfl_.next E42).next E62)) (RowOf.own ho62).2 (by rw [List.length_map]) (by rw [List.length_map]) (by omega)) ?_
                              rintro v76 w33 ⟨rfl, E76⟩
                              refine st_unguard rfl ?_
                              refine st_val (ro_not rfl) ?_
                              refine st_val (ro_pickF (v := .bool _) rfl rfl) ?_
                              refine st_val (ro_move (v := .bool _) rfl) ?_
                              refine st_split (t := 79) rfl (fun Q34 => ?_) (fun Q34 => ?_)
                              · (try first | replace Q34 := bn_t Q34 | replace Q34 := bn_f Q34)
                                (try first | replace Q34 := bx_t Q34 | replace Q34 := bx_f Q34 | replace Q34 := be_t Q34 | replace Q34 := be_f Q34 | replace Q34 := of_decide_eq_true Q34 | replace Q34 := of_decide_eq_false Q34)
                                first
                                 | (exfalso; first | omega | contradiction | (cases Q34; done))
                                 | skip
                                   refine st_gno rfl rfl ?_
                                   refine st_gno rfl rfl ?_
                                   refine st_gno rfl rfl ?_
                                   refine st_gno rfl rfl ?_
                                   refine st_gno rfl rfl ?_
                                   refine st_gno rfl rfl ?_
                                   refine st_gno rfl rfl ?_
                                   refine st_gno rfl rfl ?_
                                   refine st_val (ro_pickT (v := .bool _) rfl rfl) ?_
                                   refine st_nil ?_
                                   refine nx_then ?_
                                   refine cd_condT rfl ?_
                                   refine cd_seq ?_
                                   refine cd_region ?_
                                   refine st_val (ro_assign (v := .bool _) rfl) ?_
                                   refine st_nil ?_
                                   refine nx_then ?_
                                   refine cd_ret ?_
                                   refine rt_then ?_
                                   refine rt_block ?_
                                   refine rt_then ?_
                                   refine rt_then ?_
                                   refine rt_block ?_
                                   refine rt_then ?_
                                   refine res1 (v := .bool _) rfl rfl ?_
                                   exact ⟨rfl, ((((((hB.next E24).next E30).next E33).next E42).next E62).next E76)⟩
                              · (try first | replace Q34 := bn_t Q34 | replace Q34 := bn_f Q34)
                                (try first | replace Q34 := bx_t Q34 | replace Q34 := bx_f Q34 | replace Q34 := be_t Q34 | replace Q34 := be_f Q34 | replace Q34 := of_decide_eq_true Q34 | replace Q34 := of_decide_eq_false Q34)
                                first
                                 | (exfalso; first | omega | contradiction | (cases Q34; done))
                                 | skip
                                   refine st_unguard rfl ?_
                                   refine st_val (ro_move (v := .slice _ _ _) rfl) ?_
                                   refine st_unguard rfl ?_
                                   refine st_val (ro_move (v := .slice _ _ _) rfl) ?_
                                   refine st_unguard rfl ?_
                                   refine st_val (ro_move (v := .int _ _) rfl) ?_
                                   refine st_unguard rfl ?_
                                   refine st_val (ro_indexAddrN BwtLawM_e22 rfl rfl (by omega)) ?_
                                   refine st_unguard rfl ?_
                                   refine st_val (ro_fieldAddr BwtLawM_f26_0 rfl) ?_
                                   refine st_unguard rfl ?_
                                   refine st_val (ro_load BwtLawM_g24 rfl (by exact cellF ((((((hB.next E24).next E30).next E33).next E42).next E62).next E76) (hask.cells 0 _ rfl))) ?_
                                   refine st_unguard rfl ?_
                                   refine st_call BwtLawM_k13 (eq_same A30 A1 c30 ca L.length L.length L _ (hr30.from_ (E33.next (((From.rfl_.next E42).next E62).next E76))) (hask.rowL.from_ ((((((hB.next E24).next E30).next E33).next E42).next E62).next E76)) rfl rfl (by omega)) ?_
                                   rintro v86 w35 ⟨rfl, E86⟩
                                   refine st_unguard rfl ?_
                                   refine st_val (ro_not rfl) ?_
                                   refine st_val (ro_pickF (v := .bool _) rfl rfl) ?_
                                   refine st_nil ?_
                                   refine nx_then ?_
                                   refine cd_cond rfl (fun Q36 => ?_) (fun Q36 => ?_)
                                   · (try first | replace Q36 := bn_t Q36 | replace Q36 := bn_f Q36)
                                     (try first | replace Q36 := bx_t Q36 | replace Q36 := bx_f Q36 | replace Q36 := be_t Q36 | replace Q36 := be_f Q36 | replace Q36 := of_decide_eq_true Q36 | replace Q36 := of_decide_eq_false Q36)
                                     first
                                      | (exfalso; first | omega | contradiction | (cases Q36; done))
                                      | skip
                                        refine cd_seq ?_
                                        refine cd_region ?_
                                        refine st_val (ro_assign (v := .bool _) rfl) ?_
                                        refine st_nil ?_
                                        refine nx_then ?_
                                        refine cd_ret ?_
                                        refine rt_then ?_
                                        refine rt_block ?_
                                        refine rt_then ?_
                                        refine rt_then ?_
                                        refine rt_block ?_
                                        refine rt_then ?_
                                        refine res1 (v := .bool _) rfl rfl ?_
                                        exact ⟨rfl, (((((((hB.next E24).next E30).next E33).next E42).next E62).next E76).next E86)⟩
                                   (try first | replace Q36 := bn_t Q36 | replace Q36 := bn_f Q36)
                                   (try first | replace Q36 := bx_t Q36 | replace Q36 := bx_f Q36 | replace Q36 := be_t Q36 | replace Q36 := be_f Q36 | replace Q36 := of_decide_eq_true Q36 | replace Q36 := of_decide_eq_false Q36)
                                   first
                                    | (exfalso; first | omega | contradiction | (cases Q36; done))
                                    | skip
                                      refine cd_skip ?_
                                      refine nx_then ?_
                                      refine cd_region ?_
                                      refine st_val (ro_move (v := .slice _ _ _) rfl) ?_
                                      have ho89 := ho33.kept_from ((((From.rfl_.next E42).next E62).next E76).next E86)
                                      rw [show (cI Bs).map iV = Bs.map fun x : Nat => iV (x : Nat) by simp [cI]] at ho89
                                      have hz89 := (E33.next ((((From.rfl_.next E42).next E62).next E76).next E86)).size
                                      refine st_call BwtLawM_k14 (spoil_n _ A' c' Bs.length Bs _ ho89 (by omega) hz89) ?_
                                      rintro v90 w37 hg90
                                      refine st_nil ?_
                                      refine nx_block ?_
                                      refine nx_then ?_
                                      refine cd_region ?_
                                      refine st_val (ro_move (v := .int _ _) rfl) ?_
                                      refine st_val (ro_addN (b := 1) rfl rfl (by omega)) ?_
                                      refine st_val (ro_assign (v := .int _ _) rfl) ?_
                                      refine st_nil ?_
                                      refine nx_cut (k + 1) ⟨(by first | rfl | (refine int_eq ?_; omega)), trivial⟩ (by (iterate 169 refine agr_cons rfl ?_); exact agr_rfl) ⟨?_, ?_⟩
                                      · exact ⟨by omega, (((((((((hB.next E24).next E30).next E33).next E42).next E62).next E76).next E86)).grew hg90 (fun k hk => Nat.le_trans hz33 (own_at ho89 k hk).1))⟩
                                      · show xs.length - (k + 1) < xs.length - k; omega
       (try first | replace Q3 := bn_t Q3 | replace Q3 := bn_f Q3)
       (try first | replace Q3 := bx_t Q3 | replace Q3 := bx_f Q3 | replace Q3 := be_t Q3 | replace Q3 := be_f Q3 | replace Q3 := of_decide_eq_true Q3 | replace Q3 := of_decide_eq_false Q3)
       first
        | (exfalso; first | omega | contradiction | (cases Q3; done))
        | skip
          refine cd_exit ?_
          refine ex_then ?_
          refine ex_then ?_
          refine ex_block ?_
          refine nx_then ?_
          refine cd_seq ?_
          refine cd_region ?_
          refine st_call BwtLawM_k15 (wakes_rt _) ?_
          rintro v91 w38 ⟨rfl, E91⟩
          refine st_val (ro_assign (v := .bool _) rfl) ?_
          refine st_nil ?_
          refine nx_then ?_
          refine cd_ret ?_
          refine res1 (v := .bool _) rfl rfl ?_
          exact ⟨rfl, (hB.next E91)⟩
  · (try first | replace Q2 := bn_t Q2 | replace Q2 := bn_f Q2)
    (try first | replace Q2 := bx_t Q2 | replace Q2 := bx_f Q2 | replace Q2 := be_t Q2 | replace Q2 := be_f Q2 | replace Q2 := of_decide_eq_true Q2 | replace Q2 := of_decide_eq_false Q2)
    first
     | (exfalso; first | omega | contradiction | (cases Q2; done))
     | skip
       refine st_gno rfl rfl ?_
       refine st_gno rfl rfl ?_
       refine st_val (ro_pickF (v := .bool _) rfl rfl) ?_
       refine st_nil ?_
       refine nx_then ?_
       refine cd_condF rfl ?_
       refine cd_exit ?_
       refine ex_then ?_
       refine ex_then ?_
       refine ex_block ?_
       refine nx_then ?_
       refine cd_seq ?_
       refine cd_region ?_
       refine st_call BwtLawM_k15 (wakes_rt _) ?_
       rintro v91 w39 ⟨rfl, E91⟩
       refine st_val (ro_assign (v := .bool _) rfl) ?_
       refine st_nil ?_
       refine nx_then ?_
       refine cd_ret ?_
       refine res1 (v := .bool _) rfl rfl ?_
       exact ⟨rfl, (hB.next E91)⟩
set_option maxRecDepth 100000 in
theorem BwtMakes_lifted (os : Os) (started : os.Started) (H : Type) (enc : TypeId × Value → H) :
    ReturnsInHanded {} Try.checked os 3 .any (Rows.bwtMakesSpec.pre6 enc Try.prog Try.f3 Rows.bwtMakesRow.domain false) (Rows.bwtMakesSpec.post enc Try.prog Try.f3 false true false false) := by
  refine returnsInHanded_of_change_sized (C := Try.checked) Try.own started (by kernel_rfl) Try.func3
    (ChangeSpec.witness6 (enc := enc) (C := Try.checked) false ⟨#[], #[.slice none 0 0], []⟩ 8 (by kernel_rfl) (by kernel_rfl) (by kernel_rfl) (by kernel_rfl)) ?_
  intro W base args ds gs before hval hW _ hsz _
  exact law_step 3 Try.f3 22 4 Rows.bwtMakesSpec Try.params3 (by kernel_rfl) Try.underlying4 rfl (fun _ => rfl) (by kernel_rfl) (of_decide_eq_true (by kernel_rfl)) (walk_sl askT5 (by kernel_rfl) makes_law) W base args ds gs before hval hW hsz

theorem BwtMakes_holds : Rows.BwtMakesSaid :=
  OpenClaim.holds_of_wide 3 Try.f3 rfl rfl rfl rfl rfl rfl rfl ⟨rfl, rfl, rfl, rfl, rfl⟩ rfl rfl rfl rfl rfl (by kernel_rfl) Try.func3 (by kernel_rfl)
    (of_decide_eq_true (by kernel_rfl)) (by unfold Func.isWrapper; first | (rw [if_pos (by decide +kernel)]; kernel_rfl) | (rw [if_neg (by decide +kernel)]; exact ⟨rfl, rfl⟩))
    (fun os started H enc _ => BwtMakes_lifted os started H enc)
#print axioms BwtMakes_holds

end Go.Proofs.Ytpafbgdbjambgaa
