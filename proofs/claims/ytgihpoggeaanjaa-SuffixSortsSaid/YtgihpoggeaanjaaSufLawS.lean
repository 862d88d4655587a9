/- The law SuffixSorts. -/
import Derived.Test.YtgihpoggeaanjaaSufHelp
namespace Go.Proofs.Ytgihpoggeaanjaa
open Go.RowKit
open Go.ChangeShapes Go.WideShapes Go.ChangeAt
open Go.Proofs.Ytgihpoggeaanjaa.SA
theorem SufLawS_l22 : (elemQ Try.prog 22).isSome = true := by kernel_rfl
theorem SufLawS_e22 : elemQ Try.prog 22 = some (26, 2) := by kernel_rfl
theorem SufLawS_g26 : aggQ Try.prog 26 = some true := by kernel_rfl
theorem SufLawS_z26 : sizeQ Try.prog 26 = some 2 := by kernel_rfl
theorem SufLawS_k7 : callable Try.prog 7 = true := by kernel_rfl
theorem SufLawS_f26_0 : fieldQ Try.prog 26 0 = some 0 := by kernel_rfl
theorem SufLawS_g24 : aggQ Try.prog 24 = some false := by kernel_rfl
theorem SufLawS_k8 : callable Try.prog 8 = true := by kernel_rfl
theorem SufLawS_k9 : callable Try.prog 9 = true := by kernel_rfl
theorem SufLawS_k10 : callable Try.prog 10 = true := by kernel_rfl
theorem SufLawS_k11 : callable Try.prog 11 = true := by kernel_rfl
theorem SufLawS_l24 : (elemQ Try.prog 24).isSome = true := by kernel_rfl
theorem SufLawS_k13 : callable Try.prog 13 = true := by kernel_rfl
theorem SufLawS_k12 : callable Try.prog 12 = true := by kernel_rfl
theorem SufLawS_k14 : callable Try.prog 14 = true := by kernel_rfl
theorem SufLawS_k15 : callable Try.prog 15 = true := by kernel_rfl
set_option maxRecDepth 100000 in
set_option maxHeartbeats 4000000 in
theorem sorts_law (A : Option Addr) (c : Nat) (xs : List askT.den) (w : World) (hl : xs.length * askT.bytes ≤ 140737488351232) (hel : 0 < xs.length → ∃ b o, A = some ⟨b, o, none⟩ ∧ ∀ (i : Nat) (hi : i < xs.length), askT.At w (fun j => w.cell? ⟨b, o + i * askT.size + j, none⟩) xs[i]) :
    Rt Try.prog 3 [.slice A xs.length c] w (fun v w' => v = .bool true ∧ From w w') := by
  have hlen : xs.length * 48 ≤ 140737488351232 := hl
  refine enter (n := 83) Try.func3 rfl rfl rfl ?_
  refine cd_seq ?_
  refine cd_region ?_
  refine st_val (ro_assign (v := .bool _) rfl) ?_
  refine st_nil ?_
  refine nx_then ?_
  refine cd_seq ?_
  refine cd_seq ?_
  refine cd_region ?_
  refine st_val (ro_assign (v := .int _ _) rfl) ?_
  refine st_nil ?_
  refine nx_then ?_
  refine cd_block ?_
  refine cd_loop (G := Nat) [2, 4, 5, 6, 7, 8, 9, 10, 11, 12, 13, 14, 15, 16, 17, 18, 19, 20, 21, 22, 23, 24, 25, 26, 27, 28, 29, 30, 31, 32, 33, 34, 35, 36, 37, 38, 39, 40, 41, 42, 43, 44, 45, 46, 47, 48, 49, 50, 51, 52, 53, 54, 55, 56, 57, 58, 59, 60, 61, 62, 63, 64, 65, 66, 67, 68, 69, 70, 71, 72, 73, 74, 75, 76, 77, 78, 79, 80, 81] (fun k => [(3, .int .i64 (k : Nat))]) (fun k w' => k ≤ xs.length ∧ From w w') (fun k => xs.length - k) (0) ⟨rfl, trivial⟩ ?_ ?_
  · exact ⟨Nat.zero_le _, From.rfl_⟩
  rintro k ρ1 w1 ⟨hk, hB⟩
  refine cd_seq ?_
  refine cd_seq ?_
  refine cd_region ?_
  refine st_val (ro_move (v := .int _ _) rfl) ?_
  refine st_val (ro_move (v := .slice _ _ _) rfl) ?_
  refine st_val (ro_len SufLawS_l22 rfl) ?_
  refine st_val (ro_lss rfl rfl) ?_
  refine st_val (ro_move (v := .bool _) rfl) ?_
  refine st_split (t := 11) rfl (fun Q2 => ?_) (fun Q2 => ?_)
  · (try first | replace Q2 := bn_t Q2 | replace Q2 := bn_f Q2)
    (try first | replace Q2 := bx_t Q2 | replace Q2 := bx_f Q2 | replace Q2 := be_t Q2 | replace Q2 := be_f Q2 | replace Q2 := of_decide_eq_true Q2 | replace Q2 := of_decide_eq_false Q2)
    obtain ⟨b, o, rfl, hel2⟩ := hel (by omega)
    obtain ⟨A1, ca, L, A2, cb, M, hask⟩ := ask_at (hel2 k (by omega))
    have hlL := hask.lenL
    have hlM := hask.lenM
    first
     | (exfalso; first | omega | contradiction | (cases Q2; done))
     | skip
       refine st_unguard rfl ?_
       refine st_val (ro_move (v := .int _ _) rfl) ?_
       refine st_unguard rfl ?_
       refine st_val (ro_lss rfl rfl) ?_
       refine st_val (ro_pickT (v := .bool _) rfl rfl) ?_
       refine st_nil ?_
       refine nx_then ?_
       refine cd_cond rfl (fun Q3 => ?_) (fun Q3 => ?_)
       · (try first | replace Q3 := bn_t Q3 | replace Q3 := bn_f Q3)
         (try first | replace Q3 := bx_t Q3 | replace Q3 := bx_f Q3 | replace Q3 := be_t Q3 | replace Q3 := be_f Q3 | replace Q3 := of_decide_eq_true Q3 | replace Q3 := of_decide_eq_false Q3)
         first
          | (exfalso; first | omega | contradiction | (cases Q3; done))
          | skip
            refine cd_skip ?_
            refine nx_then ?_
            refine cd_seq ?_
            refine cd_block ?_
            refine cd_seq ?_
            refine cd_seq ?_
            refine cd_region ?_
            refine st_val (ro_move (v := .slice _ _ _) rfl) ?_
            refine st_val (ro_move (v := .int _ _) rfl) ?_
            refine st_val (ro_indexAddrN SufLawS_e22 rfl rfl (by omega)) ?_
            refine st_val (ro_loadA (cs := [_, _]) SufLawS_g26 SufLawS_z26 rfl (by exact rangeF hB hask.cells)) ?_
            refine st_call SufLawS_k7 (heavy_any A1 A2 L.length ca M.length cb _) ?_
            rintro v21 w4 ⟨rfl, E21⟩
            refine st_nil ?_
            refine nx_then ?_
            refine cd_cond rfl (fun Q5 => ?_) (fun Q5 => ?_)
            · (try first | replace Q5 := bn_t Q5 | replace Q5 := bn_f Q5)
              (try first | replace Q5 := bx_t Q5 | replace Q5 := bx_f Q5 | replace Q5 := be_t Q5 | replace Q5 := be_f Q5 | replace Q5 := of_decide_eq_true Q5 | replace Q5 := of_decide_eq_false Q5)
              first
               | (exfalso; first | omega | contradiction | (cases Q5; done))
               | skip
                 refine cd_seq ?_
                 refine cd_region ?_
                 refine st_val (ro_assign (v := .bool _) rfl) ?_
                 refine st_nil ?_
                 refine nx_then ?_
                 refine cd_ret ?_
                 refine rt_then ?_
                 refine rt_block ?_
                 refine rt_then ?_
                 refine rt_then ?_
                 refine rt_block ?_
                 refine rt_then ?_
                 refine res1 (v := .bool _) rfl rfl ?_
                 exact ⟨rfl, (hB.next E21)⟩
            · (try first | replace Q5 := bn_t Q5 | replace Q5 := bn_f Q5)
              (try first | replace Q5 := bx_t Q5 | replace Q5 := bx_f Q5 | replace Q5 := be_t Q5 | replace Q5 := be_f Q5 | replace Q5 := of_decide_eq_true Q5 | replace Q5 := of_decide_eq_false Q5)
              first
               | (exfalso; first | omega | contradiction | (cases Q5; done))
               | skip
                 refine cd_skip ?_
                 refine nx_then ?_
                 refine cd_seq ?_
                 refine cd_region ?_
                 refine st_val (ro_move (v := .slice _ _ _) rfl) ?_
                 refine st_val (ro_move (v := .int _ _) rfl) ?_
                 refine st_val (ro_indexAddrN SufLawS_e22 rfl rfl (by omega)) ?_
                 refine st_val (ro_fieldAddr SufLawS_f26_0 rfl) ?_
                 refine st_val (ro_load SufLawS_g24 rfl (by exact cellF (hB.next E21) (hask.cells 0 _ rfl))) ?_
                 refine st_call SufLawS_k8 (copyNums_any A1 ca L _ (hask.rowL.from_ (hB.next E21)) (by omega)) ?_
                 rintro v27 w6 ⟨A27, c27, rfl, ho27, E27⟩
                 refine st_val (ro_assign (v := .slice _ _ _) rfl) ?_
                 refine st_nil ?_
                 refine nx_then ?_
                 refine cd_seq ?_
                 refine cd_region ?_
                 refine st_val (ro_move (v := .slice _ _ _) rfl) ?_
                 have hz30 := (((hB.next E21).next E27)).size
                 have hr27 := (RowOf.own ho27).2
                 refine st_call SufLawS_k9 (sort_rt A27 c27 L.length L _ (RowOf.own ho27).2 rfl (by omega)) ?_
                 rintro v30 w7 ⟨hs30, E30⟩
                 rcases hs30 with ⟨hmay, rfl⟩ | ⟨Ln, F, A', hLn, hlt, hSA, rfl, ho30⟩
                 · refine st_val (ro_move (v := .tuple _) rfl) ?_
                   refine st_val (ro_extract rfl rfl) ?_
                   refine st_val (ro_extract rfl rfl) ?_
                   refine st_val (ro_assign (v := .slice _ _ _) rfl) ?_
                   refine st_val (ro_assign (v := .int _ _) rfl) ?_
                   refine st_nil ?_
                   refine nx_then ?_
                   refine cd_seq ?_
                   refine cd_seq ?_
                   refine cd_region ?_
                   refine st_val (ro_move (v := .slice _ _ _) rfl) ?_
                   refine st_val (ro_move (v := .int _ _) rfl) ?_
                   refine st_val (ro_indexAddrN SufLawS_e22 rfl rfl (by omega)) ?_
                   refine st_val (ro_fieldAddr SufLawS_f26_0 rfl) ?_
                   refine st_val (ro_load SufLawS_g24 rfl (by exact cellF (((hB.next E21).next E27).next E30) (hask.cells 0 _ rfl))) ?_
                   refine st_call SufLawS_k10 (may_is _ 512 A1 ca L.length L _ hmay (hask.rowL.from_ (((hB.next E21).next E27).next E30)) rfl (by omega)) ?_
                   rintro v38 w8 ⟨rfl, E38⟩
                   refine st_val (ro_not rfl) ?_
                   refine st_nil ?_
                   refine nx_then ?_
                   refine cd_cond rfl (fun Q9 => ?_) (fun Q9 => ?_)
                   · (try first | replace Q9 := bn_t Q9 | replace Q9 := bn_f Q9)
                     (try first | replace Q9 := bx_t Q9 | replace Q9 := bx_f Q9 | replace Q9 := be_t Q9 | replace Q9 := be_f Q9 | replace Q9 := of_decide_eq_true Q9 | replace Q9 := of_decide_eq_false Q9)
                     first
                      | (exfalso; first | omega | contradiction | (cases Q9; done))
                      | skip
                        refine cd_seq ?_
                        refine cd_seq ?_
                        refine cd_region ?_
                        refine st_val (ro_move (v := .int _ _) rfl) ?_
                        refine st_call SufLawS_k11 (num_any _ _) ?_
                        rintro v41 w10 ⟨rfl, rfl⟩
                        refine st_val (ro_neq rfl rfl) ?_
                        refine st_val (ro_move (v := .bool _) rfl) ?_
                        refine st_split (t := 43) rfl (fun Q11 => ?_) (fun Q11 => ?_)
                        · (try first | replace Q11 := bn_t Q11 | replace Q11 := bn_f Q11)
                          (try first | replace Q11 := bx_t Q11 | replace Q11 := bx_f Q11 | replace Q11 := be_t Q11 | replace Q11 := be_f Q11 | replace Q11 := of_decide_eq_true Q11 | replace Q11 := of_decide_eq_false Q11)
                          first
                           | (exfalso; first | omega | contradiction | (cases Q11; done))
                           | skip
                             refine st_gno rfl rfl ?_
                             refine st_gno rfl rfl ?_
                             refine st_gno rfl rfl ?_
                             refine st_val (ro_pickT (v := .bool _) rfl rfl) ?_
                             refine st_nil ?_
                             refine nx_then ?_
                             refine cd_condT rfl ?_
                             refine cd_seq ?_
                             refine cd_region ?_
                             refine st_val (ro_assign (v := .bool _) rfl) ?_
                             refine st_nil ?_
                             refine nx_then ?_
                             refine cd_ret ?_
                             refine rt_then ?_
                             refine rt_then ?_
                             refine rt_block ?_
                             refine rt_then ?_
                             refine rt_then ?_
                             refine rt_block ?_
                             refine rt_then ?_
                             refine res1 (v := .bool _) rfl rfl ?_
                             exact ⟨rfl, ((((hB.next E21).next E27).next E30).next E38)⟩
                        · (try first | replace Q11 := bn_t Q11 | replace Q11 := bn_f Q11)
                          (try first | replace Q11 := bx_t Q11 | replace Q11 := bx_f Q11 | replace Q11 := be_t Q11 | replace Q11 := be_f Q11 | replace Q11 := of_decide_eq_true Q11 | replace Q11 := of_decide_eq_false Q11)
                          first
                           | (exfalso; first | omega | contradiction | (cases Q11; done))
                           | skip
                             refine st_unguard rfl ?_
                             refine st_val (ro_move (v := .slice _ _ _) rfl) ?_
                             refine st_unguard rfl ?_
                             refine st_val (ro_len SufLawS_l24 rfl) ?_
                             refine st_unguard rfl ?_
                             refine st_val (ro_gtr rfl rfl) ?_
                             refine st_val (ro_pickF (v := .bool _) rfl rfl) ?_
                             refine st_nil ?_
                             refine nx_then ?_
                             refine cd_cond rfl (fun Q12 => ?_) (fun Q12 => ?_)
                             · (try first | replace Q12 := bn_t Q12 | replace Q12 := bn_f Q12)
                               (try first | replace Q12 := bx_t Q12 | replace Q12 := bx_f Q12 | replace Q12 := be_t Q12 | replace Q12 := be_f Q12 | replace Q12 := of_decide_eq_true Q12 | replace Q12 := of_decide_eq_false Q12)
                               first
                                | (exfalso; first | omega | contradiction | (cases Q12; done))
                                | skip
                                  refine cd_seq ?_
                                  refine cd_region ?_
                                  refine st_val (ro_assign (v := .bool _) rfl) ?_
                                  refine st_nil ?_
                                  refine nx_then ?_
                                  refine cd_ret ?_
                                  refine rt_then ?_
                                  refine rt_then ?_
                                  refine rt_block ?_
                                  refine rt_then ?_
                                  refine rt_then ?_
                                  refine rt_block ?_
                                  refine rt_then ?_
                                  refine res1 (v := .bool _) rfl rfl ?_
                                  exact ⟨rfl, ((((hB.next E21).next E27).next E30).next E38)⟩
                             · (try first | replace Q12 := bn_t Q12 | replace Q12 := bn_f Q12)
                               (try first | replace Q12 := bx_t Q12 | replace Q12 := bx_f Q12 | replace Q12 := be_t Q12 | replace Q12 := be_f Q12 | replace Q12 := of_decide_eq_true Q12 | replace Q12 := of_decide_eq_false Q12)
                               first
                                | (exfalso; first | omega | contradiction | (cases Q12; done))
                                | skip
                                  refine cd_skip ?_
                                  refine nx_then ?_
                                  refine cd_exit ?_
                                  refine ex_then ?_
                                  refine ex_block ?_
                                  refine nx_then ?_
                                  refine cd_region ?_
                                  refine st_val (ro_move (v := .int _ _) rfl) ?_
                                  refine st_val (ro_addN (b := 1) rfl rfl (by omega)) ?_
                                  refine st_val (ro_assign (v := .int _ _) rfl) ?_
                                  refine st_nil ?_
                                  refine nx_cut (k + 1) ⟨(by first | rfl | (refine int_eq ?_; omega)), trivial⟩ (by (iterate 127 refine agr_cons rfl ?_); exact agr_rfl) ⟨?_, ?_⟩
                                  · exact ⟨by omega, ((((hB.next E21).next E27).next E30).next E38)⟩
                                  · show xs.length - (k + 1) < xs.length - k; omega
                   · (try first | replace Q9 := bn_t Q9 | replace Q9 := bn_f Q9)
                     (try first | replace Q9 := bx_t Q9 | replace Q9 := bx_f Q9 | replace Q9 := be_t Q9 | replace Q9 := be_f Q9 | replace Q9 := of_decide_eq_true Q9 | replace Q9 := of_decide_eq_false Q9)
                     first
                      | (exfalso; first | omega | contradiction | (cases Q9; done))
                      | skip
                        refine cd_skip ?_
                        refine nx_then ?_
                        refine cd_seq ?_
                        refine cd_seq ?_
                        refine cd_region ?_
                        refine st_val (ro_move (v := .int _ _) rfl) ?_
                        refine st_call SufLawS_k11 (num_any _ _) ?_
                        rintro v49 w13 ⟨rfl, rfl⟩
                        refine st_val (ro_neq rfl rfl) ?_
                        refine st_val (ro_move (v := .bool _) rfl) ?_
                        refine st_split (t := 51) rfl (fun Q14 => ?_) (fun Q14 => ?_)
                        · (try first | replace Q14 := bn_t Q14 | replace Q14 := bn_f Q14)
                          (try first | replace Q14 := bx_t Q14 | replace Q14 := bx_f Q14 | replace Q14 := be_t Q14 | replace Q14 := be_f Q14 | replace Q14 := of_decide_eq_true Q14 | replace Q14 := of_decide_eq_false Q14)
                          first
                           | (exfalso; first | omega | contradiction | (cases Q14; done))
                           | skip
                             refine st_gno rfl rfl ?_
                             refine st_gno rfl rfl ?_
                             refine st_gno rfl rfl ?_
                             refine st_gno rfl rfl ?_
                             refine st_gno rfl rfl ?_
                             refine st_gno rfl rfl ?_
                             refine st_gno rfl rfl ?_
                             refine st_gno rfl rfl ?_
                             refine st_gno rfl rfl ?_
                             refine st_val (ro_pickT (v := .bool _) rfl rfl) ?_
                             refine st_val (ro_move (v := .bool _) rfl) ?_
                             refine st_gno rfl rfl ?_
                             refine st_gno rfl rfl ?_
                             refine st_gno rfl rfl ?_
                             refine st_gno rfl rfl ?_
                             refine st_gno rfl rfl ?_
                             refine st_gno rfl rfl ?_
                             refine st_gno rfl rfl ?_
                             refine st_gno rfl rfl ?_
                             refine st_val (ro_pickT (v := .bool _) rfl rfl) ?_
                             refine st_nil ?_
                             refine nx_then ?_
                             refine cd_condT rfl ?_
                             refine cd_seq ?_
                             refine cd_region ?_
                             refine st_val (ro_assign (v := .bool _) rfl) ?_
                             refine st_nil ?_
                             refine nx_then ?_
                             refine cd_ret ?_
                             refine rt_then ?_
                             refine rt_block ?_
                             refine rt_then ?_
                             refine rt_then ?_
                             refine rt_block ?_
                             refine rt_then ?_
                             refine res1 (v := .bool _) rfl rfl ?_
                             exact ⟨rfl, ((((hB.next E21).next E27).next E30).next E38)⟩
                        · (try first | replace Q14 := bn_t Q14 | replace Q14 := bn_f Q14)
                          (try first | replace Q14 := bx_t Q14 | replace Q14 := bx_f Q14 | replace Q14 := be_t Q14 | replace Q14 := be_f Q14 | replace Q14 := of_decide_eq_true Q14 | replace Q14 := of_decide_eq_false Q14)
                          first
                           | (exfalso; first | omega | contradiction | (cases Q14; done))
                           | skip
                             refine st_unguard rfl ?_
                             refine st_val (ro_move (v := .slice _ _ _) rfl) ?_
                             refine st_unguard rfl ?_
                             refine st_val (ro_move (v := .slice _ _ _) rfl) ?_
                             refine st_unguard rfl ?_
                             refine st_val (ro_move (v := .int _ _) rfl) ?_
                             refine st_unguard rfl ?_
                             refine st_val (ro_indexAddrN SufLawS_e22 rfl rfl (by omega)) ?_
                             refine st_unguard rfl ?_
                             refine st_val (ro_fieldAddr SufLawS_f26_0 rfl) ?_
                             refine st_unguard rfl ?_
                             refine st_val (ro_load SufLawS_g24 rfl (by exact cellF ((((hB.next E21).next E27).next E30).next E38) (hask.cells 0 _ rfl))) ?_
                             refine st_unguard rfl ?_
                             refine st_call SufLawS_k13 (refSort_rt Ln A1 ca L.length _ (by rw [cI, ← hLn]; exact hask.rowL.from_ ((((hB.next E21).next E27).next E30).next E38)) (by rw [hLn, List.length_map]) (by omega)) ?_
                             rintro v58 w15 ⟨⟨B58, c58, F58, rfl, hg58, hSA58⟩, E58⟩
                             obtain rfl := hSA.uniq hSA58
                             refine st_unguard rfl ?_
                             refine st_call SufLawS_k12 (eq_same A' B58 L.length c58 L.length L.length (cI F) _ ((sortA_own ho30).2.from_ ((From.rfl_.next E38).next E58)) (hg58.row) (by rw [List.length_map]; exact (sortA_own ho30).1) (by rw [List.length_map]; exact (sortA_own ho30).1) (by omega)) ?_
                             rintro v59 w16 ⟨rfl, E59⟩
                             refine st_unguard rfl ?_
                             refine st_val (ro_not rfl) ?_
                             refine st_val (ro_pickF (v := .bool _) rfl rfl) ?_
                             refine st_val (ro_move (v := .bool _) rfl) ?_
                             refine st_split (t := 62) rfl (fun Q17 => ?_) (fun Q17 => ?_)
                             · (try first | replace Q17 := bn_t Q17 | replace Q17 := bn_f Q17)
                               (try first | replace Q17 := bx_t Q17 | replace Q17 := bx_f Q17 | replace Q17 := be_t Q17 | replace Q17 := be_f Q17 | replace Q17 := of_decide_eq_true Q17 | replace Q17 := of_decide_eq_false Q17)
                               first
                                | (exfalso; first | omega | contradiction | (cases Q17; done))
                                | skip
                                  refine st_gno rfl rfl ?_
                                  refine st_gno rfl rfl ?_
                                  refine st_gno rfl rfl ?_
                                  refine st_gno rfl rfl ?_
                                  refine st_gno rfl rfl ?_
                                  refine st_gno rfl rfl ?_
                                  refine st_gno rfl rfl ?_
                                  refine st_gno rfl rfl ?_
                                  refine st_val (ro_pickT (v := .bool _) rfl rfl) ?_
                                  refine st_nil ?_
                                  refine nx_then ?_
                                  refine cd_condT rfl ?_
                                  refine cd_seq ?_
                                  refine cd_region ?_
                                  refine st_val (ro_assign (v := .bool _) rfl) ?_
                                  refine st_nil ?_
                                  refine nx_then ?_
                                  refine cd_ret ?_
                                  refine rt_then ?_
                                  refine rt_block ?_
                                  refine rt_then ?_
                                  refine rt_then ?_
                                  refine rt_block ?_
                                  refine rt_then ?_
                                  refine res1 (v := .bool _) rfl rfl ?_
                                  exact ⟨rfl, ((((((hB.next E21).next E27).next E30).next E38).next E58).next E59)⟩
                             · (try first | replace Q17 := bn_t Q17 | replace Q17 := bn_f Q17)
                               (try first | replace Q17 := bx_t Q17 | replace Q17 := bx_f Q17 | replace Q17 := be_t Q17 | replace Q17 := be_f Q17 | replace Q17 := of_decide_eq_true Q17 | replace Q17 := of_decide_eq_false Q17)
                               first
                                | (exfalso; first | omega | contradiction | (cases Q17; done))
                                | skip
                                  refine st_unguard rfl ?_
                                  refine st_val (ro_move (v := .slice _ _ _) rfl) ?_
                                  refine st_unguard rfl ?_
                                  refine st_val (ro_move (v := .slice _ _ _) rfl) ?_
                                  refine st_unguard rfl ?_
                                  refine st_val (ro_move (v := .int _ _) rfl) ?_
                                  refine st_unguard rfl ?_
                                  refine st_val (ro_indexAddrN SufLawS_e22 rfl rfl (by omega)) ?_
                                  refine st_unguard rfl ?_
                                  refine st_val (ro_fieldAddr SufLawS_f26_0 rfl) ?_
                                  refine st_unguard rfl ?_
                                  refine st_val (ro_load SufLawS_g24 rfl (by exact cellF ((((((hB.next E21).next E27).next E30).next E38).next E58).next E59) (hask.cells 0 _ rfl))) ?_
                                  refine st_unguard rfl ?_
                                  refine st_call SufLawS_k12 (eq_same A27 A1 c27 ca L.length L.length L _ (hr27.from_ (E30.next (((From.rfl_.next E38).next E58).next E59))) (hask.rowL.from_ ((((((hB.next E21).next E27).next E30).next E38).next E58).next E59)) rfl rfl (by omega)) ?_
                                  rintro v69 w18 ⟨rfl, E69⟩
                                  refine st_unguard rfl ?_
                                  refine st_val (ro_not rfl) ?_
                                  refine st_val (ro_pickF (v := .bool _) rfl rfl) ?_
                                  refine st_nil ?_
                                  refine nx_then ?_
                                  refine cd_cond rfl (fun Q19 => ?_) (fun Q19 => ?_)
                                  · (try first | replace Q19 := bn_t Q19 | replace Q19 := bn_f Q19)
                                    (try first | replace Q19 := bx_t Q19 | replace Q19 := bx_f Q19 | replace Q19 := be_t Q19 | replace Q19 := be_f Q19 | replace Q19 := of_decide_eq_true Q19 | replace Q19 := of_decide_eq_false Q19)
                                    first
                                     | (exfalso; first | omega | contradiction | (cases Q19; done))
                                     | skip
                                       refine cd_seq ?_
                                       refine cd_region ?_
                                       refine st_val (ro_assign (v := .bool _) rfl) ?_
                                       refine st_nil ?_
                                       refine nx_then ?_
                                       refine cd_ret ?_
                                       refine rt_then ?_
                                       refine rt_block ?_
                                       refine rt_then ?_
                                       refine rt_then ?_
                                       refine rt_block ?_
                                       refine rt_then ?_
                                       refine res1 (v := .bool _) rfl rfl ?_
                                       exact ⟨rfl, (((((((hB.next E21).next E27).next E30).next E38).next E58).next E59).next E69)⟩
                                  · (try first | replace Q19 := bn_t Q19 | replace Q19 := bn_f Q19)
                                    (try first | replace Q19 := bx_t Q19 | replace Q19 := bx_f Q19 | replace Q19 := be_t Q19 | replace Q19 := be_f Q19 | replace Q19 := of_decide_eq_true Q19 | replace Q19 := of_decide_eq_false Q19)
                                    first
                                     | (exfalso; first | omega | contradiction | (cases Q19; done))
                                     | skip
                                       refine cd_skip ?_
                                       refine nx_then ?_
                                       refine cd_seq ?_
                                       refine cd_region ?_
                                       refine st_val (ro_move (v := .slice _ _ _) rfl) ?_
                                       have ho72 := ho30.kept_from ((((From.rfl_.next E38).next E58).next E59).next E69)
                                       have hz72 := (E30.next ((((From.rfl_.next E38).next E58).next E59).next E69)).size
                                       refine st_call SufLawS_k14 (spoil_n _ A' L.length L.length F _ ho72 (by omega) hz72) ?_
                                       rintro v73 w20 hg73
                                       have HF73 := (E30.next ((((From.rfl_.next E38).next E58).next E59).next E69)).grew hg73 (fun k hk => (own_at ho72 k hk).1)
                                       refine st_nil ?_
                                       refine nx_then ?_
                                       refine cd_seq ?_
                                       refine cd_region ?_
                                       refine st_val (ro_move (v := .slice _ _ _) rfl) ?_
                                       refine st_val (ro_move (v := .slice _ _ _) rfl) ?_
                                       refine st_val (ro_move (v := .int _ _) rfl) ?_
                                       refine st_val (ro_indexAddrN SufLawS_e22 rfl rfl (by omega)) ?_
                                       refine st_val (ro_fieldAddr SufLawS_f26_0 rfl) ?_
                                       refine st_val (ro_load SufLawS_g24 rfl (by exact cellF (((((((((hB.next E21).next E27).next E30).next E38).next E58).next E59).next E69)).grew hg73 (fun k hk => Nat.le_trans hz30 (own_at ho72 k hk).1)) (hask.cells 0 _ rfl))) ?_
                                       refine st_call SufLawS_k12 (eq_same A27 A1 c27 ca L.length L.length L _ (hr27.from_ (HF73.next From.rfl_)) (hask.rowL.from_ (((((((((hB.next E21).next E27).next E30).next E38).next E58).next E59).next E69)).grew hg73 (fun k hk => Nat.le_trans hz30 (own_at ho72 k hk).1))) rfl rfl (by omega)) ?_
                                       rintro v80 w21 ⟨rfl, E80⟩
                                       refine st_val (ro_not rfl) ?_
                                       refine st_nil ?_
                                       refine nx_then ?_
                                       refine cd_cond rfl (fun Q22 => ?_) (fun Q22 => ?_)
                                       · (try first | replace Q22 := bn_t Q22 | replace Q22 := bn_f Q22)
                                         (try first | replace Q22 := bx_t Q22 | replace Q22 := bx_f Q22 | replace Q22 := be_t Q22 | replace Q22 := be_f Q22 | replace Q22 := of_decide_eq_true Q22 | replace Q22 := of_decide_eq_false Q22)
                                         first
                                          | (exfalso; first | omega | contradiction | (cases Q22; done))
                                          | skip
                                            refine cd_seq ?_
                                            refine cd_region ?_
                                            refine st_val (ro_assign (v := .bool _) rfl) ?_
                                            refine st_nil ?_
                                            refine nx_then ?_
                                            refine cd_ret ?_
                                            refine rt_block ?_
                                            refine rt_then ?_
                                            refine rt_then ?_
                                            refine rt_block ?_
                                            refine rt_then ?_
                                            refine res1 (v := .bool _) rfl rfl ?_
                                            exact ⟨rfl, ((((((((((hB.next E21).next E27).next E30).next E38).next E58).next E59).next E69)).grew hg73 (fun k hk => Nat.le_trans hz30 (own_at ho72 k hk).1)).next E80)⟩
                                       · (try first | replace Q22 := bn_t Q22 | replace Q22 := bn_f Q22)
                                         (try first | replace Q22 := bx_t Q22 | replace Q22 := bx_f Q22 | replace Q22 := be_t Q22 | replace Q22 := be_f Q22 | replace Q22 := of_decide_eq_true Q22 | replace Q22 := of_decide_eq_false Q22)
                                         first
                                          | (exfalso; first | omega | contradiction | (cases Q22; done))
                                          | skip
                                            refine cd_skip ?_
                                            refine nx_block ?_
                                            refine nx_then ?_
                                            refine cd_region ?_
                                            refine st_val (ro_move (v := .int _ _) rfl) ?_
                                            refine st_val (ro_addN (b := 1) rfl rfl (by omega)) ?_
                                            refine st_val (ro_assign (v := .int _ _) rfl) ?_
                                            refine st_nil ?_
                                            refine nx_cut (k + 1) ⟨(by first | rfl | (refine int_eq ?_; omega)), trivial⟩ (by (iterate 154 refine agr_cons rfl ?_); exact agr_rfl) ⟨?_, ?_⟩
                                            · exact ⟨by omega, ((((((((((hB.next E21).next E27).next E30).next E38).next E58).next E59).next E69)).grew hg73 (fun k hk => Nat.le_trans hz30 (own_at ho72 k hk).1)).next E80)⟩
                                            · show xs.length - (k + 1) < xs.length - k; omega
                 · have hmay : L.all (okS 512) = true := by rw [hLn]; exact all_nat hlt
                   refine st_val (ro_move (v := .tuple _) rfl) ?_
                   refine st_val (ro_extract rfl rfl) ?_
                   refine st_val (ro_extract rfl rfl) ?_
                   refine st_val (ro_assign (v := .slice _ _ _) rfl) ?_
                   refine st_val (ro_assign (v := .int _ _) rfl) ?_
                   refine st_nil ?_
                   refine nx_then ?_
                   refine cd_seq ?_
                   refine cd_seq ?_
                   refine cd_region ?_
                   refine st_val (ro_move (v := .slice _ _ _) rfl) ?_
                   refine st_val (ro_move (v := .int _ _) rfl) ?_
                   refine st_val (ro_indexAddrN SufLawS_e22 rfl rfl (by omega)) ?_
                   refine st_val (ro_fieldAddr SufLawS_f26_0 rfl) ?_
                   refine st_val (ro_load SufLawS_g24 rfl (by exact cellF (((hB.next E21).next E27).next E30) (hask.cells 0 _ rfl))) ?_
                   refine st_call SufLawS_k10 (may_is _ 512 A1 ca L.length L _ hmay (hask.rowL.from_ (((hB.next E21).next E27).next E30)) rfl (by omega)) ?_
                   rintro v38 w23 ⟨rfl, E38⟩
                   refine st_val (ro_not rfl) ?_
                   refine st_nil ?_
                   refine nx_then ?_
                   refine cd_cond rfl (fun Q24 => ?_) (fun Q24 => ?_)
                   · (try first | replace Q24 := bn_t Q24 | replace Q24 := bn_f Q24)
                     (try first | replace Q24 := bx_t Q24 | replace Q24 := bx_f Q24 | replace Q24 := be_t Q24 | replace Q24 := be_f Q24 | replace Q24 := of_decide_eq_true Q24 | replace Q24 := of_decide_eq_false Q24)
                     first
                      | (exfalso; first | omega | contradiction | (cases Q24; done))
                      | skip
                        refine cd_seq ?_
                        refine cd_seq ?_
                        refine cd_region ?_
                        refine st_val (ro_move (v := .int _ _) rfl) ?_
                        refine st_call SufLawS_k11 (num_any _ _) ?_
                        rintro v41 w25 ⟨rfl, rfl⟩
                        refine st_val (ro_neq rfl rfl) ?_
                        refine st_val (ro_move (v := .bool _) rfl) ?_
                        refine st_split (t := 43) rfl (fun Q26 => ?_) (fun Q26 => ?_)
                        · (try first | replace Q26 := bn_t Q26 | replace Q26 := bn_f Q26)
                          (try first | replace Q26 := bx_t Q26 | replace Q26 := bx_f Q26 | replace Q26 := be_t Q26 | replace Q26 := be_f Q26 | replace Q26 := of_decide_eq_true Q26 | replace Q26 := of_decide_eq_false Q26)
                          first
                           | (exfalso; first | omega | contradiction | (cases Q26; done))
                           | skip
                             refine st_gno rfl rfl ?_
                             refine st_gno rfl rfl ?_
                             refine st_gno rfl rfl ?_
                             refine st_val (ro_pickT (v := .bool _) rfl rfl) ?_
                             refine st_nil ?_
                             refine nx_then ?_
                             refine cd_condT rfl ?_
                             refine cd_seq ?_
                             refine cd_region ?_
                             refine st_val (ro_assign (v := .bool _) rfl) ?_
                             refine st_nil ?_
                             refine nx_then ?_
                             refine cd_ret ?_
                             refine rt_then ?_
                             refine rt_then ?_
                             refine rt_block ?_
                             refine rt_then ?_
                             refine rt_then ?_
                             refine rt_block ?_
                             refine rt_then ?_
                             refine res1 (v := .bool _) rfl rfl ?_
                             exact ⟨rfl, ((((hB.next E21).next E27).next E30).next E38)⟩
                        · (try first | replace Q26 := bn_t Q26 | replace Q26 := bn_f Q26)
                          (try first | replace Q26 := bx_t Q26 | replace Q26 := bx_f Q26 | replace Q26 := be_t Q26 | replace Q26 := be_f Q26 | replace Q26 := of_decide_eq_true Q26 | replace Q26 := of_decide_eq_false Q26)
                          first
                           | (exfalso; first | omega | contradiction | (cases Q26; done))
                           | skip
                             refine st_unguard rfl ?_
                             refine st_val (ro_move (v := .slice _ _ _) rfl) ?_
                             refine st_unguard rfl ?_
                             refine st_val (ro_len SufLawS_l24 rfl) ?_
                             refine st_unguard rfl ?_
                             refine st_val (ro_gtr rfl rfl) ?_
                             refine st_val (ro_pickF (v := .bool _) rfl rfl) ?_
                             refine st_nil ?_
                             refine nx_then ?_
                             refine cd_cond rfl (fun Q27 => ?_) (fun Q27 => ?_)
                             · (try first | replace Q27 := bn_t Q27 | replace Q27 := bn_f Q27)
                               (try first | replace Q27 := bx_t Q27 | replace Q27 := bx_f Q27 | replace Q27 := be_t Q27 | replace Q27 := be_f Q27 | replace Q27 := of_decide_eq_true Q27 | replace Q27 := of_decide_eq_false Q27)
                               first
                                | (exfalso; first | omega | contradiction | (cases Q27; done))
                                | skip
                                  refine cd_seq ?_
                                  refine cd_region ?_
                                  refine st_val (ro_assign (v := .bool _) rfl) ?_
                                  refine st_nil ?_
                                  refine nx_then ?_
                                  refine cd_ret ?_
                                  refine rt_then ?_
                                  refine rt_then ?_
                                  refine rt_block ?_
                                  refine rt_then ?_
                                  refine rt_then ?_
                                  refine rt_block ?_
                                  refine rt_then ?_
                                  refine res1 (v := .bool _) rfl rfl ?_
                                  exact ⟨rfl, ((((hB.next E21).next E27).next E30).next E38)⟩
                             · (try first | replace Q27 := bn_t Q27 | replace Q27 := bn_f Q27)
                               (try first | replace Q27 := bx_t Q27 | replace Q27 := bx_f Q27 | replace Q27 := be_t Q27 | replace Q27 := be_f Q27 | replace Q27 := of_decide_eq_true Q27 | replace Q27 := of_decide_eq_false Q27)
                               first
                                | (exfalso; first | omega | contradiction | (cases Q27; done))
                                | skip
                                  refine cd_skip ?_
                                  refine nx_then ?_
                                  refine cd_exit ?_
                                  refine ex_then ?_
                                  refine ex_block ?_
                                  refine nx_then ?_
                                  refine cd_region ?_
                                  refine st_val (ro_move (v := .int _ _) rfl) ?_
                                  refine st_val (ro_addN (b := 1) rfl rfl (by omega)) ?_
                                  refine st_val (ro_assign (v := .int _ _) rfl) ?_
                                  refine st_nil ?_
                                  refine nx_cut (k + 1) ⟨(by first | rfl | (refine int_eq ?_; omega)), trivial⟩ (by (iterate 127 refine agr_cons rfl ?_); exact agr_rfl) ⟨?_, ?_⟩
                                  · exact ⟨by omega, ((((hB.next E21).next E27).next E30).next E38)⟩
                                  · show xs.length - (k + 1) < xs.length - k; omega
                   · (try first | replace Q24 := bn_t Q24 | replace Q24 := bn_f Q24)
                     (try first | replace Q24 := bx_t Q24 | replace Q24 := bx_f Q24 | replace Q24 := be_t Q24 | replace Q24 := be_f Q24 | replace Q24 := of_decide_eq_true Q24 | replace Q24 := of_decide_eq_false Q24)
                     first
                      | (exfalso; first | omega | contradiction | (cases Q24; done))
                      | skip
                        refine cd_skip ?_
                        refine nx_then ?_
                        refine cd_seq ?_
                        refine cd_seq ?_
                        refine cd_region ?_
                        refine st_val (ro_move (v := .int _ _) rfl) ?_
                        refine st_call SufLawS_k11 (num_any _ _) ?_
                        rintro v49 w28 ⟨rfl, rfl⟩
                        refine st_val (ro_neq rfl rfl) ?_
                        refine st_val (ro_move (v := .bool _) rfl) ?_
                        refine st_split (t := 51) rfl (fun Q29 => ?_) (fun Q29 => ?_)
                        · (try first | replace Q29 := bn_t Q29 | replace Q29 := bn_f Q29)
                          (try first | replace Q29 := bx_t Q29 | replace Q29 := bx_f Q29 | replace Q29 := be_t Q29 | replace Q29 := be_f Q29 | replace Q29 := of_decide_eq_true Q29 | replace Q29 := of_decide_eq_false Q29)
                          first
                           | (exfalso; first | omega | contradiction | (cases Q29; done))
                           | skip
                             refine st_gno rfl rfl ?_
                             refine st_gno rfl rfl ?_
                             refine st_gno rfl rfl ?_
                             refine st_gno rfl rfl ?_
                             refine st_gno rfl rfl ?_
                             refine st_gno rfl rfl ?_
                             refine st_gno rfl rfl ?_
                             refine st_gno rfl rfl ?_
                             refine st_gno rfl rfl ?_
                             refine st_val (ro_pickT (v := .bool _) rfl rfl) ?_
                             refine st_val (ro_move (v := .bool _) rfl) ?_
                             refine st_gno rfl rfl ?_
                             refine st_gno rfl rfl ?_
                             refine st_gno rfl rfl ?_
                             refine st_gno rfl rfl ?_
                             refine st_gno rfl rfl ?_
                             refine st_gno rfl rfl ?_
                             refine st_gno rfl rfl ?_
                             refine st_gno rfl rfl ?_
                             refine st_val (ro_pickT (v := .bool _) rfl rfl) ?_
                             refine st_nil ?_
                             refine nx_then ?_
                             refine cd_condT rfl ?_
                             refine cd_seq ?_
                             refine cd_region ?_
                             refine st_val (ro_assign (v := .bool _) rfl) ?_
                             refine st_nil ?_
                             refine nx_then ?_
                             refine cd_ret ?_
                             refine rt_then ?_
                             refine rt_block ?_
                             refine rt_then ?_
                             refine rt_then ?_
                             refine rt_block ?_
                             refine rt_then ?_
                             refine res1 (v := .bool _) rfl rfl ?_
                             exact ⟨rfl, ((((hB.next E21).next E27).next E30).next E38)⟩
                        · (try first | replace Q29 := bn_t Q29 | replace Q29 := bn_f Q29)
                          (try first | replace Q29 := bx_t Q29 | replace Q29 := bx_f Q29 | replace Q29 := be_t Q29 | replace Q29 := be_f Q29 | replace Q29 := of_decide_eq_true Q29 | replace Q29 := of_decide_eq_false Q29)
                          first
                           | (exfalso; first | omega | contradiction | (cases Q29; done))
                           | skip
                             refine st_unguard rfl ?_
                             refine st_val (ro_move (v := .slice _ _ _) rfl) ?_
                             refine st_unguard rfl ?_
                             refine st_val (ro_move (v := .slice _ _ _) rfl) ?_
                             refine st_unguard rfl ?_
                             refine st_val (ro_move (v := .int _ _) rfl) ?_
                             refine st_unguard rfl ?_
                             refine st_val (ro_indexAddrN SufLawS_e22 rfl rfl (by omega)) ?_
                             refine st_unguard rfl ?_
                             refine st_val (ro_fieldAddr SufLawS_f26_0 rfl) ?_
                             refine st_unguard rfl ?_
                             refine st_val (ro_load SufLawS_g24 rfl (by exact cellF ((((hB.next E21).next E27).next E30).next E38) (hask.cells 0 _ rfl))) ?_
                             refine st_unguard rfl ?_
                             refine st_call SufLawS_k13 (refSort_rt Ln A1 ca L.length _ (by rw [cI, ← hLn]; exact hask.rowL.from_ ((((hB.next E21).next E27).next E30).next E38)) (by rw [hLn, List.length_map]) (by omega)) ?_
                             rintro v58 w30 ⟨⟨B58, c58, F58, rfl, hg58, hSA58⟩, E58⟩
                             obtain rfl := hSA.uniq hSA58
                             refine st_unguard rfl ?_
                             refine st_call SufLawS_k12 (eq_same A' B58 L.length c58 L.length L.length (cI F) _ ((sortA_own ho30).2.from_ ((From.rfl_.next E38).next E58)) (hg58.row) (by rw [List.length_map]; exact (sortA_own ho30).1) (by rw [List.length_map]; exact (sortA_own ho30).1) (by omega)) ?_
                             rintro v59 w31 ⟨rfl, E59⟩
                             refine st_unguard rfl ?_
                             refine st_val (ro_not rfl) ?_
                             refine st_val (ro_pickF (v := .bool _) rfl rfl) ?_
                             refine st_val (ro_move (v := .bool _) rfl) ?_
                             refine st_split (t := 62) rfl (fun Q32 => ?_) (fun Q32 => ?_)
                             · (try first | replace Q32 := bn_t Q32 | replace Q32 := bn_f Q32)
                               (try first | replace Q32 := bx_t Q32 | replace Q32 := bx_f Q32 | replace Q32 := be_t Q32 | replace Q32 := be_f Q32 | replace Q32 := of_decide_eq_true Q32 | replace Q32 := of_decide_eq_false Q32)
                               first
                                | (exfalso; first | omega | contradiction | (cases Q32; done))
                                | skip
                                  refine st_gno rfl rfl ?_
                                  refine st_gno rfl rfl ?_
                                  refine st_gno rfl rfl ?_
                                  refine st_gno rfl rfl ?_
                                  refine st_gno rfl rfl ?_
                                  refine st_gno rfl rfl ?_
                                  refine st_gno rfl rfl ?_
                                  refine st_gno rfl rfl ?_
                                  refine st_val (ro_pickT (v := .bool _) rfl rfl) ?_
                                  refine st_nil ?_
                                  refine nx_then ?_
                                  refine cd_condT rfl ?_
                                  refine cd_seq ?_
                                  refine cd_region ?_
                                  refine st_val (ro_assign (v := .bool _) rfl) ?_
                                  refine st_nil ?_
                                  refine nx_then ?_
                                  refine cd_ret ?_
                                  refine rt_then ?_
                                  refine rt_block ?_
                                  refine rt_then ?_
                                  refine rt_then ?_
                                  refine rt_block ?_
                                  refine rt_then ?_
                                  refine res1 (v := .bool _) rfl rfl ?_
                                  exact ⟨rfl, ((((((hB.next E21).next E27).next E30).next E38).next E58).next E59)⟩
                             · (try first | replace Q32 := bn_t Q32 | replace Q32 := bn_f Q32)
                               (try first | replace Q32 := bx_t Q32 | replace Q32 := bx_f Q32 | replace Q32 := be_t Q32 | replace Q32 := be_f Q32 | replace Q32 := of_decide_eq_true Q32 | replace Q32 := of_decide_eq_false Q32)
                               first
                                | (exfalso; first | omega | contradiction | (cases Q32; done))
                                | skip
                                  refine st_unguard rfl ?_
                                  refine st_val (ro_move (v := .slice _ _ _) rfl) ?_
                                  refine st_unguard rfl ?_
                                  refine st_val (ro_move (v := .slice _ _ _) rfl) ?_
                                  refine st_unguard rfl ?_
                                  refine st_val (ro_move (v := .int _ _) rfl) ?_
                                  refine st_unguard rfl ?_
                                  refine st_val (ro_indexAddrN SufLawS_e22 rfl rfl (by omega)) ?_
                                  refine st_unguard rfl ?_
                                  refine st_val (ro_fieldAddr SufLawS_f26_0 rfl) ?_
                                  refine st_unguard rfl ?_
                                  refine st_val (ro_load SufLawS_g24 rfl (by exact cellF ((((((hB.next E21).next E27).next E30).next E38).next E58).next E59) (hask.cells 0 _ rfl))) ?_
                                  refine st_unguard rfl ?_
                                  refine st_call SufLawS_k12 (eq_same A27 A1 c27 ca L.length L.length L _ (hr27.from_ (E30.next (((From.rfl_.next E38).next E58).next E59))) (hask.rowL.from_ ((((((hB.next E21).next E27).next E30).next E38).next E58).next E59)) rfl rfl (by omega)) ?_
                                  rintro v69 w33 ⟨rfl, E69⟩
                                  refine st_unguard rfl ?_
                                  refine st_val (ro_not rfl) ?_
                                  refine st_val (ro_pickF (v := .bool _) rfl rfl) ?_
                                  refine st_nil ?_
                                  refine nx_then ?_
                                  refine cd_cond rfl (fun Q34 => ?_) (fun Q34 => ?_)
                                  · (try first | replace Q34 := bn_t Q34 | replace Q34 := bn_f Q34)
                                    (try first | replace Q34 := bx_t Q34 | replace Q34 := bx_f Q34 | replace Q34 := be_t Q34 | replace Q34 := be_f Q34 | replace Q34 := of_decide_eq_true Q34 | replace Q34 := of_decide_eq_false Q34)
                                    first
                                     | (exfalso; first | omega | contradiction | (cases Q34; done))
                                     | skip
                                       refine cd_seq ?_
                                       refine cd_region ?_
                                       refine st_val (ro_assign (v := .bool _) rfl) ?_
                                       refine st_nil ?_
                                       refine nx_then ?_
                                       refine cd_ret ?_
                                       refine rt_then ?_
                                       refine rt_block ?_
                                       refine rt_then ?_
                                       refine rt_then ?_
                                       refine rt_block ?_
                                       refine rt_then ?_
                                       refine res1 (v := .bool _) rfl rfl ?_
                                       exact ⟨rfl, (((((((hB.next E21).next E27).next E30).next E38).next E58).next E59).next E69)⟩
                                  · (try first | replace Q34 := bn_t Q34 | replace Q34 := bn_f Q34)
                                    (try first | replace Q34 := bx_t Q34 | replace Q34 := bx_f Q34 | replace Q34 := be_t Q34 | replace Q34 := be_f Q34 | replace Q34 := of_decide_eq_true Q34 | replace Q34 := of_decide_eq_false Q34)
                                    first
                                     | (exfalso; first | omega | contradiction | (cases Q34; done))
                                     | skip
                                       refine cd_skip ?_
                                       refine nx_then ?_
                                       refine cd_seq ?_
                                       refine cd_region ?_
                                       refine st_val (ro_move (v := .slice _ _ _) rfl) ?_
                                       have ho72 := ho30.kept_from ((((From.rfl_.next E38).next E58).next E59).next E69)
                                       have hz72 := (E30.next ((((From.rfl_.next E38).next E58).next E59).next E69)).size
                                       refine st_call SufLawS_k14 (spoil_n _ A' L.length L.length F _ ho72 (by omega) hz72) ?_
                                       rintro v73 w35 hg73
                                       have HF73 := (E30.next ((((From.rfl_.next E38).next E58).next E59).next E69)).grew hg73 (fun k hk => (own_at ho72 k hk).1)
                                       refine st_nil ?_
                                       refine nx_then ?_
                                       refine cd_seq ?_
                                       refine cd_region ?_
                                       refine st_val (ro_move (v := .slice _ _ _) rfl) ?_
                                       refine st_val (ro_move (v := .slice _ _ _) rfl) ?_
                                       refine st_val (ro_move (v := .int _ _) rfl) ?_
                                       refine st_val (ro_indexAddrN SufLawS_e22 rfl rfl (by omega)) ?_
                                       refine st_val (ro_fieldAddr SufLawS_f26_0 rfl) ?_
                                       refine st_val (ro_load SufLawS_g24 rfl (by exact cellF (((((((((hB.next E21).next E27).next E30).next E38).next E58).next E59).next E69)).grew hg73 (fun k hk => Nat.le_trans hz30 (own_at ho72 k hk).1)) (hask.cells 0 _ rfl))) ?_
                                       refine st_call SufLawS_k12 (eq_same A27 A1 c27 ca L.length L.length L _ (hr27.from_ (HF73.next From.rfl_)) (hask.rowL.from_ (((((((((hB.next E21).next E27).next E30).next E38).next E58).next E59).next E69)).grew hg73 (fun k hk => Nat.le_trans hz30 (own_at ho72 k hk).1))) rfl rfl (by omega)) ?_
                                       rintro v80 w36 ⟨rfl, E80⟩
                                       refine st_val (ro_not rfl) ?_
                                       refine st_nil ?_
                                       refine nx_then ?_
                                       refine cd_cond rfl (fun Q37 => ?_) (fun Q37 => ?_)
                                       · (try first | replace Q37 := bn_t Q37 | replace Q37 := bn_f Q37)
                                         (try first | replace Q37 := bx_t Q37 | replace Q37 := bx_f Q37 | replace Q37 := be_t Q37 | replace Q37 := be_f Q37 | replace Q37 := of_decide_eq_true Q37 | replace Q37 := of_decide_eq_false Q37)
                                         first
                                          | (exfalso; first | omega | contradiction | (cases Q37; done))
                                          | skip
                                            refine cd_seq ?_
                                            refine cd_region ?_
                                            refine st_val (ro_assign (v := .bool _) rfl) ?_
                                            refine st_nil ?_
                                            refine nx_then ?_
                                            refine cd_ret ?_
                                            refine rt_block ?_
                                            refine rt_then ?_
                                            refine rt_then ?_
                                            refine rt_block ?_
                                            refine rt_then ?_
                                            refine res1 (v := .bool _) rfl rfl ?_
                                            exact ⟨rfl, ((((((((((hB.next E21).next E27).next E30).next E38).next E58).next E59).next E69)).grew hg73 (fun k hk => Nat.le_trans hz30 (own_at ho72 k hk).1)).next E80)⟩
                                       · (try first | replace Q37 := bn_t Q37 | replace Q37 := bn_f Q37)
                                         (try first | replace Q37 := bx_t Q37 | replace Q37 := bx_f Q37 | replace Q37 := be_t Q37 | replace Q37 := be_f Q37 | replace Q37 := of_decide_eq_true Q37 | replace Q37 := of_decide_eq_false Q37)
                                         first
                                          | (exfalso; first | omega | contradiction | (cases Q37; done))
                                          | skip
                                            refine cd_skip ?_
                                            refine nx_block ?_
                                            refine nx_then ?_
                                            refine cd_region ?_
                                            refine st_val (ro_move (v := .int _ _) rfl) ?_
                                            refine st_val (ro_addN (b := 1) rfl rfl (by omega)) ?_
                                            refine st_val (ro_assign (v := .int _ _) rfl) ?_
                                            refine st_nil ?_
                                            refine nx_cut (k + 1) ⟨(by first | rfl | (refine int_eq ?_; omega)), trivial⟩ (by (iterate 154 refine agr_cons rfl ?_); exact agr_rfl) ⟨?_, ?_⟩
                                            · exact ⟨by omega, ((((((((((hB.next E21).next E27).next E30).next E38).next E58).next E59).next E69)).grew hg73 (fun k hk => Nat.le_trans hz30 (own_at ho72 k hk).1)).next E80)⟩
                                            · show xs.length - (k + 1) < xs.length - k; omega
       · (try first | replace Q3 := bn_t Q3 | replace Q3 := bn_f Q3)
         (try first | replace Q3 := bx_t Q3 | replace Q3 := bx_f Q3 | replace Q3 := be_t Q3 | replace Q3 := be_f Q3 | replace Q3 := of_decide_eq_true Q3 | replace Q3 := of_decide_eq_false Q3)
         first
          | (exfalso; first | omega | contradiction | (cases Q3; done))
          | skip
            refine cd_exit ?_
            refine ex_then ?_
            refine ex_then ?_
            refine ex_block ?_
            refine nx_then ?_
            refine cd_seq ?_
            refine cd_region ?_
            refine st_call SufLawS_k15 (wakes_rt _) ?_
            rintro v82 w38 ⟨rfl, E82⟩
            refine st_val (ro_assign (v := .bool _) rfl) ?_
            refine st_nil ?_
            refine nx_then ?_
            refine cd_ret ?_
            refine res1 (v := .bool _) rfl rfl ?_
            exact ⟨rfl, (hB.next E82)⟩
  · (try first | replace Q2 := bn_t Q2 | replace Q2 := bn_f Q2)
    (try first | replace Q2 := bx_t Q2 | replace Q2 := bx_f Q2 | replace Q2 := be_t Q2 | replace Q2 := be_f Q2 | replace Q2 := of_decide_eq_true Q2 | replace Q2 := of_decide_eq_false Q2)
    first
     | (exfalso; first | omega | contradiction | (cases Q2; done))
     | skip
       refine st_gno rfl rfl ?_
       refine st_gno rfl rfl ?_
       refine st_val (ro_pickF (v := .bool _) rfl rfl) ?_
       refine st_nil ?_
       refine nx_then ?_
       refine cd_condF rfl ?_
       refine cd_exit ?_
       refine ex_then ?_
       refine ex_then ?_
       refine ex_block ?_
       refine nx_then ?_
       refine cd_seq ?_
       refine cd_region ?_
       refine st_call SufLawS_k15 (wakes_rt _) ?_
       rintro v82 w39 ⟨rfl, E82⟩
       refine st_val (ro_assign (v := .bool _) rfl) ?_
       refine st_nil ?_
       refine nx_then ?_
       refine cd_ret ?_
       refine res1 (v := .bool _) rfl rfl ?_
       exact ⟨rfl, (hB.next E82)⟩
set_option maxRecDepth 100000 in
theorem SuffixSorts_lifted (os : Os) (started : os.Started) (H : Type) (enc : TypeId × Value → H) :
    ReturnsInHanded {} Try.checked os 3 .any (Rows.suffixSortsSpec.pre6 enc Try.prog Try.f3 Rows.suffixSortsRow.domain false) (Rows.suffixSortsSpec.post enc Try.prog Try.f3 false true false false) := by
  refine returnsInHanded_of_change_sized (C := Try.checked) Try.own started (by kernel_rfl) Try.func3
    (ChangeSpec.witness6 (enc := enc) (C := Try.checked) false ⟨#[], #[.slice none 0 0], []⟩ 8 (by kernel_rfl) (by kernel_rfl) (by kernel_rfl) (by kernel_rfl)) ?_
  intro W base args ds gs before hval hW _ hsz _
  exact law_step 3 Try.f3 22 4 Rows.suffixSortsSpec Try.params3 (by kernel_rfl) Try.underlying4 rfl (fun _ => rfl) (by kernel_rfl) (of_decide_eq_true (by kernel_rfl)) (walk_sl askT (by kernel_rfl) sorts_law) W base args ds gs before hval hW hsz

theorem SuffixSorts_holds : Rows.SuffixSortsSaid :=
  OpenClaim.holds_of_wide 3 Try.f3 rfl rfl rfl rfl rfl rfl rfl ⟨rfl, rfl, rfl, rfl, rfl⟩ rfl rfl rfl rfl rfl (by kernel_rfl) Try.func3 (by kernel_rfl)
    (of_decide_eq_true (by kernel_rfl)) (by unfold Func.isWrapper; first | (rw [if_pos (by decide +kernel)]; kernel_rfl) | (rw [if_neg (by decide +kernel)]; exact ⟨rfl, rfl⟩))
    (fun os started H enc _ => SuffixSorts_lifted os started H enc)
#print axioms SuffixSorts_holds

end Go.Proofs.Ytgihpoggeaanjaa
