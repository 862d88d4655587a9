/- The law BwtUndo. -/
import Derived.Test.YtpafbgdbjambgaaBwtHelp
namespace Go.Proofs.Ytpafbgdbjambgaa
open Go.RowKit
open Go.ChangeShapes Go.WideShapes Go.ChangeAt
open Go.Proofs.Ytpafbgdbjambgaa.SA
theorem BwtLawU_l22 : (elemQ Try.prog 22).isSome = true := by kernel_rfl
theorem BwtLawU_e22 : elemQ Try.prog 22 = some (26, 2) := by kernel_rfl
theorem BwtLawU_g26 : aggQ Try.prog 26 = some true := by kernel_rfl
theorem BwtLawU_z26 : sizeQ Try.prog 26 = some 2 := by kernel_rfl
theorem BwtLawU_k7 : callable Try.prog 7 = true := by kernel_rfl
theorem BwtLawU_f26_0 : fieldQ Try.prog 26 0 = some 0 := by kernel_rfl
theorem BwtLawU_g24 : aggQ Try.prog 24 = some false := by kernel_rfl
theorem BwtLawU_k9 : callable Try.prog 9 = true := by kernel_rfl
theorem BwtLawU_k11 : callable Try.prog 11 = true := by kernel_rfl
theorem BwtLawU_k16 : callable Try.prog 16 = true := by kernel_rfl
theorem BwtLawU_k13 : callable Try.prog 13 = true := by kernel_rfl
theorem BwtLawU_l24 : (elemQ Try.prog 24).isSome = true := by kernel_rfl
theorem BwtLawU_k18 : callable Try.prog 18 = true := by kernel_rfl
theorem BwtLawU_k15 : callable Try.prog 15 = true := by kernel_rfl
set_option maxRecDepth 100000 in
set_option maxHeartbeats 4000000 in
theorem undo_law (A : Option Addr) (c : Nat) (xs : List askT5.den) (w : World) (hl : xs.length * askT5.bytes ≤ 140737488351232) (hel : 0 < xs.length → ∃ b o, A = some ⟨b, o, none⟩ ∧ ∀ (i : Nat) (hi : i < xs.length), askT5.At w (fun j => w.cell? ⟨b, o + i * askT5.size + j, none⟩) xs[i]) :
    Rt Try.prog 5 [.slice A xs.length c] w (fun v w' => v = .bool true ∧ From w w') := by
  have hlen : xs.length * 32 ≤ 140737488351232 := hl
  refine enter (n := 124) Try.func5 rfl rfl rfl ?_
  refine cd_seq ?_
  refine cd_region ?_
  refine st_val (ro_assign (v := .bool _) rfl) ?_
  refine st_nil ?_
  refine nx_then ?_
  refine cd_seq ?_
  refine cd_seq ?_
  refine cd_region ?_
  refine st_val (ro_assign (v := .int _ _) rfl) ?_
  refine st_nil ?_
  refine nx_then ?_
  refine cd_block ?_
  refine cd_loop (G := Nat) [2, 4, 5, 6, 7, 8, 9, 10, 11, 12, 13, 14, 15, 16, 17, 18, 19, 20, 21, 22, 23, 24, 25, 26, 27, 28, 29, 30, 31, 32, 33, 34, 35, 36, 37, 38, 39, 40, 41, 42, 43, 44, 45, 46, 47, 48, 49, 50, 51, 52, 53, 54, 55, 56, 57, 58, 59, 60, 61, 62, 63, 64, 65, 66, 67, 68, 69, 70, 71, 72, 73, 74, 75, 76, 77, 78, 79, 80, 81, 82, 83, 84, 85, 86, 87, 88, 89, 90, 91, 92, 93, 94, 95, 96, 97, 98, 99, 100, 101, 102, 103, 104, 105, 106, 107, 108, 109, 110, 111, 112, 113, 114, 115, 116, 117, 118, 119, 120, 121, 122] (fun k => [(3, .int .i64 (k : Nat))]) (fun k w' => k ≤ xs.length ∧ From w w') (fun k => xs.length - k) (0) ⟨rfl, trivial⟩ ?_ ?_
  · exact ⟨Nat.zero_le _, From.rfl_⟩
  rintro k ρ1 w1 ⟨hk, hB⟩
  refine cd_seq ?_
  refine cd_seq ?_
  refine cd_region ?_
  refine st_val (ro_move (v := .int _ _) rfl) ?_
  refine st_val (ro_move (v := .slice _ _ _) rfl) ?_
  refine st_val (ro_len BwtLawU_l22 rfl) ?_
  refine st_val (ro_lss rfl rfl) ?_
  refine st_val (ro_move (v := .bool _) rfl) ?_
  refine st_split (t := 17) rfl (fun Q2 => ?_) (fun Q2 => ?_)
  · (try first | replace Q2 := bn_t Q2 | replace Q2 := bn_f Q2)
    (try first | replace Q2 := bx_t Q2 | replace Q2 := bx_f Q2 | replace Q2 := be_t Q2 | replace Q2 := be_f Q2 | replace Q2 := of_decide_eq_true Q2 | replace Q2 := of_decide_eq_false Q2)
    first
     | (exfalso; first | omega | contradiction | (cases Q2; done))
     | skip
       refine st_unguard rfl ?_
       refine st_val (ro_move (v := .int _ _) rfl) ?_
       refine st_unguard rfl ?_
       refine st_val (ro_lss rfl rfl) ?_
       refine st_val (ro_pickT (v := .bool _) rfl rfl) ?_
       refine st_nil ?_
       refine nx_then ?_
       refine cd_cond rfl (fun Q3 => ?_) (fun Q3 => ?_)
       · (try first | replace Q3 := bn_t Q3 | replace Q3 := bn_f Q3)
         (try first | replace Q3 := bx_t Q3 | replace Q3 := bx_f Q3 | replace Q3 := be_t Q3 | replace Q3 := be_f Q3 | replace Q3 := of_decide_eq_true Q3 | replace Q3 := of_decide_eq_false Q3)
         obtain ⟨b, o, rfl, hel2⟩ := hel (by omega)
         obtain ⟨A1, ca, L, x, hask⟩ := ask_at5 (hel2 k (by omega))
         have hlL := hask.lenL
         first
          | (exfalso; first | omega | contradiction | (cases Q3; done))
          | skip
            refine cd_skip ?_
            refine nx_then ?_
            refine cd_seq ?_
            refine cd_block ?_
            refine cd_seq ?_
            refine cd_seq ?_
            refine cd_region ?_
            refine st_val (ro_move (v := .slice _ _ _) rfl) ?_
            refine st_val (ro_move (v := .int _ _) rfl) ?_
            refine st_val (ro_indexAddrN BwtLawU_e22 rfl rfl (by omega)) ?_
            refine st_val (ro_loadA (cs := [_, _]) BwtLawU_g26 BwtLawU_z26 rfl (by exact rangeF hB hask.cells)) ?_
            refine st_call BwtLawU_k7 (heavy_any A1 L.length ca x _) ?_
            rintro v27 w4 ⟨rfl, E27⟩
            refine st_nil ?_
            refine nx_then ?_
            refine cd_cond rfl (fun Q5 => ?_) (fun Q5 => ?_)
            · (try first | replace Q5 := bn_t Q5 | replace Q5 := bn_f Q5)
              (try first | replace Q5 := bx_t Q5 | replace Q5 := bx_f Q5 | replace Q5 := be_t Q5 | replace Q5 := be_f Q5 | replace Q5 := of_decide_eq_true Q5 | replace Q5 := of_decide_eq_false Q5)
              first
               | (exfalso; first | omega | contradiction | (cases Q5; done))
               | skip
                 refine cd_seq ?_
                 refine cd_region ?_
                 refine st_val (ro_assign (v := .bool _) rfl) ?_
                 refine st_nil ?_
                 refine nx_then ?_
                 refine cd_ret ?_
                 refine rt_then ?_
                 refine rt_block ?_
                 refine rt_then ?_
                 refine rt_then ?_
                 refine rt_block ?_
                 refine rt_then ?_
                 refine res1 (v := .bool _) rfl rfl ?_
                 exact ⟨rfl, (hB.next E27)⟩
            (try first | replace Q5 := bn_t Q5 | replace Q5 := bn_f Q5)
            (try first | replace Q5 := bx_t Q5 | replace Q5 := bx_f Q5 | replace Q5 := be_t Q5 | replace Q5 := be_f Q5 | replace Q5 := of_decide_eq_true Q5 | replace Q5 := of_decide_eq_false Q5)
            first
             | (exfalso; first | omega | contradiction | (cases Q5; done))
             | skip
               refine cd_skip ?_
               refine nx_then ?_
               refine cd_seq ?_
               refine cd_region ?_
               refine st_val (ro_move (v := .slice _ _ _) rfl) ?_
               refine st_val (ro_move (v := .int _ _) rfl) ?_
               refine st_val (ro_indexAddrN BwtLawU_e22 rfl rfl (by omega)) ?_
               refine st_val (ro_fieldAddr BwtLawU_f26_0 rfl) ?_
               refine st_val (ro_load BwtLawU_g24 rfl (by exact cellF (hB.next E27) (hask.cells 0 _ rfl))) ?_
               refine st_call BwtLawU_k9 (make_rt A1 ca L.length L _ (hask.rowL.from_ (hB.next E27)) rfl (by omega)) ?_
               rintro v34 w6 ⟨hs34, E34⟩
               rcases hs34 with ⟨hmay, rfl⟩ | ⟨Ln, Bs, a, A', c', hLn, hlt, hbw, rfl, ho34⟩
               · refine st_val (ro_move (v := .tuple _) rfl) ?_
                 refine st_val (ro_extract rfl rfl) ?_
                 refine st_val (ro_extract rfl rfl) ?_
                 refine st_val (ro_extract rfl rfl) ?_
                 refine st_val (ro_assign (v := .slice _ _ _) rfl) ?_
                 refine st_val (ro_assign (v := .int _ _) rfl) ?_
                 refine st_val (ro_assign (v := .int _ _) rfl) ?_
                 refine st_nil ?_
                 refine nx_then ?_
                 refine cd_seq ?_
                 refine cd_seq ?_
                 refine cd_region ?_
                 refine st_val (ro_move (v := .int _ _) rfl) ?_
                 refine st_call BwtLawU_k11 (num_any _ _) ?_
                 rintro v39 w7 ⟨rfl, rfl⟩
                 refine st_val (ro_neq rfl rfl) ?_
                 refine st_nil ?_
                 refine nx_then ?_
                 refine cd_cond rfl (fun Q8 => ?_) (fun Q8 => ?_)
                 · (try first | replace Q8 := bn_t Q8 | replace Q8 := bn_f Q8)
                   (try first | replace Q8 := bx_t Q8 | replace Q8 := bx_f Q8 | replace Q8 := be_t Q8 | replace Q8 := be_f Q8 | replace Q8 := of_decide_eq_true Q8 | replace Q8 := of_decide_eq_false Q8)
                   first
                    | (exfalso; first | omega | contradiction | (cases Q8; done))
                    | skip
                      refine cd_exit ?_
                      refine ex_then ?_
                      refine ex_block ?_
                      refine nx_then ?_
                      refine cd_region ?_
                      refine st_val (ro_move (v := .int _ _) rfl) ?_
                      refine st_val (ro_addN (b := 1) rfl rfl (by omega)) ?_
                      refine st_val (ro_assign (v := .int _ _) rfl) ?_
                      refine st_nil ?_
                      refine nx_cut (k + 1) ⟨(by first | rfl | (refine int_eq ?_; omega)), trivial⟩ (by (iterate 154 refine agr_cons rfl ?_); exact agr_rfl) ⟨?_, ?_⟩
                      · exact ⟨by omega, ((hB.next E27).next E34)⟩
                      · show xs.length - (k + 1) < xs.length - k; omega
                 (try first | replace Q8 := bn_t Q8 | replace Q8 := bn_f Q8)
                 (try first | replace Q8 := bx_t Q8 | replace Q8 := bx_f Q8 | replace Q8 := be_t Q8 | replace Q8 := be_f Q8 | replace Q8 := of_decide_eq_true Q8 | replace Q8 := of_decide_eq_false Q8)
                 first
                  | (exfalso; first | omega | contradiction | (cases Q8; done))
                  | skip
                    refine cd_skip ?_
                    refine nx_then ?_
                    refine cd_seq ?_
                    refine cd_region ?_
                    refine st_val (ro_move (v := .int _ _) rfl) ?_
                    refine st_val (ro_move (v := .slice _ _ _) rfl) ?_
                    refine st_call BwtLawU_k16 (back_good A' c' Bs.length a Ln Bs _ (hrB.from_ From.rfl_) rfl (by omega) hlt hbw) ?_
                    rintro v44 w9 ⟨⟨A44, c44, rfl, hr44⟩, E44⟩
                    refine st_val (ro_move (v := .tuple _) rfl) ?_
                    refine st_val (ro_extract rfl rfl) ?_
                    refine st_val (ro_extract rfl rfl) ?_
                    refine st_val (ro_assign (v := .slice _ _ _) rfl) ?_
                    refine st_val (ro_assign (v := .int _ _) rfl) ?_
                    refine st_nil ?_
                    refine nx_then ?_
                    refine cd_seq ?_
                    refine cd_seq ?_
                    refine cd_region ?_
                    refine st_val (ro_move (v := .int _ _) rfl) ?_
                    refine st_call BwtLawU_k11 (num_any _ _) ?_
                    rintro v48 w10 ⟨rfl, rfl⟩
                    refine st_val (ro_neq rfl rfl) ?_
                    refine st_val (ro_move (v := .bool _) rfl) ?_
                    refine st_split (t := 50) rfl (fun Q11 => ?_) (fun Q11 => ?_)
                    · (try first | replace Q11 := bn_t Q11 | replace Q11 := bn_f Q11)
                      (try first | replace Q11 := bx_t Q11 | replace Q11 := bx_f Q11 | replace Q11 := be_t Q11 | replace Q11 := be_f Q11 | replace Q11 := of_decide_eq_true Q11 | replace Q11 := of_decide_eq_false Q11)
                      first
                       | (exfalso; first | omega | contradiction | (cases Q11; done))
                       | skip
                         refine st_gno rfl rfl ?_
                         refine st_gno rfl rfl ?_
                         refine st_gno rfl rfl ?_
                         refine st_gno rfl rfl ?_
                         refine st_gno rfl rfl ?_
                         refine st_gno rfl rfl ?_
                         refine st_gno rfl rfl ?_
                         refine st_gno rfl rfl ?_
                         refine st_val (ro_pickT (v := .bool _) rfl rfl) ?_
                         refine st_val (ro_move (v := .bool _) rfl) ?_
                         refine st_gno rfl rfl ?_
                         refine st_gno rfl rfl ?_
                         refine st_gno rfl rfl ?_
                         refine st_gno rfl rfl ?_
                         refine st_gno rfl rfl ?_
                         refine st_gno rfl rfl ?_
                         refine st_gno rfl rfl ?_
                         refine st_gno rfl rfl ?_
                         refine st_gno rfl rfl ?_
                         refine st_val (ro_pickT (v := .bool _) rfl rfl) ?_
                         refine st_nil ?_
                         refine nx_then ?_
                         refine cd_condT rfl ?_
                         refine cd_seq ?_
                         refine cd_region ?_
                         refine st_val (ro_assign (v := .bool _) rfl) ?_
                         refine st_nil ?_
                         refine nx_then ?_
                         refine cd_ret ?_
                         refine rt_then ?_
                         refine rt_block ?_
                         refine rt_then ?_
                         refine rt_then ?_
                         refine rt_block ?_
                         refine rt_then ?_
                         refine res1 (v := .bool _) rfl rfl ?_
                         exact ⟨rfl, (((hB.next E27).next E34).next E44)⟩
                    · (try first | replace Q11 := bn_t Q11 | replace Q11 := bn_f Q11)
                      (try first | replace Q11 := bx_t Q11 | replace Q11 := bx_f Q11 | replace Q11 := be_t Q11 | replace Q11 := be_f Q11 | replace Q11 := of_decide_eq_true Q11 | replace Q11 := of_decide_eq_false Q11)
                      first
                       | (exfalso; first | omega | contradiction | (cases Q11; done))
                       | skip
                         refine st_unguard rfl ?_
                         refine st_val (ro_move (v := .slice _ _ _) rfl) ?_
                         refine st_unguard rfl ?_
                         refine st_val (ro_move (v := .slice _ _ _) rfl) ?_
                         refine st_unguard rfl ?_
                         refine st_val (ro_move (v := .int _ _) rfl) ?_
                         refine st_unguard rfl ?_
                         refine st_val (ro_indexAddrN BwtLawU_e22 rfl rfl (by omega)) ?_
                         refine st_unguard rfl ?_
                         refine st_val (ro_fieldAddr BwtLawU_f26_0 rfl) ?_
                         refine st_unguard rfl ?_
                         refine st_val (ro_load BwtLawU_g24 rfl (by exact cellF (((hB.next E27).next E34).next E44) (hask.cells 0 _ rfl))) ?_
                         refine st_unguard rfl ?_
                         refine st_call BwtLawU_k13 (eq_same A44 A1 c44 ca Ln.length L.length L _ (by rw [hLn]; exact hr44) (hask.rowL.from_ (((hB.next E27).next E34).next E44)) hLl rfl (by omega)) ?_
                         rintro v57 w12 ⟨rfl, E57⟩
                         refine st_unguard rfl ?_
                         refine st_val (ro_not rfl) ?_
                         refine st_val (ro_pickF (v := .bool _) rfl rfl) ?_
                         refine st_val (ro_move (v := .bool _) rfl) ?_
                         refine st_split (t := 60) rfl (fun Q13 => ?_) (fun Q13 => ?_)
                         · (try first | replace Q13 := bn_t Q13 | replace Q13 := bn_f Q13)
                           (try first | replace Q13 := bx_t Q13 | replace Q13 := bx_f Q13 | replace Q13 := be_t Q13 | replace Q13 := be_f Q13 | replace Q13 := of_decide_eq_true Q13 | replace Q13 := of_decide_eq_false Q13)
                           first
                            | (exfalso; first | omega | contradiction | (cases Q13; done))
                            | skip
                              refine st_gno rfl rfl ?_
                              refine st_gno rfl rfl ?_
                              refine st_gno rfl rfl ?_
                              refine st_gno rfl rfl ?_
                              refine st_gno rfl rfl ?_
                              refine st_gno rfl rfl ?_
                              refine st_gno rfl rfl ?_
                              refine st_gno rfl rfl ?_
                              refine st_gno rfl rfl ?_
                              refine st_val (ro_pickT (v := .bool _) rfl rfl) ?_
                              refine st_nil ?_
                              refine nx_then ?_
                              refine cd_condT rfl ?_
                              refine cd_seq ?_
                              refine cd_region ?_
                              refine st_val (ro_assign (v := .bool _) rfl) ?_
                              refine st_nil ?_
                              refine nx_then ?_
                              refine cd_ret ?_
                              refine rt_then ?_
                              refine rt_block ?_
                              refine rt_then ?_
                              refine rt_then ?_
                              refine rt_block ?_
                              refine rt_then ?_
                              refine res1 (v := .bool _) rfl rfl ?_
                              exact ⟨rfl, ((((hB.next E27).next E34).next E44).next E57)⟩
                         · (try first | replace Q13 := bn_t Q13 | replace Q13 := bn_f Q13)
                           (try first | replace Q13 := bx_t Q13 | replace Q13 := bx_f Q13 | replace Q13 := be_t Q13 | replace Q13 := be_f Q13 | replace Q13 := of_decide_eq_true Q13 | replace Q13 := of_decide_eq_false Q13)
                           first
                            | (exfalso; first | omega | contradiction | (cases Q13; done))
                            | skip
                              refine st_unguard rfl ?_
                              refine st_val (ro_move (v := .slice _ _ _) rfl) ?_
                              refine st_unguard rfl ?_
                              refine st_val (ro_len BwtLawU_l24 rfl) ?_
                              refine st_unguard rfl ?_
                              refine st_val (ro_move (v := .slice _ _ _) rfl) ?_
                              refine st_unguard rfl ?_
                              refine st_val (ro_move (v := .int _ _) rfl) ?_
                              refine st_unguard rfl ?_
                              refine st_val (ro_indexAddrN BwtLawU_e22 rfl rfl (by omega)) ?_
                              refine st_unguard rfl ?_
                              refine st_val (ro_fieldAddr BwtLawU_f26_0 rfl) ?_
                              refine st_unguard rfl ?_
                              refine st_val (ro_load BwtLawU_g24 rfl (by exact cellF ((((hB.next E27).next E34).next E44).next E57) (hask.cells 0 _ rfl))) ?_
                              refine st_unguard rfl ?_
                              refine st_val (ro_len BwtLawU_l24 rfl) ?_
                              refine st_unguard rfl ?_
                              refine st_val (ro_neq rfl rfl) ?_
                              refine st_val (ro_pickF (v := .bool _) rfl rfl) ?_
                              refine st_nil ?_
                              refine nx_then ?_
                              refine cd_cond rfl (fun Q14 => ?_) (fun Q14 => ?_)
                              · (try first | replace Q14 := bn_t Q14 | replace Q14 := bn_f Q14)
                                (try first | replace Q14 := bx_t Q14 | replace Q14 := bx_f Q14 | replace Q14 := be_t Q14 | replace Q14 := be_f Q14 | replace Q14 := of_decide_eq_true Q14 | replace Q14 := of_decide_eq_false Q14)
                                first
                                 | (exfalso; first | omega | contradiction | (cases Q14; done))
                                 | skip
                                   refine cd_seq ?_
                                   refine cd_region ?_
                                   refine st_val (ro_assign (v := .bool _) rfl) ?_
                                   refine st_nil ?_
                                   refine nx_then ?_
                                   refine cd_ret ?_
                                   refine rt_then ?_
                                   refine rt_block ?_
                                   refine rt_then ?_
                                   refine rt_then ?_
                                   refine rt_block ?_
                                   refine rt_then ?_
                                   refine res1 (v := .bool _) rfl rfl ?_
                                   exact ⟨rfl, ((((hB.next E27).next E34).next E44).next E57)⟩
                              (try first | replace Q14 := bn_t Q14 | replace Q14 := bn_f Q14)
                              (try first | replace Q14 := bx_t Q14 | replace Q14 := bx_f Q14 | replace Q14 := be_t Q14 | replace Q14 := be_f Q14 | replace Q14 := of_decide_eq_true Q14 | replace Q14 := of_decide_eq_false Q14)
                              first
                               | (exfalso; first | omega | contradiction | (cases Q14; done))
                               | skip
                                 refine cd_skip ?_
                                 refine nx_then ?_
                                 refine cd_seq ?_
                                 refine cd_seq ?_
                                 refine cd_region ?_
                                 refine st_val (ro_assign (v := .int _ _) rfl) ?_
                                 refine st_nil ?_
                                 refine nx_then ?_
                                 refine cd_block ?_
                                 refine cd_loop (G := Nat) [2, 71, 72, 73, 74, 75, 76, 77, 78, 79, 80, 81, 82, 83, 84, 85, 86, 87, 88, 89] (fun q => [(9, .int .i64 (q : Nat))]) (fun q w' => q ≤ 20 ∧ RowOf iV w' A' (cI Bs) ∧ From w w') (fun q => 20 - q) (0) ⟨rfl, trivial⟩ ?_ ?_
                                 · exact ⟨by omega, hrB.from_ ((From.rfl_.next E44).next E57), ((((hB.next E27).next E34).next E44).next E57)⟩
                                 rintro q ρ15 w15 ⟨hq, hrB, hB⟩
                                 refine cd_seq ?_
                                 refine cd_seq ?_
                                 refine cd_region ?_
                                 refine st_val (ro_move (v := .int _ _) rfl) ?_
                                 refine st_val (ro_lss rfl rfl) ?_
                                 refine st_nil ?_
                                 refine nx_then ?_
                                 refine cd_cond rfl (fun Q16 => ?_) (fun Q16 => ?_)
                                 · (try first | replace Q16 := bn_t Q16 | replace Q16 := bn_f Q16)
                                   (try first | replace Q16 := bx_t Q16 | replace Q16 := bx_f Q16 | replace Q16 := be_t Q16 | replace Q16 := be_f Q16 | replace Q16 := of_decide_eq_true Q16 | replace Q16 := of_decide_eq_false Q16)
                                   have hoc : (occ (fun i => Bs.getD i 0) Bs.length q) = occ (fun i => Ln.getD i 0) Bs.length q := by rw [hBl]; exact bw_occ hbw q
                                   first
                                    | (exfalso; first | omega | contradiction | (cases Q16; done))
                                    | skip
                                      refine cd_skip ?_
                                      refine nx_then ?_
                                      refine cd_seq ?_
                                      refine cd_block ?_
                                      refine cd_seq ?_
                                      apply cd_drawn 15 [(75, eqp _), (76, eqp _), (77, eqp _), (78, eqp _), (79, eqp _), (80, eqp _), (81, eqp _), (82, eqp _), (83, eqp _), (84, eqp _), (85, eqp _), (86, eqp _), (87, eqp _), (88, eqp _), (89, eqp _)] (by kernel_rfl) (by kernel_rfl) ⟨eqp_mono _, eqp_mono _, eqp_mono _, eqp_mono _, eqp_mono _, eqp_mono _, eqp_mono _, eqp_mono _, eqp_mono _, eqp_mono _, eqp_mono _, eqp_mono _, eqp_mono _, eqp_mono _, eqp_mono _, trivial⟩
                                      case hop =>
                                       refine ⟨?_, ?_⟩
                                       · intro w18 D18
                                         show OpOK _ _ _ _ _ _ _
                                         exact ok_pure (ro_move (v := .slice _ _ _) rfl) rfl
                                       refine ⟨?_, ?_⟩
                                       · intro w19 D19
                                         show OpOK _ _ _ _ _ _ _
                                         exact ok_pure (ro_move (v := .int _ _) rfl) rfl
                                       refine ⟨?_, ?_⟩
                                       · intro w20 D20
                                         show OpOK _ _ _ _ _ _ _
                                         exact ok_pure (ro_move (v := .slice _ _ _) rfl) rfl
                                       refine ⟨?_, ?_⟩
                                       · intro w21 D21
                                         rintro _ rfl
                                         show OpOK _ _ _ _ _ _ _
                                         exact ok_pure (ro_len BwtLawU_l24 rfl) rfl
                                       refine ⟨?_, ?_⟩
                                       · intro w22 D22
                                         rintro _ rfl _ rfl _ rfl
                                         show OpOK _ _ _ _ _ _ _
                                         refine ok_call BwtLawU_k18 ((rank_rt A' c' Bs.length Bs.length q Bs _ (hrB.from_ (From.rfl_.next D22)) rfl rfl (by omega)).mono ?_)
                                         rintro v _ ⟨rfl, E22'⟩; exact ⟨E22', rfl⟩
                                       refine ⟨?_, ?_⟩
                                       · intro w23 D23
                                         show OpOK _ _ _ _ _ _ _
                                         exact ok_pure (ro_move (v := .slice _ _ _) rfl) rfl
                                       refine ⟨?_, ?_⟩
                                       · intro w24 D24
                                         show OpOK _ _ _ _ _ _ _
                                         exact ok_pure (ro_move (v := .int _ _) rfl) rfl
                                       refine ⟨?_, ?_⟩
                                       · intro w25 D25
                                         rintro _ rfl _ rfl
                                         show OpOK _ _ _ _ _ _ _
                                         exact ok_pure (ro_indexAddrN BwtLawU_e22 rfl rfl (by omega)) rfl
                                       refine ⟨?_, ?_⟩
                                       · intro w26 D26
                                         rintro _ rfl
                                         show OpOK _ _ _ _ _ _ _
                                         exact ok_pure (ro_fieldAddr BwtLawU_f26_0 rfl) rfl
                                       refine ⟨?_, ?_⟩
                                       · intro w27 D27
                                         rintro _ rfl
                                         show OpOK _ _ _ _ _ _ _
                                         exact ok_pure (ro_load BwtLawU_g24 rfl (by exact cellF (hB.next D27) (hask.cells 0 _ rfl))) rfl
                                       refine ⟨?_, ?_⟩
                                       · intro w28 D28
                                         show OpOK _ _ _ _ _ _ _
                                         exact ok_pure (ro_move (v := .int _ _) rfl) rfl
                                       refine ⟨?_, ?_⟩
                                       · intro w29 D29
                                         show OpOK _ _ _ _ _ _ _
                                         exact ok_pure (ro_move (v := .slice _ _ _) rfl) rfl
                                       refine ⟨?_, ?_⟩
                                       · intro w30 D30
                                         rintro _ rfl
                                         show OpOK _ _ _ _ _ _ _
                                         exact ok_pure (ro_len BwtLawU_l24 rfl) rfl
                                       refine ⟨?_, ?_⟩
                                       · intro w31 D31
                                         rintro _ rfl _ rfl _ rfl
                                         show OpOK _ _ _ _ _ _ _
                                         refine ok_call BwtLawU_k18 ((rank_rt A1 ca L.length Bs.length q Ln _ (by rw [← hLn]; exact hask.rowL.from_ (hB.next D31)) hLl.symm (by omega) (by omega)).mono ?_)
                                         rintro v _ ⟨rfl, E31'⟩; exact ⟨E31', rfl⟩
                                       refine ⟨?_, ?_⟩
                                       · intro w32 D32
                                         rintro _ rfl _ rfl
                                         show OpOK _ _ _ _ _ _ _
                                         exact ok_pure (ro_neq rfl rfl) rfl
                                       exact trivial
                                      case hend =>
                                       intro w33 D33
                                       rintro _ rfl _ rfl _ rfl _ rfl _ rfl _ rfl _ rfl _ rfl _ rfl _ rfl _ rfl _ rfl _ rfl _ rfl _ rfl
                                       show St _ _ _ _ _ _ _
                                       refine st_nil ?_
                                       refine nx_then ?_
                                       refine cd_cond rfl (fun Q34 => ?_) (fun Q34 => ?_)
                                       · (try first | replace Q34 := bn_t Q34 | replace Q34 := bn_f Q34)
                                         (try first | replace Q34 := bx_t Q34 | replace Q34 := bx_f Q34 | replace Q34 := be_t Q34 | replace Q34 := be_f Q34 | replace Q34 := of_decide_eq_true Q34 | replace Q34 := of_decide_eq_false Q34)
                                         first
                                          | (exfalso; first | omega | contradiction | (cases Q34; done))
                                          | skip
                                            refine cd_seq ?_
                                            refine cd_region ?_
                                            refine st_val (ro_assign (v := .bool _) rfl) ?_
                                            refine st_nil ?_
                                            refine nx_then ?_
                                            refine cd_ret ?_
                                            refine rt_block ?_
                                            refine rt_then ?_
                                            refine rt_then ?_
                                            refine rt_block ?_
                                            refine rt_then ?_
                                            refine rt_block ?_
                                            refine rt_then ?_
                                            refine rt_then ?_
                                            refine rt_block ?_
                                            refine rt_then ?_
                                            refine res1 (v := .bool _) rfl rfl ?_
                                            exact ⟨rfl, (hB.next D33)⟩
                                       (try first | replace Q34 := bn_t Q34 | replace Q34 := bn_f Q34)
                                       (try first | replace Q34 := bx_t Q34 | replace Q34 := bx_f Q34 | replace Q34 := be_t Q34 | replace Q34 := be_f Q34 | replace Q34 := of_decide_eq_true Q34 | replace Q34 := of_decide_eq_false Q34)
                                       first
                                        | (exfalso; first | omega | contradiction | (cases Q34; done))
                                        | skip
                                          refine cd_skip ?_
                                          refine nx_block ?_
                                          refine nx_then ?_
                                          refine cd_region ?_
                                          refine st_val (ro_move (v := .int _ _) rfl) ?_
                                          refine st_val (ro_addN (b := 1) rfl rfl (by omega)) ?_
                                          refine st_val (ro_assign (v := .int _ _) rfl) ?_
                                          refine st_nil ?_
                                          refine nx_cut (q + 1) ⟨(by first | rfl | (refine int_eq ?_; omega)), trivial⟩ (by (iterate 41 refine agr_cons rfl ?_); exact agr_rfl) ⟨?_, ?_⟩
                                          · exact ⟨by omega, hrB.from_ (From.rfl_.next D33), (hB.next D33)⟩
                                          · show 20 - (q + 1) < 20 - q; omega
                                 (try first | replace Q16 := bn_t Q16 | replace Q16 := bn_f Q16)
                                 (try first | replace Q16 := bx_t Q16 | replace Q16 := bx_f Q16 | replace Q16 := be_t Q16 | replace Q16 := be_f Q16 | replace Q16 := of_decide_eq_true Q16 | replace Q16 := of_decide_eq_false Q16)
                                 first
                                  | (exfalso; first | omega | contradiction | (cases Q16; done))
                                  | skip
                                    refine cd_exit ?_
                                    refine ex_then ?_
                                    refine ex_then ?_
                                    refine ex_block ?_
                                    refine nx_then ?_
                                    refine cd_seq ?_
                                    refine cd_region ?_
                                    refine st_val (ro_assign (v := .int _ _) rfl) ?_
                                    refine st_nil ?_
                                    refine nx_then ?_
                                    refine cd_block ?_
                                    refine cd_loop (G := Nat) [2, 11, 12, 90, 91, 92, 93, 94, 95, 96, 97, 98, 99, 100, 101, 102, 103, 104, 105, 106, 107, 108, 109, 110, 111, 112, 113, 114, 115, 116, 117, 118, 119, 120, 121, 122] (fun q => [(10, .int .i64 (q : Nat))]) (fun q w' => q ≤ 20 ∧ RowOf iV w' A' (cI Bs) ∧ From w w') (fun q => 20 - q) (0) ⟨rfl, trivial⟩ ?_ ?_
                                    · exact ⟨by omega, hrB.from_ From.rfl_, hB⟩
                                    rintro q ρ35 w35 ⟨hq, hrB, hB⟩
                                    refine cd_seq ?_
                                    refine cd_seq ?_
                                    refine cd_region ?_
                                    refine st_val (ro_move (v := .int _ _) rfl) ?_
                                    refine st_val (ro_move (v := .slice _ _ _) rfl) ?_
                                    refine st_val (ro_len BwtLawU_l24 rfl) ?_
                                    refine st_val (ro_leq rfl rfl) ?_
                                    refine st_val (ro_move (v := .bool _) rfl) ?_
                                    refine st_split (t := 94) rfl (fun Q36 => ?_) (fun Q36 => ?_)
                                    · (try first | replace Q36 := bn_t Q36 | replace Q36 := bn_f Q36)
                                      (try first | replace Q36 := bx_t Q36 | replace Q36 := bx_f Q36 | replace Q36 := be_t Q36 | replace Q36 := be_f Q36 | replace Q36 := of_decide_eq_true Q36 | replace Q36 := of_decide_eq_false Q36)
                                      first
                                       | (exfalso; first | omega | contradiction | (cases Q36; done))
                                       | skip
                                         refine st_unguard rfl ?_
                                         refine st_val (ro_move (v := .int _ _) rfl) ?_
                                         refine st_unguard rfl ?_
                                         refine st_val (ro_lss rfl rfl) ?_
                                         refine st_val (ro_pickT (v := .bool _) rfl rfl) ?_
                                         refine st_nil ?_
                                         refine nx_then ?_
                                         refine cd_cond rfl (fun Q37 => ?_) (fun Q37 => ?_)
                                         · (try first | replace Q37 := bn_t Q37 | replace Q37 := bn_f Q37)
                                           (try first | replace Q37 := bx_t Q37 | replace Q37 := bx_f Q37 | replace Q37 := be_t Q37 | replace Q37 := be_f Q37 | replace Q37 := of_decide_eq_true Q37 | replace Q37 := of_decide_eq_false Q37)
                                           first
                                            | (exfalso; first | omega | contradiction | (cases Q37; done))
                                            | skip
                                              refine cd_skip ?_
                                              refine nx_then ?_
                                              refine cd_seq ?_
                                              refine cd_block ?_
                                              refine cd_seq ?_
                                              refine cd_region ?_
                                              refine st_val (ro_move (v := .int _ _) rfl) ?_
                                              refine st_val (ro_move (v := .slice _ _ _) rfl) ?_
                                              refine st_call BwtLawU_k16 (back_two q A' c' Bs.length (cI Bs) _ (hrB.from_ From.rfl_) (by rw [List.length_map]) (by omega)) ?_
                                              rintro v103 w38 ⟨hs103, E103⟩
                                              rcases hs103 with ⟨l9, A103, c103, hIs, rfl, hr103, hl9⟩ | ⟨hIs, rfl⟩
                                              · refine st_val (ro_move (v := .tuple _) rfl) ?_
                                                refine st_val (ro_extract rfl rfl) ?_
                                                refine st_val (ro_extract rfl rfl) ?_
                                                refine st_val (ro_assign (v := .slice _ _ _) rfl) ?_
                                                refine st_val (ro_assign (v := .int _ _) rfl) ?_
                                                refine st_nil ?_
                                                refine nx_then ?_
                                                refine cd_seq ?_
                                                refine cd_region ?_
                                                refine st_val (ro_move (v := .int _ _) rfl) ?_
                                                refine st_val (ro_move (v := .int _ _) rfl) ?_
                                                refine st_val (ro_neq rfl rfl) ?_
                                                refine st_val (ro_move (v := .bool _) rfl) ?_
                                                refine st_split (t := 109) rfl (fun Q39 => ?_) (fun Q39 => ?_)
                                                · (try first | replace Q39 := bn_t Q39 | replace Q39 := bn_f Q39)
                                                  (try first | replace Q39 := bx_t Q39 | replace Q39 := bx_f Q39 | replace Q39 := be_t Q39 | replace Q39 := be_f Q39 | replace Q39 := of_decide_eq_true Q39 | replace Q39 := of_decide_eq_false Q39)
                                                  first
                                                   | (exfalso; first | omega | contradiction | (cases Q39; done))
                                                   | skip
                                                     refine st_unguard rfl ?_
                                                     refine st_val (ro_move (v := .int _ _) rfl) ?_
                                                     refine st_unguard rfl ?_
                                                     refine st_call BwtLawU_k11 (num_any _ _) ?_
                                                     rintro v111 w40 ⟨rfl, rfl⟩
                                                     refine st_unguard rfl ?_
                                                     refine st_val (ro_eql rfl rfl) ?_
                                                     refine st_val (ro_pickT (v := .bool _) rfl rfl) ?_
                                                     refine st_val (ro_move (v := .bool _) rfl) ?_
                                                     refine st_split (t := 114) rfl (fun Q41 => ?_) (fun Q41 => ?_)
                                                     · (try first | replace Q41 := bn_t Q41 | replace Q41 := bn_f Q41)
                                                       (try first | replace Q41 := bx_t Q41 | replace Q41 := bx_f Q41 | replace Q41 := be_t Q41 | replace Q41 := be_f Q41 | replace Q41 := of_decide_eq_true Q41 | replace Q41 := of_decide_eq_false Q41)
                                                       first
                                                        | (exfalso; first | omega | contradiction | (cases Q41; done))
                                                        | skip
                                                          refine st_unguard rfl ?_
                                                          refine st_val (ro_move (v := .slice _ _ _) rfl) ?_
                                                          refine st_unguard rfl ?_
                                                          refine st_val (ro_move (v := .slice _ _ _) rfl) ?_
                                                          refine st_unguard rfl ?_
                                                          refine st_val (ro_move (v := .int _ _) rfl) ?_
                                                          refine st_unguard rfl ?_
                                                          refine st_val (ro_indexAddrN BwtLawU_e22 rfl rfl (by omega)) ?_
                                                          refine st_unguard rfl ?_
                                                          refine st_val (ro_fieldAddr BwtLawU_f26_0 rfl) ?_
                                                          refine st_unguard rfl ?_
                                                          refine st_val (ro_load BwtLawU_g24 rfl (by exact cellF (hB.next E103) (hask.cells 0 _ rfl))) ?_
                                                          refine st_unguard rfl ?_
                                                          refine st_call BwtLawU_k13 (eq_n A103 A1 c103 ca l9.length L.length (cI l9) L _ hr103 (hask.rowL.from_ (hB.next E103)) (by rw [List.length_map]) rfl (by omega)) ?_
                                                          rintro v121 w42 ⟨rfl, E121⟩
                                                          refine st_val (ro_pickT (v := .bool _) rfl rfl) ?_
                                                          refine st_nil ?_
                                                          refine nx_then ?_
                                                          refine cd_cond rfl (fun Q43 => ?_) (fun Q43 => ?_)
                                                          · (try first | replace Q43 := bn_t Q43 | replace Q43 := bn_f Q43)
                                                            (try first | replace Q43 := bx_t Q43 | replace Q43 := bx_f Q43 | replace Q43 := be_t Q43 | replace Q43 := be_f Q43 | replace Q43 := of_decide_eq_true Q43 | replace Q43 := of_decide_eq_false Q43)
                                                            have hno := back_other rfl hbw hIs rfl (by omega)
                                                            rw [← hLn] at hno
                                                            first
                                                             | (exfalso; first | omega | contradiction | (cases Q43; done))
                                                             | skip
                                                               refine cd_seq ?_
                                                               refine cd_region ?_
                                                               refine st_val (ro_assign (v := .bool _) rfl) ?_
                                                               refine st_nil ?_
                                                               refine nx_then ?_
                                                               refine cd_ret ?_
                                                               refine rt_block ?_
                                                               refine rt_then ?_
                                                               refine rt_then ?_
                                                               refine rt_block ?_
                                                               refine rt_block ?_
                                                               refine rt_then ?_
                                                               refine rt_then ?_
                                                               refine rt_block ?_
                                                               refine rt_then ?_
                                                               refine res1 (v := .bool _) rfl rfl ?_
                                                               exact ⟨rfl, ((hB.next E103).next E121)⟩
                                                          (try first | replace Q43 := bn_t Q43 | replace Q43 := bn_f Q43)
                                                          (try first | replace Q43 := bx_t Q43 | replace Q43 := bx_f Q43 | replace Q43 := be_t Q43 | replace Q43 := be_f Q43 | replace Q43 := of_decide_eq_true Q43 | replace Q43 := of_decide_eq_false Q43)
                                                          first
                                                           | (exfalso; first | omega | contradiction | (cases Q43; done))
                                                           | skip
                                                             refine cd_skip ?_
                                                             refine nx_block ?_
                                                             refine nx_then ?_
                                                             refine cd_region ?_
                                                             refine st_val (ro_move (v := .int _ _) rfl) ?_
                                                             refine st_val (ro_addN (b := 1) rfl rfl (by omega)) ?_
                                                             refine st_val (ro_assign (v := .int _ _) rfl) ?_
                                                             refine st_nil ?_
                                                             refine nx_cut (q + 1) ⟨(by first | rfl | (refine int_eq ?_; omega)), trivial⟩ (by (iterate 76 refine agr_cons rfl ?_); exact agr_rfl) ⟨?_, ?_⟩
                                                             · exact ⟨by omega, hrB.from_ ((From.rfl_.next E103).next E121), ((hB.next E103).next E121)⟩
                                                             · show 20 - (q + 1) < 20 - q; omega
                                                     · (try first | replace Q41 := bn_t Q41 | replace Q41 := bn_f Q41)
                                                       (try first | replace Q41 := bx_t Q41 | replace Q41 := bx_f Q41 | replace Q41 := be_t Q41 | replace Q41 := be_f Q41 | replace Q41 := of_decide_eq_true Q41 | replace Q41 := of_decide_eq_false Q41)
                                                       first
                                                        | (exfalso; first | omega | contradiction | (cases Q41; done))
                                                        | skip
                                                          refine st_gno rfl rfl ?_
                                                          refine st_gno rfl rfl ?_
                                                          refine st_gno rfl rfl ?_
                                                          refine st_gno rfl rfl ?_
                                                          refine st_gno rfl rfl ?_
                                                          refine st_gno rfl rfl ?_
                                                          refine st_gno rfl rfl ?_
                                                          refine st_val (ro_pickF (v := .bool _) rfl rfl) ?_
                                                          refine st_nil ?_
                                                          refine nx_then ?_
                                                          refine cd_condF rfl ?_
                                                          refine cd_skip ?_
                                                          refine nx_block ?_
                                                          refine nx_then ?_
                                                          refine cd_region ?_
                                                          refine st_val (ro_move (v := .int _ _) rfl) ?_
                                                          refine st_val (ro_addN (b := 1) rfl rfl (by omega)) ?_
                                                          refine st_val (ro_assign (v := .int _ _) rfl) ?_
                                                          refine st_nil ?_
                                                          refine nx_cut (q + 1) ⟨(by first | rfl | (refine int_eq ?_; omega)), trivial⟩ (by (iterate 76 refine agr_cons rfl ?_); exact agr_rfl) ⟨?_, ?_⟩
                                                          · exact ⟨by omega, hrB.from_ (From.rfl_.next E103), (hB.next E103)⟩
                                                          · show 20 - (q + 1) < 20 - q; omega
                                                · (try first | replace Q39 := bn_t Q39 | replace Q39 := bn_f Q39)
                                                  (try first | replace Q39 := bx_t Q39 | replace Q39 := bx_f Q39 | replace Q39 := be_t Q39 | replace Q39 := be_f Q39 | replace Q39 := of_decide_eq_true Q39 | replace Q39 := of_decide_eq_false Q39)
                                                  first
                                                   | (exfalso; first | omega | contradiction | (cases Q39; done))
                                                   | skip
                                                     refine st_gno rfl rfl ?_
                                                     refine st_gno rfl rfl ?_
                                                     refine st_gno rfl rfl ?_
                                                     refine st_val (ro_pickF (v := .bool _) rfl rfl) ?_
                                                     refine st_val (ro_move (v := .bool _) rfl) ?_
                                                     refine st_gno rfl rfl ?_
                                                     refine st_gno rfl rfl ?_
                                                     refine st_gno rfl rfl ?_
                                                     refine st_gno rfl rfl ?_
                                                     refine st_gno rfl rfl ?_
                                                     refine st_gno rfl rfl ?_
                                                     refine st_gno rfl rfl ?_
                                                     refine st_val (ro_pickF (v := .bool _) rfl rfl) ?_
                                                     refine st_nil ?_
                                                     refine nx_then ?_
                                                     refine cd_condF rfl ?_
                                                     refine cd_skip ?_
                                                     refine nx_block ?_
                                                     refine nx_then ?_
                                                     refine cd_region ?_
                                                     refine st_val (ro_move (v := .int _ _) rfl) ?_
                                                     refine st_val (ro_addN (b := 1) rfl rfl (by omega)) ?_
                                                     refine st_val (ro_assign (v := .int _ _) rfl) ?_
                                                     refine st_nil ?_
                                                     refine nx_cut (q + 1) ⟨(by first | rfl | (refine int_eq ?_; omega)), trivial⟩ (by (iterate 75 refine agr_cons rfl ?_); exact agr_rfl) ⟨?_, ?_⟩
                                                     · exact ⟨by omega, hrB.from_ (From.rfl_.next E103), (hB.next E103)⟩
                                                     · show 20 - (q + 1) < 20 - q; omega
                                              · refine st_val (ro_move (v := .tuple _) rfl) ?_
                                                refine st_val (ro_extract rfl rfl) ?_
                                                refine st_val (ro_extract rfl rfl) ?_
                                                refine st_val (ro_assign (v := .slice _ _ _) rfl) ?_
                                                refine st_val (ro_assign (v := .int _ _) rfl) ?_
                                                refine st_nil ?_
                                                refine nx_then ?_
                                                refine cd_seq ?_
                                                refine cd_region ?_
                                                refine st_val (ro_move (v := .int _ _) rfl) ?_
                                                refine st_val (ro_move (v := .int _ _) rfl) ?_
                                                refine st_val (ro_neq rfl rfl) ?_
                                                refine st_val (ro_move (v := .bool _) rfl) ?_
                                                refine st_split (t := 109) rfl (fun Q44 => ?_) (fun Q44 => ?_)
                                                · (try first | replace Q44 := bn_t Q44 | replace Q44 := bn_f Q44)
                                                  (try first | replace Q44 := bx_t Q44 | replace Q44 := bx_f Q44 | replace Q44 := be_t Q44 | replace Q44 := be_f Q44 | replace Q44 := of_decide_eq_true Q44 | replace Q44 := of_decide_eq_false Q44)
                                                  first
                                                   | (exfalso; first | omega | contradiction | (cases Q44; done))
                                                   | skip
                                                     refine st_unguard rfl ?_
                                                     refine st_val (ro_move (v := .int _ _) rfl) ?_
                                                     refine st_unguard rfl ?_
                                                     refine st_call BwtLawU_k11 (num_any _ _) ?_
                                                     rintro v111 w45 ⟨rfl, rfl⟩
                                                     refine st_unguard rfl ?_
                                                     refine st_val (ro_eql rfl rfl) ?_
                                                     refine st_val (ro_pickT (v := .bool _) rfl rfl) ?_
                                                     refine st_val (ro_move (v := .bool _) rfl) ?_
                                                     refine st_split (t := 114) rfl (fun Q46 => ?_) (fun Q46 => ?_)
                                                     · (try first | replace Q46 := bn_t Q46 | replace Q46 := bn_f Q46)
                                                       (try first | replace Q46 := bx_t Q46 | replace Q46 := bx_f Q46 | replace Q46 := be_t Q46 | replace Q46 := be_f Q46 | replace Q46 := of_decide_eq_true Q46 | replace Q46 := of_decide_eq_false Q46)
                                                       first
                                                        | (exfalso; first | omega | contradiction | (cases Q46; done))
                                                        | skip
                                                          refine st_unguard rfl ?_
                                                          refine st_val (ro_move (v := .slice _ _ _) rfl) ?_
                                                          refine st_unguard rfl ?_
                                                          refine st_val (ro_move (v := .slice _ _ _) rfl) ?_
                                                          refine st_unguard rfl ?_
                                                          refine st_val (ro_move (v := .int _ _) rfl) ?_
                                                          refine st_unguard rfl ?_
                                                          refine st_val (ro_indexAddrN BwtLawU_e22 rfl rfl (by omega)) ?_
                                                          refine st_unguard rfl ?_
                                                          refine st_val (ro_fieldAddr BwtLawU_f26_0 rfl) ?_
                                                          refine st_unguard rfl ?_
                                                          refine st_val (ro_load BwtLawU_g24 rfl (by exact cellF (hB.next E103) (hask.cells 0 _ rfl))) ?_
                                                          refine st_unguard rfl ?_
                                                          refine st_call BwtLawU_k13 (eq_n A103 A1 c103 ca l9.length L.length (cI l9) L _ hr103 (hask.rowL.from_ (hB.next E103)) (by rw [List.length_map]) rfl (by omega)) ?_
                                                          rintro v121 w47 ⟨rfl, E121⟩
                                                          refine st_val (ro_pickT (v := .bool _) rfl rfl) ?_
                                                          refine st_nil ?_
                                                          refine nx_then ?_
                                                          refine cd_cond rfl (fun Q48 => ?_) (fun Q48 => ?_)
                                                          · (try first | replace Q48 := bn_t Q48 | replace Q48 := bn_f Q48)
                                                            (try first | replace Q48 := bx_t Q48 | replace Q48 := bx_f Q48 | replace Q48 := be_t Q48 | replace Q48 := be_f Q48 | replace Q48 := of_decide_eq_true Q48 | replace Q48 := of_decide_eq_false Q48)
                                                            have hno := back_other rfl hbw hIs rfl (by omega)
                                                            rw [← hLn] at hno
                                                            first
                                                             | (exfalso; first | omega | contradiction | (cases Q48; done))
                                                             | skip
                                                               refine cd_seq ?_
                                                               refine cd_region ?_
                                                               refine st_val (ro_assign (v := .bool _) rfl) ?_
                                                               refine st_nil ?_
                                                               refine nx_then ?_
                                                               refine cd_ret ?_
                                                               refine rt_block ?_
                                                               refine rt_then ?_
                                                               refine rt_then ?_
                                                               refine rt_block ?_
                                                               refine rt_block ?_
                                                               refine rt_then ?_
                                                               refine rt_then ?_
                                                               refine rt_block ?_
                                                               refine rt_then ?_
                                                               refine res1 (v := .bool _) rfl rfl ?_
                                                               exact ⟨rfl, ((hB.next E103).next E121)⟩
                                                          (try first | replace Q48 := bn_t Q48 | replace Q48 := bn_f Q48)
                                                          (try first | replace Q48 := bx_t Q48 | replace Q48 := bx_f Q48 | replace Q48 := be_t Q48 | replace Q48 := be_f Q48 | replace Q48 := of_decide_eq_true Q48 | replace Q48 := of_decide_eq_false Q48)
                                                          first
                                                           | (exfalso; first | omega | contradiction | (cases Q48; done))
                                                           | skip
                                                             refine cd_skip ?_
                                                             refine nx_block ?_
                                                             refine nx_then ?_
                                                             refine cd_region ?_
                                                             refine st_val (ro_move (v := .int _ _) rfl) ?_
                                                             refine st_val (ro_addN (b := 1) rfl rfl (by omega)) ?_
                                                             refine st_val (ro_assign (v := .int _ _) rfl) ?_
                                                             refine st_nil ?_
                                                             refine nx_cut (q + 1) ⟨(by first | rfl | (refine int_eq ?_; omega)), trivial⟩ (by (iterate 76 refine agr_cons rfl ?_); exact agr_rfl) ⟨?_, ?_⟩
                                                             · exact ⟨by omega, hrB.from_ ((From.rfl_.next E103).next E121), ((hB.next E103).next E121)⟩
                                                             · show 20 - (q + 1) < 20 - q; omega
                                                     · (try first | replace Q46 := bn_t Q46 | replace Q46 := bn_f Q46)
                                                       (try first | replace Q46 := bx_t Q46 | replace Q46 := bx_f Q46 | replace Q46 := be_t Q46 | replace Q46 := be_f Q46 | replace Q46 := of_decide_eq_true Q46 | replace Q46 := of_decide_eq_false Q46)
                                                       first
                                                        | (exfalso; first | omega | contradiction | (cases Q46; done))
                                                        | skip
                                                          refine st_gno rfl rfl ?_
                                                          refine st_gno rfl rfl ?_
                                                          refine st_gno rfl rfl ?_
                                                          refine st_gno rfl rfl ?_
                                                          refine st_gno rfl rfl ?_
                                                          refine st_gno rfl rfl ?_
                                                          refine st_gno rfl rfl ?_
                                                          refine st_val (ro_pickF (v := .bool _) rfl rfl) ?_
                                                          refine st_nil ?_
                                                          refine nx_then ?_
                                                          refine cd_condF rfl ?_
                                                          refine cd_skip ?_
                                                          refine nx_block ?_
                                                          refine nx_then ?_
                                                          refine cd_region ?_
                                                          refine st_val (ro_move (v := .int _ _) rfl) ?_
                                                          refine st_val (ro_addN (b := 1) rfl rfl (by omega)) ?_
                                                          refine st_val (ro_assign (v := .int _ _) rfl) ?_
                                                          refine st_nil ?_
                                                          refine nx_cut (q + 1) ⟨(by first | rfl | (refine int_eq ?_; omega)), trivial⟩ (by (iterate 76 refine agr_cons rfl ?_); exact agr_rfl) ⟨?_, ?_⟩
                                                          · exact ⟨by omega, hrB.from_ (From.rfl_.next E103), (hB.next E103)⟩
                                                          · show 20 - (q + 1) < 20 - q; omega
                                                · (try first | replace Q44 := bn_t Q44 | replace Q44 := bn_f Q44)
                                                  (try first | replace Q44 := bx_t Q44 | replace Q44 := bx_f Q44 | replace Q44 := be_t Q44 | replace Q44 := be_f Q44 | replace Q44 := of_decide_eq_true Q44 | replace Q44 := of_decide_eq_false Q44)
                                                  first
                                                   | (exfalso; first | omega | contradiction | (cases Q44; done))
                                                   | skip
                                                     refine st_gno rfl rfl ?_
                                                     refine st_gno rfl rfl ?_
                                                     refine st_gno rfl rfl ?_
                                                     refine st_val (ro_pickF (v := .bool _) rfl rfl) ?_
                                                     refine st_val (ro_move (v := .bool _) rfl) ?_
                                                     refine st_gno rfl rfl ?_
                                                     refine st_gno rfl rfl ?_
                                                     refine st_gno rfl rfl ?_
                                                     refine st_gno rfl rfl ?_
                                                     refine st_gno rfl rfl ?_
                                                     refine st_gno rfl rfl ?_
                                                     refine st_gno rfl rfl ?_
                                                     refine st_val (ro_pickF (v := .bool _) rfl rfl) ?_
                                                     refine st_nil ?_
                                                     refine nx_then ?_
                                                     refine cd_condF rfl ?_
                                                     refine cd_skip ?_
                                                     refine nx_block ?_
                                                     refine nx_then ?_
                                                     refine cd_region ?_
                                                     refine st_val (ro_move (v := .int _ _) rfl) ?_
                                                     refine st_val (ro_addN (b := 1) rfl rfl (by omega)) ?_
                                                     refine st_val (ro_assign (v := .int _ _) rfl) ?_
                                                     refine st_nil ?_
                                                     refine nx_cut (q + 1) ⟨(by first | rfl | (refine int_eq ?_; omega)), trivial⟩ (by (iterate 75 refine agr_cons rfl ?_); exact agr_rfl) ⟨?_, ?_⟩
                                                     · exact ⟨by omega, hrB.from_ (From.rfl_.next E103), (hB.next E103)⟩
                                                     · show 20 - (q + 1) < 20 - q; omega
                                         (try first | replace Q37 := bn_t Q37 | replace Q37 := bn_f Q37)
                                         (try first | replace Q37 := bx_t Q37 | replace Q37 := bx_f Q37 | replace Q37 := be_t Q37 | replace Q37 := be_f Q37 | replace Q37 := of_decide_eq_true Q37 | replace Q37 := of_decide_eq_false Q37)
                                         first
                                          | (exfalso; first | omega | contradiction | (cases Q37; done))
                                          | skip
                                            refine cd_exit ?_
                                            refine ex_then ?_
                                            refine ex_then ?_
                                            refine ex_block ?_
                                            refine nx_block ?_
                                            refine nx_then ?_
                                            refine cd_region ?_
                                            refine st_val (ro_move (v := .int _ _) rfl) ?_
                                            refine st_val (ro_addN (b := 1) rfl rfl (by omega)) ?_
                                            refine st_val (ro_assign (v := .int _ _) rfl) ?_
                                            refine st_nil ?_
                                            refine nx_cut (k + 1) ⟨(by first | rfl | (refine int_eq ?_; omega)), trivial⟩ (by (iterate 259 refine agr_cons rfl ?_); exact agr_rfl) ⟨?_, ?_⟩
                                            · exact ⟨by omega, hB⟩
                                            · show xs.length - (k + 1) < xs.length - k; omega
                                    · (try first | replace Q36 := bn_t Q36 | replace Q36 := bn_f Q36)
                                      (try first | replace Q36 := bx_t Q36 | replace Q36 := bx_f Q36 | replace Q36 := be_t Q36 | replace Q36 := be_f Q36 | replace Q36 := of_decide_eq_true Q36 | replace Q36 := of_decide_eq_false Q36)
                                      first
                                       | (exfalso; first | omega | contradiction | (cases Q36; done))
                                       | skip
                                         refine st_gno rfl rfl ?_
                                         refine st_gno rfl rfl ?_
                                         refine st_val (ro_pickF (v := .bool _) rfl rfl) ?_
                                         refine st_nil ?_
                                         refine nx_then ?_
                                         refine cd_condF rfl ?_
                                         refine cd_exit ?_
                                         refine ex_then ?_
                                         refine ex_then ?_
                                         refine ex_block ?_
                                         refine nx_block ?_
                                         refine nx_then ?_
                                         refine cd_region ?_
                                         refine st_val (ro_move (v := .int _ _) rfl) ?_
                                         refine st_val (ro_addN (b := 1) rfl rfl (by omega)) ?_
                                         refine st_val (ro_assign (v := .int _ _) rfl) ?_
                                         refine st_nil ?_
                                         refine nx_cut (k + 1) ⟨(by first | rfl | (refine int_eq ?_; omega)), trivial⟩ (by (iterate 259 refine agr_cons rfl ?_); exact agr_rfl) ⟨?_, ?_⟩
                                         · exact ⟨by omega, hB⟩
                                         · show xs.length - (k + 1) < xs.length - k; omega
               · have hBl := hbw.len
                 have hLl : Ln.length = L.length := by rw [hLn, List.length_map]
                 have hrB := (RowOf.own ho34).2
                 refine st_val (ro_move (v := .tuple _) rfl) ?_
                 refine st_val (ro_extract rfl rfl) ?_
                 refine st_val (ro_extract rfl rfl) ?_
                 refine st_val (ro_extract rfl rfl) ?_
                 refine st_val (ro_assign (v := .slice _ _ _) rfl) ?_
                 refine st_val (ro_assign (v := .int _ _) rfl) ?_
                 refine st_val (ro_assign (v := .int _ _) rfl) ?_
                 refine st_nil ?_
                 refine nx_then ?_
                 refine cd_seq ?_
                 refine cd_seq ?_
                 refine cd_region ?_
                 refine st_val (ro_move (v := .int _ _) rfl) ?_
                 refine st_call BwtLawU_k11 (num_any _ _) ?_
                 rintro v39 w49 ⟨rfl, rfl⟩
                 refine st_val (ro_neq rfl rfl) ?_
                 refine st_nil ?_
                 refine nx_then ?_
                 refine cd_cond rfl (fun Q50 => ?_) (fun Q50 => ?_)
                 · (try first | replace Q50 := bn_t Q50 | replace Q50 := bn_f Q50)
                   (try first | replace Q50 := bx_t Q50 | replace Q50 := bx_f Q50 | replace Q50 := be_t Q50 | replace Q50 := be_f Q50 | replace Q50 := of_decide_eq_true Q50 | replace Q50 := of_decide_eq_false Q50)
                   first
                    | (exfalso; first | omega | contradiction | (cases Q50; done))
                    | skip
                      refine cd_exit ?_
                      refine ex_then ?_
                      refine ex_block ?_
                      refine nx_then ?_
                      refine cd_region ?_
                      refine st_val (ro_move (v := .int _ _) rfl) ?_
                      refine st_val (ro_addN (b := 1) rfl rfl (by omega)) ?_
                      refine st_val (ro_assign (v := .int _ _) rfl) ?_
                      refine st_nil ?_
                      refine nx_cut (k + 1) ⟨(by first | rfl | (refine int_eq ?_; omega)), trivial⟩ (by (iterate 154 refine agr_cons rfl ?_); exact agr_rfl) ⟨?_, ?_⟩
                      · exact ⟨by omega, ((hB.next E27).next E34)⟩
                      · show xs.length - (k + 1) < xs.length - k; omega
                 (try first | replace Q50 := bn_t Q50 | replace Q50 := bn_f Q50)
                 (try first | replace Q50 := bx_t Q50 | replace Q50 := bx_f Q50 | replace Q50 := be_t Q50 | replace Q50 := be_f Q50 | replace Q50 := of_decide_eq_true Q50 | replace Q50 := of_decide_eq_false Q50)
                 first
                  | (exfalso; first | omega | contradiction | (cases Q50; done))
                  | skip
                    refine cd_skip ?_
                    refine nx_then ?_
                    refine cd_seq ?_
                    refine cd_region ?_
                    refine st_val (ro_move (v := .int _ _) rfl) ?_
                    refine st_val (ro_move (v := .slice _ _ _) rfl) ?_
                    refine st_call BwtLawU_k16 (back_good A' c' Bs.length a Ln Bs _ (hrB.from_ From.rfl_) rfl (by omega) hlt hbw) ?_
                    rintro v44 w51 ⟨⟨A44, c44, rfl, hr44⟩, E44⟩
                    refine st_val (ro_move (v := .tuple _) rfl) ?_
                    refine st_val (ro_extract rfl rfl) ?_
                    refine st_val (ro_extract rfl rfl) ?_
                    refine st_val (ro_assign (v := .slice _ _ _) rfl) ?_
                    refine st_val (ro_assign (v := .int _ _) rfl) ?_
                    refine st_nil ?_
                    refine nx_then ?_
                    refine cd_seq ?_
                    refine cd_seq ?_
                    refine cd_region ?_
                    refine st_val (ro_move (v := .int _ _) rfl) ?_
                    refine st_call BwtLawU_k11 (num_any _ _) ?_
                    rintro v48 w52 ⟨rfl, rfl⟩
                    refine st_val (ro_neq rfl rfl) ?_
                    refine st_val (ro_move (v := .bool _) rfl) ?_
                    refine st_split (t := 50) rfl (fun Q53 => ?_) (fun Q53 => ?_)
                    · (try first | replace Q53 := bn_t Q53 | replace Q53 := bn_f Q53)
                      (try first | replace Q53 := bx_t Q53 | replace Q53 := bx_f Q53 | replace Q53 := be_t Q53 | replace Q53 := be_f Q53 | replace Q53 := of_decide_eq_true Q53 | replace Q53 := of_decide_eq_false Q53)
                      first
                       | (exfalso; first | omega | contradiction | (cases Q53; done))
                       | skip
                         refine st_gno rfl rfl ?_
                         refine st_gno rfl rfl ?_
                         refine st_gno rfl rfl ?_
                         refine st_gno rfl rfl ?_
                         refine st_gno rfl rfl ?_
                         refine st_gno rfl rfl ?_
                         refine st_gno rfl rfl ?_
                         refine st_gno rfl rfl ?_
                         refine st_val (ro_pickT (v := .bool _) rfl rfl) ?_
                         refine st_val (ro_move (v := .bool _) rfl) ?_
                         refine st_gno rfl rfl ?_
                         refine st_gno rfl rfl ?_
                         refine st_gno rfl rfl ?_
                         refine st_gno rfl rfl ?_
                         refine st_gno rfl rfl ?_
                         refine st_gno rfl rfl ?_
                         refine st_gno rfl rfl ?_
                         refine st_gno rfl rfl ?_
                         refine st_gno rfl rfl ?_
                         refine st_val (ro_pickT (v := .bool _) rfl rfl) ?_
                         refine st_nil ?_
                         refine nx_then ?_
                         refine cd_condT rfl ?_
                         refine cd_seq ?_
                         refine cd_region ?_
                         refine st_val (ro_assign (v := .bool _) rfl) ?_
                         refine st_nil ?_
                         refine nx_then ?_
                         refine cd_ret ?_
                         refine rt_then ?_
                         refine rt_block ?_
                         refine rt_then ?_
                         refine rt_then ?_
                         refine rt_block ?_
                         refine rt_then ?_
                         refine res1 (v := .bool _) rfl rfl ?_
                         exact ⟨rfl, (((hB.next E27).next E34).next E44)⟩
                    · (try first | replace Q53 := bn_t Q53 | replace Q53 := bn_f Q53)
                      (try first | replace Q53 := bx_t Q53 | replace Q53 := bx_f Q53 | replace Q53 := be_t Q53 | replace Q53 := be_f Q53 | replace Q53 := of_decide_eq_true Q53 | replace Q53 := of_decide_eq_false Q53)
                      first
                       | (exfalso; first | omega | contradiction | (cases Q53; done))
                       | skip
                         refine st_unguard rfl ?_
                         refine st_val (ro_move (v := .slice _ _ _) rfl) ?_
                         refine st_unguard rfl ?_
                         refine st_val (ro_move (v := .slice _ _ _) rfl) ?_
                         refine st_unguard rfl ?_
                         refine st_val (ro_move (v := .int _ _) rfl) ?_
                         refine st_unguard rfl ?_
                         refine st_val (ro_indexAddrN BwtLawU_e22 rfl rfl (by omega)) ?_
                         refine st_unguard rfl ?_
                         refine st_val (ro_fieldAddr BwtLawU_f26_0 rfl) ?_
                         refine st_unguard rfl ?_
                         refine st_val (ro_load BwtLawU_g24 rfl (by exact cellF (((hB.next E27).next E34).next E44) (hask.cells 0 _ rfl))) ?_
                         refine st_unguard rfl ?_
                         refine st_call BwtLawU_k13 (eq_same A44 A1 c44 ca Ln.length L.length L _ (by rw [hLn]; exact hr44) (hask.rowL.from_ (((hB.next E27).next E34).next E44)) hLl rfl (by omega)) ?_
                         rintro v57 w54 ⟨rfl, E57⟩
                         refine st_unguard rfl ?_
                         refine st_val (ro_not rfl) ?_
                         refine st_val (ro_pickF (v := .bool _) rfl rfl) ?_
                         refine st_val (ro_move (v := .bool _) rfl) ?_
                         refine st_split (t := 60) rfl (fun Q55 => ?_) (fun Q55 => ?_)
                         · (try first | replace Q55 := bn_t Q55 | replace Q55 := bn_f Q55)
                           (try first | replace Q55 := bx_t Q55 | replace Q55 := bx_f Q55 | replace Q55 := be_t Q55 | replace Q55 := be_f Q55 | replace Q55 := of_decide_eq_true Q55 | replace Q55 := of_decide_eq_false Q55)
                           first
                            | (exfalso; first | omega | contradiction | (cases Q55; done))
                            | skip
                              refine st_gno rfl rfl ?_
                              refine st_gno rfl rfl ?_
                              refine st_gno rfl rfl ?_
                              refine st_gno rfl rfl ?_
                              refine st_gno rfl rfl ?_
                              refine st_gno rfl rfl ?_
                              refine st_gno rfl rfl ?_
                              refine st_gno rfl rfl ?_
                              refine st_gno rfl rfl ?_
                              refine st_val (ro_pickT (v := .bool _) rfl rfl) ?_
                              refine st_nil ?_
                              refine nx_then ?_
                              refine cd_condT rfl ?_
                              refine cd_seq ?_
                              refine cd_region ?_
                              refine st_val (ro_assign (v := .bool _) rfl) ?_
                              refine st_nil ?_
                              refine nx_then ?_
                              refine cd_ret ?_
                              refine rt_then ?_
                              refine rt_block ?_
                              refine rt_then ?_
                              refine rt_then ?_
                              refine rt_block ?_
                              refine rt_then ?_
                              refine res1 (v := .bool _) rfl rfl ?_
                              exact ⟨rfl, ((((hB.next E27).next E34).next E44).next E57)⟩
                         · (try first | replace Q55 := bn_t Q55 | replace Q55 := bn_f Q55)
                           (try first | replace Q55 := bx_t Q55 | replace Q55 := bx_f Q55 | replace Q55 := be_t Q55 | replace Q55 := be_f Q55 | replace Q55 := of_decide_eq_true Q55 | replace Q55 := of_decide_eq_false Q55)
                           first
                            | (exfalso; first | omega | contradiction | (cases Q55; done))
                            | skip
                              refine st_unguard rfl ?_
                              refine st_val (ro_move (v := .slice _ _ _) rfl) ?_
                              refine st_unguard rfl ?_
                              refine st_val (ro_len BwtLawU_l24 rfl) ?_
                              refine st_unguard rfl ?_
                              refine st_val (ro_move (v := .slice _ _ _) rfl) ?_
                              refine st_unguard rfl ?_
                              refine st_val (ro_move (v := .int _ _) rfl) ?_
                              refine st_unguard rfl ?_
                              refine st_val (ro_indexAddrN BwtLawU_e22 rfl rfl (by omega)) ?_
                              refine st_unguard rfl ?_
                              refine st_val (ro_fieldAddr BwtLawU_f26_0 rfl) ?_
                              refine st_unguard rfl ?_
                              refine st_val (ro_load BwtLawU_g24 rfl (by exact cellF ((((hB.next E27).next E34).next E44).next E57) (hask.cells 0 _ rfl))) ?_
                              refine st_unguard rfl ?_
                              refine st_val (ro_len BwtLawU_l24 rfl) ?_
                              refine st_unguard rfl ?_
                              refine st_val (ro_neq rfl rfl) ?_
                              refine st_val (ro_pickF (v := .bool _) rfl rfl) ?_
                              refine st_nil ?_
                              refine nx_then ?_
                              refine cd_cond rfl (fun Q56 => ?_) (fun Q56 => ?_)
                              · (try first | replace Q56 := bn_t Q56 | replace Q56 := bn_f Q56)
                                (try first | replace Q56 := bx_t Q56 | replace Q56 := bx_f Q56 | replace Q56 := be_t Q56 | replace Q56 := be_f Q56 | replace Q56 := of_decide_eq_true Q56 | replace Q56 := of_decide_eq_false Q56)
                                first
                                 | (exfalso; first | omega | contradiction | (cases Q56; done))
                                 | skip
                                   refine cd_seq ?_
                                   refine cd_region ?_
                                   refine st_val (ro_assign (v := .bool _) rfl) ?_
                                   refine st_nil ?_
                                   refine nx_then ?_
                                   refine cd_ret ?_
                                   refine rt_then ?_
                                   refine rt_block ?_
                                   refine rt_then ?_
                                   refine rt_then ?_
                                   refine rt_block ?_
                                   refine rt_then ?_
                                   refine res1 (v := .bool _) rfl rfl ?_
                                   exact ⟨rfl, ((((hB.next E27).next E34).next E44).next E57)⟩
                              (try first | replace Q56 := bn_t Q56 | replace Q56 := bn_f Q56)
                              (try first | replace Q56 := bx_t Q56 | replace Q56 := bx_f Q56 | replace Q56 := be_t Q56 | replace Q56 := be_f Q56 | replace Q56 := of_decide_eq_true Q56 | replace Q56 := of_decide_eq_false Q56)
                              first
                               | (exfalso; first | omega | contradiction | (cases Q56; done))
                               | skip
                                 refine cd_skip ?_
                                 refine nx_then ?_
                                 refine cd_seq ?_
                                 refine cd_seq ?_
                                 refine cd_region ?_
                                 refine st_val (ro_assign (v := .int _ _) rfl) ?_
                                 refine st_nil ?_
                                 refine nx_then ?_
                                 refine cd_block ?_
                                 refine cd_loop (G := Nat) [2, 71, 72, 73, 74, 75, 76, 77, 78, 79, 80, 81, 82, 83, 84, 85, 86, 87, 88, 89] (fun q => [(9, .int .i64 (q : Nat))]) (fun q w' => q ≤ 20 ∧ RowOf iV w' A' (cI Bs) ∧ From w w') (fun q => 20 - q) (0) ⟨rfl, trivial⟩ ?_ ?_
                                 · exact ⟨by omega, hrB.from_ ((From.rfl_.next E44).next E57), ((((hB.next E27).next E34).next E44).next E57)⟩
                                 rintro q ρ57 w57 ⟨hq, hrB, hB⟩
                                 refine cd_seq ?_
                                 refine cd_seq ?_
                                 refine cd_region ?_
                                 refine st_val (ro_move (v := .int _ _) rfl) ?_
                                 refine st_val (ro_lss rfl rfl) ?_
                                 refine st_nil ?_
                                 refine nx_then ?_
                                 refine cd_cond rfl (fun Q58 => ?_) (fun Q58 => ?_)
                                 · (try first | replace Q58 := bn_t Q58 | replace Q58 := bn_f Q58)
                                   (try first | replace Q58 := bx_t Q58 | replace Q58 := bx_f Q58 | replace Q58 := be_t Q58 | replace Q58 := be_f Q58 | replace Q58 := of_decide_eq_true Q58 | replace Q58 := of_decide_eq_false Q58)
                                   have hoc : (occ (fun i => Bs.getD i 0) Bs.length q) = occ (fun i => Ln.getD i 0) Bs.length q := by rw [hBl]; exact bw_occ hbw q
                                   first
                                    | (exfalso; first | omega | contradiction | (cases Q58; done))
                                    | skip
                                      refine cd_skip ?_
                                      refine nx_then ?_
                                      refine cd_seq ?_
                                      refine cd_block ?_
                                      refine cd_seq ?_
                                      apply cd_drawn 15 [(75, eqp _), (76, eqp _), (77, eqp _), (78, eqp _), (79, eqp _), (80, eqp _), (81, eqp _), (82, eqp _), (83, eqp _), (84, eqp _), (85, eqp _), (86, eqp _), (87, eqp _), (88, eqp _), (89, eqp _)] (by kernel_rfl) (by kernel_rfl) ⟨eqp_mono _, eqp_mono _, eqp_mono _, eqp_mono _, eqp_mono _, eqp_mono _, eqp_mono _, eqp_mono _, eqp_mono _, eqp_mono _, eqp_mono _, eqp_mono _, eqp_mono _, eqp_mono _, eqp_mono _, trivial⟩
                                      case hop =>
                                       refine ⟨?_, ?_⟩
                                       · intro w60 D60
                                         show OpOK _ _ _ _ _ _ _
                                         exact ok_pure (ro_move (v := .slice _ _ _) rfl) rfl
                                       refine ⟨?_, ?_⟩
                                       · intro w61 D61
                                         show OpOK _ _ _ _ _ _ _
                                         exact ok_pure (ro_move (v := .int _ _) rfl) rfl
                                       refine ⟨?_, ?_⟩
                                       · intro w62 D62
                                         show OpOK _ _ _ _ _ _ _
                                         exact ok_pure (ro_move (v := .slice _ _ _) rfl) rfl
                                       refine ⟨?_, ?_⟩
                                       · intro w63 D63
                                         rintro _ rfl
                                         show OpOK _ _ _ _ _ _ _
                                         exact ok_pure (ro_len BwtLawU_l24 rfl) rfl
                                       refine ⟨?_, ?_⟩
                                       · intro w64 D64
                                         rintro _ rfl _ rfl _ rfl
                                         show OpOK _ _ _ _ _ _ _
                                         refine ok_call BwtLawU_k18 ((rank_rt A' c' Bs.length Bs.length q Bs _ (hrB.from_ (From.rfl_.next D64)) rfl rfl (by omega)).mono ?_)
                                         rintro v _ ⟨rfl, E64'⟩; exact ⟨E64', rfl⟩
                                       refine ⟨?_, ?_⟩
                                       · intro w65 D65
                                         show OpOK _ _ _ _ _ _ _
                                         exact ok_pure (ro_move (v := .slice _ _ _) rfl) rfl
                                       refine ⟨?_, ?_⟩
                                       · intro w66 D66
                                         show OpOK _ _ _ _ _ _ _
                                         exact ok_pure (ro_move (v := .int _ _) rfl) rfl
                                       refine ⟨?_, ?_⟩
                                       · intro w67 D67
                                         rintro _ rfl _ rfl
                                         show OpOK _ _ _ _ _ _ _
                                         exact ok_pure (ro_indexAddrN BwtLawU_e22 rfl rfl (by omega)) rfl
                                       refine ⟨?_, ?_⟩
                                       · intro w68 D68
                                         rintro _ rfl
                                         show OpOK _ _ _ _ _ _ _
                                         exact ok_pure (ro_fieldAddr BwtLawU_f26_0 rfl) rfl
                                       refine ⟨?_, ?_⟩
                                       · intro w69 D69
                                         rintro _ rfl
                                         show OpOK _ _ _ _ _ _ _
                                         exact ok_pure (ro_load BwtLawU_g24 rfl (by exact cellF (hB.next D69) (hask.cells 0 _ rfl))) rfl
                                       refine ⟨?_, ?_⟩
                                       · intro w70 D70
                                         show OpOK _ _ _ _ _ _ _
                                         exact ok_pure (ro_move (v := .int _ _) rfl) rfl
                                       refine ⟨?_, ?_⟩
                                       · intro w71 D71
                                         show OpOK _ _ _ _ _ _ _
                                         exact ok_pure (ro_move (v := .slice _ _ _) rfl) rfl
                                       refine ⟨?_, ?_⟩
                                       · intro w72 D72
                                         rintro _ rfl
                                         show OpOK _ _ _ _ _ _ _
                                         exact ok_pure (ro_len BwtLawU_l24 rfl) rfl
                                       refine ⟨?_, ?_⟩
                                       · intro w73 D73
                                         rintro _ rfl _ rfl _ rfl
                                         show OpOK _ _ _ _ _ _ _
                                         refine ok_call BwtLawU_k18 ((rank_rt A1 ca L.length Bs.length q Ln _ (by rw [← hLn]; exact hask.rowL.from_ (hB.next D73)) hLl.symm (by omega) (by omega)).mono ?_)
                                         rintro v _ ⟨rfl, E73'⟩; exact ⟨E73', rfl⟩
                                       refine ⟨?_, ?_⟩
                                       · intro w74 D74
                                         rintro _ rfl _ rfl
                                         show OpOK _ _ _ _ _ _ _
                                         exact ok_pure (ro_neq rfl rfl) rfl
                                       exact trivial
                                      case hend =>
                                       intro w75 D75
                                       rintro _ rfl _ rfl _ rfl _ rfl _ rfl _ rfl _ rfl _ rfl _ rfl _ rfl _ rfl _ rfl _ rfl _ rfl _ rfl
                                       show St _ _ _ _ _ _ _
                                       refine st_nil ?_
                                       refine nx_then ?_
                                       refine cd_cond rfl (fun Q76 => ?_) (fun Q76 => ?_)
                                       · (try first | replace Q76 := bn_t Q76 | replace Q76 := bn_f Q76)
                                         (try first | replace Q76 := bx_t Q76 | replace Q76 := bx_f Q76 | replace Q76 := be_t Q76 | replace Q76 := be_f Q76 | replace Q76 := of_decide_eq_true Q76 | replace Q76 := of_decide_eq_false Q76)
                                         first
                                          | (exfalso; first | omega | contradiction | (cases Q76; done))
                                          | skip
                                            refine cd_seq ?_
                                            refine cd_region ?_
                                            refine st_val (ro_assign (v := .bool _) rfl) ?_
                                            refine st_nil ?_
                                            refine nx_then ?_
                                            refine cd_ret ?_
                                            refine rt_block ?_
                                            refine rt_then ?_
                                            refine rt_then ?_
                                            refine rt_block ?_
                                            refine rt_then ?_
                                            refine rt_block ?_
                                            refine rt_then ?_
                                            refine rt_then ?_
                                            refine rt_block ?_
                                            refine rt_then ?_
                                            refine res1 (v := .bool _) rfl rfl ?_
                                            exact ⟨rfl, (hB.next D75)⟩
                                       (try first | replace Q76 := bn_t Q76 | replace Q76 := bn_f Q76)
                                       (try first | replace Q76 := bx_t Q76 | replace Q76 := bx_f Q76 | replace Q76 := be_t Q76 | replace Q76 := be_f Q76 | replace Q76 := of_decide_eq_true Q76 | replace Q76 := of_decide_eq_false Q76)
                                       first
                                        | (exfalso; first | omega | contradiction | (cases Q76; done))
                                        | skip
                                          refine cd_skip ?_
                                          refine nx_block ?_
                                          refine nx_then ?_
                                          refine cd_region ?_
                                          refine st_val (ro_move (v := .int _ _) rfl) ?_
                                          refine st_val (ro_addN (b := 1) rfl rfl (by omega)) ?_
                                          refine st_val (ro_assign (v := .int _ _) rfl) ?_
                                          refine st_nil ?_
                                          refine nx_cut (q + 1) ⟨(by first | rfl | (refine int_eq ?_; omega)), trivial⟩ (by (iterate 41 refine agr_cons rfl ?_); exact agr_rfl) ⟨?_, ?_⟩
                                          · exact ⟨by omega, hrB.from_ (From.rfl_.next D75), (hB.next D75)⟩
                                          · show 20 - (q + 1) < 20 - q; omega
                                 (try first | replace Q58 := bn_t Q58 | replace Q58 := bn_f Q58)
                                 (try first | replace Q58 := bx_t Q58 | replace Q58 := bx_f Q58 | replace Q58 := be_t Q58 | replace Q58 := be_f Q58 | replace Q58 := of_decide_eq_true Q58 | replace Q58 := of_decide_eq_false Q58)
                                 first
                                  | (exfalso; first | omega | contradiction | (cases Q58; done))
                                  | skip
                                    refine cd_exit ?_
                                    refine ex_then ?_
                                    refine ex_then ?_
                                    refine ex_block ?_
                                    refine nx_then ?_
                                    refine cd_seq ?_
                                    refine cd_region ?_
                                    refine st_val (ro_assign (v := .int _ _) rfl) ?_
                                    refine st_nil ?_
                                    refine nx_then ?_
                                    refine cd_block ?_
                                    refine cd_loop (G := Nat) [2, 11, 12, 90, 91, 92, 93, 94, 95, 96, 97, 98, 99, 100, 101, 102, 103, 104, 105, 106, 107, 108, 109, 110, 111, 112, 113, 114, 115, 116, 117, 118, 119, 120, 121, 122] (fun q => [(10, .int .i64 (q : Nat))]) (fun q w' => q ≤ 20 ∧ RowOf iV w' A' (cI Bs) ∧ From w w') (fun q => 20 - q) (0) ⟨rfl, trivial⟩ ?_ ?_
                                    · exact ⟨by omega, hrB.from_ From.rfl_, hB⟩
                                    rintro q ρ77 w77 ⟨hq, hrB, hB⟩
                                    refine cd_seq ?_
                                    refine cd_seq ?_
                                    refine cd_region ?_
                                    refine st_val (ro_move (v := .int _ _) rfl) ?_
                                    refine st_val (ro_move (v := .slice _ _ _) rfl) ?_
                                    refine st_val (ro_len BwtLawU_l24 rfl) ?_
                                    refine st_val (ro_leq rfl rfl) ?_
                                    refine st_val (ro_move (v := .bool _) rfl) ?_
                                    refine st_split (t := 94) rfl (fun Q78 => ?_) (fun Q78 => ?_)
                                    · (try first | replace Q78 := bn_t Q78 | replace Q78 := bn_f Q78)
                                      (try first | replace Q78 := bx_t Q78 | replace Q78 := bx_f Q78 | replace Q78 := be_t Q78 | replace Q78 := be_f Q78 | replace Q78 := of_decide_eq_true Q78 | replace Q78 := of_decide_eq_false Q78)
                                      first
                                       | (exfalso; first | omega | contradiction | (cases Q78; done))
                                       | skip
                                         refine st_unguard rfl ?_
                                         refine st_val (ro_move (v := .int _ _) rfl) ?_
                                         refine st_unguard rfl ?_
                                         refine st_val (ro_lss rfl rfl) ?_
                                         refine st_val (ro_pickT (v := .bool _) rfl rfl) ?_
                                         refine st_nil ?_
                                         refine nx_then ?_
                                         refine cd_cond rfl (fun Q79 => ?_) (fun Q79 => ?_)
                                         · (try first | replace Q79 := bn_t Q79 | replace Q79 := bn_f Q79)
                                           (try first | replace Q79 := bx_t Q79 | replace Q79 := bx_f Q79 | replace Q79 := be_t Q79 | replace Q79 := be_f Q79 | replace Q79 := of_decide_eq_true Q79 | replace Q79 := of_decide_eq_false Q79)
                                           first
                                            | (exfalso; first | omega | contradiction | (cases Q79; done))
                                            | skip
                                              refine cd_skip ?_
                                              refine nx_then ?_
                                              refine cd_seq ?_
                                              refine cd_block ?_
                                              refine cd_seq ?_
                                              refine cd_region ?_
                                              refine st_val (ro_move (v := .int _ _) rfl) ?_
                                              refine st_val (ro_move (v := .slice _ _ _) rfl) ?_
                                              refine st_call BwtLawU_k16 (back_two q A' c' Bs.length (cI Bs) _ (hrB.from_ From.rfl_) (by rw [List.length_map]) (by omega)) ?_
                                              rintro v103 w80 ⟨hs103, E103⟩
                                              rcases hs103 with ⟨l9, A103, c103, hIs, rfl, hr103, hl9⟩ | ⟨hIs, rfl⟩
                                              · refine st_val (ro_move (v := .tuple _) rfl) ?_
                                                refine st_val (ro_extract rfl rfl) ?_
                                                refine st_val (ro_extract rfl rfl) ?_
                                                refine st_val (ro_assign (v := .slice _ _ _) rfl) ?_
                                                refine st_val (ro_assign (v := .int _ _) rfl) ?_
                                                refine st_nil ?_
                                                refine nx_then ?_
                                                refine cd_seq ?_
                                                refine cd_region ?_
                                                refine st_val (ro_move (v := .int _ _) rfl) ?_
                                                refine st_val (ro_move (v := .int _ _) rfl) ?_
                                                refine st_val (ro_neq rfl rfl) ?_
                                                refine st_val (ro_move (v := .bool _) rfl) ?_
                                                refine st_split (t := 109) rfl (fun Q81 => ?_) (fun Q81 => ?_)
                                                · (try first | replace Q81 := bn_t Q81 | replace Q81 := bn_f Q81)
                                                  (try first | replace Q81 := bx_t Q81 | replace Q81 := bx_f Q81 | replace Q81 := be_t Q81 | replace Q81 := be_f Q81 | replace Q81 := of_decide_eq_true Q81 | replace Q81 := of_decide_eq_false Q81)
                                                  first
                                                   | (exfalso; first | omega | contradiction | (cases Q81; done))
                                                   | skip
                                                     refine st_unguard rfl ?_
                                                     refine st_val (ro_move (v := .int _ _) rfl) ?_
                                                     refine st_unguard rfl ?_
                                                     refine st_call BwtLawU_k11 (num_any _ _) ?_
                                                     rintro v111 w82 ⟨rfl, rfl⟩
                                                     refine st_unguard rfl ?_
                                                     refine st_val (ro_eql rfl rfl) ?_
                                                     refine st_val (ro_pickT (v := .bool _) rfl rfl) ?_
                                                     refine st_val (ro_move (v := .bool _) rfl) ?_
                                                     refine st_split (t := 114) rfl (fun Q83 => ?_) (fun Q83 => ?_)
                                                     · (try first | replace Q83 := bn_t Q83 | replace Q83 := bn_f Q83)
                                                       (try first | replace Q83 := bx_t Q83 | replace Q83 := bx_f Q83 | replace Q83 := be_t Q83 | replace Q83 := be_f Q83 | replace Q83 := of_decide_eq_true Q83 | replace Q83 := of_decide_eq_false Q83)
                                                       first
                                                        | (exfalso; first | omega | contradiction | (cases Q83; done))
                                                        | skip
                                                          refine st_unguard rfl ?_
                                                          refine st_val (ro_move (v := .slice _ _ _) rfl) ?_
                                                          refine st_unguard rfl ?_
                                                          refine st_val (ro_move (v := .slice _ _ _) rfl) ?_
                                                          refine st_unguard rfl ?_
                                                          refine st_val (ro_move (v := .int _ _) rfl) ?_
                                                          refine st_unguard rfl ?_
                                                          refine st_val (ro_indexAddrN BwtLawU_e22 rfl rfl (by omega)) ?_
                                                          refine st_unguard rfl ?_
                                                          refine st_val (ro_fieldAddr BwtLawU_f26_0 rfl) ?_
                                                          refine st_unguard rfl ?_
                                                          refine st_val (ro_load BwtLawU_g24 rfl (by exact cellF (hB.next E103) (hask.cells 0 _ rfl))) ?_
                                                          refine st_unguard rfl ?_
                                                          refine st_call BwtLawU_k13 (eq_n A103 A1 c103 ca l9.length L.length (cI l9) L _ hr103 (hask.rowL.from_ (hB.next E103)) (by rw [List.length_map]) rfl (by omega)) ?_
                                                          rintro v121 w84 ⟨rfl, E121⟩
                                                          refine st_val (ro_pickT (v := .bool _) rfl rfl) ?_
                                                          refine st_nil ?_
                                                          refine nx_then ?_
                                                          refine cd_cond rfl (fun Q85 => ?_) (fun Q85 => ?_)
                                                          · (try first | replace Q85 := bn_t Q85 | replace Q85 := bn_f Q85)
                                                            (try first | replace Q85 := bx_t Q85 | replace Q85 := bx_f Q85 | replace Q85 := be_t Q85 | replace Q85 := be_f Q85 | replace Q85 := of_decide_eq_true Q85 | replace Q85 := of_decide_eq_false Q85)
                                                            have hno := back_other rfl hbw hIs rfl (by omega)
                                                            rw [← hLn] at hno
                                                            first
                                                             | (exfalso; first | omega | contradiction | (cases Q85; done))
                                                             | skip
                                                               refine cd_seq ?_
                                                               refine cd_region ?_
                                                               refine st_val (ro_assign (v := .bool _) rfl) ?_
                                                               refine st_nil ?_
                                                               refine nx_then ?_
                                                               refine cd_ret ?_
                                                               refine rt_block ?_
                                                               refine rt_then ?_
                                                               refine rt_then ?_
                                                               refine rt_block ?_
                                                               refine rt_block ?_
                                                               refine rt_then ?_
                                                               refine rt_then ?_
                                                               refine rt_block ?_
                                                               refine rt_then ?_
                                                               refine res1 (v := .bool _) rfl rfl ?_
                                                               exact ⟨rfl, ((hB.next E103).next E121)⟩
                                                          (try first | replace Q85 := bn_t Q85 | replace Q85 := bn_f Q85)
                                                          (try first | replace Q85 := bx_t Q85 | replace Q85 := bx_f Q85 | replace Q85 := be_t Q85 | replace Q85 := be_f Q85 | replace Q85 := of_decide_eq_true Q85 | replace Q85 := of_decide_eq_false Q85)
                                                          first
                                                           | (exfalso; first | omega | contradiction | (cases Q85; done))
                                                           | skip
                                                             refine cd_skip ?_
                                                             refine nx_block ?_
                                                             refine nx_then ?_
                                                             refine cd_region ?_
                                                             refine st_val (ro_move (v := .int _ _) rfl) ?_
                                                             refine st_val (ro_addN (b := 1) rfl rfl (by omega)) ?_
                                                             refine st_val (ro_assign (v := .int _ _) rfl) ?_
                                                             refine st_nil ?_
                                                             refine nx_cut (q + 1) ⟨(by first | rfl | (refine int_eq ?_; omega)), trivial⟩ (by (iterate 76 refine agr_cons rfl ?_); exact agr_rfl) ⟨?_, ?_⟩
                                                             · exact ⟨by omega, hrB.from_ ((From.rfl_.next E103).next E121), ((hB.next E103).next E121)⟩
                                                             · show 20 - (q + 1) < 20 - q; omega
                                                     · (try first | replace Q83 := bn_t Q83 | replace Q83 := bn_f Q83)
                                                       (try first | replace Q83 := bx_t Q83 | replace Q83 := bx_f Q83 | replace Q83 := be_t Q83 | replace Q83 := be_f Q83 | replace Q83 := of_decide_eq_true Q83 | replace Q83 := of_decide_eq_false Q83)
                                                       first
                                                        | (exfalso; first | omega | contradiction | (cases Q83; done))
                                                        | skip
                                                          refine st_gno rfl rfl ?_
                                                          refine st_gno rfl rfl ?_
                                                          refine st_gno rfl rfl ?_
                                                          refine st_gno rfl rfl ?_
                                                          refine st_gno rfl rfl ?_
                                                          refine st_gno rfl rfl ?_
                                                          refine st_gno rfl rfl ?_
                                                          refine st_val (ro_pickF (v := .bool _) rfl rfl) ?_
                                                          refine st_nil ?_
                                                          refine nx_then ?_
                                                          refine cd_condF rfl ?_
                                                          refine cd_skip ?_
                                                          refine nx_block ?_
                                                          refine nx_then ?_
                                                          refine cd_region ?_
                                                          refine st_val (ro_move (v := .int _ _) rfl) ?_
                                                          refine st_val (ro_addN (b := 1) rfl rfl (by omega)) ?_
                                                          refine st_val (ro_assign (v := .int _ _) rfl) ?_
                                                          refine st_nil ?_
                                                          refine nx_cut (q + 1) ⟨(by first | rfl | (refine int_eq ?_; omega)), trivial⟩ (by (iterate 76 refine agr_cons rfl ?_); exact agr_rfl) ⟨?_, ?_⟩
                                                          · exact ⟨by omega, hrB.from_ (From.rfl_.next E103), (hB.next E103)⟩
                                                          · show 20 - (q + 1) < 20 - q; omega
                                                · (try first | replace Q81 := bn_t Q81 | replace Q81 := bn_f Q81)
                                                  (try first | replace Q81 := bx_t Q81 | replace Q81 := bx_f Q81 | replace Q81 := be_t Q81 | replace Q81 := be_f Q81 | replace Q81 := of_decide_eq_true Q81 | replace Q81 := of_decide_eq_false Q81)
                                                  first
                                                   | (exfalso; first | omega | contradiction | (cases Q81; done))
                                                   | skip
                                                     refine st_gno rfl rfl ?_
                                                     refine st_gno rfl rfl ?_
                                                     refine st_gno rfl rfl ?_
                                                     refine st_val (ro_pickF (v := .bool _) rfl rfl) ?_
                                                     refine st_val (ro_move (v := .bool _) rfl) ?_
                                                     refine st_gno rfl rfl ?_
                                                     refine st_gno rfl rfl ?_
                                                     refine st_gno rfl rfl ?_
                                                     refine st_gno rfl rfl ?_
                                                     refine st_gno rfl rfl ?_
                                                     refine st_gno rfl rfl ?_
                                                     refine st_gno rfl rfl ?_
                                                     refine st_val (ro_pickF (v := .bool _) rfl rfl) ?_
                                                     refine st_nil ?_
                                                     refine nx_then ?_
                                                     refine cd_condF rfl ?_
                                                     refine cd_skip ?_
                                                     refine nx_block ?_
                                                     refine nx_then ?_
                                                     refine cd_region ?_
                                                     refine st_val (ro_move (v := .int _ _) rfl) ?_
                                                     refine st_val (ro_addN (b := 1) rfl rfl (by omega)) ?_
                                                     refine st_val (ro_assign (v := .int _ _) rfl) ?_
                                                     refine st_nil ?_
                                                     refine nx_cut (q + 1) ⟨(by first | rfl | (refine int_eq ?_; omega)), trivial⟩ (by (iterate 75 refine agr_cons rfl ?_); exact agr_rfl) ⟨?_, ?_⟩
                                                     · exact ⟨by omega, hrB.from_ (From.rfl_.next E103), (hB.next E103)⟩
                                                     · show 20 - (q + 1) < 20 - q; omega
                                              · refine st_val (ro_move (v := .tuple _) rfl) ?_
                                                refine st_val (ro_extract rfl rfl) ?_
                                                refine st_val (ro_extract rfl rfl) ?_
                                                refine st_val (ro_assign (v := .slice _ _ _) rfl) ?_
                                                refine st_val (ro_assign (v := .int _ _) rfl) ?_
                                                refine st_nil ?_
                                                refine nx_then ?_
                                                refine cd_seq ?_
                                                refine cd_region ?_
                                                refine st_val (ro_move (v := .int _ _) rfl) ?_
                                                refine st_val (ro_move (v := .int _ _) rfl) ?_
                                                refine st_val (ro_neq rfl rfl) ?_
                                                refine st_val (ro_move (v := .bool _) rfl) ?_
                                                refine st_split (t := 109) rfl (fun Q86 => ?_) (fun Q86 => ?_)
                                                · (try first | replace Q86 := bn_t Q86 | replace Q86 := bn_f Q86)
                                                  (try first | replace Q86 := bx_t Q86 | replace Q86 := bx_f Q86 | replace Q86 := be_t Q86 | replace Q86 := be_f Q86 | replace Q86 := of_decide_eq_true Q86 | replace Q86 := of_decide_eq_false Q86)
                                                  first
                                                   | (exfalso; first | omega | contradiction | (cases Q86; done))
                                                   | skip
                                                     refine st_unguard rfl ?_
                                                     refine st_val (ro_move (v := .int _ _) rfl) ?_
                                                     refine st_unguard rfl ?_
                                                     refine st_call BwtLawU_k11 (num_any _ _) ?_
                                                     rintro v111 w87 ⟨rfl, rfl⟩
                                                     refine st_unguard rfl ?_
                                                     refine st_val (ro_eql rfl rfl) ?_
                                                     refine st_val (ro_pickT (v := .bool _) rfl rfl) ?_
                                                     refine st_val (ro_move (v := .bool _) rfl) ?_
                                                     refine st_split (t := 114) rfl (fun Q88 => ?_) (fun Q88 => ?_)
                                                     · (try first | replace Q88 := bn_t Q88 | replace Q88 := bn_f Q88)
                                                       (try first | replace Q88 := bx_t Q88 | replace Q88 := bx_f Q88 | replace Q88 := be_t Q88 | replace Q88 := be_f Q88 | replace Q88 := of_decide_eq_true Q88 | replace Q88 := of_decide_eq_false Q88)
                                                       first
                                                        | (exfalso; first | omega | contradiction | (cases Q88; done))
                                                        | skip
                                                          refine st_unguard rfl ?_
                                                          refine st_val (ro_move (v := .slice _ _ _) rfl) ?_
                                                          refine st_unguard rfl ?_
                                                          refine st_val (ro_move (v := .slice _ _ _) rfl) ?_
                                                          refine st_unguard rfl ?_
                                                          refine st_val (ro_move (v := .int _ _) rfl) ?_
                                                          refine st_unguard rfl ?_
                                                          refine st_val (ro_indexAddrN BwtLawU_e22 rfl rfl (by omega)) ?_
                                                          refine st_unguard rfl ?_
                                                          refine st_val (ro_fieldAddr BwtLawU_f26_0 rfl) ?_
                                                          refine st_unguard rfl ?_
                                                          refine st_val (ro_load BwtLawU_g24 rfl (by exact cellF (hB.next E103) (hask.cells 0 _ rfl))) ?_
                                                          refine st_unguard rfl ?_
                                                          refine st_call BwtLawU_k13 (eq_n A103 A1 c103 ca l9.length L.length (cI l9) L _ hr103 (hask.rowL.from_ (hB.next E103)) (by rw [List.length_map]) rfl (by omega)) ?_
                                                          rintro v121 w89 ⟨rfl, E121⟩
                                                          refine st_val (ro_pickT (v := .bool _) rfl rfl) ?_
                                                          refine st_nil ?_
                                                          refine nx_then ?_
                                                          refine cd_cond rfl (fun Q90 => ?_) (fun Q90 => ?_)
                                                          · (try first | replace Q90 := bn_t Q90 | replace Q90 := bn_f Q90)
                                                            (try first | replace Q90 := bx_t Q90 | replace Q90 := bx_f Q90 | replace Q90 := be_t Q90 | replace Q90 := be_f Q90 | replace Q90 := of_decide_eq_true Q90 | replace Q90 := of_decide_eq_false Q90)
                                                            have hno := back_other rfl hbw hIs rfl (by omega)
                                                            rw [← hLn] at hno
                                                            first
                                                             | (exfalso; first | omega | contradiction | (cases Q90; done))
                                                             | skip
                                                               refine cd_seq ?_
                                                               refine cd_region ?_
                                                               refine st_val (ro_assign (v := .bool _) rfl) ?_
                                                               refine st_nil ?_
                                                               refine nx_then ?_
                                                               refine cd_ret ?_
                                                               refine rt_block ?_
                                                               refine rt_then ?_
                                                               refine rt_then ?_
                                                               refine rt_block ?_
                                                               refine rt_block ?_
                                                               refine rt_then ?_
                                                               refine rt_then ?_
                                                               refine rt_block ?_
                                                               refine rt_then ?_
                                                               refine res1 (v := .bool _) rfl rfl ?_
                                                               exact ⟨rfl, ((hB.next E103).next E121)⟩
                                                          (try first | replace Q90 := bn_t Q90 | replace Q90 := bn_f Q90)
                                                          (try first | replace Q90 := bx_t Q90 | replace Q90 := bx_f Q90 | replace Q90 := be_t Q90 | replace Q90 := be_f Q90 | replace Q90 := of_decide_eq_true Q90 | replace Q90 := of_decide_eq_false Q90)
                                                          first
                                                           | (exfalso; first | omega | contradiction | (cases Q90; done))
                                                           | skip
                                                             refine cd_skip ?_
                                                             refine nx_block ?_
                                                             refine nx_then ?_
                                                             refine cd_region ?_
                                                             refine st_val (ro_move (v := .int _ _) rfl) ?_
                                                             refine st_val (ro_addN (b := 1) rfl rfl (by omega)) ?_
                                                             refine st_val (ro_assign (v := .int _ _) rfl) ?_
                                                             refine st_nil ?_
                                                             refine nx_cut (q + 1) ⟨(by first | rfl | (refine int_eq ?_; omega)), trivial⟩ (by (iterate 76 refine agr_cons rfl ?_); exact agr_rfl) ⟨?_, ?_⟩
                                                             · exact ⟨by omega, hrB.from_ ((From.rfl_.next E103).next E121), ((hB.next E103).next E121)⟩
                                                             · show 20 - (q + 1) < 20 - q; omega
                                                     · (try first | replace Q88 := bn_t Q88 | replace Q88 := bn_f Q88)
                                                       (try first | replace Q88 := bx_t Q88 | replace Q88 := bx_f Q88 | replace Q88 := be_t Q88 | replace Q88 := be_f Q88 | replace Q88 := of_decide_eq_true Q88 | replace Q88 := of_decide_eq_false Q88)
                                                       first
                                                        | (exfalso; first | omega | contradiction | (cases Q88; done))
                                                        | skip
                                                          refine st_gno rfl rfl ?_
                                                          refine st_gno rfl rfl ?_
                                                          refine st_gno rfl rfl ?_
                                                          refine st_gno rfl rfl ?_
                                                          refine st_gno rfl rfl ?_
                                                          refine st_gno rfl rfl ?_
                                                          refine st_gno rfl rfl ?_
                                                          refine st_val (ro_pickF (v := .bool _) rfl rfl) ?_
                                                          refine st_nil ?_
                                                          refine nx_then ?_
                                                          refine cd_condF rfl ?_
                                                          refine cd_skip ?_
                                                          refine nx_block ?_
                                                          refine nx_then ?_
                                                          refine cd_region ?_
                                                          refine st_val (ro_move (v := .int _ _) rfl) ?_
                                                          refine st_val (ro_addN (b := 1) rfl rfl (by omega)) ?_
                                                          refine st_val (ro_assign (v := .int _ _) rfl) ?_
                                                          refine st_nil ?_
                                                          refine nx_cut (q + 1) ⟨(by first | rfl | (refine int_eq ?_; omega)), trivial⟩ (by (iterate 76 refine agr_cons rfl ?_); exact agr_rfl) ⟨?_, ?_⟩
                                                          · exact ⟨by omega, hrB.from_ (From.rfl_.next E103), (hB.next E103)⟩
                                                          · show 20 - (q + 1) < 20 - q; omega
                                                · (try first | replace Q86 := bn_t Q86 | replace Q86 := bn_f Q86)
                                                  (try first | replace Q86 := bx_t Q86 | replace Q86 := bx_f Q86 | replace Q86 := be_t Q86 | replace Q86 := be_f Q86 | replace Q86 := of_decide_eq_true Q86 | replace Q86 := of_decide_eq_false Q86)
                                                  first
                                                   | (exfalso; first | omega | contradiction | (cases Q86; done))
                                                   | skip
                                                     refine st_gno rfl rfl ?_
                                                     refine st_gno rfl rfl ?_
                                                     refine st_gno rfl rfl ?_
                                                     refine st_val (ro_pickF (v := .bool _) rfl rfl) ?_
                                                     refine st_val (ro_move (v := .bool _) rfl) ?_
                                                     refine st_gno rfl rfl ?_
                                                     refine st_gno rfl rfl ?_
                                                     refine st_gno rfl rfl ?_
                                                     refine st_gno rfl rfl ?_
                                                     refine st_gno rfl rfl ?_
                                                     refine st_gno rfl rfl ?_
                                                     refine st_gno rfl rfl ?_
                                                     refine st_val (ro_pickF (v := .bool _) rfl rfl) ?_
                                                     refine st_nil ?_
                                                     refine nx_then ?_
                                                     refine cd_condF rfl ?_
                                                     refine cd_skip ?_
                                                     refine nx_block ?_
                                                     refine nx_then ?_
                                                     refine cd_region ?_
                                                     refine st_val (ro_move (v := .int _ _) rfl) ?_
                                                     refine st_val (ro_addN (b := 1) rfl rfl (by omega)) ?_
                                                     refine st_val (ro_assign (v := .int _ _) rfl) ?_
                                                     refine st_nil ?_
                                                     refine nx_cut (q + 1) ⟨(by first | rfl | (refine int_eq ?_; omega)), trivial⟩ (by (iterate 75 refine agr_cons rfl ?_); exact agr_rfl) ⟨?_, ?_⟩
                                                     · exact ⟨by omega, hrB.from_ (From.rfl_.next E103), (hB.next E103)⟩
                                                     · show 20 - (q + 1) < 20 - q; omega
                                         (try first | replace Q79 := bn_t Q79 | replace Q79 := bn_f Q79)
                                         (try first | replace Q79 := bx_t Q79 | replace Q79 := bx_f Q79 | replace Q79 := be_t Q79 | replace Q79 := be_f Q79 | replace Q79 := of_decide_eq_true Q79 | replace Q79 := of_decide_eq_false Q79)
                                         first
                                          | (exfalso; first | omega | contradiction | (cases Q79; done))
                                          | skip
                                            refine cd_exit ?_
                                            refine ex_then ?_
                                            refine ex_then ?_
                                            refine ex_block ?_
                                            refine nx_block ?_
                                            refine nx_then ?_
                                            refine cd_region ?_
                                            refine st_val (ro_move (v := .int _ _) rfl) ?_
                                            refine st_val (ro_addN (b := 1) rfl rfl (by omega)) ?_
                                            refine st_val (ro_assign (v := .int _ _) rfl) ?_
                                            refine st_nil ?_
                                            refine nx_cut (k + 1) ⟨(by first | rfl | (refine int_eq ?_; omega)), trivial⟩ (by (iterate 259 refine agr_cons rfl ?_); exact agr_rfl) ⟨?_, ?_⟩
                                            · exact ⟨by omega, hB⟩
                                            · show xs.length - (k + 1) < xs.length - k; omega
                                    · (try first | replace Q78 := bn_t Q78 | replace Q78 := bn_f Q78)
                                      (try first | replace Q78 := bx_t Q78 | replace Q78 := bx_f Q78 | replace Q78 := be_t Q78 | replace Q78 := be_f Q78 | replace Q78 := of_decide_eq_true Q78 | replace Q78 := of_decide_eq_false Q78)
                                      first
                                       | (exfalso; first | omega | contradiction | (cases Q78; done))
                                       | skip
                                         refine st_gno rfl rfl ?_
                                         refine st_gno rfl rfl ?_
                                         refine st_val (ro_pickF (v := .bool _) rfl rfl) ?_
                                         refine st_nil ?_
                                         refine nx_then ?_
                                         refine cd_condF rfl ?_
                                         refine cd_exit ?_
                                         refine ex_then ?_
                                         refine ex_then ?_
                                         refine ex_block ?_
                                         refine nx_block ?_
                                         refine nx_then ?_
                                         refine cd_region ?_
                                         refine st_val (ro_move (v := .int _ _) rfl) ?_
                                         refine st_val (ro_addN (b := 1) rfl rfl (by omega)) ?_
                                         refine st_val (ro_assign (v := .int _ _) rfl) ?_
                                         refine st_nil ?_
                                         refine nx_cut (k + 1) ⟨(by first | rfl | (refine int_eq ?_; omega)), trivial⟩ (by (iterate 259 refine agr_cons rfl ?_); exact agr_rfl) ⟨?_, ?_⟩
                                         · exact ⟨by omega, hB⟩
                                         · show xs.length - (k + 1) < xs.length - k; omega
       (try first | replace Q3 := bn_t Q3 | replace Q3 := bn_f Q3)
       (try first | replace Q3 := bx_t Q3 | replace Q3 := bx_f Q3 | replace Q3 := be_t Q3 | replace Q3 := be_f Q3 | replace Q3 := of_decide_eq_true Q3 | replace Q3 := of_decide_eq_false Q3)
       first
        | (exfalso; first | omega | contradiction | (cases Q3; done))
        | skip
          refine cd_exit ?_
          refine ex_then ?_
          refine ex_then ?_
          refine ex_block ?_
          refine nx_then ?_
          refine cd_seq ?_
          refine cd_region ?_
          refine st_call BwtLawU_k15 (wakes_rt _) ?_
          rintro v123 w91 ⟨rfl, E123⟩
          refine st_val (ro_assign (v := .bool _) rfl) ?_
          refine st_nil ?_
          refine nx_then ?_
          refine cd_ret ?_
          refine res1 (v := .bool _) rfl rfl ?_
          exact ⟨rfl, (hB.next E123)⟩
  · (try first | replace Q2 := bn_t Q2 | replace Q2 := bn_f Q2)
    (try first | replace Q2 := bx_t Q2 | replace Q2 := bx_f Q2 | replace Q2 := be_t Q2 | replace Q2 := be_f Q2 | replace Q2 := of_decide_eq_true Q2 | replace Q2 := of_decide_eq_false Q2)
    first
     | (exfalso; first | omega | contradiction | (cases Q2; done))
     | skip
       refine st_gno rfl rfl ?_
       refine st_gno rfl rfl ?_
       refine st_val (ro_pickF (v := .bool _) rfl rfl) ?_
       refine st_nil ?_
       refine nx_then ?_
       refine cd_condF rfl ?_
       refine cd_exit ?_
       refine ex_then ?_
       refine ex_then ?_
       refine ex_block ?_
       refine nx_then ?_
       refine cd_seq ?_
       refine cd_region ?_
       refine st_call BwtLawU_k15 (wakes_rt _) ?_
       rintro v123 w92 ⟨rfl, E123⟩
       refine st_val (ro_assign (v := .bool _) rfl) ?_
       refine st_nil ?_
       refine nx_then ?_
       refine cd_ret ?_
       refine res1 (v := .bool _) rfl rfl ?_
       exact ⟨rfl, (hB.next E123)⟩
set_option maxRecDepth 100000 in
theorem BwtUndo_lifted (os : Os) (started : os.Started) (H : Type) (enc : TypeId × Value → H) :
    ReturnsInHanded {} Try.checked os 5 .any (Rows.bwtUndoSpec.pre6 enc Try.prog Try.f5 Rows.bwtUndoRow.domain false) (Rows.bwtUndoSpec.post enc Try.prog Try.f5 false true false false) := by
  refine returnsInHanded_of_change_sized (C := Try.checked) Try.own started (by kernel_rfl) Try.func5
    (ChangeSpec.witness6 (enc := enc) (C := Try.checked) false ⟨#[], #[.slice none 0 0], []⟩ 8 (by kernel_rfl) (by kernel_rfl) (by kernel_rfl) (by kernel_rfl)) ?_
  intro W base args ds gs before hval hW _ hsz _
  exact law_step 5 Try.f5 22 4 Rows.bwtUndoSpec Try.params5 (by kernel_rfl) Try.underlying4 rfl (fun _ => rfl) (by kernel_rfl) (of_decide_eq_true (by kernel_rfl)) (walk_sl askT5 (by kernel_rfl) undo_law) W base args ds gs before hval hW hsz

theorem BwtUndo_holds : Rows.BwtUndoSaid :=
  OpenClaim.holds_of_wide 5 Try.f5 rfl rfl rfl rfl rfl rfl rfl ⟨rfl, rfl, rfl, rfl, rfl⟩ rfl rfl rfl rfl rfl (by kernel_rfl) Try.func5 (by kernel_rfl)
    (of_decide_eq_true (by kernel_rfl)) (by unfold Func.isWrapper; first | (rw [if_pos (by decide +kernel)]; kernel_rfl) | (rw [if_neg (by decide +kernel)]; exact ⟨rfl, rfl⟩))
    (fun os started H enc _ => BwtUndo_lifted os started H enc)
#print axioms BwtUndo_holds

end Go.Proofs.Ytpafbgdbjambgaa
