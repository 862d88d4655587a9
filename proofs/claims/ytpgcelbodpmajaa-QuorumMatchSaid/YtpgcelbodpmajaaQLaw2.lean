/- The law QuorumMatch. -/
import Derived.Test.YtpgcelbodpmajaaQLaw
namespace Go.Proofs.Ytpgcelbodpmajaa
open Go.RowKit
open Go.ChangeShapes Go.WideShapes Go.ChangeAt
theorem QLaw2_l22 : (elemQ Try.prog 22).isSome = true := by kernel_rfl
theorem QLaw2_e22 : elemQ Try.prog 22 = some (25, 3) := by kernel_rfl
theorem QLaw2_g25 : aggQ Try.prog 25 = some true := by kernel_rfl
theorem QLaw2_z25 : sizeQ Try.prog 25 = some 3 := by kernel_rfl
theorem QLaw2_o25 : zeroQ Try.prog 25 = some (.agg #[.int .i64 0, .slice none 0 0, .slice none 0 0]) := by kernel_rfl
theorem QLaw2_k6 : callable Try.prog 6 = true := by kernel_rfl
theorem QLaw2_f25_2 : fieldQ Try.prog 25 2 = some 2 := by kernel_rfl
theorem QLaw2_g23 : aggQ Try.prog 23 = some false := by kernel_rfl
theorem QLaw2_k13 : callable Try.prog 13 = true := by kernel_rfl
theorem QLaw2_k9 : callable Try.prog 9 = true := by kernel_rfl
theorem QLaw2_l23 : (elemQ Try.prog 23).isSome = true := by kernel_rfl
theorem QLaw2_e23 : elemQ Try.prog 23 = some (3, 1) := by kernel_rfl
theorem QLaw2_g3 : aggQ Try.prog 3 = some false := by kernel_rfl
theorem QLaw2_q23 : litQ Try.prog 23 = some (3, 1, 8, (.int .i64 0)) := by kernel_rfl
theorem QLaw2_k16 : callable Try.prog 16 = true := by kernel_rfl
theorem QLaw2_k14 : callable Try.prog 14 = true := by kernel_rfl
theorem idV_fit {M : List Int} (h : Fit M) : idV M = med M := if_pos h
theorem ieV_fit {M : List Int} (h : Fit M) : ieV M = 0 := if_pos h
theorem fit_of {M : List Int} (h : ieV M = 0) : Fit M := by
  unfold ieV at h
  split at h
  · assumption
  · cases h
theorem index_rev (n : Nat) (A : Option Addr) (c : Nat) (M : List Int) (w : World) (hr : RowOf iV w A M.reverse) (hn : M.length = n) (hF : Fit M) : Rt Try.prog 13 [.slice A n c] w fun v w' => v = .tuple #[.int .i64 (idV M), .int .i64 0] ∧ From w w' := by
  refine Rt.mono (index_n n A c M.reverse w hr (by simpa using hn)) fun v w' h => ⟨?_, h.2⟩
  rw [h.1, idV_fit hF, idV_fit (fit_rev hF), ieV_fit (fit_rev hF), med_rev hF.1]
theorem cnt_above {M : List Int} (h : 1 ≤ M.length) : 2 * M.countP (fun y => decide (med M < y)) ≤ M.length := by
  have h1 := cnt_high h (show med M < med M + 1 by omega)
  have h2 : M.countP (fun y => decide (med M < y)) = cnt M (med M + 1) := by
    unfold cnt
    apply List.countP_congr
    intro y _
    simp only [decide_eq_true_eq]
    omega
  omega
theorem rev_at {M : List Int} {k : Nat} (h : k < M.length) : (M.reverse.take (k + 1)).map iV = (M.reverse.take k).map iV ++ [iV (M[M.length - 1 - k]'(by omega))] := by
  rw [map_take_succ iV (by simpa using h), List.getElem_reverse]
set_option maxRecDepth 100000 in
set_option maxHeartbeats 4000000 in
theorem match_law (A : Option Addr) (c : Nat) (xs : List askT.den) (w : World) (hl : xs.length * askT.bytes ≤ 140737488351232) (hel : 0 < xs.length → ∃ b o, A = some ⟨b, o, none⟩ ∧ ∀ (i : Nat) (hi : i < xs.length), askT.At w (fun j => w.cell? ⟨b, o + i * askT.size + j, none⟩) xs[i]) :
    Rt Try.prog 5 [.slice A xs.length c] w (fun v w' => v = .bool true ∧ From w w') := by
  have hlen : xs.length * 56 ≤ 140737488351232 := hl
  refine enter (n := 113) Try.func5 rfl rfl rfl ?_
  refine cd_seq ?_
  refine cd_region ?_
  refine st_val (ro_assign (v := .bool _) rfl) ?_
  refine st_nil ?_
  refine nx_then ?_
  refine cd_seq ?_
  refine cd_seq ?_
  refine cd_region ?_
  refine st_val (ro_assign (v := .int _ _) rfl) ?_
  refine st_nil ?_
  refine nx_then ?_
  refine cd_block ?_
  refine cd_loop (G := Nat) [2, 4, 5, 6, 7, 8, 9, 10, 11, 12, 13, 14, 15, 16, 17, 18, 19, 20, 21, 22, 23, 24, 25, 26, 27, 28, 29, 30, 31, 32, 33, 34, 35, 36, 37, 38, 39, 40, 41, 42, 43, 44, 45, 46, 47, 48, 49, 50, 51, 52, 53, 54, 55, 56, 57, 58, 59, 60, 61, 62, 63, 64, 65, 66, 67, 68, 69, 70, 71, 72, 73, 74, 75, 76, 77, 78, 79, 80, 81, 82, 83, 84, 85, 86, 87, 88, 89, 90, 91, 92, 93, 94, 95, 96, 97, 98, 99, 100, 101, 102, 103, 104, 105, 106, 107, 108, 109, 110, 111] (fun k => [(3, .int .i64 (k : Nat))]) (fun k w' => k ≤ xs.length ∧ From w w') (fun k => xs.length - k) (0) ⟨rfl, trivial⟩ ?_ ?_
  · exact ⟨Nat.zero_le _, From.rfl_⟩
  rintro k ρ1 w1 ⟨hk, hB⟩
  refine cd_seq ?_
  refine cd_seq ?_
  refine cd_region ?_
  refine st_val (ro_move (v := .int _ _) rfl) ?_
  refine st_val (ro_move (v := .slice _ _ _) rfl) ?_
  refine st_val (ro_len QLaw2_l22 rfl) ?_
  refine st_val (ro_lss rfl rfl) ?_
  refine st_val (ro_move (v := .bool _) rfl) ?_
  refine st_split (t := 17) rfl (fun Q2 => ?_) (fun Q2 => ?_)
  · (try first | replace Q2 := bn_t Q2 | replace Q2 := bn_f Q2)
    (try first | replace Q2 := bx_t Q2 | replace Q2 := bx_f Q2 | replace Q2 := be_t Q2 | replace Q2 := be_f Q2 | replace Q2 := of_decide_eq_true Q2 | replace Q2 := of_decide_eq_false Q2)
    first
     | (exfalso; first | omega | contradiction | (cases Q2; done))
     | skip
       refine st_unguard rfl ?_
       refine st_val (ro_move (v := .int _ _) rfl) ?_
       refine st_unguard rfl ?_
       refine st_val (ro_lss rfl rfl) ?_
       refine st_val (ro_pickT (v := .bool _) rfl rfl) ?_
       refine st_nil ?_
       refine nx_then ?_
       refine cd_cond rfl (fun Q3 => ?_) (fun Q3 => ?_)
       · (try first | replace Q3 := bn_t Q3 | replace Q3 := bn_f Q3)
         (try first | replace Q3 := bx_t Q3 | replace Q3 := bx_f Q3 | replace Q3 := be_t Q3 | replace Q3 := be_f Q3 | replace Q3 := of_decide_eq_true Q3 | replace Q3 := of_decide_eq_false Q3)
         obtain ⟨b, o, rfl, hel2⟩ := hel (by omega)
         obtain ⟨N, A1, ca, L, A2, cb, M, hask⟩ := ask_at (hel2 k (by omega))
         have hlL := hask.lenL
         have hlM := hask.lenM
         first
          | (exfalso; first | omega | contradiction | (cases Q3; done))
          | skip
            refine cd_skip ?_
            refine nx_then ?_
            refine cd_seq ?_
            refine cd_block ?_
            refine cd_seq ?_
            refine cd_region ?_
            refine st_val (ro_move (v := .slice _ _ _) rfl) ?_
            refine st_val (ro_move (v := .int _ _) rfl) ?_
            refine st_val (ro_indexAddr QLaw2_e22 rfl rfl (by omega)) ?_
            refine st_val (ro_loadA (cs := [_, _, _]) QLaw2_g25 QLaw2_z25 rfl (by exact rangeF hB hask.cells)) ?_
            refine st_alloc QLaw2_o25 ?_
            intro b4 w4 E4 hb4 hk4
            refine st_putW (vs := [_, _, _]) QLaw2_z25 rfl rfl (by simp [Value.oneCell']) (hk4) rfl ?_
            intro w5 O4 P4
            refine st_nil ?_
            refine nx_then ?_
            refine cd_seq ?_
            refine cd_seq ?_
            refine cd_region ?_
            refine st_val (ro_loadA (cs := [_, _, _]) QLaw2_g25 QLaw2_z25 rfl (by exact P4.whole)) ?_
            refine st_call QLaw2_k6 (heavy_any N A1 A2 L.length ca M.length cb _ ⟨by omega, by omega⟩) ?_
            rintro v28 w6 ⟨rfl, E28⟩
            refine st_nil ?_
            refine nx_then ?_
            refine cd_cond rfl (fun Q7 => ?_) (fun Q7 => ?_)
            · (try first | replace Q7 := bn_t Q7 | replace Q7 := bn_f Q7)
              (try first | replace Q7 := bx_t Q7 | replace Q7 := bx_f Q7 | replace Q7 := be_t Q7 | replace Q7 := be_f Q7 | replace Q7 := of_decide_eq_true Q7 | replace Q7 := of_decide_eq_false Q7)
              first
               | (exfalso; first | omega | contradiction | (cases Q7; done))
               | skip
                 refine cd_seq ?_
                 refine cd_region ?_
                 refine st_val (ro_assign (v := .bool _) rfl) ?_
                 refine st_nil ?_
                 refine nx_then ?_
                 refine cd_ret ?_
                 refine rt_then ?_
                 refine rt_block ?_
                 refine rt_then ?_
                 refine rt_then ?_
                 refine rt_block ?_
                 refine rt_then ?_
                 refine res1 (v := .bool _) rfl rfl ?_
                 exact ⟨rfl, (((hB.next E4).only O4 (by rw [hb4]; exact hB.size)).next E28)⟩
            · (try first | replace Q7 := bn_t Q7 | replace Q7 := bn_f Q7)
              (try first | replace Q7 := bx_t Q7 | replace Q7 := bx_f Q7 | replace Q7 := be_t Q7 | replace Q7 := be_f Q7 | replace Q7 := of_decide_eq_true Q7 | replace Q7 := of_decide_eq_false Q7)
              first
               | (exfalso; first | omega | contradiction | (cases Q7; done))
               | skip
                 refine cd_skip ?_
                 refine nx_then ?_
                 refine cd_seq ?_
                 refine cd_region ?_
                 refine st_val (ro_fieldAddr QLaw2_f25_2 rfl) ?_
                 refine st_val (ro_load QLaw2_g23 rfl (by first | (first | exact (P4.from_ (From.rfl_.next E28)).rd 0 rfl | exact (P4.from_ (From.rfl_.next E28)).rd 1 rfl | exact (P4.from_ (From.rfl_.next E28)).rd 2 rfl))) ?_
                 refine st_call QLaw2_k13 (index_n M.length A2 cb M _ (hask.rowM.from_ (((hB.next E4).only O4 (by rw [hb4]; exact hB.size)).next E28)) rfl) ?_
                 rintro v32 w8 ⟨rfl, E32⟩
                 replace P4 := P4.from_ ((From.rfl_.next E28).next E32)
                 refine st_val (ro_move (v := .tuple _) rfl) ?_
                 refine st_val (ro_extract rfl rfl) ?_
                 refine st_val (ro_extract rfl rfl) ?_
                 refine st_val (ro_assign (v := .int _ _) rfl) ?_
                 refine st_val (ro_assign (v := .int _ _) rfl) ?_
                 refine st_nil ?_
                 refine nx_then ?_
                 refine cd_seq ?_
                 refine cd_seq ?_
                 refine cd_region ?_
                 refine st_val (ro_move (v := .int _ _) rfl) ?_
                 refine st_call QLaw2_k9 (num_any _ _) ?_
                 rintro v36 w9 ⟨rfl, rfl⟩
                 refine st_val (ro_neq rfl rfl) ?_
                 refine st_nil ?_
                 refine nx_then ?_
                 refine cd_cond rfl (fun Q10 => ?_) (fun Q10 => ?_)
                 · (try first | replace Q10 := bn_t Q10 | replace Q10 := bn_f Q10)
                   (try first | replace Q10 := bx_t Q10 | replace Q10 := bx_f Q10 | replace Q10 := be_t Q10 | replace Q10 := be_f Q10 | replace Q10 := of_decide_eq_true Q10 | replace Q10 := of_decide_eq_false Q10)
                   first
                    | (exfalso; first | omega | contradiction | (cases Q10; done))
                    | skip
                      refine cd_exit ?_
                      refine ex_then ?_
                      refine ex_block ?_
                      refine nx_then ?_
                      refine cd_region ?_
                      refine st_val (ro_move (v := .int _ _) rfl) ?_
                      refine st_val (ro_addN (b := 1) rfl rfl (by omega)) ?_
                      refine st_val (ro_assign (v := .int _ _) rfl) ?_
                      refine st_nil ?_
                      refine nx_cut (k + 1) ⟨(by first | rfl | (refine int_eq ?_; omega)), trivial⟩ (by (iterate 140 refine agr_cons rfl ?_); exact agr_rfl) ⟨?_, ?_⟩
                      · exact ⟨by omega, ((((hB.next E4).only O4 (by rw [hb4]; exact hB.size)).next E28).next E32)⟩
                      · omega
                 · (try first | replace Q10 := bn_t Q10 | replace Q10 := bn_f Q10)
                   (try first | replace Q10 := bx_t Q10 | replace Q10 := bx_f Q10 | replace Q10 := be_t Q10 | replace Q10 := be_f Q10 | replace Q10 := of_decide_eq_true Q10 | replace Q10 := of_decide_eq_false Q10)
                   have hF : Fit M := fit_of (by omega)
                   have hid := idV_fit hF
                   have hmf := hF.2.1
                   first
                    | (exfalso; first | omega | contradiction | (cases Q10; done))
                    | skip
                      refine cd_skip ?_
                      refine nx_then ?_
                      refine cd_seq ?_
                      refine cd_region ?_
                      refine st_val (ro_assign (v := .int _ _) rfl) ?_
                      refine st_val (ro_assign (v := .int _ _) rfl) ?_
                      refine st_nil ?_
                      refine nx_then ?_
                      refine cd_seq ?_
                      refine cd_region ?_
                      refine st_val (ro_assign (v := .slice _ _ _) rfl) ?_
                      refine st_nil ?_
                      refine nx_then ?_
                      refine cd_seq ?_
                      refine cd_seq ?_
                      refine cd_region ?_
                      refine st_val (ro_assign (v := .int _ _) rfl) ?_
                      refine st_nil ?_
                      refine nx_then ?_
                      refine cd_block ?_
                      refine cd_loop (G := Nat × Option Addr × Nat) [38, 39, 40, 41, 42, 43, 44, 45, 46, 47, 48, 49, 50, 51, 52, 53, 54, 55, 56, 57, 58, 59, 60, 61, 62, 63, 64, 65, 66, 67, 68, 69, 70, 71, 72, 73, 74, 75] (fun (j, A9, c9) => [(7, .int .i64 ((M.take j).countP (fun y => decide (idV M ≤ y)) : Nat)), (8, .int .i64 ((M.take j).countP (fun y => decide (idV M < y)) : Nat)), (9, .slice A9 j c9), (10, .int .i64 (j : Nat))]) (fun (j, A9, c9) w' => j ≤ M.length ∧ w'.ownsRow w.heap.size 3 1 (.slice A9 j c9) j ((M.reverse.take j).map iV) ∧ From w w' ∧ Blk w' b4 25 #[.int .i64 N, .slice A1 L.length ca, .slice A2 M.length cb]) (fun (j, _, _) => M.length - j) ((0, none, 0)) ⟨rfl, rfl, rfl, rfl, trivial⟩ ?_ ?_
                      · exact ⟨Nat.zero_le _, World.ownsRow_nil _ _ _ _, ((((hB.next E4).only O4 (by rw [hb4]; exact hB.size)).next E28).next E32), P4.from_ From.rfl_⟩
                      rintro ⟨j, A9, c9⟩ ρ11 w11 ⟨hj, ho, hB9, P4⟩
                      have hc7 := List.countP_le_length (p := fun y => decide (idV M ≤ y)) (l := M.take j)
                      have hc8 := List.countP_le_length (p := fun y => decide (idV M < y)) (l := M.take j)
                      rw [List.length_take] at hc7 hc8
                      refine cd_seq ?_
                      refine cd_seq ?_
                      refine cd_region ?_
                      refine st_val (ro_move (v := .int _ _) rfl) ?_
                      refine st_val (ro_fieldAddr QLaw2_f25_2 rfl) ?_
                      refine st_val (ro_load QLaw2_g23 rfl (by first | (first | exact (P4.from_ From.rfl_).rd 0 rfl | exact (P4.from_ From.rfl_).rd 1 rfl | exact (P4.from_ From.rfl_).rd 2 rfl))) ?_
                      refine st_val (ro_len QLaw2_l23 rfl) ?_
                      refine st_val (ro_lss rfl rfl) ?_
                      refine st_nil ?_
                      refine nx_then ?_
                      refine cd_cond rfl (fun Q12 => ?_) (fun Q12 => ?_)
                      · (try first | replace Q12 := bn_t Q12 | replace Q12 := bn_f Q12)
                        (try first | replace Q12 := bx_t Q12 | replace Q12 := bx_f Q12 | replace Q12 := be_t Q12 | replace Q12 := be_f Q12 | replace Q12 := of_decide_eq_true Q12 | replace Q12 := of_decide_eq_false Q12)
                        obtain ⟨bm, om, rfl, hcm⟩ := hask.rowM (by omega)
                        first
                         | (exfalso; first | omega | contradiction | (cases Q12; done))
                         | skip
                           refine cd_skip ?_
                           refine nx_then ?_
                           refine cd_seq ?_
                           refine cd_block ?_
                           refine cd_seq ?_
                           refine cd_seq ?_
                           refine cd_region ?_
                           refine st_val (ro_fieldAddr QLaw2_f25_2 rfl) ?_
                           refine st_val (ro_load QLaw2_g23 rfl (by first | (first | exact (P4.from_ From.rfl_).rd 0 rfl | exact (P4.from_ From.rfl_).rd 1 rfl | exact (P4.from_ From.rfl_).rd 2 rfl))) ?_
                           refine st_val (ro_move (v := .int _ _) rfl) ?_
                           refine st_val (ro_indexAddr1 QLaw2_e23 rfl rfl (by omega)) ?_
                           refine st_val (ro_load QLaw2_g3 rfl (by exact cellF hB9 (hcm j (by omega)))) ?_
                           refine st_val (ro_move (v := .int _ _) rfl) ?_
                           refine st_val (ro_geq rfl rfl) ?_
                           refine st_nil ?_
                           refine nx_then ?_
                           refine cd_cond rfl (fun Q13 => ?_) (fun Q13 => ?_)
                           · (try first | replace Q13 := bn_t Q13 | replace Q13 := bn_f Q13)
                             (try first | replace Q13 := bx_t Q13 | replace Q13 := bx_f Q13 | replace Q13 := be_t Q13 | replace Q13 := be_f Q13 | replace Q13 := of_decide_eq_true Q13 | replace Q13 := of_decide_eq_false Q13)
                             have hp7 := countP_one (p := fun y => decide (idV M ≤ y)) (L := M) (k := j) (by omega)
                             rw [if_pos (decide_eq_true (by omega))] at hp7
                             first
                              | (exfalso; first | omega | contradiction | (cases Q13; done))
                              | skip
                                refine cd_region ?_
                                refine st_val (ro_move (v := .int _ _) rfl) ?_
                                refine st_val (ro_addN (b := 1) rfl rfl (by omega)) ?_
                                refine st_val (ro_assign (v := .int _ _) rfl) ?_
                                refine st_nil ?_
                                refine nx_then ?_
                                refine cd_seq ?_
                                refine cd_seq ?_
                                refine cd_region ?_
                                refine st_val (ro_fieldAddr QLaw2_f25_2 rfl) ?_
                                refine st_val (ro_load QLaw2_g23 rfl (by first | (first | exact (P4.from_ From.rfl_).rd 0 rfl | exact (P4.from_ From.rfl_).rd 1 rfl | exact (P4.from_ From.rfl_).rd 2 rfl))) ?_
                                refine st_val (ro_move (v := .int _ _) rfl) ?_
                                refine st_val (ro_indexAddr1 QLaw2_e23 rfl rfl (by omega)) ?_
                                refine st_val (ro_load QLaw2_g3 rfl (by exact cellF hB9 (hcm j (by omega)))) ?_
                                refine st_val (ro_move (v := .int _ _) rfl) ?_
                                refine st_val (ro_gtr rfl rfl) ?_
                                refine st_nil ?_
                                refine nx_then ?_
                                refine cd_cond rfl (fun Q14 => ?_) (fun Q14 => ?_)
                                · (try first | replace Q14 := bn_t Q14 | replace Q14 := bn_f Q14)
                                  (try first | replace Q14 := bx_t Q14 | replace Q14 := bx_f Q14 | replace Q14 := be_t Q14 | replace Q14 := be_f Q14 | replace Q14 := of_decide_eq_true Q14 | replace Q14 := of_decide_eq_false Q14)
                                  have hp8 := countP_one (p := fun y => decide (idV M < y)) (L := M) (k := j) (by omega)
                                  rw [if_pos (decide_eq_true (by omega))] at hp8
                                  first
                                   | (exfalso; first | omega | contradiction | (cases Q14; done))
                                   | skip
                                     refine cd_region ?_
                                     refine st_val (ro_move (v := .int _ _) rfl) ?_
                                     refine st_val (ro_addN (b := 1) rfl rfl (by omega)) ?_
                                     refine st_val (ro_assign (v := .int _ _) rfl) ?_
                                     refine st_nil ?_
                                     refine nx_then ?_
                                     refine cd_region ?_
                                     refine st_val (ro_move (v := .slice _ _ _) rfl) ?_
                                     refine st_val (ro_fieldAddr QLaw2_f25_2 rfl) ?_
                                     refine st_val (ro_load QLaw2_g23 rfl (by first | (first | exact (P4.from_ From.rfl_).rd 0 rfl | exact (P4.from_ From.rfl_).rd 1 rfl | exact (P4.from_ From.rfl_).rd 2 rfl))) ?_
                                     refine st_val (ro_fieldAddr QLaw2_f25_2 rfl) ?_
                                     refine st_val (ro_load QLaw2_g23 rfl (by first | (first | exact (P4.from_ From.rfl_).rd 0 rfl | exact (P4.from_ From.rfl_).rd 1 rfl | exact (P4.from_ From.rfl_).rd 2 rfl))) ?_
                                     refine st_val (ro_len QLaw2_l23 rfl) ?_
                                     refine st_val (ro_subN (b := 1) rfl rfl (by omega)) ?_
                                     refine st_val (ro_move (v := .int _ _) rfl) ?_
                                     refine st_val (ro_subN rfl rfl (by omega)) ?_
                                     refine st_val (ro_indexAddr1 QLaw2_e23 rfl rfl (by omega)) ?_
                                     refine st_val (ro_load QLaw2_g3 rfl (by exact cellF hB9 (hcm (M.length - 1 - j) (by omega)))) ?_
                                     refine st_lit1 (v := .int _ _) QLaw2_q23 rfl rfl rfl ?_
                                     intro b74 w15 E74 hb74 hk74
                                     refine st_push1 (a0 := w) QLaw2_q23 rfl rfl (ho.kept_from E74) (hB9.next E74) rfl hk74 rfl (by omega) (by omega) ?_
                                     intro A75 c75 w16 ho75 B75 hg75
                                     refine st_val (ro_assign (v := .slice _ _ _) rfl) ?_
                                     refine st_nil ?_
                                     refine nx_block ?_
                                     refine nx_then ?_
                                     refine cd_region ?_
                                     refine st_val (ro_move (v := .int _ _) rfl) ?_
                                     refine st_val (ro_addN (b := 1) rfl rfl (by omega)) ?_
                                     refine st_val (ro_assign (v := .int _ _) rfl) ?_
                                     refine st_nil ?_
                                     refine nx_cut ((j + 1, A75, c75)) ⟨(by first | rfl | (refine int_eq ?_; omega)), (by first | rfl | (refine int_eq ?_; omega)), rfl, rfl, trivial⟩ (by (iterate 84 refine agr_cons rfl ?_); exact agr_rfl) ⟨?_, ?_⟩
                                     · exact ⟨by omega, by rw [rev_at (by omega)]; exact ho75, B75, (P4.from_ (From.rfl_.next E74)).grown hg75 (own_off (ho.kept_from E74) (P4.from_ (From.rfl_.next E74)) (by decide))⟩
                                     · show _ - _ < _ - _; omega
                                · (try first | replace Q14 := bn_t Q14 | replace Q14 := bn_f Q14)
                                  (try first | replace Q14 := bx_t Q14 | replace Q14 := bx_f Q14 | replace Q14 := be_t Q14 | replace Q14 := be_f Q14 | replace Q14 := of_decide_eq_true Q14 | replace Q14 := of_decide_eq_false Q14)
                                  have hp8 := countP_one (p := fun y => decide (idV M < y)) (L := M) (k := j) (by omega)
                                  rw [if_neg (by rw [decide_eq_true_eq]; omega)] at hp8
                                  first
                                   | (exfalso; first | omega | contradiction | (cases Q14; done))
                                   | skip
                                     refine cd_skip ?_
                                     refine nx_then ?_
                                     refine cd_region ?_
                                     refine st_val (ro_move (v := .slice _ _ _) rfl) ?_
                                     refine st_val (ro_fieldAddr QLaw2_f25_2 rfl) ?_
                                     refine st_val (ro_load QLaw2_g23 rfl (by first | (first | exact (P4.from_ From.rfl_).rd 0 rfl | exact (P4.from_ From.rfl_).rd 1 rfl | exact (P4.from_ From.rfl_).rd 2 rfl))) ?_
                                     refine st_val (ro_fieldAddr QLaw2_f25_2 rfl) ?_
                                     refine st_val (ro_load QLaw2_g23 rfl (by first | (first | exact (P4.from_ From.rfl_).rd 0 rfl | exact (P4.from_ From.rfl_).rd 1 rfl | exact (P4.from_ From.rfl_).rd 2 rfl))) ?_
                                     refine st_val (ro_len QLaw2_l23 rfl) ?_
                                     refine st_val (ro_subN (b := 1) rfl rfl (by omega)) ?_
                                     refine st_val (ro_move (v := .int _ _) rfl) ?_
                                     refine st_val (ro_subN rfl rfl (by omega)) ?_
                                     refine st_val (ro_indexAddr1 QLaw2_e23 rfl rfl (by omega)) ?_
                                     refine st_val (ro_load QLaw2_g3 rfl (by exact cellF hB9 (hcm (M.length - 1 - j) (by omega)))) ?_
                                     refine st_lit1 (v := .int _ _) QLaw2_q23 rfl rfl rfl ?_
                                     intro b74 w17 E74 hb74 hk74
                                     refine st_push1 (a0 := w) QLaw2_q23 rfl rfl (ho.kept_from E74) (hB9.next E74) rfl hk74 rfl (by omega) (by omega) ?_
                                     intro A75 c75 w18 ho75 B75 hg75
                                     refine st_val (ro_assign (v := .slice _ _ _) rfl) ?_
                                     refine st_nil ?_
                                     refine nx_block ?_
                                     refine nx_then ?_
                                     refine cd_region ?_
                                     refine st_val (ro_move (v := .int _ _) rfl) ?_
                                     refine st_val (ro_addN (b := 1) rfl rfl (by omega)) ?_
                                     refine st_val (ro_assign (v := .int _ _) rfl) ?_
                                     refine st_nil ?_
                                     refine nx_cut ((j + 1, A75, c75)) ⟨(by first | rfl | (refine int_eq ?_; omega)), (by first | rfl | (refine int_eq ?_; omega)), rfl, rfl, trivial⟩ (by (iterate 81 refine agr_cons rfl ?_); exact agr_rfl) ⟨?_, ?_⟩
                                     · exact ⟨by omega, by rw [rev_at (by omega)]; exact ho75, B75, (P4.from_ (From.rfl_.next E74)).grown hg75 (own_off (ho.kept_from E74) (P4.from_ (From.rfl_.next E74)) (by decide))⟩
                                     · show _ - _ < _ - _; omega
                           · (try first | replace Q13 := bn_t Q13 | replace Q13 := bn_f Q13)
                             (try first | replace Q13 := bx_t Q13 | replace Q13 := bx_f Q13 | replace Q13 := be_t Q13 | replace Q13 := be_f Q13 | replace Q13 := of_decide_eq_true Q13 | replace Q13 := of_decide_eq_false Q13)
                             have hp7 := countP_one (p := fun y => decide (idV M ≤ y)) (L := M) (k := j) (by omega)
                             rw [if_neg (by rw [decide_eq_true_eq]; omega)] at hp7
                             first
                              | (exfalso; first | omega | contradiction | (cases Q13; done))
                              | skip
                                refine cd_skip ?_
                                refine nx_then ?_
                                refine cd_seq ?_
                                refine cd_seq ?_
                                refine cd_region ?_
                                refine st_val (ro_fieldAddr QLaw2_f25_2 rfl) ?_
                                refine st_val (ro_load QLaw2_g23 rfl (by first | (first | exact (P4.from_ From.rfl_).rd 0 rfl | exact (P4.from_ From.rfl_).rd 1 rfl | exact (P4.from_ From.rfl_).rd 2 rfl))) ?_
                                refine st_val (ro_move (v := .int _ _) rfl) ?_
                                refine st_val (ro_indexAddr1 QLaw2_e23 rfl rfl (by omega)) ?_
                                refine st_val (ro_load QLaw2_g3 rfl (by exact cellF hB9 (hcm j (by omega)))) ?_
                                refine st_val (ro_move (v := .int _ _) rfl) ?_
                                refine st_val (ro_gtr rfl rfl) ?_
                                refine st_nil ?_
                                refine nx_then ?_
                                refine cd_cond rfl (fun Q19 => ?_) (fun Q19 => ?_)
                                · (try first | replace Q19 := bn_t Q19 | replace Q19 := bn_f Q19)
                                  (try first | replace Q19 := bx_t Q19 | replace Q19 := bx_f Q19 | replace Q19 := be_t Q19 | replace Q19 := be_f Q19 | replace Q19 := of_decide_eq_true Q19 | replace Q19 := of_decide_eq_false Q19)
                                  have hp8 := countP_one (p := fun y => decide (idV M < y)) (L := M) (k := j) (by omega)
                                  rw [if_pos (decide_eq_true (by omega))] at hp8
                                  first
                                   | (exfalso; first | omega | contradiction | (cases Q19; done))
                                   | skip
                                     refine cd_region ?_
                                     refine st_val (ro_move (v := .int _ _) rfl) ?_
                                     refine st_val (ro_addN (b := 1) rfl rfl (by omega)) ?_
                                     refine st_val (ro_assign (v := .int _ _) rfl) ?_
                                     refine st_nil ?_
                                     refine nx_then ?_
                                     refine cd_region ?_
                                     refine st_val (ro_move (v := .slice _ _ _) rfl) ?_
                                     refine st_val (ro_fieldAddr QLaw2_f25_2 rfl) ?_
                                     refine st_val (ro_load QLaw2_g23 rfl (by first | (first | exact (P4.from_ From.rfl_).rd 0 rfl | exact (P4.from_ From.rfl_).rd 1 rfl | exact (P4.from_ From.rfl_).rd 2 rfl))) ?_
                                     refine st_val (ro_fieldAddr QLaw2_f25_2 rfl) ?_
                                     refine st_val (ro_load QLaw2_g23 rfl (by first | (first | exact (P4.from_ From.rfl_).rd 0 rfl | exact (P4.from_ From.rfl_).rd 1 rfl | exact (P4.from_ From.rfl_).rd 2 rfl))) ?_
                                     refine st_val (ro_len QLaw2_l23 rfl) ?_
                                     refine st_val (ro_subN (b := 1) rfl rfl (by omega)) ?_
                                     refine st_val (ro_move (v := .int _ _) rfl) ?_
                                     refine st_val (ro_subN rfl rfl (by omega)) ?_
                                     refine st_val (ro_indexAddr1 QLaw2_e23 rfl rfl (by omega)) ?_
                                     refine st_val (ro_load QLaw2_g3 rfl (by exact cellF hB9 (hcm (M.length - 1 - j) (by omega)))) ?_
                                     refine st_lit1 (v := .int _ _) QLaw2_q23 rfl rfl rfl ?_
                                     intro b74 w20 E74 hb74 hk74
                                     refine st_push1 (a0 := w) QLaw2_q23 rfl rfl (ho.kept_from E74) (hB9.next E74) rfl hk74 rfl (by omega) (by omega) ?_
                                     intro A75 c75 w21 ho75 B75 hg75
                                     refine st_val (ro_assign (v := .slice _ _ _) rfl) ?_
                                     refine st_nil ?_
                                     refine nx_block ?_
                                     refine nx_then ?_
                                     refine cd_region ?_
                                     refine st_val (ro_move (v := .int _ _) rfl) ?_
                                     refine st_val (ro_addN (b := 1) rfl rfl (by omega)) ?_
                                     refine st_val (ro_assign (v := .int _ _) rfl) ?_
                                     refine st_nil ?_
                                     refine nx_cut ((j + 1, A75, c75)) ⟨(by first | rfl | (refine int_eq ?_; omega)), (by first | rfl | (refine int_eq ?_; omega)), rfl, rfl, trivial⟩ (by (iterate 81 refine agr_cons rfl ?_); exact agr_rfl) ⟨?_, ?_⟩
                                     · exact ⟨by omega, by rw [rev_at (by omega)]; exact ho75, B75, (P4.from_ (From.rfl_.next E74)).grown hg75 (own_off (ho.kept_from E74) (P4.from_ (From.rfl_.next E74)) (by decide))⟩
                                     · show _ - _ < _ - _; omega
                                · (try first | replace Q19 := bn_t Q19 | replace Q19 := bn_f Q19)
                                  (try first | replace Q19 := bx_t Q19 | replace Q19 := bx_f Q19 | replace Q19 := be_t Q19 | replace Q19 := be_f Q19 | replace Q19 := of_decide_eq_true Q19 | replace Q19 := of_decide_eq_false Q19)
                                  have hp8 := countP_one (p := fun y => decide (idV M < y)) (L := M) (k := j) (by omega)
                                  rw [if_neg (by rw [decide_eq_true_eq]; omega)] at hp8
                                  first
                                   | (exfalso; first | omega | contradiction | (cases Q19; done))
                                   | skip
                                     refine cd_skip ?_
                                     refine nx_then ?_
                                     refine cd_region ?_
                                     refine st_val (ro_move (v := .slice _ _ _) rfl) ?_
                                     refine st_val (ro_fieldAddr QLaw2_f25_2 rfl) ?_
                                     refine st_val (ro_load QLaw2_g23 rfl (by first | (first | exact (P4.from_ From.rfl_).rd 0 rfl | exact (P4.from_ From.rfl_).rd 1 rfl | exact (P4.from_ From.rfl_).rd 2 rfl))) ?_
                                     refine st_val (ro_fieldAddr QLaw2_f25_2 rfl) ?_
                                     refine st_val (ro_load QLaw2_g23 rfl (by first | (first | exact (P4.from_ From.rfl_).rd 0 rfl | exact (P4.from_ From.rfl_).rd 1 rfl | exact (P4.from_ From.rfl_).rd 2 rfl))) ?_
                                     refine st_val (ro_len QLaw2_l23 rfl) ?_
                                     refine st_val (ro_subN (b := 1) rfl rfl (by omega)) ?_
                                     refine st_val (ro_move (v := .int _ _) rfl) ?_
                                     refine st_val (ro_subN rfl rfl (by omega)) ?_
                                     refine st_val (ro_indexAddr1 QLaw2_e23 rfl rfl (by omega)) ?_
                                     refine st_val (ro_load QLaw2_g3 rfl (by exact cellF hB9 (hcm (M.length - 1 - j) (by omega)))) ?_
                                     refine st_lit1 (v := .int _ _) QLaw2_q23 rfl rfl rfl ?_
                                     intro b74 w22 E74 hb74 hk74
                                     refine st_push1 (a0 := w) QLaw2_q23 rfl rfl (ho.kept_from E74) (hB9.next E74) rfl hk74 rfl (by omega) (by omega) ?_
                                     intro A75 c75 w23 ho75 B75 hg75
                                     refine st_val (ro_assign (v := .slice _ _ _) rfl) ?_
                                     refine st_nil ?_
                                     refine nx_block ?_
                                     refine nx_then ?_
                                     refine cd_region ?_
                                     refine st_val (ro_move (v := .int _ _) rfl) ?_
                                     refine st_val (ro_addN (b := 1) rfl rfl (by omega)) ?_
                                     refine st_val (ro_assign (v := .int _ _) rfl) ?_
                                     refine st_nil ?_
                                     refine nx_cut ((j + 1, A75, c75)) ⟨(by first | rfl | (refine int_eq ?_; omega)), (by first | rfl | (refine int_eq ?_; omega)), rfl, rfl, trivial⟩ (by (iterate 78 refine agr_cons rfl ?_); exact agr_rfl) ⟨?_, ?_⟩
                                     · exact ⟨by omega, by rw [rev_at (by omega)]; exact ho75, B75, (P4.from_ (From.rfl_.next E74)).grown hg75 (own_off (ho.kept_from E74) (P4.from_ (From.rfl_.next E74)) (by decide))⟩
                                     · show _ - _ < _ - _; omega
                      · (try first | replace Q12 := bn_t Q12 | replace Q12 := bn_f Q12)
                        (try first | replace Q12 := bx_t Q12 | replace Q12 := bx_f Q12 | replace Q12 := be_t Q12 | replace Q12 := be_f Q12 | replace Q12 := of_decide_eq_true Q12 | replace Q12 := of_decide_eq_false Q12)
                        obtain rfl : j = M.length := by omega
                        have h7 : M.length < 2 * (M.take M.length).countP (fun y => decide (idV M ≤ y)) := by rw [List.take_length, hid]; exact cnt_low hF.1 (Int.le_refl _)
                        have h8 : 2 * (M.take M.length).countP (fun y => decide (idV M < y)) ≤ M.length := by rw [List.take_length, hid]; exact cnt_above hF.1
                        have ho := ho
                        rw [show M.reverse.take M.length = M.reverse from List.take_of_length_le (by simp)] at ho
                        first
                         | (exfalso; first | omega | contradiction | (cases Q12; done))
                         | skip
                           refine cd_exit ?_
                           refine ex_then ?_
                           refine ex_then ?_
                           refine ex_block ?_
                           refine nx_then ?_
                           refine cd_seq ?_
                           refine cd_region ?_
                           refine st_val (ro_move (v := .slice _ _ _) rfl) ?_
                           refine st_call QLaw2_k13 (index_rev M.length A9 c9 M _ ((RowOf.own ho).2.from_ From.rfl_) rfl hF) ?_
                           rintro v78 w24 ⟨rfl, E78⟩
                           refine st_val (ro_move (v := .tuple _) rfl) ?_
                           refine st_val (ro_extract rfl rfl) ?_
                           refine st_val (ro_extract rfl rfl) ?_
                           refine st_val (ro_assign (v := .int _ _) rfl) ?_
                           refine st_val (ro_assign (v := .int _ _) rfl) ?_
                           refine st_nil ?_
                           refine nx_then ?_
                           refine cd_seq ?_
                           refine cd_region ?_
                           refine st_val (ro_move (v := .int _ _) rfl) ?_
                           refine st_val (ro_mulN (a := 2) rfl rfl (by omega)) ?_
                           refine st_val (ro_fieldAddr QLaw2_f25_2 rfl) ?_
                           refine st_val (ro_load QLaw2_g23 rfl (by first | (first | exact (P4.from_ (From.rfl_.next E78)).rd 0 rfl | exact (P4.from_ (From.rfl_.next E78)).rd 1 rfl | exact (P4.from_ (From.rfl_.next E78)).rd 2 rfl))) ?_
                           refine st_val (ro_len QLaw2_l23 rfl) ?_
                           refine st_val (ro_leq rfl rfl) ?_
                           refine st_val (ro_move (v := .bool _) rfl) ?_
                           refine st_split (t := 87) rfl (fun Q25 => ?_) (fun Q25 => ?_)
                           · (try first | replace Q25 := bn_t Q25 | replace Q25 := bn_f Q25)
                             (try first | replace Q25 := bx_t Q25 | replace Q25 := bx_f Q25 | replace Q25 := be_t Q25 | replace Q25 := be_f Q25 | replace Q25 := of_decide_eq_true Q25 | replace Q25 := of_decide_eq_false Q25)
                             first
                              | (exfalso; first | omega | contradiction | (cases Q25; done))
                              | skip
                                refine st_gno rfl rfl ?_
                                refine st_gno rfl rfl ?_
                                refine st_gno rfl rfl ?_
                                refine st_gno rfl rfl ?_
                                refine st_gno rfl rfl ?_
                                refine st_gno rfl rfl ?_
                                refine st_val (ro_pickT (v := .bool _) rfl rfl) ?_
                                refine st_val (ro_move (v := .bool _) rfl) ?_
                                refine st_gno rfl rfl ?_
                                refine st_gno rfl rfl ?_
                                refine st_gno rfl rfl ?_
                                refine st_gno rfl rfl ?_
                                refine st_gno rfl rfl ?_
                                refine st_val (ro_pickT (v := .bool _) rfl rfl) ?_
                                refine st_val (ro_move (v := .bool _) rfl) ?_
                                refine st_gno rfl rfl ?_
                                refine st_gno rfl rfl ?_
                                refine st_gno rfl rfl ?_
                                refine st_val (ro_pickT (v := .bool _) rfl rfl) ?_
                                refine st_val (ro_move (v := .bool _) rfl) ?_
                                refine st_gno rfl rfl ?_
                                refine st_gno rfl rfl ?_
                                refine st_gno rfl rfl ?_
                                refine st_val (ro_pickT (v := .bool _) rfl rfl) ?_
                                refine st_nil ?_
                                refine nx_then ?_
                                refine cd_condT rfl ?_
                                refine cd_seq ?_
                                refine cd_region ?_
                                refine st_val (ro_assign (v := .bool _) rfl) ?_
                                refine st_nil ?_
                                refine nx_then ?_
                                refine cd_ret ?_
                                refine rt_block ?_
                                refine rt_then ?_
                                refine rt_then ?_
                                refine rt_block ?_
                                refine rt_then ?_
                                refine res1 (v := .bool _) rfl rfl ?_
                                exact ⟨rfl, (hB9.next E78)⟩
                           · (try first | replace Q25 := bn_t Q25 | replace Q25 := bn_f Q25)
                             (try first | replace Q25 := bx_t Q25 | replace Q25 := bx_f Q25 | replace Q25 := be_t Q25 | replace Q25 := be_f Q25 | replace Q25 := of_decide_eq_true Q25 | replace Q25 := of_decide_eq_false Q25)
                             first
                              | (exfalso; first | omega | contradiction | (cases Q25; done))
                              | skip
                                refine st_unguard rfl ?_
                                refine st_val (ro_move (v := .int _ _) rfl) ?_
                                refine st_unguard rfl ?_
                                refine st_val (ro_mulN (a := 2) rfl rfl (by omega)) ?_
                                refine st_unguard rfl ?_
                                refine st_val (ro_fieldAddr QLaw2_f25_2 rfl) ?_
                                refine st_unguard rfl ?_
                                refine st_val (ro_load QLaw2_g23 rfl (by first | (first | exact (P4.from_ (From.rfl_.next E78)).rd 0 rfl | exact (P4.from_ (From.rfl_.next E78)).rd 1 rfl | exact (P4.from_ (From.rfl_.next E78)).rd 2 rfl))) ?_
                                refine st_unguard rfl ?_
                                refine st_val (ro_len QLaw2_l23 rfl) ?_
                                refine st_unguard rfl ?_
                                refine st_val (ro_gtr rfl rfl) ?_
                                refine st_val (ro_pickF (v := .bool _) rfl rfl) ?_
                                refine st_val (ro_move (v := .bool _) rfl) ?_
                                refine st_split (t := 95) rfl (fun Q26 => ?_) (fun Q26 => ?_)
                                · (try first | replace Q26 := bn_t Q26 | replace Q26 := bn_f Q26)
                                  (try first | replace Q26 := bx_t Q26 | replace Q26 := bx_f Q26 | replace Q26 := be_t Q26 | replace Q26 := be_f Q26 | replace Q26 := of_decide_eq_true Q26 | replace Q26 := of_decide_eq_false Q26)
                                  first
                                   | (exfalso; first | omega | contradiction | (cases Q26; done))
                                   | skip
                                     refine st_gno rfl rfl ?_
                                     refine st_gno rfl rfl ?_
                                     refine st_gno rfl rfl ?_
                                     refine st_gno rfl rfl ?_
                                     refine st_gno rfl rfl ?_
                                     refine st_val (ro_pickT (v := .bool _) rfl rfl) ?_
                                     refine st_val (ro_move (v := .bool _) rfl) ?_
                                     refine st_gno rfl rfl ?_
                                     refine st_gno rfl rfl ?_
                                     refine st_gno rfl rfl ?_
                                     refine st_val (ro_pickT (v := .bool _) rfl rfl) ?_
                                     refine st_val (ro_move (v := .bool _) rfl) ?_
                                     refine st_gno rfl rfl ?_
                                     refine st_gno rfl rfl ?_
                                     refine st_gno rfl rfl ?_
                                     refine st_val (ro_pickT (v := .bool _) rfl rfl) ?_
                                     refine st_nil ?_
                                     refine nx_then ?_
                                     refine cd_condT rfl ?_
                                     refine cd_seq ?_
                                     refine cd_region ?_
                                     refine st_val (ro_assign (v := .bool _) rfl) ?_
                                     refine st_nil ?_
                                     refine nx_then ?_
                                     refine cd_ret ?_
                                     refine rt_block ?_
                                     refine rt_then ?_
                                     refine rt_then ?_
                                     refine rt_block ?_
                                     refine rt_then ?_
                                     refine res1 (v := .bool _) rfl rfl ?_
                                     exact ⟨rfl, (hB9.next E78)⟩
                                · (try first | replace Q26 := bn_t Q26 | replace Q26 := bn_f Q26)
                                  (try first | replace Q26 := bx_t Q26 | replace Q26 := bx_f Q26 | replace Q26 := be_t Q26 | replace Q26 := be_f Q26 | replace Q26 := of_decide_eq_true Q26 | replace Q26 := of_decide_eq_false Q26)
                                  first
                                   | (exfalso; first | omega | contradiction | (cases Q26; done))
                                   | skip
                                     refine st_unguard rfl ?_
                                     refine st_val (ro_fieldAddr QLaw2_f25_2 rfl) ?_
                                     refine st_unguard rfl ?_
                                     refine st_val (ro_load QLaw2_g23 rfl (by first | (first | exact (P4.from_ (From.rfl_.next E78)).rd 0 rfl | exact (P4.from_ (From.rfl_.next E78)).rd 1 rfl | exact (P4.from_ (From.rfl_.next E78)).rd 2 rfl))) ?_
                                     refine st_unguard rfl ?_
                                     refine st_val (ro_move (v := .int _ _) rfl) ?_
                                     refine st_unguard rfl ?_
                                     refine st_call QLaw2_k16 (in_rt A2 cb M (idV M) _ (hask.rowM.from_ (hB9.next E78)) (by omega)) ?_
                                     rintro v99 w27 ⟨⟨r99, rfl, hr99⟩, rfl⟩
                                     have h99 := hr99.2 (by rw [hid]; exact med_mem hF.1)
                                     refine st_unguard rfl ?_
                                     refine st_val (ro_lss rfl rfl) ?_
                                     refine st_val (ro_pickF (v := .bool _) rfl rfl) ?_
                                     refine st_val (ro_move (v := .bool _) rfl) ?_
                                     refine st_split (t := 102) rfl (fun Q28 => ?_) (fun Q28 => ?_)
                                     · (try first | replace Q28 := bn_t Q28 | replace Q28 := bn_f Q28)
                                       (try first | replace Q28 := bx_t Q28 | replace Q28 := bx_f Q28 | replace Q28 := be_t Q28 | replace Q28 := be_f Q28 | replace Q28 := of_decide_eq_true Q28 | replace Q28 := of_decide_eq_false Q28)
                                       first
                                        | (exfalso; first | omega | contradiction | (cases Q28; done))
                                        | skip
                                          refine st_gno rfl rfl ?_
                                          refine st_gno rfl rfl ?_
                                          refine st_gno rfl rfl ?_
                                          refine st_val (ro_pickT (v := .bool _) rfl rfl) ?_
                                          refine st_val (ro_move (v := .bool _) rfl) ?_
                                          refine st_gno rfl rfl ?_
                                          refine st_gno rfl rfl ?_
                                          refine st_gno rfl rfl ?_
                                          refine st_val (ro_pickT (v := .bool _) rfl rfl) ?_
                                          refine st_nil ?_
                                          refine nx_then ?_
                                          refine cd_condT rfl ?_
                                          refine cd_seq ?_
                                          refine cd_region ?_
                                          refine st_val (ro_assign (v := .bool _) rfl) ?_
                                          refine st_nil ?_
                                          refine nx_then ?_
                                          refine cd_ret ?_
                                          refine rt_block ?_
                                          refine rt_then ?_
                                          refine rt_then ?_
                                          refine rt_block ?_
                                          refine rt_then ?_
                                          refine res1 (v := .bool _) rfl rfl ?_
                                          exact ⟨rfl, (hB9.next E78)⟩
                                     · (try first | replace Q28 := bn_t Q28 | replace Q28 := bn_f Q28)
                                       (try first | replace Q28 := bx_t Q28 | replace Q28 := bx_f Q28 | replace Q28 := be_t Q28 | replace Q28 := be_f Q28 | replace Q28 := of_decide_eq_true Q28 | replace Q28 := of_decide_eq_false Q28)
                                       first
                                        | (exfalso; first | omega | contradiction | (cases Q28; done))
                                        | skip
                                          refine st_unguard rfl ?_
                                          refine st_val (ro_move (v := .int _ _) rfl) ?_
                                          refine st_unguard rfl ?_
                                          refine st_call QLaw2_k9 (num_any _ _) ?_
                                          rintro v104 w29 ⟨rfl, rfl⟩
                                          refine st_unguard rfl ?_
                                          refine st_val (ro_bf (ro_neq rfl rfl) (bne_self_eq_false _)) ?_
                                          refine st_val (ro_pickF (v := .bool _) rfl rfl) ?_
                                          refine st_val (ro_move (v := .bool _) rfl) ?_
                                          refine st_unguard rfl ?_
                                          refine st_val (ro_move (v := .int _ _) rfl) ?_
                                          refine st_unguard rfl ?_
                                          refine st_val (ro_move (v := .int _ _) rfl) ?_
                                          refine st_unguard rfl ?_
                                          refine st_val (ro_bf (ro_neq rfl rfl) (bne_self_eq_false _)) ?_
                                          refine st_val (ro_pickF (v := .bool _) rfl rfl) ?_
                                          refine st_nil ?_
                                          refine nx_then ?_
                                          refine cd_condF rfl ?_
                                          refine cd_skip ?_
                                          refine nx_block ?_
                                          refine nx_then ?_
                                          refine cd_region ?_
                                          refine st_val (ro_move (v := .int _ _) rfl) ?_
                                          refine st_val (ro_addN (b := 1) rfl rfl (by omega)) ?_
                                          refine st_val (ro_assign (v := .int _ _) rfl) ?_
                                          refine st_nil ?_
                                          refine nx_cut (k + 1) ⟨(by first | rfl | (refine int_eq ?_; omega)), trivial⟩ (by (iterate 232 refine agr_cons rfl ?_); exact agr_rfl) ⟨?_, ?_⟩
                                          · exact ⟨by omega, (hB9.next E78)⟩
                                          · omega
       · (try first | replace Q3 := bn_t Q3 | replace Q3 := bn_f Q3)
         (try first | replace Q3 := bx_t Q3 | replace Q3 := bx_f Q3 | replace Q3 := be_t Q3 | replace Q3 := be_f Q3 | replace Q3 := of_decide_eq_true Q3 | replace Q3 := of_decide_eq_false Q3)
         first
          | (exfalso; first | omega | contradiction | (cases Q3; done))
          | skip
            refine cd_exit ?_
            refine ex_then ?_
            refine ex_then ?_
            refine ex_block ?_
            refine nx_then ?_
            refine cd_seq ?_
            refine cd_region ?_
            refine st_call QLaw2_k14 (wakes_any _) ?_
            rintro v112 w30 ⟨rfl, E112⟩
            refine st_val (ro_assign (v := .bool _) rfl) ?_
            refine st_nil ?_
            refine nx_then ?_
            refine cd_ret ?_
            refine res1 (v := .bool _) rfl rfl ?_
            exact ⟨rfl, (hB.next E112)⟩
  · (try first | replace Q2 := bn_t Q2 | replace Q2 := bn_f Q2)
    (try first | replace Q2 := bx_t Q2 | replace Q2 := bx_f Q2 | replace Q2 := be_t Q2 | replace Q2 := be_f Q2 | replace Q2 := of_decide_eq_true Q2 | replace Q2 := of_decide_eq_false Q2)
    first
     | (exfalso; first | omega | contradiction | (cases Q2; done))
     | skip
       refine st_gno rfl rfl ?_
       refine st_gno rfl rfl ?_
       refine st_val (ro_pickF (v := .bool _) rfl rfl) ?_
       refine st_nil ?_
       refine nx_then ?_
       refine cd_condF rfl ?_
       refine cd_exit ?_
       refine ex_then ?_
       refine ex_then ?_
       refine ex_block ?_
       refine nx_then ?_
       refine cd_seq ?_
       refine cd_region ?_
       refine st_call QLaw2_k14 (wakes_any _) ?_
       rintro v112 w31 ⟨rfl, E112⟩
       refine st_val (ro_assign (v := .bool _) rfl) ?_
       refine st_nil ?_
       refine nx_then ?_
       refine cd_ret ?_
       refine res1 (v := .bool _) rfl rfl ?_
       exact ⟨rfl, (hB.next E112)⟩
set_option maxRecDepth 100000 in
theorem QuorumMatch_lifted (os : Os) (started : os.Started) (H : Type) (enc : TypeId × Value → H) :
    ReturnsInHanded {} Try.checked os 5 .any (Rows.quorumMatchSpec.pre6 enc Try.prog Try.f5 Rows.quorumMatchRow.domain false) (Rows.quorumMatchSpec.post enc Try.prog Try.f5 false true false false) := by
  refine returnsInHanded_of_change_sized (C := Try.checked) Try.own started (by kernel_rfl) Try.func5
    (ChangeSpec.witness6 (enc := enc) (C := Try.checked) false ⟨#[], #[.slice none 0 0], []⟩ 8 (by kernel_rfl) (by kernel_rfl) (by kernel_rfl) (by kernel_rfl)) ?_
  intro W base args ds gs before hval hW _ hsz _
  exact law_step 5 Try.f5 22 4 Rows.quorumMatchSpec Try.params5 (by kernel_rfl) Try.underlying4 rfl (fun _ => rfl) (by kernel_rfl) (of_decide_eq_true (by kernel_rfl)) (walk_sl askT (by kernel_rfl) match_law) W base args ds gs before hval hW hsz

theorem QuorumMatch_holds : Rows.QuorumMatchSaid :=
  OpenClaim.holds_of_wide 5 Try.f5 rfl rfl rfl rfl rfl rfl rfl ⟨rfl, rfl, rfl, rfl, rfl⟩ rfl rfl rfl rfl rfl (by kernel_rfl) Try.func5 (by kernel_rfl)
    (of_decide_eq_true (by kernel_rfl)) (by unfold Func.isWrapper; first | (rw [if_pos (by decide +kernel)]; kernel_rfl) | (rw [if_neg (by decide +kernel)]; exact ⟨rfl, rfl⟩))
    (fun os started H enc _ => QuorumMatch_lifted os started H enc)
#print axioms QuorumMatch_holds

end Go.Proofs.Ytpgcelbodpmajaa
