/- The law SuffixCommons. -/
import Derived.Test.YtgihpoggeaanjaaSufCom2
namespace Go.Proofs.Ytgihpoggeaanjaa
open Go.RowKit
open Go.ChangeShapes Go.WideShapes Go.ChangeAt
open Go.Proofs.Ytgihpoggeaanjaa.SA
theorem SufLawC_l22 : (elemQ Try.prog 22).isSome = true := by kernel_rfl
theorem SufLawC_e22 : elemQ Try.prog 22 = some (26, 2) := by kernel_rfl
theorem SufLawC_g26 : aggQ Try.prog 26 = some true := by kernel_rfl
theorem SufLawC_z26 : sizeQ Try.prog 26 = some 2 := by kernel_rfl
theorem SufLawC_k7 : callable Try.prog 7 = true := by kernel_rfl
theorem SufLawC_f26_0 : fieldQ Try.prog 26 0 = some 0 := by kernel_rfl
theorem SufLawC_g24 : aggQ Try.prog 24 = some false := by kernel_rfl
theorem SufLawC_k10 : callable Try.prog 10 = true := by kernel_rfl
theorem SufLawC_f26_1 : fieldQ Try.prog 26 1 = some 1 := by kernel_rfl
theorem SufLawC_k13 : callable Try.prog 13 = true := by kernel_rfl
theorem SufLawC_k12 : callable Try.prog 12 = true := by kernel_rfl
theorem SufLawC_k16 : callable Try.prog 16 = true := by kernel_rfl
theorem SufLawC_k8 : callable Try.prog 8 = true := by kernel_rfl
theorem SufLawC_k17 : callable Try.prog 17 = true := by kernel_rfl
theorem SufLawC_k11 : callable Try.prog 11 = true := by kernel_rfl
theorem SufLawC_k15 : callable Try.prog 15 = true := by kernel_rfl
theorem copyI (A : Option Addr) (c n : Nat) (l : List Int) (w : World) (hr : RowOf iV w A l) (hn : n = l.length) (hl : n ≤ 1000000) : Rt Try.prog 8 [.slice A n c] w fun v w' => (∃ A' c', v = .slice A' n c' ∧ RowOf iV w' A' l) ∧ From w w' := by
  subst hn
  refine (copyNums_any A c l w hr (by omega)).mono fun v w' h => ?_
  obtain ⟨A', c', rfl, ho, hF⟩ := h
  exact ⟨⟨A', c', rfl, (RowOf.own ho).2⟩, hF⟩
def Wn (L zs want : List Int) (bad : Int) : Prop := (∃ Ln F C, L = cI Ln ∧ (∀ x ∈ Ln, x < 512) ∧ IsSA Ln F ∧ zs = cI F ∧ IsCm Ln F C ∧ want = cI C ∧ bad = 0) ∨ ((L.all (okS 512) = false ∨ ∀ Ln F, L = cI Ln → IsSA Ln F → zs ≠ cI F) ∧ want = [] ∧ bad = 1)
theorem wn_good {L zs want : List Int} {bad : Int} {Ln F C : List Nat} (h : Wn L zs want bad) (h1 : L = cI Ln) (h2 : zs = cI F) (hx : ∀ x ∈ Ln, x < 512) (h3 : IsSA Ln F) (h4 : IsCm Ln F C) : want = cI C ∧ bad = 0 := by
  rcases h with ⟨L2, F2, C2, a1, _, a2, a3, a4, a5, a6⟩ | ⟨a, _⟩
  · obtain rfl := cI_inj (a1.symm.trans h1)
    obtain rfl := cI_inj (a3.symm.trans h2)
    rw [a5, a4.uniq h4]
    exact ⟨rfl, a6⟩
  · rcases a with a | a
    · rw [h1, all_nat hx] at a; cases a
    · exact absurd h2 (a _ _ h1 h3)
theorem wn_bad {L zs want : List Int} {bad : Int} (h : Wn L zs want bad) (hb : L.all (okS 512) = false ∨ ∀ Ln F, L = cI Ln → IsSA Ln F → zs ≠ cI F) : want = [] ∧ bad = 1 := by
  rcases h with ⟨L2, F2, C2, a1, ax, a2, a3, a4, a5, a6⟩ | ⟨_, a⟩
  · rcases hb with b | b
    · rw [a1, all_nat ax] at b; cases b
    · exact absurd a3 (b _ _ a1 a2)
  · exact a
set_option maxRecDepth 100000 in
set_option maxHeartbeats 4000000 in
theorem commons_law (A : Option Addr) (c : Nat) (xs : List askT.den) (w : World) (hl : xs.length * askT.bytes ≤ 140737488351232) (hel : 0 < xs.length → ∃ b o, A = some ⟨b, o, none⟩ ∧ ∀ (i : Nat) (hi : i < xs.length), askT.At w (fun j => w.cell? ⟨b, o + i * askT.size + j, none⟩) xs[i]) :
    Rt Try.prog 4 [.slice A xs.length c] w (fun v w' => v = .bool true ∧ From w w') := by
  have hlen : xs.length * 48 ≤ 140737488351232 := hl
  refine enter (n := 93) Try.func4 rfl rfl rfl ?_
  refine cd_seq ?_
  refine cd_region ?_
  refine st_val (ro_assign (v := .bool _) rfl) ?_
  refine st_nil ?_
  refine nx_then ?_
  refine cd_seq ?_
  refine cd_seq ?_
  refine cd_region ?_
  refine st_val (ro_assign (v := .int _ _) rfl) ?_
  refine st_nil ?_
  refine nx_then ?_
  refine cd_block ?_
  refine cd_loop (G := Nat) [2, 4, 5, 6, 7, 8, 9, 10, 11, 12, 13, 14, 15, 16, 17, 18, 19, 20, 21, 22, 23, 24, 25, 26, 27, 28, 29, 30, 31, 32, 33, 34, 35, 36, 37, 38, 39, 40, 41, 42, 43, 44, 45, 46, 47, 48, 49, 50, 51, 52, 53, 54, 55, 56, 57, 58, 59, 60, 61, 62, 63, 64, 65, 66, 67, 68, 69, 70, 71, 72, 73, 74, 75, 76, 77, 78, 79, 80, 81, 82, 83, 84, 85, 86, 87, 88, 89, 90, 91] (fun k => [(3, .int .i64 (k : Nat))]) (fun k w' => k ≤ xs.length ∧ From w w') (fun k => xs.length - k) (0) ⟨rfl, trivial⟩ ?_ ?_
  · exact ⟨Nat.zero_le _, From.rfl_⟩
  rintro k ρ1 w1 ⟨hk, hB⟩
  refine cd_seq ?_
  refine cd_seq ?_
  refine cd_region ?_
  refine st_val (ro_move (v := .int _ _) rfl) ?_
  refine st_val (ro_move (v := .slice _ _ _) rfl) ?_
  refine st_val (ro_len SufLawC_l22 rfl) ?_
  refine st_val (ro_lss rfl rfl) ?_
  refine st_val (ro_move (v := .bool _) rfl) ?_
  refine st_split (t := 15) rfl (fun Q2 => ?_) (fun Q2 => ?_)
  · (try first | replace Q2 := bn_t Q2 | replace Q2 := bn_f Q2)
    (try first | replace Q2 := bx_t Q2 | replace Q2 := bx_f Q2 | replace Q2 := be_t Q2 | replace Q2 := be_f Q2 | replace Q2 := of_decide_eq_true Q2 | replace Q2 := of_decide_eq_false Q2)
    obtain ⟨b, o, rfl, hel2⟩ := hel (by omega)
    obtain ⟨A1, ca, L, A2, cb, M, hask⟩ := ask_at (hel2 k (by omega))
    have hlL := hask.lenL
    have hlM := hask.lenM
    first
     | (exfalso; first | omega | contradiction | (cases Q2; done))
     | skip
       refine st_unguard rfl ?_
       refine st_val (ro_move (v := .int _ _) rfl) ?_
       refine st_unguard rfl ?_
       refine st_val (ro_lss rfl rfl) ?_
       refine st_val (ro_pickT (v := .bool _) rfl rfl) ?_
       refine st_nil ?_
       refine nx_then ?_
       refine cd_cond rfl (fun Q3 => ?_) (fun Q3 => ?_)
       · (try first | replace Q3 := bn_t Q3 | replace Q3 := bn_f Q3)
         (try first | replace Q3 := bx_t Q3 | replace Q3 := bx_f Q3 | replace Q3 := be_t Q3 | replace Q3 := be_f Q3 | replace Q3 := of_decide_eq_true Q3 | replace Q3 := of_decide_eq_false Q3)
         first
          | (exfalso; first | omega | contradiction | (cases Q3; done))
          | skip
            refine cd_skip ?_
            refine nx_then ?_
            refine cd_seq ?_
            refine cd_block ?_
            refine cd_seq ?_
            refine cd_seq ?_
            refine cd_region ?_
            refine st_val (ro_move (v := .slice _ _ _) rfl) ?_
            refine st_val (ro_move (v := .int _ _) rfl) ?_
            refine st_val (ro_indexAddrN SufLawC_e22 rfl rfl (by omega)) ?_
            refine st_val (ro_loadA (cs := [_, _]) SufLawC_g26 SufLawC_z26 rfl (by exact rangeF hB hask.cells)) ?_
            refine st_call SufLawC_k7 (heavy_any A1 A2 L.length ca M.length cb _) ?_
            rintro v25 w4 ⟨rfl, E25⟩
            refine st_nil ?_
            refine nx_then ?_
            refine cd_cond rfl (fun Q5 => ?_) (fun Q5 => ?_)
            · (try first | replace Q5 := bn_t Q5 | replace Q5 := bn_f Q5)
              (try first | replace Q5 := bx_t Q5 | replace Q5 := bx_f Q5 | replace Q5 := be_t Q5 | replace Q5 := be_f Q5 | replace Q5 := of_decide_eq_true Q5 | replace Q5 := of_decide_eq_false Q5)
              first
               | (exfalso; first | omega | contradiction | (cases Q5; done))
               | skip
                 refine cd_seq ?_
                 refine cd_region ?_
                 refine st_val (ro_assign (v := .bool _) rfl) ?_
                 refine st_nil ?_
                 refine nx_then ?_
                 refine cd_ret ?_
                 refine rt_then ?_
                 refine rt_block ?_
                 refine rt_then ?_
                 refine rt_then ?_
                 refine rt_block ?_
                 refine rt_then ?_
                 refine res1 (v := .bool _) rfl rfl ?_
                 exact ⟨rfl, (hB.next E25)⟩
            · (try first | replace Q5 := bn_t Q5 | replace Q5 := bn_f Q5)
              (try first | replace Q5 := bx_t Q5 | replace Q5 := bx_f Q5 | replace Q5 := be_t Q5 | replace Q5 := be_f Q5 | replace Q5 := of_decide_eq_true Q5 | replace Q5 := of_decide_eq_false Q5)
              first
               | (exfalso; first | omega | contradiction | (cases Q5; done))
               | skip
                 refine cd_skip ?_
                 refine nx_then ?_
                 refine cd_seq ?_
                 refine cd_region ?_
                 refine st_val (ro_move (v := .slice _ _ _) rfl) ?_
                 refine st_val (ro_move (v := .int _ _) rfl) ?_
                 refine st_val (ro_indexAddrN SufLawC_e22 rfl rfl (by omega)) ?_
                 refine st_val (ro_fieldAddr SufLawC_f26_0 rfl) ?_
                 refine st_val (ro_load SufLawC_g24 rfl (by exact cellF (hB.next E25) (hask.cells 0 _ rfl))) ?_
                 refine st_call SufLawC_k10 (may_rt 512 A1 ca L.length L _ (hask.rowL.from_ (hB.next E25)) rfl (by omega)) ?_
                 rintro v31 w6 ⟨rfl, E31⟩
                 refine st_val (ro_assign (v := .bool _) rfl) ?_
                 refine st_nil ?_
                 refine nx_then ?_
                 refine cd_seq ?_
                 refine cd_region ?_
                 refine st_val (ro_assign (v := .int _ _) rfl) ?_
                 refine st_nil ?_
                 refine nx_then ?_
                 refine cd_block ?_
                 refine cd_loop (G := Nat) [2, 6, 7, 8, 9, 10, 32, 33, 34, 35, 36, 37, 38, 39, 40, 41, 42, 43, 44, 45, 46, 47, 48, 49, 50, 51, 52, 53, 54, 55, 56, 57, 58, 59, 60, 61, 62, 63, 64, 65, 66, 67, 68, 69, 70, 71, 72, 73, 74, 75, 76, 77, 78, 79, 80, 81, 82, 83, 84, 85, 86, 87, 88, 89, 90, 91] (fun q => [(5, .int .i64 (q : Nat))]) (fun q w' => q ≤ 2 ∧ From w w') (fun q => 2 - q) (0) ⟨rfl, trivial⟩ ?_ ?_
                 · exact ⟨by omega, ((hB.next E25).next E31)⟩
                 rintro q ρ7 w7 ⟨hq, hB⟩
                 refine cd_seq ?_
                 refine cd_seq ?_
                 refine cd_region ?_
                 refine st_val (ro_move (v := .int _ _) rfl) ?_
                 refine st_val (ro_lss rfl rfl) ?_
                 refine st_nil ?_
                 refine nx_then ?_
                 refine cd_cond rfl (fun Q8 => ?_) (fun Q8 => ?_)
                 · (try first | replace Q8 := bn_t Q8 | replace Q8 := bn_f Q8)
                   (try first | replace Q8 := bx_t Q8 | replace Q8 := bx_f Q8 | replace Q8 := be_t Q8 | replace Q8 := be_f Q8 | replace Q8 := of_decide_eq_true Q8 | replace Q8 := of_decide_eq_false Q8)
                   first
                    | (exfalso; first | omega | contradiction | (cases Q8; done))
                    | skip
                      refine cd_skip ?_
                      refine nx_then ?_
                      refine cd_seq ?_
                      refine cd_block ?_
                      refine cd_seq ?_
                      refine cd_region ?_
                      refine st_val (ro_move (v := .slice _ _ _) rfl) ?_
                      refine st_val (ro_move (v := .int _ _) rfl) ?_
                      refine st_val (ro_indexAddrN SufLawC_e22 rfl rfl (by omega)) ?_
                      refine st_val (ro_fieldAddr SufLawC_f26_1 rfl) ?_
                      refine st_val (ro_load SufLawC_g24 rfl (by exact cellF hB (hask.cells 1 _ rfl))) ?_
                      refine st_val (ro_assign (v := .slice _ _ _) rfl) ?_
                      refine st_nil ?_
                      refine nx_then ?_
                      refine cd_cut (G := Option Addr × Nat × Nat × List Int) [41, 42, 43, 44, 45, 46, 47, 48, 49, 50, 51] (fun (A6, n6, c6, _) => [(6, .slice A6 n6 c6)]) (fun (A6, n6, _, zs) w' => RowOf iV w' A6 zs ∧ n6 = zs.length ∧ n6 ≤ 1000 ∧ From w w') ?_ ?_
                      · refine cd_seq ?_
                        refine cd_region ?_
                        refine st_val (ro_move (v := .int _ _) rfl) ?_
                        refine st_val (ro_eql rfl rfl) ?_
                        refine st_val (ro_move (v := .bool _) rfl) ?_
                        refine st_split (t := 43) rfl (fun Q9 => ?_) (fun Q9 => ?_)
                        · (try first | replace Q9 := bn_t Q9 | replace Q9 := bn_f Q9)
                          (try first | replace Q9 := bx_t Q9 | replace Q9 := bx_f Q9 | replace Q9 := be_t Q9 | replace Q9 := be_f Q9 | replace Q9 := of_decide_eq_true Q9 | replace Q9 := of_decide_eq_false Q9)
                          first
                           | (exfalso; first | omega | contradiction | (cases Q9; done))
                           | skip
                             refine st_unguard rfl ?_
                             refine st_val (ro_move (v := .bool _) rfl) ?_
                             refine st_val (ro_pickT (v := .bool _) rfl rfl) ?_
                             refine st_nil ?_
                             refine nx_then ?_
                             refine cd_cond rfl (fun Q10 => ?_) (fun Q10 => ?_)
                             · (try first | replace Q10 := bn_t Q10 | replace Q10 := bn_f Q10)
                               (try first | replace Q10 := bx_t Q10 | replace Q10 := bx_f Q10 | replace Q10 := be_t Q10 | replace Q10 := be_f Q10 | replace Q10 := of_decide_eq_true Q10 | replace Q10 := of_decide_eq_false Q10)
                               obtain ⟨Ln, hLn, hlt⟩ := nat_list (xs := L) (by simpa using Q10)
                               first
                                | (exfalso; first | omega | contradiction | (cases Q10; done))
                                | skip
                                  refine cd_region ?_
                                  refine st_val (ro_move (v := .slice _ _ _) rfl) ?_
                                  refine st_val (ro_move (v := .int _ _) rfl) ?_
                                  refine st_val (ro_indexAddrN SufLawC_e22 rfl rfl (by omega)) ?_
                                  refine st_val (ro_fieldAddr SufLawC_f26_0 rfl) ?_
                                  refine st_val (ro_load SufLawC_g24 rfl (by exact cellF hB (hask.cells 0 _ rfl))) ?_
                                  refine st_call SufLawC_k13 (refSort_rt Ln A1 ca L.length _ (by rw [cI, ← hLn]; exact hask.rowL.from_ hB) (by rw [hLn, List.length_map]) (by omega)) ?_
                                  rintro v51 w11 ⟨⟨B51, c51, F51, rfl, hg51, hSA51⟩, E51⟩
                                  refine st_val (ro_assign (v := .slice _ _ _) rfl) ?_
                                  refine st_nil ?_
                                  refine nx_cut ((B51, L.length, c51, cI F51)) ⟨(by first | rfl | (refine int_eq ?_; omega)), trivial⟩ (by (iterate 13 refine agr_cons rfl ?_); exact agr_rfl) ?_
                                  exact ⟨hg51.row, hg51.len.trans (by rw [List.length_map]), by omega, (hB.next E51)⟩
                             · (try first | replace Q10 := bn_t Q10 | replace Q10 := bn_f Q10)
                               (try first | replace Q10 := bx_t Q10 | replace Q10 := bx_f Q10 | replace Q10 := be_t Q10 | replace Q10 := be_f Q10 | replace Q10 := of_decide_eq_true Q10 | replace Q10 := of_decide_eq_false Q10)
                               first
                                | (exfalso; first | omega | contradiction | (cases Q10; done))
                                | skip
                                  refine cd_skip ?_
                                  refine nx_cut ((A2, M.length, cb, M)) ⟨(by first | rfl | (refine int_eq ?_; omega)), trivial⟩ (by (iterate 6 refine agr_cons rfl ?_); exact agr_rfl) ?_
                                  exact ⟨hask.rowM.from_ hB, rfl, by omega, hB⟩
                        · (try first | replace Q9 := bn_t Q9 | replace Q9 := bn_f Q9)
                          (try first | replace Q9 := bx_t Q9 | replace Q9 := bx_f Q9 | replace Q9 := be_t Q9 | replace Q9 := be_f Q9 | replace Q9 := of_decide_eq_true Q9 | replace Q9 := of_decide_eq_false Q9)
                          first
                           | (exfalso; first | omega | contradiction | (cases Q9; done))
                           | skip
                             refine st_gno rfl rfl ?_
                             refine st_val (ro_pickF (v := .bool _) rfl rfl) ?_
                             refine st_nil ?_
                             refine nx_then ?_
                             refine cd_condF rfl ?_
                             refine cd_skip ?_
                             refine nx_cut ((A2, M.length, cb, M)) ⟨(by first | rfl | (refine int_eq ?_; omega)), trivial⟩ (by (iterate 6 refine agr_cons rfl ?_); exact agr_rfl) ?_
                             exact ⟨hask.rowM.from_ hB, rfl, by omega, hB⟩
                      · rintro ⟨A6, n6, c6, zs⟩ ρ12 w12 ⟨hz, hzn, hz1, hB⟩
                        refine cd_seq ?_
                        refine cd_region ?_
                        refine st_val (ro_assign (v := .slice _ _ _) rfl) ?_
                        refine st_val (ro_assign (v := .int _ _) rfl) ?_
                        refine st_nil ?_
                        refine nx_then ?_
                        refine cd_cut (G := Option Addr × Nat × Nat × List Int × Int) [52, 53, 54, 55, 56, 57, 58, 59, 60, 61, 62, 63, 64, 65, 66, 67, 68, 69] (fun (A7, n7, c7, _, bad) => [(7, .slice A7 n7 c7), (8, .int .i64 bad)]) (fun (A7, n7, _, want, bad) w' => RowOf iV w' A7 want ∧ n7 = want.length ∧ n7 ≤ 1000 ∧ RowOf iV w' A6 zs ∧ Wn L zs want bad ∧ From w w') ?_ ?_
                        · refine cd_seq ?_
                          refine cd_region ?_
                          refine st_val (ro_move (v := .bool _) rfl) ?_
                          refine st_val (ro_move (v := .bool _) rfl) ?_
                          refine st_split (t := 53) rfl (fun Q13 => ?_) (fun Q13 => ?_)
                          · (try first | replace Q13 := bn_t Q13 | replace Q13 := bn_f Q13)
                            (try first | replace Q13 := bx_t Q13 | replace Q13 := bx_f Q13 | replace Q13 := be_t Q13 | replace Q13 := be_f Q13 | replace Q13 := of_decide_eq_true Q13 | replace Q13 := of_decide_eq_false Q13)
                            obtain ⟨Ln, hLn, hlt⟩ := nat_list (xs := L) (by simpa using Q13)
                            first
                             | (exfalso; first | omega | contradiction | (cases Q13; done))
                             | skip
                               refine st_unguard rfl ?_
                               refine st_val (ro_move (v := .slice _ _ _) rfl) ?_
                               refine st_unguard rfl ?_
                               refine st_val (ro_move (v := .slice _ _ _) rfl) ?_
                               refine st_unguard rfl ?_
                               refine st_val (ro_move (v := .int _ _) rfl) ?_
                               refine st_unguard rfl ?_
                               refine st_val (ro_indexAddrN SufLawC_e22 rfl rfl (by omega)) ?_
                               refine st_unguard rfl ?_
                               refine st_val (ro_fieldAddr SufLawC_f26_0 rfl) ?_
                               refine st_unguard rfl ?_
                               refine st_val (ro_load SufLawC_g24 rfl (by exact cellF hB (hask.cells 0 _ rfl))) ?_
                               refine st_unguard rfl ?_
                               refine st_call SufLawC_k13 (refSort_rt Ln A1 ca L.length _ (by rw [cI, ← hLn]; exact hask.rowL.from_ hB) (by rw [hLn, List.length_map]) (by omega)) ?_
                               rintro v60 w14 ⟨⟨B60, c60, F60, rfl, hg60, hSA60⟩, E60⟩
                               refine st_unguard rfl ?_
                               refine st_call SufLawC_k12 (eq_n A6 B60 c6 c60 n6 L.length zs (cI F60) _ (hz.from_ (From.rfl_.next E60)) hg60.row hzn (hg60.len.trans (by rw [List.length_map])) (by omega)) ?_
                               rintro v61 w15 ⟨rfl, E61⟩
                               refine st_val (ro_pickT (v := .bool _) rfl rfl) ?_
                               refine st_nil ?_
                               refine nx_then ?_
                               refine cd_cond rfl (fun Q16 => ?_) (fun Q16 => ?_)
                               · (try first | replace Q16 := bn_t Q16 | replace Q16 := bn_f Q16)
                                 (try first | replace Q16 := bx_t Q16 | replace Q16 := bx_f Q16 | replace Q16 := be_t Q16 | replace Q16 := be_f Q16 | replace Q16 := of_decide_eq_true Q16 | replace Q16 := of_decide_eq_false Q16)
                                 have hze : zs = cI F60 := by simpa using Q16
                                 first
                                  | (exfalso; first | omega | contradiction | (cases Q16; done))
                                  | skip
                                    refine cd_region ?_
                                    refine st_val (ro_move (v := .slice _ _ _) rfl) ?_
                                    refine st_val (ro_move (v := .int _ _) rfl) ?_
                                    refine st_val (ro_indexAddrN SufLawC_e22 rfl rfl (by omega)) ?_
                                    refine st_val (ro_fieldAddr SufLawC_f26_0 rfl) ?_
                                    refine st_val (ro_load SufLawC_g24 rfl (by exact cellF ((hB.next E60).next E61) (hask.cells 0 _ rfl))) ?_
                                    refine st_val (ro_move (v := .slice _ _ _) rfl) ?_
                                    refine st_call SufLawC_k16 (refCommon_rt A1 A6 ca c6 L.length n6 Ln F60 _ (by rw [cI, ← hLn]; exact hask.rowL.from_ ((hB.next E60).next E61)) (by rw [hLn, List.length_map]) (by rw [← hze]; exact hz.from_ ((From.rfl_.next E60).next E61)) (hzn.trans (by rw [hze, List.length_map])) (by rw [hzn, hze, List.length_map, hSA60.len, hLn, List.length_map]) (by omega) (fun k hk => by rw [hLn, List.length_map]; exact (isSA_getD hSA60 (by rw [hzn, hze, List.length_map, hSA60.len] at hk; exact hk)).1)) ?_
                                    rintro v69 w17 ⟨⟨A69, c69, C69, rfl, ho69, hcm69⟩, E69⟩
                                    refine st_val (ro_assign (v := .slice _ _ _) rfl) ?_
                                    refine st_val (ro_assign (v := .int _ _) rfl) ?_
                                    refine st_nil ?_
                                    refine nx_cut ((A69, n6, c69, cI C69, 0)) ⟨(by first | rfl | (refine int_eq ?_; omega)), (by first | rfl | (refine int_eq ?_; omega)), trivial⟩ (by (iterate 21 refine agr_cons rfl ?_); exact agr_rfl) ?_
                                    exact ⟨(RowOf.own ho69).2, by rw [List.length_map, hcm69.len]; exact hzn.trans (by rw [hze, List.length_map]), hz1, hz.from_ (((From.rfl_.next E60).next E61).next E69), .inl ⟨Ln, F60, C69, hLn, hlt, hSA60, hze, hcm69, rfl, rfl⟩, (((hB.next E60).next E61).next E69)⟩
                               · (try first | replace Q16 := bn_t Q16 | replace Q16 := bn_f Q16)
                                 (try first | replace Q16 := bx_t Q16 | replace Q16 := bx_f Q16 | replace Q16 := be_t Q16 | replace Q16 := be_f Q16 | replace Q16 := of_decide_eq_true Q16 | replace Q16 := of_decide_eq_false Q16)
                                 have hne : ¬ zs = cI F60 := by simpa using Q16
                                 have hbad : (L.all (okS 512) = false ∨ ∀ Ln F, L = cI Ln → IsSA Ln F → zs ≠ cI F) := .inr (fun L2 F2 e1 e2 e3 => hne (by obtain rfl := cI_inj (e1.symm.trans hLn); rw [e3, e2.uniq hSA60]))
                                 first
                                  | (exfalso; first | omega | contradiction | (cases Q16; done))
                                  | skip
                                    refine cd_skip ?_
                                    refine nx_cut ((none, 0, 0, [], 1)) ⟨(by first | rfl | (refine int_eq ?_; omega)), (by first | rfl | (refine int_eq ?_; omega)), trivial⟩ (by (iterate 12 refine agr_cons rfl ?_); exact agr_rfl) ?_
                                    exact ⟨RowOf.nil, rfl, by omega, hz.from_ ((From.rfl_.next E60).next E61), .inr ⟨hbad, rfl, rfl⟩, ((hB.next E60).next E61)⟩
                          · (try first | replace Q13 := bn_t Q13 | replace Q13 := bn_f Q13)
                            (try first | replace Q13 := bx_t Q13 | replace Q13 := bx_f Q13 | replace Q13 := be_t Q13 | replace Q13 := be_f Q13 | replace Q13 := of_decide_eq_true Q13 | replace Q13 := of_decide_eq_false Q13)
                            have hbad : (L.all (okS 512) = false ∨ ∀ Ln F, L = cI Ln → IsSA Ln F → zs ≠ cI F) := .inl (by simpa using Q13)
                            first
                             | (exfalso; first | omega | contradiction | (cases Q13; done))
                             | skip
                               refine st_gno rfl rfl ?_
                               refine st_gno rfl rfl ?_
                               refine st_gno rfl rfl ?_
                               refine st_gno rfl rfl ?_
                               refine st_gno rfl rfl ?_
                               refine st_gno rfl rfl ?_
                               refine st_gno rfl rfl ?_
                               refine st_gno rfl rfl ?_
                               refine st_val (ro_pickF (v := .bool _) rfl rfl) ?_
                               refine st_nil ?_
                               refine nx_then ?_
                               refine cd_condF rfl ?_
                               refine cd_skip ?_
                               refine nx_cut ((none, 0, 0, [], 1)) ⟨(by first | rfl | (refine int_eq ?_; omega)), (by first | rfl | (refine int_eq ?_; omega)), trivial⟩ (by (iterate 12 refine agr_cons rfl ?_); exact agr_rfl) ?_
                               exact ⟨RowOf.nil, rfl, by omega, hz.from_ From.rfl_, .inr ⟨hbad, rfl, rfl⟩, hB⟩
                        · rintro ⟨A7, n7, c7, want, bad⟩ ρ18 w18 ⟨hw7, hwn, hw1, hz, hW, hB⟩
                          refine cd_seq ?_
                          refine cd_region ?_
                          refine st_val (ro_move (v := .slice _ _ _) rfl) ?_
                          refine st_val (ro_move (v := .int _ _) rfl) ?_
                          refine st_val (ro_indexAddrN SufLawC_e22 rfl rfl (by omega)) ?_
                          refine st_val (ro_fieldAddr SufLawC_f26_0 rfl) ?_
                          refine st_val (ro_load SufLawC_g24 rfl (by exact cellF hB (hask.cells 0 _ rfl))) ?_
                          refine st_call SufLawC_k8 (copyI A1 ca L.length L _ (hask.rowL.from_ hB) rfl (by omega)) ?_
                          rintro v76 w19 ⟨⟨A76, c76, rfl, hr76⟩, E76⟩
                          refine st_val (ro_move (v := .slice _ _ _) rfl) ?_
                          refine st_call SufLawC_k8 (copyI A6 c6 n6 zs _ (hz.from_ (From.rfl_.next E76)) hzn (by omega)) ?_
                          rintro v78 w20 ⟨⟨A78, c78, rfl, hr78⟩, E78⟩
                          refine st_call SufLawC_k17 (common_rt A76 A78 c76 c78 L.length n6 L zs _ (hr76.from_ E78) rfl hr78 hzn (by omega) (by omega)) ?_
                          rintro v79 w21 ⟨hc79, E79⟩
                          rcases hc79 with ⟨L9, F9, C9, A9, h91, h92, h93, h94, h95, rfl, ho9⟩ | ⟨hb9, rfl⟩
                          · obtain ⟨rfl, rfl⟩ := wn_good hW h91 h92 h93 h94 h95
                            have hx89 := (sortA_own ho9).2
                            have hy89 : L.length = (cI C9).length := by rw [List.length_map]; exact (sortA_own ho9).1
                            have hz89 : L.length ≤ 1000000 := by omega
                            refine st_val (ro_move (v := .tuple _) rfl) ?_
                            refine st_val (ro_extract rfl rfl) ?_
                            refine st_val (ro_extract rfl rfl) ?_
                            refine st_val (ro_assign (v := .slice _ _ _) rfl) ?_
                            refine st_val (ro_assign (v := .int _ _) rfl) ?_
                            refine st_nil ?_
                            refine nx_then ?_
                            refine cd_seq ?_
                            refine cd_region ?_
                            refine st_val (ro_move (v := .int _ _) rfl) ?_
                            refine st_call SufLawC_k11 (num_any _ _) ?_
                            rintro v83 w22 ⟨rfl, rfl⟩
                            refine st_val (ro_move (v := .int _ _) rfl) ?_
                            refine st_val (ro_neq rfl rfl) ?_
                            refine st_val (ro_move (v := .bool _) rfl) ?_
                            refine st_split (t := 86) rfl (fun Q23 => ?_) (fun Q23 => ?_)
                            · (try first | replace Q23 := bn_t Q23 | replace Q23 := bn_f Q23)
                              (try first | replace Q23 := bx_t Q23 | replace Q23 := bx_f Q23 | replace Q23 := be_t Q23 | replace Q23 := be_f Q23 | replace Q23 := of_decide_eq_true Q23 | replace Q23 := of_decide_eq_false Q23)
                              first
                               | (exfalso; first | omega | contradiction | (cases Q23; done))
                               | skip
                                 refine st_gno rfl rfl ?_
                                 refine st_gno rfl rfl ?_
                                 refine st_gno rfl rfl ?_
                                 refine st_gno rfl rfl ?_
                                 refine st_val (ro_pickT (v := .bool _) rfl rfl) ?_
                                 refine st_nil ?_
                                 refine nx_then ?_
                                 refine cd_condT rfl ?_
                                 refine cd_seq ?_
                                 refine cd_region ?_
                                 refine st_val (ro_assign (v := .bool _) rfl) ?_
                                 refine st_nil ?_
                                 refine nx_then ?_
                                 refine cd_ret ?_
                                 refine rt_block ?_
                                 refine rt_then ?_
                                 refine rt_then ?_
                                 refine rt_block ?_
                                 refine rt_block ?_
                                 refine rt_then ?_
                                 refine rt_then ?_
                                 refine rt_block ?_
                                 refine rt_then ?_
                                 refine res1 (v := .bool _) rfl rfl ?_
                                 exact ⟨rfl, (((hB.next E76).next E78).next E79)⟩
                            · (try first | replace Q23 := bn_t Q23 | replace Q23 := bn_f Q23)
                              (try first | replace Q23 := bx_t Q23 | replace Q23 := bx_f Q23 | replace Q23 := be_t Q23 | replace Q23 := be_f Q23 | replace Q23 := of_decide_eq_true Q23 | replace Q23 := of_decide_eq_false Q23)
                              first
                               | (exfalso; first | omega | contradiction | (cases Q23; done))
                               | skip
                                 refine st_unguard rfl ?_
                                 refine st_val (ro_move (v := .slice _ _ _) rfl) ?_
                                 refine st_unguard rfl ?_
                                 refine st_val (ro_move (v := .slice _ _ _) rfl) ?_
                                 refine st_unguard rfl ?_
                                 refine st_call SufLawC_k12 (eq_same _ A7 _ c7 _ n7 _ _ hx89 (hw7.from_ (((From.rfl_.next E76).next E78).next E79)) hy89 hwn hz89) ?_
                                 rintro v89 w24 ⟨rfl, E89⟩
                                 refine st_unguard rfl ?_
                                 refine st_val (ro_not rfl) ?_
                                 refine st_val (ro_pickF (v := .bool _) rfl rfl) ?_
                                 refine st_nil ?_
                                 refine nx_then ?_
                                 refine cd_cond rfl (fun Q25 => ?_) (fun Q25 => ?_)
                                 · (try first | replace Q25 := bn_t Q25 | replace Q25 := bn_f Q25)
                                   (try first | replace Q25 := bx_t Q25 | replace Q25 := bx_f Q25 | replace Q25 := be_t Q25 | replace Q25 := be_f Q25 | replace Q25 := of_decide_eq_true Q25 | replace Q25 := of_decide_eq_false Q25)
                                   first
                                    | (exfalso; first | omega | contradiction | (cases Q25; done))
                                    | skip
                                      refine cd_seq ?_
                                      refine cd_region ?_
                                      refine st_val (ro_assign (v := .bool _) rfl) ?_
                                      refine st_nil ?_
                                      refine nx_then ?_
                                      refine cd_ret ?_
                                      refine rt_block ?_
                                      refine rt_then ?_
                                      refine rt_then ?_
                                      refine rt_block ?_
                                      refine rt_block ?_
                                      refine rt_then ?_
                                      refine rt_then ?_
                                      refine rt_block ?_
                                      refine rt_then ?_
                                      refine res1 (v := .bool _) rfl rfl ?_
                                      exact ⟨rfl, ((((hB.next E76).next E78).next E79).next E89)⟩
                                 · (try first | replace Q25 := bn_t Q25 | replace Q25 := bn_f Q25)
                                   (try first | replace Q25 := bx_t Q25 | replace Q25 := bx_f Q25 | replace Q25 := be_t Q25 | replace Q25 := be_f Q25 | replace Q25 := of_decide_eq_true Q25 | replace Q25 := of_decide_eq_false Q25)
                                   first
                                    | (exfalso; first | omega | contradiction | (cases Q25; done))
                                    | skip
                                      refine cd_skip ?_
                                      refine nx_block ?_
                                      refine nx_then ?_
                                      refine cd_region ?_
                                      refine st_val (ro_move (v := .int _ _) rfl) ?_
                                      refine st_val (ro_addN (b := 1) rfl rfl (by omega)) ?_
                                      refine st_val (ro_assign (v := .int _ _) rfl) ?_
                                      refine st_nil ?_
                                      refine nx_cut (q + 1) ⟨(by first | rfl | (refine int_eq ?_; omega)), trivial⟩ (by (iterate 137 refine agr_cons rfl ?_); exact agr_rfl) ⟨?_, ?_⟩
                                      · exact ⟨by omega, ((((hB.next E76).next E78).next E79).next E89)⟩
                                      · show 2 - (q + 1) < 2 - q; omega
                          · obtain ⟨rfl, rfl⟩ := wn_bad hW hb9
                            have hx89 : RowOf iV w21 none ([] : List Int) := RowOf.nil
                            have hy89 : 0 = ([] : List Int).length := rfl
                            have hz89 : 0 ≤ 1000000 := by omega
                            refine st_val (ro_move (v := .tuple _) rfl) ?_
                            refine st_val (ro_extract rfl rfl) ?_
                            refine st_val (ro_extract rfl rfl) ?_
                            refine st_val (ro_assign (v := .slice _ _ _) rfl) ?_
                            refine st_val (ro_assign (v := .int _ _) rfl) ?_
                            refine st_nil ?_
                            refine nx_then ?_
                            refine cd_seq ?_
                            refine cd_region ?_
                            refine st_val (ro_move (v := .int _ _) rfl) ?_
                            refine st_call SufLawC_k11 (num_any _ _) ?_
                            rintro v83 w26 ⟨rfl, rfl⟩
                            refine st_val (ro_move (v := .int _ _) rfl) ?_
                            refine st_val (ro_neq rfl rfl) ?_
                            refine st_val (ro_move (v := .bool _) rfl) ?_
                            refine st_split (t := 86) rfl (fun Q27 => ?_) (fun Q27 => ?_)
                            · (try first | replace Q27 := bn_t Q27 | replace Q27 := bn_f Q27)
                              (try first | replace Q27 := bx_t Q27 | replace Q27 := bx_f Q27 | replace Q27 := be_t Q27 | replace Q27 := be_f Q27 | replace Q27 := of_decide_eq_true Q27 | replace Q27 := of_decide_eq_false Q27)
                              first
                               | (exfalso; first | omega | contradiction | (cases Q27; done))
                               | skip
                                 refine st_gno rfl rfl ?_
                                 refine st_gno rfl rfl ?_
                                 refine st_gno rfl rfl ?_
                                 refine st_gno rfl rfl ?_
                                 refine st_val (ro_pickT (v := .bool _) rfl rfl) ?_
                                 refine st_nil ?_
                                 refine nx_then ?_
                                 refine cd_condT rfl ?_
                                 refine cd_seq ?_
                                 refine cd_region ?_
                                 refine st_val (ro_assign (v := .bool _) rfl) ?_
                                 refine st_nil ?_
                                 refine nx_then ?_
                                 refine cd_ret ?_
                                 refine rt_block ?_
                                 refine rt_then ?_
                                 refine rt_then ?_
                                 refine rt_block ?_
                                 refine rt_block ?_
                                 refine rt_then ?_
                                 refine rt_then ?_
                                 refine rt_block ?_
                                 refine rt_then ?_
                                 refine res1 (v := .bool _) rfl rfl ?_
                                 exact ⟨rfl, (((hB.next E76).next E78).next E79)⟩
                            · (try first | replace Q27 := bn_t Q27 | replace Q27 := bn_f Q27)
                              (try first | replace Q27 := bx_t Q27 | replace Q27 := bx_f Q27 | replace Q27 := be_t Q27 | replace Q27 := be_f Q27 | replace Q27 := of_decide_eq_true Q27 | replace Q27 := of_decide_eq_false Q27)
                              first
                               | (exfalso; first | omega | contradiction | (cases Q27; done))
                               | skip
                                 refine st_unguard rfl ?_
                                 refine st_val (ro_move (v := .slice _ _ _) rfl) ?_
                                 refine st_unguard rfl ?_
                                 refine st_val (ro_move (v := .slice _ _ _) rfl) ?_
                                 refine st_unguard rfl ?_
                                 refine st_call SufLawC_k12 (eq_same _ A7 _ c7 _ n7 _ _ hx89 (hw7.from_ (((From.rfl_.next E76).next E78).next E79)) hy89 hwn hz89) ?_
                                 rintro v89 w28 ⟨rfl, E89⟩
                                 refine st_unguard rfl ?_
                                 refine st_val (ro_not rfl) ?_
                                 refine st_val (ro_pickF (v := .bool _) rfl rfl) ?_
                                 refine st_nil ?_
                                 refine nx_then ?_
                                 refine cd_cond rfl (fun Q29 => ?_) (fun Q29 => ?_)
                                 · (try first | replace Q29 := bn_t Q29 | replace Q29 := bn_f Q29)
                                   (try first | replace Q29 := bx_t Q29 | replace Q29 := bx_f Q29 | replace Q29 := be_t Q29 | replace Q29 := be_f Q29 | replace Q29 := of_decide_eq_true Q29 | replace Q29 := of_decide_eq_false Q29)
                                   first
                                    | (exfalso; first | omega | contradiction | (cases Q29; done))
                                    | skip
                                      refine cd_seq ?_
                                      refine cd_region ?_
                                      refine st_val (ro_assign (v := .bool _) rfl) ?_
                                      refine st_nil ?_
                                      refine nx_then ?_
                                      refine cd_ret ?_
                                      refine rt_block ?_
                                      refine rt_then ?_
                                      refine rt_then ?_
                                      refine rt_block ?_
                                      refine rt_block ?_
                                      refine rt_then ?_
                                      refine rt_then ?_
                                      refine rt_block ?_
                                      refine rt_then ?_
                                      refine res1 (v := .bool _) rfl rfl ?_
                                      exact ⟨rfl, ((((hB.next E76).next E78).next E79).next E89)⟩
                                 · (try first | replace Q29 := bn_t Q29 | replace Q29 := bn_f Q29)
                                   (try first | replace Q29 := bx_t Q29 | replace Q29 := bx_f Q29 | replace Q29 := be_t Q29 | replace Q29 := be_f Q29 | replace Q29 := of_decide_eq_true Q29 | replace Q29 := of_decide_eq_false Q29)
                                   first
                                    | (exfalso; first | omega | contradiction | (cases Q29; done))
                                    | skip
                                      refine cd_skip ?_
                                      refine nx_block ?_
                                      refine nx_then ?_
                                      refine cd_region ?_
                                      refine st_val (ro_move (v := .int _ _) rfl) ?_
                                      refine st_val (ro_addN (b := 1) rfl rfl (by omega)) ?_
                                      refine st_val (ro_assign (v := .int _ _) rfl) ?_
                                      refine st_nil ?_
                                      refine nx_cut (q + 1) ⟨(by first | rfl | (refine int_eq ?_; omega)), trivial⟩ (by (iterate 137 refine agr_cons rfl ?_); exact agr_rfl) ⟨?_, ?_⟩
                                      · exact ⟨by omega, ((((hB.next E76).next E78).next E79).next E89)⟩
                                      · show 2 - (q + 1) < 2 - q; omega
                 · (try first | replace Q8 := bn_t Q8 | replace Q8 := bn_f Q8)
                   (try first | replace Q8 := bx_t Q8 | replace Q8 := bx_f Q8 | replace Q8 := be_t Q8 | replace Q8 := be_f Q8 | replace Q8 := of_decide_eq_true Q8 | replace Q8 := of_decide_eq_false Q8)
                   first
                    | (exfalso; first | omega | contradiction | (cases Q8; done))
                    | skip
                      refine cd_exit ?_
                      refine ex_then ?_
                      refine ex_then ?_
                      refine ex_block ?_
                      refine nx_block ?_
                      refine nx_then ?_
                      refine cd_region ?_
                      refine st_val (ro_move (v := .int _ _) rfl) ?_
                      refine st_val (ro_addN (b := 1) rfl rfl (by omega)) ?_
                      refine st_val (ro_assign (v := .int _ _) rfl) ?_
                      refine st_nil ?_
                      refine nx_cut (k + 1) ⟨(by first | rfl | (refine int_eq ?_; omega)), trivial⟩ (by (iterate 184 refine agr_cons rfl ?_); exact agr_rfl) ⟨?_, ?_⟩
                      · exact ⟨by omega, hB⟩
                      · show xs.length - (k + 1) < xs.length - k; omega
       · (try first | replace Q3 := bn_t Q3 | replace Q3 := bn_f Q3)
         (try first | replace Q3 := bx_t Q3 | replace Q3 := bx_f Q3 | replace Q3 := be_t Q3 | replace Q3 := be_f Q3 | replace Q3 := of_decide_eq_true Q3 | replace Q3 := of_decide_eq_false Q3)
         first
          | (exfalso; first | omega | contradiction | (cases Q3; done))
          | skip
            refine cd_exit ?_
            refine ex_then ?_
            refine ex_then ?_
            refine ex_block ?_
            refine nx_then ?_
            refine cd_seq ?_
            refine cd_region ?_
            refine st_call SufLawC_k15 (wakes_rt _) ?_
            rintro v92 w30 ⟨rfl, E92⟩
            refine st_val (ro_assign (v := .bool _) rfl) ?_
            refine st_nil ?_
            refine nx_then ?_
            refine cd_ret ?_
            refine res1 (v := .bool _) rfl rfl ?_
            exact ⟨rfl, (hB.next E92)⟩
  · (try first | replace Q2 := bn_t Q2 | replace Q2 := bn_f Q2)
    (try first | replace Q2 := bx_t Q2 | replace Q2 := bx_f Q2 | replace Q2 := be_t Q2 | replace Q2 := be_f Q2 | replace Q2 := of_decide_eq_true Q2 | replace Q2 := of_decide_eq_false Q2)
    first
     | (exfalso; first | omega | contradiction | (cases Q2; done))
     | skip
       refine st_gno rfl rfl ?_
       refine st_gno rfl rfl ?_
       refine st_val (ro_pickF (v := .bool _) rfl rfl) ?_
       refine st_nil ?_
       refine nx_then ?_
       refine cd_condF rfl ?_
       refine cd_exit ?_
       refine ex_then ?_
       refine ex_then ?_
       refine ex_block ?_
       refine nx_then ?_
       refine cd_seq ?_
       refine cd_region ?_
       refine st_call SufLawC_k15 (wakes_rt _) ?_
       rintro v92 w31 ⟨rfl, E92⟩
       refine st_val (ro_assign (v := .bool _) rfl) ?_
       refine st_nil ?_
       refine nx_then ?_
       refine cd_ret ?_
       refine res1 (v := .bool _) rfl rfl ?_
       exact ⟨rfl, (hB.next E92)⟩
set_option maxRecDepth 100000 in
theorem SuffixCommons_lifted (os : Os) (started : os.Started) (H : Type) (enc : TypeId × Value → H) :
    ReturnsInHanded {} Try.checked os 4 .any (Rows.suffixCommonsSpec.pre6 enc Try.prog Try.f4 Rows.suffixCommonsRow.domain false) (Rows.suffixCommonsSpec.post enc Try.prog Try.f4 false true false false) := by
  refine returnsInHanded_of_change_sized (C := Try.checked) Try.own started (by kernel_rfl) Try.func4
    (ChangeSpec.witness6 (enc := enc) (C := Try.checked) false ⟨#[], #[.slice none 0 0], []⟩ 8 (by kernel_rfl) (by kernel_rfl) (by kernel_rfl) (by kernel_rfl)) ?_
  intro W base args ds gs before hval hW _ hsz _
  exact law_step 4 Try.f4 22 4 Rows.suffixCommonsSpec Try.params4 (by kernel_rfl) Try.underlying4 rfl (fun _ => rfl) (by kernel_rfl) (of_decide_eq_true (by kernel_rfl)) (walk_sl askT (by kernel_rfl) commons_law) W base args ds gs before hval hW hsz

theorem SuffixCommons_holds : Rows.SuffixCommonsSaid :=
  OpenClaim.holds_of_wide 4 Try.f4 rfl rfl rfl rfl rfl rfl rfl ⟨rfl, rfl, rfl, rfl, rfl⟩ rfl rfl rfl rfl rfl (by kernel_rfl) Try.func4 (by kernel_rfl)
    (of_decide_eq_true (by kernel_rfl)) (by unfold Func.isWrapper; first | (rw [if_pos (by decide +kernel)]; kernel_rfl) | (rw [if_neg (by decide +kernel)]; exact ⟨rfl, rfl⟩))
    (fun os started H enc _ => SuffixCommons_lifted os started H enc)
#print axioms SuffixCommons_holds

end Go.Proofs.Ytgihpoggeaanjaa
