/- The law SessionExact. -/
import Derived.Test.YtbikemhokgcboaaSesUni
namespace Go.Proofs.Ytbikemhokgcboaa
open Go.RowKit
open Go.ChangeShapes Go.WideShapes Go.ChangeAt
theorem SesExact_g25 : aggQ Try.prog 25 = some true := by kernel_rfl
theorem SesExact_z25 : sizeQ Try.prog 25 = some 2 := by kernel_rfl
theorem SesExact_k9 : callable Try.prog 9 = true := by kernel_rfl
theorem SesExact_f25_0 : fieldQ Try.prog 25 0 = some 0 := by kernel_rfl
theorem SesExact_g22 : aggQ Try.prog 22 = some false := by kernel_rfl
theorem SesExact_k10 : callable Try.prog 10 = true := by kernel_rfl
theorem SesExact_f25_1 : fieldQ Try.prog 25 1 = some 1 := by kernel_rfl
theorem SesExact_g23 : aggQ Try.prog 23 = some false := by kernel_rfl
theorem SesExact_l23 : (elemQ Try.prog 23).isSome = true := by kernel_rfl
theorem SesExact_e23 : elemQ Try.prog 23 = some (33, 7) := by kernel_rfl
theorem SesExact_g33 : aggQ Try.prog 33 = some true := by kernel_rfl
theorem SesExact_z33 : sizeQ Try.prog 33 = some 7 := by kernel_rfl
theorem SesExact_o33 : zeroQ Try.prog 33 = some (.agg #[.int .i64 0, .int .i64 0, .int .i64 0, .int .i64 0, .int .i64 0, .int .i64 0, .slice none 0 0]) := by kernel_rfl
theorem SesExact_k11 : callable Try.prog 11 = true := by kernel_rfl
theorem SesExact_k13 : callable Try.prog 13 = true := by kernel_rfl
theorem SesExact_k12 : callable Try.prog 12 = true := by kernel_rfl
theorem SesExact_f33_0 : fieldQ Try.prog 33 0 = some 0 := by kernel_rfl
theorem SesExact_g3 : aggQ Try.prog 3 = some false := by kernel_rfl
theorem SesExact_k14 : callable Try.prog 14 = true := by kernel_rfl
theorem SesExact_o31 : zeroQ Try.prog 31 = some (.agg #[.int .i64 0, .int .i64 0, .slice none 0 0]) := by kernel_rfl
theorem SesExact_f33_1 : fieldQ Try.prog 33 1 = some 1 := by kernel_rfl
theorem SesExact_f33_2 : fieldQ Try.prog 33 2 = some 2 := by kernel_rfl
theorem SesExact_k15 : callable Try.prog 15 = true := by kernel_rfl
theorem SesExact_z31 : sizeQ Try.prog 31 = some 3 := by kernel_rfl
theorem SesExact_k16 : callable Try.prog 16 = true := by kernel_rfl
theorem SesExact_g31 : aggQ Try.prog 31 = some true := by kernel_rfl
theorem SesExact_k17 : callable Try.prog 17 = true := by kernel_rfl
theorem SesExact_k18 : callable Try.prog 18 = true := by kernel_rfl
theorem SesExact_f33_4 : fieldQ Try.prog 33 4 = some 4 := by kernel_rfl
theorem SesExact_f33_3 : fieldQ Try.prog 33 3 = some 3 := by kernel_rfl
theorem SesExact_k19 : callable Try.prog 19 = true := by kernel_rfl
theorem SesExact_k21 : callable Try.prog 21 = true := by kernel_rfl
theorem SesExact_k20 : callable Try.prog 20 = true := by kernel_rfl
theorem SesExact_k22 : callable Try.prog 22 = true := by kernel_rfl
theorem SesExact_k23 : callable Try.prog 23 = true := by kernel_rfl
theorem SesExact_k24 : callable Try.prog 24 = true := by kernel_rfl
theorem SesExact_k25 : callable Try.prog 25 = true := by kernel_rfl
theorem SesExact_k26 : callable Try.prog 26 = true := by kernel_rfl
theorem SesExact_k27 : callable Try.prog 27 = true := by kernel_rfl
theorem SesExact_k28 : callable Try.prog 28 = true := by kernel_rfl
set_option maxRecDepth 100000 in
set_option maxHeartbeats 4000000 in
theorem exact_law (A : Option Addr) (ca : Nat) (L : List Ses) (HL : List (List HitX)) (B : Option Addr) (cb : Nat) (K : List Act) (HK : List (List HitX)) (w : World) (hr : RowS w A L) (hk : RowT w B K) (hL : L.length * 64 ≤ 140737488351232) (hK : K.length * 72 ≤ 140737488351232) (hLL : L.length = HL.length ∧ ∀ i (h1 : i < L.length) (h2 : i < HL.length), L[i].hl = HL[i].length ∧ L[i].hl * 24 ≤ 140737488351232 ∧ RowHt w L[i].H HL[i]) (hKK : K.length = HK.length ∧ ∀ i (h1 : i < K.length) (h2 : i < HK.length), K[i].hl = HK[i].length ∧ K[i].hl * 24 ≤ 140737488351232 ∧ RowHt w K[i].H HK[i]) :
    Rt Try.prog 3 [.agg #[.slice A L.length ca, .slice B K.length cb]] w (fun v w' => v = .bool true ∧ From w w') := by
  refine enter (n := 190) Try.func3 rfl rfl rfl ?_
  refine cd_seq ?_
  refine cd_region ?_
  refine st_box (v := .agg _) rfl ?_
  intro b1 w1 E1 hb1 hk1
  refine st_val (ro_assign (v := .bool _) rfl) ?_
  refine st_nil ?_
  refine nx_then ?_
  refine cd_seq ?_
  refine cd_seq ?_
  refine cd_region ?_
  refine st_val (ro_loadA (cs := [_, _]) SesExact_g25 SesExact_z25 rfl (by exact hk1.whole)) ?_
  refine st_call SesExact_k9 (heavy_x A ca L B cb K _ (hr.from_ (From.rfl_.next E1)) (hk.from_ (From.rfl_.next E1)) hL hK (fun i h => (hLL.2 i h (by have := hLL.1; omega)).2.1) (fun i h => (hKK.2 i h (by have := hKK.1; omega)).2.1)) ?_
  rintro v19 w2 ⟨⟨b19, rfl, hb19⟩, E19⟩
  refine st_nil ?_
  refine nx_then ?_
  refine cd_cond rfl (fun Q3 => ?_) (fun Q3 => ?_)
  · (try first | replace Q3 := bn_t Q3 | replace Q3 := bn_f Q3)
    (try first | replace Q3 := bx_t Q3 | replace Q3 := bx_f Q3 | replace Q3 := be_t Q3 | replace Q3 := be_f Q3 | replace Q3 := of_decide_eq_true Q3 | replace Q3 := of_decide_eq_false Q3)
    first
     | (exfalso; first | omega | contradiction | (cases Q3; done))
     | skip
       refine cd_seq ?_
       refine cd_region ?_
       refine st_val (ro_assign (v := .bool _) rfl) ?_
       refine st_nil ?_
       refine nx_then ?_
       refine cd_ret ?_
       refine rt_then ?_
       refine res1 (v := .bool _) rfl rfl ?_
       first
         | exact ⟨rfl, ((From.rfl_.next E1).next E19)⟩
         | exact absurd rfl (by simp_all)
  · (try first | replace Q3 := bn_t Q3 | replace Q3 := bn_f Q3)
    (try first | replace Q3 := bx_t Q3 | replace Q3 := bx_f Q3 | replace Q3 := be_t Q3 | replace Q3 := be_f Q3 | replace Q3 := of_decide_eq_true Q3 | replace Q3 := of_decide_eq_false Q3)
    have hS0 := hb19 (by simpa using Q3)
    have hs00 : HitsOf w L HL := ⟨hLL.1, fun i h1 h2 => ⟨(hLL.2 i h1 h2).1, by have := (hLL.2 i h1 h2).1; have := hS0.2.1 i h1; omega, (hLL.2 i h1 h2).2.2⟩⟩
    obtain ⟨hSL, hSh, hSK, hSa⟩ := hS0
    first
     | (exfalso; first | omega | contradiction | (cases Q3; done))
     | skip
       refine cd_skip ?_
       refine nx_then ?_
       refine cd_seq ?_
       refine cd_region ?_
       refine st_val (ro_fieldAddr SesExact_f25_0 rfl) ?_
       refine st_val (ro_load SesExact_g22 rfl (by exact (hk1.from_ (From.rfl_.next E19)).rd 0 rfl)) ?_
       refine st_call SesExact_k10 (copySessionsH A ca L HL _ (hr.from_ ((From.rfl_.next E1).next E19)) (by omega) (hs00.from_ ((From.rfl_.next E1).next E19))) ?_
       rintro v22 w4 ⟨⟨K0, A0, c0, rfl, hK0, ho0, hcp0⟩, E22⟩
       obtain ⟨hs0, _, _⟩ := sat_copy ho0 hcp0 hK0 hs00 hSL
       have P1 := hk1.from_ ((From.rfl_.next E19).next E22)
       refine st_val (ro_assign (v := .slice _ _ _) rfl) ?_
       refine st_nil ?_
       refine nx_then ?_
       refine cd_seq ?_
       refine cd_seq ?_
       refine cd_region ?_
       refine st_val (ro_assign (v := .int _ _) rfl) ?_
       refine st_nil ?_
       refine nx_then ?_
       refine cd_block ?_
       refine cd_loop (G := Nat × Option Addr × Nat × List Ses × List (List HitX)) [2, 5, 6, 7, 8, 9, 10, 11, 12, 13, 14, 15, 16, 17, 23, 24, 25, 26, 27, 28, 29, 30, 31, 32, 33, 34, 35, 36, 37, 38, 39, 40, 41, 42, 43, 44, 45, 46, 47, 48, 49, 50, 51, 52, 53, 54, 55, 56, 57, 58, 59, 60, 61, 62, 63, 64, 65, 66, 67, 68, 69, 70, 71, 72, 73, 74, 75, 76, 77, 78, 79, 80, 81, 82, 83, 84, 85, 86, 87, 88, 89, 90, 91, 92, 93, 94, 95, 96, 97, 98, 99, 100, 101, 102, 103, 104, 105, 106, 107, 108, 109, 110, 111, 112, 113, 114, 115, 116, 117, 118, 119, 120, 121, 122, 123, 124, 125, 126, 127, 128, 129, 130, 131, 132, 133, 134, 135, 136, 137, 138, 139, 140, 141, 142, 143, 144, 145, 146, 147, 148, 149, 150, 151, 152, 153, 154, 155, 156, 157, 158, 159, 160, 161, 162, 163, 164, 165, 166, 167, 168, 169, 170, 171, 172, 173, 174, 175, 176, 177, 178, 179, 180, 181, 182, 183, 184, 185, 186, 187, 188] (fun (k, A3, c3, L3, _) => [(3, .slice A3 L3.length c3), (4, .int .i64 (k : Nat))]) (fun (k, A3, c3, L3, HL3) w' => k ≤ K.length ∧ SAt w' A3 c3 L3 HL3 ∧ Blk w' b1 25 #[.slice A L.length ca, .slice B K.length cb] ∧ From w w') (fun (k, _, _, _, _) => K.length - k) ((0, A0, c0, K0, HL)) ⟨rfl, rfl, trivial⟩ ?_ ?_
       · exact ⟨Nat.zero_le _, hs0, P1, (((From.rfl_.next E1).next E19).next E22)⟩
       rintro ⟨k, A3, c3, L3, HL3⟩ ρ5 w5 ⟨hkl, hs, P1, hB⟩
       refine cd_seq ?_
       refine cd_seq ?_
       refine cd_region ?_
       refine st_val (ro_move (v := .int _ _) rfl) ?_
       refine st_val (ro_fieldAddr SesExact_f25_1 rfl) ?_
       refine st_val (ro_load SesExact_g23 rfl (by exact (P1.from_ From.rfl_).rd 1 rfl)) ?_
       refine st_val (ro_len SesExact_l23 rfl) ?_
       refine st_val (ro_lss rfl rfl) ?_
       refine st_val (ro_move (v := .bool _) rfl) ?_
       refine st_split (t := 28) rfl (fun Q6 => ?_) (fun Q6 => ?_)
       · (try first | replace Q6 := bn_t Q6 | replace Q6 := bn_f Q6)
         (try first | replace Q6 := bx_t Q6 | replace Q6 := bx_f Q6 | replace Q6 := be_t Q6 | replace Q6 := be_f Q6 | replace Q6 := of_decide_eq_true Q6 | replace Q6 := of_decide_eq_false Q6)
         first
          | (exfalso; first | omega | contradiction | (cases Q6; done))
          | skip
            refine st_unguard rfl ?_
            refine st_val (ro_move (v := .int _ _) rfl) ?_
            refine st_unguard rfl ?_
            refine st_val (ro_lss rfl rfl) ?_
            refine st_val (ro_pickT (v := .bool _) rfl rfl) ?_
            refine st_nil ?_
            refine nx_then ?_
            refine cd_cond rfl (fun Q7 => ?_) (fun Q7 => ?_)
            · (try first | replace Q7 := bn_t Q7 | replace Q7 := bn_f Q7)
              (try first | replace Q7 := bx_t Q7 | replace Q7 := bx_f Q7 | replace Q7 := be_t Q7 | replace Q7 := be_f Q7 | replace Q7 := of_decide_eq_true Q7 | replace Q7 := of_decide_eq_false Q7)
              have hkK : k < K.length := by omega
              obtain ⟨bb, ob, rfl, hct⟩ := hk (by omega)
              have hkH : k < HK.length := by have := hKK.1; omega
              obtain ⟨hqk, _, hrk⟩ := hKK.2 k hkK hkH
              have hlk : (HK[k]'hkH).length ≤ 1000 := by have := hSa k hkK; omega
              have hl3 := hs.2.2.2.2.2
              first
               | (exfalso; first | omega | contradiction | (cases Q7; done))
               | skip
                 refine cd_skip ?_
                 refine nx_then ?_
                 refine cd_cut (G := Option Addr × Nat × List Ses × List (List HitX)) [2, 5, 6, 7, 8, 9, 10, 11, 12, 13, 14, 15, 16, 17, 34, 35, 36, 37, 38, 39, 40, 41, 42, 43, 44, 45, 46, 47, 48, 49, 50, 51, 52, 53, 54, 55, 56, 57, 58, 59, 60, 61, 62, 63, 64, 65, 66, 67, 68, 69, 70, 71, 72, 73, 74, 75, 76, 77, 78, 79, 80, 81, 82, 83, 84, 85, 86, 87, 88, 89, 90, 91, 92, 93, 94, 95, 96, 97, 98, 99, 100, 101, 102, 103, 104, 105, 106, 107, 108, 109, 110, 111, 112, 113, 114, 115, 116, 117, 118, 119, 120, 121, 122, 123, 124, 125, 126, 127, 128, 129, 130, 131, 132, 133, 134, 135, 136, 137, 138, 139, 140, 141, 142, 143, 144, 145, 146, 147, 148, 149, 150, 151, 152, 153, 154, 155, 156, 157, 158, 159, 160, 161, 162, 163, 164, 165, 166, 167, 168, 169, 170, 171, 172, 173, 174, 175, 176, 177, 178, 179, 180, 181, 182, 183, 184, 185, 186, 187, 188] (fun (A3, c3, L3, _) => [(3, .slice A3 L3.length c3)]) (fun (A3, c3, L3, HL3) w' => SAt w' A3 c3 L3 HL3 ∧ Blk w' b1 25 #[.slice A L.length ca, .slice (some ⟨bb, ob, none⟩) K.length cb] ∧ From w w') ?_ ?_
                 · refine cd_block ?_
                   refine cd_seq ?_
                   refine cd_region ?_
                   refine st_val (ro_fieldAddr SesExact_f25_1 rfl) ?_
                   refine st_val (ro_load SesExact_g23 rfl (by exact (P1.from_ From.rfl_).rd 1 rfl)) ?_
                   refine st_val (ro_move (v := .int _ _) rfl) ?_
                   refine st_val (ro_indexAddrN SesExact_e23 rfl rfl (by omega)) ?_
                   refine st_val (ro_loadA (cs := [_, _, _, _, _, _, _]) SesExact_g33 SesExact_z33 rfl (by exact rangeF hB (hct k hkK))) ?_
                   refine st_alloc SesExact_o33 ?_
                   intro b5 w8 E5 hb5 hk5
                   refine st_putW (vs := [_, _, _, _, _, _, _]) SesExact_z33 rfl rfl (by simp [Value.oneCell']) (hk5) rfl ?_
                   intro w9 O7 P7
                   have F7 : From _ w9 := E5.only O7 (by rw [hb5]; exact Nat.le_refl _)
                   replace hs := hs.from_ F7
                   replace P1 := P1.from_ F7
                   refine st_nil ?_
                   refine nx_then ?_
                   refine cd_seq ?_
                   refine cd_region ?_
                   refine st_val (ro_move (v := .slice _ _ _) rfl) ?_
                   refine st_call SesExact_k10 (copySessionsH A3 c3 L3 HL3 _ (hs.from_ From.rfl_).1 (by omega) (hs.from_ From.rfl_).2.1) ?_
                   rintro v40 w10 ⟨⟨K4, A4, c4, rfl, hK4, ho4, hcp4⟩, E40⟩
                   replace hs := hs.from_ (From.rfl_.next E40)
                   replace P1 := P1.from_ (From.rfl_.next E40)
                   replace P7 := P7.from_ (From.rfl_.next E40)
                   obtain ⟨hi, hmI, hsm⟩ := sat_copy ho4 hcp4 hK4 hs.2.1 hl3
                   have hl4 := hi.2.2.2.2.2
                   refine st_val (ro_assign (v := .slice _ _ _) rfl) ?_
                   refine st_nil ?_
                   refine nx_then ?_
                   refine cd_seq ?_
                   refine cd_region ?_
                   refine st_val (ro_move (v := .slice _ _ _) rfl) ?_
                   refine st_call SesExact_k11 (may_u A3 c3 L3 _ (hs.from_ From.rfl_).1 (by omega)) ?_
                   rintro v42 w11 ⟨⟨b42, rfl, hb42⟩, E42⟩
                   replace hs := hs.from_ (From.rfl_.next E42)
                   replace hi := hi.from_ (From.rfl_.next E42)
                   replace P1 := P1.from_ (From.rfl_.next E42)
                   replace P7 := P7.from_ (From.rfl_.next E42)
                   have hbI : b42 = true ↔ ValidL K4 := hb42.trans hsm.iff.symm
                   refine st_val (ro_assign (v := .bool _) rfl) ?_
                   refine st_nil ?_
                   refine nx_then ?_
                   refine cd_seq ?_
                   refine cd_region ?_
                   refine st_val (ro_assign (v := .int _ _) rfl) ?_
                   refine st_nil ?_
                   refine nx_then ?_
                   refine cd_cut (G := Unit) [43] (fun _ => [(8, .int .i64 (fm b42))]) (fun _ w' => w11 = w') ?_ ?_
                   · refine cd_seq ?_
                     refine cd_region ?_
                     refine st_val (ro_move (v := .bool _) rfl) ?_
                     refine st_nil ?_
                     refine nx_then ?_
                     refine cd_cond rfl (fun Q12 => ?_) (fun Q12 => ?_)
                     · (try first | replace Q12 := bn_t Q12 | replace Q12 := bn_f Q12)
                       (try first | replace Q12 := bx_t Q12 | replace Q12 := bx_f Q12 | replace Q12 := be_t Q12 | replace Q12 := be_f Q12 | replace Q12 := of_decide_eq_true Q12 | replace Q12 := of_decide_eq_false Q12)
                       have hb1 : b42 = true := by simpa using Q12
                       have hv := hb42.1 hb1
                       first
                        | (exfalso; first | omega | contradiction | (cases Q12; done))
                        | skip
                          refine cd_region ?_
                          refine st_val (ro_assign (v := .int _ _) rfl) ?_
                          refine st_nil ?_
                          refine nx_cut (()) ⟨(by rw [hb1]; rfl), trivial⟩ (by (iterate 2 refine agr_cons rfl ?_); exact agr_rfl) ?_
                          rfl
                     · (try first | replace Q12 := bn_t Q12 | replace Q12 := bn_f Q12)
                       (try first | replace Q12 := bx_t Q12 | replace Q12 := bx_f Q12 | replace Q12 := be_t Q12 | replace Q12 := be_f Q12 | replace Q12 := of_decide_eq_true Q12 | replace Q12 := of_decide_eq_false Q12)
                       have hb0 : b42 = false := by simpa using Q12
                       first
                        | (exfalso; first | omega | contradiction | (cases Q12; done))
                        | skip
                          refine cd_skip ?_
                          refine nx_cut (()) ⟨(by rw [hb0]; rfl), trivial⟩ (by (iterate 1 refine agr_cons rfl ?_); exact agr_rfl) ?_
                          rfl
                   · rintro ⟨⟩ ρ13 w13 rfl
                     refine cd_seq ?_
                     refine cd_region ?_
                     refine st_val (ro_assign (v := .slice _ _ _) rfl) ?_
                     refine st_val (ro_assign (v := .int _ _) rfl) ?_
                     refine st_nil ?_
                     refine nx_then ?_
                     refine cd_seq ?_
                     refine cd_region ?_
                     refine st_val (ro_assign (v := .slice _ _ _) rfl) ?_
                     refine st_nil ?_
                     refine nx_then ?_
                     refine cd_seq ?_
                     refine cd_region ?_
                     refine st_val (ro_assign (v := .int _ _) rfl) ?_
                     refine st_nil ?_
                     refine nx_then ?_
                     refine cd_seq ?_
                     refine cd_seq ?_
                     refine cd_region ?_
                     refine st_val (ro_move (v := .slice _ _ _) rfl) ?_
                     refine st_call SesExact_k13 (check_u A4 c4 K4 _ (hi.from_ From.rfl_).1 (by omega) b42 hbI) ?_
                     rintro v45 w14 ⟨rfl, E45⟩
                     refine st_call SesExact_k12 (num_any _ _) ?_
                     rintro v46 w15 ⟨rfl, rfl⟩
                     refine st_val (ro_move (v := .int _ _) rfl) ?_
                     refine st_val (ro_bf (ro_neq rfl rfl) (bne_self_eq_false _)) ?_
                     refine st_nil ?_
                     refine nx_then ?_
                     refine cd_condF rfl ?_
                     refine cd_skip ?_
                     refine nx_then ?_
                     refine cd_cut (G := Option Addr × Nat × List Ses × Option Addr × Nat × List Ses × Int) [2, 13, 14, 15, 16, 17, 49, 50, 51, 52, 53, 54, 55, 56, 57, 58, 59, 60, 61, 62, 63, 64, 65, 66, 67, 68, 69, 70, 71, 72, 73, 74, 75, 76, 77, 78, 79, 80, 81, 82, 83, 84, 85, 86, 87, 88, 89, 90, 91, 92, 93, 94, 95, 96, 97, 98, 99, 100, 101, 102, 103, 104, 105, 106, 107, 108, 109, 110, 111, 112, 113, 114, 115, 116, 117, 118, 119, 120, 121, 122, 123, 124, 125, 126, 127, 128, 129, 130, 131, 132, 133, 134, 135, 136, 137, 138, 139, 140, 141, 142, 143, 144, 145, 146, 147, 148, 149, 150, 151, 152, 153, 154, 155, 156, 157, 158, 159, 160, 161, 162] (fun (A9, c9, KW, A11, c11, KX, er) => [(9, .slice A9 KW.length c9), (10, .int .i64 er), (11, .slice A11 KX.length c11), (12, .int .i64 er)]) (fun (A9, c9, KW, A11, c11, KX, er) w' => (∃ (w0 : World) (base : Nat), (SAt w0 A3 c3 L3 HL3 ∧ SAt w0 A4 c4 K4 HL3 ∧ Blk w0 b1 25 #[.slice A L.length ca, .slice (some ⟨bb, ob, none⟩) K.length cb]) ∧ RowS w0 A9 KW ∧ Fin KW KX er er ∧ w0.heap.size ≤ base ∧ base ≤ w'.heap.size ∧ w'.ownsRow base 60 6 (.slice A11 KX.length c11) KX.length (KX.flatMap sesV) ∧ From w w0 ∧ From w0 w') ∧ From w w') ?_ ?_
                     · refine cd_seq ?_
                       refine cd_region ?_
                       refine st_val (ro_fieldAddr SesExact_f33_0 rfl) ?_
                       refine st_val (ro_load SesExact_g3 rfl (by exact (P7.from_ (From.rfl_.next E45)).rd 0 rfl)) ?_
                       refine st_call SesExact_k14 (within7 _ 7 _ (by omega)) ?_
                       rintro v51 w16 ⟨⟨m51, hm51, rfl⟩, rfl⟩
                       refine st_nil ?_
                       refine nx_then ?_
                       refine cd_block ?_
                       refine cd_cut (G := Bool) [71, 72] (fun x => [(70, .bool x)]) (fun _ w' => w14 = w') ?_ ?_
                       · refine cd_seq ?_
                         refine cd_region ?_
                         refine st_val (ro_eql rfl rfl) ?_
                         refine st_val (ro_assign (v := .bool _) rfl) ?_
                         refine st_nil ?_
                         refine nx_then ?_
                         refine cd_cond rfl (fun Q17 => ?_) (fun Q17 => ?_)
                         · (try first | replace Q17 := bn_t Q17 | replace Q17 := bn_f Q17)
                           (try first | replace Q17 := bx_t Q17 | replace Q17 := bx_f Q17 | replace Q17 := be_t Q17 | replace Q17 := be_f Q17 | replace Q17 := of_decide_eq_true Q17 | replace Q17 := of_decide_eq_false Q17)
                           first
                            | (exfalso; first | omega | contradiction | (cases Q17; done))
                            | skip
                              refine cd_skip ?_
                              refine nx_cut (_) ⟨rfl, trivial⟩ (by (iterate 2 refine agr_cons rfl ?_); exact agr_rfl) ?_
                              rfl
                         · (try first | replace Q17 := bn_t Q17 | replace Q17 := bn_f Q17)
                           (try first | replace Q17 := bx_t Q17 | replace Q17 := bx_f Q17 | replace Q17 := be_t Q17 | replace Q17 := be_f Q17 | replace Q17 := of_decide_eq_true Q17 | replace Q17 := of_decide_eq_false Q17)
                           first
                            | (exfalso; first | omega | contradiction | (cases Q17; done))
                            | skip
                              refine cd_region ?_
                              refine st_val (ro_eql rfl rfl) ?_
                              refine st_val (ro_assign (v := .bool _) rfl) ?_
                              refine st_nil ?_
                              refine nx_cut (_) ⟨rfl, trivial⟩ (by (iterate 4 refine agr_cons rfl ?_); exact agr_rfl) ?_
                              rfl
                       · rintro x70 ρ18 w18 rfl
                         refine cd_cond rfl (fun Q19 => ?_) (fun Q19 => ?_)
                         · (try first | replace Q19 := bn_t Q19 | replace Q19 := bn_f Q19)
                           (try first | replace Q19 := bx_t Q19 | replace Q19 := bx_f Q19 | replace Q19 := be_t Q19 | replace Q19 := be_f Q19 | replace Q19 := of_decide_eq_true Q19 | replace Q19 := of_decide_eq_false Q19)
                           first
                            | (exfalso; first | omega | contradiction | (cases Q19; done))
                            | skip
                              refine cd_seq ?_
                              refine cd_region ?_
                              have hM13 : From _ w14 := (From.rfl_.next E45)
                              have hB13 : From w w14 := (((((hB.next E5).only O7 (by rw [hb5]; exact hB.size)).next E40).next E42).next E45)
                              refine st_alloc SesExact_o31 ?_
                              intro b13 w20 E13 hb13 hk13
                              refine st_nil ?_
                              refine nx_then ?_
                              refine cd_seq ?_
                              refine cd_region ?_
                              refine st_val (ro_assign (v := .bool _) rfl) ?_
                              refine st_nil ?_
                              refine nx_then ?_
                              refine cd_cut (G := Int × Int × Option Addr × Nat × Nat × Bool × Int) [73, 74, 75, 76, 77, 78, 79, 80, 81, 82, 83] (fun (_, _, _, _, _, x, r) => [(10, .int .i64 r), (14, .bool x)]) (fun (e, n, H, hl, hc, x, r) w' => (SAt w' A3 c3 L3 HL3 ∧ SAt w' A4 c4 K4 HL3 ∧ Blk w' b1 25 #[.slice A L.length ca, .slice (some ⟨bb, ob, none⟩) K.length cb] ∧ Blk w' b5 33 (actV (K[k]'hkK)).toArray) ∧ Blk w' b13 31 #[.int .i64 e, .int .i64 n, .slice H hl hc] ∧ BegU b42 tellR L3 (K[k]'hkK).c (K[k]'hkK).s (rV e n H hl hc x r) ∧ From w w') ?_ ?_
                              · refine cd_seq ?_
                                refine cd_region ?_
                                refine st_val (ro_move (v := .bool _) rfl) ?_
                                refine st_nil ?_
                                refine nx_then ?_
                                refine cd_cond rfl (fun Q21 => ?_) (fun Q21 => ?_)
                                · (try first | replace Q21 := bn_t Q21 | replace Q21 := bn_f Q21)
                                  (try first | replace Q21 := bx_t Q21 | replace Q21 := bx_f Q21 | replace Q21 := be_t Q21 | replace Q21 := be_f Q21 | replace Q21 := of_decide_eq_true Q21 | replace Q21 := of_decide_eq_false Q21)
                                  have hb1 : b42 = true := by simpa using Q21
                                  have hv := hb42.1 hb1
                                  first
                                   | (exfalso; first | omega | contradiction | (cases Q21; done))
                                   | skip
                                     refine cd_region ?_
                                     refine st_val (ro_move (v := .slice _ _ _) rfl) ?_
                                     refine st_val (ro_fieldAddr SesExact_f33_1 rfl) ?_
                                     refine st_val (ro_load SesExact_g3 rfl (by exact (P7.from_ ((From.rfl_.next E45).next E13)).rd 1 rfl)) ?_
                                     refine st_val (ro_fieldAddr SesExact_f33_2 rfl) ?_
                                     refine st_val (ro_load SesExact_g3 rfl (by exact (P7.from_ ((From.rfl_.next E45).next E13)).rd 2 rfl)) ?_
                                     refine st_call SesExact_k15 (refBegin_rt A3 c3 L3 _ (hs.from_ ((From.rfl_.next E45).next E13)).1 (by omega) _ _) ?_
                                     rintro v80 w22 ⟨hg80, E80⟩
                                     obtain ⟨e80, n80, H80, hl80, hc80, x80, r80, rfl⟩ := beg_litR hg80
                                     refine st_val (ro_move (v := .tuple _) rfl) ?_
                                     refine st_val (ro_extract rfl rfl) ?_
                                     refine st_val (ro_extract rfl rfl) ?_
                                     refine st_val (ro_extract rfl rfl) ?_
                                     have hM27 : From _ w22 := (((From.rfl_.next E45).next E13).next E80)
                                     refine st_putW (vs := [_, _, _]) SesExact_z31 rfl rfl (by simp [Value.oneCell']) ((hk13.from_ E80)) rfl ?_
                                     intro w23 O27 P27
                                     have F27 : From _ w23 := hM27.only O27 (by rw [hb13]; exact hM13.size)
                                     replace hs := hs.from_ F27
                                     replace hi := hi.from_ F27
                                     replace P1 := P1.from_ F27
                                     replace P7 := P7.from_ F27
                                     refine st_val (ro_assign (v := .bool _) rfl) ?_
                                     refine st_val (ro_assign (v := .int _ _) rfl) ?_
                                     refine st_nil ?_
                                     refine nx_cut ((e80, n80, H80, hl80, hc80, x80, r80)) ⟨(by first | rfl | (refine int_eq ?_; omega)), (by first | rfl | (refine int_eq ?_; omega)), trivial⟩ (by (iterate 13 refine agr_cons rfl ?_); exact agr_rfl) ?_
                                     exact ⟨⟨hs.from_ From.rfl_, hi.from_ From.rfl_, P1.from_ From.rfl_, P7.from_ From.rfl_⟩, P27.from_ From.rfl_, begU_t hb1 hg80, ((((((((hB.next E5).only O7 (by rw [hb5]; exact hB.size)).next E40).next E42).next E45).next E13).next E80).only O27 (by rw [hb13]; exact hB13.size))⟩
                                · (try first | replace Q21 := bn_t Q21 | replace Q21 := bn_f Q21)
                                  (try first | replace Q21 := bx_t Q21 | replace Q21 := bx_f Q21 | replace Q21 := be_t Q21 | replace Q21 := be_f Q21 | replace Q21 := of_decide_eq_true Q21 | replace Q21 := of_decide_eq_false Q21)
                                  have hb0 : b42 = false := by simpa using Q21
                                  first
                                   | (exfalso; first | omega | contradiction | (cases Q21; done))
                                   | skip
                                     refine cd_skip ?_
                                     refine nx_cut ((0, 0, none, 0, 0, false, 1)) ⟨(by first | rfl | (refine int_eq ?_; omega)), (by first | rfl | (refine int_eq ?_; omega)), trivial⟩ (by (iterate 1 refine agr_cons rfl ?_); exact agr_rfl) ?_
                                     exact ⟨⟨hs.from_ ((From.rfl_.next E45).next E13), hi.from_ ((From.rfl_.next E45).next E13), P1.from_ ((From.rfl_.next E45).next E13), P7.from_ ((From.rfl_.next E45).next E13)⟩, hk13, begU_f hb0, ((((((hB.next E5).only O7 (by rw [hb5]; exact hB.size)).next E40).next E42).next E45).next E13)⟩
                              · rintro ⟨e28, n28, H28, hl28, hc28, x28, r28⟩ ρ24 w24 ⟨⟨hs, hi, P1, P7⟩, P13, hW28, hB⟩
                                have hhl := begU_hl hb42 hW28
                                refine cd_seq ?_
                                refine cd_region ?_
                                refine st_val (ro_move (v := .slice _ _ _) rfl) ?_
                                refine st_val (ro_fieldAddr SesExact_f33_1 rfl) ?_
                                refine st_val (ro_load SesExact_g3 rfl (by exact (P7.from_ From.rfl_).rd 1 rfl)) ?_
                                refine st_val (ro_fieldAddr SesExact_f33_2 rfl) ?_
                                refine st_val (ro_load SesExact_g3 rfl (by exact (P7.from_ From.rfl_).rd 2 rfl)) ?_
                                refine st_call SesExact_k16 (begin_u A4 c4 K4 _ (hi.from_ From.rfl_).1 (by omega) _ _ b42 hb42 hsm hW28) ?_
                                rintro v90 w25 ⟨rfl, E90⟩
                                refine st_val (ro_move (v := .tuple _) rfl) ?_
                                refine st_val (ro_extract rfl rfl) ?_
                                refine st_val (ro_extract rfl rfl) ?_
                                refine st_val (ro_extract rfl rfl) ?_
                                refine st_alloc SesExact_o31 ?_
                                intro b15 w26 E15 hb15 hk15
                                have hg15 : w.heap.size ≤ b15 := by rw [hb15]; exact ((hB.next E90)).size
                                refine st_putW (vs := [_, _, _]) SesExact_z31 rfl rfl (by simp [Value.oneCell']) (hk15) rfl ?_
                                intro w27 O28 P28
                                have F28 : From _ w27 := (E90.next E15).only O28 (by rw [hb15]; exact E90.size)
                                replace hs := hs.from_ F28
                                replace hi := hi.from_ F28
                                replace P1 := P1.from_ F28
                                replace P7 := P7.from_ F28
                                replace P13 := P13.from_ F28
                                refine st_val (ro_assign (v := .bool _) rfl) ?_
                                refine st_val (ro_assign (v := .int _ _) rfl) ?_
                                refine st_nil ?_
                                refine nx_then ?_
                                refine cd_seq ?_
                                refine cd_seq ?_
                                refine cd_region ?_
                                refine st_val (ro_move (v := .int _ _) rfl) ?_
                                refine st_call SesExact_k12 (num_any _ _) ?_
                                rintro v95 w28 ⟨rfl, rfl⟩
                                refine st_val (ro_move (v := .int _ _) rfl) ?_
                                refine st_val (ro_bf (ro_neq rfl rfl) (bne_self_eq_false _)) ?_
                                refine st_val (ro_move (v := .bool _) rfl) ?_
                                refine st_unguard rfl ?_
                                refine st_val (ro_move (v := .bool _) rfl) ?_
                                refine st_unguard rfl ?_
                                refine st_val (ro_move (v := .bool _) rfl) ?_
                                refine st_unguard rfl ?_
                                refine st_val (ro_bf (ro_neqB (by kernel_rfl) rfl rfl) (nb_self _)) ?_
                                refine st_val (ro_pickF (v := .bool _) rfl rfl) ?_
                                refine st_val (ro_move (v := .bool _) rfl) ?_
                                refine st_unguard rfl ?_
                                refine st_val (ro_loadA (cs := [_, _, _]) SesExact_g31 SesExact_z31 rfl (by exact (P28.from_ From.rfl_).whole)) ?_
                                refine st_unguard rfl ?_
                                refine st_val (ro_loadA (cs := [_, _, _]) SesExact_g31 SesExact_z31 rfl (by exact (P13.from_ From.rfl_).whole)) ?_
                                refine st_unguard rfl ?_
                                refine st_call SesExact_k17 (eqR _ _ none _ 0 _ _ _ hhl) ?_
                                rintro v106 w29 ⟨rfl, E106⟩
                                refine st_unguard rfl ?_
                                refine st_val (ro_not rfl) ?_
                                refine st_val (ro_pickF (v := .bool _) rfl rfl) ?_
                                refine st_val (ro_move (v := .bool _) rfl) ?_
                                refine st_unguard rfl ?_
                                refine st_val (ro_move (v := .slice _ _ _) rfl) ?_
                                refine st_unguard rfl ?_
                                refine st_val (ro_move (v := .slice _ _ _) rfl) ?_
                                refine st_unguard rfl ?_
                                refine st_call SesExact_k18 (eqSessionsH A4 A3 c4 c3 K4 L3 HL3 _ (hi.from_ (From.rfl_.next E106)).1 (hs.from_ (From.rfl_.next E106)).1 (by omega) (hi.from_ (From.rfl_.next E106)).2.1 (hs.from_ (From.rfl_.next E106)).2.1 hmI) ?_
                                rintro v112 w30 ⟨rfl, E112⟩
                                refine st_unguard rfl ?_
                                refine st_val (ro_not rfl) ?_
                                refine st_val (ro_pickF (v := .bool _) rfl rfl) ?_
                                refine st_nil ?_
                                refine nx_then ?_
                                refine cd_condF rfl ?_
                                refine cd_skip ?_
                                refine nx_then ?_
                                refine cd_exit ?_
                                refine ex_past rfl ?_
                                refine ex_then ?_
                                refine ex_block ?_
                                refine nx_cut ((A3, c3, L3, HL3)) ⟨(by first | rfl | (refine int_eq ?_; omega)), trivial⟩ (by (iterate 79 refine agr_cons rfl ?_); exact agr_rfl) ?_
                                exact ⟨hs.from_ ((From.rfl_.next E106).next E112), P1.from_ ((From.rfl_.next E106).next E112), (((((hB.next E90).next E15).only O28 (hg15)).next E106).next E112)⟩
                         · (try first | replace Q19 := bn_t Q19 | replace Q19 := bn_f Q19)
                           (try first | replace Q19 := bx_t Q19 | replace Q19 := bx_f Q19 | replace Q19 := be_t Q19 | replace Q19 := be_f Q19 | replace Q19 := of_decide_eq_true Q19 | replace Q19 := of_decide_eq_false Q19)
                           first
                            | (exfalso; first | omega | contradiction | (cases Q19; done))
                            | skip
                              refine cd_cut (G := Bool) [116, 117] (fun x => [(115, .bool x)]) (fun _ w' => w14 = w') ?_ ?_
                              · refine cd_seq ?_
                                refine cd_region ?_
                                refine st_val (ro_eql rfl rfl) ?_
                                refine st_val (ro_assign (v := .bool _) rfl) ?_
                                refine st_nil ?_
                                refine nx_then ?_
                                refine cd_cond rfl (fun Q31 => ?_) (fun Q31 => ?_)
                                · (try first | replace Q31 := bn_t Q31 | replace Q31 := bn_f Q31)
                                  (try first | replace Q31 := bx_t Q31 | replace Q31 := bx_f Q31 | replace Q31 := be_t Q31 | replace Q31 := be_f Q31 | replace Q31 := of_decide_eq_true Q31 | replace Q31 := of_decide_eq_false Q31)
                                  first
                                   | (exfalso; first | omega | contradiction | (cases Q31; done))
                                   | skip
                                     refine cd_skip ?_
                                     refine nx_cut (_) ⟨rfl, trivial⟩ (by (iterate 2 refine agr_cons rfl ?_); exact agr_rfl) ?_
                                     rfl
                                · (try first | replace Q31 := bn_t Q31 | replace Q31 := bn_f Q31)
                                  (try first | replace Q31 := bx_t Q31 | replace Q31 := bx_f Q31 | replace Q31 := be_t Q31 | replace Q31 := be_f Q31 | replace Q31 := of_decide_eq_true Q31 | replace Q31 := of_decide_eq_false Q31)
                                  first
                                   | (exfalso; first | omega | contradiction | (cases Q31; done))
                                   | skip
                                     refine cd_region ?_
                                     refine st_val (ro_eql rfl rfl) ?_
                                     refine st_val (ro_assign (v := .bool _) rfl) ?_
                                     refine st_nil ?_
                                     refine nx_cut (_) ⟨rfl, trivial⟩ (by (iterate 4 refine agr_cons rfl ?_); exact agr_rfl) ?_
                                     rfl
                              · rintro x115 ρ32 w32 rfl
                                refine cd_cond rfl (fun Q33 => ?_) (fun Q33 => ?_)
                                · (try first | replace Q33 := bn_t Q33 | replace Q33 := bn_f Q33)
                                  (try first | replace Q33 := bx_t Q33 | replace Q33 := bx_f Q33 | replace Q33 := be_t Q33 | replace Q33 := be_f Q33 | replace Q33 := of_decide_eq_true Q33 | replace Q33 := of_decide_eq_false Q33)
                                  first
                                   | (exfalso; first | omega | contradiction | (cases Q33; done))
                                   | skip
                                     refine cd_cut (G := Option Addr × Nat × List Ses × Int) [118, 119, 120, 121, 122, 123, 124, 125, 126, 127, 128, 129, 130, 131] (fun (A9, c9, KW, er) => [(9, .slice A9 KW.length c9), (10, .int .i64 er)]) (fun (A9, c9, KW, er) w' => (SAt w' A3 c3 L3 HL3 ∧ SAt w' A4 c4 K4 HL3 ∧ Blk w' b1 25 #[.slice A L.length ca, .slice (some ⟨bb, ob, none⟩) K.length cb] ∧ Blk w' b5 33 (actV (K[k]'hkK)).toArray) ∧ RowS w' A9 KW ∧ Uni b42 (DoneGot L3 (K[k]'hkK).c (K[k]'hkK).s (K[k]'hkK).e (K[k]'hkK).n (K[k]'hkK).hl (K[k]'hkK).i) KW er ∧ From w w') ?_ ?_
                                     · refine cd_seq ?_
                                       refine cd_region ?_
                                       refine st_val (ro_move (v := .bool _) rfl) ?_
                                       refine st_nil ?_
                                       refine nx_then ?_
                                       refine cd_cond rfl (fun Q34 => ?_) (fun Q34 => ?_)
                                       · (try first | replace Q34 := bn_t Q34 | replace Q34 := bn_f Q34)
                                         (try first | replace Q34 := bx_t Q34 | replace Q34 := bx_f Q34 | replace Q34 := be_t Q34 | replace Q34 := be_f Q34 | replace Q34 := of_decide_eq_true Q34 | replace Q34 := of_decide_eq_false Q34)
                                         have hb1 : b42 = true := by simpa using Q34
                                         have hv := hb42.1 hb1
                                         first
                                          | (exfalso; first | omega | contradiction | (cases Q34; done))
                                          | skip
                                            refine cd_region ?_
                                            refine st_val (ro_move (v := .slice _ _ _) rfl) ?_
                                            refine st_val (ro_fieldAddr SesExact_f33_1 rfl) ?_
                                            refine st_val (ro_load SesExact_g3 rfl (by exact (P7.from_ (From.rfl_.next E45)).rd 1 rfl)) ?_
                                            refine st_val (ro_fieldAddr SesExact_f33_2 rfl) ?_
                                            refine st_val (ro_load SesExact_g3 rfl (by exact (P7.from_ (From.rfl_.next E45)).rd 2 rfl)) ?_
                                            refine st_val (ro_fieldAddr SesExact_f33_4 rfl) ?_
                                            refine st_val (ro_loadA (cs := [_, _, _]) SesExact_g31 SesExact_z31 rfl (by exact rep_act (P7.from_ (From.rfl_.next E45)))) ?_
                                            refine st_val (ro_fieldAddr SesExact_f33_3 rfl) ?_
                                            refine st_val (ro_load SesExact_g3 rfl (by exact (P7.from_ (From.rfl_.next E45)).rd 3 rfl)) ?_
                                            refine st_call SesExact_k19 (refDone_rt A3 c3 L3 _ (hs.from_ (From.rfl_.next E45)).1 (by omega) hs.2.2.1 (K[k]'hkK).c (K[k]'hkK).s (K[k]'hkK).e (K[k]'hkK).n (K[k]'hkK).i (K[k]'hkK).H (K[k]'hkK).hl (K[k]'hkK).hc (valid_hl hv)) ?_
                                            rintro v129 w35 ⟨⟨K1, e1, A1, c1, rfl, hd1, hr1⟩, E129⟩
                                            refine st_val (ro_move (v := .tuple _) rfl) ?_
                                            refine st_val (ro_extract rfl rfl) ?_
                                            refine st_val (ro_extract rfl rfl) ?_
                                            refine st_val (ro_assign (v := .slice _ _ _) rfl) ?_
                                            refine st_val (ro_assign (v := .int _ _) rfl) ?_
                                            refine st_nil ?_
                                            refine nx_cut ((A1, c1, K1, e1)) ⟨(by first | rfl | (refine int_eq ?_; omega)), (by first | rfl | (refine int_eq ?_; omega)), trivial⟩ (by (iterate 16 refine agr_cons rfl ?_); exact agr_rfl) ?_
                                            exact ⟨⟨hs.from_ ((From.rfl_.next E45).next E129), hi.from_ ((From.rfl_.next E45).next E129), P1.from_ ((From.rfl_.next E45).next E129), P7.from_ ((From.rfl_.next E45).next E129)⟩, hr1, uni_t hb1 hd1, ((((((hB.next E5).only O7 (by rw [hb5]; exact hB.size)).next E40).next E42).next E45).next E129)⟩
                                       · (try first | replace Q34 := bn_t Q34 | replace Q34 := bn_f Q34)
                                         (try first | replace Q34 := bx_t Q34 | replace Q34 := bx_f Q34 | replace Q34 := be_t Q34 | replace Q34 := be_f Q34 | replace Q34 := of_decide_eq_true Q34 | replace Q34 := of_decide_eq_false Q34)
                                         have hb0 : b42 = false := by simpa using Q34
                                         first
                                          | (exfalso; first | omega | contradiction | (cases Q34; done))
                                          | skip
                                            refine cd_skip ?_
                                            refine nx_cut ((none, 0, [], 1)) ⟨(by first | rfl | (refine int_eq ?_; omega)), (by first | rfl | (refine int_eq ?_; omega)), trivial⟩ (by (iterate 1 refine agr_cons rfl ?_); exact agr_rfl) ?_
                                            exact ⟨⟨hs.from_ (From.rfl_.next E45), hi.from_ (From.rfl_.next E45), P1.from_ (From.rfl_.next E45), P7.from_ (From.rfl_.next E45)⟩, rows_nil _ _, uni_f hb0, (((((hB.next E5).only O7 (by rw [hb5]; exact hB.size)).next E40).next E42).next E45)⟩
                                     · rintro ⟨A9, c9, KW, er⟩ ρ36 w36 ⟨⟨hs, hi, P1, P7⟩, hrW, huW, hB⟩
                                       obtain ⟨KX, hKX⟩ : ∃ X : List Ses, X = KW.map norm := ⟨_, rfl⟩
                                       have hfin : Fin KW KX er er := hKX ▸ done_finW hb42 huW
                                       apply cd_drawnD 16 [(133, eqp _), (134, eqp _), (135, eqp _), (136, eqp _), (137, eqp _), (138, eqp _), (139, eqp _), (140, fun v _ => ∃ (A2 : Option Addr) (c2 : Nat), v = .agg #[.int .i64 (K[k]'hkK).e, .int .i64 (K[k]'hkK).n, .slice A2 (HK[k]'hkH).length c2]), (141, eqp _), (142, eqp _), (143, fun v w' => ∃ (A2 : Option Addr) (c2 base : Nat), v = .tuple #[.slice A2 KX.length c2, .int .i64 er] ∧ (w36).heap.size ≤ base ∧ w'.ownsRow base 60 6 (.slice A2 KX.length c2) KX.length (KX.flatMap sesV)), (132, fun v w' => ∃ (A2 : Option Addr) (c2 base : Nat), v = .tuple #[.slice A2 KX.length c2, .int .i64 er] ∧ (w36).heap.size ≤ base ∧ w'.ownsRow base 60 6 (.slice A2 KX.length c2) KX.length (KX.flatMap sesV)), (144, fun v w' => ∃ (A2 : Option Addr) (c2 base : Nat), v = .slice A2 KX.length c2 ∧ (w36).heap.size ≤ base ∧ w'.ownsRow base 60 6 (.slice A2 KX.length c2) KX.length (KX.flatMap sesV)), (145, eqp (.int .i64 er)), (11, fun v w' => ∃ (A2 : Option Addr) (c2 base : Nat), v = .slice A2 KX.length c2 ∧ (w36).heap.size ≤ base ∧ w'.ownsRow base 60 6 (.slice A2 KX.length c2) KX.length (KX.flatMap sesV)), (12, eqp (.int .i64 er))] (by repeat first | exact pq_body | refine pq_then ?_ | refine pq_block ?_) (by kernel_rfl) (by kernel_rfl) ⟨eqp_mono _, eqp_mono _, eqp_mono _, eqp_mono _, eqp_mono _, eqp_mono _, eqp_mono _, (fun _ _ _ _ h => h), eqp_mono _, eqp_mono _, (fun _ _ _ hF ⟨A2, c2, base, h1, h3, h4⟩ => ⟨A2, c2, base, h1, h3, h4.kept_from hF⟩), (fun _ _ _ hF ⟨A2, c2, base, h1, h3, h4⟩ => ⟨A2, c2, base, h1, h3, h4.kept_from hF⟩), (fun _ _ _ hF ⟨A2, c2, base, h1, h3, h4⟩ => ⟨A2, c2, base, h1, h3, h4.kept_from hF⟩), eqp_mono _, (fun _ _ _ hF ⟨A2, c2, base, h1, h3, h4⟩ => ⟨A2, c2, base, h1, h3, h4.kept_from hF⟩), eqp_mono _, trivial⟩
                                       case hop =>
                                        refine ⟨?_, ?_⟩
                                        · rintro - w38 D38
                                          show OpOK _ _ _ _ _ _ _
                                          exact ok_pure (ro_move (v := .slice _ _ _) rfl) rfl
                                        refine ⟨?_, ?_⟩
                                        · rintro - w39 D39
                                          show OpOK _ _ _ _ _ _ _
                                          exact ok_pure (ro_fieldAddr SesExact_f33_1 rfl) rfl
                                        refine ⟨?_, ?_⟩
                                        · rintro - w40 D40
                                          rintro _ rfl
                                          show OpOK _ _ _ _ _ _ _
                                          exact ok_pure (ro_load SesExact_g3 rfl (by exact (P7.from_ (From.rfl_.next D40)).rd 1 rfl)) rfl
                                        refine ⟨?_, ?_⟩
                                        · rintro - w41 D41
                                          show OpOK _ _ _ _ _ _ _
                                          exact ok_pure (ro_fieldAddr SesExact_f33_2 rfl) rfl
                                        refine ⟨?_, ?_⟩
                                        · rintro - w42 D42
                                          rintro _ rfl
                                          show OpOK _ _ _ _ _ _ _
                                          exact ok_pure (ro_load SesExact_g3 rfl (by exact (P7.from_ (From.rfl_.next D42)).rd 2 rfl)) rfl
                                        refine ⟨?_, ?_⟩
                                        · rintro - w43 D43
                                          show OpOK _ _ _ _ _ _ _
                                          exact ok_pure (ro_fieldAddr SesExact_f33_4 rfl) rfl
                                        refine ⟨?_, ?_⟩
                                        · rintro - w44 D44
                                          rintro _ rfl
                                          show OpOK _ _ _ _ _ _ _
                                          exact ok_pure (ro_loadA (cs := [_, _, _]) SesExact_g31 SesExact_z31 rfl (by exact rep_act (P7.from_ (From.rfl_.next D44)))) rfl
                                        refine ⟨?_, ?_⟩
                                        · rintro - w45 D45
                                          rintro _ rfl
                                          show OpOK _ _ _ _ _ _ _
                                          refine ok_call SesExact_k21 ((copyReplyH (K[k]'hkK).e (K[k]'hkK).n (K[k]'hkK).H (K[k]'hkK).hl (K[k]'hkK).hc (HK[k]'hkH) _ hqk (hrk.from_ (hB.next D45)) hlk).mono ?_)
                                          rintro v w2 ⟨⟨A2, c2, rfl, _⟩, hE⟩
                                          exact ⟨hE, A2, c2, rfl⟩
                                        refine ⟨?_, ?_⟩
                                        · rintro - w46 D46
                                          show OpOK _ _ _ _ _ _ _
                                          exact ok_pure (ro_fieldAddr SesExact_f33_3 rfl) rfl
                                        refine ⟨?_, ?_⟩
                                        · rintro - w47 D47
                                          rintro _ rfl
                                          show OpOK _ _ _ _ _ _ _
                                          exact ok_pure (ro_load SesExact_g3 rfl (by exact (P7.from_ (From.rfl_.next D47)).rd 3 rfl)) rfl
                                        refine ⟨?_, ?_⟩
                                        · rintro - w48 D48
                                          rintro _ rfl _ rfl _ rfl v48_140 ⟨A48, c48, rfl⟩ _ rfl
                                          show OpOK _ _ _ _ _ _ _
                                          refine ok_call SesExact_k20 ((done_u A4 c4 K4 _ (hi.from_ (From.rfl_.next D48)).1 (by omega) hi.2.2.1 _ _ _ _ _ _ _ _ b42 hbI).mono ?_)
                                          rintro v w2 ⟨⟨KY, ex, A2, c2, rfl, hu, base, hb, ho⟩, hE⟩
                                          rw [← hqk] at hu
                                          obtain ⟨hf1, hf2, _⟩ := done_fin hb42 hsm huW hu
                                          obtain rfl : KY = KX := hf2.trans hKX.symm
                                          obtain rfl : ex = er := hf1
                                          exact ⟨hE, A2, c2, base, rfl, Nat.le_trans ((From.rfl_.next D48)).size hb, ho⟩
                                        refine ⟨?_, ?_⟩
                                        · rintro - w49 D49
                                          rintro v49_143 ⟨A143_49, c143_49, base143_49, rfl, hb143_49, ho143_49⟩
                                          show OpOK _ _ _ _ _ _ _
                                          exact ok_pure (ro_move rfl) ⟨A143_49, c143_49, base143_49, rfl, hb143_49, ho143_49⟩
                                        refine ⟨?_, ?_⟩
                                        · rintro - w50 D50
                                          rintro v50_132 ⟨A132_50, c132_50, base132_50, rfl, hb132_50, ho132_50⟩
                                          show OpOK _ _ _ _ _ _ _
                                          exact ok_pure (ro_extract rfl rfl) ⟨A132_50, c132_50, base132_50, rfl, hb132_50, ho132_50⟩
                                        refine ⟨?_, ?_⟩
                                        · rintro - w51 D51
                                          rintro v51_132 ⟨A132_51, c132_51, base132_51, rfl, hb132_51, ho132_51⟩
                                          show OpOK _ _ _ _ _ _ _
                                          exact ok_pure (ro_extract rfl rfl) rfl
                                        refine ⟨?_, ?_⟩
                                        · rintro - w52 D52
                                          rintro v52_144 ⟨A144_52, c144_52, base144_52, rfl, hb144_52, ho144_52⟩
                                          show OpOK _ _ _ _ _ _ _
                                          exact ok_pure (ro_assign rfl) ⟨A144_52, c144_52, base144_52, rfl, hb144_52, ho144_52⟩
                                        refine ⟨?_, ?_⟩
                                        · rintro - w53 D53
                                          rintro v53_145 rfl
                                          show OpOK _ _ _ _ _ _ _
                                          exact ok_pure (ro_assign (v := .int _ _) rfl) rfl
                                        exact trivial
                                       case hend =>
                                        intro w54 D54
                                        rintro _ rfl _ rfl _ rfl _ rfl _ rfl _ rfl _ rfl v140 ⟨A54, c54, rfl⟩ _ rfl _ rfl v143 ⟨A143_54, c143_54, base143_54, rfl, hb143_54, ho143_54⟩ v132 ⟨A132_54, c132_54, base132_54, rfl, hb132_54, ho132_54⟩ v144 ⟨A144_54, c144_54, base144_54, rfl, hb144_54, ho144_54⟩ v145 rfl v11 ⟨A11, c11, base, rfl, hbX, hoX⟩ v12 rfl
                                        show St _ _ _ _ _ _ _
                                        refine st_nil ?_
                                        refine nx_block ?_
                                        obtain ⟨base2, hb2, hb3, ho2⟩ := own_small hoX hbX (From.rfl_.next D54)
                                        refine nx_cut ((A9, c9, KW, A11, c11, KX, er)) ⟨rfl, rfl, rfl, rfl, trivial⟩ (by (iterate 41 refine agr_cons rfl ?_); exact agr_rfl) ?_
                                        exact ⟨⟨_, base2, ⟨hs, hi, P1⟩, hrW, ⟨rfl, hfin.2⟩, hb2, hb3, ho2, hB, (From.rfl_.next D54)⟩, (hB.next D54)⟩
                                · (try first | replace Q33 := bn_t Q33 | replace Q33 := bn_f Q33)
                                  (try first | replace Q33 := bx_t Q33 | replace Q33 := bx_f Q33 | replace Q33 := be_t Q33 | replace Q33 := be_f Q33 | replace Q33 := of_decide_eq_true Q33 | replace Q33 := of_decide_eq_false Q33)
                                  first
                                   | (exfalso; first | omega | contradiction | (cases Q33; done))
                                   | skip
                                     refine cd_seq ?_
                                     refine cd_region ?_
                                     refine st_val (ro_eql rfl rfl) ?_
                                     refine st_val (ro_assign (v := .bool _) rfl) ?_
                                     refine st_nil ?_
                                     refine nx_then ?_
                                     refine cd_cond rfl (fun Q55 => ?_) (fun Q55 => ?_)
                                     · (try first | replace Q55 := bn_t Q55 | replace Q55 := bn_f Q55)
                                       (try first | replace Q55 := bx_t Q55 | replace Q55 := bx_f Q55 | replace Q55 := be_t Q55 | replace Q55 := be_f Q55 | replace Q55 := of_decide_eq_true Q55 | replace Q55 := of_decide_eq_false Q55)
                                       first
                                        | (exfalso; first | omega | contradiction | (cases Q55; done))
                                        | skip
                                          refine cd_cut (G := Option Addr × Nat × List Ses × Int) [148, 149, 150, 151, 152, 153, 154, 155] (fun (A9, c9, KW, er) => [(9, .slice A9 KW.length c9), (10, .int .i64 er)]) (fun (A9, c9, KW, er) w' => (SAt w' A3 c3 L3 HL3 ∧ SAt w' A4 c4 K4 HL3 ∧ Blk w' b1 25 #[.slice A L.length ca, .slice (some ⟨bb, ob, none⟩) K.length cb] ∧ Blk w' b5 33 (actV (K[k]'hkK)).toArray) ∧ RowS w' A9 KW ∧ Uni b42 (CloseW L3 (K[k]'hkK).c) KW er ∧ From w w') ?_ ?_
                                          · refine cd_seq ?_
                                            refine cd_region ?_
                                            refine st_val (ro_move (v := .bool _) rfl) ?_
                                            refine st_nil ?_
                                            refine nx_then ?_
                                            refine cd_cond rfl (fun Q56 => ?_) (fun Q56 => ?_)
                                            · (try first | replace Q56 := bn_t Q56 | replace Q56 := bn_f Q56)
                                              (try first | replace Q56 := bx_t Q56 | replace Q56 := bx_f Q56 | replace Q56 := be_t Q56 | replace Q56 := be_f Q56 | replace Q56 := of_decide_eq_true Q56 | replace Q56 := of_decide_eq_false Q56)
                                              have hb1 : b42 = true := by simpa using Q56
                                              have hv := hb42.1 hb1
                                              first
                                               | (exfalso; first | omega | contradiction | (cases Q56; done))
                                               | skip
                                                 refine cd_region ?_
                                                 refine st_val (ro_move (v := .slice _ _ _) rfl) ?_
                                                 refine st_val (ro_fieldAddr SesExact_f33_1 rfl) ?_
                                                 refine st_val (ro_load SesExact_g3 rfl (by exact (P7.from_ (From.rfl_.next E45)).rd 1 rfl)) ?_
                                                 refine st_call SesExact_k22 (refClose_rt A3 c3 L3 _ (hs.from_ (From.rfl_.next E45)).1 (by omega) hs.2.2.1 hs.2.2.2.1 hs.2.2.2.2.1 (valid_hl hv) _) ?_
                                                 rintro v153 w57 ⟨⟨K1, e1, A1, c1, rfl, hd1, hz1, hr1⟩, E153⟩
                                                 refine st_val (ro_move (v := .tuple _) rfl) ?_
                                                 refine st_val (ro_extract rfl rfl) ?_
                                                 refine st_val (ro_extract rfl rfl) ?_
                                                 refine st_val (ro_assign (v := .slice _ _ _) rfl) ?_
                                                 refine st_val (ro_assign (v := .int _ _) rfl) ?_
                                                 refine st_nil ?_
                                                 refine nx_cut ((A1, c1, K1, e1)) ⟨(by first | rfl | (refine int_eq ?_; omega)), (by first | rfl | (refine int_eq ?_; omega)), trivial⟩ (by (iterate 10 refine agr_cons rfl ?_); exact agr_rfl) ?_
                                                 exact ⟨⟨hs.from_ ((From.rfl_.next E45).next E153), hi.from_ ((From.rfl_.next E45).next E153), P1.from_ ((From.rfl_.next E45).next E153), P7.from_ ((From.rfl_.next E45).next E153)⟩, hr1, uni_t hb1 ⟨hd1, hz1⟩, ((((((hB.next E5).only O7 (by rw [hb5]; exact hB.size)).next E40).next E42).next E45).next E153)⟩
                                            · (try first | replace Q56 := bn_t Q56 | replace Q56 := bn_f Q56)
                                              (try first | replace Q56 := bx_t Q56 | replace Q56 := bx_f Q56 | replace Q56 := be_t Q56 | replace Q56 := be_f Q56 | replace Q56 := of_decide_eq_true Q56 | replace Q56 := of_decide_eq_false Q56)
                                              have hb0 : b42 = false := by simpa using Q56
                                              first
                                               | (exfalso; first | omega | contradiction | (cases Q56; done))
                                               | skip
                                                 refine cd_skip ?_
                                                 refine nx_cut ((none, 0, [], 1)) ⟨(by first | rfl | (refine int_eq ?_; omega)), (by first | rfl | (refine int_eq ?_; omega)), trivial⟩ (by (iterate 1 refine agr_cons rfl ?_); exact agr_rfl) ?_
                                                 exact ⟨⟨hs.from_ (From.rfl_.next E45), hi.from_ (From.rfl_.next E45), P1.from_ (From.rfl_.next E45), P7.from_ (From.rfl_.next E45)⟩, rows_nil _ _, uni_f hb0, (((((hB.next E5).only O7 (by rw [hb5]; exact hB.size)).next E40).next E42).next E45)⟩
                                          · rintro ⟨A9, c9, KW, er⟩ ρ58 w58 ⟨⟨hs, hi, P1, P7⟩, hrW, huW, hB⟩
                                            refine cd_region ?_
                                            refine st_val (ro_move (v := .slice _ _ _) rfl) ?_
                                            refine st_val (ro_fieldAddr SesExact_f33_1 rfl) ?_
                                            refine st_val (ro_load SesExact_g3 rfl (by exact (P7.from_ From.rfl_).rd 1 rfl)) ?_
                                            refine st_call SesExact_k23 (close_u A4 c4 K4 _ (hi.from_ From.rfl_).1 (by omega) hi.2.2.1 _ b42 hbI) ?_
                                            rintro v160 w59 ⟨⟨KX, ex, A11, c11, rfl, huX, base, hbX, hoX⟩, E160⟩
                                            refine st_val (ro_move (v := .tuple _) rfl) ?_
                                            refine st_val (ro_extract rfl rfl) ?_
                                            refine st_val (ro_extract rfl rfl) ?_
                                            refine st_val (ro_assign (v := .slice _ _ _) rfl) ?_
                                            refine st_val (ro_assign (v := .int _ _) rfl) ?_
                                            refine st_nil ?_
                                            refine nx_block ?_
                                            have hfin := close_fin hb42 hsm huW huX
                                            obtain ⟨base2, hb2, hb3, ho2⟩ := own_small hoX hbX (From.rfl_.next E160)
                                            refine nx_cut ((A9, c9, KW, A11, c11, KX, er)) ⟨rfl, rfl, rfl, (by rw [hfin.1]; rfl), trivial⟩ (by (iterate 30 refine agr_cons rfl ?_); exact agr_rfl) ?_
                                            exact ⟨⟨_, base2, ⟨hs, hi, P1⟩, hrW, ⟨rfl, hfin.2⟩, hb2, hb3, ho2, hB, (From.rfl_.next E160)⟩, (hB.next E160)⟩
                                     · (try first | replace Q55 := bn_t Q55 | replace Q55 := bn_f Q55)
                                       (try first | replace Q55 := bx_t Q55 | replace Q55 := bx_f Q55 | replace Q55 := be_t Q55 | replace Q55 := be_f Q55 | replace Q55 := of_decide_eq_true Q55 | replace Q55 := of_decide_eq_false Q55)
                                       first
                                        | (exfalso; first | omega | contradiction | (cases Q55; done))
                                        | skip
                                          refine cd_cut (G := Option Addr × Nat × List Ses × Int) [52, 53, 54, 55, 56, 57, 58, 59, 60, 61, 62] (fun (A9, c9, KW, er) => [(9, .slice A9 KW.length c9), (10, .int .i64 er)]) (fun (A9, c9, KW, er) w' => (SAt w' A3 c3 L3 HL3 ∧ SAt w' A4 c4 K4 HL3 ∧ Blk w' b1 25 #[.slice A L.length ca, .slice (some ⟨bb, ob, none⟩) K.length cb] ∧ Blk w' b5 33 (actV (K[k]'hkK)).toArray) ∧ RowS w' A9 KW ∧ Uni b42 (OpenGot L3 (K[k]'hkK).i) KW er ∧ From w w') ?_ ?_
                                          · refine cd_seq ?_
                                            refine cd_region ?_
                                            refine st_val (ro_move (v := .bool _) rfl) ?_
                                            refine st_val (ro_move (v := .bool _) rfl) ?_
                                            refine st_split (t := 53) rfl (fun Q60 => ?_) (fun Q60 => ?_)
                                            · (try first | replace Q60 := bn_t Q60 | replace Q60 := bn_f Q60)
                                              (try first | replace Q60 := bx_t Q60 | replace Q60 := bx_f Q60 | replace Q60 := be_t Q60 | replace Q60 := be_f Q60 | replace Q60 := of_decide_eq_true Q60 | replace Q60 := of_decide_eq_false Q60)
                                              have hb1 : b42 = true := by simpa using Q60
                                              have hv := hb42.1 hb1
                                              first
                                               | (exfalso; first | omega | contradiction | (cases Q60; done))
                                               | skip
                                                 refine st_unguard rfl ?_
                                                 refine st_val (ro_move (v := .slice _ _ _) rfl) ?_
                                                 refine st_unguard rfl ?_
                                                 refine st_val (ro_fieldAddr SesExact_f33_3 rfl) ?_
                                                 refine st_unguard rfl ?_
                                                 refine st_val (ro_load SesExact_g3 rfl (by exact (P7.from_ (From.rfl_.next E45)).rd 3 rfl)) ?_
                                                 refine st_unguard rfl ?_
                                                 refine st_call SesExact_k24 (mayOpen_rt A3 c3 L3 _ (hs.from_ (From.rfl_.next E45)).1 (by omega) _) ?_
                                                 rintro v57 w61 ⟨⟨b57, rfl, hb57⟩, rfl⟩
                                                 refine st_val (ro_pickT (v := .bool _) rfl rfl) ?_
                                                 refine st_nil ?_
                                                 refine nx_then ?_
                                                 refine cd_cond rfl (fun Q62 => ?_) (fun Q62 => ?_)
                                                 · (try first | replace Q62 := bn_t Q62 | replace Q62 := bn_f Q62)
                                                   (try first | replace Q62 := bx_t Q62 | replace Q62 := bx_f Q62 | replace Q62 := be_t Q62 | replace Q62 := be_f Q62 | replace Q62 := of_decide_eq_true Q62 | replace Q62 := of_decide_eq_false Q62)
                                                   have h57 : b57 = true := by simpa using Q62
                                                   first
                                                    | (exfalso; first | omega | contradiction | (cases Q62; done))
                                                    | skip
                                                      refine cd_region ?_
                                                      refine st_val (ro_move (v := .slice _ _ _) rfl) ?_
                                                      refine st_val (ro_fieldAddr SesExact_f33_3 rfl) ?_
                                                      refine st_val (ro_load SesExact_g3 rfl (by exact (P7.from_ (From.rfl_.next E45)).rd 3 rfl)) ?_
                                                      refine st_call SesExact_k25 (refOpen_rt A3 c3 L3 _ (hs.from_ (From.rfl_.next E45)).1 _ hv (hb57.1 h57)) ?_
                                                      rintro v62 w63 ⟨⟨K1, A1, c1, rfl, hd1, hr1⟩, E62⟩
                                                      refine st_val (ro_assign (v := .slice _ _ _) rfl) ?_
                                                      refine st_val (ro_assign (v := .int _ _) rfl) ?_
                                                      refine st_nil ?_
                                                      refine nx_cut ((A1, c1, K1, 0)) ⟨(by first | rfl | (refine int_eq ?_; omega)), (by first | rfl | (refine int_eq ?_; omega)), trivial⟩ (by (iterate 14 refine agr_cons rfl ?_); exact agr_rfl) ?_
                                                      exact ⟨⟨hs.from_ ((From.rfl_.next E45).next E62), hi.from_ ((From.rfl_.next E45).next E62), P1.from_ ((From.rfl_.next E45).next E62), P7.from_ ((From.rfl_.next E45).next E62)⟩, hr1, uni_t hb1 hd1, ((((((hB.next E5).only O7 (by rw [hb5]; exact hB.size)).next E40).next E42).next E45).next E62)⟩
                                                 · (try first | replace Q62 := bn_t Q62 | replace Q62 := bn_f Q62)
                                                   (try first | replace Q62 := bx_t Q62 | replace Q62 := bx_f Q62 | replace Q62 := be_t Q62 | replace Q62 := be_f Q62 | replace Q62 := of_decide_eq_true Q62 | replace Q62 := of_decide_eq_false Q62)
                                                   have hnoW : Uni b42 (OpenGot L3 (K[k]'hkK).i) [] 1 := uni_t hb1 (.inl ⟨fun hm => by have h57 := hb57.2 hm; simp_all, rfl, rfl⟩)
                                                   first
                                                    | (exfalso; first | omega | contradiction | (cases Q62; done))
                                                    | skip
                                                      refine cd_skip ?_
                                                      refine nx_cut ((none, 0, [], 1)) ⟨(by first | rfl | (refine int_eq ?_; omega)), (by first | rfl | (refine int_eq ?_; omega)), trivial⟩ (by (iterate 8 refine agr_cons rfl ?_); exact agr_rfl) ?_
                                                      exact ⟨⟨hs.from_ (From.rfl_.next E45), hi.from_ (From.rfl_.next E45), P1.from_ (From.rfl_.next E45), P7.from_ (From.rfl_.next E45)⟩, rows_nil _ _, hnoW, (((((hB.next E5).only O7 (by rw [hb5]; exact hB.size)).next E40).next E42).next E45)⟩
                                            · (try first | replace Q60 := bn_t Q60 | replace Q60 := bn_f Q60)
                                              (try first | replace Q60 := bx_t Q60 | replace Q60 := bx_f Q60 | replace Q60 := be_t Q60 | replace Q60 := be_f Q60 | replace Q60 := of_decide_eq_true Q60 | replace Q60 := of_decide_eq_false Q60)
                                              have hb0 : b42 = false := by simpa using Q60
                                              have hnoW : Uni b42 (OpenGot L3 (K[k]'hkK).i) [] 1 := uni_f hb0
                                              first
                                               | (exfalso; first | omega | contradiction | (cases Q60; done))
                                               | skip
                                                 refine st_gno rfl rfl ?_
                                                 refine st_gno rfl rfl ?_
                                                 refine st_gno rfl rfl ?_
                                                 refine st_gno rfl rfl ?_
                                                 refine st_val (ro_pickF (v := .bool _) rfl rfl) ?_
                                                 refine st_nil ?_
                                                 refine nx_then ?_
                                                 refine cd_condF rfl ?_
                                                 refine cd_skip ?_
                                                 refine nx_cut ((none, 0, [], 1)) ⟨(by first | rfl | (refine int_eq ?_; omega)), (by first | rfl | (refine int_eq ?_; omega)), trivial⟩ (by (iterate 8 refine agr_cons rfl ?_); exact agr_rfl) ?_
                                                 exact ⟨⟨hs.from_ (From.rfl_.next E45), hi.from_ (From.rfl_.next E45), P1.from_ (From.rfl_.next E45), P7.from_ (From.rfl_.next E45)⟩, rows_nil _ _, hnoW, (((((hB.next E5).only O7 (by rw [hb5]; exact hB.size)).next E40).next E42).next E45)⟩
                                          · rintro ⟨A9, c9, KW, er⟩ ρ64 w64 ⟨⟨hs, hi, P1, P7⟩, hrW, huW, hB⟩
                                            refine cd_region ?_
                                            refine st_val (ro_move (v := .slice _ _ _) rfl) ?_
                                            refine st_val (ro_fieldAddr SesExact_f33_3 rfl) ?_
                                            refine st_val (ro_load SesExact_g3 rfl (by exact (P7.from_ From.rfl_).rd 3 rfl)) ?_
                                            refine st_call SesExact_k26 (open_u A4 c4 K4 _ (hi.from_ From.rfl_).1 (by omega) hi.2.2.1 _ b42 hbI) ?_
                                            rintro v67 w65 ⟨⟨KX, ex, A11, c11, rfl, huX, base, hbX, hoX⟩, E67⟩
                                            refine st_val (ro_move (v := .tuple _) rfl) ?_
                                            refine st_val (ro_extract rfl rfl) ?_
                                            refine st_val (ro_extract rfl rfl) ?_
                                            refine st_val (ro_assign (v := .slice _ _ _) rfl) ?_
                                            refine st_val (ro_assign (v := .int _ _) rfl) ?_
                                            refine st_nil ?_
                                            refine nx_block ?_
                                            have hfin := open_fin hb42 hsm huW huX
                                            obtain ⟨base2, hb2, hb3, ho2⟩ := own_small hoX hbX (From.rfl_.next E67)
                                            refine nx_cut ((A9, c9, KW, A11, c11, KX, er)) ⟨rfl, rfl, rfl, (by rw [hfin.1]; rfl), trivial⟩ (by (iterate 33 refine agr_cons rfl ?_); exact agr_rfl) ?_
                                            exact ⟨⟨_, base2, ⟨hs, hi, P1⟩, hrW, ⟨rfl, hfin.2⟩, hb2, hb3, ho2, hB, (From.rfl_.next E67)⟩, (hB.next E67)⟩
                     · rintro ⟨A9, c9, KW, A11, c11, KX, er⟩ ρ66 w66 ⟨⟨w0, base, ⟨hs, hi, P1⟩, hrW, hfin, hb2, hb3, hoX, hB0, hF0⟩, hB⟩
                       have hXl := hfin.2.2.1
                       have hWl := hfin.2.2.2.2.2
                       have hX0 : ∀ i (h : i < KX.length), KX[i].hl = 0 := fun i h => (norm_none hfin.2.2.2.1 i h).2.1
                       refine cd_seq ?_
                       refine cd_seq ?_
                       refine cd_region ?_
                       refine st_val (ro_move (v := .int _ _) rfl) ?_
                       refine st_call SesExact_k12 (num_any _ _) ?_
                       rintro v164 w67 ⟨rfl, rfl⟩
                       refine st_val (ro_move (v := .int _ _) rfl) ?_
                       refine st_val (ro_bf (ro_neq rfl rfl) (bne_self_eq_false _)) ?_
                       refine st_val (ro_move (v := .bool _) rfl) ?_
                       refine st_unguard rfl ?_
                       refine st_val (ro_move (v := .slice _ _ _) rfl) ?_
                       refine st_unguard rfl ?_
                       refine st_val (ro_move (v := .slice _ _ _) rfl) ?_
                       refine st_unguard rfl ?_
                       refine st_call SesExact_k18 (eqSessions_t A11 A9 c11 c9 KX KW _ ((rowS_own hoX).2.from_ From.rfl_) (hrW.from_ (hF0.next From.rfl_)) (by omega) hX0 hfin.2.2.2.2.1 (hfin.2.2.2.1.trans hfin.2.1)) ?_
                       rintro v170 w68 ⟨rfl, E170⟩
                       refine st_unguard rfl ?_
                       refine st_val (ro_not rfl) ?_
                       refine st_val (ro_pickF (v := .bool _) rfl rfl) ?_
                       refine st_val (ro_move (v := .bool _) rfl) ?_
                       refine st_unguard rfl ?_
                       refine st_val (ro_move (v := .slice _ _ _) rfl) ?_
                       refine st_unguard rfl ?_
                       refine st_val (ro_move (v := .slice _ _ _) rfl) ?_
                       refine st_unguard rfl ?_
                       refine st_call SesExact_k18 (eqSessionsH A4 A3 c4 c3 K4 L3 HL3 _ (hi.from_ (hF0.next (From.rfl_.next E170))).1 (hs.from_ (hF0.next (From.rfl_.next E170))).1 (by omega) (hi.from_ (hF0.next (From.rfl_.next E170))).2.1 (hs.from_ (hF0.next (From.rfl_.next E170))).2.1 hmI) ?_
                       rintro v176 w69 ⟨rfl, E176⟩
                       refine st_unguard rfl ?_
                       refine st_val (ro_not rfl) ?_
                       refine st_val (ro_pickF (v := .bool _) rfl rfl) ?_
                       refine st_nil ?_
                       refine nx_then ?_
                       refine cd_condF rfl ?_
                       refine cd_skip ?_
                       refine nx_then ?_
                       refine cd_seq ?_
                       refine cd_region ?_
                       refine st_val (ro_move (v := .slice _ _ _) rfl) ?_
                       refine st_call SesExact_k27 (spoilSessions base A11 c11 KX _ (hoX.kept_from ((From.rfl_.next E170).next E176)) (norm_none hfin.2.2.2.1) (Nat.le_trans hb3 (((From.rfl_.next E170).next E176)).size) (by omega)) ?_
                       rintro v180 w70 E180
                       have hF2 : From w0 w70 := (hF0.next ((From.rfl_.next E170).next E176)).grew E180 (fun q hq => Nat.le_trans hb2 (own_at hoX q hq).1)
                       replace hs := hs.from_ hF2
                       replace hi := hi.from_ hF2
                       replace P1 := P1.from_ hF2
                       replace hrW := hrW.from_ hF2
                       refine st_nil ?_
                       refine nx_then ?_
                       refine cd_seq ?_
                       refine cd_seq ?_
                       refine cd_region ?_
                       refine st_val (ro_move (v := .slice _ _ _) rfl) ?_
                       refine st_val (ro_move (v := .slice _ _ _) rfl) ?_
                       refine st_call SesExact_k18 (eqSessionsH A4 A3 c4 c3 K4 L3 HL3 _ (hi.from_ From.rfl_).1 (hs.from_ From.rfl_).1 (by omega) (hi.from_ From.rfl_).2.1 (hs.from_ From.rfl_).2.1 hmI) ?_
                       rintro v183 w71 ⟨rfl, E183⟩
                       refine st_val (ro_not rfl) ?_
                       refine st_nil ?_
                       refine nx_then ?_
                       refine cd_condF rfl ?_
                       refine cd_skip ?_
                       refine nx_then ?_
                       refine cd_seq ?_
                       refine cd_region ?_
                       refine st_val (ro_move (v := .int _ _) rfl) ?_
                       refine st_val (ro_eql rfl rfl) ?_
                       refine st_nil ?_
                       refine nx_then ?_
                       refine cd_cond rfl (fun Q72 => ?_) (fun Q72 => ?_)
                       · (try first | replace Q72 := bn_t Q72 | replace Q72 := bn_f Q72)
                         (try first | replace Q72 := bx_t Q72 | replace Q72 := bx_f Q72 | replace Q72 := be_t Q72 | replace Q72 := be_f Q72 | replace Q72 := of_decide_eq_true Q72 | replace Q72 := of_decide_eq_false Q72)
                         first
                          | (exfalso; first | omega | contradiction | (cases Q72; done))
                          | skip
                            refine cd_region ?_
                            refine st_val (ro_move (v := .slice _ _ _) rfl) ?_
                            refine st_call SesExact_k10 (copySessionsH A9 c9 KW (KW.map fun _ => []) _ (hrW.from_ (From.rfl_.next E183)) (by omega) (no_hits hfin.2.2.2.2.1)) ?_
                            rintro v188 w73 ⟨⟨K6, A6, c6, rfl, hK6, ho6, hcp6⟩, E188⟩
                            obtain ⟨hs6, _, _⟩ := sat_copy ho6 hcp6 hK6 (no_hits (w := w) hfin.2.2.2.2.1) (by omega)
                            refine st_val (ro_assign (v := .slice _ _ _) rfl) ?_
                            refine st_nil ?_
                            refine nx_block ?_
                            refine nx_cut ((A6, c6, K6, KW.map fun _ => [])) ⟨(by first | rfl | (refine int_eq ?_; omega)), trivial⟩ (by (iterate 175 refine agr_cons rfl ?_); exact agr_rfl) ?_
                            exact ⟨hs6, P1.from_ ((From.rfl_.next E183).next E188), (((((hB.next E170).next E176).grew E180 (fun q hq => Nat.le_trans (Nat.le_trans hB0.size hb2) (own_at hoX q hq).1)).next E183).next E188)⟩
                       · (try first | replace Q72 := bn_t Q72 | replace Q72 := bn_f Q72)
                         (try first | replace Q72 := bx_t Q72 | replace Q72 := bx_f Q72 | replace Q72 := be_t Q72 | replace Q72 := be_f Q72 | replace Q72 := of_decide_eq_true Q72 | replace Q72 := of_decide_eq_false Q72)
                         first
                          | (exfalso; first | omega | contradiction | (cases Q72; done))
                          | skip
                            refine cd_skip ?_
                            refine nx_block ?_
                            refine nx_cut ((A3, c3, L3, HL3)) ⟨(by first | rfl | (refine int_eq ?_; omega)), trivial⟩ (by (iterate 172 refine agr_cons rfl ?_); exact agr_rfl) ?_
                            exact ⟨hs.from_ (From.rfl_.next E183), P1.from_ (From.rfl_.next E183), ((((hB.next E170).next E176).grew E180 (fun q hq => Nat.le_trans (Nat.le_trans hB0.size hb2) (own_at hoX q hq).1)).next E183)⟩
                 · rintro ⟨A5, c5, L5, HL5⟩ ρ74 w74 ⟨hs5, P1, hB⟩
                   refine cd_region ?_
                   refine st_val (ro_move (v := .int _ _) rfl) ?_
                   refine st_val (ro_addN (b := 1) rfl rfl (by omega)) ?_
                   refine st_val (ro_assign (v := .int _ _) rfl) ?_
                   refine st_nil ?_
                   refine nx_cut ((k + 1, A5, c5, L5, HL5)) ⟨(by first | rfl | (refine int_eq ?_; omega)), (by first | rfl | (refine int_eq ?_; omega)), trivial⟩ (by (iterate 365 refine agr_cons rfl ?_); exact agr_rfl) ⟨?_, ?_⟩
                   · exact ⟨by omega, hs5.from_ From.rfl_, P1.from_ From.rfl_, hB⟩
                   · show K.length - (k + 1) < K.length - k; omega
            · (try first | replace Q7 := bn_t Q7 | replace Q7 := bn_f Q7)
              (try first | replace Q7 := bx_t Q7 | replace Q7 := bx_f Q7 | replace Q7 := be_t Q7 | replace Q7 := be_f Q7 | replace Q7 := of_decide_eq_true Q7 | replace Q7 := of_decide_eq_false Q7)
              first
               | (exfalso; first | omega | contradiction | (cases Q7; done))
               | skip
                 refine cd_exit ?_
                 refine ex_then ?_
                 refine ex_then ?_
                 refine ex_block ?_
                 refine nx_then ?_
                 refine cd_seq ?_
                 refine cd_region ?_
                 refine st_call SesExact_k28 (wakes_any _) ?_
                 rintro v189 w75 ⟨rfl, E189⟩
                 refine st_val (ro_assign (v := .bool _) rfl) ?_
                 refine st_nil ?_
                 refine nx_then ?_
                 refine cd_ret ?_
                 refine res1 (v := .bool _) rfl rfl ?_
                 first
                   | exact ⟨rfl, (hB.next E189)⟩
                   | exact absurd rfl (by simp_all)
       · (try first | replace Q6 := bn_t Q6 | replace Q6 := bn_f Q6)
         (try first | replace Q6 := bx_t Q6 | replace Q6 := bx_f Q6 | replace Q6 := be_t Q6 | replace Q6 := be_f Q6 | replace Q6 := of_decide_eq_true Q6 | replace Q6 := of_decide_eq_false Q6)
         first
          | (exfalso; first | omega | contradiction | (cases Q6; done))
          | skip
            refine st_gno rfl rfl ?_
            refine st_gno rfl rfl ?_
            refine st_val (ro_pickF (v := .bool _) rfl rfl) ?_
            refine st_nil ?_
            refine nx_then ?_
            refine cd_condF rfl ?_
            refine cd_exit ?_
            refine ex_then ?_
            refine ex_then ?_
            refine ex_block ?_
            refine nx_then ?_
            refine cd_seq ?_
            refine cd_region ?_
            refine st_call SesExact_k28 (wakes_any _) ?_
            rintro v189 w76 ⟨rfl, E189⟩
            refine st_val (ro_assign (v := .bool _) rfl) ?_
            refine st_nil ?_
            refine nx_then ?_
            refine cd_ret ?_
            refine res1 (v := .bool _) rfl rfl ?_
            first
              | exact ⟨rfl, (hB.next E189)⟩
              | exact absurd rfl (by simp_all)
theorem exact_arg (cs : Array Value) (x : scrT.den) (w : World) (hs : cs.size = 2) (h : scrT.At w (fun j => cs[j]?) x) : Rt Try.prog 3 [.agg cs] w fun v w' => v = .bool true ∧ From w w' := by
  obtain ⟨h0, h1, _⟩ := h
  obtain ⟨A, ca, L, HL, c0, r0, l0, _, _, q0⟩ := at_sesH h0
  obtain ⟨B, cb, K, HK, c1, r1, l1, q1⟩ := at_actsH h1
  obtain rfl : cs = #[.slice A L.length ca, .slice B K.length cb] := by
    apply Array.ext_getElem?
    intro i
    match i with
    | 0 => exact c0
    | 1 => exact c1
    | i + 2 => rw [Array.getElem?_eq_none (by omega), Array.getElem?_eq_none (by simp)]
  exact exact_law A ca L HL B cb K HK w r0 r1 l0 l1 q0 q1
set_option maxRecDepth 100000 in
theorem SessionExact_lifted (os : Os) (started : os.Started) (H : Type) (enc : TypeId × Value → H) :
    ReturnsInHanded {} Try.checked os 3 .any (Rows.sessionExactSpec.pre6 enc Try.prog Try.f3 Rows.sessionExactRow.domain false) (Rows.sessionExactSpec.post enc Try.prog Try.f3 false true false false) := by
  refine returnsInHanded_of_change_sized (C := Try.checked) Try.own started (by kernel_rfl) Try.func3
    (ChangeSpec.witness6 (enc := enc) (C := Try.checked) false ⟨#[], #[.agg #[.slice none 0 0, .slice none 0 0]], []⟩ 8 (by kernel_rfl) (by kernel_rfl) (by kernel_rfl) (by kernel_rfl)) ?_
  intro W base args ds gs before hval hW _ hsz _
  exact law_step 3 Try.f3 25 4 Rows.sessionExactSpec Try.params3 (by kernel_rfl) Try.underlying4 rfl (fun _ => rfl) (by kernel_rfl) (of_decide_eq_true (by kernel_rfl)) (walk_struct (.sl sesT) (.pr (.sl actT) .unit) (by kernel_rfl) exact_arg) W base args ds gs before hval hW hsz

theorem SessionExact_holds : Rows.SessionExactSaid :=
  OpenClaim.holds_of_wide 3 Try.f3 rfl rfl rfl rfl rfl rfl rfl ⟨rfl, rfl, rfl, rfl, rfl⟩ rfl rfl rfl rfl rfl (by kernel_rfl) Try.func3 (by kernel_rfl)
    (of_decide_eq_true (by kernel_rfl)) (by unfold Func.isWrapper; first | (rw [if_pos (by decide +kernel)]; kernel_rfl) | (rw [if_neg (by decide +kernel)]; exact ⟨rfl, rfl⟩))
    (fun os started H enc _ => SessionExact_lifted os started H enc)
#print axioms SessionExact_holds

end Go.Proofs.Ytbikemhokgcboaa
