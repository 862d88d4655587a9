/- session: Check and May, in both directions. -/
import Derived.Test.YtbikemhokgcboaaSesHits
namespace Go.Proofs.Ytbikemhokgcboaa
open Go.RowKit
open Go.ChangeShapes Go.WideShapes Go.ChangeAt
theorem SesJudge_l22 : (elemQ Try.prog 22).isSome = true := by kernel_rfl
theorem SesJudge_e22 : elemQ Try.prog 22 = some (60, 6) := by kernel_rfl
theorem SesJudge_g60 : aggQ Try.prog 60 = some true := by kernel_rfl
theorem SesJudge_z60 : sizeQ Try.prog 60 = some 6 := by kernel_rfl
theorem SesJudge_o60 : zeroQ Try.prog 60 = some (.agg #[.int .i64 0, .int .i64 0, .int .i64 0, .int .i64 0, .slice none 0 0, .int .i64 0]) := by kernel_rfl
theorem SesJudge_k35 : callable Try.prog 35 = true := by kernel_rfl
theorem SesJudge_f60_0 : fieldQ Try.prog 60 0 = some 0 := by kernel_rfl
theorem SesJudge_g3 : aggQ Try.prog 3 = some false := by kernel_rfl
theorem SesJudge_k32 : callable Try.prog 32 = true := by kernel_rfl
theorem SesJudge_f60_1 : fieldQ Try.prog 60 1 = some 1 := by kernel_rfl
theorem SesJudge_k33 : callable Try.prog 33 = true := by kernel_rfl
theorem SesJudge_f60_3 : fieldQ Try.prog 60 3 = some 5 := by kernel_rfl
theorem SesJudge_f60_2 : fieldQ Try.prog 60 2 = some 2 := by kernel_rfl
theorem SesJudge_g31 : aggQ Try.prog 31 = some true := by kernel_rfl
theorem SesJudge_z31 : sizeQ Try.prog 31 = some 3 := by kernel_rfl
theorem SesJudge_k34 : callable Try.prog 34 = true := by kernel_rfl
theorem SesJudge_k13 : callable Try.prog 13 = true := by kernel_rfl
theorem SesJudge_o31 : zeroQ Try.prog 31 = some (.agg #[.int .i64 0, .int .i64 0, .slice none 0 0]) := by kernel_rfl
theorem SesJudge_b31_ : Try.prog.built 31 [] = some #[.int .i64 0, .int .i64 0, .slice none 0 0] := by kernel_rfl
theorem four {L : List Ses} (k : Nat) (hk : k < L.length) : vS L[k] = false ∨ (vS L[k] = true ∧ k = 0) ∨ (vS L[k] = true ∧ 0 < k ∧ (L[k - 1]'(by omega)).c < L[k].c) ∨ (vS L[k] = true ∧ 0 < k ∧ ¬ (L[k - 1]'(by omega)).c < L[k].c) := by
  cases vS L[k] with
  | false => exact .inl rfl
  | true =>
    rcases Nat.eq_zero_or_pos k with h | h
    · exact .inr (.inl ⟨rfl, h⟩)
    · by_cases h2 : (L[k - 1]'(by omega)).c < L[k].c
      · exact .inr (.inr (.inl ⟨rfl, h, h2⟩))
      · exact .inr (.inr (.inr ⟨rfl, h, h2⟩))
set_option maxRecDepth 100000 in
set_option maxHeartbeats 400000 in
theorem check_no (A : Option Addr) (c : Nat) (L : List Ses) (w : World) (hr : RowS w A L) (hl : L.length ≤ 10000000000000) (hnv : ¬ ValidL L) :
    Rt Try.prog 13 [.slice A L.length c] w (fun v w' => v = .int .i64 1 ∧ From w w') := by
  refine enter (n := 34) Try.func13 rfl rfl rfl ?_
  refine cd_seq ?_
  refine cd_region ?_
  refine st_val (ro_assign (v := .int _ _) rfl) ?_
  refine st_nil ?_
  refine nx_then ?_
  refine cd_seq ?_
  refine cd_seq ?_
  refine cd_region ?_
  refine st_val (ro_move (v := .slice _ _ _) rfl) ?_
  refine st_val (ro_len SesJudge_l22 rfl) ?_
  refine st_val (ro_gtr rfl rfl) ?_
  refine st_nil ?_
  refine nx_then ?_
  refine cd_cond rfl (fun Q1 => ?_) (fun Q1 => ?_)
  · (try first | replace Q1 := bn_t Q1 | replace Q1 := bn_f Q1)
    (try first | replace Q1 := bx_t Q1 | replace Q1 := bx_f Q1 | replace Q1 := be_t Q1 | replace Q1 := be_f Q1 | replace Q1 := of_decide_eq_true Q1 | replace Q1 := of_decide_eq_false Q1)
    first
     | (exfalso; first | omega | contradiction | (cases Q1; done))
     | skip
       refine cd_seq ?_
       refine cd_region ?_
       refine st_val (ro_assign (v := .int _ _) rfl) ?_
       refine st_nil ?_
       refine nx_then ?_
       refine cd_ret ?_
       refine rt_then ?_
       refine res1 (v := .int _ _) rfl rfl ?_
       exact ⟨rfl, From.rfl_⟩
  · (try first | replace Q1 := bn_t Q1 | replace Q1 := bn_f Q1)
    (try first | replace Q1 := bx_t Q1 | replace Q1 := bx_f Q1 | replace Q1 := be_t Q1 | replace Q1 := be_f Q1 | replace Q1 := of_decide_eq_true Q1 | replace Q1 := of_decide_eq_false Q1)
    first
     | (exfalso; first | omega | contradiction | (cases Q1; done))
     | skip
       refine cd_skip ?_
       refine nx_then ?_
       refine cd_seq ?_
       refine cd_seq ?_
       refine cd_region ?_
       refine st_val (ro_move (v := .slice _ _ _) rfl) ?_
       refine st_val (ro_len SesJudge_l22 rfl) ?_
       refine st_val (ro_move (v := .int _ _) rfl) ?_
       refine st_nil ?_
       refine nx_then ?_
       refine cd_block ?_
       refine cd_loop (G := Nat) [2, 3, 4, 11, 12, 13, 14, 15, 16, 17, 18, 19, 20, 21, 22, 23, 24, 25, 26, 27, 28, 29, 30, 31, 32, 33] (fun k => [(10, .int .i64 (k : Nat))]) (fun k w' => k ≤ L.length ∧ (∀ i (h : i < L.length), i < k → vS L[i] = true ∧ (0 < i → (L[i - 1]'(by omega)).c < L[i].c)) ∧ From w w') (fun k => L.length - k) (0) ⟨rfl, trivial⟩ ?_ ?_
       · exact ⟨Nat.zero_le _, fun i h h0 => absurd h0 (by omega), From.rfl_⟩
       rintro k ρ2 w2 ⟨hk, hall, hB⟩
       refine cd_seq ?_
       refine cd_region ?_
       refine st_val (ro_lss rfl rfl) ?_
       refine st_nil ?_
       refine nx_then ?_
       refine cd_seq ?_
       refine cd_cond rfl (fun Q3 => ?_) (fun Q3 => ?_)
       · (try first | replace Q3 := bn_t Q3 | replace Q3 := bn_f Q3)
         (try first | replace Q3 := bx_t Q3 | replace Q3 := bx_f Q3 | replace Q3 := be_t Q3 | replace Q3 := be_f Q3 | replace Q3 := of_decide_eq_true Q3 | replace Q3 := of_decide_eq_false Q3)
         obtain ⟨ba, oa, rfl, hcs⟩ := hr (by omega)
         have hkL : k < L.length := by omega
         first
          | (exfalso; first | omega | contradiction | (cases Q3; done))
          | skip
            refine cd_skip ?_
            refine nx_then ?_
            refine cd_seq ?_
            refine cd_block ?_
            refine cd_seq ?_
            refine cd_region ?_
            refine st_val (ro_move (v := .int _ _) rfl) ?_
            refine st_val (ro_indexAddrN SesJudge_e22 rfl rfl (by omega)) ?_
            refine st_val (ro_loadA (cs := [_, _, _, _, _, _]) SesJudge_g60 SesJudge_z60 rfl (by exact rangeF hB (hcs k (by omega)))) ?_
            refine st_alloc SesJudge_o60 ?_
            intro b4 w4 E4 hb4 hk4
            refine st_val (ro_assign (v := .int _ _) rfl) ?_
            refine st_putW (vs := [_, _, _, _, _, _]) SesJudge_z60 rfl rfl (by simp [Value.oneCell']) (hk4) rfl ?_
            intro w5 O5 P5
            refine st_nil ?_
            refine nx_then ?_
            refine cd_seq ?_
            rcases four k hkL with hvk | ⟨hvk, hk0⟩ | ⟨hvk, hk0, hlt⟩ | ⟨hvk, hk0, hlt⟩
            · apply cd_drawn 18 [(15, eqp _), (16, eqp _), (17, eqp _), (18, eqp _), (19, eqp _), (20, eqp _), (21, eqp _), (22, eqp _), (23, eqp _), (24, eqp _), (25, eqp _), (26, eqp _), (27, eqp _), (28, eqp _), (29, eqp _), (30, eqp _), (31, eqp _), (32, eqp _)] (by kernel_rfl) (by kernel_rfl) ⟨eqp_mono _, eqp_mono _, eqp_mono _, eqp_mono _, eqp_mono _, eqp_mono _, eqp_mono _, eqp_mono _, eqp_mono _, eqp_mono _, eqp_mono _, eqp_mono _, eqp_mono _, eqp_mono _, eqp_mono _, eqp_mono _, eqp_mono _, eqp_mono _, trivial⟩
              case hop =>
               refine ⟨?_, ?_⟩
               · intro w7 D7
                 show OpOK _ _ _ _ _ _ _
                 exact ok_pure (ro_loadA (cs := [_, _, _, _, _, _]) SesJudge_g60 SesJudge_z60 rfl (by exact (P5.from_ (From.rfl_.next D7)).whole)) rfl
               refine ⟨?_, ?_⟩
               · intro w8 D8
                 rintro _ rfl
                 show OpOK _ _ _ _ _ _ _
                 refine ok_call SesJudge_k35 ((validSession_rt L[k] _).mono ?_)
                 rintro v _ ⟨rfl, E8'⟩; exact ⟨E8', rfl⟩
               refine ⟨?_, ?_⟩
               · intro w9 D9
                 rintro _ rfl
                 show OpOK _ _ _ _ _ _ _
                 exact ok_pure (ro_bt (ro_not rfl) (by rw [hvk]; rfl)) rfl
               refine ⟨?_, ?_⟩
               · intro w10 D10
                 rintro _ rfl
                 show OpOK _ _ _ _ _ _ _
                 exact ok_pure (ro_move (v := .bool _) rfl) rfl
               refine ⟨?_, ?_⟩
               · intro w11 D11
                 rintro _ rfl
                 show OpOK _ _ _ _ _ _ _
                 exact ok_gno rfl rfl rfl
               refine ⟨?_, ?_⟩
               · intro w12 D12
                 rintro _ rfl _ rfl
                 show OpOK _ _ _ _ _ _ _
                 exact ok_gno rfl rfl rfl
               refine ⟨?_, ?_⟩
               · intro w13 D13
                 rintro _ rfl _ rfl
                 show OpOK _ _ _ _ _ _ _
                 exact ok_gno rfl rfl rfl
               refine ⟨?_, ?_⟩
               · intro w14 D14
                 rintro _ rfl
                 show OpOK _ _ _ _ _ _ _
                 exact ok_gund rfl rfl
               refine ⟨?_, ?_⟩
               · intro w15 D15
                 rintro _ rfl
                 show OpOK _ _ _ _ _ _ _
                 exact ok_gund rfl rfl
               refine ⟨?_, ?_⟩
               · intro w16 D16
                 rintro _ rfl _ rfl
                 show OpOK _ _ _ _ _ _ _
                 exact ok_gund rfl rfl
               refine ⟨?_, ?_⟩
               · intro w17 D17
                 rintro _ rfl _ rfl _ rfl
                 show OpOK _ _ _ _ _ _ _
                 exact ok_gund rfl rfl
               refine ⟨?_, ?_⟩
               · intro w18 D18
                 rintro _ rfl _ rfl
                 show OpOK _ _ _ _ _ _ _
                 exact ok_gund rfl rfl
               refine ⟨?_, ?_⟩
               · intro w19 D19
                 rintro _ rfl _ rfl
                 show OpOK _ _ _ _ _ _ _
                 exact ok_gund rfl rfl
               refine ⟨?_, ?_⟩
               · intro w20 D20
                 rintro _ rfl
                 show OpOK _ _ _ _ _ _ _
                 exact ok_gund rfl rfl
               refine ⟨?_, ?_⟩
               · intro w21 D21
                 rintro _ rfl _ rfl
                 show OpOK _ _ _ _ _ _ _
                 exact ok_gund rfl rfl
               refine ⟨?_, ?_⟩
               · intro w22 D22
                 rintro _ rfl _ rfl _ rfl
                 show OpOK _ _ _ _ _ _ _
                 exact ok_gund rfl rfl
               refine ⟨?_, ?_⟩
               · intro w23 D23
                 rintro _ rfl _ rfl _ rfl
                 show OpOK _ _ _ _ _ _ _
                 exact ok_gno rfl rfl rfl
               refine ⟨?_, ?_⟩
               · intro w24 D24
                 rintro _ rfl _ rfl
                 show OpOK _ _ _ _ _ _ _
                 exact ok_pure (ro_pickT (v := .bool _) rfl rfl) rfl
               exact trivial
              case hend =>
               intro w25 D25
               rintro _ rfl _ rfl _ rfl _ rfl _ rfl _ rfl _ rfl _ rfl _ rfl _ rfl _ rfl _ rfl _ rfl _ rfl _ rfl _ rfl _ rfl _ rfl
               show St _ _ _ _ _ _ _
               refine st_nil ?_
               refine nx_then ?_
               refine cd_condT rfl ?_
               refine cd_seq ?_
               refine cd_region ?_
               refine st_val (ro_assign (v := .int _ _) rfl) ?_
               refine st_nil ?_
               refine nx_then ?_
               refine cd_ret ?_
               refine rt_block ?_
               refine rt_then ?_
               refine rt_then ?_
               refine rt_block ?_
               refine rt_then ?_
               refine res1 (v := .int _ _) rfl rfl ?_
               exact ⟨rfl, (((hB.next E4).only O5 (by rw [hb4]; exact hB.size)).next D25)⟩
            · have hstep : vS L[k] = true ∧ (0 < k → (L[k - 1]'(by omega)).c < L[k].c) := ⟨hvk, fun h => absurd h (by omega)⟩
              apply cd_drawn 18 [(15, eqp _), (16, eqp _), (17, eqp _), (18, eqp _), (19, eqp _), (20, eqp _), (21, eqp _), (22, eqp _), (23, eqp _), (24, eqp _), (25, eqp _), (26, eqp _), (27, eqp _), (28, eqp _), (29, eqp _), (30, eqp _), (31, eqp _), (32, eqp _)] (by kernel_rfl) (by kernel_rfl) ⟨eqp_mono _, eqp_mono _, eqp_mono _, eqp_mono _, eqp_mono _, eqp_mono _, eqp_mono _, eqp_mono _, eqp_mono _, eqp_mono _, eqp_mono _, eqp_mono _, eqp_mono _, eqp_mono _, eqp_mono _, eqp_mono _, eqp_mono _, eqp_mono _, trivial⟩
              case hop =>
               refine ⟨?_, ?_⟩
               · intro w27 D27
                 show OpOK _ _ _ _ _ _ _
                 exact ok_pure (ro_loadA (cs := [_, _, _, _, _, _]) SesJudge_g60 SesJudge_z60 rfl (by exact (P5.from_ (From.rfl_.next D27)).whole)) rfl
               refine ⟨?_, ?_⟩
               · intro w28 D28
                 rintro _ rfl
                 show OpOK _ _ _ _ _ _ _
                 refine ok_call SesJudge_k35 ((validSession_rt L[k] _).mono ?_)
                 rintro v _ ⟨rfl, E28'⟩; exact ⟨E28', rfl⟩
               refine ⟨?_, ?_⟩
               · intro w29 D29
                 rintro _ rfl
                 show OpOK _ _ _ _ _ _ _
                 exact ok_pure (ro_bf (ro_not rfl) (by rw [hvk]; rfl)) rfl
               refine ⟨?_, ?_⟩
               · intro w30 D30
                 rintro _ rfl
                 show OpOK _ _ _ _ _ _ _
                 exact ok_pure (ro_move (v := .bool _) rfl) rfl
               refine ⟨?_, ?_⟩
               · intro w31 D31
                 rintro _ rfl
                 show OpOK _ _ _ _ _ _ _
                 exact ok_gpure rfl (ro_move (v := .int _ _) rfl) rfl
               refine ⟨?_, ?_⟩
               · intro w32 D32
                 rintro _ rfl _ rfl
                 show OpOK _ _ _ _ _ _ _
                 exact ok_gpure rfl (ro_bf (ro_gtr rfl rfl) (decide_eq_false (by omega))) rfl
               refine ⟨?_, ?_⟩
               · intro w33 D33
                 rintro _ rfl _ rfl
                 show OpOK _ _ _ _ _ _ _
                 exact ok_gpure rfl (ro_move (v := .bool _) rfl) rfl
               refine ⟨?_, ?_⟩
               · intro w34 D34
                 rintro _ rfl
                 show OpOK _ _ _ _ _ _ _
                 exact ok_gno rfl rfl rfl
               refine ⟨?_, ?_⟩
               · intro w35 D35
                 rintro _ rfl
                 show OpOK _ _ _ _ _ _ _
                 exact ok_gno rfl rfl rfl
               refine ⟨?_, ?_⟩
               · intro w36 D36
                 rintro _ rfl _ rfl
                 show OpOK _ _ _ _ _ _ _
                 exact ok_gno rfl rfl rfl
               refine ⟨?_, ?_⟩
               · intro w37 D37
                 rintro _ rfl _ rfl _ rfl
                 show OpOK _ _ _ _ _ _ _
                 exact ok_gno rfl rfl rfl
               refine ⟨?_, ?_⟩
               · intro w38 D38
                 rintro _ rfl _ rfl
                 show OpOK _ _ _ _ _ _ _
                 exact ok_gno rfl rfl rfl
               refine ⟨?_, ?_⟩
               · intro w39 D39
                 rintro _ rfl _ rfl
                 show OpOK _ _ _ _ _ _ _
                 exact ok_gno rfl rfl rfl
               refine ⟨?_, ?_⟩
               · intro w40 D40
                 rintro _ rfl
                 show OpOK _ _ _ _ _ _ _
                 exact ok_gno rfl rfl rfl
               refine ⟨?_, ?_⟩
               · intro w41 D41
                 rintro _ rfl _ rfl
                 show OpOK _ _ _ _ _ _ _
                 exact ok_gno rfl rfl rfl
               refine ⟨?_, ?_⟩
               · intro w42 D42
                 rintro _ rfl _ rfl _ rfl
                 show OpOK _ _ _ _ _ _ _
                 exact ok_gno rfl rfl rfl
               refine ⟨?_, ?_⟩
               · intro w43 D43
                 rintro _ rfl _ rfl _ rfl
                 show OpOK _ _ _ _ _ _ _
                 exact ok_gpure rfl (ro_pickF (v := .bool _) rfl rfl) rfl
               refine ⟨?_, ?_⟩
               · intro w44 D44
                 rintro _ rfl _ rfl
                 show OpOK _ _ _ _ _ _ _
                 exact ok_pure (ro_pickF (v := .bool _) rfl rfl) rfl
               exact trivial
              case hend =>
               intro w45 D45
               rintro _ rfl _ rfl _ rfl _ rfl _ rfl _ rfl _ rfl _ rfl _ rfl _ rfl _ rfl _ rfl _ rfl _ rfl _ rfl _ rfl _ rfl _ rfl
               show St _ _ _ _ _ _ _
               refine st_nil ?_
               refine nx_then ?_
               refine cd_condF rfl ?_
               refine cd_skip ?_
               refine nx_block ?_
               refine nx_then ?_
               refine cd_region ?_
               refine st_val (ro_addN (b := 1) rfl rfl (by omega)) ?_
               refine st_val (ro_move (v := .int _ _) rfl) ?_
               refine st_nil ?_
               refine nx_cut (k + 1) ⟨(by first | rfl | (refine int_eq ?_; omega)), trivial⟩ (by (iterate 53 refine agr_cons rfl ?_); exact agr_rfl) ⟨?_, ?_⟩
               · refine ⟨by omega, fun i h h0 => ?_, (((hB.next E4).only O5 (by rw [hb4]; exact hB.size)).next D45)⟩
                 rcases Nat.lt_or_ge i k with a | a
                 · exact hall i h a
                 · obtain rfl : i = k := by omega
                   exact hstep
               · omega
            · have hstep : vS L[k] = true ∧ (0 < k → (L[k - 1]'(by omega)).c < L[k].c) := ⟨hvk, fun _ => hlt⟩
              apply cd_drawn 18 [(15, eqp _), (16, eqp _), (17, eqp _), (18, eqp _), (19, eqp _), (20, eqp _), (21, eqp _), (22, eqp _), (23, eqp _), (24, eqp _), (25, eqp _), (26, eqp _), (27, eqp _), (28, eqp _), (29, eqp _), (30, eqp _), (31, eqp _), (32, eqp _)] (by kernel_rfl) (by kernel_rfl) ⟨eqp_mono _, eqp_mono _, eqp_mono _, eqp_mono _, eqp_mono _, eqp_mono _, eqp_mono _, eqp_mono _, eqp_mono _, eqp_mono _, eqp_mono _, eqp_mono _, eqp_mono _, eqp_mono _, eqp_mono _, eqp_mono _, eqp_mono _, eqp_mono _, trivial⟩
              case hop =>
               refine ⟨?_, ?_⟩
               · intro w47 D47
                 show OpOK _ _ _ _ _ _ _
                 exact ok_pure (ro_loadA (cs := [_, _, _, _, _, _]) SesJudge_g60 SesJudge_z60 rfl (by exact (P5.from_ (From.rfl_.next D47)).whole)) rfl
               refine ⟨?_, ?_⟩
               · intro w48 D48
                 rintro _ rfl
                 show OpOK _ _ _ _ _ _ _
                 refine ok_call SesJudge_k35 ((validSession_rt L[k] _).mono ?_)
                 rintro v _ ⟨rfl, E48'⟩; exact ⟨E48', rfl⟩
               refine ⟨?_, ?_⟩
               · intro w49 D49
                 rintro _ rfl
                 show OpOK _ _ _ _ _ _ _
                 exact ok_pure (ro_bf (ro_not rfl) (by rw [hvk]; rfl)) rfl
               refine ⟨?_, ?_⟩
               · intro w50 D50
                 rintro _ rfl
                 show OpOK _ _ _ _ _ _ _
                 exact ok_pure (ro_move (v := .bool _) rfl) rfl
               refine ⟨?_, ?_⟩
               · intro w51 D51
                 rintro _ rfl
                 show OpOK _ _ _ _ _ _ _
                 exact ok_gpure rfl (ro_move (v := .int _ _) rfl) rfl
               refine ⟨?_, ?_⟩
               · intro w52 D52
                 rintro _ rfl _ rfl
                 show OpOK _ _ _ _ _ _ _
                 exact ok_gpure rfl (ro_bt (ro_gtr rfl rfl) (decide_eq_true (by omega))) rfl
               refine ⟨?_, ?_⟩
               · intro w53 D53
                 rintro _ rfl _ rfl
                 show OpOK _ _ _ _ _ _ _
                 exact ok_gpure rfl (ro_move (v := .bool _) rfl) rfl
               refine ⟨?_, ?_⟩
               · intro w54 D54
                 rintro _ rfl
                 show OpOK _ _ _ _ _ _ _
                 exact ok_gpure rfl (ro_move (v := .slice _ _ _) rfl) rfl
               refine ⟨?_, ?_⟩
               · intro w55 D55
                 rintro _ rfl
                 show OpOK _ _ _ _ _ _ _
                 exact ok_gpure rfl (ro_move (v := .int _ _) rfl) rfl
               refine ⟨?_, ?_⟩
               · intro w56 D56
                 rintro _ rfl _ rfl
                 show OpOK _ _ _ _ _ _ _
                 exact ok_gpure rfl (ro_subN (b := 1) rfl rfl (by omega)) rfl
               refine ⟨?_, ?_⟩
               · intro w57 D57
                 rintro _ rfl _ rfl _ rfl
                 show OpOK _ _ _ _ _ _ _
                 exact ok_gpure rfl (ro_indexAddrN SesJudge_e22 rfl rfl (by omega)) rfl
               refine ⟨?_, ?_⟩
               · intro w58 D58
                 rintro _ rfl _ rfl
                 show OpOK _ _ _ _ _ _ _
                 exact ok_gpure rfl (ro_fieldAddr SesJudge_f60_0 rfl) rfl
               refine ⟨?_, ?_⟩
               · intro w59 D59
                 rintro _ rfl _ rfl
                 show OpOK _ _ _ _ _ _ _
                 exact ok_gpure rfl (ro_load SesJudge_g3 rfl (by exact cellF (((hB.next E4).only O5 (by rw [hb4]; exact hB.size)).next D59) (hcs (k - 1) (by omega) 0 _ rfl))) rfl
               refine ⟨?_, ?_⟩
               · intro w60 D60
                 rintro _ rfl
                 show OpOK _ _ _ _ _ _ _
                 exact ok_gpure rfl (ro_fieldAddr SesJudge_f60_0 rfl) rfl
               refine ⟨?_, ?_⟩
               · intro w61 D61
                 rintro _ rfl _ rfl
                 show OpOK _ _ _ _ _ _ _
                 exact ok_gpure rfl (ro_load SesJudge_g3 rfl (by exact (P5.from_ (From.rfl_.next D61)).rd 0 rfl)) rfl
               refine ⟨?_, ?_⟩
               · intro w62 D62
                 rintro _ rfl _ rfl _ rfl
                 show OpOK _ _ _ _ _ _ _
                 exact ok_gpure rfl (ro_bf (ro_geq rfl rfl) (decide_eq_false (by omega))) rfl
               refine ⟨?_, ?_⟩
               · intro w63 D63
                 rintro _ rfl _ rfl _ rfl
                 show OpOK _ _ _ _ _ _ _
                 exact ok_gpure rfl (ro_pickT (v := .bool _) rfl rfl) rfl
               refine ⟨?_, ?_⟩
               · intro w64 D64
                 rintro _ rfl _ rfl
                 show OpOK _ _ _ _ _ _ _
                 exact ok_pure (ro_pickF (v := .bool _) rfl rfl) rfl
               exact trivial
              case hend =>
               intro w65 D65
               rintro _ rfl _ rfl _ rfl _ rfl _ rfl _ rfl _ rfl _ rfl _ rfl _ rfl _ rfl _ rfl _ rfl _ rfl _ rfl _ rfl _ rfl _ rfl
               show St _ _ _ _ _ _ _
               refine st_nil ?_
               refine nx_then ?_
               refine cd_condF rfl ?_
               refine cd_skip ?_
               refine nx_block ?_
               refine nx_then ?_
               refine cd_region ?_
               refine st_val (ro_addN (b := 1) rfl rfl (by omega)) ?_
               refine st_val (ro_move (v := .int _ _) rfl) ?_
               refine st_nil ?_
               refine nx_cut (k + 1) ⟨(by first | rfl | (refine int_eq ?_; omega)), trivial⟩ (by (iterate 53 refine agr_cons rfl ?_); exact agr_rfl) ⟨?_, ?_⟩
               · refine ⟨by omega, fun i h h0 => ?_, (((hB.next E4).only O5 (by rw [hb4]; exact hB.size)).next D65)⟩
                 rcases Nat.lt_or_ge i k with a | a
                 · exact hall i h a
                 · obtain rfl : i = k := by omega
                   exact hstep
               · omega
            · apply cd_drawn 18 [(15, eqp _), (16, eqp _), (17, eqp _), (18, eqp _), (19, eqp _), (20, eqp _), (21, eqp _), (22, eqp _), (23, eqp _), (24, eqp _), (25, eqp _), (26, eqp _), (27, eqp _), (28, eqp _), (29, eqp _), (30, eqp _), (31, eqp _), (32, eqp _)] (by kernel_rfl) (by kernel_rfl) ⟨eqp_mono _, eqp_mono _, eqp_mono _, eqp_mono _, eqp_mono _, eqp_mono _, eqp_mono _, eqp_mono _, eqp_mono _, eqp_mono _, eqp_mono _, eqp_mono _, eqp_mono _, eqp_mono _, eqp_mono _, eqp_mono _, eqp_mono _, eqp_mono _, trivial⟩
              case hop =>
               refine ⟨?_, ?_⟩
               · intro w67 D67
                 show OpOK _ _ _ _ _ _ _
                 exact ok_pure (ro_loadA (cs := [_, _, _, _, _, _]) SesJudge_g60 SesJudge_z60 rfl (by exact (P5.from_ (From.rfl_.next D67)).whole)) rfl
               refine ⟨?_, ?_⟩
               · intro w68 D68
                 rintro _ rfl
                 show OpOK _ _ _ _ _ _ _
                 refine ok_call SesJudge_k35 ((validSession_rt L[k] _).mono ?_)
                 rintro v _ ⟨rfl, E68'⟩; exact ⟨E68', rfl⟩
               refine ⟨?_, ?_⟩
               · intro w69 D69
                 rintro _ rfl
                 show OpOK _ _ _ _ _ _ _
                 exact ok_pure (ro_bf (ro_not rfl) (by rw [hvk]; rfl)) rfl
               refine ⟨?_, ?_⟩
               · intro w70 D70
                 rintro _ rfl
                 show OpOK _ _ _ _ _ _ _
                 exact ok_pure (ro_move (v := .bool _) rfl) rfl
               refine ⟨?_, ?_⟩
               · intro w71 D71
                 rintro _ rfl
                 show OpOK _ _ _ _ _ _ _
                 exact ok_gpure rfl (ro_move (v := .int _ _) rfl) rfl
               refine ⟨?_, ?_⟩
               · intro w72 D72
                 rintro _ rfl _ rfl
                 show OpOK _ _ _ _ _ _ _
                 exact ok_gpure rfl (ro_bt (ro_gtr rfl rfl) (decide_eq_true (by omega))) rfl
               refine ⟨?_, ?_⟩
               · intro w73 D73
                 rintro _ rfl _ rfl
                 show OpOK _ _ _ _ _ _ _
                 exact ok_gpure rfl (ro_move (v := .bool _) rfl) rfl
               refine ⟨?_, ?_⟩
               · intro w74 D74
                 rintro _ rfl
                 show OpOK _ _ _ _ _ _ _
                 exact ok_gpure rfl (ro_move (v := .slice _ _ _) rfl) rfl
               refine ⟨?_, ?_⟩
               · intro w75 D75
                 rintro _ rfl
                 show OpOK _ _ _ _ _ _ _
                 exact ok_gpure rfl (ro_move (v := .int _ _) rfl) rfl
               refine ⟨?_, ?_⟩
               · intro w76 D76
                 rintro _ rfl _ rfl
                 show OpOK _ _ _ _ _ _ _
                 exact ok_gpure rfl (ro_subN (b := 1) rfl rfl (by omega)) rfl
               refine ⟨?_, ?_⟩
               · intro w77 D77
                 rintro _ rfl _ rfl _ rfl
                 show OpOK _ _ _ _ _ _ _
                 exact ok_gpure rfl (ro_indexAddrN SesJudge_e22 rfl rfl (by omega)) rfl
               refine ⟨?_, ?_⟩
               · intro w78 D78
                 rintro _ rfl _ rfl
                 show OpOK _ _ _ _ _ _ _
                 exact ok_gpure rfl (ro_fieldAddr SesJudge_f60_0 rfl) rfl
               refine ⟨?_, ?_⟩
               · intro w79 D79
                 rintro _ rfl _ rfl
                 show OpOK _ _ _ _ _ _ _
                 exact ok_gpure rfl (ro_load SesJudge_g3 rfl (by exact cellF (((hB.next E4).only O5 (by rw [hb4]; exact hB.size)).next D79) (hcs (k - 1) (by omega) 0 _ rfl))) rfl
               refine ⟨?_, ?_⟩
               · intro w80 D80
                 rintro _ rfl
                 show OpOK _ _ _ _ _ _ _
                 exact ok_gpure rfl (ro_fieldAddr SesJudge_f60_0 rfl) rfl
               refine ⟨?_, ?_⟩
               · intro w81 D81
                 rintro _ rfl _ rfl
                 show OpOK _ _ _ _ _ _ _
                 exact ok_gpure rfl (ro_load SesJudge_g3 rfl (by exact (P5.from_ (From.rfl_.next D81)).rd 0 rfl)) rfl
               refine ⟨?_, ?_⟩
               · intro w82 D82
                 rintro _ rfl _ rfl _ rfl
                 show OpOK _ _ _ _ _ _ _
                 exact ok_gpure rfl (ro_bt (ro_geq rfl rfl) (decide_eq_true (by omega))) rfl
               refine ⟨?_, ?_⟩
               · intro w83 D83
                 rintro _ rfl _ rfl _ rfl
                 show OpOK _ _ _ _ _ _ _
                 exact ok_gpure rfl (ro_pickT (v := .bool _) rfl rfl) rfl
               refine ⟨?_, ?_⟩
               · intro w84 D84
                 rintro _ rfl _ rfl
                 show OpOK _ _ _ _ _ _ _
                 exact ok_pure (ro_pickF (v := .bool _) rfl rfl) rfl
               exact trivial
              case hend =>
               intro w85 D85
               rintro _ rfl _ rfl _ rfl _ rfl _ rfl _ rfl _ rfl _ rfl _ rfl _ rfl _ rfl _ rfl _ rfl _ rfl _ rfl _ rfl _ rfl _ rfl
               show St _ _ _ _ _ _ _
               refine st_nil ?_
               refine nx_then ?_
               refine cd_condT rfl ?_
               refine cd_seq ?_
               refine cd_region ?_
               refine st_val (ro_assign (v := .int _ _) rfl) ?_
               refine st_nil ?_
               refine nx_then ?_
               refine cd_ret ?_
               refine rt_block ?_
               refine rt_then ?_
               refine rt_then ?_
               refine rt_block ?_
               refine rt_then ?_
               refine res1 (v := .int _ _) rfl rfl ?_
               exact ⟨rfl, (((hB.next E4).only O5 (by rw [hb4]; exact hB.size)).next D85)⟩
       · (try first | replace Q3 := bn_t Q3 | replace Q3 := bn_f Q3)
         (try first | replace Q3 := bx_t Q3 | replace Q3 := bx_f Q3 | replace Q3 := be_t Q3 | replace Q3 := be_f Q3 | replace Q3 := of_decide_eq_true Q3 | replace Q3 := of_decide_eq_false Q3)
         first
          | (exfalso; first | omega | contradiction | (cases Q3; done))
          | skip
            refine cd_exit ?_
            refine ex_then ?_
            refine ex_then ?_
            refine ex_block ?_
            refine nx_then ?_
            refine cd_seq ?_
            refine cd_region ?_
            refine st_val (ro_assign (v := .int _ _) rfl) ?_
            refine st_nil ?_
            refine nx_then ?_
            refine cd_ret ?_
            refine res1 (v := .int _ _) rfl rfl ?_
            exact absurd ⟨by omega, fun i h => hall i h (by omega)⟩ hnv
theorem vS_parts {x : Ses} (h : vS x = true) : inE 1 x.c = true ∧ inE 0 x.s = true ∧ inE 0 x.u = true ∧ vR x.e x.n x.hl = true := by
  rw [vS_eq] at h
  simp only [Bool.and_eq_true] at h
  exact ⟨h.1.1, h.1.2.1, h.1.2.2, h.2⟩
theorem may_no (A : Option Addr) (c : Nat) (L : List Ses) (w : World) (hr : RowS w A L) (hl : L.length ≤ 10000000000000) (hnv : ¬ ValidL L) : Rt Try.prog 11 [.slice A L.length c] w fun v w' => v = .bool false ∧ From w w' := by
  refine (may_rt A c L w hr hl).mono fun v w' ⟨⟨b, e, h⟩, hF⟩ => ⟨?_, hF⟩
  cases b with
  | false => exact e
  | true => exact absurd (h rfl) hnv
set_option maxRecDepth 100000 in
set_option maxHeartbeats 3000000 in
theorem may_yes (A : Option Addr) (c : Nat) (L : List Ses) (w : World) (hr : RowS w A L) (hl : L.length ≤ 10000000000000) (hv : ValidL L) :
    Rt Try.prog 11 [.slice A L.length c] w (fun v w' => v = .bool true ∧ From w w') := by
  have hv8 := hv.1
  refine enter (n := 65) Try.func11 rfl rfl rfl ?_
  refine cd_seq ?_
  refine cd_region ?_
  refine st_val (ro_assign (v := .bool _) rfl) ?_
  refine st_nil ?_
  refine nx_then ?_
  refine cd_seq ?_
  refine cd_seq ?_
  refine cd_region ?_
  refine st_val (ro_move (v := .slice _ _ _) rfl) ?_
  refine st_val (ro_len SesJudge_l22 rfl) ?_
  refine st_val (ro_gtr rfl rfl) ?_
  refine st_nil ?_
  refine nx_then ?_
  refine cd_cond rfl (fun Q1 => ?_) (fun Q1 => ?_)
  · (try first | replace Q1 := bn_t Q1 | replace Q1 := bn_f Q1)
    (try first | replace Q1 := bx_t Q1 | replace Q1 := bx_f Q1 | replace Q1 := be_t Q1 | replace Q1 := be_f Q1 | replace Q1 := of_decide_eq_true Q1 | replace Q1 := of_decide_eq_false Q1)
    first
     | (exfalso; first | omega | contradiction | (cases Q1; done))
     | skip
       refine cd_seq ?_
       refine cd_region ?_
       refine st_val (ro_assign (v := .bool _) rfl) ?_
       refine st_nil ?_
       refine nx_then ?_
       refine cd_ret ?_
       refine rt_then ?_
       refine res1 (v := .bool _) rfl rfl ?_
       exfalso; omega
  · (try first | replace Q1 := bn_t Q1 | replace Q1 := bn_f Q1)
    (try first | replace Q1 := bx_t Q1 | replace Q1 := bx_f Q1 | replace Q1 := be_t Q1 | replace Q1 := be_f Q1 | replace Q1 := of_decide_eq_true Q1 | replace Q1 := of_decide_eq_false Q1)
    first
     | (exfalso; first | omega | contradiction | (cases Q1; done))
     | skip
       refine cd_skip ?_
       refine nx_then ?_
       refine cd_seq ?_
       refine cd_seq ?_
       refine cd_region ?_
       refine st_val (ro_assign (v := .int _ _) rfl) ?_
       refine st_nil ?_
       refine nx_then ?_
       refine cd_block ?_
       refine cd_loop (G := Nat) [2, 7, 8, 9, 10, 11, 12, 13, 14, 15, 16, 17, 18, 19, 20, 21, 22, 23, 24, 25, 26, 27, 28, 29, 30, 31, 32, 33, 34, 35, 36, 37, 38, 39, 40, 41, 42, 43, 44, 45, 46, 47, 48, 49, 50, 51, 52, 53, 54, 55, 56, 57, 58, 59, 60, 61, 62, 63, 64] (fun k => [(3, .int .i64 (k : Nat))]) (fun k w' => k ≤ L.length ∧ From w w') (fun k => L.length - k) (0) ⟨rfl, trivial⟩ ?_ ?_
       · exact ⟨Nat.zero_le _, From.rfl_⟩
       rintro k ρ2 w2 ⟨hk, hB⟩
       refine cd_seq ?_
       refine cd_seq ?_
       refine cd_region ?_
       refine st_val (ro_move (v := .int _ _) rfl) ?_
       refine st_val (ro_move (v := .slice _ _ _) rfl) ?_
       refine st_val (ro_len SesJudge_l22 rfl) ?_
       refine st_val (ro_lss rfl rfl) ?_
       refine st_nil ?_
       refine nx_then ?_
       refine cd_cond rfl (fun Q3 => ?_) (fun Q3 => ?_)
       · (try first | replace Q3 := bn_t Q3 | replace Q3 := bn_f Q3)
         (try first | replace Q3 := bx_t Q3 | replace Q3 := bx_f Q3 | replace Q3 := be_t Q3 | replace Q3 := be_f Q3 | replace Q3 := of_decide_eq_true Q3 | replace Q3 := of_decide_eq_false Q3)
         obtain ⟨ba, oa, rfl, hcs⟩ := hr (by omega)
         obtain ⟨h1, h2, h3, h4⟩ := vS_parts (hv.2 k (by omega)).1
         have hvp := (hv.2 k (by omega)).2
         first
          | (exfalso; first | omega | contradiction | (cases Q3; done))
          | skip
            refine cd_skip ?_
            refine nx_then ?_
            refine cd_seq ?_
            refine cd_block ?_
            refine cd_seq ?_
            rcases Nat.eq_zero_or_pos k with hk0 | hk0
            · apply cd_drawn 52 [(13, eqp _), (14, eqp _), (15, eqp _), (16, eqp _), (17, eqp _), (18, eqp _), (19, eqp _), (20, eqp _), (21, eqp _), (22, eqp _), (23, eqp _), (24, eqp _), (25, eqp _), (26, eqp _), (27, eqp _), (28, eqp _), (29, eqp _), (30, eqp _), (31, eqp _), (32, eqp _), (33, eqp _), (34, eqp _), (35, eqp _), (36, eqp _), (37, eqp _), (38, eqp _), (39, eqp _), (40, eqp _), (41, eqp _), (42, eqp _), (43, eqp _), (44, eqp _), (45, eqp _), (46, eqp _), (47, eqp _), (48, eqp _), (49, eqp _), (50, eqp _), (51, eqp _), (52, eqp _), (53, eqp _), (54, eqp _), (55, eqp _), (56, eqp _), (57, eqp _), (58, eqp _), (59, eqp _), (60, eqp _), (61, eqp _), (62, eqp _), (63, eqp _), (64, eqp _)] (by kernel_rfl) (by kernel_rfl) ⟨eqp_mono _, eqp_mono _, eqp_mono _, eqp_mono _, eqp_mono _, eqp_mono _, eqp_mono _, eqp_mono _, eqp_mono _, eqp_mono _, eqp_mono _, eqp_mono _, eqp_mono _, eqp_mono _, eqp_mono _, eqp_mono _, eqp_mono _, eqp_mono _, eqp_mono _, eqp_mono _, eqp_mono _, eqp_mono _, eqp_mono _, eqp_mono _, eqp_mono _, eqp_mono _, eqp_mono _, eqp_mono _, eqp_mono _, eqp_mono _, eqp_mono _, eqp_mono _, eqp_mono _, eqp_mono _, eqp_mono _, eqp_mono _, eqp_mono _, eqp_mono _, eqp_mono _, eqp_mono _, eqp_mono _, eqp_mono _, eqp_mono _, eqp_mono _, eqp_mono _, eqp_mono _, eqp_mono _, eqp_mono _, eqp_mono _, eqp_mono _, eqp_mono _, eqp_mono _, trivial⟩
              case hop =>
               refine ⟨?_, ?_⟩
               · intro w5 D5
                 show OpOK _ _ _ _ _ _ _
                 exact ok_pure (ro_move (v := .slice _ _ _) rfl) rfl
               refine ⟨?_, ?_⟩
               · intro w6 D6
                 show OpOK _ _ _ _ _ _ _
                 exact ok_pure (ro_move (v := .int _ _) rfl) rfl
               refine ⟨?_, ?_⟩
               · intro w7 D7
                 rintro _ rfl _ rfl
                 show OpOK _ _ _ _ _ _ _
                 exact ok_pure (ro_indexAddrN SesJudge_e22 rfl rfl (by omega)) rfl
               refine ⟨?_, ?_⟩
               · intro w8 D8
                 rintro _ rfl
                 show OpOK _ _ _ _ _ _ _
                 exact ok_pure (ro_fieldAddr SesJudge_f60_0 rfl) rfl
               refine ⟨?_, ?_⟩
               · intro w9 D9
                 rintro _ rfl
                 show OpOK _ _ _ _ _ _ _
                 exact ok_pure (ro_load SesJudge_g3 rfl (by exact cellF (hB.next D9) (hcs k (by omega) 0 _ rfl))) rfl
               refine ⟨?_, ?_⟩
               · intro w10 D10
                 rintro _ rfl
                 show OpOK _ _ _ _ _ _ _
                 refine ok_call SesJudge_k32 ((id_rt L[k].c _).mono ?_)
                 rintro v _ ⟨rfl, rfl⟩; exact ⟨From.rfl_, rfl⟩
               refine ⟨?_, ?_⟩
               · intro w11 D11
                 rintro _ rfl
                 show OpOK _ _ _ _ _ _ _
                 exact ok_pure (ro_bf (ro_not rfl) (by rw [h1]; rfl)) rfl
               refine ⟨?_, ?_⟩
               · intro w12 D12
                 rintro _ rfl
                 show OpOK _ _ _ _ _ _ _
                 exact ok_pure (ro_move (v := .bool _) rfl) rfl
               refine ⟨?_, ?_⟩
               · intro w13 D13
                 rintro _ rfl
                 show OpOK _ _ _ _ _ _ _
                 exact ok_gpure rfl (ro_move (v := .slice _ _ _) rfl) rfl
               refine ⟨?_, ?_⟩
               · intro w14 D14
                 rintro _ rfl
                 show OpOK _ _ _ _ _ _ _
                 exact ok_gpure rfl (ro_move (v := .int _ _) rfl) rfl
               refine ⟨?_, ?_⟩
               · intro w15 D15
                 rintro _ rfl _ rfl _ rfl
                 show OpOK _ _ _ _ _ _ _
                 exact ok_gpure rfl (ro_indexAddrN SesJudge_e22 rfl rfl (by omega)) rfl
               refine ⟨?_, ?_⟩
               · intro w16 D16
                 rintro _ rfl _ rfl
                 show OpOK _ _ _ _ _ _ _
                 exact ok_gpure rfl (ro_fieldAddr SesJudge_f60_1 rfl) rfl
               refine ⟨?_, ?_⟩
               · intro w17 D17
                 rintro _ rfl _ rfl
                 show OpOK _ _ _ _ _ _ _
                 exact ok_gpure rfl (ro_load SesJudge_g3 rfl (by exact cellF (hB.next D17) (hcs k (by omega) 1 _ rfl))) rfl
               refine ⟨?_, ?_⟩
               · intro w18 D18
                 rintro _ rfl _ rfl
                 show OpOK _ _ _ _ _ _ _
                 refine ok_gcall rfl SesJudge_k33 ((numB_rt L[k].s _).mono ?_)
                 rintro v _ ⟨rfl, rfl⟩; exact ⟨From.rfl_, rfl⟩
               refine ⟨?_, ?_⟩
               · intro w19 D19
                 rintro _ rfl _ rfl
                 show OpOK _ _ _ _ _ _ _
                 exact ok_gpure rfl (ro_bf (ro_not rfl) (by rw [h2]; rfl)) rfl
               refine ⟨?_, ?_⟩
               · intro w20 D20
                 rintro _ rfl _ rfl
                 show OpOK _ _ _ _ _ _ _
                 exact ok_pure (ro_pickF (v := .bool _) rfl rfl) rfl
               refine ⟨?_, ?_⟩
               · intro w21 D21
                 rintro _ rfl
                 show OpOK _ _ _ _ _ _ _
                 exact ok_pure (ro_move (v := .bool _) rfl) rfl
               refine ⟨?_, ?_⟩
               · intro w22 D22
                 rintro _ rfl
                 show OpOK _ _ _ _ _ _ _
                 exact ok_gpure rfl (ro_move (v := .slice _ _ _) rfl) rfl
               refine ⟨?_, ?_⟩
               · intro w23 D23
                 rintro _ rfl
                 show OpOK _ _ _ _ _ _ _
                 exact ok_gpure rfl (ro_move (v := .int _ _) rfl) rfl
               refine ⟨?_, ?_⟩
               · intro w24 D24
                 rintro _ rfl _ rfl _ rfl
                 show OpOK _ _ _ _ _ _ _
                 exact ok_gpure rfl (ro_indexAddrN SesJudge_e22 rfl rfl (by omega)) rfl
               refine ⟨?_, ?_⟩
               · intro w25 D25
                 rintro _ rfl _ rfl
                 show OpOK _ _ _ _ _ _ _
                 exact ok_gpure rfl (ro_fieldAddr SesJudge_f60_3 rfl) rfl
               refine ⟨?_, ?_⟩
               · intro w26 D26
                 rintro _ rfl _ rfl
                 show OpOK _ _ _ _ _ _ _
                 exact ok_gpure rfl (ro_load SesJudge_g3 rfl (by exact cellF (hB.next D26) (hcs k (by omega) 5 _ rfl))) rfl
               refine ⟨?_, ?_⟩
               · intro w27 D27
                 rintro _ rfl _ rfl
                 show OpOK _ _ _ _ _ _ _
                 refine ok_gcall rfl SesJudge_k33 ((numB_rt L[k].u _).mono ?_)
                 rintro v _ ⟨rfl, rfl⟩; exact ⟨From.rfl_, rfl⟩
               refine ⟨?_, ?_⟩
               · intro w28 D28
                 rintro _ rfl _ rfl
                 show OpOK _ _ _ _ _ _ _
                 exact ok_gpure rfl (ro_bf (ro_not rfl) (by rw [h3]; rfl)) rfl
               refine ⟨?_, ?_⟩
               · intro w29 D29
                 rintro _ rfl _ rfl
                 show OpOK _ _ _ _ _ _ _
                 exact ok_pure (ro_pickF (v := .bool _) rfl rfl) rfl
               refine ⟨?_, ?_⟩
               · intro w30 D30
                 rintro _ rfl
                 show OpOK _ _ _ _ _ _ _
                 exact ok_pure (ro_move (v := .bool _) rfl) rfl
               refine ⟨?_, ?_⟩
               · intro w31 D31
                 rintro _ rfl
                 show OpOK _ _ _ _ _ _ _
                 exact ok_gpure rfl (ro_move (v := .slice _ _ _) rfl) rfl
               refine ⟨?_, ?_⟩
               · intro w32 D32
                 rintro _ rfl
                 show OpOK _ _ _ _ _ _ _
                 exact ok_gpure rfl (ro_move (v := .int _ _) rfl) rfl
               refine ⟨?_, ?_⟩
               · intro w33 D33
                 rintro _ rfl _ rfl _ rfl
                 show OpOK _ _ _ _ _ _ _
                 exact ok_gpure rfl (ro_indexAddrN SesJudge_e22 rfl rfl (by omega)) rfl
               refine ⟨?_, ?_⟩
               · intro w34 D34
                 rintro _ rfl _ rfl
                 show OpOK _ _ _ _ _ _ _
                 exact ok_gpure rfl (ro_fieldAddr SesJudge_f60_2 rfl) rfl
               refine ⟨?_, ?_⟩
               · intro w35 D35
                 rintro _ rfl _ rfl
                 show OpOK _ _ _ _ _ _ _
                 exact ok_gpure rfl (ro_loadA (cs := [_, _, _]) SesJudge_g31 SesJudge_z31 rfl (by exact rangeF (hB.next D35) (rep_ses (hcs k (by omega))))) rfl
               refine ⟨?_, ?_⟩
               · intro w36 D36
                 rintro _ rfl _ rfl
                 show OpOK _ _ _ _ _ _ _
                 refine ok_gcall rfl SesJudge_k34 ((mayReply_rt L[k].e L[k].n L[k].H L[k].hl L[k].hc _).mono ?_)
                 rintro v _ ⟨rfl, E36'⟩; exact ⟨E36', rfl⟩
               refine ⟨?_, ?_⟩
               · intro w37 D37
                 rintro _ rfl _ rfl
                 show OpOK _ _ _ _ _ _ _
                 exact ok_gpure rfl (ro_bf (ro_not rfl) (by rw [h4]; rfl)) rfl
               refine ⟨?_, ?_⟩
               · intro w38 D38
                 rintro _ rfl _ rfl
                 show OpOK _ _ _ _ _ _ _
                 exact ok_pure (ro_pickF (v := .bool _) rfl rfl) rfl
               refine ⟨?_, ?_⟩
               · intro w39 D39
                 rintro _ rfl
                 show OpOK _ _ _ _ _ _ _
                 exact ok_pure (ro_move (v := .bool _) rfl) rfl
               refine ⟨?_, ?_⟩
               · intro w40 D40
                 rintro _ rfl
                 show OpOK _ _ _ _ _ _ _
                 exact ok_gpure rfl (ro_move (v := .int _ _) rfl) rfl
               refine ⟨?_, ?_⟩
               · intro w41 D41
                 rintro _ rfl _ rfl
                 show OpOK _ _ _ _ _ _ _
                 exact ok_gpure rfl (ro_bf (ro_gtr rfl rfl) (decide_eq_false (by omega))) rfl
               refine ⟨?_, ?_⟩
               · intro w42 D42
                 rintro _ rfl _ rfl
                 show OpOK _ _ _ _ _ _ _
                 exact ok_gpure rfl (ro_move (v := .bool _) rfl) rfl
               refine ⟨?_, ?_⟩
               · intro w43 D43
                 rintro _ rfl
                 show OpOK _ _ _ _ _ _ _
                 exact ok_gno rfl rfl rfl
               refine ⟨?_, ?_⟩
               · intro w44 D44
                 rintro _ rfl
                 show OpOK _ _ _ _ _ _ _
                 exact ok_gno rfl rfl rfl
               refine ⟨?_, ?_⟩
               · intro w45 D45
                 rintro _ rfl _ rfl
                 show OpOK _ _ _ _ _ _ _
                 exact ok_gno rfl rfl rfl
               refine ⟨?_, ?_⟩
               · intro w46 D46
                 rintro _ rfl _ rfl _ rfl
                 show OpOK _ _ _ _ _ _ _
                 exact ok_gno rfl rfl rfl
               refine ⟨?_, ?_⟩
               · intro w47 D47
                 rintro _ rfl _ rfl
                 show OpOK _ _ _ _ _ _ _
                 exact ok_gno rfl rfl rfl
               refine ⟨?_, ?_⟩
               · intro w48 D48
                 rintro _ rfl _ rfl
                 show OpOK _ _ _ _ _ _ _
                 exact ok_gno rfl rfl rfl
               refine ⟨?_, ?_⟩
               · intro w49 D49
                 rintro _ rfl
                 show OpOK _ _ _ _ _ _ _
                 exact ok_gno rfl rfl rfl
               refine ⟨?_, ?_⟩
               · intro w50 D50
                 rintro _ rfl
                 show OpOK _ _ _ _ _ _ _
                 exact ok_gno rfl rfl rfl
               refine ⟨?_, ?_⟩
               · intro w51 D51
                 rintro _ rfl _ rfl _ rfl
                 show OpOK _ _ _ _ _ _ _
                 exact ok_gno rfl rfl rfl
               refine ⟨?_, ?_⟩
               · intro w52 D52
                 rintro _ rfl _ rfl
                 show OpOK _ _ _ _ _ _ _
                 exact ok_gno rfl rfl rfl
               refine ⟨?_, ?_⟩
               · intro w53 D53
                 rintro _ rfl _ rfl
                 show OpOK _ _ _ _ _ _ _
                 exact ok_gno rfl rfl rfl
               refine ⟨?_, ?_⟩
               · intro w54 D54
                 rintro _ rfl _ rfl _ rfl
                 show OpOK _ _ _ _ _ _ _
                 exact ok_gno rfl rfl rfl
               refine ⟨?_, ?_⟩
               · intro w55 D55
                 rintro _ rfl _ rfl _ rfl
                 show OpOK _ _ _ _ _ _ _
                 exact ok_gpure rfl (ro_pickF (v := .bool _) rfl rfl) rfl
               refine ⟨?_, ?_⟩
               · intro w56 D56
                 rintro _ rfl _ rfl
                 show OpOK _ _ _ _ _ _ _
                 exact ok_pure (ro_pickF (v := .bool _) rfl rfl) rfl
               exact trivial
              case hend =>
               intro w57 D57
               rintro _ rfl _ rfl _ rfl _ rfl _ rfl _ rfl _ rfl _ rfl _ rfl _ rfl _ rfl _ rfl _ rfl _ rfl _ rfl _ rfl _ rfl _ rfl _ rfl _ rfl _ rfl _ rfl _ rfl _ rfl _ rfl _ rfl _ rfl _ rfl _ rfl _ rfl _ rfl _ rfl _ rfl _ rfl _ rfl _ rfl _ rfl _ rfl _ rfl _ rfl _ rfl _ rfl _ rfl _ rfl _ rfl _ rfl _ rfl _ rfl _ rfl _ rfl _ rfl _ rfl
               show St _ _ _ _ _ _ _
               refine st_nil ?_
               refine nx_then ?_
               refine cd_condF rfl ?_
               refine cd_skip ?_
               refine nx_block ?_
               refine nx_then ?_
               refine cd_region ?_
               refine st_val (ro_move (v := .int _ _) rfl) ?_
               refine st_val (ro_addN (b := 1) rfl rfl (by omega)) ?_
               refine st_val (ro_assign (v := .int _ _) rfl) ?_
               refine st_nil ?_
               refine nx_cut (k + 1) ⟨(by first | rfl | (refine int_eq ?_; omega)), trivial⟩ (by (iterate 119 refine agr_cons rfl ?_); exact agr_rfl) ⟨?_, ?_⟩
               · exact ⟨by omega, (hB.next D57)⟩
               · omega
            · have hlt := hvp hk0
              apply cd_drawn 52 [(13, eqp _), (14, eqp _), (15, eqp _), (16, eqp _), (17, eqp _), (18, eqp _), (19, eqp _), (20, eqp _), (21, eqp _), (22, eqp _), (23, eqp _), (24, eqp _), (25, eqp _), (26, eqp _), (27, eqp _), (28, eqp _), (29, eqp _), (30, eqp _), (31, eqp _), (32, eqp _), (33, eqp _), (34, eqp _), (35, eqp _), (36, eqp _), (37, eqp _), (38, eqp _), (39, eqp _), (40, eqp _), (41, eqp _), (42, eqp _), (43, eqp _), (44, eqp _), (45, eqp _), (46, eqp _), (47, eqp _), (48, eqp _), (49, eqp _), (50, eqp _), (51, eqp _), (52, eqp _), (53, eqp _), (54, eqp _), (55, eqp _), (56, eqp _), (57, eqp _), (58, eqp _), (59, eqp _), (60, eqp _), (61, eqp _), (62, eqp _), (63, eqp _), (64, eqp _)] (by kernel_rfl) (by kernel_rfl) ⟨eqp_mono _, eqp_mono _, eqp_mono _, eqp_mono _, eqp_mono _, eqp_mono _, eqp_mono _, eqp_mono _, eqp_mono _, eqp_mono _, eqp_mono _, eqp_mono _, eqp_mono _, eqp_mono _, eqp_mono _, eqp_mono _, eqp_mono _, eqp_mono _, eqp_mono _, eqp_mono _, eqp_mono _, eqp_mono _, eqp_mono _, eqp_mono _, eqp_mono _, eqp_mono _, eqp_mono _, eqp_mono _, eqp_mono _, eqp_mono _, eqp_mono _, eqp_mono _, eqp_mono _, eqp_mono _, eqp_mono _, eqp_mono _, eqp_mono _, eqp_mono _, eqp_mono _, eqp_mono _, eqp_mono _, eqp_mono _, eqp_mono _, eqp_mono _, eqp_mono _, eqp_mono _, eqp_mono _, eqp_mono _, eqp_mono _, eqp_mono _, eqp_mono _, eqp_mono _, trivial⟩
              case hop =>
               refine ⟨?_, ?_⟩
               · intro w59 D59
                 show OpOK _ _ _ _ _ _ _
                 exact ok_pure (ro_move (v := .slice _ _ _) rfl) rfl
               refine ⟨?_, ?_⟩
               · intro w60 D60
                 show OpOK _ _ _ _ _ _ _
                 exact ok_pure (ro_move (v := .int _ _) rfl) rfl
               refine ⟨?_, ?_⟩
               · intro w61 D61
                 rintro _ rfl _ rfl
                 show OpOK _ _ _ _ _ _ _
                 exact ok_pure (ro_indexAddrN SesJudge_e22 rfl rfl (by omega)) rfl
               refine ⟨?_, ?_⟩
               · intro w62 D62
                 rintro _ rfl
                 show OpOK _ _ _ _ _ _ _
                 exact ok_pure (ro_fieldAddr SesJudge_f60_0 rfl) rfl
               refine ⟨?_, ?_⟩
               · intro w63 D63
                 rintro _ rfl
                 show OpOK _ _ _ _ _ _ _
                 exact ok_pure (ro_load SesJudge_g3 rfl (by exact cellF (hB.next D63) (hcs k (by omega) 0 _ rfl))) rfl
               refine ⟨?_, ?_⟩
               · intro w64 D64
                 rintro _ rfl
                 show OpOK _ _ _ _ _ _ _
                 refine ok_call SesJudge_k32 ((id_rt L[k].c _).mono ?_)
                 rintro v _ ⟨rfl, rfl⟩; exact ⟨From.rfl_, rfl⟩
               refine ⟨?_, ?_⟩
               · intro w65 D65
                 rintro _ rfl
                 show OpOK _ _ _ _ _ _ _
                 exact ok_pure (ro_bf (ro_not rfl) (by rw [h1]; rfl)) rfl
               refine ⟨?_, ?_⟩
               · intro w66 D66
                 rintro _ rfl
                 show OpOK _ _ _ _ _ _ _
                 exact ok_pure (ro_move (v := .bool _) rfl) rfl
               refine ⟨?_, ?_⟩
               · intro w67 D67
                 rintro _ rfl
                 show OpOK _ _ _ _ _ _ _
                 exact ok_gpure rfl (ro_move (v := .slice _ _ _) rfl) rfl
               refine ⟨?_, ?_⟩
               · intro w68 D68
                 rintro _ rfl
                 show OpOK _ _ _ _ _ _ _
                 exact ok_gpure rfl (ro_move (v := .int _ _) rfl) rfl
               refine ⟨?_, ?_⟩
               · intro w69 D69
                 rintro _ rfl _ rfl _ rfl
                 show OpOK _ _ _ _ _ _ _
                 exact ok_gpure rfl (ro_indexAddrN SesJudge_e22 rfl rfl (by omega)) rfl
               refine ⟨?_, ?_⟩
               · intro w70 D70
                 rintro _ rfl _ rfl
                 show OpOK _ _ _ _ _ _ _
                 exact ok_gpure rfl (ro_fieldAddr SesJudge_f60_1 rfl) rfl
               refine ⟨?_, ?_⟩
               · intro w71 D71
                 rintro _ rfl _ rfl
                 show OpOK _ _ _ _ _ _ _
                 exact ok_gpure rfl (ro_load SesJudge_g3 rfl (by exact cellF (hB.next D71) (hcs k (by omega) 1 _ rfl))) rfl
               refine ⟨?_, ?_⟩
               · intro w72 D72
                 rintro _ rfl _ rfl
                 show OpOK _ _ _ _ _ _ _
                 refine ok_gcall rfl SesJudge_k33 ((numB_rt L[k].s _).mono ?_)
                 rintro v _ ⟨rfl, rfl⟩; exact ⟨From.rfl_, rfl⟩
               refine ⟨?_, ?_⟩
               · intro w73 D73
                 rintro _ rfl _ rfl
                 show OpOK _ _ _ _ _ _ _
                 exact ok_gpure rfl (ro_bf (ro_not rfl) (by rw [h2]; rfl)) rfl
               refine ⟨?_, ?_⟩
               · intro w74 D74
                 rintro _ rfl _ rfl
                 show OpOK _ _ _ _ _ _ _
                 exact ok_pure (ro_pickF (v := .bool _) rfl rfl) rfl
               refine ⟨?_, ?_⟩
               · intro w75 D75
                 rintro _ rfl
                 show OpOK _ _ _ _ _ _ _
                 exact ok_pure (ro_move (v := .bool _) rfl) rfl
               refine ⟨?_, ?_⟩
               · intro w76 D76
                 rintro _ rfl
                 show OpOK _ _ _ _ _ _ _
                 exact ok_gpure rfl (ro_move (v := .slice _ _ _) rfl) rfl
               refine ⟨?_, ?_⟩
               · intro w77 D77
                 rintro _ rfl
                 show OpOK _ _ _ _ _ _ _
                 exact ok_gpure rfl (ro_move (v := .int _ _) rfl) rfl
               refine ⟨?_, ?_⟩
               · intro w78 D78
                 rintro _ rfl _ rfl _ rfl
                 show OpOK _ _ _ _ _ _ _
                 exact ok_gpure rfl (ro_indexAddrN SesJudge_e22 rfl rfl (by omega)) rfl
               refine ⟨?_, ?_⟩
               · intro w79 D79
                 rintro _ rfl _ rfl
                 show OpOK _ _ _ _ _ _ _
                 exact ok_gpure rfl (ro_fieldAddr SesJudge_f60_3 rfl) rfl
               refine ⟨?_, ?_⟩
               · intro w80 D80
                 rintro _ rfl _ rfl
                 show OpOK _ _ _ _ _ _ _
                 exact ok_gpure rfl (ro_load SesJudge_g3 rfl (by exact cellF (hB.next D80) (hcs k (by omega) 5 _ rfl))) rfl
               refine ⟨?_, ?_⟩
               · intro w81 D81
                 rintro _ rfl _ rfl
                 show OpOK _ _ _ _ _ _ _
                 refine ok_gcall rfl SesJudge_k33 ((numB_rt L[k].u _).mono ?_)
                 rintro v _ ⟨rfl, rfl⟩; exact ⟨From.rfl_, rfl⟩
               refine ⟨?_, ?_⟩
               · intro w82 D82
                 rintro _ rfl _ rfl
                 show OpOK _ _ _ _ _ _ _
                 exact ok_gpure rfl (ro_bf (ro_not rfl) (by rw [h3]; rfl)) rfl
               refine ⟨?_, ?_⟩
               · intro w83 D83
                 rintro _ rfl _ rfl
                 show OpOK _ _ _ _ _ _ _
                 exact ok_pure (ro_pickF (v := .bool _) rfl rfl) rfl
               refine ⟨?_, ?_⟩
               · intro w84 D84
                 rintro _ rfl
                 show OpOK _ _ _ _ _ _ _
                 exact ok_pure (ro_move (v := .bool _) rfl) rfl
               refine ⟨?_, ?_⟩
               · intro w85 D85
                 rintro _ rfl
                 show OpOK _ _ _ _ _ _ _
                 exact ok_gpure rfl (ro_move (v := .slice _ _ _) rfl) rfl
               refine ⟨?_, ?_⟩
               · intro w86 D86
                 rintro _ rfl
                 show OpOK _ _ _ _ _ _ _
                 exact ok_gpure rfl (ro_move (v := .int _ _) rfl) rfl
               refine ⟨?_, ?_⟩
               · intro w87 D87
                 rintro _ rfl _ rfl _ rfl
                 show OpOK _ _ _ _ _ _ _
                 exact ok_gpure rfl (ro_indexAddrN SesJudge_e22 rfl rfl (by omega)) rfl
               refine ⟨?_, ?_⟩
               · intro w88 D88
                 rintro _ rfl _ rfl
                 show OpOK _ _ _ _ _ _ _
                 exact ok_gpure rfl (ro_fieldAddr SesJudge_f60_2 rfl) rfl
               refine ⟨?_, ?_⟩
               · intro w89 D89
                 rintro _ rfl _ rfl
                 show OpOK _ _ _ _ _ _ _
                 exact ok_gpure rfl (ro_loadA (cs := [_, _, _]) SesJudge_g31 SesJudge_z31 rfl (by exact rangeF (hB.next D89) (rep_ses (hcs k (by omega))))) rfl
               refine ⟨?_, ?_⟩
               · intro w90 D90
                 rintro _ rfl _ rfl
                 show OpOK _ _ _ _ _ _ _
                 refine ok_gcall rfl SesJudge_k34 ((mayReply_rt L[k].e L[k].n L[k].H L[k].hl L[k].hc _).mono ?_)
                 rintro v _ ⟨rfl, E90'⟩; exact ⟨E90', rfl⟩
               refine ⟨?_, ?_⟩
               · intro w91 D91
                 rintro _ rfl _ rfl
                 show OpOK _ _ _ _ _ _ _
                 exact ok_gpure rfl (ro_bf (ro_not rfl) (by rw [h4]; rfl)) rfl
               refine ⟨?_, ?_⟩
               · intro w92 D92
                 rintro _ rfl _ rfl
                 show OpOK _ _ _ _ _ _ _
                 exact ok_pure (ro_pickF (v := .bool _) rfl rfl) rfl
               refine ⟨?_, ?_⟩
               · intro w93 D93
                 rintro _ rfl
                 show OpOK _ _ _ _ _ _ _
                 exact ok_pure (ro_move (v := .bool _) rfl) rfl
               refine ⟨?_, ?_⟩
               · intro w94 D94
                 rintro _ rfl
                 show OpOK _ _ _ _ _ _ _
                 exact ok_gpure rfl (ro_move (v := .int _ _) rfl) rfl
               refine ⟨?_, ?_⟩
               · intro w95 D95
                 rintro _ rfl _ rfl
                 show OpOK _ _ _ _ _ _ _
                 exact ok_gpure rfl (ro_bt (ro_gtr rfl rfl) (decide_eq_true (by omega))) rfl
               refine ⟨?_, ?_⟩
               · intro w96 D96
                 rintro _ rfl _ rfl
                 show OpOK _ _ _ _ _ _ _
                 exact ok_gpure rfl (ro_move (v := .bool _) rfl) rfl
               refine ⟨?_, ?_⟩
               · intro w97 D97
                 rintro _ rfl
                 show OpOK _ _ _ _ _ _ _
                 exact ok_gpure rfl (ro_move (v := .slice _ _ _) rfl) rfl
               refine ⟨?_, ?_⟩
               · intro w98 D98
                 rintro _ rfl
                 show OpOK _ _ _ _ _ _ _
                 exact ok_gpure rfl (ro_move (v := .int _ _) rfl) rfl
               refine ⟨?_, ?_⟩
               · intro w99 D99
                 rintro _ rfl _ rfl
                 show OpOK _ _ _ _ _ _ _
                 exact ok_gpure rfl (ro_subN (b := 1) rfl rfl (by omega)) rfl
               refine ⟨?_, ?_⟩
               · intro w100 D100
                 rintro _ rfl _ rfl _ rfl
                 show OpOK _ _ _ _ _ _ _
                 exact ok_gpure rfl (ro_indexAddrN SesJudge_e22 rfl rfl (by omega)) rfl
               refine ⟨?_, ?_⟩
               · intro w101 D101
                 rintro _ rfl _ rfl
                 show OpOK _ _ _ _ _ _ _
                 exact ok_gpure rfl (ro_fieldAddr SesJudge_f60_0 rfl) rfl
               refine ⟨?_, ?_⟩
               · intro w102 D102
                 rintro _ rfl _ rfl
                 show OpOK _ _ _ _ _ _ _
                 exact ok_gpure rfl (ro_load SesJudge_g3 rfl (by exact cellF (hB.next D102) (hcs (k - 1) (by omega) 0 _ rfl))) rfl
               refine ⟨?_, ?_⟩
               · intro w103 D103
                 rintro _ rfl
                 show OpOK _ _ _ _ _ _ _
                 exact ok_gpure rfl (ro_move (v := .slice _ _ _) rfl) rfl
               refine ⟨?_, ?_⟩
               · intro w104 D104
                 rintro _ rfl
                 show OpOK _ _ _ _ _ _ _
                 exact ok_gpure rfl (ro_move (v := .int _ _) rfl) rfl
               refine ⟨?_, ?_⟩
               · intro w105 D105
                 rintro _ rfl _ rfl _ rfl
                 show OpOK _ _ _ _ _ _ _
                 exact ok_gpure rfl (ro_indexAddrN SesJudge_e22 rfl rfl (by omega)) rfl
               refine ⟨?_, ?_⟩
               · intro w106 D106
                 rintro _ rfl _ rfl
                 show OpOK _ _ _ _ _ _ _
                 exact ok_gpure rfl (ro_fieldAddr SesJudge_f60_0 rfl) rfl
               refine ⟨?_, ?_⟩
               · intro w107 D107
                 rintro _ rfl _ rfl
                 show OpOK _ _ _ _ _ _ _
                 exact ok_gpure rfl (ro_load SesJudge_g3 rfl (by exact cellF (hB.next D107) (hcs k (by omega) 0 _ rfl))) rfl
               refine ⟨?_, ?_⟩
               · intro w108 D108
                 rintro _ rfl _ rfl _ rfl
                 show OpOK _ _ _ _ _ _ _
                 exact ok_gpure rfl (ro_bf (ro_geq rfl rfl) (decide_eq_false (by omega))) rfl
               refine ⟨?_, ?_⟩
               · intro w109 D109
                 rintro _ rfl _ rfl _ rfl
                 show OpOK _ _ _ _ _ _ _
                 exact ok_gpure rfl (ro_pickT (v := .bool _) rfl rfl) rfl
               refine ⟨?_, ?_⟩
               · intro w110 D110
                 rintro _ rfl _ rfl
                 show OpOK _ _ _ _ _ _ _
                 exact ok_pure (ro_pickF (v := .bool _) rfl rfl) rfl
               exact trivial
              case hend =>
               intro w111 D111
               rintro _ rfl _ rfl _ rfl _ rfl _ rfl _ rfl _ rfl _ rfl _ rfl _ rfl _ rfl _ rfl _ rfl _ rfl _ rfl _ rfl _ rfl _ rfl _ rfl _ rfl _ rfl _ rfl _ rfl _ rfl _ rfl _ rfl _ rfl _ rfl _ rfl _ rfl _ rfl _ rfl _ rfl _ rfl _ rfl _ rfl _ rfl _ rfl _ rfl _ rfl _ rfl _ rfl _ rfl _ rfl _ rfl _ rfl _ rfl _ rfl _ rfl _ rfl _ rfl _ rfl
               show St _ _ _ _ _ _ _
               refine st_nil ?_
               refine nx_then ?_
               refine cd_condF rfl ?_
               refine cd_skip ?_
               refine nx_block ?_
               refine nx_then ?_
               refine cd_region ?_
               refine st_val (ro_move (v := .int _ _) rfl) ?_
               refine st_val (ro_addN (b := 1) rfl rfl (by omega)) ?_
               refine st_val (ro_assign (v := .int _ _) rfl) ?_
               refine st_nil ?_
               refine nx_cut (k + 1) ⟨(by first | rfl | (refine int_eq ?_; omega)), trivial⟩ (by (iterate 119 refine agr_cons rfl ?_); exact agr_rfl) ⟨?_, ?_⟩
               · exact ⟨by omega, (hB.next D111)⟩
               · omega
       · (try first | replace Q3 := bn_t Q3 | replace Q3 := bn_f Q3)
         (try first | replace Q3 := bx_t Q3 | replace Q3 := bx_f Q3 | replace Q3 := be_t Q3 | replace Q3 := be_f Q3 | replace Q3 := of_decide_eq_true Q3 | replace Q3 := of_decide_eq_false Q3)
         first
          | (exfalso; first | omega | contradiction | (cases Q3; done))
          | skip
            refine cd_exit ?_
            refine ex_then ?_
            refine ex_then ?_
            refine ex_block ?_
            refine nx_then ?_
            refine cd_seq ?_
            refine cd_region ?_
            refine st_val (ro_assign (v := .bool _) rfl) ?_
            refine st_nil ?_
            refine nx_then ?_
            refine cd_ret ?_
            refine res1 (v := .bool _) rfl rfl ?_
            exact ⟨rfl, hB⟩
set_option maxRecDepth 100000 in
set_option maxHeartbeats 400000 in
theorem close_no (A : Option Addr) (c : Nat) (L : List Ses) (w : World) (hr : RowS w A L) (hl : L.length ≤ 10000000000000) (cl : Int) (hnv : ¬ ValidL L) :
    Rt Try.prog 23 [.slice A L.length c, .int .i64 cl] w (fun v w' => v = .tuple #[.slice none 0 0, .int .i64 1] ∧ From w w') := by
  refine enter (n := 25) Try.func23 rfl rfl rfl ?_
  refine cd_seq ?_
  refine cd_region ?_
  refine st_val (ro_assign (v := .slice _ _ _) rfl) ?_
  refine st_val (ro_assign (v := .int _ _) rfl) ?_
  refine st_nil ?_
  refine nx_then ?_
  refine cd_seq ?_
  refine cd_seq ?_
  refine cd_region ?_
  refine st_val (ro_move (v := .slice _ _ _) rfl) ?_
  refine st_call SesJudge_k13 (check_no A c L _ (hr.from_ From.rfl_) hl hnv) ?_
  rintro v9 w1 ⟨rfl, E9⟩
  refine st_val (ro_bt (ro_neq rfl rfl) rfl) ?_
  refine st_nil ?_
  refine nx_then ?_
  refine cd_condT rfl ?_
  refine cd_seq ?_
  refine cd_region ?_
  refine st_val (ro_assign (v := .slice _ _ _) rfl) ?_
  refine st_val (ro_assign (v := .int _ _) rfl) ?_
  refine st_nil ?_
  refine nx_then ?_
  refine cd_ret ?_
  refine rt_then ?_
  refine res2 (v := .slice _ _ _) (v' := .int _ _) rfl rfl rfl ?_
  exact ⟨rfl, (From.rfl_.next E9)⟩
set_option maxRecDepth 100000 in
set_option maxHeartbeats 400000 in
theorem open_no (A : Option Addr) (c : Nat) (L : List Ses) (w : World) (hr : RowS w A L) (hl : L.length ≤ 10000000000000) (t : Int) (hnv : ¬ ValidL L) :
    Rt Try.prog 26 [.slice A L.length c, .int .i64 t] w (fun v w' => v = .tuple #[.slice none 0 0, .int .i64 1] ∧ From w w') := by
  refine enter (n := 53) Try.func26 rfl rfl rfl ?_
  refine cd_seq ?_
  refine cd_region ?_
  refine st_val (ro_assign (v := .slice _ _ _) rfl) ?_
  refine st_val (ro_assign (v := .int _ _) rfl) ?_
  refine st_nil ?_
  refine nx_then ?_
  refine cd_seq ?_
  refine cd_seq ?_
  refine cd_region ?_
  refine st_val (ro_move (v := .slice _ _ _) rfl) ?_
  refine st_call SesJudge_k13 (check_no A c L _ (hr.from_ From.rfl_) hl hnv) ?_
  rintro v13 w1 ⟨rfl, E13⟩
  refine st_val (ro_bt (ro_neq rfl rfl) rfl) ?_
  refine st_val (ro_move (v := .bool _) rfl) ?_
  refine st_gno rfl rfl ?_
  refine st_gno rfl rfl ?_
  refine st_gno rfl rfl ?_
  refine st_gno rfl rfl ?_
  refine st_val (ro_pickT (v := .bool _) rfl rfl) ?_
  refine st_nil ?_
  refine nx_then ?_
  refine cd_condT rfl ?_
  refine cd_seq ?_
  refine cd_region ?_
  refine st_val (ro_assign (v := .slice _ _ _) rfl) ?_
  refine st_val (ro_assign (v := .int _ _) rfl) ?_
  refine st_nil ?_
  refine nx_then ?_
  refine cd_ret ?_
  refine rt_then ?_
  refine res2 (v := .slice _ _ _) (v' := .int _ _) rfl rfl rfl ?_
  exact ⟨rfl, (From.rfl_.next E13)⟩
set_option maxRecDepth 100000 in
set_option maxHeartbeats 400000 in
theorem done_no (A : Option Addr) (c : Nat) (L : List Ses) (w : World) (hr : RowS w A L) (hl : L.length ≤ 10000000000000) (cl sq e n idx : Int) (H : Option Addr) (hl0 hc0 : Nat) (hnv : ¬ ValidL L) :
    Rt Try.prog 20 [.slice A L.length c, .int .i64 cl, .int .i64 sq, .agg #[.int .i64 e, .int .i64 n, .slice H hl0 hc0], .int .i64 idx] w (fun v w' => v = .tuple #[.slice none 0 0, .int .i64 1] ∧ From w w') := by
  refine enter (n := 50) Try.func20 rfl rfl rfl ?_
  refine cd_seq ?_
  refine cd_region ?_
  refine st_box (v := .agg _) rfl ?_
  intro b8 w1 E8 hb8 hk8
  refine st_val (ro_assign (v := .slice _ _ _) rfl) ?_
  refine st_val (ro_assign (v := .int _ _) rfl) ?_
  refine st_nil ?_
  refine nx_then ?_
  refine cd_seq ?_
  refine cd_seq ?_
  refine cd_region ?_
  refine st_val (ro_move (v := .slice _ _ _) rfl) ?_
  refine st_call SesJudge_k13 (check_no A c L _ (hr.from_ (From.rfl_.next E8)) hl hnv) ?_
  rintro v16 w2 ⟨rfl, E16⟩
  refine st_val (ro_bt (ro_neq rfl rfl) rfl) ?_
  refine st_val (ro_move (v := .bool _) rfl) ?_
  refine st_gno rfl rfl ?_
  refine st_gno rfl rfl ?_
  refine st_gno rfl rfl ?_
  refine st_gno rfl rfl ?_
  refine st_gno rfl rfl ?_
  refine st_val (ro_pickT (v := .bool _) rfl rfl) ?_
  refine st_val (ro_move (v := .bool _) rfl) ?_
  refine st_gno rfl rfl ?_
  refine st_gno rfl rfl ?_
  refine st_gno rfl rfl ?_
  refine st_val (ro_pickT (v := .bool _) rfl rfl) ?_
  refine st_nil ?_
  refine nx_then ?_
  refine cd_condT rfl ?_
  refine cd_seq ?_
  refine cd_region ?_
  refine st_val (ro_assign (v := .slice _ _ _) rfl) ?_
  refine st_val (ro_assign (v := .int _ _) rfl) ?_
  refine st_nil ?_
  refine nx_then ?_
  refine cd_ret ?_
  refine rt_then ?_
  refine res2 (v := .slice _ _ _) (v' := .int _ _) rfl rfl rfl ?_
  exact ⟨rfl, ((From.rfl_.next E8).next E16)⟩
set_option maxRecDepth 100000 in
set_option maxHeartbeats 400000 in
theorem begin_bad (A : Option Addr) (c : Nat) (L : List Ses) (w : World) (hr : RowS w A L) (hl : L.length ≤ 10000000000000) (cl sq : Int) (hnv : ¬ ValidL L) :
    Rt Try.prog 16 [.slice A L.length c, .int .i64 cl, .int .i64 sq] w (fun v w' => v = .tuple #[.agg #[.int .i64 0, .int .i64 0, .slice none 0 0], .bool false, .int .i64 1] ∧ From w w') := by
  refine enter (n := 53) Try.func16 rfl rfl rfl ?_
  refine cd_seq ?_
  refine cd_region ?_
  refine st_alloc SesJudge_o31 ?_
  intro b6 w1 E6 hb6 hk6
  have hg6 : w.heap.size ≤ b6 := by rw [hb6]; exact Nat.le_refl _
  refine st_val (ro_assign (v := .bool _) rfl) ?_
  refine st_val (ro_assign (v := .int _ _) rfl) ?_
  refine st_nil ?_
  refine nx_then ?_
  refine cd_seq ?_
  refine cd_seq ?_
  refine cd_region ?_
  refine st_val (ro_move (v := .slice _ _ _) rfl) ?_
  refine st_call SesJudge_k13 (check_no A c L _ (hr.from_ (From.rfl_.next E6)) hl hnv) ?_
  rintro v12 w2 ⟨rfl, E12⟩
  refine st_val (ro_bt (ro_neq rfl rfl) rfl) ?_
  refine st_val (ro_move (v := .bool _) rfl) ?_
  refine st_gno rfl rfl ?_
  refine st_gno rfl rfl ?_
  refine st_gno rfl rfl ?_
  refine st_gno rfl rfl ?_
  refine st_val (ro_pickT (v := .bool _) rfl rfl) ?_
  refine st_nil ?_
  refine nx_then ?_
  refine cd_condT rfl ?_
  refine cd_seq ?_
  refine cd_region ?_
  refine st_val (ro_build (l := []) (SesJudge_b31_)) ?_
  refine st_putW (vs := [_, _, _]) SesJudge_z31 rfl rfl (by simp [Value.oneCell']) ((hk6.from_ (From.rfl_.next E12))) rfl ?_
  intro w3 O2 P2
  refine st_val (ro_assign (v := .bool _) rfl) ?_
  refine st_val (ro_assign (v := .int _ _) rfl) ?_
  refine st_nil ?_
  refine nx_then ?_
  refine cd_ret ?_
  refine rt_then ?_
  refine resr3 rfl (rv_cellA (cs := [_, _, _]) SesJudge_g31 SesJudge_z31 rfl (by exact P2.whole)) (rv_tmp (v := .bool _) rfl) (rv_tmp (v := .int _ _) rfl) ?_
  exact ⟨rfl, (((From.rfl_.next E6).next E12).only O2 (hg6))⟩
end Go.Proofs.Ytbikemhokgcboaa
