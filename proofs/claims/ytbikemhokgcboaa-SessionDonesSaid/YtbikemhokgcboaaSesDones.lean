/- The law SessionDones. -/
import Derived.Test.YtbikemhokgcboaaSesArg2
namespace Go.Proofs.Ytbikemhokgcboaa
open Go.RowKit
open Go.ChangeShapes Go.WideShapes Go.ChangeAt
theorem SesDones_g25 : aggQ Try.prog 25 = some true := by kernel_rfl
theorem SesDones_z25 : sizeQ Try.prog 25 = some 2 := by kernel_rfl
theorem SesDones_k9 : callable Try.prog 9 = true := by kernel_rfl
theorem SesDones_f25_0 : fieldQ Try.prog 25 0 = some 0 := by kernel_rfl
theorem SesDones_g22 : aggQ Try.prog 22 = some false := by kernel_rfl
theorem SesDones_k11 : callable Try.prog 11 = true := by kernel_rfl
theorem SesDones_f25_1 : fieldQ Try.prog 25 1 = some 1 := by kernel_rfl
theorem SesDones_g23 : aggQ Try.prog 23 = some false := by kernel_rfl
theorem SesDones_l23 : (elemQ Try.prog 23).isSome = true := by kernel_rfl
theorem SesDones_e23 : elemQ Try.prog 23 = some (33, 7) := by kernel_rfl
theorem SesDones_g33 : aggQ Try.prog 33 = some true := by kernel_rfl
theorem SesDones_z33 : sizeQ Try.prog 33 = some 7 := by kernel_rfl
theorem SesDones_o33 : zeroQ Try.prog 33 = some (.agg #[.int .i64 0, .int .i64 0, .int .i64 0, .int .i64 0, .int .i64 0, .int .i64 0, .slice none 0 0]) := by kernel_rfl
theorem SesDones_f33_1 : fieldQ Try.prog 33 1 = some 1 := by kernel_rfl
theorem SesDones_g3 : aggQ Try.prog 3 = some false := by kernel_rfl
theorem SesDones_f33_2 : fieldQ Try.prog 33 2 = some 2 := by kernel_rfl
theorem SesDones_f33_4 : fieldQ Try.prog 33 4 = some 4 := by kernel_rfl
theorem SesDones_g31 : aggQ Try.prog 31 = some true := by kernel_rfl
theorem SesDones_z31 : sizeQ Try.prog 31 = some 3 := by kernel_rfl
theorem SesDones_f33_3 : fieldQ Try.prog 33 3 = some 3 := by kernel_rfl
theorem SesDones_k19 : callable Try.prog 19 = true := by kernel_rfl
theorem SesDones_k20 : callable Try.prog 20 = true := by kernel_rfl
theorem SesDones_k12 : callable Try.prog 12 = true := by kernel_rfl
theorem SesDones_k18 : callable Try.prog 18 = true := by kernel_rfl
theorem SesDones_k28 : callable Try.prog 28 = true := by kernel_rfl
theorem SesDones_k30 : callable Try.prog 30 = true := by kernel_rfl
set_option maxRecDepth 100000 in
set_option maxHeartbeats 3000000 in
theorem only1 (A : Option Addr) (ca : Nat) (L : List Ses) (B : Option Addr) (cb : Nat) (K : List Act) (w : World) (hr : RowS w A L) (hk : RowT w B K) (hL : L.length * 64 ≤ 140737488351232) (hK : K.length * 72 ≤ 140737488351232) (hn0 : A = none → ca = 0) (hca : L.length ≤ ca) (hca9 : ca ≤ 9223372036854775807) :
    Rt Try.prog 30 [.agg #[.slice A L.length ca, .slice B K.length cb], .int .i64 1] w (fun v w' => v = .bool true ∧ From w w') := by
  refine enter (n := 113) Try.func30 rfl rfl rfl ?_
  refine cd_seq ?_
  refine cd_region ?_
  refine st_box (v := .agg _) rfl ?_
  intro b2 w1 E2 hb2 hk2
  refine st_val (ro_assign (v := .bool _) rfl) ?_
  refine st_nil ?_
  refine nx_then ?_
  refine cd_seq ?_
  refine cd_seq ?_
  refine cd_region ?_
  refine st_val (ro_loadA (cs := [_, _]) SesDones_g25 SesDones_z25 rfl (by exact hk2.whole)) ?_
  refine st_call SesDones_k9 (heavy_any A ca L B cb K _ (hr.from_ (From.rfl_.next E2)) (hk.from_ (From.rfl_.next E2)) hL hK) ?_
  rintro v12 w2 ⟨⟨b12, rfl⟩, E12⟩
  refine st_val (ro_move (v := .bool _) rfl) ?_
  refine st_split (t := 13) rfl (fun Q3 => ?_) (fun Q3 => ?_)
  · (try first | replace Q3 := bn_t Q3 | replace Q3 := bn_f Q3)
    (try first | replace Q3 := bx_t Q3 | replace Q3 := bx_f Q3 | replace Q3 := be_t Q3 | replace Q3 := be_f Q3 | replace Q3 := of_decide_eq_true Q3 | replace Q3 := of_decide_eq_false Q3)
    first
     | (exfalso; first | omega | contradiction | (cases Q3; done))
     | skip
       refine st_gno rfl rfl ?_
       refine st_gno rfl rfl ?_
       refine st_gno rfl rfl ?_
       refine st_gno rfl rfl ?_
       refine st_val (ro_pickT (v := .bool _) rfl rfl) ?_
       refine st_nil ?_
       refine nx_then ?_
       refine cd_condT rfl ?_
       refine cd_seq ?_
       refine cd_region ?_
       refine st_val (ro_assign (v := .bool _) rfl) ?_
       refine st_nil ?_
       refine nx_then ?_
       refine cd_ret ?_
       refine rt_then ?_
       refine res1 (v := .bool _) rfl rfl ?_
       first
         | exact ⟨rfl, ((From.rfl_.next E2).next E12)⟩
         | exact absurd rfl (by simp_all)
  · (try first | replace Q3 := bn_t Q3 | replace Q3 := bn_f Q3)
    (try first | replace Q3 := bx_t Q3 | replace Q3 := bx_f Q3 | replace Q3 := be_t Q3 | replace Q3 := be_f Q3 | replace Q3 := of_decide_eq_true Q3 | replace Q3 := of_decide_eq_false Q3)
    first
     | (exfalso; first | omega | contradiction | (cases Q3; done))
     | skip
       refine st_unguard rfl ?_
       refine st_val (ro_fieldAddr SesDones_f25_0 rfl) ?_
       refine st_unguard rfl ?_
       refine st_val (ro_load SesDones_g22 rfl (by exact (hk2.from_ (From.rfl_.next E12)).rd 0 rfl)) ?_
       refine st_unguard rfl ?_
       refine st_call SesDones_k11 (may_rt A ca L _ (hr.from_ ((From.rfl_.next E2).next E12)) (by omega)) ?_
       rintro v16 w4 ⟨⟨b16, rfl, hb16⟩, E16⟩
       refine st_unguard rfl ?_
       refine st_val (ro_not rfl) ?_
       refine st_val (ro_pickF (v := .bool _) rfl rfl) ?_
       refine st_nil ?_
       refine nx_then ?_
       refine cd_cond rfl (fun Q5 => ?_) (fun Q5 => ?_)
       · (try first | replace Q5 := bn_t Q5 | replace Q5 := bn_f Q5)
         (try first | replace Q5 := bx_t Q5 | replace Q5 := bx_f Q5 | replace Q5 := be_t Q5 | replace Q5 := be_f Q5 | replace Q5 := of_decide_eq_true Q5 | replace Q5 := of_decide_eq_false Q5)
         first
          | (exfalso; first | omega | contradiction | (cases Q5; done))
          | skip
            refine cd_seq ?_
            refine cd_region ?_
            refine st_val (ro_assign (v := .bool _) rfl) ?_
            refine st_nil ?_
            refine nx_then ?_
            refine cd_ret ?_
            refine rt_then ?_
            refine res1 (v := .bool _) rfl rfl ?_
            first
              | exact ⟨rfl, (((From.rfl_.next E2).next E12).next E16)⟩
              | exact absurd rfl (by simp_all)
       · (try first | replace Q5 := bn_t Q5 | replace Q5 := bn_f Q5)
         (try first | replace Q5 := bx_t Q5 | replace Q5 := bx_f Q5 | replace Q5 := be_t Q5 | replace Q5 := be_f Q5 | replace Q5 := of_decide_eq_true Q5 | replace Q5 := of_decide_eq_false Q5)
         have hv := hb16 (by simpa using Q5)
         have hv8 := hv.1
         first
          | (exfalso; first | omega | contradiction | (cases Q5; done))
          | skip
            refine cd_skip ?_
            refine nx_then ?_
            refine cd_seq ?_
            refine cd_seq ?_
            refine cd_region ?_
            refine st_val (ro_assign (v := .int _ _) rfl) ?_
            refine st_nil ?_
            refine nx_then ?_
            refine cd_block ?_
            refine cd_loop (G := Nat) [4, 6, 7, 8, 9, 10, 19, 20, 21, 22, 23, 24, 25, 26, 27, 28, 29, 30, 31, 32, 33, 34, 35, 36, 37, 38, 39, 40, 41, 42, 43, 44, 45, 46, 47, 48, 49, 50, 51, 52, 53, 54, 55, 56, 57, 58, 59, 60, 61, 62, 63, 64, 65, 66, 67, 68, 69, 70, 71, 72, 73, 74, 75, 76, 77, 78, 79, 80, 81, 82, 83, 84, 85, 86, 87, 88, 89, 90, 91, 92, 93, 94, 95, 96, 97, 98, 99, 100, 101, 102, 103, 104, 105, 106, 107, 108, 109, 110, 111] (fun k => [(5, .int .i64 (k : Nat))]) (fun k w' => k ≤ K.length ∧ From w w' ∧ Blk w' b2 25 #[.slice A L.length ca, .slice B K.length cb]) (fun k => K.length - k) (0) ⟨rfl, trivial⟩ ?_ ?_
            · exact ⟨Nat.zero_le _, (((From.rfl_.next E2).next E12).next E16), hk2.from_ ((From.rfl_.next E12).next E16)⟩
            rintro k ρ6 w6 ⟨hkl, hB, P2⟩
            refine cd_seq ?_
            refine cd_seq ?_
            refine cd_region ?_
            refine st_val (ro_move (v := .int _ _) rfl) ?_
            refine st_val (ro_fieldAddr SesDones_f25_1 rfl) ?_
            refine st_val (ro_load SesDones_g23 rfl (by exact (P2.from_ From.rfl_).rd 1 rfl)) ?_
            refine st_val (ro_len SesDones_l23 rfl) ?_
            refine st_val (ro_lss rfl rfl) ?_
            refine st_val (ro_move (v := .bool _) rfl) ?_
            refine st_split (t := 24) rfl (fun Q7 => ?_) (fun Q7 => ?_)
            · (try first | replace Q7 := bn_t Q7 | replace Q7 := bn_f Q7)
              (try first | replace Q7 := bx_t Q7 | replace Q7 := bx_f Q7 | replace Q7 := be_t Q7 | replace Q7 := be_f Q7 | replace Q7 := of_decide_eq_true Q7 | replace Q7 := of_decide_eq_false Q7)
              first
               | (exfalso; first | omega | contradiction | (cases Q7; done))
               | skip
                 refine st_unguard rfl ?_
                 refine st_val (ro_move (v := .int _ _) rfl) ?_
                 refine st_unguard rfl ?_
                 refine st_val (ro_lss rfl rfl) ?_
                 refine st_val (ro_pickT (v := .bool _) rfl rfl) ?_
                 refine st_nil ?_
                 refine nx_then ?_
                 refine cd_cond rfl (fun Q8 => ?_) (fun Q8 => ?_)
                 · (try first | replace Q8 := bn_t Q8 | replace Q8 := bn_f Q8)
                   (try first | replace Q8 := bx_t Q8 | replace Q8 := bx_f Q8 | replace Q8 := be_t Q8 | replace Q8 := be_f Q8 | replace Q8 := of_decide_eq_true Q8 | replace Q8 := of_decide_eq_false Q8)
                   obtain ⟨bb, ob, rfl, hct⟩ := hk (by omega)
                   have hkK : k < K.length := by omega
                   first
                    | (exfalso; first | omega | contradiction | (cases Q8; done))
                    | skip
                      refine cd_skip ?_
                      refine nx_then ?_
                      refine cd_seq ?_
                      refine cd_block ?_
                      refine cd_seq ?_
                      refine cd_region ?_
                      refine st_val (ro_fieldAddr SesDones_f25_1 rfl) ?_
                      refine st_val (ro_load SesDones_g23 rfl (by exact (P2.from_ From.rfl_).rd 1 rfl)) ?_
                      refine st_val (ro_move (v := .int _ _) rfl) ?_
                      refine st_val (ro_indexAddrN SesDones_e23 rfl rfl (by omega)) ?_
                      refine st_val (ro_loadA (cs := [_, _, _, _, _, _, _]) SesDones_g33 SesDones_z33 rfl (by exact rangeF hB (hct k hkK))) ?_
                      have hl2 := P2.lt
                      have hB6 : From w w6 := hB
                      refine st_alloc SesDones_o33 ?_
                      intro b6 w9 E6 hb6 hk6
                      refine st_putW (vs := [_, _, _, _, _, _, _]) SesDones_z33 rfl rfl (by simp [Value.oneCell']) (hk6) rfl ?_
                      intro w10 O6 P6
                      replace P2 := (P2.from_ E6).only O6 (by omega)
                      refine st_nil ?_
                      refine nx_then ?_
                      refine cd_seq ?_
                      refine cd_region ?_
                      refine st_val (ro_assign (v := .slice _ _ _) rfl) ?_
                      refine st_val (ro_assign (v := .int _ _) rfl) ?_
                      refine st_nil ?_
                      refine nx_then ?_
                      refine cd_seq ?_
                      refine cd_region ?_
                      refine st_val (ro_assign (v := .slice _ _ _) rfl) ?_
                      refine st_nil ?_
                      refine nx_then ?_
                      refine cd_seq ?_
                      refine cd_region ?_
                      refine st_val (ro_assign (v := .int _ _) rfl) ?_
                      refine st_nil ?_
                      refine nx_then ?_
                      refine cd_seq ?_
                      refine cd_seq ?_
                      refine cd_region ?_
                      refine st_val (ro_move (v := .int _ _) rfl) ?_
                      refine st_nil ?_
                      refine nx_then ?_
                      refine cd_block ?_
                      refine cd_seq ?_
                      refine cd_region ?_
                      refine st_val (ro_bf (ro_eql rfl rfl) rfl) ?_
                      refine st_val (ro_assign (v := .bool _) rfl) ?_
                      refine st_nil ?_
                      refine nx_then ?_
                      refine cd_condF rfl ?_
                      refine cd_seq ?_
                      refine cd_region ?_
                      refine st_val (ro_bt (ro_eql rfl rfl) rfl) ?_
                      refine st_val (ro_assign (v := .bool _) rfl) ?_
                      refine st_nil ?_
                      refine nx_then ?_
                      refine cd_condT rfl ?_
                      refine cd_seq ?_
                      refine cd_region ?_
                      refine st_val (ro_fieldAddr SesDones_f25_0 rfl) ?_
                      refine st_val (ro_load SesDones_g22 rfl (by exact (P2.from_ From.rfl_).rd 0 rfl)) ?_
                      refine st_val (ro_fieldAddr SesDones_f33_1 rfl) ?_
                      refine st_val (ro_load SesDones_g3 rfl (by exact (P6.from_ From.rfl_).rd 1 rfl)) ?_
                      refine st_val (ro_fieldAddr SesDones_f33_2 rfl) ?_
                      refine st_val (ro_load SesDones_g3 rfl (by exact (P6.from_ From.rfl_).rd 2 rfl)) ?_
                      refine st_val (ro_fieldAddr SesDones_f33_4 rfl) ?_
                      refine st_val (ro_loadA (cs := [_, _, _]) SesDones_g31 SesDones_z31 rfl (by exact rep_act (P6.from_ From.rfl_))) ?_
                      refine st_val (ro_fieldAddr SesDones_f33_3 rfl) ?_
                      refine st_val (ro_load SesDones_g3 rfl (by exact (P6.from_ From.rfl_).rd 3 rfl)) ?_
                      refine st_call SesDones_k19 (refDone_rt A ca L _ (hr.from_ ((hB.next E6).only O6 (by rw [hb6]; exact hB6.size))) (by omega) hn0 K[k].c K[k].s K[k].e K[k].n K[k].i K[k].H K[k].hl K[k].hc (valid_hl hv)) ?_
                      rintro v85 w11 ⟨⟨K1, e1, A1, c1, rfl, hd1, hr1⟩, E85⟩
                      refine st_val (ro_move (v := .tuple _) rfl) ?_
                      refine st_val (ro_extract rfl rfl) ?_
                      refine st_val (ro_extract rfl rfl) ?_
                      refine st_val (ro_assign (v := .slice _ _ _) rfl) ?_
                      refine st_val (ro_assign (v := .int _ _) rfl) ?_
                      refine st_nil ?_
                      refine nx_then ?_
                      refine cd_region ?_
                      refine st_val (ro_fieldAddr SesDones_f25_0 rfl) ?_
                      refine st_val (ro_load SesDones_g22 rfl (by exact (P2.from_ (From.rfl_.next E85)).rd 0 rfl)) ?_
                      refine st_val (ro_fieldAddr SesDones_f33_1 rfl) ?_
                      refine st_val (ro_load SesDones_g3 rfl (by exact (P6.from_ (From.rfl_.next E85)).rd 1 rfl)) ?_
                      refine st_val (ro_fieldAddr SesDones_f33_2 rfl) ?_
                      refine st_val (ro_load SesDones_g3 rfl (by exact (P6.from_ (From.rfl_.next E85)).rd 2 rfl)) ?_
                      refine st_val (ro_fieldAddr SesDones_f33_4 rfl) ?_
                      refine st_val (ro_loadA (cs := [_, _, _]) SesDones_g31 SesDones_z31 rfl (by exact rep_act (P6.from_ (From.rfl_.next E85)))) ?_
                      refine st_val (ro_fieldAddr SesDones_f33_3 rfl) ?_
                      refine st_val (ro_load SesDones_g3 rfl (by exact (P6.from_ (From.rfl_.next E85)).rd 3 rfl)) ?_
                      refine st_call SesDones_k20 (done_rt A ca L _ (hr.from_ (((hB.next E6).only O6 (by rw [hb6]; exact hB6.size)).next E85)) (by omega) hn0 K[k].c K[k].s K[k].e K[k].n K[k].i K[k].H K[k].hl K[k].hc hv) ?_
                      rintro v99 w12 ⟨⟨K2, e2, A2, c2, rfl, hd2, hr2⟩, E99⟩
                      replace P2 := P2.from_ ((From.rfl_.next E85).next E99)
                      obtain ⟨hKK, hee⟩ := done_one (valid_rise hv) hd2 hd1
                      subst hee
                      refine st_val (ro_move (v := .tuple _) rfl) ?_
                      refine st_val (ro_extract rfl rfl) ?_
                      refine st_val (ro_extract rfl rfl) ?_
                      refine st_val (ro_assign (v := .slice _ _ _) rfl) ?_
                      refine st_val (ro_assign (v := .int _ _) rfl) ?_
                      refine st_nil ?_
                      refine nx_block ?_
                      refine nx_then ?_
                      refine cd_seq ?_
                      refine cd_region ?_
                      refine st_val (ro_move (v := .int _ _) rfl) ?_
                      refine st_call SesDones_k12 (num_any _ _) ?_
                      rintro v103 w13 ⟨rfl, rfl⟩
                      refine st_val (ro_move (v := .int _ _) rfl) ?_
                      refine st_val (ro_bf (ro_neq rfl rfl) (bne_self_eq_false _)) ?_
                      refine st_val (ro_move (v := .bool _) rfl) ?_
                      refine st_unguard rfl ?_
                      refine st_val (ro_move (v := .slice _ _ _) rfl) ?_
                      refine st_unguard rfl ?_
                      refine st_val (ro_move (v := .slice _ _ _) rfl) ?_
                      refine st_unguard rfl ?_
                      refine st_call SesDones_k18 (eqSessions_t A2 A1 c2 c1 K2 K1 _ (hr2.from_ From.rfl_) (hr1.from_ (E99.next From.rfl_)) (by have := (done_hl hd2).2; omega) (done_hl hd2).1 (done_hl hd1).1 (by rw [hKK])) ?_
                      rintro v109 w14 ⟨rfl, E109⟩
                      refine st_unguard rfl ?_
                      refine st_val (ro_not rfl) ?_
                      refine st_val (ro_pickF (v := .bool _) rfl rfl) ?_
                      refine st_nil ?_
                      refine nx_then ?_
                      refine cd_condF rfl ?_
                      refine cd_skip ?_
                      refine nx_block ?_
                      refine nx_then ?_
                      refine cd_region ?_
                      refine st_val (ro_move (v := .int _ _) rfl) ?_
                      refine st_val (ro_addN (b := 1) rfl rfl (by omega)) ?_
                      refine st_val (ro_assign (v := .int _ _) rfl) ?_
                      refine st_nil ?_
                      refine nx_cut (k + 1) ⟨(by first | rfl | (refine int_eq ?_; omega)), trivial⟩ (by (iterate 170 refine agr_cons rfl ?_); exact agr_rfl) ⟨?_, ?_⟩
                      · exact ⟨by omega, (((((hB.next E6).only O6 (by rw [hb6]; exact hB6.size)).next E85).next E99).next E109), P2.from_ (From.rfl_.next E109)⟩
                      · omega
                 · (try first | replace Q8 := bn_t Q8 | replace Q8 := bn_f Q8)
                   (try first | replace Q8 := bx_t Q8 | replace Q8 := bx_f Q8 | replace Q8 := be_t Q8 | replace Q8 := be_f Q8 | replace Q8 := of_decide_eq_true Q8 | replace Q8 := of_decide_eq_false Q8)
                   first
                    | (exfalso; first | omega | contradiction | (cases Q8; done))
                    | skip
                      refine cd_exit ?_
                      refine ex_then ?_
                      refine ex_then ?_
                      refine ex_block ?_
                      refine nx_then ?_
                      refine cd_seq ?_
                      refine cd_region ?_
                      refine st_call SesDones_k28 (wakes_any _) ?_
                      rintro v112 w15 ⟨rfl, E112⟩
                      refine st_val (ro_assign (v := .bool _) rfl) ?_
                      refine st_nil ?_
                      refine nx_then ?_
                      refine cd_ret ?_
                      refine res1 (v := .bool _) rfl rfl ?_
                      first
                        | exact ⟨rfl, (hB.next E112)⟩
                        | exact absurd rfl (by simp_all)
            · (try first | replace Q7 := bn_t Q7 | replace Q7 := bn_f Q7)
              (try first | replace Q7 := bx_t Q7 | replace Q7 := bx_f Q7 | replace Q7 := be_t Q7 | replace Q7 := be_f Q7 | replace Q7 := of_decide_eq_true Q7 | replace Q7 := of_decide_eq_false Q7)
              first
               | (exfalso; first | omega | contradiction | (cases Q7; done))
               | skip
                 refine st_gno rfl rfl ?_
                 refine st_gno rfl rfl ?_
                 refine st_val (ro_pickF (v := .bool _) rfl rfl) ?_
                 refine st_nil ?_
                 refine nx_then ?_
                 refine cd_condF rfl ?_
                 refine cd_exit ?_
                 refine ex_then ?_
                 refine ex_then ?_
                 refine ex_block ?_
                 refine nx_then ?_
                 refine cd_seq ?_
                 refine cd_region ?_
                 refine st_call SesDones_k28 (wakes_any _) ?_
                 rintro v112 w16 ⟨rfl, E112⟩
                 refine st_val (ro_assign (v := .bool _) rfl) ?_
                 refine st_nil ?_
                 refine nx_then ?_
                 refine cd_ret ?_
                 refine res1 (v := .bool _) rfl rfl ?_
                 first
                   | exact ⟨rfl, (hB.next E112)⟩
                   | exact absurd rfl (by simp_all)
set_option maxRecDepth 100000 in
set_option maxHeartbeats 400000 in
theorem sessionDones_law (A : Option Addr) (ca : Nat) (L : List Ses) (B : Option Addr) (cb : Nat) (K : List Act) (w : World) (hr : RowS w A L) (hk : RowT w B K) (hL : L.length * 64 ≤ 140737488351232) (hK : K.length * 72 ≤ 140737488351232) (hn0 : A = none → ca = 0) (hca : L.length ≤ ca) (hca9 : ca ≤ 9223372036854775807) :
    Rt Try.prog 6 [.agg #[.slice A L.length ca, .slice B K.length cb]] w (fun v w' => v = .bool true ∧ From w w') := by
  refine enter (n := 5) Try.func6 rfl rfl rfl ?_
  refine cd_seq ?_
  refine cd_region ?_
  refine st_box (v := .agg _) rfl ?_
  intro b1 w1 E1 hb1 hk1
  refine st_val (ro_assign (v := .bool _) rfl) ?_
  refine st_nil ?_
  refine nx_then ?_
  refine cd_seq ?_
  refine cd_region ?_
  refine st_val (ro_loadA (cs := [_, _]) SesDones_g25 SesDones_z25 rfl (by exact hk1.whole)) ?_
  refine st_call SesDones_k30 (only1 A ca L B cb K _ (hr.from_ (From.rfl_.next E1)) (hk.from_ (From.rfl_.next E1)) hL hK hn0 hca hca9) ?_
  rintro v4 w2 ⟨rfl, E4⟩
  refine st_val (ro_assign (v := .bool _) rfl) ?_
  refine st_nil ?_
  refine nx_then ?_
  refine cd_ret ?_
  refine res1 (v := .bool _) rfl rfl ?_
  exact ⟨rfl, ((From.rfl_.next E1).next E4)⟩
theorem sessionDones_arg (cs : Array Value) (x : scrT.den) (w : World) (hs : cs.size = 2) (h : scrT.At w (fun j => cs[j]?) x) : Rt Try.prog 6 [.agg cs] w fun v w' => v = .bool true ∧ From w w' := by
  obtain ⟨h0, h1, _⟩ := h
  obtain ⟨A, ca, L, c0, r0, l0, q1, q2, q3⟩ := at_ses2 h0
  obtain ⟨B, cb, K, c1, r1, l1⟩ := at_acts h1
  obtain rfl : cs = #[.slice A L.length ca, .slice B K.length cb] := by
    apply Array.ext_getElem?
    intro i
    match i with
    | 0 => exact c0
    | 1 => exact c1
    | i + 2 => rw [Array.getElem?_eq_none (by omega), Array.getElem?_eq_none (by simp)]
  exact sessionDones_law A ca L B cb K w r0 r1 l0 l1 q3 q1 q2
set_option maxRecDepth 100000 in
theorem SessionDones_lifted (os : Os) (started : os.Started) (H : Type) (enc : TypeId × Value → H) :
    ReturnsInHanded {} Try.checked os 6 .any (Rows.sessionDonesSpec.pre6 enc Try.prog Try.f6 Rows.sessionDonesRow.domain false) (Rows.sessionDonesSpec.post enc Try.prog Try.f6 false true false false) := by
  refine returnsInHanded_of_change_sized (C := Try.checked) Try.own started (by kernel_rfl) Try.func6
    (ChangeSpec.witness6 (enc := enc) (C := Try.checked) false ⟨#[], #[.agg #[.slice none 0 0, .slice none 0 0]], []⟩ 8 (by kernel_rfl) (by kernel_rfl) (by kernel_rfl) (by kernel_rfl)) ?_
  intro W base args ds gs before hval hW _ hsz _
  exact law_step 6 Try.f6 25 4 Rows.sessionDonesSpec Try.params6 (by kernel_rfl) Try.underlying4 rfl (fun _ => rfl) (by kernel_rfl) (of_decide_eq_true (by kernel_rfl)) (walk_struct (.sl sesT) (.pr (.sl actT) .unit) (by kernel_rfl) sessionDones_arg) W base args ds gs before hval hW hsz

theorem SessionDones_holds : Rows.SessionDonesSaid :=
  OpenClaim.holds_of_wide 6 Try.f6 rfl rfl rfl rfl rfl rfl rfl ⟨rfl, rfl, rfl, rfl, rfl⟩ rfl rfl rfl rfl rfl (by kernel_rfl) Try.func6 (by kernel_rfl)
    (of_decide_eq_true (by kernel_rfl)) (by unfold Func.isWrapper; first | (rw [if_pos (by decide +kernel)]; kernel_rfl) | (rw [if_neg (by decide +kernel)]; exact ⟨rfl, rfl⟩))
    (fun os started H enc _ => SessionDones_lifted os started H enc)
#print axioms SessionDones_holds

end Go.Proofs.Ytbikemhokgcboaa
