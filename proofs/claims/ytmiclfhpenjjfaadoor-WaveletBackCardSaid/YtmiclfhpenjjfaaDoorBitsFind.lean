/- Walks of package bits: find, Select, Select0. -/
import Derived.Test.YtmiclfhpenjjfaaDoorBitsSelect
namespace Go.Proofs.YtmiclfhpenjjfaaDoor
open Go.RowKit

theorem BitsFind_k46 : callable Tryd.prog 46 = true := by kernel_rfl
theorem BitsFind_f73_1 : fieldQ Tryd.prog 73 1 = some 2 := by kernel_rfl
theorem BitsFind_g71 : aggQ Tryd.prog 71 = some false := by kernel_rfl
theorem BitsFind_l71 : (elemQ Tryd.prog 71).isSome = true := by kernel_rfl
theorem BitsFind_k45 : callable Tryd.prog 45 = true := by kernel_rfl
theorem BitsFind_g3 : aggQ Tryd.prog 3 = some false := by kernel_rfl
theorem BitsFind_g46 : aggQ Tryd.prog 46 = some false := by kernel_rfl
theorem BitsFind_z3 : sizeQ Tryd.prog 3 = some 1 := by kernel_rfl
theorem BitsFind_f73_0 : fieldQ Tryd.prog 73 0 = some 0 := by kernel_rfl
theorem BitsFind_f70_0 : fieldQ Tryd.prog 70 0 = some 0 := by kernel_rfl
theorem BitsFind_g68 : aggQ Tryd.prog 68 = some false := by kernel_rfl
theorem BitsFind_e68 : elemQ Tryd.prog 68 = some (64, 1) := by kernel_rfl
theorem BitsFind_g64 : aggQ Tryd.prog 64 = some false := by kernel_rfl
theorem BitsFind_k43 : callable Tryd.prog 43 = true := by kernel_rfl
theorem BitsFind_k47 : callable Tryd.prog 47 = true := by kernel_rfl
theorem BitsFind_k40 : callable Tryd.prog 40 = true := by kernel_rfl
theorem BitsFind_g47 : aggQ Tryd.prog 47 = some false := by kernel_rfl
theorem BitsFind_f73_2 : fieldQ Tryd.prog 73 2 = some 3 := by kernel_rfl
theorem BitsFind_k39 : callable Tryd.prog 39 = true := by kernel_rfl
theorem BitsFind_k41 : callable Tryd.prog 41 = true := by kernel_rfl
theorem BitsFind_f70_1 : fieldQ Tryd.prog 70 1 = some 1 := by kernel_rfl
theorem nth_is (x k p : Nat) (w : World) (hx : x < 2 ^ 64) (hT : TZ w) (h1 : p < 64) (h2 : x.testBit p = true) (h3 : cntB x.testBit p = k) : Rt Tryd.prog 47 [.int .u64 (x : Nat), .int .i64 (k : Nat)] w fun v w' => v = .int .i64 (p : Nat) ∧ w = w' := by
  have hk : k < pop x 64 := by rw [← h3]; exact cntB_lt h2 h1
  refine Rt.mono (nth_rt x k w hx hk hT) fun v w' ⟨q, q1, q2, q3, hv, hw⟩ => ⟨?_, hw⟩
  rw [hv, nth_unique (f := x.testBit) q2 h2 (by rw [q3, h3])]
theorem flN_lt (z : Bool) : flN z < 2 ^ 64 := by cases z <;> decide
set_option maxRecDepth 100000 in
set_option maxHeartbeats 1000000 in
theorem find_rt (base b k F : Nat) (z : Bool) (l : List Bool) (g : FuncId) (caps : List Value) (w : World) (hv : Vec w base b l) (hF : F = flN z) (hcal : callable Tryd.prog g = true) (hah : ∀ w' j, From w w' → j < ((l.length + 63) / 64 + 7) / 8 → Rt Tryd.prog g ([.int .i64 (j : Nat)] ++ caps) w' fun v w'' => v = .int .i64 (cntB (fl l z) (512 * j) : Nat) ∧ From w' w'') (hk : k < cntB (fl l z) l.length) (hT : TZ w) :
    Rt Tryd.prog 39 [.pointer (some ⟨b, 0, none⟩), .int .i64 (k : Nat), .int .u64 (F : Nat), .func (.func g) #[] caps.toArray] w (fun v w' => ∃ p, p < l.length ∧ fl l z p = true ∧ cntB (fl l z) p = k ∧ v = .int .i64 (p : Nat) ∧ From w w') := by
  obtain ⟨gw, Aa, ca, ws, rs, hb0, hg0, hV, hgw, ho, hW, hrl, hrs, hl⟩ := hv
  have hlen := hW.len
  subst hF
  have hkl := cntB_le (fl l z) l.length
  have hz64 := flN_lt z
  refine enter (n := 61) Tryd.func39 rfl rfl rfl ?_
  refine cd_seq ?_
  refine cd_region ?_
  refine st_box (v := .int _ _) rfl ?_
  intro b5 w1 E5 hb5 hk5
  have hg5 : w.heap.size ≤ b5 := by rw [hb5]; exact Nat.le_refl _
  have hl5 := hk5.lt
  refine st_box (v := .func _ _ _) rfl ?_
  intro b7 w2 E7 hb7 hk7
  replace hk5 := hk5.from_ E7
  refine st_val (ro_assign (v := .int _ _) rfl) ?_
  refine st_nil ?_
  refine nx_then ?_
  refine cd_seq ?_
  refine cd_region ?_
  refine st_val (ro_move (v := .pointer _) rfl) ?_
  refine st_val (ro_nilCheck rfl) ?_
  refine st_val (ro_fieldAddr BitsFind_f73_1 rfl) ?_
  refine st_val (ro_load BitsFind_g71 rfl (by exact (hV.from_ ((From.rfl_.next E5).next E7)).rd 2 rfl)) ?_
  refine st_val (ro_len BitsFind_l71 rfl) ?_
  refine st_val (ro_makeFunc (l1 := []) (l2 := [.tmp 7, .tmp 5])) ?_
  refine st_call BitsFind_k45 (search_rt rs.length 46 [.pointer (some ⟨b7, 0, none⟩), .pointer (some ⟨b5, 0, none⟩)] (fun j => decide (k < cntB (fl l z) (512 * j))) _ (by omega) BitsFind_k46 (fun w2 h hF2 hh => find1_rt g caps (fun j => cntB (fl l z) (512 * j)) rs.length b7 b5 k h w2 (cellF hF2 (hk7.rd 0 rfl)) (cellF hF2 (hk5.rd 0 rfl)) hcal (fun w3 j hF3 hj => hah w3 j ((((From.rfl_.next E5).next E7).next hF2).next hF3) (by omega)) hh) (fun i j hij hi => decide_eq_true (Nat.lt_of_lt_of_le (of_decide_eq_true hi) (cntB_mono _ (by omega))))) ?_
  rintro v18 w3 ⟨r, rfl, hrn, hlo, hhi, E18⟩
  have hr1 : 1 ≤ r := by
    rcases Nat.eq_zero_or_pos r with h0 | h0
    · have := hhi 0 (by omega) (by omega)
      simp [cntB] at this
    · exact h0
  have hblk : cntB (fl l z) (512 * (r - 1)) ≤ k := Nat.le_of_not_lt (of_decide_eq_false (hlo (r - 1) (by omega)))
  refine st_val (ro_subN (b := 1) rfl rfl (by omega)) ?_
  refine st_val (ro_assign (v := .int _ _) rfl) ?_
  refine st_nil ?_
  refine nx_then ?_
  refine cd_seq ?_
  apply cd_drawn 5 [(20, eqp _), (21, eqp _), (22, eqp _), (23, eqp _), (24, eqp _)] (by kernel_rfl) (by kernel_rfl) ⟨eqp_mono _, eqp_mono _, eqp_mono _, eqp_mono _, eqp_mono _, trivial⟩
  case hop =>
   refine ⟨?_, ?_⟩
   · intro w5 D5
     show OpOK _ _ _ _ _ _ _
     exact ok_pure (ro_load BitsFind_g3 rfl (by exact (hk5.from_ ((From.rfl_.next E18).next D5)).rd 0 rfl)) rfl
   refine ⟨?_, ?_⟩
   · intro w6 D6
     show OpOK _ _ _ _ _ _ _
     exact ok_pure (ro_load BitsFind_g46 rfl (by exact (hk7.from_ ((From.rfl_.next E18).next D6)).rd 0 rfl)) rfl
   refine ⟨?_, ?_⟩
   · intro w7 D7
     show OpOK _ _ _ _ _ _ _
     exact ok_pure (ro_move (v := .int _ _) rfl) rfl
   refine ⟨?_, ?_⟩
   · intro w8 D8
     rintro _ rfl _ rfl
     show OpOK _ _ _ _ _ _ _
     exact ok_callF (caps := caps) rfl hcal ((hah _ (r - 1) ((((From.rfl_.next E5).next E7).next E18).next D8) (by omega)).mono fun v w2 h => ⟨h.2, h.1⟩)
   refine ⟨?_, ?_⟩
   · intro w9 D9
     rintro _ rfl _ rfl
     show OpOK _ _ _ _ _ _ _
     exact ok_pure (ro_subN rfl rfl (by omega)) rfl
   exact trivial
  case hend =>
   intro w10 D10
   rintro _ rfl _ rfl _ rfl _ rfl _ rfl
   show St _ _ _ _ _ _ _
   replace hk5 := hk5.from_ ((From.rfl_.next E18).next D10)
   refine st_put (v := .int _ _) BitsFind_z3 rfl rfl rfl (hk5) (by simp [Value.cells]) ?_
   intro w11 O2 P2
   refine st_nil ?_
   refine nx_then ?_
   refine cd_seq ?_
   refine cd_region ?_
   refine st_val (ro_move (v := .int _ _) rfl) ?_
   refine st_val (ro_mulN (b := 8) rfl rfl (by omega)) ?_
   refine st_val (ro_assign (v := .int _ _) rfl) ?_
   refine st_nil ?_
   refine nx_then ?_
   refine cd_block ?_
   refine cd_loop (G := Nat) [8, 11, 27, 28, 29, 30, 31, 32, 33, 34, 35, 36, 37, 38, 39, 40, 41, 42, 43, 44, 45, 46, 47, 48, 49, 50, 51, 52, 53, 54, 55, 56, 57, 58, 59, 60] (fun q => [(10, .int .i64 (q : Nat))]) (fun q w' => q < ws.length ∧ cntB (fl l z) (64 * q) ≤ k ∧ Blk w' b5 3 #[.int .i64 ((k - cntB (fl l z) (64 * q) : Nat) : Int)] ∧ From w w') (fun q => ws.length - q) ((r - 1) * 8) ⟨rfl, trivial⟩ ?_ ?_
   · rw [show 64 * ((r - 1) * 8) = 512 * (r - 1) by omega]
     exact ⟨by omega, hblk, by simpa [Value.cells] using P2, (((((From.rfl_.next E5).next E7).next E18).next D10).only O2 (hg5))⟩
   rintro q ρ12 w12 ⟨hq, hc, P5, hB⟩
   have hfc := fl_cnt hW z hq (Nat.le_refl 64)
   have hp64 := pop_le (ws[q] ^^^ flN z) 64
   refine cd_block ?_
   refine cd_seq ?_
   refine cd_region ?_
   refine st_val (ro_move (v := .pointer _) rfl) ?_
   refine st_val (ro_nilCheck rfl) ?_
   refine st_val (ro_fieldAddr BitsFind_f73_0 rfl) ?_
   refine st_val (ro_fieldAddr BitsFind_f70_0 rfl) ?_
   refine st_val (ro_load BitsFind_g68 rfl (by exact (hV.from_ hB).rd 0 rfl)) ?_
   refine st_val (ro_move (v := .int _ _) rfl) ?_
   refine st_val (ro_indexAddr0 BitsFind_e68 rfl rfl (by omega)) ?_
   refine st_val (ro_load BitsFind_g64 rfl (by exact (hgw.from_ hB).rd _ (arr_at (l := ws) q hq))) ?_
   refine st_val (ro_move (v := .int _ _) rfl) ?_
   refine st_val (ro_xorN rfl rfl (by exact ⟨hW.lt _ (List.getElem_mem _), hz64⟩)) ?_
   refine st_call BitsFind_k43 (onesCount (ws[q] ^^^ flN z) _ (Nat.xor_lt_two_pow (hW.lt _ (List.getElem_mem _)) hz64)) ?_
   rintro v37 w13 ⟨rfl, rfl⟩
   refine st_val (ro_assign (v := .int _ _) rfl) ?_
   refine st_nil ?_
   refine nx_then ?_
   refine cd_seq ?_
   refine cd_seq ?_
   refine cd_region ?_
   refine st_val (ro_load BitsFind_g3 rfl (by exact (P5.from_ From.rfl_).rd 0 rfl)) ?_
   refine st_val (ro_move (v := .int _ _) rfl) ?_
   refine st_val (ro_lss rfl rfl) ?_
   refine st_nil ?_
   refine nx_then ?_
   refine cd_cond rfl (fun Q14 => ?_) (fun Q14 => ?_)
   · (try first | replace Q14 := bn_t Q14 | replace Q14 := bn_f Q14)
     (try first | replace Q14 := bx_t Q14 | replace Q14 := bx_f Q14 | replace Q14 := be_t Q14 | replace Q14 := be_f Q14 | replace Q14 := of_decide_eq_true Q14 | replace Q14 := of_decide_eq_false Q14)
     obtain ⟨pj, g1, g2, g3⟩ := exists_nth (ws[q] ^^^ flN z).testBit (k - cntB (fl l z) (64 * q)) 64 (show _ < pop (ws[q] ^^^ flN z) 64 by omega)
     first
      | (exfalso; first | omega | contradiction | (cases Q14; done))
      | skip
        refine cd_seq ?_
        apply cd_drawn 16 [(41, eqp _), (42, eqp _), (43, eqp _), (44, eqp _), (45, eqp _), (46, eqp _), (47, eqp _), (48, eqp _), (49, eqp _), (50, eqp _), (51, eqp _), (52, eqp _), (53, eqp _), (54, eqp _), (55, eqp _), (8, eqp _)] (by kernel_rfl) (by kernel_rfl) ⟨eqp_mono _, eqp_mono _, eqp_mono _, eqp_mono _, eqp_mono _, eqp_mono _, eqp_mono _, eqp_mono _, eqp_mono _, eqp_mono _, eqp_mono _, eqp_mono _, eqp_mono _, eqp_mono _, eqp_mono _, eqp_mono _, trivial⟩
        case hop =>
         refine ⟨?_, ?_⟩
         · intro w16 D16
           show OpOK _ _ _ _ _ _ _
           exact ok_pure (ro_move (v := .int _ _) rfl) rfl
         refine ⟨?_, ?_⟩
         · intro w17 D17
           rintro _ rfl
           show OpOK _ _ _ _ _ _ _
           exact ok_pure (ro_mulN (b := 64) rfl rfl (by omega)) rfl
         refine ⟨?_, ?_⟩
         · intro w18 D18
           show OpOK _ _ _ _ _ _ _
           exact ok_pure (ro_move (v := .pointer _) rfl) rfl
         refine ⟨?_, ?_⟩
         · intro w19 D19
           rintro _ rfl
           show OpOK _ _ _ _ _ _ _
           exact ok_pure (ro_nilCheck rfl) rfl
         refine ⟨?_, ?_⟩
         · intro w20 D20
           rintro _ rfl
           show OpOK _ _ _ _ _ _ _
           exact ok_pure (ro_fieldAddr BitsFind_f73_0 rfl) rfl
         refine ⟨?_, ?_⟩
         · intro w21 D21
           rintro _ rfl
           show OpOK _ _ _ _ _ _ _
           exact ok_pure (ro_fieldAddr BitsFind_f70_0 rfl) rfl
         refine ⟨?_, ?_⟩
         · intro w22 D22
           rintro _ rfl
           show OpOK _ _ _ _ _ _ _
           exact ok_pure (ro_load BitsFind_g68 rfl (by exact (hV.from_ (hB.next D22)).rd 0 rfl)) rfl
         refine ⟨?_, ?_⟩
         · intro w23 D23
           show OpOK _ _ _ _ _ _ _
           exact ok_pure (ro_move (v := .int _ _) rfl) rfl
         refine ⟨?_, ?_⟩
         · intro w24 D24
           rintro _ rfl _ rfl
           show OpOK _ _ _ _ _ _ _
           exact ok_pure (ro_indexAddr0 BitsFind_e68 rfl rfl (by omega)) rfl
         refine ⟨?_, ?_⟩
         · intro w25 D25
           rintro _ rfl
           show OpOK _ _ _ _ _ _ _
           exact ok_pure (ro_load BitsFind_g64 rfl (by exact (hgw.from_ (hB.next D25)).rd _ (arr_at (l := ws) q hq))) rfl
         refine ⟨?_, ?_⟩
         · intro w26 D26
           show OpOK _ _ _ _ _ _ _
           exact ok_pure (ro_move (v := .int _ _) rfl) rfl
         refine ⟨?_, ?_⟩
         · intro w27 D27
           rintro _ rfl _ rfl
           show OpOK _ _ _ _ _ _ _
           exact ok_pure (ro_xorN rfl rfl (by exact ⟨hW.lt _ (List.getElem_mem _), hz64⟩)) rfl
         refine ⟨?_, ?_⟩
         · intro w28 D28
           show OpOK _ _ _ _ _ _ _
           exact ok_pure (ro_load BitsFind_g3 rfl (by exact (P5.from_ (From.rfl_.next D28)).rd 0 rfl)) rfl
         refine ⟨?_, ?_⟩
         · intro w29 D29
           rintro _ rfl _ rfl
           show OpOK _ _ _ _ _ _ _
           refine ok_call BitsFind_k47 ((nth_is (ws[q] ^^^ flN z) (k - cntB (fl l z) (64 * q)) pj _ (Nat.xor_lt_two_pow (hW.lt _ (List.getElem_mem _)) hz64) (hT.from_ (hB.next D29)) g1 g2 g3).mono ?_)
           rintro v _ ⟨rfl, rfl⟩; exact ⟨From.rfl_, rfl⟩
         refine ⟨?_, ?_⟩
         · intro w30 D30
           rintro _ rfl _ rfl
           show OpOK _ _ _ _ _ _ _
           exact ok_pure (ro_addN rfl rfl (by omega)) rfl
         refine ⟨?_, ?_⟩
         · intro w31 D31
           rintro _ rfl
           show OpOK _ _ _ _ _ _ _
           exact ok_pure (ro_assign (v := .int _ _) rfl) rfl
         exact trivial
        case hend =>
         intro w32 D32
         rintro _ rfl _ rfl _ rfl _ rfl _ rfl _ rfl _ rfl _ rfl _ rfl _ rfl _ rfl _ rfl _ rfl _ rfl _ rfl _ rfl
         show St _ _ _ _ _ _ _
         refine st_nil ?_
         refine nx_then ?_
         refine cd_ret ?_
         refine rt_then ?_
         refine rt_block ?_
         refine rt_then ?_
         refine rt_block ?_
         refine res1 (v := .int _ _) rfl rfl ?_
         have hfp := fl_word hW z hq g1
         have hcp := fl_cnt hW z hq (Nat.le_of_lt g1)
         unfold pop at hcp
         rw [g3] at hcp
         have hpk : cntB (fl l z) (64 * q + pj) = k := by omega
         refine ⟨64 * q + pj, ?_, by rw [← hfp]; exact g2, hpk, by rw [Nat.mul_comm 64 q], (hB.next D32)⟩
         rcases Nat.lt_or_ge (64 * q + pj) l.length with a | a
         · exact a
         · have := cntB_mono (fl l z) a
           omega
   · (try first | replace Q14 := bn_t Q14 | replace Q14 := bn_f Q14)
     (try first | replace Q14 := bx_t Q14 | replace Q14 := bx_f Q14 | replace Q14 := be_t Q14 | replace Q14 := be_f Q14 | replace Q14 := of_decide_eq_true Q14 | replace Q14 := of_decide_eq_false Q14)
     first
      | (exfalso; first | omega | contradiction | (cases Q14; done))
      | skip
        refine cd_skip ?_
        refine nx_then ?_
        refine cd_seq ?_
        refine cd_region ?_
        refine st_val (ro_load BitsFind_g3 rfl (by exact (P5.from_ From.rfl_).rd 0 rfl)) ?_
        refine st_val (ro_move (v := .int _ _) rfl) ?_
        refine st_val (ro_subN rfl rfl (by omega)) ?_
        refine st_put (v := .int _ _) BitsFind_z3 rfl rfl rfl (P5.from_ From.rfl_) (by simp) ?_
        intro w33 O7 P7
        refine st_nil ?_
        refine nx_then ?_
        refine cd_region ?_
        refine st_val (ro_move (v := .int _ _) rfl) ?_
        refine st_val (ro_addN (b := 1) rfl rfl (by omega)) ?_
        refine st_val (ro_assign (v := .int _ _) rfl) ?_
        refine st_nil ?_
        refine nx_block ?_
        refine nx_cut (q + 1) ⟨(by first | rfl | (refine int_eq ?_; omega)), trivial⟩ (by (iterate 58 refine agr_cons rfl ?_); exact agr_rfl) ⟨?_, ?_⟩
        · have hnx : cntB (fl l z) (64 * (q + 1)) ≤ k := by rw [Nat.mul_succ]; omega
          refine ⟨?_, hnx, ?_, (hB.only O7 (hg5))⟩
          · rcases Nat.lt_or_ge (q + 1) ws.length with a | a
            · exact a
            · have := cntB_mono (fl l z) (show l.length ≤ 64 * (q + 1) by omega)
              omega
          · have e : k - cntB (fl l z) (64 * (q + 1)) = k - cntB (fl l z) (64 * q) - pop (ws[q] ^^^ flN z) 64 := by rw [Nat.mul_succ]; omega
            rw [e]
            simpa using P7
        · show ws.length - (q + 1) < ws.length - q; omega
set_option maxRecDepth 100000 in
set_option maxHeartbeats 400000 in
theorem sel_in (base b : Nat) (l : List Bool) (w : World) (hv : Vec w base b l) (hT : TZ w) (k : Nat) (hk : k < cntB (fl l false) l.length) :
    Rt Tryd.prog 32 [.pointer (some ⟨b, 0, none⟩), .int .i64 (k : Nat)] w (fun v w' => ∃ p, p < l.length ∧ fl l false p = true ∧ cntB (fl l false) p = k ∧ v = .tuple #[.int .i64 (p : Nat), .int .i64 0] ∧ From w w') := by
  have hvv := hv
  obtain ⟨gw, Aa, ca, ws, rs, hb0, hg0, hV, hgw, ho, hW, hrl, hrs, hl⟩ := hv
  have hlen := hW.len
  have hrkl := rk_le l l.length
  have hcn := fl_false l l.length
  refine enter (n := 20) Tryd.func32 rfl rfl rfl ?_
  refine cd_seq ?_
  refine cd_region ?_
  refine st_box (v := .pointer _) rfl ?_
  intro b2 w1 E2 hb2 hk2
  refine st_val (ro_assign (v := .int _ _) rfl) ?_
  refine st_val (ro_assign (v := .int _ _) rfl) ?_
  refine st_nil ?_
  refine nx_then ?_
  refine cd_seq ?_
  refine cd_seq ?_
  refine cd_region ?_
  refine st_val (ro_move (v := .int _ _) rfl) ?_
  refine st_val (ro_lss rfl rfl) ?_
  refine st_val (ro_move (v := .bool _) rfl) ?_
  refine st_split (t := 8) rfl (fun Q2 => ?_) (fun Q2 => ?_)
  · (try first | replace Q2 := bn_t Q2 | replace Q2 := bn_f Q2)
    (try first | replace Q2 := bx_t Q2 | replace Q2 := bx_f Q2 | replace Q2 := be_t Q2 | replace Q2 := be_f Q2 | replace Q2 := of_decide_eq_true Q2 | replace Q2 := of_decide_eq_false Q2)
    first
     | (exfalso; first | omega | contradiction | (cases Q2; done))
     | skip
       refine st_gno rfl rfl ?_
       refine st_gno rfl rfl ?_
       refine st_gno rfl rfl ?_
       refine st_gno rfl rfl ?_
       refine st_gno rfl rfl ?_
       refine st_gno rfl rfl ?_
       refine st_val (ro_pickT (v := .bool _) rfl rfl) ?_
       refine st_nil ?_
       refine nx_then ?_
       refine cd_condT rfl ?_
       refine cd_seq ?_
       refine cd_region ?_
       refine st_val (ro_assign (v := .int _ _) rfl) ?_
       refine st_val (ro_assign (v := .int _ _) rfl) ?_
       refine st_nil ?_
       refine nx_then ?_
       refine cd_ret ?_
       refine rt_then ?_
       refine res2 (v := .int _ _) (v' := .int _ _) rfl rfl rfl ?_
       exfalso; omega
  · (try first | replace Q2 := bn_t Q2 | replace Q2 := bn_f Q2)
    (try first | replace Q2 := bx_t Q2 | replace Q2 := bx_f Q2 | replace Q2 := be_t Q2 | replace Q2 := be_f Q2 | replace Q2 := of_decide_eq_true Q2 | replace Q2 := of_decide_eq_false Q2)
    first
     | (exfalso; first | omega | contradiction | (cases Q2; done))
     | skip
       refine st_unguard rfl ?_
       refine st_val (ro_move (v := .int _ _) rfl) ?_
       refine st_unguard rfl ?_
       refine st_val (ro_load BitsFind_g47 rfl (by exact (hk2.from_ From.rfl_).rd 0 rfl)) ?_
       refine st_unguard rfl ?_
       refine st_val (ro_nilCheck rfl) ?_
       refine st_unguard rfl ?_
       refine st_val (ro_fieldAddr BitsFind_f73_2 rfl) ?_
       refine st_unguard rfl ?_
       refine st_val (ro_load BitsFind_g3 rfl (by exact (hV.from_ (From.rfl_.next E2)).rd 3 rfl)) ?_
       refine st_unguard rfl ?_
       refine st_val (ro_geq rfl rfl) ?_
       refine st_val (ro_pickF (v := .bool _) rfl rfl) ?_
       refine st_nil ?_
       refine nx_then ?_
       refine cd_cond rfl (fun Q3 => ?_) (fun Q3 => ?_)
       · (try first | replace Q3 := bn_t Q3 | replace Q3 := bn_f Q3)
         (try first | replace Q3 := bx_t Q3 | replace Q3 := bx_f Q3 | replace Q3 := be_t Q3 | replace Q3 := be_f Q3 | replace Q3 := of_decide_eq_true Q3 | replace Q3 := of_decide_eq_false Q3)
         first
          | (exfalso; first | omega | contradiction | (cases Q3; done))
          | skip
            refine cd_seq ?_
            refine cd_region ?_
            refine st_val (ro_assign (v := .int _ _) rfl) ?_
            refine st_val (ro_assign (v := .int _ _) rfl) ?_
            refine st_nil ?_
            refine nx_then ?_
            refine cd_ret ?_
            refine rt_then ?_
            refine res2 (v := .int _ _) (v' := .int _ _) rfl rfl rfl ?_
            exfalso; omega
       · (try first | replace Q3 := bn_t Q3 | replace Q3 := bn_f Q3)
         (try first | replace Q3 := bx_t Q3 | replace Q3 := bx_f Q3 | replace Q3 := be_t Q3 | replace Q3 := be_f Q3 | replace Q3 := of_decide_eq_true Q3 | replace Q3 := of_decide_eq_false Q3)
         first
          | (exfalso; first | omega | contradiction | (cases Q3; done))
          | skip
            refine cd_skip ?_
            refine nx_then ?_
            refine cd_seq ?_
            refine cd_region ?_
            refine st_val (ro_load BitsFind_g47 rfl (by exact (hk2.from_ From.rfl_).rd 0 rfl)) ?_
            refine st_val (ro_move (v := .int _ _) rfl) ?_
            refine st_val (ro_makeFunc (l1 := []) (l2 := [.tmp 2])) ?_
            refine st_call BitsFind_k39 (find_rt base b k 0 false l 40 [.pointer (some ⟨b2, 0, none⟩)] _ (hvv.from_ (From.rfl_.next E2)) rfl BitsFind_k40 (fun w2 j hF2 hj => (ahead_rt base b b2 j l w2 (hvv.from_ ((From.rfl_.next E2).next hF2)) (cellF (From.rfl_.next hF2) (hk2.rd 0 rfl)) hj).mono fun v w3 h => ⟨h.1, h.2 ▸ From.rfl_⟩) (by rw [hcn]; omega) (hT.from_ (From.rfl_.next E2))) ?_
            rintro v19 w4 ⟨p, hp1, hp2, hp3, rfl, E19⟩
            refine st_val (ro_assign (v := .int _ _) rfl) ?_
            refine st_val (ro_assign (v := .int _ _) rfl) ?_
            refine st_nil ?_
            refine nx_then ?_
            refine cd_ret ?_
            refine res2 (v := .int _ _) (v' := .int _ _) rfl rfl rfl ?_
            exact ⟨p, hp1, hp2, hp3, rfl, ((From.rfl_.next E2).next E19)⟩
set_option maxRecDepth 100000 in
set_option maxHeartbeats 400000 in
theorem sel_out (base b : Nat) (l : List Bool) (w : World) (hv : Vec w base b l) (k : Int) (hk : ¬ (0 ≤ k ∧ k < (cntB (fl l false) l.length : Nat))) :
    Rt Tryd.prog 32 [.pointer (some ⟨b, 0, none⟩), .int .i64 k] w (fun v w' => v = .tuple #[.int .i64 0, .int .i64 3] ∧ From w w') := by
  have hvv := hv
  obtain ⟨gw, Aa, ca, ws, rs, hb0, hg0, hV, hgw, ho, hW, hrl, hrs, hl⟩ := hv
  have hlen := hW.len
  have hrkl := rk_le l l.length
  have hcn := fl_false l l.length
  refine enter (n := 20) Tryd.func32 rfl rfl rfl ?_
  refine cd_seq ?_
  refine cd_region ?_
  refine st_box (v := .pointer _) rfl ?_
  intro b2 w1 E2 hb2 hk2
  refine st_val (ro_assign (v := .int _ _) rfl) ?_
  refine st_val (ro_assign (v := .int _ _) rfl) ?_
  refine st_nil ?_
  refine nx_then ?_
  refine cd_seq ?_
  refine cd_seq ?_
  refine cd_region ?_
  refine st_val (ro_move (v := .int _ _) rfl) ?_
  refine st_val (ro_lss rfl rfl) ?_
  refine st_val (ro_move (v := .bool _) rfl) ?_
  refine st_split (t := 8) rfl (fun Q2 => ?_) (fun Q2 => ?_)
  · (try first | replace Q2 := bn_t Q2 | replace Q2 := bn_f Q2)
    (try first | replace Q2 := bx_t Q2 | replace Q2 := bx_f Q2 | replace Q2 := be_t Q2 | replace Q2 := be_f Q2 | replace Q2 := of_decide_eq_true Q2 | replace Q2 := of_decide_eq_false Q2)
    first
     | (exfalso; first | omega | contradiction | (cases Q2; done))
     | skip
       refine st_gno rfl rfl ?_
       refine st_gno rfl rfl ?_
       refine st_gno rfl rfl ?_
       refine st_gno rfl rfl ?_
       refine st_gno rfl rfl ?_
       refine st_gno rfl rfl ?_
       refine st_val (ro_pickT (v := .bool _) rfl rfl) ?_
       refine st_nil ?_
       refine nx_then ?_
       refine cd_condT rfl ?_
       refine cd_seq ?_
       refine cd_region ?_
       refine st_val (ro_assign (v := .int _ _) rfl) ?_
       refine st_val (ro_assign (v := .int _ _) rfl) ?_
       refine st_nil ?_
       refine nx_then ?_
       refine cd_ret ?_
       refine rt_then ?_
       refine res2 (v := .int _ _) (v' := .int _ _) rfl rfl rfl ?_
       exact ⟨rfl, (From.rfl_.next E2)⟩
  · (try first | replace Q2 := bn_t Q2 | replace Q2 := bn_f Q2)
    (try first | replace Q2 := bx_t Q2 | replace Q2 := bx_f Q2 | replace Q2 := be_t Q2 | replace Q2 := be_f Q2 | replace Q2 := of_decide_eq_true Q2 | replace Q2 := of_decide_eq_false Q2)
    first
     | (exfalso; first | omega | contradiction | (cases Q2; done))
     | skip
       refine st_unguard rfl ?_
       refine st_val (ro_move (v := .int _ _) rfl) ?_
       refine st_unguard rfl ?_
       refine st_val (ro_load BitsFind_g47 rfl (by exact (hk2.from_ From.rfl_).rd 0 rfl)) ?_
       refine st_unguard rfl ?_
       refine st_val (ro_nilCheck rfl) ?_
       refine st_unguard rfl ?_
       refine st_val (ro_fieldAddr BitsFind_f73_2 rfl) ?_
       refine st_unguard rfl ?_
       refine st_val (ro_load BitsFind_g3 rfl (by exact (hV.from_ (From.rfl_.next E2)).rd 3 rfl)) ?_
       refine st_unguard rfl ?_
       refine st_val (ro_geq rfl rfl) ?_
       refine st_val (ro_pickF (v := .bool _) rfl rfl) ?_
       refine st_nil ?_
       refine nx_then ?_
       refine cd_cond rfl (fun Q3 => ?_) (fun Q3 => ?_)
       · (try first | replace Q3 := bn_t Q3 | replace Q3 := bn_f Q3)
         (try first | replace Q3 := bx_t Q3 | replace Q3 := bx_f Q3 | replace Q3 := be_t Q3 | replace Q3 := be_f Q3 | replace Q3 := of_decide_eq_true Q3 | replace Q3 := of_decide_eq_false Q3)
         first
          | (exfalso; first | omega | contradiction | (cases Q3; done))
          | skip
            refine cd_seq ?_
            refine cd_region ?_
            refine st_val (ro_assign (v := .int _ _) rfl) ?_
            refine st_val (ro_assign (v := .int _ _) rfl) ?_
            refine st_nil ?_
            refine nx_then ?_
            refine cd_ret ?_
            refine rt_then ?_
            refine res2 (v := .int _ _) (v' := .int _ _) rfl rfl rfl ?_
            exact ⟨rfl, (From.rfl_.next E2)⟩
       · (try first | replace Q3 := bn_t Q3 | replace Q3 := bn_f Q3)
         (try first | replace Q3 := bx_t Q3 | replace Q3 := bx_f Q3 | replace Q3 := be_t Q3 | replace Q3 := be_f Q3 | replace Q3 := of_decide_eq_true Q3 | replace Q3 := of_decide_eq_false Q3)
         first
          | (exfalso; first | omega | contradiction | (cases Q3; done))
          | skip
            refine cd_skip ?_
            refine nx_then ?_
            refine cd_seq ?_
            refine cd_region ?_
            refine st_val (ro_load BitsFind_g47 rfl (by exact (hk2.from_ From.rfl_).rd 0 rfl)) ?_
            refine st_val (ro_move (v := .int _ _) rfl) ?_
            refine st_val (ro_makeFunc (l1 := []) (l2 := [.tmp 2])) ?_
            refine st_call BitsFind_k39 (find_rt) ?_
            rintro v19 w4 
            refine st_val (ro_assign (v := .int _ _) rfl) ?_
            refine st_val (ro_assign (v := .int _ _) rfl) ?_
            refine st_nil ?_
            refine nx_then ?_
            refine cd_ret ?_
            refine res2 (v := .int _ _) (v' := .int _ _) rfl rfl rfl ?_
            exfalso; omega
set_option maxRecDepth 100000 in
set_option maxHeartbeats 400000 in
theorem sel0_in (base b : Nat) (l : List Bool) (w : World) (hv : Vec w base b l) (hT : TZ w) (k : Nat) (hk : k < cntB (fl l true) l.length) :
    Rt Tryd.prog 33 [.pointer (some ⟨b, 0, none⟩), .int .i64 (k : Nat)] w (fun v w' => ∃ p, p < l.length ∧ fl l true p = true ∧ cntB (fl l true) p = k ∧ v = .tuple #[.int .i64 (p : Nat), .int .i64 0] ∧ From w w') := by
  have hvv := hv
  obtain ⟨gw, Aa, ca, ws, rs, hb0, hg0, hV, hgw, ho, hW, hrl, hrs, hl⟩ := hv
  have hlen := hW.len
  have hrkl := rk_le l l.length
  have hcn := fl_true l l.length
  refine enter (n := 26) Tryd.func33 rfl rfl rfl ?_
  refine cd_seq ?_
  refine cd_region ?_
  refine st_box (v := .pointer _) rfl ?_
  intro b2 w1 E2 hb2 hk2
  refine st_val (ro_assign (v := .int _ _) rfl) ?_
  refine st_val (ro_assign (v := .int _ _) rfl) ?_
  refine st_nil ?_
  refine nx_then ?_
  refine cd_seq ?_
  refine cd_seq ?_
  have hz : (0 : Nat) = 0 := rfl
  · apply cd_drawn 16 [(6, eqp _), (7, eqp _), (8, eqp _), (9, eqp _), (10, eqp _), (11, eqp _), (12, eqp _), (13, eqp _), (14, eqp _), (15, eqp _), (16, eqp _), (17, eqp _), (18, eqp _), (19, eqp _), (20, eqp _), (21, eqp _)] (by kernel_rfl) (by kernel_rfl) ⟨eqp_mono _, eqp_mono _, eqp_mono _, eqp_mono _, eqp_mono _, eqp_mono _, eqp_mono _, eqp_mono _, eqp_mono _, eqp_mono _, eqp_mono _, eqp_mono _, eqp_mono _, eqp_mono _, eqp_mono _, eqp_mono _, trivial⟩
    case hop =>
     refine ⟨?_, ?_⟩
     · intro w3 D3
       show OpOK _ _ _ _ _ _ _
       exact ok_pure (ro_move (v := .int _ _) rfl) rfl
     refine ⟨?_, ?_⟩
     · intro w4 D4
       rintro _ rfl
       show OpOK _ _ _ _ _ _ _
       exact ok_pure (ro_bf (ro_lss rfl rfl) (decide_eq_false (by omega))) rfl
     refine ⟨?_, ?_⟩
     · intro w5 D5
       rintro _ rfl
       show OpOK _ _ _ _ _ _ _
       exact ok_pure (ro_move (v := .bool _) rfl) rfl
     refine ⟨?_, ?_⟩
     · intro w6 D6
       rintro _ rfl
       show OpOK _ _ _ _ _ _ _
       exact ok_gpure rfl (ro_move (v := .int _ _) rfl) rfl
     refine ⟨?_, ?_⟩
     · intro w7 D7
       rintro _ rfl
       show OpOK _ _ _ _ _ _ _
       exact ok_gpure rfl (ro_load BitsFind_g47 rfl (by exact (hk2.from_ (From.rfl_.next D7)).rd 0 rfl)) rfl
     refine ⟨?_, ?_⟩
     · intro w8 D8
       rintro _ rfl _ rfl
       show OpOK _ _ _ _ _ _ _
       exact ok_gpure rfl (ro_nilCheck rfl) rfl
     refine ⟨?_, ?_⟩
     · intro w9 D9
       rintro _ rfl _ rfl
       show OpOK _ _ _ _ _ _ _
       exact ok_gpure rfl (ro_fieldAddr BitsFind_f73_0 rfl) rfl
     refine ⟨?_, ?_⟩
     · intro w10 D10
       rintro _ rfl _ rfl
       show OpOK _ _ _ _ _ _ _
       exact ok_gpure rfl (ro_fieldAddr BitsFind_f70_1 rfl) rfl
     refine ⟨?_, ?_⟩
     · intro w11 D11
       rintro _ rfl _ rfl
       show OpOK _ _ _ _ _ _ _
       exact ok_gpure rfl (ro_load BitsFind_g3 rfl (by exact (hV.from_ ((From.rfl_.next E2).next D11)).rd 1 rfl)) rfl
     refine ⟨?_, ?_⟩
     · intro w12 D12
       rintro _ rfl
       show OpOK _ _ _ _ _ _ _
       exact ok_gpure rfl (ro_load BitsFind_g47 rfl (by exact (hk2.from_ (From.rfl_.next D12)).rd 0 rfl)) rfl
     refine ⟨?_, ?_⟩
     · intro w13 D13
       rintro _ rfl _ rfl
       show OpOK _ _ _ _ _ _ _
       exact ok_gpure rfl (ro_nilCheck rfl) rfl
     refine ⟨?_, ?_⟩
     · intro w14 D14
       rintro _ rfl _ rfl
       show OpOK _ _ _ _ _ _ _
       exact ok_gpure rfl (ro_fieldAddr BitsFind_f73_2 rfl) rfl
     refine ⟨?_, ?_⟩
     · intro w15 D15
       rintro _ rfl _ rfl
       show OpOK _ _ _ _ _ _ _
       exact ok_gpure rfl (ro_load BitsFind_g3 rfl (by exact (hV.from_ ((From.rfl_.next E2).next D15)).rd 3 rfl)) rfl
     refine ⟨?_, ?_⟩
     · intro w16 D16
       rintro _ rfl _ rfl _ rfl
       show OpOK _ _ _ _ _ _ _
       exact ok_gpure rfl (ro_subN rfl rfl (by omega)) rfl
     refine ⟨?_, ?_⟩
     · intro w17 D17
       rintro _ rfl _ rfl _ rfl
       show OpOK _ _ _ _ _ _ _
       exact ok_gpure rfl (ro_geq rfl rfl) rfl
     refine ⟨?_, ?_⟩
     · intro w18 D18
       rintro _ rfl _ rfl
       show OpOK _ _ _ _ _ _ _
       exact ok_pure (ro_pickF (v := .bool _) rfl rfl) rfl
     exact trivial
    case hend =>
     intro w19 D19
     rintro _ rfl _ rfl _ rfl _ rfl _ rfl _ rfl _ rfl _ rfl _ rfl _ rfl _ rfl _ rfl _ rfl _ rfl _ rfl _ rfl
     show St _ _ _ _ _ _ _
     refine st_nil ?_
     refine nx_then ?_
     refine cd_cond rfl (fun Q20 => ?_) (fun Q20 => ?_)
     · (try first | replace Q20 := bn_t Q20 | replace Q20 := bn_f Q20)
       (try first | replace Q20 := bx_t Q20 | replace Q20 := bx_f Q20 | replace Q20 := be_t Q20 | replace Q20 := be_f Q20 | replace Q20 := of_decide_eq_true Q20 | replace Q20 := of_decide_eq_false Q20)
       first
        | (exfalso; first | omega | contradiction | (cases Q20; done))
        | skip
          refine cd_seq ?_
          refine cd_region ?_
          refine st_val (ro_assign (v := .int _ _) rfl) ?_
          refine st_val (ro_assign (v := .int _ _) rfl) ?_
          refine st_nil ?_
          refine nx_then ?_
          refine cd_ret ?_
          refine rt_then ?_
          refine res2 (v := .int _ _) (v' := .int _ _) rfl rfl rfl ?_
          exfalso; omega
     · (try first | replace Q20 := bn_t Q20 | replace Q20 := bn_f Q20)
       (try first | replace Q20 := bx_t Q20 | replace Q20 := bx_f Q20 | replace Q20 := be_t Q20 | replace Q20 := be_f Q20 | replace Q20 := of_decide_eq_true Q20 | replace Q20 := of_decide_eq_false Q20)
       first
        | (exfalso; first | omega | contradiction | (cases Q20; done))
        | skip
          refine cd_skip ?_
          refine nx_then ?_
          refine cd_seq ?_
          refine cd_region ?_
          refine st_val (ro_load BitsFind_g47 rfl (by exact (hk2.from_ (From.rfl_.next D19)).rd 0 rfl)) ?_
          refine st_val (ro_move (v := .int _ _) rfl) ?_
          refine st_val (ro_makeFunc (l1 := []) (l2 := [.tmp 2])) ?_
          refine st_call BitsFind_k39 (find_rt base b k 18446744073709551615 true l 41 [.pointer (some ⟨b2, 0, none⟩)] _ (hvv.from_ ((From.rfl_.next E2).next D19)) rfl BitsFind_k41 (fun w2 j hF2 hj => (ahead0_rt base b b2 j l w2 (hvv.from_ (((From.rfl_.next E2).next D19).next hF2)) (cellF ((From.rfl_.next D19).next hF2) (hk2.rd 0 rfl)) hj).mono fun v w3 h => ⟨h.1, h.2 ▸ From.rfl_⟩) (by rw [hcn]; omega) (hT.from_ ((From.rfl_.next E2).next D19))) ?_
          rintro v25 w21 ⟨p, hp1, hp2, hp3, rfl, E25⟩
          refine st_val (ro_assign (v := .int _ _) rfl) ?_
          refine st_val (ro_assign (v := .int _ _) rfl) ?_
          refine st_nil ?_
          refine nx_then ?_
          refine cd_ret ?_
          refine res2 (v := .int _ _) (v' := .int _ _) rfl rfl rfl ?_
          exact ⟨p, hp1, hp2, hp3, rfl, (((From.rfl_.next E2).next D19).next E25)⟩
set_option maxRecDepth 100000 in
set_option maxHeartbeats 400000 in
theorem sel0_out (base b : Nat) (l : List Bool) (w : World) (hv : Vec w base b l) (k : Int) (hk : ¬ (0 ≤ k ∧ k < (cntB (fl l true) l.length : Nat))) :
    Rt Tryd.prog 33 [.pointer (some ⟨b, 0, none⟩), .int .i64 k] w (fun v w' => v = .tuple #[.int .i64 0, .int .i64 3] ∧ From w w') := by
  have hvv := hv
  obtain ⟨gw, Aa, ca, ws, rs, hb0, hg0, hV, hgw, ho, hW, hrl, hrs, hl⟩ := hv
  have hlen := hW.len
  have hrkl := rk_le l l.length
  have hcn := fl_true l l.length
  refine enter (n := 26) Tryd.func33 rfl rfl rfl ?_
  refine cd_seq ?_
  refine cd_region ?_
  refine st_box (v := .pointer _) rfl ?_
  intro b2 w1 E2 hb2 hk2
  refine st_val (ro_assign (v := .int _ _) rfl) ?_
  refine st_val (ro_assign (v := .int _ _) rfl) ?_
  refine st_nil ?_
  refine nx_then ?_
  refine cd_seq ?_
  refine cd_seq ?_
  rcases Int.lt_or_le k 0 with hneg | hpos
  · apply cd_drawn 16 [(6, eqp _), (7, eqp _), (8, eqp _), (9, eqp _), (10, eqp _), (11, eqp _), (12, eqp _), (13, eqp _), (14, eqp _), (15, eqp _), (16, eqp _), (17, eqp _), (18, eqp _), (19, eqp _), (20, eqp _), (21, eqp _)] (by kernel_rfl) (by kernel_rfl) ⟨eqp_mono _, eqp_mono _, eqp_mono _, eqp_mono _, eqp_mono _, eqp_mono _, eqp_mono _, eqp_mono _, eqp_mono _, eqp_mono _, eqp_mono _, eqp_mono _, eqp_mono _, eqp_mono _, eqp_mono _, eqp_mono _, trivial⟩
    case hop =>
     refine ⟨?_, ?_⟩
     · intro w3 D3
       show OpOK _ _ _ _ _ _ _
       exact ok_pure (ro_move (v := .int _ _) rfl) rfl
     refine ⟨?_, ?_⟩
     · intro w4 D4
       rintro _ rfl
       show OpOK _ _ _ _ _ _ _
       exact ok_pure (ro_bt (ro_lss rfl rfl) (decide_eq_true (by omega))) rfl
     refine ⟨?_, ?_⟩
     · intro w5 D5
       rintro _ rfl
       show OpOK _ _ _ _ _ _ _
       exact ok_pure (ro_move (v := .bool _) rfl) rfl
     refine ⟨?_, ?_⟩
     · intro w6 D6
       rintro _ rfl
       show OpOK _ _ _ _ _ _ _
       exact ok_gno rfl rfl rfl
     refine ⟨?_, ?_⟩
     · intro w7 D7
       rintro _ rfl
       show OpOK _ _ _ _ _ _ _
       exact ok_gno rfl rfl rfl
     refine ⟨?_, ?_⟩
     · intro w8 D8
       rintro _ rfl _ rfl
       show OpOK _ _ _ _ _ _ _
       exact ok_gno rfl rfl rfl
     refine ⟨?_, ?_⟩
     · intro w9 D9
       rintro _ rfl _ rfl
       show OpOK _ _ _ _ _ _ _
       exact ok_gno rfl rfl rfl
     refine ⟨?_, ?_⟩
     · intro w10 D10
       rintro _ rfl _ rfl
       show OpOK _ _ _ _ _ _ _
       exact ok_gno rfl rfl rfl
     refine ⟨?_, ?_⟩
     · intro w11 D11
       rintro _ rfl _ rfl
       show OpOK _ _ _ _ _ _ _
       exact ok_gno rfl rfl rfl
     refine ⟨?_, ?_⟩
     · intro w12 D12
       rintro _ rfl
       show OpOK _ _ _ _ _ _ _
       exact ok_gno rfl rfl rfl
     refine ⟨?_, ?_⟩
     · intro w13 D13
       rintro _ rfl _ rfl
       show OpOK _ _ _ _ _ _ _
       exact ok_gno rfl rfl rfl
     refine ⟨?_, ?_⟩
     · intro w14 D14
       rintro _ rfl _ rfl
       show OpOK _ _ _ _ _ _ _
       exact ok_gno rfl rfl rfl
     refine ⟨?_, ?_⟩
     · intro w15 D15
       rintro _ rfl _ rfl
       show OpOK _ _ _ _ _ _ _
       exact ok_gno rfl rfl rfl
     refine ⟨?_, ?_⟩
     · intro w16 D16
       rintro _ rfl _ rfl _ rfl
       show OpOK _ _ _ _ _ _ _
       exact ok_gno rfl rfl rfl
     refine ⟨?_, ?_⟩
     · intro w17 D17
       rintro _ rfl _ rfl _ rfl
       show OpOK _ _ _ _ _ _ _
       exact ok_gno rfl rfl rfl
     refine ⟨?_, ?_⟩
     · intro w18 D18
       rintro _ rfl _ rfl
       show OpOK _ _ _ _ _ _ _
       exact ok_pure (ro_pickT (v := .bool _) rfl rfl) rfl
     exact trivial
    case hend =>
     intro w19 D19
     rintro _ rfl _ rfl _ rfl _ rfl _ rfl _ rfl _ rfl _ rfl _ rfl _ rfl _ rfl _ rfl _ rfl _ rfl _ rfl _ rfl
     show St _ _ _ _ _ _ _
     refine st_nil ?_
     refine nx_then ?_
     refine cd_condT rfl ?_
     refine cd_seq ?_
     refine cd_region ?_
     refine st_val (ro_assign (v := .int _ _) rfl) ?_
     refine st_val (ro_assign (v := .int _ _) rfl) ?_
     refine st_nil ?_
     refine nx_then ?_
     refine cd_ret ?_
     refine rt_then ?_
     refine res2 (v := .int _ _) (v' := .int _ _) rfl rfl rfl ?_
     exact ⟨rfl, ((From.rfl_.next E2).next D19)⟩
  · apply cd_drawn 16 [(6, eqp _), (7, eqp _), (8, eqp _), (9, eqp _), (10, eqp _), (11, eqp _), (12, eqp _), (13, eqp _), (14, eqp _), (15, eqp _), (16, eqp _), (17, eqp _), (18, eqp _), (19, eqp _), (20, eqp _), (21, eqp _)] (by kernel_rfl) (by kernel_rfl) ⟨eqp_mono _, eqp_mono _, eqp_mono _, eqp_mono _, eqp_mono _, eqp_mono _, eqp_mono _, eqp_mono _, eqp_mono _, eqp_mono _, eqp_mono _, eqp_mono _, eqp_mono _, eqp_mono _, eqp_mono _, eqp_mono _, trivial⟩
    case hop =>
     refine ⟨?_, ?_⟩
     · intro w21 D21
       show OpOK _ _ _ _ _ _ _
       exact ok_pure (ro_move (v := .int _ _) rfl) rfl
     refine ⟨?_, ?_⟩
     · intro w22 D22
       rintro _ rfl
       show OpOK _ _ _ _ _ _ _
       exact ok_pure (ro_bf (ro_lss rfl rfl) (decide_eq_false (by omega))) rfl
     refine ⟨?_, ?_⟩
     · intro w23 D23
       rintro _ rfl
       show OpOK _ _ _ _ _ _ _
       exact ok_pure (ro_move (v := .bool _) rfl) rfl
     refine ⟨?_, ?_⟩
     · intro w24 D24
       rintro _ rfl
       show OpOK _ _ _ _ _ _ _
       exact ok_gpure rfl (ro_move (v := .int _ _) rfl) rfl
     refine ⟨?_, ?_⟩
     · intro w25 D25
       rintro _ rfl
       show OpOK _ _ _ _ _ _ _
       exact ok_gpure rfl (ro_load BitsFind_g47 rfl (by exact (hk2.from_ (From.rfl_.next D25)).rd 0 rfl)) rfl
     refine ⟨?_, ?_⟩
     · intro w26 D26
       rintro _ rfl _ rfl
       show OpOK _ _ _ _ _ _ _
       exact ok_gpure rfl (ro_nilCheck rfl) rfl
     refine ⟨?_, ?_⟩
     · intro w27 D27
       rintro _ rfl _ rfl
       show OpOK _ _ _ _ _ _ _
       exact ok_gpure rfl (ro_fieldAddr BitsFind_f73_0 rfl) rfl
     refine ⟨?_, ?_⟩
     · intro w28 D28
       rintro _ rfl _ rfl
       show OpOK _ _ _ _ _ _ _
       exact ok_gpure rfl (ro_fieldAddr BitsFind_f70_1 rfl) rfl
     refine ⟨?_, ?_⟩
     · intro w29 D29
       rintro _ rfl _ rfl
       show OpOK _ _ _ _ _ _ _
       exact ok_gpure rfl (ro_load BitsFind_g3 rfl (by exact (hV.from_ ((From.rfl_.next E2).next D29)).rd 1 rfl)) rfl
     refine ⟨?_, ?_⟩
     · intro w30 D30
       rintro _ rfl
       show OpOK _ _ _ _ _ _ _
       exact ok_gpure rfl (ro_load BitsFind_g47 rfl (by exact (hk2.from_ (From.rfl_.next D30)).rd 0 rfl)) rfl
     refine ⟨?_, ?_⟩
     · intro w31 D31
       rintro _ rfl _ rfl
       show OpOK _ _ _ _ _ _ _
       exact ok_gpure rfl (ro_nilCheck rfl) rfl
     refine ⟨?_, ?_⟩
     · intro w32 D32
       rintro _ rfl _ rfl
       show OpOK _ _ _ _ _ _ _
       exact ok_gpure rfl (ro_fieldAddr BitsFind_f73_2 rfl) rfl
     refine ⟨?_, ?_⟩
     · intro w33 D33
       rintro _ rfl _ rfl
       show OpOK _ _ _ _ _ _ _
       exact ok_gpure rfl (ro_load BitsFind_g3 rfl (by exact (hV.from_ ((From.rfl_.next E2).next D33)).rd 3 rfl)) rfl
     refine ⟨?_, ?_⟩
     · intro w34 D34
       rintro _ rfl _ rfl _ rfl
       show OpOK _ _ _ _ _ _ _
       exact ok_gpure rfl (ro_subN rfl rfl (by omega)) rfl
     refine ⟨?_, ?_⟩
     · intro w35 D35
       rintro _ rfl _ rfl _ rfl
       show OpOK _ _ _ _ _ _ _
       exact ok_gpure rfl (ro_geq rfl rfl) rfl
     refine ⟨?_, ?_⟩
     · intro w36 D36
       rintro _ rfl _ rfl
       show OpOK _ _ _ _ _ _ _
       exact ok_pure (ro_pickF (v := .bool _) rfl rfl) rfl
     exact trivial
    case hend =>
     intro w37 D37
     rintro _ rfl _ rfl _ rfl _ rfl _ rfl _ rfl _ rfl _ rfl _ rfl _ rfl _ rfl _ rfl _ rfl _ rfl _ rfl _ rfl
     show St _ _ _ _ _ _ _
     refine st_nil ?_
     refine nx_then ?_
     refine cd_cond rfl (fun Q38 => ?_) (fun Q38 => ?_)
     · (try first | replace Q38 := bn_t Q38 | replace Q38 := bn_f Q38)
       (try first | replace Q38 := bx_t Q38 | replace Q38 := bx_f Q38 | replace Q38 := be_t Q38 | replace Q38 := be_f Q38 | replace Q38 := of_decide_eq_true Q38 | replace Q38 := of_decide_eq_false Q38)
       first
        | (exfalso; first | omega | contradiction | (cases Q38; done))
        | skip
          refine cd_seq ?_
          refine cd_region ?_
          refine st_val (ro_assign (v := .int _ _) rfl) ?_
          refine st_val (ro_assign (v := .int _ _) rfl) ?_
          refine st_nil ?_
          refine nx_then ?_
          refine cd_ret ?_
          refine rt_then ?_
          refine res2 (v := .int _ _) (v' := .int _ _) rfl rfl rfl ?_
          exact ⟨rfl, ((From.rfl_.next E2).next D37)⟩
     · (try first | replace Q38 := bn_t Q38 | replace Q38 := bn_f Q38)
       (try first | replace Q38 := bx_t Q38 | replace Q38 := bx_f Q38 | replace Q38 := be_t Q38 | replace Q38 := be_f Q38 | replace Q38 := of_decide_eq_true Q38 | replace Q38 := of_decide_eq_false Q38)
       first
        | (exfalso; first | omega | contradiction | (cases Q38; done))
        | skip
          refine cd_skip ?_
          refine nx_then ?_
          refine cd_seq ?_
          refine cd_region ?_
          refine st_val (ro_load BitsFind_g47 rfl (by exact (hk2.from_ (From.rfl_.next D37)).rd 0 rfl)) ?_
          refine st_val (ro_move (v := .int _ _) rfl) ?_
          refine st_val (ro_makeFunc (l1 := []) (l2 := [.tmp 2])) ?_
          refine st_call BitsFind_k39 (find_rt) ?_
          rintro v25 w39 
          refine st_val (ro_assign (v := .int _ _) rfl) ?_
          refine st_val (ro_assign (v := .int _ _) rfl) ?_
          refine st_nil ?_
          refine nx_then ?_
          refine cd_ret ?_
          refine res2 (v := .int _ _) (v' := .int _ _) rfl rfl rfl ?_
          exfalso; omega
end Go.Proofs.YtmiclfhpenjjfaaDoor
