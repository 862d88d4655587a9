/- Walks of package bits: Len, Get, Rank; the reference Rank. -/
import Derived.Test.YtmiclfhpenjjfaaDoorBitsNew
namespace Go.Proofs.YtmiclfhpenjjfaaDoor
open Go.RowKit

theorem BitsRank_f70_0 : fieldQ Tryd.prog 70 0 = some 0 := by kernel_rfl
theorem BitsRank_g68 : aggQ Tryd.prog 68 = some false := by kernel_rfl
theorem BitsRank_e68 : elemQ Tryd.prog 68 = some (64, 1) := by kernel_rfl
theorem BitsRank_g64 : aggQ Tryd.prog 64 = some false := by kernel_rfl
theorem BitsRank_f73_0 : fieldQ Tryd.prog 73 0 = some 0 := by kernel_rfl
theorem BitsRank_f70_1 : fieldQ Tryd.prog 70 1 = some 1 := by kernel_rfl
theorem BitsRank_g3 : aggQ Tryd.prog 3 = some false := by kernel_rfl
theorem BitsRank_k38 : callable Tryd.prog 38 = true := by kernel_rfl
theorem BitsRank_f73_2 : fieldQ Tryd.prog 73 2 = some 3 := by kernel_rfl
theorem BitsRank_f73_1 : fieldQ Tryd.prog 73 1 = some 2 := by kernel_rfl
theorem BitsRank_g71 : aggQ Tryd.prog 71 = some false := by kernel_rfl
theorem BitsRank_e71 : elemQ Tryd.prog 71 = some (21, 1) := by kernel_rfl
theorem BitsRank_g21 : aggQ Tryd.prog 21 = some false := by kernel_rfl
theorem BitsRank_s21 : (Tryd.prog.underlying 21).isSome = true := by kernel_rfl
theorem BitsRank_i3 : Tryd.prog.underlying 3 = some (.int .i64) := by kernel_rfl
theorem BitsRank_l68 : (elemQ Tryd.prog 68).isSome = true := by kernel_rfl
theorem BitsRank_k43 : callable Tryd.prog 43 = true := by kernel_rfl
theorem shr_and_one (x k : Nat) : x / 2 ^ k &&& 1 = (x.testBit k).toNat := by
  rw [show (1 : Nat) = 2 ^ 1 - 1 from rfl, Nat.and_two_pow_sub_one_eq_mod, ← Nat.shiftRight_eq_div_pow]
  have h : x.testBit k = ((x >>> k) % 2 == 1) := by
    rw [Nat.testBit, Nat.and_comm, Nat.and_one_is_mod]
    rcases Nat.mod_two_eq_zero_or_one (x >>> k) with e | e <;> rw [e] <;> rfl
  rw [h]
  rcases Nat.mod_two_eq_zero_or_one (x >>> k) with e | e <;> simp [e]
def gB (l : List Bool) (i : Int) : Bool := if 0 ≤ i ∧ i < l.length then bt l i.toNat else false
def gE (l : List Bool) (i : Int) : Int := if 0 ≤ i ∧ i < l.length then 0 else 3
def rB (l : List Bool) (i : Int) : Int := if 0 ≤ i ∧ i ≤ l.length then (rk l i.toNat : Nat) else 0
def rE (l : List Bool) (i : Int) : Int := if 0 ≤ i ∧ i ≤ l.length then 0 else 3
theorem Vec.le {w : World} {base base' b : Nat} {l : List Bool} (h : Vec w base b l) (hb : base' ≤ base) : Vec w base' b l := by
  obtain ⟨gw, Aa, ca, ws, rs, h1, h2, h3, h4, h5, h6⟩ := h
  refine ⟨gw, Aa, ca, ws, rs, by omega, by omega, h3, h4, ⟨h5.1, ?_⟩, h6⟩
  rcases h5.2 with h0 | ⟨g, cap, cur, hv, hg, r⟩
  · exact .inl h0
  · exact .inr ⟨g, cap, cur, hv, by omega, r⟩
set_option maxRecDepth 100000 in
set_option maxHeartbeats 400000 in
theorem bit_rt (base b i : Nat) (l : List Bool) (w : World) (hv : Vec w base b l) (hi : i < l.length) :
    Rt Tryd.prog 38 [.pointer (some ⟨b, 0, none⟩), .int .i64 (i : Nat)] w (fun v w' => v = .bool (bt l i) ∧ w = w') := by
  obtain ⟨gw, Aa, ca, ws, rs, hb0, hg0, hV, hgw, ho, hW, hrl, hrs, hl⟩ := hv
  have hlen := hW.len
  refine enter (n := 18) Tryd.func38 rfl rfl rfl ?_
  refine cd_seq ?_
  refine cd_region ?_
  refine st_val (ro_assign (v := .bool _) rfl) ?_
  refine st_nil ?_
  refine nx_then ?_
  refine cd_seq ?_
  refine cd_region ?_
  refine st_val (ro_move (v := .pointer _) rfl) ?_
  refine st_val (ro_nilCheck rfl) ?_
  refine st_val (ro_fieldAddr BitsRank_f70_0 rfl) ?_
  refine st_val (ro_load BitsRank_g68 rfl (by exact hV.rd 0 rfl)) ?_
  refine st_val (ro_move (v := .int _ _) rfl) ?_
  refine st_val (ro_quoN (b := 64) rfl rfl (by omega)) ?_
  refine st_val (ro_indexAddr0 BitsRank_e68 rfl rfl (by omega)) ?_
  refine st_val (ro_load BitsRank_g64 rfl (by exact hgw.rd _ (arr_at (i / 64) (by omega)))) ?_
  refine st_val (ro_move (v := .int _ _) rfl) ?_
  refine st_val (ro_remN (b := 64) rfl rfl (by decide)) ?_
  refine st_val (ro_shrN rfl rfl (by exact Nat.le_of_lt (Nat.mod_lt _ (by decide)))) ?_
  refine st_val (ro_andN (b := 1) rfl rfl (by exact ⟨Nat.lt_of_le_of_lt (Nat.div_le_self _ _) (hW.lt _ (List.getElem_mem _)), by decide⟩)) ?_
  refine st_val (ro_eql rfl rfl) ?_
  refine st_val (ro_assign (v := .bool _) rfl) ?_
  refine st_nil ?_
  refine nx_then ?_
  refine cd_ret ?_
  refine res1 (v := .bool _) rfl rfl ?_
  refine ⟨congrArg Value.bool ?_, rfl⟩
  rw [shr_and_one, hW.bits (by omega) (Nat.mod_lt _ (by decide)), Nat.div_add_mod]
  cases bt l i <;> rfl
set_option maxRecDepth 100000 in
set_option maxHeartbeats 400000 in
theorem get_rt (base b : Nat) (i : Int) (l : List Bool) (w : World) (hv : Vec w base b l) :
    Rt Tryd.prog 30 [.pointer (some ⟨b, 0, none⟩), .int .i64 i] w (fun v w' => v = .tuple #[.bool (gB l i), .int .i64 (gE l i)] ∧ w = w') := by
  have hvv := hv
  obtain ⟨gw, Aa, ca, ws, rs, hb0, hg0, hV, hgw, ho, hW, hrl, hrs, hl⟩ := hv
  have hlen := hW.len
  refine enter (n := 22) Tryd.func30 rfl rfl rfl ?_
  refine cd_seq ?_
  refine cd_region ?_
  refine st_val (ro_assign (v := .bool _) rfl) ?_
  refine st_val (ro_assign (v := .int _ _) rfl) ?_
  refine st_nil ?_
  refine nx_then ?_
  refine cd_seq ?_
  refine cd_seq ?_
  refine cd_region ?_
  refine st_val (ro_move (v := .int _ _) rfl) ?_
  refine st_val (ro_lss rfl rfl) ?_
  refine st_val (ro_move (v := .bool _) rfl) ?_
  refine st_split (t := 8) rfl (fun Q1 => ?_) (fun Q1 => ?_)
  · (try first | replace Q1 := bn_t Q1 | replace Q1 := bn_f Q1)
    (try first | replace Q1 := bx_t Q1 | replace Q1 := bx_f Q1 | replace Q1 := be_t Q1 | replace Q1 := be_f Q1 | replace Q1 := of_decide_eq_true Q1 | replace Q1 := of_decide_eq_false Q1)
    first
     | (exfalso; first | omega | contradiction | (cases Q1; done))
     | skip
       refine st_gno rfl rfl ?_
       refine st_gno rfl rfl ?_
       refine st_gno rfl rfl ?_
       refine st_gno rfl rfl ?_
       refine st_gno rfl rfl ?_
       refine st_gno rfl rfl ?_
       refine st_gno rfl rfl ?_
       refine st_val (ro_pickT (v := .bool _) rfl rfl) ?_
       refine st_nil ?_
       refine nx_then ?_
       refine cd_condT rfl ?_
       refine cd_seq ?_
       refine cd_region ?_
       refine st_val (ro_assign (v := .bool _) rfl) ?_
       refine st_val (ro_assign (v := .int _ _) rfl) ?_
       refine st_nil ?_
       refine nx_then ?_
       refine cd_ret ?_
       refine rt_then ?_
       refine res2 (v := .bool _) (v' := .int _ _) rfl rfl rfl ?_
       refine ⟨?_, rfl⟩
       unfold gB gE
       rw [if_neg (by omega), if_neg (by omega)]
  · (try first | replace Q1 := bn_t Q1 | replace Q1 := bn_f Q1)
    (try first | replace Q1 := bx_t Q1 | replace Q1 := bx_f Q1 | replace Q1 := be_t Q1 | replace Q1 := be_f Q1 | replace Q1 := of_decide_eq_true Q1 | replace Q1 := of_decide_eq_false Q1)
    first
     | (exfalso; first | omega | contradiction | (cases Q1; done))
     | skip
       refine st_unguard rfl ?_
       refine st_val (ro_move (v := .int _ _) rfl) ?_
       refine st_unguard rfl ?_
       refine st_val (ro_move (v := .pointer _) rfl) ?_
       refine st_unguard rfl ?_
       refine st_val (ro_nilCheck rfl) ?_
       refine st_unguard rfl ?_
       refine st_val (ro_fieldAddr BitsRank_f73_0 rfl) ?_
       refine st_unguard rfl ?_
       refine st_val (ro_fieldAddr BitsRank_f70_1 rfl) ?_
       refine st_unguard rfl ?_
       refine st_val (ro_load BitsRank_g3 rfl (by exact hV.rd 1 rfl)) ?_
       refine st_unguard rfl ?_
       refine st_val (ro_geq rfl rfl) ?_
       refine st_val (ro_pickF (v := .bool _) rfl rfl) ?_
       refine st_nil ?_
       refine nx_then ?_
       refine cd_cond rfl (fun Q2 => ?_) (fun Q2 => ?_)
       · (try first | replace Q2 := bn_t Q2 | replace Q2 := bn_f Q2)
         (try first | replace Q2 := bx_t Q2 | replace Q2 := bx_f Q2 | replace Q2 := be_t Q2 | replace Q2 := be_f Q2 | replace Q2 := of_decide_eq_true Q2 | replace Q2 := of_decide_eq_false Q2)
         first
          | (exfalso; first | omega | contradiction | (cases Q2; done))
          | skip
            refine cd_seq ?_
            refine cd_region ?_
            refine st_val (ro_assign (v := .bool _) rfl) ?_
            refine st_val (ro_assign (v := .int _ _) rfl) ?_
            refine st_nil ?_
            refine nx_then ?_
            refine cd_ret ?_
            refine rt_then ?_
            refine res2 (v := .bool _) (v' := .int _ _) rfl rfl rfl ?_
            refine ⟨?_, rfl⟩
            unfold gB gE
            rw [if_neg (by omega), if_neg (by omega)]
       · (try first | replace Q2 := bn_t Q2 | replace Q2 := bn_f Q2)
         (try first | replace Q2 := bx_t Q2 | replace Q2 := bx_f Q2 | replace Q2 := be_t Q2 | replace Q2 := be_f Q2 | replace Q2 := of_decide_eq_true Q2 | replace Q2 := of_decide_eq_false Q2)
         first
          | (exfalso; first | omega | contradiction | (cases Q2; done))
          | skip
            refine cd_skip ?_
            refine nx_then ?_
            refine cd_seq ?_
            refine cd_region ?_
            obtain ⟨q, rfl⟩ : ∃ q : Nat, i = (q : Int) := ⟨i.toNat, by omega⟩
            refine st_val (ro_move (v := .pointer _) rfl) ?_
            refine st_val (ro_nilCheck rfl) ?_
            refine st_val (ro_fieldAddr BitsRank_f73_0 rfl) ?_
            refine st_val (ro_move (v := .int _ _) rfl) ?_
            refine st_call BitsRank_k38 (bit_rt base b q l _ hvv (by omega)) ?_
            rintro v21 w3 ⟨rfl, rfl⟩
            refine st_val (ro_assign (v := .bool _) rfl) ?_
            refine st_val (ro_assign (v := .int _ _) rfl) ?_
            refine st_nil ?_
            refine nx_then ?_
            refine cd_ret ?_
            refine res2 (v := .bool _) (v' := .int _ _) rfl rfl rfl ?_
            refine ⟨?_, rfl⟩
            unfold gB gE
            rw [if_pos (by omega), if_pos (by omega)]
            rfl
set_option maxRecDepth 100000 in
set_option maxHeartbeats 1000000 in
theorem rank_rt (base b : Nat) (i : Int) (l : List Bool) (w : World) (hv : Vec w base b l) :
    Rt Tryd.prog 44 [.pointer (some ⟨b, 0, none⟩), .int .i64 i] w (fun v w' => v = .tuple #[.int .i64 (rB l i), .int .i64 (rE l i)] ∧ From w w') := by
  obtain ⟨gw, Aa, ca, ws, rs, hb0, hg0, hV, hgw, ho, hW, hrl, hrs, hl⟩ := hv
  have hlen := hW.len
  refine enter (n := 80) Tryd.func44 rfl rfl rfl ?_
  refine cd_seq ?_
  refine cd_region ?_
  refine st_val (ro_assign (v := .int _ _) rfl) ?_
  refine st_val (ro_assign (v := .int _ _) rfl) ?_
  refine st_nil ?_
  refine nx_then ?_
  refine cd_seq ?_
  refine cd_seq ?_
  refine cd_region ?_
  refine st_val (ro_move (v := .int _ _) rfl) ?_
  refine st_val (ro_lss rfl rfl) ?_
  refine st_val (ro_move (v := .bool _) rfl) ?_
  refine st_split (t := 13) rfl (fun Q1 => ?_) (fun Q1 => ?_)
  · (try first | replace Q1 := bn_t Q1 | replace Q1 := bn_f Q1)
    (try first | replace Q1 := bx_t Q1 | replace Q1 := bx_f Q1 | replace Q1 := be_t Q1 | replace Q1 := be_f Q1 | replace Q1 := of_decide_eq_true Q1 | replace Q1 := of_decide_eq_false Q1)
    first
     | (exfalso; first | omega | contradiction | (cases Q1; done))
     | skip
       refine st_gno rfl rfl ?_
       refine st_gno rfl rfl ?_
       refine st_gno rfl rfl ?_
       refine st_gno rfl rfl ?_
       refine st_gno rfl rfl ?_
       refine st_gno rfl rfl ?_
       refine st_gno rfl rfl ?_
       refine st_val (ro_pickT (v := .bool _) rfl rfl) ?_
       refine st_nil ?_
       refine nx_then ?_
       refine cd_condT rfl ?_
       refine cd_seq ?_
       refine cd_region ?_
       refine st_val (ro_assign (v := .int _ _) rfl) ?_
       refine st_val (ro_assign (v := .int _ _) rfl) ?_
       refine st_nil ?_
       refine nx_then ?_
       refine cd_ret ?_
       refine rt_then ?_
       refine res2 (v := .int _ _) (v' := .int _ _) rfl rfl rfl ?_
       refine ⟨?_, From.rfl_⟩
       unfold rB rE
       rw [if_neg (by omega), if_neg (by omega)]
  · (try first | replace Q1 := bn_t Q1 | replace Q1 := bn_f Q1)
    (try first | replace Q1 := bx_t Q1 | replace Q1 := bx_f Q1 | replace Q1 := be_t Q1 | replace Q1 := be_f Q1 | replace Q1 := of_decide_eq_true Q1 | replace Q1 := of_decide_eq_false Q1)
    first
     | (exfalso; first | omega | contradiction | (cases Q1; done))
     | skip
       refine st_unguard rfl ?_
       refine st_val (ro_move (v := .int _ _) rfl) ?_
       refine st_unguard rfl ?_
       refine st_val (ro_move (v := .pointer _) rfl) ?_
       refine st_unguard rfl ?_
       refine st_val (ro_nilCheck rfl) ?_
       refine st_unguard rfl ?_
       refine st_val (ro_fieldAddr BitsRank_f73_0 rfl) ?_
       refine st_unguard rfl ?_
       refine st_val (ro_fieldAddr BitsRank_f70_1 rfl) ?_
       refine st_unguard rfl ?_
       refine st_val (ro_load BitsRank_g3 rfl (by exact hV.rd 1 rfl)) ?_
       refine st_unguard rfl ?_
       refine st_val (ro_gtr rfl rfl) ?_
       refine st_val (ro_pickF (v := .bool _) rfl rfl) ?_
       refine st_nil ?_
       refine nx_then ?_
       refine cd_cond rfl (fun Q2 => ?_) (fun Q2 => ?_)
       · (try first | replace Q2 := bn_t Q2 | replace Q2 := bn_f Q2)
         (try first | replace Q2 := bx_t Q2 | replace Q2 := bx_f Q2 | replace Q2 := be_t Q2 | replace Q2 := be_f Q2 | replace Q2 := of_decide_eq_true Q2 | replace Q2 := of_decide_eq_false Q2)
         first
          | (exfalso; first | omega | contradiction | (cases Q2; done))
          | skip
            refine cd_seq ?_
            refine cd_region ?_
            refine st_val (ro_assign (v := .int _ _) rfl) ?_
            refine st_val (ro_assign (v := .int _ _) rfl) ?_
            refine st_nil ?_
            refine nx_then ?_
            refine cd_ret ?_
            refine rt_then ?_
            refine res2 (v := .int _ _) (v' := .int _ _) rfl rfl rfl ?_
            refine ⟨?_, From.rfl_⟩
            unfold rB rE
            rw [if_neg (by omega), if_neg (by omega)]
       · (try first | replace Q2 := bn_t Q2 | replace Q2 := bn_f Q2)
         (try first | replace Q2 := bx_t Q2 | replace Q2 := bx_f Q2 | replace Q2 := be_t Q2 | replace Q2 := be_f Q2 | replace Q2 := of_decide_eq_true Q2 | replace Q2 := of_decide_eq_false Q2)
         first
          | (exfalso; first | omega | contradiction | (cases Q2; done))
          | skip
            refine cd_skip ?_
            refine nx_then ?_
            refine cd_seq ?_
            refine cd_seq ?_
            refine cd_region ?_
            obtain ⟨q, rfl⟩ : ∃ q : Nat, i = (q : Int) := ⟨i.toNat, by omega⟩
            refine st_val (ro_move (v := .int _ _) rfl) ?_
            refine st_val (ro_move (v := .pointer _) rfl) ?_
            refine st_val (ro_nilCheck rfl) ?_
            refine st_val (ro_fieldAddr BitsRank_f73_0 rfl) ?_
            refine st_val (ro_fieldAddr BitsRank_f70_1 rfl) ?_
            refine st_val (ro_load BitsRank_g3 rfl (by exact hV.rd 1 rfl)) ?_
            refine st_val (ro_eql rfl rfl) ?_
            refine st_nil ?_
            refine nx_then ?_
            refine cd_cond rfl (fun Q3 => ?_) (fun Q3 => ?_)
            · (try first | replace Q3 := bn_t Q3 | replace Q3 := bn_f Q3)
              (try first | replace Q3 := bx_t Q3 | replace Q3 := bx_f Q3 | replace Q3 := be_t Q3 | replace Q3 := be_f Q3 | replace Q3 := of_decide_eq_true Q3 | replace Q3 := of_decide_eq_false Q3)
              first
               | (exfalso; first | omega | contradiction | (cases Q3; done))
               | skip
                 refine cd_seq ?_
                 refine cd_region ?_
                 refine st_val (ro_move (v := .pointer _) rfl) ?_
                 refine st_val (ro_nilCheck rfl) ?_
                 refine st_val (ro_fieldAddr BitsRank_f73_2 rfl) ?_
                 refine st_val (ro_load BitsRank_g3 rfl (by exact hV.rd 3 rfl)) ?_
                 refine st_val (ro_assign (v := .int _ _) rfl) ?_
                 refine st_val (ro_assign (v := .int _ _) rfl) ?_
                 refine st_nil ?_
                 refine nx_then ?_
                 refine cd_ret ?_
                 refine rt_then ?_
                 refine res2 (v := .int _ _) (v' := .int _ _) rfl rfl rfl ?_
                 refine ⟨?_, From.rfl_⟩
                 unfold rB rE
                 rw [if_pos (by omega), if_pos (by omega), show q = l.length by omega]
                 rfl
            · (try first | replace Q3 := bn_t Q3 | replace Q3 := bn_f Q3)
              (try first | replace Q3 := bx_t Q3 | replace Q3 := bx_f Q3 | replace Q3 := be_t Q3 | replace Q3 := be_f Q3 | replace Q3 := of_decide_eq_true Q3 | replace Q3 := of_decide_eq_false Q3)
              first
               | (exfalso; first | omega | contradiction | (cases Q3; done))
               | skip
                 refine cd_skip ?_
                 refine nx_then ?_
                 refine cd_seq ?_
                 refine cd_region ?_
                 refine st_val (ro_move (v := .int _ _) rfl) ?_
                 refine st_val (ro_quoN (b := 64) rfl rfl (by omega)) ?_
                 refine st_val (ro_assign (v := .int _ _) rfl) ?_
                 refine st_nil ?_
                 refine nx_then ?_
                 refine cd_seq ?_
                 refine cd_region ?_
                 refine st_val (ro_move (v := .int _ _) rfl) ?_
                 refine st_val (ro_quoN (b := 8) rfl rfl (by omega)) ?_
                 refine st_val (ro_assign (v := .int _ _) rfl) ?_
                 refine st_nil ?_
                 refine nx_then ?_
                 refine cd_seq ?_
                 refine cd_region ?_
                 obtain ⟨ga, rfl⟩ := own_some ho (by omega)
                 refine st_val (ro_move (v := .pointer _) rfl) ?_
                 refine st_val (ro_nilCheck rfl) ?_
                 refine st_val (ro_fieldAddr BitsRank_f73_1 rfl) ?_
                 refine st_val (ro_load BitsRank_g71 rfl (by exact hV.rd 2 rfl)) ?_
                 refine st_val (ro_move (v := .int _ _) rfl) ?_
                 refine st_val (ro_indexAddr0 BitsRank_e71 rfl rfl (by omega)) ?_
                 refine st_val (ro_load BitsRank_g21 rfl (by exact own_cell ho (q / 64 / 8) (by omega))) ?_
                 refine st_val (ro_convI BitsRank_s21 BitsRank_i3 rfl (by rw [hrs]; have := rk_le l (512 * (q / 64 / 8)); omega)) ?_
                 refine st_spell (t := 44) (v := .int _ _) (v' := .int .i64 ((rk l (512 * (q / 64 / 8)) : Nat) : Int)) rfl (by rw [hrs]) ?_
                 refine st_val (ro_assign (v := .int _ _) rfl) ?_
                 refine st_nil ?_
                 refine nx_then ?_
                 refine cd_seq ?_
                 refine cd_seq ?_
                 refine cd_region ?_
                 refine st_val (ro_move (v := .pointer _) rfl) ?_
                 refine st_val (ro_nilCheck rfl) ?_
                 refine st_val (ro_fieldAddr BitsRank_f73_0 rfl) ?_
                 refine st_val (ro_fieldAddr BitsRank_f70_0 rfl) ?_
                 refine st_val (ro_load BitsRank_g68 rfl (by exact hV.rd 0 rfl)) ?_
                 refine st_val (ro_move (v := .int _ _) rfl) ?_
                 refine st_val (ro_mulN (b := 8) rfl rfl (by omega)) ?_
                 refine st_val (ro_move (v := .int _ _) rfl) ?_
                 refine st_val (ro_eq (v' := .slice (some ⟨gw, q / 64 / 8 * 8, none⟩) (q / 64 - q / 64 / 8 * 8) (ws.length - q / 64 / 8 * 8)) (ro_slice (l := q / 64 / 8 * 8) (h := q / 64) BitsRank_e68 rfl (.inr ⟨_, _, rfl, rfl⟩) (.inr ⟨_, _, rfl, rfl⟩) (by omega) (by omega)) (by rw [if_neg (by omega), Nat.zero_add, Nat.mul_one])) ?_
                 refine st_val (ro_len BitsRank_l68 rfl) ?_
                 refine st_val (ro_move (v := .int _ _) rfl) ?_
                 refine st_nil ?_
                 refine nx_then ?_
                 refine cd_block ?_
                 refine cd_loop (G := Nat) [10, 56, 57, 58, 59, 60, 61, 62, 63] (fun j => [(55, .int .i64 (j : Nat)), (8, .int .i64 (rk l (64 * (q / 64 / 8 * 8 + j)) : Nat))]) (fun j w' => j ≤ q / 64 - q / 64 / 8 * 8 ∧ w = w') (fun j => q / 64 - q / 64 / 8 * 8 - j) (0) ⟨rfl, (congrArg (fun x : Nat => Value.int .i64 (x : Int)) (congrArg (rk l) (by omega))), trivial⟩ ?_ ?_
                 · exact ⟨Nat.zero_le _, rfl⟩
                 rintro j ρ4 w4 ⟨hj, rfl⟩
                 refine cd_seq ?_
                 refine cd_region ?_
                 refine st_val (ro_lss rfl rfl) ?_
                 refine st_nil ?_
                 refine nx_then ?_
                 refine cd_seq ?_
                 refine cd_cond rfl (fun Q5 => ?_) (fun Q5 => ?_)
                 · (try first | replace Q5 := bn_t Q5 | replace Q5 := bn_f Q5)
                   (try first | replace Q5 := bx_t Q5 | replace Q5 := bx_f Q5 | replace Q5 := be_t Q5 | replace Q5 := be_f Q5 | replace Q5 := of_decide_eq_true Q5 | replace Q5 := of_decide_eq_false Q5)
                   first
                    | (exfalso; first | omega | contradiction | (cases Q5; done))
                    | skip
                      refine cd_skip ?_
                      refine nx_then ?_
                      refine cd_seq ?_
                      refine cd_block ?_
                      refine cd_seq ?_
                      refine cd_region ?_
                      refine st_val (ro_indexAddr1 BitsRank_e68 rfl rfl (by omega)) ?_
                      refine st_val (ro_load BitsRank_g64 rfl (by exact hgw.rd _ (arr_at (q / 64 / 8 * 8 + j) (by omega)))) ?_
                      refine st_val (ro_assign (v := .int _ _) rfl) ?_
                      refine st_nil ?_
                      refine nx_then ?_
                      refine cd_region ?_
                      refine st_val (ro_move (v := .int _ _) rfl) ?_
                      refine st_val (ro_move (v := .int _ _) rfl) ?_
                      refine st_call BitsRank_k43 (onesCount ws[q / 64 / 8 * 8 + j] _ (hW.lt _ (List.getElem_mem _))) ?_
                      rintro v61 w6 ⟨rfl, rfl⟩
                      refine st_val (ro_addN rfl rfl (by have := rk_le l (64 * (q / 64 / 8 * 8 + j)); have := pop_le ws[q / 64 / 8 * 8 + j] 64; omega)) ?_
                      refine st_val (ro_assign (v := .int _ _) rfl) ?_
                      refine st_nil ?_
                      refine nx_block ?_
                      refine nx_then ?_
                      refine cd_region ?_
                      refine st_val (ro_addN (b := 1) rfl rfl (by omega)) ?_
                      refine st_val (ro_move (v := .int _ _) rfl) ?_
                      refine st_nil ?_
                      refine nx_cut (j + 1) ⟨rfl, (congrArg (fun x : Nat => Value.int .i64 (x : Int)) (hW.rankw (j := q / 64 / 8 * 8 + j) (by omega)).symm), trivial⟩ (by (iterate 22 refine agr_cons rfl ?_); exact agr_rfl) ⟨?_, ?_⟩
                      · exact ⟨by omega, rfl⟩
                      · omega
                 · (try first | replace Q5 := bn_t Q5 | replace Q5 := bn_f Q5)
                   (try first | replace Q5 := bx_t Q5 | replace Q5 := bx_f Q5 | replace Q5 := be_t Q5 | replace Q5 := be_f Q5 | replace Q5 := of_decide_eq_true Q5 | replace Q5 := of_decide_eq_false Q5)
                   have hj2 : q / 64 / 8 * 8 + j = q / 64 := by omega
                   have hrk : rk l (64 * (q / 64 / 8 * 8 + j)) = rk l (64 * (q / 64)) := by rw [hj2]
                   first
                    | (exfalso; first | omega | contradiction | (cases Q5; done))
                    | skip
                      refine cd_exit ?_
                      refine ex_then ?_
                      refine ex_then ?_
                      refine ex_block ?_
                      refine nx_then ?_
                      refine cd_seq ?_
                      apply cd_drawn 18 [(64, eqp _), (65, eqp _), (66, eqp _), (67, eqp _), (68, eqp _), (69, eqp _), (70, eqp _), (71, eqp _), (72, eqp _), (73, eqp _), (74, eqp _), (75, eqp _), (76, eqp _), (77, eqp _), (78, eqp _), (79, eqp _), (4, eqp _), (5, eqp _)] (by kernel_rfl) (by kernel_rfl) ⟨eqp_mono _, eqp_mono _, eqp_mono _, eqp_mono _, eqp_mono _, eqp_mono _, eqp_mono _, eqp_mono _, eqp_mono _, eqp_mono _, eqp_mono _, eqp_mono _, eqp_mono _, eqp_mono _, eqp_mono _, eqp_mono _, eqp_mono _, eqp_mono _, trivial⟩
                      case hop =>
                       refine ⟨?_, ?_⟩
                       · intro w8 D8
                         show OpOK _ _ _ _ _ _ _
                         exact ok_pure (ro_move (v := .int _ _) rfl) rfl
                       refine ⟨?_, ?_⟩
                       · intro w9 D9
                         show OpOK _ _ _ _ _ _ _
                         exact ok_pure (ro_move (v := .pointer _) rfl) rfl
                       refine ⟨?_, ?_⟩
                       · intro w10 D10
                         rintro _ rfl
                         show OpOK _ _ _ _ _ _ _
                         exact ok_pure (ro_nilCheck rfl) rfl
                       refine ⟨?_, ?_⟩
                       · intro w11 D11
                         rintro _ rfl
                         show OpOK _ _ _ _ _ _ _
                         exact ok_pure (ro_fieldAddr BitsRank_f73_0 rfl) rfl
                       refine ⟨?_, ?_⟩
                       · intro w12 D12
                         rintro _ rfl
                         show OpOK _ _ _ _ _ _ _
                         exact ok_pure (ro_fieldAddr BitsRank_f70_0 rfl) rfl
                       refine ⟨?_, ?_⟩
                       · intro w13 D13
                         rintro _ rfl
                         show OpOK _ _ _ _ _ _ _
                         exact ok_pure (ro_load BitsRank_g68 rfl (by exact cellF (From.rfl_.next D13) (hV.rd 0 rfl))) rfl
                       refine ⟨?_, ?_⟩
                       · intro w14 D14
                         show OpOK _ _ _ _ _ _ _
                         exact ok_pure (ro_move (v := .int _ _) rfl) rfl
                       refine ⟨?_, ?_⟩
                       · intro w15 D15
                         rintro _ rfl _ rfl
                         show OpOK _ _ _ _ _ _ _
                         exact ok_pure (ro_indexAddr0 BitsRank_e68 rfl rfl (by omega)) rfl
                       refine ⟨?_, ?_⟩
                       · intro w16 D16
                         rintro _ rfl
                         show OpOK _ _ _ _ _ _ _
                         exact ok_pure (ro_load BitsRank_g64 rfl (by exact (hgw.from_ (From.rfl_.next D16)).rd _ (arr_at (l := ws) (q / 64) (by omega)))) rfl
                       refine ⟨?_, ?_⟩
                       · intro w17 D17
                         show OpOK _ _ _ _ _ _ _
                         exact ok_pure (ro_move (v := .int _ _) rfl) rfl
                       refine ⟨?_, ?_⟩
                       · intro w18 D18
                         rintro _ rfl
                         show OpOK _ _ _ _ _ _ _
                         exact ok_pure (ro_remN (b := 64) rfl rfl (by decide)) rfl
                       refine ⟨?_, ?_⟩
                       · intro w19 D19
                         rintro _ rfl
                         show OpOK _ _ _ _ _ _ _
                         exact ok_pure (ro_shlN (a := 1) rfl rfl (by exact Nat.le_of_lt (Nat.mod_lt _ (by decide)))) rfl
                       refine ⟨?_, ?_⟩
                       · intro w20 D20
                         rintro _ rfl
                         show OpOK _ _ _ _ _ _ _
                         exact ok_pure (ro_subU (b := 1) rfl rfl ⟨by rw [one_shl _ (Nat.mod_lt _ (by decide))]; exact Nat.pow_pos (by decide), Nat.mod_lt _ (by decide)⟩) rfl
                       refine ⟨?_, ?_⟩
                       · intro w21 D21
                         rintro _ rfl _ rfl
                         show OpOK _ _ _ _ _ _ _
                         exact ok_pure (ro_andN rfl rfl (by exact ⟨hW.lt _ (List.getElem_mem _), Nat.lt_of_le_of_lt (Nat.sub_le _ _) (Nat.mod_lt _ (by decide))⟩)) rfl
                       refine ⟨?_, ?_⟩
                       · intro w22 D22
                         rintro _ rfl
                         show OpOK _ _ _ _ _ _ _
                         refine ok_call BitsRank_k43 ((onesCount (ws[q / 64] &&& (1 * 2 ^ (q % 64) % 2 ^ 64 - 1)) _ (Nat.lt_of_le_of_lt Nat.and_le_left (hW.lt _ (List.getElem_mem _)))).mono ?_)
                         rintro v _ ⟨rfl, rfl⟩; exact ⟨From.rfl_, rfl⟩
                       refine ⟨?_, ?_⟩
                       · intro w23 D23
                         rintro _ rfl _ rfl
                         show OpOK _ _ _ _ _ _ _
                         exact ok_pure (ro_addN rfl rfl (by have := rk_le l (64 * (q / 64 / 8 * 8 + j)); have := pop_le (ws[q / 64] &&& (1 * 2 ^ (q % 64) % 2 ^ 64 - 1)) 64; omega)) rfl
                       refine ⟨?_, ?_⟩
                       · intro w24 D24
                         rintro _ rfl
                         show OpOK _ _ _ _ _ _ _
                         exact ok_pure (ro_assign (v := .int _ _) rfl) rfl
                       refine ⟨?_, ?_⟩
                       · intro w25 D25
                         show OpOK _ _ _ _ _ _ _
                         exact ok_pure (ro_assign (v := .int _ _) rfl) rfl
                       exact trivial
                      case hend =>
                       intro w26 D26
                       rintro _ rfl _ rfl _ rfl _ rfl _ rfl _ rfl _ rfl _ rfl _ rfl _ rfl _ rfl _ rfl _ rfl _ rfl _ rfl _ rfl _ rfl _ rfl
                       show St _ _ _ _ _ _ _
                       refine st_nil ?_
                       refine nx_then ?_
                       refine cd_ret ?_
                       refine res2 (v := .int _ _) (v' := .int _ _) rfl rfl rfl ?_
                       refine ⟨?_, ?_⟩
                       · unfold rB rE
                         rw [if_pos (by omega), if_pos (by omega), Int.toNat_natCast, hW.rankm (i := q) (by omega), hrk]
                       · exact (From.rfl_.next D26)
end Go.Proofs.YtmiclfhpenjjfaaDoor
