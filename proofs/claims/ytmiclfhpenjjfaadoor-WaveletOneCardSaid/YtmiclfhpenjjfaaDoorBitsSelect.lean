/- Walks of package bits: TrailingZeros64, nth, sort.Search, find, Select, Select0. -/
import Derived.Test.YtmiclfhpenjjfaaDoorBitsRank
import Derived.Test.YtmiclfhpenjjfaaDoorBitsSel
import Derived.Test.YtmiclfhpenjjfaaDoorFast9
namespace Go.Proofs.YtmiclfhpenjjfaaDoor
open Go.RowKit

theorem BitsSelect_a79 : arrQ Tryd.prog 79 = some (64, 1) := by kernel_rfl
theorem BitsSelect_g5 : aggQ Tryd.prog 5 = some false := by kernel_rfl
theorem BitsSelect_s5 : (Tryd.prog.underlying 5).isSome = true := by kernel_rfl
theorem BitsSelect_i3 : Tryd.prog.underlying 3 = some (.int .i64) := by kernel_rfl
theorem BitsSelect_k48 : callable Tryd.prog 48 = true := by kernel_rfl
theorem BitsSelect_s3 : (Tryd.prog.underlying 3).isSome = true := by kernel_rfl
theorem BitsSelect_i54 : Tryd.prog.underlying 54 = some (.int .u64) := by kernel_rfl
theorem BitsSelect_s54 : (Tryd.prog.underlying 54).isSome = true := by kernel_rfl
theorem BitsSelect_e71 : elemQ Tryd.prog 71 = some (21, 1) := by kernel_rfl
theorem BitsSelect_g47 : aggQ Tryd.prog 47 = some false := by kernel_rfl
theorem BitsSelect_f73_1 : fieldQ Tryd.prog 73 1 = some 2 := by kernel_rfl
theorem BitsSelect_g71 : aggQ Tryd.prog 71 = some false := by kernel_rfl
theorem BitsSelect_g21 : aggQ Tryd.prog 21 = some false := by kernel_rfl
theorem BitsSelect_s21 : (Tryd.prog.underlying 21).isSome = true := by kernel_rfl
theorem BitsSelect_g46 : aggQ Tryd.prog 46 = some false := by kernel_rfl
theorem BitsSelect_g3 : aggQ Tryd.prog 3 = some false := by kernel_rfl
/-- the table of trailing noughts lies as it was laid -/
def TZ (w : World) : Prop := ∀ i (h : i < tz.length), w.cell? ⟨0, i, none⟩ = some (.int .u8 (tz[i] : Nat))
theorem TZ.from_ {w w' : World} (h : TZ w) (hF : From w w') : TZ w' := fun i hi => cellF hF (h i hi)
theorem tz_len : tz.length = 64 := rfl
set_option maxRecDepth 100000 in
set_option maxHeartbeats 400000 in
theorem tz_rt (x p : Nat) (w : World) (hx : x < 2 ^ 64) (hp : p < 64) (hl : Low x p) (hT : TZ w) :
    Rt Tryd.prog 48 [.int .u64 (x : Nat)] w (fun v w' => v = .int .i64 (p : Nat) ∧ w = w') := by
  have h0 := low_pos hl
  obtain ⟨hh, ht⟩ := tz_at p hp
  have hl64 := tz_len
  refine enter (n := 14) Tryd.func48 rfl rfl rfl ?_
  refine cd_seq ?_
  refine cd_region ?_
  refine st_val (ro_assign (v := .int _ _) rfl) ?_
  refine st_nil ?_
  refine nx_then ?_
  refine cd_seq ?_
  refine cd_seq ?_
  refine cd_region ?_
  refine st_val (ro_move (v := .int _ _) rfl) ?_
  refine st_val (ro_eql rfl rfl) ?_
  refine st_nil ?_
  refine nx_then ?_
  refine cd_cond rfl (fun Q1 => ?_) (fun Q1 => ?_)
  · (try first | replace Q1 := bn_t Q1 | replace Q1 := bn_f Q1)
    (try first | replace Q1 := bx_t Q1 | replace Q1 := bx_f Q1 | replace Q1 := be_t Q1 | replace Q1 := be_f Q1 | replace Q1 := of_decide_eq_true Q1 | replace Q1 := of_decide_eq_false Q1)
    first
     | (exfalso; first | omega | contradiction | (cases Q1; done))
     | skip
       refine cd_seq ?_
       refine cd_region ?_
       refine st_val (ro_assign (v := .int _ _) rfl) ?_
       refine st_nil ?_
       refine nx_then ?_
       refine cd_ret ?_
       refine rt_then ?_
       refine res1 (v := .int _ _) rfl rfl ?_
       exact ⟨rfl, rfl⟩
  · (try first | replace Q1 := bn_t Q1 | replace Q1 := bn_f Q1)
    (try first | replace Q1 := bx_t Q1 | replace Q1 := bx_f Q1 | replace Q1 := be_t Q1 | replace Q1 := be_f Q1 | replace Q1 := of_decide_eq_true Q1 | replace Q1 := of_decide_eq_false Q1)
    first
     | (exfalso; first | omega | contradiction | (cases Q1; done))
     | skip
       refine cd_skip ?_
       refine nx_then ?_
       refine cd_seq ?_
       refine cd_region ?_
       refine st_val (ro_move (v := .int _ _) rfl) ?_
       refine st_val (ro_move (v := .int _ _) rfl) ?_
       refine st_val (ro_eq (v' := .int .u64 ((2 ^ 64 - x : Nat) : Int)) (ro_neg rfl) (by refine int_eq ?_; rw [IntKind.wrap_u64]; omega)) ?_
       refine st_val (ro_andN rfl rfl (by exact ⟨hx, by omega⟩)) ?_
       refine st_spell (t := 8) (v := .int _ _) (v' := .int .u64 ((2 ^ p : Nat) : Int)) rfl (by rw [low_alone hl hx]) ?_
       refine st_val (ro_mulU (b := 285870213051353865) rfl rfl) ?_
       refine st_val (ro_shrN (b := 58) rfl rfl (by decide)) ?_
       refine st_spell (t := 10) (v := .int _ _) (v' := .int .u64 ((tzI p : Nat) : Int)) rfl (by rfl) ?_
       refine st_val (ro_eq (v' := .pointer (some ⟨0, tzI p, none⟩)) (ro_indexAddrA BitsSelect_a79 rfl rfl (by omega)) (by rw [Int.toNat_natCast, Nat.zero_add, Nat.mul_one])) ?_
       refine st_val (ro_load BitsSelect_g5 rfl (by exact hT (tzI p) hh)) ?_
       refine st_val (ro_convI BitsSelect_s5 BitsSelect_i3 rfl (by rw [ht]; omega)) ?_
       refine st_spell (t := 13) (v := .int _ _) (v' := .int .i64 (p : Nat)) rfl (by rw [ht]) ?_
       refine st_val (ro_assign (v := .int _ _) rfl) ?_
       refine st_nil ?_
       refine nx_then ?_
       refine cd_ret ?_
       refine res1 (v := .int _ _) rfl rfl ?_
       exact ⟨rfl, rfl⟩
set_option maxRecDepth 100000 in
set_option maxHeartbeats 400000 in
theorem nth_rt (x k : Nat) (w : World) (hx : x < 2 ^ 64) (hk : k < pop x 64) (hT : TZ w) :
    Rt Tryd.prog 47 [.int .u64 (x : Nat), .int .i64 (k : Nat)] w (fun v w' => ∃ p, p < 64 ∧ x.testBit p = true ∧ cntB x.testBit p = k ∧ v = .int .i64 (p : Nat) ∧ w = w') := by
  have hk64 := pop_le x 64
  refine enter (n := 15) Tryd.func47 rfl rfl rfl ?_
  refine cd_seq ?_
  refine cd_region ?_
  refine st_val (ro_assign (v := .int _ _) rfl) ?_
  refine st_nil ?_
  refine nx_then ?_
  refine cd_seq ?_
  refine cd_seq ?_
  refine cd_region ?_
  refine st_val (ro_move (v := .int _ _) rfl) ?_
  refine st_val (ro_move (v := .int _ _) rfl) ?_
  refine st_nil ?_
  refine nx_then ?_
  refine cd_block ?_
  refine cd_loop (G := Nat × Nat) [7, 8, 9, 10, 11, 12] (fun (y, j) => [(0, .int .u64 (y : Nat)), (6, .int .i64 (j : Nat))]) (fun (y, j) w' => j ≤ k ∧ Struck x y j ∧ w = w') (fun (_, j) => k - j) ((x, 0)) ⟨rfl, rfl, trivial⟩ ?_ ?_
  · exact ⟨Nat.zero_le _, Struck.zero hx, rfl⟩
  rintro ⟨y, j⟩ ρ1 w1 ⟨hj, hS, rfl⟩
  refine cd_seq ?_
  refine cd_region ?_
  refine st_val (ro_lss rfl rfl) ?_
  refine st_nil ?_
  refine nx_then ?_
  refine cd_seq ?_
  refine cd_cond rfl (fun Q2 => ?_) (fun Q2 => ?_)
  · (try first | replace Q2 := bn_t Q2 | replace Q2 := bn_f Q2)
    (try first | replace Q2 := bx_t Q2 | replace Q2 := bx_f Q2 | replace Q2 := be_t Q2 | replace Q2 := be_f Q2 | replace Q2 := of_decide_eq_true Q2 | replace Q2 := of_decide_eq_false Q2)
    obtain ⟨pj, h1, h2, h3⟩ := exists_nth x.testBit j 64 (show j < pop x 64 by omega)
    have hy0 := low_pos (hS.low h1 h2 h3)
    first
     | (exfalso; first | omega | contradiction | (cases Q2; done))
     | skip
       refine cd_skip ?_
       refine nx_then ?_
       refine cd_seq ?_
       refine cd_block ?_
       refine cd_region ?_
       refine st_val (ro_move (v := .int _ _) rfl) ?_
       refine st_val (ro_move (v := .int _ _) rfl) ?_
       refine st_val (ro_subU (b := 1) rfl rfl ⟨hy0, hS.lt⟩) ?_
       refine st_val (ro_andN rfl rfl (by exact ⟨hS.lt, Nat.lt_of_le_of_lt (Nat.sub_le _ _) hS.lt⟩)) ?_
       refine st_val (ro_assign (v := .int _ _) rfl) ?_
       refine st_nil ?_
       refine nx_block ?_
       refine nx_then ?_
       refine cd_region ?_
       refine st_val (ro_addN (b := 1) rfl rfl (by omega)) ?_
       refine st_val (ro_move (v := .int _ _) rfl) ?_
       refine st_nil ?_
       refine nx_cut ((y &&& (y - 1), j + 1)) ⟨(by first | rfl | (refine int_eq ?_; omega)), (by first | rfl | (refine int_eq ?_; omega)), trivial⟩ (by (iterate 16 refine agr_cons rfl ?_); exact agr_rfl) ⟨?_, ?_⟩
       · exact ⟨by omega, hS.next h1 h2 h3, rfl⟩
       · show k - (j + 1) < k - j; omega
  · (try first | replace Q2 := bn_t Q2 | replace Q2 := bn_f Q2)
    (try first | replace Q2 := bx_t Q2 | replace Q2 := bx_f Q2 | replace Q2 := be_t Q2 | replace Q2 := be_f Q2 | replace Q2 := of_decide_eq_true Q2 | replace Q2 := of_decide_eq_false Q2)
    obtain rfl : j = k := by omega
    obtain ⟨pj, h1, h2, h3⟩ := exists_nth x.testBit j 64 hk
    first
     | (exfalso; first | omega | contradiction | (cases Q2; done))
     | skip
       refine cd_exit ?_
       refine ex_then ?_
       refine ex_then ?_
       refine ex_block ?_
       refine nx_then ?_
       refine cd_seq ?_
       refine cd_region ?_
       refine st_val (ro_move (v := .int _ _) rfl) ?_
       refine st_call BitsSelect_k48 (tz_rt y pj _ hS.lt h1 (hS.low h1 h2 h3) hT) ?_
       rintro v14 w3 ⟨rfl, rfl⟩
       refine st_val (ro_assign (v := .int _ _) rfl) ?_
       refine st_nil ?_
       refine nx_then ?_
       refine cd_ret ?_
       refine res1 (v := .int _ _) rfl rfl ?_
       exact ⟨pj, h1, h2, h3, rfl, rfl⟩
set_option maxRecDepth 100000 in
set_option maxHeartbeats 400000 in
theorem search_rt (n : Nat) (g : FuncId) (caps : List Value) (p : Nat → Bool) (w : World) (hn : n ≤ 1000000000000) (hcal : callable Tryd.prog g = true) (hp : ∀ w' h, From w w' → h < n → Rt Tryd.prog g ([.int .i64 (h : Nat)] ++ caps) w' fun v w'' => v = .bool (p h) ∧ From w' w'') (hm : ∀ i j, i ≤ j → p i = true → p j = true) :
    Rt Tryd.prog 45 [.int .i64 (n : Nat), .func (.func g) #[] caps.toArray] w (fun v w' => ∃ r : Nat, v = .int .i64 (r : Nat) ∧ r ≤ n ∧ (∀ x, x < r → p x = false) ∧ (∀ x, r ≤ x → x < n → p x = true) ∧ From w w') := by
  refine enter (n := 26) Tryd.func45 rfl rfl rfl ?_
  refine cd_seq ?_
  refine cd_region ?_
  refine st_val (ro_assign (v := .int _ _) rfl) ?_
  refine st_nil ?_
  refine nx_then ?_
  refine cd_seq ?_
  refine cd_region ?_
  refine st_val (ro_move (v := .int _ _) rfl) ?_
  refine st_val (ro_assign (v := .int _ _) rfl) ?_
  refine st_val (ro_assign (v := .int _ _) rfl) ?_
  refine st_nil ?_
  refine nx_then ?_
  refine cd_seq ?_
  refine cd_block ?_
  refine cd_loop (G := Nat × Nat) [7, 9, 10, 11, 12, 13, 14, 15, 16, 17, 18, 19, 20, 21, 22, 23, 24] (fun (i, j) => [(5, .int .i64 (i : Nat)), (6, .int .i64 (j : Nat))]) (fun (i, j) w' => i ≤ j ∧ j ≤ n ∧ (∀ x, x < i → p x = false) ∧ (∀ x, j ≤ x → x < n → p x = true) ∧ From w w') (fun (i, j) => j - i) ((0, n)) ⟨rfl, rfl, trivial⟩ ?_ ?_
  · exact ⟨Nat.zero_le _, Nat.le_refl _, fun x h => absurd h (by omega), fun x h1 h2 => absurd h1 (by omega), From.rfl_⟩
  rintro ⟨i, j⟩ ρ1 w1 ⟨hij, hjn, hlo, hhi, hB⟩
  refine cd_seq ?_
  refine cd_seq ?_
  refine cd_region ?_
  refine st_val (ro_move (v := .int _ _) rfl) ?_
  refine st_val (ro_move (v := .int _ _) rfl) ?_
  refine st_val (ro_lss rfl rfl) ?_
  refine st_nil ?_
  refine nx_then ?_
  refine cd_cond rfl (fun Q2 => ?_) (fun Q2 => ?_)
  · (try first | replace Q2 := bn_t Q2 | replace Q2 := bn_f Q2)
    (try first | replace Q2 := bx_t Q2 | replace Q2 := bx_f Q2 | replace Q2 := be_t Q2 | replace Q2 := be_f Q2 | replace Q2 := of_decide_eq_true Q2 | replace Q2 := of_decide_eq_false Q2)
    first
     | (exfalso; first | omega | contradiction | (cases Q2; done))
     | skip
       refine cd_skip ?_
       refine nx_then ?_
       refine cd_block ?_
       refine cd_seq ?_
       refine cd_region ?_
       refine st_val (ro_move (v := .int _ _) rfl) ?_
       refine st_val (ro_move (v := .int _ _) rfl) ?_
       refine st_val (ro_addN rfl rfl (by omega)) ?_
       obtain ⟨h, hh⟩ : ∃ h, h = (i + j) / 2 ^ 1 := ⟨_, rfl⟩
       refine st_val (ro_conv64 BitsSelect_s3 BitsSelect_i54 rfl (by omega)) ?_
       refine st_val (ro_shrN (b := 1) rfl rfl (by decide)) ?_
       refine st_val (ro_convI BitsSelect_s54 BitsSelect_i3 rfl (by omega)) ?_
       refine st_spell (t := 17) (v := .int _ _) (v' := .int .i64 (h : Nat)) rfl (by rw [hh]) ?_
       refine st_val (ro_assign (v := .int _ _) rfl) ?_
       refine st_nil ?_
       refine nx_then ?_
       refine cd_seq ?_
       refine cd_region ?_
       refine st_val (ro_move (v := .func _ _ _) rfl) ?_
       refine st_val (ro_move (v := .int _ _) rfl) ?_
       refine st_callF (caps := caps) rfl hcal (hp _ h hB (by omega)) ?_
       rintro v20 w3 ⟨rfl, E20⟩
       refine st_val (ro_not rfl) ?_
       refine st_nil ?_
       refine nx_then ?_
       refine cd_cond rfl (fun Q4 => ?_) (fun Q4 => ?_)
       · (try first | replace Q4 := bn_t Q4 | replace Q4 := bn_f Q4)
         (try first | replace Q4 := bx_t Q4 | replace Q4 := bx_f Q4 | replace Q4 := be_t Q4 | replace Q4 := be_f Q4 | replace Q4 := of_decide_eq_true Q4 | replace Q4 := of_decide_eq_false Q4)
         first
          | (exfalso; first | omega | contradiction | (cases Q4; done))
          | skip
            refine cd_region ?_
            refine st_val (ro_move (v := .int _ _) rfl) ?_
            refine st_val (ro_addN (b := 1) rfl rfl (by omega)) ?_
            refine st_val (ro_assign (v := .int _ _) rfl) ?_
            refine st_nil ?_
            refine nx_block ?_
            refine nx_cut ((h + 1, j)) ⟨(by first | rfl | (refine int_eq ?_; omega)), (by first | rfl | (refine int_eq ?_; omega)), trivial⟩ (by (iterate 37 refine agr_cons rfl ?_); exact agr_rfl) ⟨?_, ?_⟩
            · refine ⟨by omega, hjn, fun x hx => ?_, hhi, (hB.next E20)⟩
              rcases Nat.lt_or_ge x i with a | a
              · exact hlo x a
              · cases hb : p x with
                | false => rfl
                | true =>
                  have := hm x h (by omega) hb
                  simp_all
            · show j - (h + 1) < j - i; omega
       · (try first | replace Q4 := bn_t Q4 | replace Q4 := bn_f Q4)
         (try first | replace Q4 := bx_t Q4 | replace Q4 := bx_f Q4 | replace Q4 := be_t Q4 | replace Q4 := be_f Q4 | replace Q4 := of_decide_eq_true Q4 | replace Q4 := of_decide_eq_false Q4)
         first
          | (exfalso; first | omega | contradiction | (cases Q4; done))
          | skip
            refine cd_region ?_
            refine st_val (ro_move (v := .int _ _) rfl) ?_
            refine st_val (ro_assign (v := .int _ _) rfl) ?_
            refine st_nil ?_
            refine nx_block ?_
            refine nx_cut ((i, h)) ⟨(by first | rfl | (refine int_eq ?_; omega)), (by first | rfl | (refine int_eq ?_; omega)), trivial⟩ (by (iterate 36 refine agr_cons rfl ?_); exact agr_rfl) ⟨?_, ?_⟩
            · refine ⟨by omega, by omega, hlo, fun x h1 h2 => hm h x h1 ?_, (hB.next E20)⟩
              assumption
            · show h - i < j - i; omega
  · (try first | replace Q2 := bn_t Q2 | replace Q2 := bn_f Q2)
    (try first | replace Q2 := bx_t Q2 | replace Q2 := bx_f Q2 | replace Q2 := be_t Q2 | replace Q2 := be_f Q2 | replace Q2 := of_decide_eq_true Q2 | replace Q2 := of_decide_eq_false Q2)
    first
     | (exfalso; first | omega | contradiction | (cases Q2; done))
     | skip
       refine cd_exit ?_
       refine ex_then ?_
       refine ex_then ?_
       refine ex_block ?_
       refine nx_then ?_
       refine cd_seq ?_
       refine cd_region ?_
       refine st_val (ro_move (v := .int _ _) rfl) ?_
       refine st_val (ro_assign (v := .int _ _) rfl) ?_
       refine st_nil ?_
       refine nx_then ?_
       refine cd_ret ?_
       refine res1 (v := .int _ _) rfl rfl ?_
       obtain rfl : i = j := by omega
       exact ⟨i, rfl, hjn, hlo, hhi, hB⟩
set_option maxRecDepth 100000 in
set_option maxHeartbeats 400000 in
theorem ahead_rt (base b q j : Nat) (l : List Bool) (w : World) (hv : Vec w base b l) (hq : w.cell? ⟨q, 0, none⟩ = some (.pointer (some ⟨b, 0, none⟩))) (hj : j < ((l.length + 63) / 64 + 7) / 8) :
    Rt Tryd.prog 40 [.int .i64 (j : Nat), .pointer (some ⟨q, 0, none⟩)] w (fun v w' => v = .int .i64 (cntB (fl l false) (512 * j) : Nat) ∧ w = w') := by
  obtain ⟨gw, Aa, ca, ws, rs, hb0, hg0, hV, hgw, ho, hW, hrl, hrs, hl⟩ := hv
  have hlen := hW.len
  obtain ⟨ga, rfl⟩ := own_some ho (by omega)
  refine enter (n := 12) Tryd.func40 rfl rfl rfl ?_
  refine cd_seq ?_
  refine cd_region ?_
  refine st_val (ro_assign (v := .int _ _) rfl) ?_
  refine st_nil ?_
  refine nx_then ?_
  refine cd_seq ?_
  refine cd_region ?_
  refine st_val (ro_load BitsSelect_g47 rfl (by exact hq)) ?_
  refine st_val (ro_nilCheck rfl) ?_
  refine st_val (ro_fieldAddr BitsSelect_f73_1 rfl) ?_
  refine st_val (ro_load BitsSelect_g71 rfl (by exact hV.rd 2 rfl)) ?_
  refine st_val (ro_move (v := .int _ _) rfl) ?_
  refine st_val (ro_indexAddr0 BitsSelect_e71 rfl rfl (by omega)) ?_
  refine st_val (ro_load BitsSelect_g21 rfl (by exact own_cell ho j (by omega))) ?_
  refine st_val (ro_convI BitsSelect_s21 BitsSelect_i3 rfl (by rw [hrs]; have := rk_le l (512 * j); omega)) ?_
  refine st_spell (t := 11) (v := .int _ _) (v' := .int .i64 ((cntB (fl l false) (512 * j) : Nat) : Int)) rfl (by rw [hrs, fl_false]) ?_
  refine st_val (ro_assign (v := .int _ _) rfl) ?_
  refine st_nil ?_
  refine nx_then ?_
  refine cd_ret ?_
  refine res1 (v := .int _ _) rfl rfl ?_
  exact ⟨rfl, rfl⟩
set_option maxRecDepth 100000 in
set_option maxHeartbeats 400000 in
theorem ahead0_rt (base b q j : Nat) (l : List Bool) (w : World) (hv : Vec w base b l) (hq : w.cell? ⟨q, 0, none⟩ = some (.pointer (some ⟨b, 0, none⟩))) (hj : j < ((l.length + 63) / 64 + 7) / 8) :
    Rt Tryd.prog 41 [.int .i64 (j : Nat), .pointer (some ⟨q, 0, none⟩)] w (fun v w' => v = .int .i64 (cntB (fl l true) (512 * j) : Nat) ∧ w = w') := by
  obtain ⟨gw, Aa, ca, ws, rs, hb0, hg0, hV, hgw, ho, hW, hrl, hrs, hl⟩ := hv
  have hlen := hW.len
  obtain ⟨ga, rfl⟩ := own_some ho (by omega)
  have hrk := rk_le l (512 * j)
  refine enter (n := 15) Tryd.func41 rfl rfl rfl ?_
  refine cd_seq ?_
  refine cd_region ?_
  refine st_val (ro_assign (v := .int _ _) rfl) ?_
  refine st_nil ?_
  refine nx_then ?_
  refine cd_seq ?_
  refine cd_region ?_
  refine st_val (ro_move (v := .int _ _) rfl) ?_
  refine st_val (ro_mulN (b := 512) rfl rfl (by omega)) ?_
  refine st_val (ro_load BitsSelect_g47 rfl (by exact hq)) ?_
  refine st_val (ro_nilCheck rfl) ?_
  refine st_val (ro_fieldAddr BitsSelect_f73_1 rfl) ?_
  refine st_val (ro_load BitsSelect_g71 rfl (by exact hV.rd 2 rfl)) ?_
  refine st_val (ro_move (v := .int _ _) rfl) ?_
  refine st_val (ro_indexAddr0 BitsSelect_e71 rfl rfl (by omega)) ?_
  refine st_val (ro_load BitsSelect_g21 rfl (by exact own_cell ho j (by omega))) ?_
  refine st_val (ro_convI BitsSelect_s21 BitsSelect_i3 rfl (by rw [hrs]; omega)) ?_
  refine st_spell (t := 13) (v := .int _ _) (v' := .int .i64 ((rk l (512 * j) : Nat) : Int)) rfl (by rw [hrs]) ?_
  refine st_val (ro_subN rfl rfl (by omega)) ?_
  refine st_spell (t := 14) (v := .int _ _) (v' := .int .i64 ((cntB (fl l true) (512 * j) : Nat) : Int)) rfl (by rw [fl_true, Nat.mul_comm j 512]) ?_
  refine st_val (ro_assign (v := .int _ _) rfl) ?_
  refine st_nil ?_
  refine nx_then ?_
  refine cd_ret ?_
  refine res1 (v := .int _ _) rfl rfl ?_
  exact ⟨rfl, rfl⟩
set_option maxRecDepth 100000 in
set_option maxHeartbeats 400000 in
theorem find1_rt (g : FuncId) (caps : List Value) (ah : Nat → Nat) (nb p7 p5 k j : Nat) (w : World) (h7 : w.cell? ⟨p7, 0, none⟩ = some (.func (.func g) #[] caps.toArray)) (h5 : w.cell? ⟨p5, 0, none⟩ = some (.int .i64 (k : Nat))) (hcal : callable Tryd.prog g = true) (hah : ∀ w' j, From w w' → j < nb → Rt Tryd.prog g ([.int .i64 (j : Nat)] ++ caps) w' fun v w'' => v = .int .i64 (ah j : Nat) ∧ From w' w'') (hj : j < nb) :
    Rt Tryd.prog 46 [.int .i64 (j : Nat), .pointer (some ⟨p7, 0, none⟩), .pointer (some ⟨p5, 0, none⟩)] w (fun v w' => v = .bool (decide (k < ah j)) ∧ From w w') := by
  refine enter (n := 10) Tryd.func46 rfl rfl rfl ?_
  refine cd_seq ?_
  refine cd_region ?_
  refine st_val (ro_assign (v := .bool _) rfl) ?_
  refine st_nil ?_
  refine nx_then ?_
  refine cd_seq ?_
  apply cd_drawn 6 [(5, eqp _), (6, eqp _), (7, eqp _), (8, eqp _), (9, eqp _), (4, eqp _)] (by kernel_rfl) (by kernel_rfl) ⟨eqp_mono _, eqp_mono _, eqp_mono _, eqp_mono _, eqp_mono _, eqp_mono _, trivial⟩
  case hop =>
   refine ⟨?_, ?_⟩
   · intro w2 D2
     show OpOK _ _ _ _ _ _ _
     exact ok_pure (ro_load BitsSelect_g46 rfl (by exact cellF (From.rfl_.next D2) h7)) rfl
   refine ⟨?_, ?_⟩
   · intro w3 D3
     show OpOK _ _ _ _ _ _ _
     exact ok_pure (ro_move (v := .int _ _) rfl) rfl
   refine ⟨?_, ?_⟩
   · intro w4 D4
     rintro _ rfl _ rfl
     show OpOK _ _ _ _ _ _ _
     exact ok_callF (caps := caps) rfl hcal ((hah _ j (From.rfl_.next D4) hj).mono fun v w2 h => ⟨h.2, h.1⟩)
   refine ⟨?_, ?_⟩
   · intro w5 D5
     show OpOK _ _ _ _ _ _ _
     exact ok_pure (ro_load BitsSelect_g3 rfl (by exact cellF (From.rfl_.next D5) h5)) rfl
   refine ⟨?_, ?_⟩
   · intro w6 D6
     rintro _ rfl _ rfl
     show OpOK _ _ _ _ _ _ _
     exact ok_pure (ro_gtr rfl rfl) rfl
   refine ⟨?_, ?_⟩
   · intro w7 D7
     rintro _ rfl
     show OpOK _ _ _ _ _ _ _
     exact ok_pure (ro_assign (v := .bool _) rfl) rfl
   exact trivial
  case hend =>
   intro w8 D8
   rintro _ rfl _ rfl _ rfl _ rfl _ rfl _ rfl
   show St _ _ _ _ _ _ _
   refine st_nil ?_
   refine nx_then ?_
   refine cd_ret ?_
   refine res1 (v := .bool _) rfl rfl ?_
   exact ⟨congrArg Value.bool (decide_eq_decide.2 (by omega)), (From.rfl_.next D8)⟩
end Go.Proofs.YtmiclfhpenjjfaaDoor
