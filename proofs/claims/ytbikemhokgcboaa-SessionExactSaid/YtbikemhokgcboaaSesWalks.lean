/- session: within, valid, find; the reference: id, Num, MayReply, Find. -/
import Derived.Test.YtbikemhokgcboaaFast10
namespace Go.Proofs.Ytbikemhokgcboaa
open Go.RowKit
open Go.ChangeShapes Go.WideShapes Go.ChangeAt
theorem SesWalks_f31_0 : fieldQ Try.prog 31 0 = some 0 := by kernel_rfl
theorem SesWalks_g28 : aggQ Try.prog 28 = some false := by kernel_rfl
theorem SesWalks_f31_1 : fieldQ Try.prog 31 1 = some 1 := by kernel_rfl
theorem SesWalks_g3 : aggQ Try.prog 3 = some false := by kernel_rfl
theorem SesWalks_k33 : callable Try.prog 33 = true := by kernel_rfl
theorem SesWalks_f31_2 : fieldQ Try.prog 31 2 = some 2 := by kernel_rfl
theorem SesWalks_g29 : aggQ Try.prog 29 = some false := by kernel_rfl
theorem SesWalks_l29 : (elemQ Try.prog 29).isSome = true := by kernel_rfl
theorem SesWalks_l55 : (elemQ Try.prog 55).isSome = true := by kernel_rfl
theorem SesWalks_e55 : elemQ Try.prog 55 = some (3, 1) := by kernel_rfl
theorem SesWalks_q55 : litQ Try.prog 55 = some (3, 1, 8, (.int .i64 0)) := by kernel_rfl
theorem SesWalks_k37 : callable Try.prog 37 = true := by kernel_rfl
structure Ses where
  c : Int
  s : Int
  e : Int
  n : Int
  H : Option Addr
  hl : Nat
  hc : Nat
  u : Int
def sesV (x : Ses) : List Value := [.int .i64 x.c, .int .i64 x.s, .int .i64 x.e, .int .i64 x.n, .slice x.H x.hl x.hc, .int .i64 x.u]
def RowS (w : World) (A : Option Addr) (L : List Ses) : Prop := 0 < L.length → ∃ b o, A = some ⟨b, o, none⟩ ∧ ∀ i (h : i < L.length), w.rangeAt b (o + i * 6) (sesV L[i])
theorem RowS.from_ {w w' : World} {A : Option Addr} {L : List Ses} (h : RowS w A L) (hF : From w w') : RowS w' A L := fun h0 =>
  let ⟨b, o, hA, hc⟩ := h h0
  ⟨b, o, hA, fun i hi => rangeF hF (hc i hi)⟩
def inE (lo x : Int) : Bool := decide (lo ≤ x ∧ x < 1099511627776)
def vR (e n : Int) (hl : Nat) : Bool := decide ((0 ≤ e ∧ e ≤ 10) ∧ (0 ≤ n ∧ n < 1099511627776) ∧ hl = 0)
def vS (x : Ses) : Bool := decide ((1 ≤ x.c ∧ x.c < 1099511627776) ∧ (0 ≤ x.s ∧ x.s < 1099511627776) ∧ (0 ≤ x.u ∧ x.u < 1099511627776)) && vR x.e x.n x.hl
def ValidL (L : List Ses) : Prop := L.length ≤ 8 ∧ ∀ i (h : i < L.length), vS L[i] = true ∧ (0 < i → (L[i - 1]'(by omega)).c < L[i].c)
theorem beq_dec (a b : Int) : (a == b) = decide (a = b) := rfl
theorem valid_rise {L : List Ses} (h : ValidL L) : ∀ i j (hi : i < L.length) (hj : j < L.length), i < j → L[i].c < L[j].c := by
  intro i j hi hj hij
  induction j with
  | zero => omega
  | succ j ih =>
    have h1 := (h.2 (j + 1) hj).2 (by omega)
    simp only [Nat.add_sub_cancel] at h1
    rcases Nat.lt_or_ge i j with a | a
    · have := ih (by omega) a
      omega
    · obtain rfl : i = j := by omega
      exact h1
def cmpV (x y : Int) : Int := if x < y then -1 else if y < x then 1 else 0
set_option maxRecDepth 100000 in
set_option maxHeartbeats 400000 in
theorem num_any (e : Int) (w : World) :
    Rt Try.prog 12 [.int .i64 e] w (fun v w' => v = .int .i64 e ∧ w = w') := by
  refine enter (n := 4) Try.func12 rfl rfl rfl ?_
  refine cd_seq ?_
  refine cd_region ?_
  refine st_val (ro_assign (v := .int _ _) rfl) ?_
  refine st_nil ?_
  refine nx_then ?_
  refine cd_seq ?_
  refine cd_region ?_
  refine st_val (ro_move (v := .int _ _) rfl) ?_
  refine st_val (ro_assign (v := .int _ _) rfl) ?_
  refine st_nil ?_
  refine nx_then ?_
  refine cd_ret ?_
  refine res1 (v := .int _ _) rfl rfl ?_
  exact ⟨rfl, rfl⟩
set_option maxRecDepth 100000 in
set_option maxHeartbeats 400000 in
theorem numB_rt (n : Int) (w : World) :
    Rt Try.prog 33 [.int .i64 n] w (fun v w' => v = .bool (inE 0 n) ∧ w = w') := by
  refine enter (n := 9) Try.func33 rfl rfl rfl ?_
  refine cd_seq ?_
  refine cd_region ?_
  refine st_val (ro_assign (v := .bool _) rfl) ?_
  refine st_nil ?_
  refine nx_then ?_
  refine cd_seq ?_
  refine cd_region ?_
  refine st_val (ro_move (v := .int _ _) rfl) ?_
  refine st_val (ro_geq rfl rfl) ?_
  refine st_val (ro_move (v := .bool _) rfl) ?_
  refine st_split (t := 5) rfl (fun Q1 => ?_) (fun Q1 => ?_)
  · (try first | replace Q1 := bn_t Q1 | replace Q1 := bn_f Q1)
    (try first | replace Q1 := bx_t Q1 | replace Q1 := bx_f Q1 | replace Q1 := be_t Q1 | replace Q1 := be_f Q1 | replace Q1 := of_decide_eq_true Q1 | replace Q1 := of_decide_eq_false Q1)
    first
     | (exfalso; first | omega | contradiction | (cases Q1; done))
     | skip
       refine st_unguard rfl ?_
       refine st_val (ro_move (v := .int _ _) rfl) ?_
       refine st_unguard rfl ?_
       refine st_val (ro_lss rfl rfl) ?_
       refine st_val (ro_pickT (v := .bool _) rfl rfl) ?_
       refine st_val (ro_assign (v := .bool _) rfl) ?_
       refine st_nil ?_
       refine nx_then ?_
       refine cd_ret ?_
       refine res1 (v := .bool _) rfl rfl ?_
       unfold inE
       refine ⟨?_, rfl⟩
       first
         | rw [decide_eq_false (by omega)]
         | exact congrArg Value.bool (decide_eq_decide.2 (by omega))
         | (rw [beq_dec]; exact congrArg Value.bool (decide_eq_decide.2 (by omega)))
  · (try first | replace Q1 := bn_t Q1 | replace Q1 := bn_f Q1)
    (try first | replace Q1 := bx_t Q1 | replace Q1 := bx_f Q1 | replace Q1 := be_t Q1 | replace Q1 := be_f Q1 | replace Q1 := of_decide_eq_true Q1 | replace Q1 := of_decide_eq_false Q1)
    first
     | (exfalso; first | omega | contradiction | (cases Q1; done))
     | skip
       refine st_gno rfl rfl ?_
       refine st_gno rfl rfl ?_
       refine st_val (ro_pickF (v := .bool _) rfl rfl) ?_
       refine st_val (ro_assign (v := .bool _) rfl) ?_
       refine st_nil ?_
       refine nx_then ?_
       refine cd_ret ?_
       refine res1 (v := .bool _) rfl rfl ?_
       unfold inE
       refine ⟨?_, rfl⟩
       first
         | rw [decide_eq_false (by omega)]
         | exact congrArg Value.bool (decide_eq_decide.2 (by omega))
         | (rw [beq_dec]; exact congrArg Value.bool (decide_eq_decide.2 (by omega)))
set_option maxRecDepth 100000 in
set_option maxHeartbeats 400000 in
theorem id_rt (n : Int) (w : World) :
    Rt Try.prog 32 [.int .i64 n] w (fun v w' => v = .bool (inE 1 n) ∧ w = w') := by
  refine enter (n := 9) Try.func32 rfl rfl rfl ?_
  refine cd_seq ?_
  refine cd_region ?_
  refine st_val (ro_assign (v := .bool _) rfl) ?_
  refine st_nil ?_
  refine nx_then ?_
  refine cd_seq ?_
  refine cd_region ?_
  refine st_val (ro_move (v := .int _ _) rfl) ?_
  refine st_val (ro_geq rfl rfl) ?_
  refine st_val (ro_move (v := .bool _) rfl) ?_
  refine st_split (t := 5) rfl (fun Q1 => ?_) (fun Q1 => ?_)
  · (try first | replace Q1 := bn_t Q1 | replace Q1 := bn_f Q1)
    (try first | replace Q1 := bx_t Q1 | replace Q1 := bx_f Q1 | replace Q1 := be_t Q1 | replace Q1 := be_f Q1 | replace Q1 := of_decide_eq_true Q1 | replace Q1 := of_decide_eq_false Q1)
    first
     | (exfalso; first | omega | contradiction | (cases Q1; done))
     | skip
       refine st_unguard rfl ?_
       refine st_val (ro_move (v := .int _ _) rfl) ?_
       refine st_unguard rfl ?_
       refine st_val (ro_lss rfl rfl) ?_
       refine st_val (ro_pickT (v := .bool _) rfl rfl) ?_
       refine st_val (ro_assign (v := .bool _) rfl) ?_
       refine st_nil ?_
       refine nx_then ?_
       refine cd_ret ?_
       refine res1 (v := .bool _) rfl rfl ?_
       unfold inE
       refine ⟨?_, rfl⟩
       first
         | rw [decide_eq_false (by omega)]
         | exact congrArg Value.bool (decide_eq_decide.2 (by omega))
         | (rw [beq_dec]; exact congrArg Value.bool (decide_eq_decide.2 (by omega)))
  · (try first | replace Q1 := bn_t Q1 | replace Q1 := bn_f Q1)
    (try first | replace Q1 := bx_t Q1 | replace Q1 := bx_f Q1 | replace Q1 := be_t Q1 | replace Q1 := be_f Q1 | replace Q1 := of_decide_eq_true Q1 | replace Q1 := of_decide_eq_false Q1)
    first
     | (exfalso; first | omega | contradiction | (cases Q1; done))
     | skip
       refine st_gno rfl rfl ?_
       refine st_gno rfl rfl ?_
       refine st_val (ro_pickF (v := .bool _) rfl rfl) ?_
       refine st_val (ro_assign (v := .bool _) rfl) ?_
       refine st_nil ?_
       refine nx_then ?_
       refine cd_ret ?_
       refine res1 (v := .bool _) rfl rfl ?_
       unfold inE
       refine ⟨?_, rfl⟩
       first
         | rw [decide_eq_false (by omega)]
         | exact congrArg Value.bool (decide_eq_decide.2 (by omega))
         | (rw [beq_dec]; exact congrArg Value.bool (decide_eq_decide.2 (by omega)))
set_option maxRecDepth 100000 in
set_option maxHeartbeats 400000 in
theorem mayReply_rt (e n : Int) (H : Option Addr) (hl hc : Nat) (w : World) :
    Rt Try.prog 34 [.agg #[.int .i64 e, .int .i64 n, .slice H hl hc]] w (fun v w' => v = .bool (vR e n hl) ∧ From w w') := by
  refine enter (n := 22) Try.func34 rfl rfl rfl ?_
  refine cd_seq ?_
  refine cd_region ?_
  refine st_box (v := .agg _) rfl ?_
  intro b1 w1 E1 hb1 hk1
  refine st_val (ro_assign (v := .bool _) rfl) ?_
  refine st_nil ?_
  refine nx_then ?_
  refine cd_seq ?_
  refine cd_region ?_
  refine st_val (ro_fieldAddr SesWalks_f31_0 rfl) ?_
  refine st_val (ro_load SesWalks_g28 rfl (by exact (hk1.from_ From.rfl_).rd 0 rfl)) ?_
  refine st_val (ro_geq rfl rfl) ?_
  refine st_val (ro_move (v := .bool _) rfl) ?_
  refine st_split (t := 6) rfl (fun Q2 => ?_) (fun Q2 => ?_)
  · (try first | replace Q2 := bn_t Q2 | replace Q2 := bn_f Q2)
    (try first | replace Q2 := bx_t Q2 | replace Q2 := bx_f Q2 | replace Q2 := be_t Q2 | replace Q2 := be_f Q2 | replace Q2 := of_decide_eq_true Q2 | replace Q2 := of_decide_eq_false Q2)
    first
     | (exfalso; first | omega | contradiction | (cases Q2; done))
     | skip
       refine st_unguard rfl ?_
       refine st_val (ro_fieldAddr SesWalks_f31_0 rfl) ?_
       refine st_unguard rfl ?_
       refine st_val (ro_load SesWalks_g28 rfl (by exact (hk1.from_ From.rfl_).rd 0 rfl)) ?_
       refine st_unguard rfl ?_
       refine st_val (ro_leq rfl rfl) ?_
       refine st_val (ro_pickT (v := .bool _) rfl rfl) ?_
       refine st_val (ro_move (v := .bool _) rfl) ?_
       refine st_split (t := 11) rfl (fun Q3 => ?_) (fun Q3 => ?_)
       · (try first | replace Q3 := bn_t Q3 | replace Q3 := bn_f Q3)
         (try first | replace Q3 := bx_t Q3 | replace Q3 := bx_f Q3 | replace Q3 := be_t Q3 | replace Q3 := be_f Q3 | replace Q3 := of_decide_eq_true Q3 | replace Q3 := of_decide_eq_false Q3)
         first
          | (exfalso; first | omega | contradiction | (cases Q3; done))
          | skip
            refine st_unguard rfl ?_
            refine st_val (ro_fieldAddr SesWalks_f31_1 rfl) ?_
            refine st_unguard rfl ?_
            refine st_val (ro_load SesWalks_g3 rfl (by exact (hk1.from_ From.rfl_).rd 1 rfl)) ?_
            refine st_unguard rfl ?_
            refine st_call SesWalks_k33 (numB_rt n _) ?_
            rintro v14 w4 ⟨rfl, rfl⟩
            refine st_val (ro_pickT (v := .bool _) rfl rfl) ?_
            refine st_val (ro_move (v := .bool _) rfl) ?_
            refine st_split (t := 16) rfl (fun Q5 => ?_) (fun Q5 => ?_)
            · (try first | replace Q5 := bn_t Q5 | replace Q5 := bn_f Q5)
              (try first | replace Q5 := bx_t Q5 | replace Q5 := bx_f Q5 | replace Q5 := be_t Q5 | replace Q5 := be_f Q5 | replace Q5 := of_decide_eq_true Q5 | replace Q5 := of_decide_eq_false Q5)
              (try unfold inE at Q5)
              (try replace Q5 := of_decide_eq_true Q5)
              (try replace Q5 := of_decide_eq_false Q5)
              first
               | (exfalso; first | omega | contradiction | (cases Q5; done))
               | skip
                 refine st_unguard rfl ?_
                 refine st_val (ro_fieldAddr SesWalks_f31_2 rfl) ?_
                 refine st_unguard rfl ?_
                 refine st_val (ro_load SesWalks_g29 rfl (by exact (hk1.from_ From.rfl_).rd 2 rfl)) ?_
                 refine st_unguard rfl ?_
                 refine st_val (ro_len SesWalks_l29 rfl) ?_
                 refine st_unguard rfl ?_
                 refine st_val (ro_eql rfl rfl) ?_
                 refine st_val (ro_pickT (v := .bool _) rfl rfl) ?_
                 refine st_val (ro_assign (v := .bool _) rfl) ?_
                 refine st_nil ?_
                 refine nx_then ?_
                 refine cd_ret ?_
                 refine res1 (v := .bool _) rfl rfl ?_
                 unfold vR
                 refine ⟨?_, (From.rfl_.next E1)⟩
                 first
                   | rw [decide_eq_false (by omega)]
                   | exact congrArg Value.bool (decide_eq_decide.2 (by omega))
                   | (rw [beq_dec]; exact congrArg Value.bool (decide_eq_decide.2 (by omega)))
            · (try first | replace Q5 := bn_t Q5 | replace Q5 := bn_f Q5)
              (try first | replace Q5 := bx_t Q5 | replace Q5 := bx_f Q5 | replace Q5 := be_t Q5 | replace Q5 := be_f Q5 | replace Q5 := of_decide_eq_true Q5 | replace Q5 := of_decide_eq_false Q5)
              (try unfold inE at Q5)
              (try replace Q5 := of_decide_eq_true Q5)
              (try replace Q5 := of_decide_eq_false Q5)
              first
               | (exfalso; first | omega | contradiction | (cases Q5; done))
               | skip
                 refine st_gno rfl rfl ?_
                 refine st_gno rfl rfl ?_
                 refine st_gno rfl rfl ?_
                 refine st_gno rfl rfl ?_
                 refine st_val (ro_pickF (v := .bool _) rfl rfl) ?_
                 refine st_val (ro_assign (v := .bool _) rfl) ?_
                 refine st_nil ?_
                 refine nx_then ?_
                 refine cd_ret ?_
                 refine res1 (v := .bool _) rfl rfl ?_
                 unfold vR
                 refine ⟨?_, (From.rfl_.next E1)⟩
                 first
                   | rw [decide_eq_false (by omega)]
                   | exact congrArg Value.bool (decide_eq_decide.2 (by omega))
                   | (rw [beq_dec]; exact congrArg Value.bool (decide_eq_decide.2 (by omega)))
       · (try first | replace Q3 := bn_t Q3 | replace Q3 := bn_f Q3)
         (try first | replace Q3 := bx_t Q3 | replace Q3 := bx_f Q3 | replace Q3 := be_t Q3 | replace Q3 := be_f Q3 | replace Q3 := of_decide_eq_true Q3 | replace Q3 := of_decide_eq_false Q3)
         first
          | (exfalso; first | omega | contradiction | (cases Q3; done))
          | skip
            refine st_gno rfl rfl ?_
            refine st_gno rfl rfl ?_
            refine st_gno rfl rfl ?_
            refine st_val (ro_pickF (v := .bool _) rfl rfl) ?_
            refine st_val (ro_move (v := .bool _) rfl) ?_
            refine st_gno rfl rfl ?_
            refine st_gno rfl rfl ?_
            refine st_gno rfl rfl ?_
            refine st_gno rfl rfl ?_
            refine st_val (ro_pickF (v := .bool _) rfl rfl) ?_
            refine st_val (ro_assign (v := .bool _) rfl) ?_
            refine st_nil ?_
            refine nx_then ?_
            refine cd_ret ?_
            refine res1 (v := .bool _) rfl rfl ?_
            unfold vR
            refine ⟨?_, (From.rfl_.next E1)⟩
            first
              | rw [decide_eq_false (by omega)]
              | exact congrArg Value.bool (decide_eq_decide.2 (by omega))
              | (rw [beq_dec]; exact congrArg Value.bool (decide_eq_decide.2 (by omega)))
  · (try first | replace Q2 := bn_t Q2 | replace Q2 := bn_f Q2)
    (try first | replace Q2 := bx_t Q2 | replace Q2 := bx_f Q2 | replace Q2 := be_t Q2 | replace Q2 := be_f Q2 | replace Q2 := of_decide_eq_true Q2 | replace Q2 := of_decide_eq_false Q2)
    first
     | (exfalso; first | omega | contradiction | (cases Q2; done))
     | skip
       refine st_gno rfl rfl ?_
       refine st_gno rfl rfl ?_
       refine st_gno rfl rfl ?_
       refine st_val (ro_pickF (v := .bool _) rfl rfl) ?_
       refine st_val (ro_move (v := .bool _) rfl) ?_
       refine st_gno rfl rfl ?_
       refine st_gno rfl rfl ?_
       refine st_gno rfl rfl ?_
       refine st_val (ro_pickF (v := .bool _) rfl rfl) ?_
       refine st_val (ro_move (v := .bool _) rfl) ?_
       refine st_gno rfl rfl ?_
       refine st_gno rfl rfl ?_
       refine st_gno rfl rfl ?_
       refine st_gno rfl rfl ?_
       refine st_val (ro_pickF (v := .bool _) rfl rfl) ?_
       refine st_val (ro_assign (v := .bool _) rfl) ?_
       refine st_nil ?_
       refine nx_then ?_
       refine cd_ret ?_
       refine res1 (v := .bool _) rfl rfl ?_
       unfold vR
       refine ⟨?_, (From.rfl_.next E1)⟩
       first
         | rw [decide_eq_false (by omega)]
         | exact congrArg Value.bool (decide_eq_decide.2 (by omega))
         | (rw [beq_dec]; exact congrArg Value.bool (decide_eq_decide.2 (by omega)))
set_option maxRecDepth 100000 in
set_option maxHeartbeats 400000 in
theorem within_rt (lo : Int) (A : Option Addr) (c : Nat) (L : List Int) (w : World) (hr : RowOf iV w A L) (hl : L.length ≤ 1000) :
    Rt Try.prog 37 [.int .i64 lo, .slice A L.length c] w (fun v w' => (∃ b, v = .bool b ∧ (b = true ↔ ∀ x ∈ L, lo ≤ x ∧ x < 1099511627776)) ∧ w = w') := by
  refine enter (n := 21) Try.func37 rfl rfl rfl ?_
  refine cd_seq ?_
  refine cd_region ?_
  refine st_val (ro_assign (v := .bool _) rfl) ?_
  refine st_nil ?_
  refine nx_then ?_
  refine cd_seq ?_
  refine cd_seq ?_
  refine cd_region ?_
  refine st_val (ro_move (v := .slice _ _ _) rfl) ?_
  refine st_val (ro_len SesWalks_l55 rfl) ?_
  refine st_val (ro_move (v := .int _ _) rfl) ?_
  refine st_nil ?_
  refine nx_then ?_
  refine cd_block ?_
  refine cd_loop (G := Nat) [4, 6, 10, 11, 12, 13, 14, 15, 16, 17, 18, 19, 20] (fun k => [(9, .int .i64 (k : Nat))]) (fun k w' => k ≤ L.length ∧ (∀ i (h : i < L.length), i < k → lo ≤ L[i] ∧ L[i] < 1099511627776) ∧ w = w') (fun k => L.length - k) (0) ⟨rfl, trivial⟩ ?_ ?_
  · exact ⟨Nat.zero_le _, fun i h h0 => absurd h0 (by omega), rfl⟩
  rintro k ρ1 w1 ⟨hk, hle, rfl⟩
  refine cd_seq ?_
  refine cd_region ?_
  refine st_val (ro_lss rfl rfl) ?_
  refine st_nil ?_
  refine nx_then ?_
  refine cd_seq ?_
  refine cd_cond rfl (fun Q2 => ?_) (fun Q2 => ?_)
  · (try first | replace Q2 := bn_t Q2 | replace Q2 := bn_f Q2)
    (try first | replace Q2 := bx_t Q2 | replace Q2 := bx_f Q2 | replace Q2 := be_t Q2 | replace Q2 := be_f Q2 | replace Q2 := of_decide_eq_true Q2 | replace Q2 := of_decide_eq_false Q2)
    obtain ⟨ba, oa, rfl, hca⟩ := hr (by omega)
    first
     | (exfalso; first | omega | contradiction | (cases Q2; done))
     | skip
       refine cd_skip ?_
       refine nx_then ?_
       refine cd_seq ?_
       refine cd_block ?_
       refine cd_seq ?_
       refine cd_region ?_
       refine st_val (ro_indexAddr1 SesWalks_e55 rfl rfl (by omega)) ?_
       refine st_val (ro_load SesWalks_g3 rfl (by exact hca k (by omega))) ?_
       refine st_val (ro_assign (v := .int _ _) rfl) ?_
       refine st_nil ?_
       refine nx_then ?_
       refine cd_seq ?_
       refine cd_region ?_
       refine st_val (ro_move (v := .int _ _) rfl) ?_
       refine st_val (ro_move (v := .int _ _) rfl) ?_
       refine st_val (ro_lss rfl rfl) ?_
       refine st_val (ro_move (v := .bool _) rfl) ?_
       refine st_split (t := 16) rfl (fun Q3 => ?_) (fun Q3 => ?_)
       · (try first | replace Q3 := bn_t Q3 | replace Q3 := bn_f Q3)
         (try first | replace Q3 := bx_t Q3 | replace Q3 := bx_f Q3 | replace Q3 := be_t Q3 | replace Q3 := be_f Q3 | replace Q3 := of_decide_eq_true Q3 | replace Q3 := of_decide_eq_false Q3)
         first
          | (exfalso; first | omega | contradiction | (cases Q3; done))
          | skip
            refine st_gno rfl rfl ?_
            refine st_gno rfl rfl ?_
            refine st_val (ro_pickT (v := .bool _) rfl rfl) ?_
            refine st_nil ?_
            refine nx_then ?_
            refine cd_condT rfl ?_
            refine cd_seq ?_
            refine cd_region ?_
            refine st_val (ro_assign (v := .bool _) rfl) ?_
            refine st_nil ?_
            refine nx_then ?_
            refine cd_ret ?_
            refine rt_block ?_
            refine rt_then ?_
            refine rt_then ?_
            refine rt_block ?_
            refine rt_then ?_
            refine res1 (v := .bool _) rfl rfl ?_
            exact ⟨⟨false, rfl, ⟨fun h => absurd h (by simp), fun h => (by have := h L[k] (List.getElem_mem _); omega)⟩⟩, rfl⟩
       · (try first | replace Q3 := bn_t Q3 | replace Q3 := bn_f Q3)
         (try first | replace Q3 := bx_t Q3 | replace Q3 := bx_f Q3 | replace Q3 := be_t Q3 | replace Q3 := be_f Q3 | replace Q3 := of_decide_eq_true Q3 | replace Q3 := of_decide_eq_false Q3)
         first
          | (exfalso; first | omega | contradiction | (cases Q3; done))
          | skip
            refine st_unguard rfl ?_
            refine st_val (ro_move (v := .int _ _) rfl) ?_
            refine st_unguard rfl ?_
            refine st_val (ro_geq rfl rfl) ?_
            refine st_val (ro_pickF (v := .bool _) rfl rfl) ?_
            refine st_nil ?_
            refine nx_then ?_
            refine cd_cond rfl (fun Q4 => ?_) (fun Q4 => ?_)
            · (try first | replace Q4 := bn_t Q4 | replace Q4 := bn_f Q4)
              (try first | replace Q4 := bx_t Q4 | replace Q4 := bx_f Q4 | replace Q4 := be_t Q4 | replace Q4 := be_f Q4 | replace Q4 := of_decide_eq_true Q4 | replace Q4 := of_decide_eq_false Q4)
              first
               | (exfalso; first | omega | contradiction | (cases Q4; done))
               | skip
                 refine cd_seq ?_
                 refine cd_region ?_
                 refine st_val (ro_assign (v := .bool _) rfl) ?_
                 refine st_nil ?_
                 refine nx_then ?_
                 refine cd_ret ?_
                 refine rt_block ?_
                 refine rt_then ?_
                 refine rt_then ?_
                 refine rt_block ?_
                 refine rt_then ?_
                 refine res1 (v := .bool _) rfl rfl ?_
                 exact ⟨⟨false, rfl, ⟨fun h => absurd h (by simp), fun h => (by have := h L[k] (List.getElem_mem _); omega)⟩⟩, rfl⟩
            · (try first | replace Q4 := bn_t Q4 | replace Q4 := bn_f Q4)
              (try first | replace Q4 := bx_t Q4 | replace Q4 := bx_f Q4 | replace Q4 := be_t Q4 | replace Q4 := be_f Q4 | replace Q4 := of_decide_eq_true Q4 | replace Q4 := of_decide_eq_false Q4)
              first
               | (exfalso; first | omega | contradiction | (cases Q4; done))
               | skip
                 refine cd_skip ?_
                 refine nx_block ?_
                 refine nx_then ?_
                 refine cd_region ?_
                 refine st_val (ro_addN (b := 1) rfl rfl (by omega)) ?_
                 refine st_val (ro_move (v := .int _ _) rfl) ?_
                 refine st_nil ?_
                 refine nx_cut (k + 1) ⟨(by first | rfl | (refine int_eq ?_; omega)), trivial⟩ (by (iterate 28 refine agr_cons rfl ?_); exact agr_rfl) ⟨?_, ?_⟩
                 · refine ⟨by omega, fun i h h0 => ?_, rfl⟩
                   rcases Nat.lt_or_ge i k with a | a
                   · exact hle i h a
                   · obtain rfl : i = k := by omega
                     omega
                 · omega
  · (try first | replace Q2 := bn_t Q2 | replace Q2 := bn_f Q2)
    (try first | replace Q2 := bx_t Q2 | replace Q2 := bx_f Q2 | replace Q2 := be_t Q2 | replace Q2 := be_f Q2 | replace Q2 := of_decide_eq_true Q2 | replace Q2 := of_decide_eq_false Q2)
    first
     | (exfalso; first | omega | contradiction | (cases Q2; done))
     | skip
       refine cd_exit ?_
       refine ex_then ?_
       refine ex_then ?_
       refine ex_block ?_
       refine nx_then ?_
       refine cd_seq ?_
       refine cd_region ?_
       refine st_val (ro_assign (v := .bool _) rfl) ?_
       refine st_nil ?_
       refine nx_then ?_
       refine cd_ret ?_
       refine res1 (v := .bool _) rfl rfl ?_
       exact ⟨⟨true, rfl, ⟨fun _ x hx => (by obtain ⟨i, hi, rfl⟩ := List.getElem_of_mem hx; exact hle i hi (by omega)), fun _ => rfl⟩⟩, rfl⟩
theorem within1 (lo x : Int) (b : Nat) (w : World) (hk : Blk w b 3 #[.int .i64 x]) : Rt Try.prog 37 [.int .i64 lo, .slice (some ⟨b, 0, none⟩) 1 1] w fun v w' => v = .bool (inE lo x) ∧ w = w' := by
  refine Rt.mono (within_rt lo (some ⟨b, 0, none⟩) 1 [x] w (RowOf.blk hk (fun i hi => by match i, hi with | 0, _ => rfl)) (by simp)) fun v w' h => ⟨?_, h.2⟩
  obtain ⟨⟨q, rfl, hq⟩, _⟩ := h
  congr 1
  rw [Bool.eq_iff_iff, hq]
  simp [inE]
theorem within2 (lo x y : Int) (b : Nat) (w : World) (hk : Blk w b 3 #[.int .i64 x, .int .i64 y]) : Rt Try.prog 37 [.int .i64 lo, .slice (some ⟨b, 0, none⟩) 2 2] w fun v w' => v = .bool (inE lo x && inE lo y) ∧ w = w' := by
  refine Rt.mono (within_rt lo (some ⟨b, 0, none⟩) 2 [x, y] w (RowOf.blk hk (fun i hi => by match i, hi with | 0, _ => rfl | 1, _ => rfl)) (by simp)) fun v w' h => ⟨?_, h.2⟩
  obtain ⟨⟨q, rfl, hq⟩, _⟩ := h
  congr 1
  rw [Bool.eq_iff_iff, hq]
  simp [inE]
set_option maxRecDepth 100000 in
set_option maxHeartbeats 400000 in
theorem validReply_rt (e n : Int) (H : Option Addr) (hl hc : Nat) (w : World) :
    Rt Try.prog 41 [.agg #[.int .i64 e, .int .i64 n, .slice H hl hc]] w (fun v w' => v = .bool (vR e n hl) ∧ From w w') := by
  refine enter (n := 23) Try.func41 rfl rfl rfl ?_
  refine cd_seq ?_
  refine cd_region ?_
  refine st_box (v := .agg _) rfl ?_
  intro b1 w1 E1 hb1 hk1
  refine st_val (ro_assign (v := .bool _) rfl) ?_
  refine st_nil ?_
  refine nx_then ?_
  refine cd_seq ?_
  refine cd_region ?_
  refine st_val (ro_fieldAddr SesWalks_f31_0 rfl) ?_
  refine st_val (ro_load SesWalks_g28 rfl (by exact (hk1.from_ From.rfl_).rd 0 rfl)) ?_
  refine st_val (ro_geq rfl rfl) ?_
  refine st_val (ro_move (v := .bool _) rfl) ?_
  refine st_split (t := 6) rfl (fun Q2 => ?_) (fun Q2 => ?_)
  · (try first | replace Q2 := bn_t Q2 | replace Q2 := bn_f Q2)
    (try first | replace Q2 := bx_t Q2 | replace Q2 := bx_f Q2 | replace Q2 := be_t Q2 | replace Q2 := be_f Q2 | replace Q2 := of_decide_eq_true Q2 | replace Q2 := of_decide_eq_false Q2)
    first
     | (exfalso; first | omega | contradiction | (cases Q2; done))
     | skip
       refine st_unguard rfl ?_
       refine st_val (ro_fieldAddr SesWalks_f31_0 rfl) ?_
       refine st_unguard rfl ?_
       refine st_val (ro_load SesWalks_g28 rfl (by exact (hk1.from_ From.rfl_).rd 0 rfl)) ?_
       refine st_unguard rfl ?_
       refine st_val (ro_leq rfl rfl) ?_
       refine st_val (ro_pickT (v := .bool _) rfl rfl) ?_
       refine st_val (ro_move (v := .bool _) rfl) ?_
       refine st_split (t := 11) rfl (fun Q3 => ?_) (fun Q3 => ?_)
       · (try first | replace Q3 := bn_t Q3 | replace Q3 := bn_f Q3)
         (try first | replace Q3 := bx_t Q3 | replace Q3 := bx_f Q3 | replace Q3 := be_t Q3 | replace Q3 := be_f Q3 | replace Q3 := of_decide_eq_true Q3 | replace Q3 := of_decide_eq_false Q3)
         first
          | (exfalso; first | omega | contradiction | (cases Q3; done))
          | skip
            refine st_unguard rfl ?_
            refine st_val (ro_fieldAddr SesWalks_f31_1 rfl) ?_
            refine st_unguard rfl ?_
            refine st_val (ro_load SesWalks_g3 rfl (by exact (hk1.from_ From.rfl_).rd 1 rfl)) ?_
            refine st_unguard rfl ?_
            refine st_lit1 (v := .int _ _) SesWalks_q55 rfl rfl rfl ?_
            intro b14 w4 E14 hb14 hk14
            refine st_unguard rfl ?_
            refine st_call SesWalks_k37 (within1 0 n b14 _ hk14) ?_
            rintro v15 w5 ⟨rfl, rfl⟩
            refine st_val (ro_pickT (v := .bool _) rfl rfl) ?_
            refine st_val (ro_move (v := .bool _) rfl) ?_
            refine st_split (t := 17) rfl (fun Q6 => ?_) (fun Q6 => ?_)
            · (try first | replace Q6 := bn_t Q6 | replace Q6 := bn_f Q6)
              (try first | replace Q6 := bx_t Q6 | replace Q6 := bx_f Q6 | replace Q6 := be_t Q6 | replace Q6 := be_f Q6 | replace Q6 := of_decide_eq_true Q6 | replace Q6 := of_decide_eq_false Q6)
              (try unfold inE at Q6)
              (try replace Q6 := of_decide_eq_true Q6)
              (try replace Q6 := of_decide_eq_false Q6)
              first
               | (exfalso; first | omega | contradiction | (cases Q6; done))
               | skip
                 refine st_unguard rfl ?_
                 refine st_val (ro_fieldAddr SesWalks_f31_2 rfl) ?_
                 refine st_unguard rfl ?_
                 refine st_val (ro_load SesWalks_g29 rfl (by exact (hk1.from_ (From.rfl_.next E14)).rd 2 rfl)) ?_
                 refine st_unguard rfl ?_
                 refine st_val (ro_len SesWalks_l29 rfl) ?_
                 refine st_unguard rfl ?_
                 refine st_val (ro_eql rfl rfl) ?_
                 refine st_val (ro_pickT (v := .bool _) rfl rfl) ?_
                 refine st_val (ro_assign (v := .bool _) rfl) ?_
                 refine st_nil ?_
                 refine nx_then ?_
                 refine cd_ret ?_
                 refine res1 (v := .bool _) rfl rfl ?_
                 unfold vR
                 refine ⟨?_, ((From.rfl_.next E1).next E14)⟩
                 first
                   | rw [decide_eq_false (by omega)]
                   | exact congrArg Value.bool (decide_eq_decide.2 (by omega))
                   | (rw [beq_dec]; exact congrArg Value.bool (decide_eq_decide.2 (by omega)))
            · (try first | replace Q6 := bn_t Q6 | replace Q6 := bn_f Q6)
              (try first | replace Q6 := bx_t Q6 | replace Q6 := bx_f Q6 | replace Q6 := be_t Q6 | replace Q6 := be_f Q6 | replace Q6 := of_decide_eq_true Q6 | replace Q6 := of_decide_eq_false Q6)
              (try unfold inE at Q6)
              (try replace Q6 := of_decide_eq_true Q6)
              (try replace Q6 := of_decide_eq_false Q6)
              first
               | (exfalso; first | omega | contradiction | (cases Q6; done))
               | skip
                 refine st_gno rfl rfl ?_
                 refine st_gno rfl rfl ?_
                 refine st_gno rfl rfl ?_
                 refine st_gno rfl rfl ?_
                 refine st_val (ro_pickF (v := .bool _) rfl rfl) ?_
                 refine st_val (ro_assign (v := .bool _) rfl) ?_
                 refine st_nil ?_
                 refine nx_then ?_
                 refine cd_ret ?_
                 refine res1 (v := .bool _) rfl rfl ?_
                 unfold vR
                 refine ⟨?_, ((From.rfl_.next E1).next E14)⟩
                 first
                   | rw [decide_eq_false (by omega)]
                   | exact congrArg Value.bool (decide_eq_decide.2 (by omega))
                   | (rw [beq_dec]; exact congrArg Value.bool (decide_eq_decide.2 (by omega)))
       · (try first | replace Q3 := bn_t Q3 | replace Q3 := bn_f Q3)
         (try first | replace Q3 := bx_t Q3 | replace Q3 := bx_f Q3 | replace Q3 := be_t Q3 | replace Q3 := be_f Q3 | replace Q3 := of_decide_eq_true Q3 | replace Q3 := of_decide_eq_false Q3)
         first
          | (exfalso; first | omega | contradiction | (cases Q3; done))
          | skip
            refine st_gno rfl rfl ?_
            refine st_gno rfl rfl ?_
            refine st_gno rfl rfl ?_
            refine st_gno rfl rfl ?_
            refine st_val (ro_pickF (v := .bool _) rfl rfl) ?_
            refine st_val (ro_move (v := .bool _) rfl) ?_
            refine st_gno rfl rfl ?_
            refine st_gno rfl rfl ?_
            refine st_gno rfl rfl ?_
            refine st_gno rfl rfl ?_
            refine st_val (ro_pickF (v := .bool _) rfl rfl) ?_
            refine st_val (ro_assign (v := .bool _) rfl) ?_
            refine st_nil ?_
            refine nx_then ?_
            refine cd_ret ?_
            refine res1 (v := .bool _) rfl rfl ?_
            unfold vR
            refine ⟨?_, (From.rfl_.next E1)⟩
            first
              | rw [decide_eq_false (by omega)]
              | exact congrArg Value.bool (decide_eq_decide.2 (by omega))
              | (rw [beq_dec]; exact congrArg Value.bool (decide_eq_decide.2 (by omega)))
  · (try first | replace Q2 := bn_t Q2 | replace Q2 := bn_f Q2)
    (try first | replace Q2 := bx_t Q2 | replace Q2 := bx_f Q2 | replace Q2 := be_t Q2 | replace Q2 := be_f Q2 | replace Q2 := of_decide_eq_true Q2 | replace Q2 := of_decide_eq_false Q2)
    first
     | (exfalso; first | omega | contradiction | (cases Q2; done))
     | skip
       refine st_gno rfl rfl ?_
       refine st_gno rfl rfl ?_
       refine st_gno rfl rfl ?_
       refine st_val (ro_pickF (v := .bool _) rfl rfl) ?_
       refine st_val (ro_move (v := .bool _) rfl) ?_
       refine st_gno rfl rfl ?_
       refine st_gno rfl rfl ?_
       refine st_gno rfl rfl ?_
       refine st_gno rfl rfl ?_
       refine st_val (ro_pickF (v := .bool _) rfl rfl) ?_
       refine st_val (ro_move (v := .bool _) rfl) ?_
       refine st_gno rfl rfl ?_
       refine st_gno rfl rfl ?_
       refine st_gno rfl rfl ?_
       refine st_gno rfl rfl ?_
       refine st_val (ro_pickF (v := .bool _) rfl rfl) ?_
       refine st_val (ro_assign (v := .bool _) rfl) ?_
       refine st_nil ?_
       refine nx_then ?_
       refine cd_ret ?_
       refine res1 (v := .bool _) rfl rfl ?_
       unfold vR
       refine ⟨?_, (From.rfl_.next E1)⟩
       first
         | rw [decide_eq_false (by omega)]
         | exact congrArg Value.bool (decide_eq_decide.2 (by omega))
         | (rw [beq_dec]; exact congrArg Value.bool (decide_eq_decide.2 (by omega)))
end Go.Proofs.Ytbikemhokgcboaa
