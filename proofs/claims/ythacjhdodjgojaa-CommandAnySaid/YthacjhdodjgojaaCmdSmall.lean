/- commands: small functions, which may be. -/
import Derived.Test.YthacjhdodjgojaaCmdLaws
import Derived.Test.YthacjhdodjgojaaFast14
namespace Go.Proofs.Ythacjhdodjgojaa
open Go.RowKit
open Go.ChangeShapes Go.WideShapes Go.ChangeAt
theorem CmdSmall_e23 : elemQ Try.prog 23 = some (5, 1) := by kernel_rfl
theorem CmdSmall_l23 : (elemQ Try.prog 23).isSome = true := by kernel_rfl
theorem CmdSmall_g5 : aggQ Try.prog 5 = some false := by kernel_rfl
theorem CmdSmall_q23 : litQ Try.prog 23 = some (5, 1, 1, (.int .u8 0)) := by kernel_rfl
theorem CmdSmall_f26_0 : fieldQ Try.prog 26 0 = some 0 := by kernel_rfl
theorem CmdSmall_g3 : aggQ Try.prog 3 = some false := by kernel_rfl
theorem CmdSmall_g26 : aggQ Try.prog 26 = some true := by kernel_rfl
theorem CmdSmall_z26 : sizeQ Try.prog 26 = some 5 := by kernel_rfl
theorem CmdSmall_b26_0cinti641 : Try.prog.built 26 [(0, .int .i64 1)] = some #[.int .i64 1, .int .i64 0, .int .i64 0, .string ⟨#[]⟩, .string ⟨#[]⟩] := by kernel_rfl
theorem CmdSmall_k17 : callable Try.prog 17 = true := by kernel_rfl
theorem CmdSmall_f26_1 : fieldQ Try.prog 26 1 = some 1 := by kernel_rfl
theorem CmdSmall_f26_2 : fieldQ Try.prog 26 2 = some 2 := by kernel_rfl
theorem CmdSmall_f26_3 : fieldQ Try.prog 26 3 = some 3 := by kernel_rfl
theorem CmdSmall_g9 : aggQ Try.prog 9 = some false := by kernel_rfl
theorem CmdSmall_f26_4 : fieldQ Try.prog 26 4 = some 4 := by kernel_rfl
theorem CmdSmall_b26_0 : ∀ (a0 : Int), Try.prog.built 26 [(0, .int .i64 a0)] = some #[.int .i64 a0, .int .i64 0, .int .i64 0, .string ⟨#[]⟩, .string ⟨#[]⟩] := by intros; kernel_rfl
theorem CmdSmall_o26 : zeroQ Try.prog 26 = some (.agg #[.int .i64 0, .int .i64 0, .int .i64 0, .string ⟨#[]⟩, .string ⟨#[]⟩]) := by kernel_rfl
theorem CmdSmall_z3 : sizeQ Try.prog 3 = some 1 := by kernel_rfl
theorem CmdSmall_z9 : sizeQ Try.prog 9 = some 1 := by kernel_rfl
theorem CmdSmall_k16 : callable Try.prog 16 = true := by kernel_rfl
theorem eq_ge {α : Type} {a b : List α} {k : Nat} (hl : a.length = b.length) (hk : ¬ k < a.length) (h : a.take k = b.take k) : a = b := by
  rw [List.take_of_length_le (by omega), List.take_of_length_le (by omega)] at h
  exact h
theorem take_eq {α : Type} {a b : List α} {k : Nat} (ha : k < a.length) (hb : k < b.length) (h : a.take k = b.take k) (he : a[k] = b[k]) : a.take (k + 1) = b.take (k + 1) := by
  rw [List.take_succ_eq_append_getElem ha, List.take_succ_eq_append_getElem hb, h, he]
theorem bool_if {p q : Prop} [Decidable p] [Decidable q] (h : p ↔ q) : (if decide p = true then (0 : Int) else 1) = if q then 0 else 1 := by
  by_cases hp : p
  · rw [if_pos (decide_eq_true hp), if_pos (h.1 hp)]
  · rw [if_neg (by simp [hp]), if_neg (fun a => hp (h.2 a))]
set_option maxRecDepth 100000 in
set_option maxHeartbeats 400000 in
theorem lnum_any (e : Int) (w : World) :
    Rt Try.prog 7 [.int .i64 e] w (fun v w' => v = .int .i64 e ∧ w = w') := by
  refine enter (n := 4) Try.func7 rfl rfl rfl ?_
  refine cd_seq ?_
  refine cd_region ?_
  refine st_val (ro_assign (v := .int _ _) rfl) ?_
  refine st_nil ?_
  refine nx_then ?_
  refine cd_seq ?_
  refine cd_region ?_
  refine st_val (ro_move (v := .int _ _) rfl) ?_
  refine st_val (ro_assign (v := .int _ _) rfl) ?_
  refine st_nil ?_
  refine nx_then ?_
  refine cd_ret ?_
  refine res1 (v := .int _ _) rfl rfl ?_
  exact ⟨rfl, rfl⟩
set_option maxRecDepth 100000 in
set_option maxHeartbeats 400000 in
theorem id_any (n : Int) (w : World) :
    Rt Try.prog 16 [.int .i64 n] w (fun v w' => v = .bool (decide (1 ≤ n ∧ n < 1099511627776)) ∧ w = w') := by
  refine enter (n := 9) Try.func16 rfl rfl rfl ?_
  refine cd_seq ?_
  refine cd_region ?_
  refine st_val (ro_assign (v := .bool _) rfl) ?_
  refine st_nil ?_
  refine nx_then ?_
  refine cd_seq ?_
  refine cd_region ?_
  refine st_val (ro_move (v := .int _ _) rfl) ?_
  refine st_val (ro_geq rfl rfl) ?_
  refine st_val (ro_move (v := .bool _) rfl) ?_
  refine st_split (t := 5) rfl (fun Q1 => ?_) (fun Q1 => ?_)
  · (try first | replace Q1 := bn_t Q1 | replace Q1 := bn_f Q1)
    (try first | replace Q1 := bx_t Q1 | replace Q1 := bx_f Q1 | replace Q1 := be_t Q1 | replace Q1 := be_f Q1 | replace Q1 := of_decide_eq_true Q1 | replace Q1 := of_decide_eq_false Q1)
    first
     | (exfalso; first | omega | contradiction | (cases Q1; done))
     | skip
       refine st_unguard rfl ?_
       refine st_val (ro_move (v := .int _ _) rfl) ?_
       refine st_unguard rfl ?_
       refine st_val (ro_lss rfl rfl) ?_
       refine st_val (ro_pickT (v := .bool _) rfl rfl) ?_
       refine st_val (ro_assign (v := .bool _) rfl) ?_
       refine st_nil ?_
       refine nx_then ?_
       refine cd_ret ?_
       refine res1 (v := .bool _) rfl rfl ?_
       refine ⟨congrArg Value.bool ?_, rfl⟩
       first
         | (rw [eq_comm, decide_eq_false_iff_not]; omega)
         | (rw [decide_eq_decide]; omega)
  · (try first | replace Q1 := bn_t Q1 | replace Q1 := bn_f Q1)
    (try first | replace Q1 := bx_t Q1 | replace Q1 := bx_f Q1 | replace Q1 := be_t Q1 | replace Q1 := be_f Q1 | replace Q1 := of_decide_eq_true Q1 | replace Q1 := of_decide_eq_false Q1)
    first
     | (exfalso; first | omega | contradiction | (cases Q1; done))
     | skip
       refine st_gno rfl rfl ?_
       refine st_gno rfl rfl ?_
       refine st_val (ro_pickF (v := .bool _) rfl rfl) ?_
       refine st_val (ro_assign (v := .bool _) rfl) ?_
       refine st_nil ?_
       refine nx_then ?_
       refine cd_ret ?_
       refine res1 (v := .bool _) rfl rfl ?_
       refine ⟨congrArg Value.bool ?_, rfl⟩
       first
         | (rw [eq_comm, decide_eq_false_iff_not]; omega)
         | (rw [decide_eq_decide]; omega)
set_option maxRecDepth 100000 in
set_option maxHeartbeats 400000 in
theorem must_any (b : Bool) (w : World) :
    Rt Try.prog 17 [.bool b] w (fun v w' => v = .int .i64 (if b = true then 0 else 1) ∧ w = w') := by
  refine enter (n := 4) Try.func17 rfl rfl rfl ?_
  refine cd_seq ?_
  refine cd_region ?_
  refine st_val (ro_assign (v := .int _ _) rfl) ?_
  refine st_nil ?_
  refine nx_then ?_
  refine cd_seq ?_
  refine cd_seq ?_
  refine cd_region ?_
  refine st_val (ro_move (v := .bool _) rfl) ?_
  refine st_nil ?_
  refine nx_then ?_
  refine cd_cond rfl (fun Q1 => ?_) (fun Q1 => ?_)
  · (try first | replace Q1 := bn_t Q1 | replace Q1 := bn_f Q1)
    (try first | replace Q1 := bx_t Q1 | replace Q1 := bx_f Q1 | replace Q1 := be_t Q1 | replace Q1 := be_f Q1 | replace Q1 := of_decide_eq_true Q1 | replace Q1 := of_decide_eq_false Q1)
    have hb : b = true := by simpa using Q1
    refine cd_seq ?_
    refine cd_region ?_
    refine st_val (ro_assign (v := .int _ _) rfl) ?_
    refine st_nil ?_
    refine nx_then ?_
    refine cd_ret ?_
    refine rt_then ?_
    refine res1 (v := .int _ _) rfl rfl ?_
    exact ⟨int_eq (by rw [if_pos hb]), rfl⟩
  · (try first | replace Q1 := bn_t Q1 | replace Q1 := bn_f Q1)
    (try first | replace Q1 := bx_t Q1 | replace Q1 := bx_f Q1 | replace Q1 := be_t Q1 | replace Q1 := be_f Q1 | replace Q1 := of_decide_eq_true Q1 | replace Q1 := of_decide_eq_false Q1)
    have hb : b = false := by simpa using Q1
    refine cd_skip ?_
    refine nx_then ?_
    refine cd_seq ?_
    refine cd_region ?_
    refine st_val (ro_assign (v := .int _ _) rfl) ?_
    refine st_nil ?_
    refine nx_then ?_
    refine cd_ret ?_
    refine res1 (v := .int _ _) rfl rfl ?_
    exact ⟨int_eq (by rw [if_neg (by rw [hb]; decide)]), rfl⟩
set_option maxRecDepth 100000 in
set_option maxHeartbeats 400000 in
theorem copyBytes_any (A : Option Addr) (c : Nat) (l : List Nat) (w : World) (hr : RowOf bV w A l) (hl : l.length * 1 ≤ 140737488351232) :
    Rt Try.prog 4 [.slice A l.length c] w (fun v w' => ∃ A' c', v = .slice A' l.length c' ∧ w'.ownsRow w.heap.size 5 1 v l.length (l.map bV) ∧ From w w') := by
  refine enter (n := 19) Try.func4 rfl rfl rfl ?_
  refine cd_seq ?_
  refine cd_region ?_
  refine st_val (ro_assign (v := .slice _ _ _) rfl) ?_
  refine st_nil ?_
  refine nx_then ?_
  refine cd_seq ?_
  refine cd_region ?_
  refine st_val (ro_assign (v := .slice _ _ _) rfl) ?_
  refine st_nil ?_
  refine nx_then ?_
  refine cd_seq ?_
  refine cd_seq ?_
  refine cd_region ?_
  refine st_val (ro_assign (v := .int _ _) rfl) ?_
  refine st_nil ?_
  refine nx_then ?_
  refine cd_block ?_
  refine cd_loop (G := Nat × Option Addr × Nat) [5, 6, 7, 8, 9, 10, 11, 12, 13, 14, 15, 16, 17] (fun g => [(3, .slice g.2.1 g.1 g.2.2), (4, .int .i64 (g.1 : Nat))]) (fun g w' => g.1 ≤ l.length ∧ w'.ownsRow w.heap.size 5 1 (.slice g.2.1 g.1 g.2.2) g.1 ((l.take g.1).map bV) ∧ From w w') (fun g => l.length - g.1) ((0, none, 0)) ⟨rfl, rfl, trivial⟩ ?_ ?_
  · exact ⟨Nat.zero_le _, World.ownsRow_nil _ _ _ _, From.rfl_⟩
  rintro ⟨k, A3, c3⟩ ρ1 w1 ⟨hk, ho, hB⟩
  simp only at hk ho
  refine cd_seq ?_
  refine cd_seq ?_
  refine cd_region ?_
  refine st_val (ro_move (v := .int _ _) rfl) ?_
  refine st_val (ro_move (v := .slice _ _ _) rfl) ?_
  refine st_val (ro_len CmdSmall_l23 rfl) ?_
  refine st_val (ro_lss rfl rfl) ?_
  refine st_nil ?_
  refine nx_then ?_
  refine cd_cond rfl (fun Q2 => ?_) (fun Q2 => ?_)
  · (try first | replace Q2 := bn_t Q2 | replace Q2 := bn_f Q2)
    (try first | replace Q2 := bx_t Q2 | replace Q2 := bx_f Q2 | replace Q2 := be_t Q2 | replace Q2 := be_f Q2 | replace Q2 := of_decide_eq_true Q2 | replace Q2 := of_decide_eq_false Q2)
    obtain ⟨ba, oa, rfl, ca⟩ := hr (by omega)
    first
     | (exfalso; first | omega | contradiction | (cases Q2; done))
     | skip
       refine cd_skip ?_
       refine nx_then ?_
       refine cd_seq ?_
       refine cd_block ?_
       refine cd_region ?_
       refine st_val (ro_move (v := .slice _ _ _) rfl) ?_
       refine st_val (ro_move (v := .slice _ _ _) rfl) ?_
       refine st_val (ro_move (v := .int _ _) rfl) ?_
       refine st_val (ro_indexAddr1 CmdSmall_e23 rfl rfl (by omega)) ?_
       refine st_val (ro_load CmdSmall_g5 rfl (by first | (exact cellF hB (ca k (by omega))))) ?_
       refine st_lit1 (v := .int _ _) CmdSmall_q23 rfl rfl rfl ?_
       intro b16 w3 E16 hb16 hk16
       refine st_push1 (a0 := w) CmdSmall_q23 rfl rfl (ho.kept_from E16) (hB.next E16) rfl hk16 rfl (by omega) (by omega) ?_
       intro A17 c17 w4 ho17 B17 hg17
       refine st_val (ro_assign (v := .slice _ _ _) rfl) ?_
       refine st_nil ?_
       refine nx_block ?_
       refine nx_then ?_
       refine cd_region ?_
       refine st_val (ro_move (v := .int _ _) rfl) ?_
       refine st_val (ro_add64 rfl rfl (by omega)) ?_
       refine st_val (ro_assign (v := .int _ _) rfl) ?_
       refine st_nil ?_
       refine nx_cut ((k + 1, A17, c17)) ⟨(by first | rfl | (refine int_eq ?_; omega)), (by first | rfl | (refine int_eq ?_; omega)), trivial⟩ (by (iterate 30 refine agr_cons rfl ?_); exact agr_rfl) ⟨?_, ?_⟩
       · exact ⟨by simp only; omega, by rw [map_take_succ bV (by omega)]; exact ho17, B17⟩
       · simp only; omega
  · (try first | replace Q2 := bn_t Q2 | replace Q2 := bn_f Q2)
    (try first | replace Q2 := bx_t Q2 | replace Q2 := bx_f Q2 | replace Q2 := be_t Q2 | replace Q2 := be_f Q2 | replace Q2 := of_decide_eq_true Q2 | replace Q2 := of_decide_eq_false Q2)
    first
     | (exfalso; first | omega | contradiction | (cases Q2; done))
     | skip
       refine cd_exit ?_
       refine ex_then ?_
       refine ex_then ?_
       refine ex_block ?_
       refine nx_then ?_
       refine cd_seq ?_
       refine cd_region ?_
       refine st_val (ro_move (v := .slice _ _ _) rfl) ?_
       refine st_val (ro_assign (v := .slice _ _ _) rfl) ?_
       refine st_nil ?_
       refine nx_then ?_
       refine cd_ret ?_
       refine res1 (v := .slice _ _ _) rfl rfl ?_
       obtain rfl : k = l.length := by omega
       exact ⟨A3, c3, rfl, by rwa [List.take_length] at ho, hB⟩
set_option maxRecDepth 100000 in
set_option maxHeartbeats 400000 in
theorem eqBytes_any (A B : Option Addr) (ca cb : Nat) (a b : List Nat) (w : World) (ha : RowOf bV w A a) (hb : RowOf bV w B b) (hla : a.length * 1 ≤ 140737488351232) :
    Rt Try.prog 6 [.slice A a.length ca, .slice B b.length cb] w (fun v w' => v = .bool (decide (a = b)) ∧ From w w') := by
  refine enter (n := 26) Try.func6 rfl rfl rfl ?_
  refine cd_seq ?_
  refine cd_region ?_
  refine st_val (ro_assign (v := .bool _) rfl) ?_
  refine st_nil ?_
  refine nx_then ?_
  refine cd_seq ?_
  refine cd_seq ?_
  refine cd_region ?_
  refine st_val (ro_move (v := .slice _ _ _) rfl) ?_
  refine st_val (ro_len CmdSmall_l23 rfl) ?_
  refine st_val (ro_move (v := .slice _ _ _) rfl) ?_
  refine st_val (ro_len CmdSmall_l23 rfl) ?_
  refine st_val (ro_neq rfl rfl) ?_
  refine st_nil ?_
  refine nx_then ?_
  refine cd_cond rfl (fun Q1 => ?_) (fun Q1 => ?_)
  · (try first | replace Q1 := bn_t Q1 | replace Q1 := bn_f Q1)
    (try first | replace Q1 := bx_t Q1 | replace Q1 := bx_f Q1 | replace Q1 := be_t Q1 | replace Q1 := be_f Q1 | replace Q1 := of_decide_eq_true Q1 | replace Q1 := of_decide_eq_false Q1)
    first
     | (exfalso; first | omega | contradiction | (cases Q1; done))
     | skip
       refine cd_seq ?_
       refine cd_region ?_
       refine st_val (ro_assign (v := .bool _) rfl) ?_
       refine st_nil ?_
       refine nx_then ?_
       refine cd_ret ?_
       refine rt_then ?_
       refine res1 (v := .bool _) rfl rfl ?_
       exact ⟨by rw [decide_eq_false]; rintro rfl; omega, From.rfl_⟩
  · (try first | replace Q1 := bn_t Q1 | replace Q1 := bn_f Q1)
    (try first | replace Q1 := bx_t Q1 | replace Q1 := bx_f Q1 | replace Q1 := be_t Q1 | replace Q1 := be_f Q1 | replace Q1 := of_decide_eq_true Q1 | replace Q1 := of_decide_eq_false Q1)
    first
     | (exfalso; first | omega | contradiction | (cases Q1; done))
     | skip
       refine cd_skip ?_
       refine nx_then ?_
       refine cd_seq ?_
       refine cd_seq ?_
       refine cd_region ?_
       refine st_val (ro_assign (v := .int _ _) rfl) ?_
       refine st_nil ?_
       refine nx_then ?_
       refine cd_block ?_
       refine cd_loop (G := Nat) [4, 11, 12, 13, 14, 15, 16, 17, 18, 19, 20, 21, 22, 23, 24, 25] (fun k => [(5, .int .i64 (k : Nat))]) (fun k w' => k ≤ a.length ∧ a.take k = b.take k ∧ From w w') (fun k => a.length - k) (0) ⟨rfl, trivial⟩ ?_ ?_
       · exact ⟨Nat.zero_le _, rfl, From.rfl_⟩
       rintro k ρ2 w2 ⟨hk, ht, hB⟩
       refine cd_seq ?_
       refine cd_seq ?_
       refine cd_region ?_
       refine st_val (ro_move (v := .int _ _) rfl) ?_
       refine st_val (ro_move (v := .slice _ _ _) rfl) ?_
       refine st_val (ro_len CmdSmall_l23 rfl) ?_
       refine st_val (ro_lss rfl rfl) ?_
       refine st_nil ?_
       refine nx_then ?_
       refine cd_cond rfl (fun Q3 => ?_) (fun Q3 => ?_)
       · (try first | replace Q3 := bn_t Q3 | replace Q3 := bn_f Q3)
         (try first | replace Q3 := bx_t Q3 | replace Q3 := bx_f Q3 | replace Q3 := be_t Q3 | replace Q3 := be_f Q3 | replace Q3 := of_decide_eq_true Q3 | replace Q3 := of_decide_eq_false Q3)
         obtain ⟨ba, oa, rfl, ca⟩ := ha (by omega)
         obtain ⟨bb, ob, rfl, cb⟩ := hb (by omega)
         first
          | (exfalso; first | omega | contradiction | (cases Q3; done))
          | skip
            refine cd_skip ?_
            refine nx_then ?_
            refine cd_seq ?_
            refine cd_block ?_
            refine cd_seq ?_
            apply cd_drawn 9 [(17, eqp _), (18, eqp _), (19, eqp _), (20, eqp _), (21, eqp _), (22, eqp _), (23, eqp _), (24, eqp _), (25, eqp _)] (by kernel_rfl) (by kernel_rfl) ⟨eqp_mono _, eqp_mono _, eqp_mono _, eqp_mono _, eqp_mono _, eqp_mono _, eqp_mono _, eqp_mono _, eqp_mono _, trivial⟩
            case hop =>
             refine ⟨?_, ?_⟩
             · intro w5 D5
               show OpOK _ _ _ _ _ _ _
               exact ok_pure (ro_move (v := .slice _ _ _) rfl) rfl
             refine ⟨?_, ?_⟩
             · intro w6 D6
               show OpOK _ _ _ _ _ _ _
               exact ok_pure (ro_move (v := .int _ _) rfl) rfl
             refine ⟨?_, ?_⟩
             · intro w7 D7
               rintro _ rfl _ rfl
               show OpOK _ _ _ _ _ _ _
               exact ok_pure (ro_indexAddr1 CmdSmall_e23 rfl rfl (by omega)) rfl
             refine ⟨?_, ?_⟩
             · intro w8 D8
               rintro _ rfl
               show OpOK _ _ _ _ _ _ _
               exact ok_pure (ro_load CmdSmall_g5 rfl (by first | (exact cellF (hB.next D8) (ca k (by omega))) | (exact cellF (hB.next D8) (cb k (by omega))))) rfl
             refine ⟨?_, ?_⟩
             · intro w9 D9
               show OpOK _ _ _ _ _ _ _
               exact ok_pure (ro_move (v := .slice _ _ _) rfl) rfl
             refine ⟨?_, ?_⟩
             · intro w10 D10
               show OpOK _ _ _ _ _ _ _
               exact ok_pure (ro_move (v := .int _ _) rfl) rfl
             refine ⟨?_, ?_⟩
             · intro w11 D11
               rintro _ rfl _ rfl
               show OpOK _ _ _ _ _ _ _
               exact ok_pure (ro_indexAddr1 CmdSmall_e23 rfl rfl (by omega)) rfl
             refine ⟨?_, ?_⟩
             · intro w12 D12
               rintro _ rfl
               show OpOK _ _ _ _ _ _ _
               exact ok_pure (ro_load CmdSmall_g5 rfl (by first | (exact cellF (hB.next D12) (ca k (by omega))) | (exact cellF (hB.next D12) (cb k (by omega))))) rfl
             refine ⟨?_, ?_⟩
             · intro w13 D13
               rintro _ rfl _ rfl
               show OpOK _ _ _ _ _ _ _
               exact ok_pure (ro_neq rfl rfl) rfl
             exact trivial
            case hend =>
             intro w14 D14
             rintro _ rfl _ rfl _ rfl _ rfl _ rfl _ rfl _ rfl _ rfl _ rfl
             show St _ _ _ _ _ _ _
             refine st_nil ?_
             refine nx_then ?_
             refine cd_cond rfl (fun Q15 => ?_) (fun Q15 => ?_)
             · (try first | replace Q15 := bn_t Q15 | replace Q15 := bn_f Q15)
               (try first | replace Q15 := bx_t Q15 | replace Q15 := bx_f Q15 | replace Q15 := be_t Q15 | replace Q15 := be_f Q15 | replace Q15 := of_decide_eq_true Q15 | replace Q15 := of_decide_eq_false Q15)
               first
                | (exfalso; first | omega | contradiction | (cases Q15; done))
                | skip
                  refine cd_seq ?_
                  refine cd_region ?_
                  refine st_val (ro_assign (v := .bool _) rfl) ?_
                  refine st_nil ?_
                  refine nx_then ?_
                  refine cd_ret ?_
                  refine rt_block ?_
                  refine rt_then ?_
                  refine rt_then ?_
                  refine rt_block ?_
                  refine rt_then ?_
                  refine res1 (v := .bool _) rfl rfl ?_
                  exact ⟨by rw [decide_eq_false]; rintro rfl; exact absurd rfl (by assumption), (hB.next D14)⟩
             · (try first | replace Q15 := bn_t Q15 | replace Q15 := bn_f Q15)
               (try first | replace Q15 := bx_t Q15 | replace Q15 := bx_f Q15 | replace Q15 := be_t Q15 | replace Q15 := be_f Q15 | replace Q15 := of_decide_eq_true Q15 | replace Q15 := of_decide_eq_false Q15)
               first
                | (exfalso; first | omega | contradiction | (cases Q15; done))
                | skip
                  refine cd_skip ?_
                  refine nx_block ?_
                  refine nx_then ?_
                  refine cd_region ?_
                  refine st_val (ro_move (v := .int _ _) rfl) ?_
                  refine st_val (ro_add64 rfl rfl (by omega)) ?_
                  refine st_val (ro_assign (v := .int _ _) rfl) ?_
                  refine st_nil ?_
                  refine nx_cut (k + 1) ⟨(by first | rfl | (refine int_eq ?_; omega)), trivial⟩ (by (iterate 33 refine agr_cons rfl ?_); exact agr_rfl) ⟨?_, ?_⟩
                  · exact ⟨by omega, take_eq (by omega) (by omega) ht (by omega), (hB.next D14)⟩
                  · omega
       · (try first | replace Q3 := bn_t Q3 | replace Q3 := bn_f Q3)
         (try first | replace Q3 := bx_t Q3 | replace Q3 := bx_f Q3 | replace Q3 := be_t Q3 | replace Q3 := be_f Q3 | replace Q3 := of_decide_eq_true Q3 | replace Q3 := of_decide_eq_false Q3)
         first
          | (exfalso; first | omega | contradiction | (cases Q3; done))
          | skip
            refine cd_exit ?_
            refine ex_then ?_
            refine ex_then ?_
            refine ex_block ?_
            refine nx_then ?_
            refine cd_seq ?_
            refine cd_region ?_
            refine st_val (ro_assign (v := .bool _) rfl) ?_
            refine st_nil ?_
            refine nx_then ?_
            refine cd_ret ?_
            refine res1 (v := .bool _) rfl rfl ?_
            exact ⟨by rw [decide_eq_true (eq_ge (by omega) (by omega) ht)], hB⟩
set_option maxRecDepth 100000 in
set_option maxHeartbeats 400000 in
theorem mcmd (k c s : Int) (i t : ByteArray) (w : World) (hi : i.size ≤ 140737488351232) (ht : t.size ≤ 140737488351232) :
    Rt Try.prog 13 [.agg #[.int .i64 k, .int .i64 c, .int .i64 s, .string i, .string t]] w (fun v w' => v = .int .i64 (if OkC k c s i t then 0 else 1) ∧ From w w') := by
  refine enter (n := 62) Try.func13 rfl rfl rfl ?_
  refine cd_seq ?_
  refine cd_region ?_
  refine st_box (v := .agg _) rfl ?_
  intro b1 w1 E1 hb1 hk1
  refine st_val (ro_assign (v := .int _ _) rfl) ?_
  refine st_nil ?_
  refine nx_then ?_
  refine cd_seq ?_
  refine cd_seq ?_
  refine cd_region ?_
  refine st_val (ro_fieldAddr CmdSmall_f26_0 rfl) ?_
  refine st_val (ro_load CmdSmall_g3 rfl (by exact hk1.rd 0 rfl)) ?_
  refine st_val (ro_eql rfl rfl) ?_
  refine st_nil ?_
  refine nx_then ?_
  refine cd_cond rfl (fun Q2 => ?_) (fun Q2 => ?_)
  · (try first | replace Q2 := bn_t Q2 | replace Q2 := bn_f Q2)
    (try first | replace Q2 := bx_t Q2 | replace Q2 := bx_f Q2 | replace Q2 := be_t Q2 | replace Q2 := be_f Q2 | replace Q2 := of_decide_eq_true Q2 | replace Q2 := of_decide_eq_false Q2)
    first
     | (exfalso; first | omega | contradiction | (cases Q2; done))
     | skip
       refine cd_seq ?_
       refine cd_region ?_
       refine st_val (ro_loadA (cs := [_, _, _, _, _]) CmdSmall_g26 CmdSmall_z26 rfl (by exact hk1.whole)) ?_
       refine st_val (ro_build (l := [(0, .const (.int .i64 1))]) (CmdSmall_b26_0cinti641)) ?_
       refine st_val (ro_eq (ro_eqlCmd rfl rfl) (congrArg Value.bool (show decide (k = 1 ∧ c = 0 ∧ s = 0 ∧ i = ⟨#[]⟩ ∧ t = ⟨#[]⟩) = decide (k = 1 ∧ c = 0 ∧ s = 0 ∧ i.size = 0 ∧ t.size = 0) by rw [decide_eq_decide, size0, size0]))) ?_
       refine st_call CmdSmall_k17 (must_any _ _) ?_
       rintro v10 w3 ⟨rfl, rfl⟩
       refine st_val (ro_assign (v := .int _ _) rfl) ?_
       refine st_nil ?_
       refine nx_then ?_
       refine cd_ret ?_
       refine rt_then ?_
       refine res1 (v := .int _ _) rfl rfl ?_
       refine ⟨int_eq ?_, (From.rfl_.next E1)⟩
       first
         | (rw [if_pos (by unfold OkC; omega)])
         | (rw [if_neg (by unfold OkC; omega)])
         | (apply bool_if; unfold OkC; omega)
         | (rw [if_neg (by decide), if_neg (by unfold OkC; omega)])
  · (try first | replace Q2 := bn_t Q2 | replace Q2 := bn_f Q2)
    (try first | replace Q2 := bx_t Q2 | replace Q2 := bx_f Q2 | replace Q2 := be_t Q2 | replace Q2 := be_f Q2 | replace Q2 := of_decide_eq_true Q2 | replace Q2 := of_decide_eq_false Q2)
    first
     | (exfalso; first | omega | contradiction | (cases Q2; done))
     | skip
       refine cd_skip ?_
       refine nx_then ?_
       refine cd_cut (G := Unit) [11, 12, 13, 14, 15, 16, 17, 18, 19, 20, 21, 22, 23, 24, 25, 26, 27, 28] (fun _ => [(3, .bool (decide (1 ≤ c ∧ c < 1099511627776 ∧ 1 ≤ s ∧ s < 1099511627776)))]) (fun _ w' => w1 = w') ?_ ?_
       · refine cd_region ?_
         refine st_val (ro_fieldAddr CmdSmall_f26_1 rfl) ?_
         refine st_val (ro_load CmdSmall_g3 rfl (by exact hk1.rd 1 rfl)) ?_
         refine st_val (ro_geq rfl rfl) ?_
         refine st_val (ro_move (v := .bool _) rfl) ?_
         refine st_split (t := 14) rfl (fun Q4 => ?_) (fun Q4 => ?_)
         · (try first | replace Q4 := bn_t Q4 | replace Q4 := bn_f Q4)
           (try first | replace Q4 := bx_t Q4 | replace Q4 := bx_f Q4 | replace Q4 := be_t Q4 | replace Q4 := be_f Q4 | replace Q4 := of_decide_eq_true Q4 | replace Q4 := of_decide_eq_false Q4)
           first
            | (exfalso; first | omega | contradiction | (cases Q4; done))
            | skip
              refine st_unguard rfl ?_
              refine st_val (ro_fieldAddr CmdSmall_f26_1 rfl) ?_
              refine st_unguard rfl ?_
              refine st_val (ro_load CmdSmall_g3 rfl (by exact hk1.rd 1 rfl)) ?_
              refine st_unguard rfl ?_
              refine st_val (ro_lss rfl rfl) ?_
              refine st_val (ro_pickT (v := .bool _) rfl rfl) ?_
              refine st_val (ro_move (v := .bool _) rfl) ?_
              refine st_split (t := 19) rfl (fun Q5 => ?_) (fun Q5 => ?_)
              · (try first | replace Q5 := bn_t Q5 | replace Q5 := bn_f Q5)
                (try first | replace Q5 := bx_t Q5 | replace Q5 := bx_f Q5 | replace Q5 := be_t Q5 | replace Q5 := be_f Q5 | replace Q5 := of_decide_eq_true Q5 | replace Q5 := of_decide_eq_false Q5)
                first
                 | (exfalso; first | omega | contradiction | (cases Q5; done))
                 | skip
                   refine st_unguard rfl ?_
                   refine st_val (ro_fieldAddr CmdSmall_f26_2 rfl) ?_
                   refine st_unguard rfl ?_
                   refine st_val (ro_load CmdSmall_g3 rfl (by exact hk1.rd 2 rfl)) ?_
                   refine st_unguard rfl ?_
                   refine st_val (ro_geq rfl rfl) ?_
                   refine st_val (ro_pickT (v := .bool _) rfl rfl) ?_
                   refine st_val (ro_move (v := .bool _) rfl) ?_
                   refine st_split (t := 24) rfl (fun Q6 => ?_) (fun Q6 => ?_)
                   · (try first | replace Q6 := bn_t Q6 | replace Q6 := bn_f Q6)
                     (try first | replace Q6 := bx_t Q6 | replace Q6 := bx_f Q6 | replace Q6 := be_t Q6 | replace Q6 := be_f Q6 | replace Q6 := of_decide_eq_true Q6 | replace Q6 := of_decide_eq_false Q6)
                     first
                      | (exfalso; first | omega | contradiction | (cases Q6; done))
                      | skip
                        refine st_unguard rfl ?_
                        refine st_val (ro_fieldAddr CmdSmall_f26_2 rfl) ?_
                        refine st_unguard rfl ?_
                        refine st_val (ro_load CmdSmall_g3 rfl (by exact hk1.rd 2 rfl)) ?_
                        refine st_unguard rfl ?_
                        refine st_val (ro_lss rfl rfl) ?_
                        refine st_val (ro_pickT (v := .bool _) rfl rfl) ?_
                        refine st_val (ro_assign (v := .bool _) rfl) ?_
                        refine st_nil ?_
                        refine nx_cut (()) ⟨(congrArg Value.bool (by first | (rw [eq_comm, decide_eq_false_iff_not]; omega) | (rw [decide_eq_decide]; omega))), trivial⟩ (by (iterate 22 refine agr_cons rfl ?_); exact agr_rfl) ?_
                        rfl
                   · (try first | replace Q6 := bn_t Q6 | replace Q6 := bn_f Q6)
                     (try first | replace Q6 := bx_t Q6 | replace Q6 := bx_f Q6 | replace Q6 := be_t Q6 | replace Q6 := be_f Q6 | replace Q6 := of_decide_eq_true Q6 | replace Q6 := of_decide_eq_false Q6)
                     first
                      | (exfalso; first | omega | contradiction | (cases Q6; done))
                      | skip
                        refine st_gno rfl rfl ?_
                        refine st_gno rfl rfl ?_
                        refine st_gno rfl rfl ?_
                        refine st_val (ro_pickF (v := .bool _) rfl rfl) ?_
                        refine st_val (ro_assign (v := .bool _) rfl) ?_
                        refine st_nil ?_
                        refine nx_cut (()) ⟨(congrArg Value.bool (by first | (rw [eq_comm, decide_eq_false_iff_not]; omega) | (rw [decide_eq_decide]; omega))), trivial⟩ (by (iterate 22 refine agr_cons rfl ?_); exact agr_rfl) ?_
                        rfl
              · (try first | replace Q5 := bn_t Q5 | replace Q5 := bn_f Q5)
                (try first | replace Q5 := bx_t Q5 | replace Q5 := bx_f Q5 | replace Q5 := be_t Q5 | replace Q5 := be_f Q5 | replace Q5 := of_decide_eq_true Q5 | replace Q5 := of_decide_eq_false Q5)
                first
                 | (exfalso; first | omega | contradiction | (cases Q5; done))
                 | skip
                   refine st_gno rfl rfl ?_
                   refine st_gno rfl rfl ?_
                   refine st_gno rfl rfl ?_
                   refine st_val (ro_pickF (v := .bool _) rfl rfl) ?_
                   refine st_val (ro_move (v := .bool _) rfl) ?_
                   refine st_gno rfl rfl ?_
                   refine st_gno rfl rfl ?_
                   refine st_gno rfl rfl ?_
                   refine st_val (ro_pickF (v := .bool _) rfl rfl) ?_
                   refine st_val (ro_assign (v := .bool _) rfl) ?_
                   refine st_nil ?_
                   refine nx_cut (()) ⟨(congrArg Value.bool (by first | (rw [eq_comm, decide_eq_false_iff_not]; omega) | (rw [decide_eq_decide]; omega))), trivial⟩ (by (iterate 21 refine agr_cons rfl ?_); exact agr_rfl) ?_
                   rfl
         · (try first | replace Q4 := bn_t Q4 | replace Q4 := bn_f Q4)
           (try first | replace Q4 := bx_t Q4 | replace Q4 := bx_f Q4 | replace Q4 := be_t Q4 | replace Q4 := be_f Q4 | replace Q4 := of_decide_eq_true Q4 | replace Q4 := of_decide_eq_false Q4)
           first
            | (exfalso; first | omega | contradiction | (cases Q4; done))
            | skip
              refine st_gno rfl rfl ?_
              refine st_gno rfl rfl ?_
              refine st_gno rfl rfl ?_
              refine st_val (ro_pickF (v := .bool _) rfl rfl) ?_
              refine st_val (ro_move (v := .bool _) rfl) ?_
              refine st_gno rfl rfl ?_
              refine st_gno rfl rfl ?_
              refine st_gno rfl rfl ?_
              refine st_val (ro_pickF (v := .bool _) rfl rfl) ?_
              refine st_val (ro_move (v := .bool _) rfl) ?_
              refine st_gno rfl rfl ?_
              refine st_gno rfl rfl ?_
              refine st_gno rfl rfl ?_
              refine st_val (ro_pickF (v := .bool _) rfl rfl) ?_
              refine st_val (ro_assign (v := .bool _) rfl) ?_
              refine st_nil ?_
              refine nx_cut (()) ⟨(congrArg Value.bool (by first | (rw [eq_comm, decide_eq_false_iff_not]; omega) | (rw [decide_eq_decide]; omega))), trivial⟩ (by (iterate 20 refine agr_cons rfl ?_); exact agr_rfl) ?_
              rfl
       · rintro - ρ7 w7 rfl
         refine cd_seq ?_
         refine cd_seq ?_
         refine cd_region ?_
         refine st_val (ro_move (v := .bool _) rfl) ?_
         refine st_val (ro_not rfl) ?_
         refine st_val (ro_move (v := .bool _) rfl) ?_
         refine st_split (t := 31) rfl (fun Q8 => ?_) (fun Q8 => ?_)
         · (try first | replace Q8 := bn_t Q8 | replace Q8 := bn_f Q8)
           (try first | replace Q8 := bx_t Q8 | replace Q8 := bx_f Q8 | replace Q8 := be_t Q8 | replace Q8 := be_f Q8 | replace Q8 := of_decide_eq_true Q8 | replace Q8 := of_decide_eq_false Q8)
           have hnb : ¬ (1 ≤ c ∧ c < 1099511627776 ∧ 1 ≤ s ∧ s < 1099511627776) := by simpa using Q8
           first
            | (exfalso; first | omega | contradiction | (cases Q8; done))
            | skip
              refine st_gno rfl rfl ?_
              refine st_gno rfl rfl ?_
              refine st_gno rfl rfl ?_
              refine st_gno rfl rfl ?_
              refine st_gno rfl rfl ?_
              refine st_gno rfl rfl ?_
              refine st_gno rfl rfl ?_
              refine st_gno rfl rfl ?_
              refine st_val (ro_pickT (v := .bool _) rfl rfl) ?_
              refine st_nil ?_
              refine nx_then ?_
              refine cd_condT rfl ?_
              refine cd_seq ?_
              refine cd_region ?_
              refine st_val (ro_assign (v := .int _ _) rfl) ?_
              refine st_nil ?_
              refine nx_then ?_
              refine cd_ret ?_
              refine rt_then ?_
              refine res1 (v := .int _ _) rfl rfl ?_
              refine ⟨int_eq ?_, (From.rfl_.next E1)⟩
              first
                | (rw [if_pos (by unfold OkC; omega)])
                | (rw [if_neg (by unfold OkC; omega)])
                | (apply bool_if; unfold OkC; omega)
                | (rw [if_neg (by decide), if_neg (by unfold OkC; omega)])
         · (try first | replace Q8 := bn_t Q8 | replace Q8 := bn_f Q8)
           (try first | replace Q8 := bx_t Q8 | replace Q8 := bx_f Q8 | replace Q8 := be_t Q8 | replace Q8 := be_f Q8 | replace Q8 := of_decide_eq_true Q8 | replace Q8 := of_decide_eq_false Q8)
           have hnb : 1 ≤ c ∧ c < 1099511627776 ∧ 1 ≤ s ∧ s < 1099511627776 := by simpa using Q8
           first
            | (exfalso; first | omega | contradiction | (cases Q8; done))
            | skip
              refine st_unguard rfl ?_
              refine st_val (ro_fieldAddr CmdSmall_f26_3 rfl) ?_
              refine st_unguard rfl ?_
              refine st_val (ro_load CmdSmall_g9 rfl (by exact hk1.rd 3 rfl)) ?_
              refine st_unguard rfl ?_
              refine st_val (ro_lenS (by kernel_rfl) rfl) ?_
              refine st_unguard rfl ?_
              refine st_val (ro_fieldAddr CmdSmall_f26_4 rfl) ?_
              refine st_unguard rfl ?_
              refine st_val (ro_load CmdSmall_g9 rfl (by exact hk1.rd 4 rfl)) ?_
              refine st_unguard rfl ?_
              refine st_val (ro_lenS (by kernel_rfl) rfl) ?_
              refine st_unguard rfl ?_
              refine st_val (ro_addN rfl rfl (by omega)) ?_
              refine st_unguard rfl ?_
              refine st_val (ro_gtr rfl rfl) ?_
              refine st_val (ro_pickF (v := .bool _) rfl rfl) ?_
              refine st_nil ?_
              refine nx_then ?_
              refine cd_cond rfl (fun Q9 => ?_) (fun Q9 => ?_)
              · (try first | replace Q9 := bn_t Q9 | replace Q9 := bn_f Q9)
                (try first | replace Q9 := bx_t Q9 | replace Q9 := bx_f Q9 | replace Q9 := be_t Q9 | replace Q9 := be_f Q9 | replace Q9 := of_decide_eq_true Q9 | replace Q9 := of_decide_eq_false Q9)
                first
                 | (exfalso; first | omega | contradiction | (cases Q9; done))
                 | skip
                   refine cd_seq ?_
                   refine cd_region ?_
                   refine st_val (ro_assign (v := .int _ _) rfl) ?_
                   refine st_nil ?_
                   refine nx_then ?_
                   refine cd_ret ?_
                   refine rt_then ?_
                   refine res1 (v := .int _ _) rfl rfl ?_
                   refine ⟨int_eq ?_, (From.rfl_.next E1)⟩
                   first
                     | (rw [if_pos (by unfold OkC; omega)])
                     | (rw [if_neg (by unfold OkC; omega)])
                     | (apply bool_if; unfold OkC; omega)
                     | (rw [if_neg (by decide), if_neg (by unfold OkC; omega)])
              · (try first | replace Q9 := bn_t Q9 | replace Q9 := bn_f Q9)
                (try first | replace Q9 := bx_t Q9 | replace Q9 := bx_f Q9 | replace Q9 := be_t Q9 | replace Q9 := be_f Q9 | replace Q9 := of_decide_eq_true Q9 | replace Q9 := of_decide_eq_false Q9)
                first
                 | (exfalso; first | omega | contradiction | (cases Q9; done))
                 | skip
                   refine cd_skip ?_
                   refine nx_then ?_
                   refine cd_seq ?_
                   refine cd_seq ?_
                   refine cd_region ?_
                   refine st_val (ro_fieldAddr CmdSmall_f26_0 rfl) ?_
                   refine st_val (ro_load CmdSmall_g3 rfl (by exact hk1.rd 0 rfl)) ?_
                   refine st_nil ?_
                   refine nx_then ?_
                   refine cd_block ?_
                   refine cd_seq ?_
                   refine cd_region ?_
                   refine st_val (ro_eql rfl rfl) ?_
                   refine st_val (ro_assign (v := .bool _) rfl) ?_
                   refine st_nil ?_
                   refine nx_then ?_
                   refine cd_cond rfl (fun Q10 => ?_) (fun Q10 => ?_)
                   · (try first | replace Q10 := bn_t Q10 | replace Q10 := bn_f Q10)
                     (try first | replace Q10 := bx_t Q10 | replace Q10 := bx_f Q10 | replace Q10 := be_t Q10 | replace Q10 := be_f Q10 | replace Q10 := of_decide_eq_true Q10 | replace Q10 := of_decide_eq_false Q10)
                     first
                      | (exfalso; first | omega | contradiction | (cases Q10; done))
                      | skip
                        refine cd_seq ?_
                        refine cd_region ?_
                        refine st_val (ro_assign (v := .int _ _) rfl) ?_
                        refine st_nil ?_
                        refine nx_then ?_
                        refine cd_ret ?_
                        refine rt_block ?_
                        refine rt_then ?_
                        refine res1 (v := .int _ _) rfl rfl ?_
                        refine ⟨int_eq ?_, (From.rfl_.next E1)⟩
                        first
                          | (rw [if_pos (by unfold OkC; omega)])
                          | (rw [if_neg (by unfold OkC; omega)])
                          | (apply bool_if; unfold OkC; omega)
                          | (rw [if_neg (by decide), if_neg (by unfold OkC; omega)])
                   · (try first | replace Q10 := bn_t Q10 | replace Q10 := bn_f Q10)
                     (try first | replace Q10 := bx_t Q10 | replace Q10 := bx_f Q10 | replace Q10 := be_t Q10 | replace Q10 := be_f Q10 | replace Q10 := of_decide_eq_true Q10 | replace Q10 := of_decide_eq_false Q10)
                     first
                      | (exfalso; first | omega | contradiction | (cases Q10; done))
                      | skip
                        refine cd_seq ?_
                        refine cd_region ?_
                        refine st_val (ro_eql rfl rfl) ?_
                        refine st_val (ro_assign (v := .bool _) rfl) ?_
                        refine st_nil ?_
                        refine nx_then ?_
                        refine cd_cond rfl (fun Q11 => ?_) (fun Q11 => ?_)
                        · (try first | replace Q11 := bn_t Q11 | replace Q11 := bn_f Q11)
                          (try first | replace Q11 := bx_t Q11 | replace Q11 := bx_f Q11 | replace Q11 := be_t Q11 | replace Q11 := be_f Q11 | replace Q11 := of_decide_eq_true Q11 | replace Q11 := of_decide_eq_false Q11)
                          first
                           | (exfalso; first | omega | contradiction | (cases Q11; done))
                           | skip
                             refine cd_seq ?_
                             refine cd_region ?_
                             refine st_val (ro_fieldAddr CmdSmall_f26_4 rfl) ?_
                             refine st_val (ro_load CmdSmall_g9 rfl (by exact hk1.rd 4 rfl)) ?_
                             refine st_val (ro_eq (ro_eqlS rfl rfl) (congrArg Value.bool (beq0 t))) ?_
                             refine st_call CmdSmall_k17 (must_any _ _) ?_
                             rintro v50 w12 ⟨rfl, rfl⟩
                             refine st_val (ro_assign (v := .int _ _) rfl) ?_
                             refine st_nil ?_
                             refine nx_then ?_
                             refine cd_ret ?_
                             refine rt_block ?_
                             refine rt_then ?_
                             refine res1 (v := .int _ _) rfl rfl ?_
                             refine ⟨int_eq ?_, (From.rfl_.next E1)⟩
                             first
                               | (rw [if_pos (by unfold OkC; omega)])
                               | (rw [if_neg (by unfold OkC; omega)])
                               | (apply bool_if; unfold OkC; omega)
                               | (rw [if_neg (by decide), if_neg (by unfold OkC; omega)])
                        · (try first | replace Q11 := bn_t Q11 | replace Q11 := bn_f Q11)
                          (try first | replace Q11 := bx_t Q11 | replace Q11 := bx_f Q11 | replace Q11 := be_t Q11 | replace Q11 := be_f Q11 | replace Q11 := of_decide_eq_true Q11 | replace Q11 := of_decide_eq_false Q11)
                          first
                           | (exfalso; first | omega | contradiction | (cases Q11; done))
                           | skip
                             refine cd_seq ?_
                             refine cd_region ?_
                             refine st_val (ro_eql rfl rfl) ?_
                             refine st_val (ro_assign (v := .bool _) rfl) ?_
                             refine st_nil ?_
                             refine nx_then ?_
                             refine cd_cond rfl (fun Q13 => ?_) (fun Q13 => ?_)
                             · (try first | replace Q13 := bn_t Q13 | replace Q13 := bn_f Q13)
                               (try first | replace Q13 := bx_t Q13 | replace Q13 := bx_f Q13 | replace Q13 := be_t Q13 | replace Q13 := be_f Q13 | replace Q13 := of_decide_eq_true Q13 | replace Q13 := of_decide_eq_false Q13)
                               first
                                | (exfalso; first | omega | contradiction | (cases Q13; done))
                                | skip
                                  refine cd_seq ?_
                                  refine cd_region ?_
                                  refine st_val (ro_fieldAddr CmdSmall_f26_3 rfl) ?_
                                  refine st_val (ro_load CmdSmall_g9 rfl (by exact hk1.rd 3 rfl)) ?_
                                  refine st_val (ro_eq (ro_eqlS rfl rfl) (congrArg Value.bool (beq0 i))) ?_
                                  refine st_val (ro_move (v := .bool _) rfl) ?_
                                  refine st_split (t := 56) rfl (fun Q14 => ?_) (fun Q14 => ?_)
                                  · (try first | replace Q14 := bn_t Q14 | replace Q14 := bn_f Q14)
                                    (try first | replace Q14 := bx_t Q14 | replace Q14 := bx_f Q14 | replace Q14 := be_t Q14 | replace Q14 := be_f Q14 | replace Q14 := of_decide_eq_true Q14 | replace Q14 := of_decide_eq_false Q14)
                                    first
                                     | (exfalso; first | omega | contradiction | (cases Q14; done))
                                     | skip
                                       refine st_unguard rfl ?_
                                       refine st_val (ro_fieldAddr CmdSmall_f26_4 rfl) ?_
                                       refine st_unguard rfl ?_
                                       refine st_val (ro_load CmdSmall_g9 rfl (by exact hk1.rd 4 rfl)) ?_
                                       refine st_unguard rfl ?_
                                       refine st_val (ro_eq (ro_eqlS rfl rfl) (congrArg Value.bool (beq0 t))) ?_
                                       refine st_val (ro_pickT (v := .bool _) rfl rfl) ?_
                                       refine st_call CmdSmall_k17 (must_any _ _) ?_
                                       rintro v61 w15 ⟨rfl, rfl⟩
                                       refine st_val (ro_assign (v := .int _ _) rfl) ?_
                                       refine st_nil ?_
                                       refine nx_then ?_
                                       refine cd_ret ?_
                                       refine rt_block ?_
                                       refine rt_then ?_
                                       refine res1 (v := .int _ _) rfl rfl ?_
                                       refine ⟨int_eq ?_, (From.rfl_.next E1)⟩
                                       first
                                         | (rw [if_pos (by unfold OkC; omega)])
                                         | (rw [if_neg (by unfold OkC; omega)])
                                         | (apply bool_if; unfold OkC; omega)
                                         | (rw [if_neg (by decide), if_neg (by unfold OkC; omega)])
                                  · (try first | replace Q14 := bn_t Q14 | replace Q14 := bn_f Q14)
                                    (try first | replace Q14 := bx_t Q14 | replace Q14 := bx_f Q14 | replace Q14 := be_t Q14 | replace Q14 := be_f Q14 | replace Q14 := of_decide_eq_true Q14 | replace Q14 := of_decide_eq_false Q14)
                                    first
                                     | (exfalso; first | omega | contradiction | (cases Q14; done))
                                     | skip
                                       refine st_gno rfl rfl ?_
                                       refine st_gno rfl rfl ?_
                                       refine st_gno rfl rfl ?_
                                       refine st_val (ro_pickF (v := .bool _) rfl rfl) ?_
                                       refine st_call CmdSmall_k17 (must_any _ _) ?_
                                       rintro v61 w16 ⟨rfl, rfl⟩
                                       refine st_val (ro_assign (v := .int _ _) rfl) ?_
                                       refine st_nil ?_
                                       refine nx_then ?_
                                       refine cd_ret ?_
                                       refine rt_block ?_
                                       refine rt_then ?_
                                       refine res1 (v := .int _ _) rfl rfl ?_
                                       refine ⟨int_eq ?_, (From.rfl_.next E1)⟩
                                       first
                                         | (rw [if_pos (by unfold OkC; omega)])
                                         | (rw [if_neg (by unfold OkC; omega)])
                                         | (apply bool_if; unfold OkC; omega)
                                         | (rw [if_neg (by decide), if_neg (by unfold OkC; omega)])
                             · (try first | replace Q13 := bn_t Q13 | replace Q13 := bn_f Q13)
                               (try first | replace Q13 := bx_t Q13 | replace Q13 := bx_f Q13 | replace Q13 := be_t Q13 | replace Q13 := be_f Q13 | replace Q13 := of_decide_eq_true Q13 | replace Q13 := of_decide_eq_false Q13)
                               first
                                | (exfalso; first | omega | contradiction | (cases Q13; done))
                                | skip
                                  refine cd_skip ?_
                                  refine nx_block ?_
                                  refine nx_then ?_
                                  refine cd_seq ?_
                                  refine cd_region ?_
                                  refine st_val (ro_assign (v := .int _ _) rfl) ?_
                                  refine st_nil ?_
                                  refine nx_then ?_
                                  refine cd_ret ?_
                                  refine res1 (v := .int _ _) rfl rfl ?_
                                  refine ⟨int_eq ?_, (From.rfl_.next E1)⟩
                                  first
                                    | (rw [if_pos (by unfold OkC; omega)])
                                    | (rw [if_neg (by unfold OkC; omega)])
                                    | (apply bool_if; unfold OkC; omega)
                                    | (rw [if_neg (by decide), if_neg (by unfold OkC; omega)])
set_option maxRecDepth 100000 in
set_option maxHeartbeats 400000 in
theorem rcmd (k c s : Int) (i t : ByteArray) (w : World) (hi : i.size ≤ 140737488351232) (ht : t.size ≤ 140737488351232) :
    Rt Try.prog 9 [.agg #[.int .i64 k, .int .i64 c, .int .i64 s, .string i, .string t]] w (fun v w' => v = .bool (decide (OkC k c s i t)) ∧ From w w') := by
  refine enter (n := 65) Try.func9 rfl rfl rfl ?_
  refine cd_seq ?_
  refine cd_region ?_
  refine st_box (v := .agg _) rfl ?_
  intro b1 w1 E1 hb1 hk1
  have hg1 : w.heap.size ≤ b1 := by rw [hb1]; exact Nat.le_refl _
  refine st_val (ro_assign (v := .bool _) rfl) ?_
  refine st_nil ?_
  refine nx_then ?_
  refine cd_seq ?_
  refine cd_region ?_
  refine st_val (ro_fieldAddr CmdSmall_f26_0 rfl) ?_
  refine st_val (ro_load CmdSmall_g3 rfl (by exact hk1.rd 0 rfl)) ?_
  refine st_val (ro_build (l := [(0, .tmp 5)]) (CmdSmall_b26_0 _)) ?_
  refine st_alloc CmdSmall_o26 ?_
  intro b3 w2 E3 hb3 hk3
  have hg3 : w.heap.size ≤ b3 := by rw [hb3]; exact ((From.rfl_.next E1)).size
  have hlt : b1 < b3 := by have := hk1.lt; omega
  replace hk1 := hk1.from_ E3
  refine st_putW (vs := [_, _, _, _, _]) CmdSmall_z26 rfl rfl (by simp [Value.oneCell']) (hk3) rfl ?_
  intro w3 O1 P1
  replace hk1 := hk1.only O1 (by omega)
  refine st_nil ?_
  refine nx_then ?_
  refine cd_seq ?_
  refine cd_seq ?_
  refine cd_region ?_
  refine st_val (ro_fieldAddr CmdSmall_f26_0 rfl) ?_
  refine st_val (ro_load CmdSmall_g3 rfl (by exact hk1.rd 0 rfl)) ?_
  refine st_val (ro_eql rfl rfl) ?_
  refine st_nil ?_
  refine nx_then ?_
  refine cd_cond rfl (fun Q4 => ?_) (fun Q4 => ?_)
  · (try first | replace Q4 := bn_t Q4 | replace Q4 := bn_f Q4)
    (try first | replace Q4 := bx_t Q4 | replace Q4 := bx_f Q4 | replace Q4 := be_t Q4 | replace Q4 := be_f Q4 | replace Q4 := of_decide_eq_true Q4 | replace Q4 := of_decide_eq_false Q4)
    first
     | (exfalso; first | omega | contradiction | (cases Q4; done))
     | skip
       refine cd_seq ?_
       refine cd_region ?_
       refine st_val (ro_loadA (cs := [_, _, _, _, _]) CmdSmall_g26 CmdSmall_z26 rfl (by exact P1.whole)) ?_
       refine st_val (ro_loadA (cs := [_, _, _, _, _]) CmdSmall_g26 CmdSmall_z26 rfl (by exact hk1.whole)) ?_
       refine st_val (ro_eq (ro_eqlCmd rfl rfl) (congrArg Value.bool (show decide (k = k ∧ 0 = c ∧ 0 = s ∧ (⟨#[]⟩ : ByteArray) = i ∧ (⟨#[]⟩ : ByteArray) = t) = decide (OkC k c s i t) by rw [decide_eq_decide, size0', size0']; unfold OkC; omega))) ?_
       refine st_val (ro_assign (v := .bool _) rfl) ?_
       refine st_nil ?_
       refine nx_then ?_
       refine cd_ret ?_
       refine rt_then ?_
       refine res1 (v := .bool _) rfl rfl ?_
       exact ⟨rfl, (((From.rfl_.next E1).next E3).only O1 (hg3))⟩
  · (try first | replace Q4 := bn_t Q4 | replace Q4 := bn_f Q4)
    (try first | replace Q4 := bx_t Q4 | replace Q4 := bx_f Q4 | replace Q4 := be_t Q4 | replace Q4 := be_f Q4 | replace Q4 := of_decide_eq_true Q4 | replace Q4 := of_decide_eq_false Q4)
    first
     | (exfalso; first | omega | contradiction | (cases Q4; done))
     | skip
       refine cd_skip ?_
       refine nx_then ?_
       refine cd_seq ?_
       have hU5 : UniT [(0, 13, .pointer (some ⟨b1, 1, none⟩)), (1, 14, .int .i64 c), (2, 15, .pointer (some ⟨b1, 2, none⟩)), (3, 16, .int .i64 s), (4, 17, .pointer (some ⟨b3, 1, none⟩)), (6, 18, .pointer (some ⟨b3, 2, none⟩))] := by simp [UniT]
       refine cd_invT [(0, 13, .pointer (some ⟨b1, 1, none⟩)), (1, 14, .int .i64 c), (2, 15, .pointer (some ⟨b1, 2, none⟩)), (3, 16, .int .i64 s), (4, 17, .pointer (some ⟨b3, 1, none⟩)), (6, 18, .pointer (some ⟨b3, 2, none⟩))] (fun S w' => Blk w' b1 26 #[.int .i64 k, .int .i64 c, .int .i64 s, .string i, .string t] ∧ Blk w' b3 26 #[.int .i64 k, bif S 5 then .int .i64 c else .int .i64 0, bif S 7 then .int .i64 s else .int .i64 0, .string ⟨#[]⟩, .string ⟨#[]⟩] ∧ From w w') (by kernel_rfl) (by kernel_rfl) hU5 (by simp) (⟨hk1.from_ From.rfl_.d1, P1.from_ From.rfl_.d1, ((((From.rfl_.next E1).next E3).only O1 (hg3))).d1⟩) ?_ ?_
       · refine ⟨?_, ?_⟩
         · rintro S L' wS hI hM hS0 ⟨-⟩
           have e1 := hI.1 1 (by simp)
           have hM' := hM
           obtain ⟨hk1, hX, hB⟩ := hM'
           exact step_ro (ro_fieldAddr CmdSmall_f26_1 e1) ⟨hI.put hU5 (.head _), hM⟩
         refine ⟨?_, ?_⟩
         · rintro S L' wS hI hM hS0 ⟨d0, -⟩
           have e13 : look L' 13 = .pointer (some ⟨b1, 1, none⟩) := hI.get (i := 0) (.head _) d0
           have hM' := hM
           obtain ⟨hk1, hX, hB⟩ := hM'
           exact step_ro (ro_load CmdSmall_g3 e13 (by exact hk1.rd 1 rfl)) ⟨hI.put hU5 (.tail _ (.head _)), hM⟩
         refine ⟨?_, ?_⟩
         · rintro S L' wS hI hM hS0 ⟨-, -⟩
           have e1 := hI.1 1 (by simp)
           have hM' := hM
           obtain ⟨hk1, hX, hB⟩ := hM'
           exact step_ro (ro_fieldAddr CmdSmall_f26_2 e1) ⟨hI.put hU5 (.tail _ (.tail _ (.head _))), hM⟩
         refine ⟨?_, ?_⟩
         · rintro S L' wS hI hM hS0 ⟨d2, -, -⟩
           have e15 : look L' 15 = .pointer (some ⟨b1, 2, none⟩) := hI.get (i := 2) (.tail _ (.tail _ (.head _))) d2
           have hM' := hM
           obtain ⟨hk1, hX, hB⟩ := hM'
           exact step_ro (ro_load CmdSmall_g3 e15 (by exact hk1.rd 2 rfl)) ⟨hI.put hU5 (.tail _ (.tail _ (.tail _ (.head _)))), hM⟩
         refine ⟨?_, ?_⟩
         · rintro S L' wS hI hM hS0 ⟨d0, d1, -, -, -⟩
           have e3 := hI.1 3 (by simp)
           have hM' := hM
           obtain ⟨hk1, hX, hB⟩ := hM'
           exact step_ro (ro_fieldAddr CmdSmall_f26_1 e3) ⟨hI.put hU5 (.tail _ (.tail _ (.tail _ (.tail _ (.head _))))), hM⟩
         refine ⟨?_, ?_⟩
         · rintro S L' wS hI hM hS0 ⟨d4, d1, d0, d1, -, -, -⟩
           have e14 : look L' 14 = .int .i64 c := hI.get (i := 1) (.tail _ (.head _)) d1
           have e17 : look L' 17 = .pointer (some ⟨b3, 1, none⟩) := hI.get (i := 4) (.tail _ (.tail _ (.tail _ (.tail _ (.head _))))) d4
           have hM' := hM
           obtain ⟨hk1, hX, hB⟩ := hM'
           obtain ⟨w2, hR, hO, hb⟩ := rs_put (n := 65) (L := L') (x := .tmp 17) (y := .tmp 14) CmdSmall_z3 e17 e14 rfl hX (by simp)
           exact step_rs hR ⟨hI.skip (by simp), hk1.only hO (by omega), hb, hB.only hO hg3⟩
         refine ⟨?_, ?_⟩
         · rintro S L' wS hI hM hS0 ⟨d0, d1, d2, d3, d4, d5, -⟩
           have e3 := hI.1 3 (by simp)
           have hM' := hM
           obtain ⟨hk1, hX, hB⟩ := hM'
           exact step_ro (ro_fieldAddr CmdSmall_f26_2 e3) ⟨hI.put hU5 (.tail _ (.tail _ (.tail _ (.tail _ (.tail _ (.head _)))))), hM⟩
         refine ⟨?_, ?_⟩
         · rintro S L' wS hI hM hS0 ⟨d6, d3, d5, d0, d1, d2, d3, d4, d5, -⟩
           have e16 : look L' 16 = .int .i64 s := hI.get (i := 3) (.tail _ (.tail _ (.tail _ (.head _)))) d3
           have e18 : look L' 18 = .pointer (some ⟨b3, 2, none⟩) := hI.get (i := 6) (.tail _ (.tail _ (.tail _ (.tail _ (.tail _ (.head _)))))) d6
           have hM' := hM
           obtain ⟨hk1, hX, hB⟩ := hM'
           obtain ⟨w2, hR, hO, hb⟩ := rs_put (n := 65) (L := L') (x := .tmp 18) (y := .tmp 16) CmdSmall_z3 e18 e16 rfl hX (by simp)
           exact step_rs hR ⟨hI.skip (by simp), hk1.only hO (by omega), hb, hB.only hO hg3⟩
         exact trivial
       · intro w6 hM
         obtain ⟨hk1, hX, hB⟩ := hM
         replace hX : Blk w6 b3 26 #[.int .i64 k, .int .i64 c, .int .i64 s, .string ⟨#[]⟩, .string ⟨#[]⟩] := hX
         refine nx_then ?_
         refine cd_cut (G := ByteArray × ByteArray) [2, 19, 20, 21, 22, 23, 24, 25, 26, 27, 28, 29, 30, 31, 32, 33, 34, 35] (fun _ => []) (fun (I, T) w' => (I = i ↔ (k = 2 ∨ k = 3 ∨ i.size = 0)) ∧ (T = t ↔ (k = 2 ∨ t.size = 0)) ∧ (k = 2 ∨ k = 3 ∨ k = 4) ∧ Blk w' b3 26 #[.int .i64 k, .int .i64 c, .int .i64 s, .string I, .string T] ∧ Blk w' b1 26 #[.int .i64 k, .int .i64 c, .int .i64 s, .string i, .string t] ∧ From w w') ?_ ?_
         · refine cd_seq ?_
           refine cd_region ?_
           refine st_val (ro_fieldAddr CmdSmall_f26_0 rfl) ?_
           refine st_val (ro_load CmdSmall_g3 rfl (by exact hk1.rd 0 rfl)) ?_
           refine st_nil ?_
           refine nx_then ?_
           refine cd_block ?_
           refine cd_seq ?_
           refine cd_region ?_
           refine st_val (ro_eql rfl rfl) ?_
           refine st_val (ro_assign (v := .bool _) rfl) ?_
           refine st_nil ?_
           refine nx_then ?_
           refine cd_cond rfl (fun Q7 => ?_) (fun Q7 => ?_)
           · (try first | replace Q7 := bn_t Q7 | replace Q7 := bn_f Q7)
             (try first | replace Q7 := bx_t Q7 | replace Q7 := bx_f Q7 | replace Q7 := be_t Q7 | replace Q7 := be_f Q7 | replace Q7 := of_decide_eq_true Q7 | replace Q7 := of_decide_eq_false Q7)
             first
              | (exfalso; first | omega | contradiction | (cases Q7; done))
              | skip
                have hU8 : UniT [(0, 23, .pointer (some ⟨b1, 3, none⟩)), (1, 24, .string i), (2, 25, .pointer (some ⟨b1, 4, none⟩)), (3, 26, .string t), (4, 27, .pointer (some ⟨b3, 3, none⟩)), (6, 28, .pointer (some ⟨b3, 4, none⟩))] := by simp [UniT]
                refine cd_invT [(0, 23, .pointer (some ⟨b1, 3, none⟩)), (1, 24, .string i), (2, 25, .pointer (some ⟨b1, 4, none⟩)), (3, 26, .string t), (4, 27, .pointer (some ⟨b3, 3, none⟩)), (6, 28, .pointer (some ⟨b3, 4, none⟩))] (fun S w' => Blk w' b1 26 #[.int .i64 k, .int .i64 c, .int .i64 s, .string i, .string t] ∧ Blk w' b3 26 #[.int .i64 k, .int .i64 c, .int .i64 s, bif S 5 then .string i else .string ⟨#[]⟩, bif S 7 then .string t else .string ⟨#[]⟩] ∧ From w w') (by kernel_rfl) (by kernel_rfl) hU8 (by simp) (⟨hk1.from_ From.rfl_.d1, hX.from_ From.rfl_.d1, (hB).d1⟩) ?_ ?_
                · refine ⟨?_, ?_⟩
                  · rintro S L' wS hI hM hS0 ⟨-⟩
                    have e1 := hI.1 1 (by simp)
                    have hM' := hM
                    obtain ⟨hk1, hX, hB⟩ := hM'
                    exact step_ro (ro_fieldAddr CmdSmall_f26_3 e1) ⟨hI.put hU8 (.head _), hM⟩
                  refine ⟨?_, ?_⟩
                  · rintro S L' wS hI hM hS0 ⟨d0, -⟩
                    have e23 : look L' 23 = .pointer (some ⟨b1, 3, none⟩) := hI.get (i := 0) (.head _) d0
                    have hM' := hM
                    obtain ⟨hk1, hX, hB⟩ := hM'
                    exact step_ro (ro_load CmdSmall_g9 e23 (by exact hk1.rd 3 rfl)) ⟨hI.put hU8 (.tail _ (.head _)), hM⟩
                  refine ⟨?_, ?_⟩
                  · rintro S L' wS hI hM hS0 ⟨-, -⟩
                    have e1 := hI.1 1 (by simp)
                    have hM' := hM
                    obtain ⟨hk1, hX, hB⟩ := hM'
                    exact step_ro (ro_fieldAddr CmdSmall_f26_4 e1) ⟨hI.put hU8 (.tail _ (.tail _ (.head _))), hM⟩
                  refine ⟨?_, ?_⟩
                  · rintro S L' wS hI hM hS0 ⟨d2, -, -⟩
                    have e25 : look L' 25 = .pointer (some ⟨b1, 4, none⟩) := hI.get (i := 2) (.tail _ (.tail _ (.head _))) d2
                    have hM' := hM
                    obtain ⟨hk1, hX, hB⟩ := hM'
                    exact step_ro (ro_load CmdSmall_g9 e25 (by exact hk1.rd 4 rfl)) ⟨hI.put hU8 (.tail _ (.tail _ (.tail _ (.head _)))), hM⟩
                  refine ⟨?_, ?_⟩
                  · rintro S L' wS hI hM hS0 ⟨d0, d1, -, -, -⟩
                    have e3 := hI.1 3 (by simp)
                    have hM' := hM
                    obtain ⟨hk1, hX, hB⟩ := hM'
                    exact step_ro (ro_fieldAddr CmdSmall_f26_3 e3) ⟨hI.put hU8 (.tail _ (.tail _ (.tail _ (.tail _ (.head _))))), hM⟩
                  refine ⟨?_, ?_⟩
                  · rintro S L' wS hI hM hS0 ⟨d4, d1, d0, d1, -, -, -⟩
                    have e24 : look L' 24 = .string i := hI.get (i := 1) (.tail _ (.head _)) d1
                    have e27 : look L' 27 = .pointer (some ⟨b3, 3, none⟩) := hI.get (i := 4) (.tail _ (.tail _ (.tail _ (.tail _ (.head _))))) d4
                    have hM' := hM
                    obtain ⟨hk1, hX, hB⟩ := hM'
                    obtain ⟨w2, hR, hO, hb⟩ := rs_put (n := 65) (L := L') (x := .tmp 27) (y := .tmp 24) CmdSmall_z9 e27 e24 rfl hX (by simp)
                    exact step_rs hR ⟨hI.skip (by simp), hk1.only hO (by omega), hb, hB.only hO hg3⟩
                  refine ⟨?_, ?_⟩
                  · rintro S L' wS hI hM hS0 ⟨d0, d1, d2, d3, d4, d5, -⟩
                    have e3 := hI.1 3 (by simp)
                    have hM' := hM
                    obtain ⟨hk1, hX, hB⟩ := hM'
                    exact step_ro (ro_fieldAddr CmdSmall_f26_4 e3) ⟨hI.put hU8 (.tail _ (.tail _ (.tail _ (.tail _ (.tail _ (.head _)))))), hM⟩
                  refine ⟨?_, ?_⟩
                  · rintro S L' wS hI hM hS0 ⟨d6, d3, d5, d0, d1, d2, d3, d4, d5, -⟩
                    have e26 : look L' 26 = .string t := hI.get (i := 3) (.tail _ (.tail _ (.tail _ (.head _)))) d3
                    have e28 : look L' 28 = .pointer (some ⟨b3, 4, none⟩) := hI.get (i := 6) (.tail _ (.tail _ (.tail _ (.tail _ (.tail _ (.head _)))))) d6
                    have hM' := hM
                    obtain ⟨hk1, hX, hB⟩ := hM'
                    obtain ⟨w2, hR, hO, hb⟩ := rs_put (n := 65) (L := L') (x := .tmp 28) (y := .tmp 26) CmdSmall_z9 e28 e26 rfl hX (by simp)
                    exact step_rs hR ⟨hI.skip (by simp), hk1.only hO (by omega), hb, hB.only hO hg3⟩
                  exact trivial
                · intro w9 hM
                  obtain ⟨hk1, hX, hB⟩ := hM
                  replace hX : Blk w9 b3 26 #[.int .i64 k, .int .i64 c, .int .i64 s, .string i, .string t] := hX
                  refine nx_block ?_
                  refine nx_cut ((i, t)) trivial (by (iterate 10 refine agr_cons rfl ?_); exact agr_rfl) ?_
                  exact ⟨⟨fun _ => by omega, fun _ => rfl⟩, ⟨fun _ => by omega, fun _ => rfl⟩, by omega, hX, hk1, hB⟩
           · (try first | replace Q7 := bn_t Q7 | replace Q7 := bn_f Q7)
             (try first | replace Q7 := bx_t Q7 | replace Q7 := bx_f Q7 | replace Q7 := be_t Q7 | replace Q7 := be_f Q7 | replace Q7 := of_decide_eq_true Q7 | replace Q7 := of_decide_eq_false Q7)
             first
              | (exfalso; first | omega | contradiction | (cases Q7; done))
              | skip
                refine cd_seq ?_
                refine cd_region ?_
                refine st_val (ro_eql rfl rfl) ?_
                refine st_val (ro_assign (v := .bool _) rfl) ?_
                refine st_nil ?_
                refine nx_then ?_
                refine cd_cond rfl (fun Q10 => ?_) (fun Q10 => ?_)
                · (try first | replace Q10 := bn_t Q10 | replace Q10 := bn_f Q10)
                  (try first | replace Q10 := bx_t Q10 | replace Q10 := bx_f Q10 | replace Q10 := be_t Q10 | replace Q10 := be_f Q10 | replace Q10 := of_decide_eq_true Q10 | replace Q10 := of_decide_eq_false Q10)
                  first
                   | (exfalso; first | omega | contradiction | (cases Q10; done))
                   | skip
                     refine cd_region ?_
                     refine st_val (ro_fieldAddr CmdSmall_f26_3 rfl) ?_
                     refine st_val (ro_load CmdSmall_g9 rfl (by exact hk1.rd 3 rfl)) ?_
                     refine st_val (ro_fieldAddr CmdSmall_f26_3 rfl) ?_
                     refine st_put (v := .string _) CmdSmall_z9 rfl rfl rfl (hX) (by simp) ?_
                     intro w11 O10 P10
                     replace hk1 := hk1.only O10 (by omega)
                     replace P10 : Blk w11 b3 26 #[.int .i64 k, .int .i64 c, .int .i64 s, .string i, .string ⟨#[]⟩] := P10
                     refine st_nil ?_
                     refine nx_block ?_
                     refine nx_cut ((i, ⟨#[]⟩)) trivial (by (iterate 9 refine agr_cons rfl ?_); exact agr_rfl) ?_
                     exact ⟨⟨fun _ => by omega, fun _ => rfl⟩, by rw [size0']; omega, by omega, P10, hk1, (hB.only O10 (hg3))⟩
                · (try first | replace Q10 := bn_t Q10 | replace Q10 := bn_f Q10)
                  (try first | replace Q10 := bx_t Q10 | replace Q10 := bx_f Q10 | replace Q10 := be_t Q10 | replace Q10 := be_f Q10 | replace Q10 := of_decide_eq_true Q10 | replace Q10 := of_decide_eq_false Q10)
                  first
                   | (exfalso; first | omega | contradiction | (cases Q10; done))
                   | skip
                     refine cd_seq ?_
                     refine cd_region ?_
                     refine st_val (ro_eql rfl rfl) ?_
                     refine st_val (ro_assign (v := .bool _) rfl) ?_
                     refine st_nil ?_
                     refine nx_then ?_
                     refine cd_cond rfl (fun Q12 => ?_) (fun Q12 => ?_)
                     · (try first | replace Q12 := bn_t Q12 | replace Q12 := bn_f Q12)
                       (try first | replace Q12 := bx_t Q12 | replace Q12 := bx_f Q12 | replace Q12 := be_t Q12 | replace Q12 := be_f Q12 | replace Q12 := of_decide_eq_true Q12 | replace Q12 := of_decide_eq_false Q12)
                       first
                        | (exfalso; first | omega | contradiction | (cases Q12; done))
                        | skip
                          refine cd_skip ?_
                          refine nx_block ?_
                          refine nx_cut ((⟨#[]⟩, ⟨#[]⟩)) trivial (by (iterate 8 refine agr_cons rfl ?_); exact agr_rfl) ?_
                          exact ⟨by rw [size0']; omega, by rw [size0']; omega, by omega, hX, hk1, hB⟩
                     · (try first | replace Q12 := bn_t Q12 | replace Q12 := bn_f Q12)
                       (try first | replace Q12 := bx_t Q12 | replace Q12 := bx_f Q12 | replace Q12 := be_t Q12 | replace Q12 := be_f Q12 | replace Q12 := of_decide_eq_true Q12 | replace Q12 := of_decide_eq_false Q12)
                       first
                        | (exfalso; first | omega | contradiction | (cases Q12; done))
                        | skip
                          refine cd_seq ?_
                          refine cd_region ?_
                          refine st_val (ro_assign (v := .bool _) rfl) ?_
                          refine st_nil ?_
                          refine nx_then ?_
                          refine cd_ret ?_
                          refine rt_block ?_
                          refine rt_then ?_
                          refine res1 (v := .bool _) rfl rfl ?_
                          refine ⟨congrArg Value.bool ?_, hB⟩
                          first
                            | (rw [eq_comm, decide_eq_false_iff_not]; unfold OkC; omega)
                            | (rw [decide_eq_decide]; unfold OkC; omega)
         · rintro ⟨I, T⟩ ρ13 w13 ⟨hI, hT, hk, hX, hk1, hB⟩
           refine cd_seq ?_
           refine cd_region ?_
           refine st_val (ro_loadA (cs := [_, _, _, _, _]) CmdSmall_g26 CmdSmall_z26 rfl (by exact hX.whole)) ?_
           refine st_val (ro_loadA (cs := [_, _, _, _, _]) CmdSmall_g26 CmdSmall_z26 rfl (by exact hk1.whole)) ?_
           refine st_val (ro_eq (ro_eqlCmd rfl rfl) (congrArg Value.bool (show decide (k = k ∧ c = c ∧ s = s ∧ I = i ∧ T = t) = decide ((k = 2 ∨ k = 3 ∨ i.size = 0) ∧ (k = 2 ∨ t.size = 0)) by rw [decide_eq_decide, hI, hT]; omega))) ?_
           refine st_val (ro_move (v := .bool _) rfl) ?_
           refine st_split (t := 39) rfl (fun Q14 => ?_) (fun Q14 => ?_)
           · (try first | replace Q14 := bn_t Q14 | replace Q14 := bn_f Q14)
             (try first | replace Q14 := bx_t Q14 | replace Q14 := bx_f Q14 | replace Q14 := be_t Q14 | replace Q14 := be_f Q14 | replace Q14 := of_decide_eq_true Q14 | replace Q14 := of_decide_eq_false Q14)
             first
              | (exfalso; first | omega | contradiction | (cases Q14; done))
              | skip
                refine st_unguard rfl ?_
                refine st_val (ro_fieldAddr CmdSmall_f26_1 rfl) ?_
                refine st_unguard rfl ?_
                refine st_val (ro_load CmdSmall_g3 rfl (by exact hk1.rd 1 rfl)) ?_
                refine st_unguard rfl ?_
                refine st_call CmdSmall_k16 (id_any c _) ?_
                rintro v42 w15 ⟨rfl, rfl⟩
                refine st_val (ro_pickT (v := .bool _) rfl rfl) ?_
                refine st_val (ro_move (v := .bool _) rfl) ?_
                refine st_split (t := 44) rfl (fun Q16 => ?_) (fun Q16 => ?_)
                · (try first | replace Q16 := bn_t Q16 | replace Q16 := bn_f Q16)
                  (try first | replace Q16 := bx_t Q16 | replace Q16 := bx_f Q16 | replace Q16 := be_t Q16 | replace Q16 := be_f Q16 | replace Q16 := of_decide_eq_true Q16 | replace Q16 := of_decide_eq_false Q16)
                  first
                   | (exfalso; first | omega | contradiction | (cases Q16; done))
                   | skip
                     refine st_unguard rfl ?_
                     refine st_val (ro_fieldAddr CmdSmall_f26_2 rfl) ?_
                     refine st_unguard rfl ?_
                     refine st_val (ro_load CmdSmall_g3 rfl (by exact hk1.rd 2 rfl)) ?_
                     refine st_unguard rfl ?_
                     refine st_call CmdSmall_k16 (id_any s _) ?_
                     rintro v47 w17 ⟨rfl, rfl⟩
                     refine st_val (ro_pickT (v := .bool _) rfl rfl) ?_
                     refine st_val (ro_move (v := .bool _) rfl) ?_
                     refine st_split (t := 49) rfl (fun Q18 => ?_) (fun Q18 => ?_)
                     · (try first | replace Q18 := bn_t Q18 | replace Q18 := bn_f Q18)
                       (try first | replace Q18 := bx_t Q18 | replace Q18 := bx_f Q18 | replace Q18 := be_t Q18 | replace Q18 := be_f Q18 | replace Q18 := of_decide_eq_true Q18 | replace Q18 := of_decide_eq_false Q18)
                       first
                        | (exfalso; first | omega | contradiction | (cases Q18; done))
                        | skip
                          refine st_unguard rfl ?_
                          refine st_val (ro_fieldAddr CmdSmall_f26_3 rfl) ?_
                          refine st_unguard rfl ?_
                          refine st_val (ro_load CmdSmall_g9 rfl (by exact hk1.rd 3 rfl)) ?_
                          refine st_unguard rfl ?_
                          refine st_val (ro_lenS (by kernel_rfl) rfl) ?_
                          refine st_unguard rfl ?_
                          refine st_val (ro_leq rfl rfl) ?_
                          refine st_val (ro_pickT (v := .bool _) rfl rfl) ?_
                          refine st_val (ro_move (v := .bool _) rfl) ?_
                          refine st_split (t := 55) rfl (fun Q19 => ?_) (fun Q19 => ?_)
                          · (try first | replace Q19 := bn_t Q19 | replace Q19 := bn_f Q19)
                            (try first | replace Q19 := bx_t Q19 | replace Q19 := bx_f Q19 | replace Q19 := be_t Q19 | replace Q19 := be_f Q19 | replace Q19 := of_decide_eq_true Q19 | replace Q19 := of_decide_eq_false Q19)
                            first
                             | (exfalso; first | omega | contradiction | (cases Q19; done))
                             | skip
                               refine st_unguard rfl ?_
                               refine st_val (ro_fieldAddr CmdSmall_f26_4 rfl) ?_
                               refine st_unguard rfl ?_
                               refine st_val (ro_load CmdSmall_g9 rfl (by exact hk1.rd 4 rfl)) ?_
                               refine st_unguard rfl ?_
                               refine st_val (ro_lenS (by kernel_rfl) rfl) ?_
                               refine st_unguard rfl ?_
                               refine st_val (ro_fieldAddr CmdSmall_f26_3 rfl) ?_
                               refine st_unguard rfl ?_
                               refine st_val (ro_load CmdSmall_g9 rfl (by exact hk1.rd 3 rfl)) ?_
                               refine st_unguard rfl ?_
                               refine st_val (ro_lenS (by kernel_rfl) rfl) ?_
                               refine st_unguard rfl ?_
                               refine st_val (ro_sub64 rfl rfl (by omega)) ?_
                               refine st_unguard rfl ?_
                               refine st_val (ro_leq rfl rfl) ?_
                               refine st_val (ro_pickT (v := .bool _) rfl rfl) ?_
                               refine st_val (ro_assign (v := .bool _) rfl) ?_
                               refine st_nil ?_
                               refine nx_then ?_
                               refine cd_ret ?_
                               refine res1 (v := .bool _) rfl rfl ?_
                               refine ⟨congrArg Value.bool ?_, hB⟩
                               first
                                 | (rw [eq_comm, decide_eq_false_iff_not]; unfold OkC; omega)
                                 | (rw [decide_eq_decide]; unfold OkC; omega)
                          · (try first | replace Q19 := bn_t Q19 | replace Q19 := bn_f Q19)
                            (try first | replace Q19 := bx_t Q19 | replace Q19 := bx_f Q19 | replace Q19 := be_t Q19 | replace Q19 := be_f Q19 | replace Q19 := of_decide_eq_true Q19 | replace Q19 := of_decide_eq_false Q19)
                            first
                             | (exfalso; first | omega | contradiction | (cases Q19; done))
                             | skip
                               refine st_gno rfl rfl ?_
                               refine st_gno rfl rfl ?_
                               refine st_gno rfl rfl ?_
                               refine st_gno rfl rfl ?_
                               refine st_gno rfl rfl ?_
                               refine st_gno rfl rfl ?_
                               refine st_gno rfl rfl ?_
                               refine st_gno rfl rfl ?_
                               refine st_val (ro_pickF (v := .bool _) rfl rfl) ?_
                               refine st_val (ro_assign (v := .bool _) rfl) ?_
                               refine st_nil ?_
                               refine nx_then ?_
                               refine cd_ret ?_
                               refine res1 (v := .bool _) rfl rfl ?_
                               refine ⟨congrArg Value.bool ?_, hB⟩
                               first
                                 | (rw [eq_comm, decide_eq_false_iff_not]; unfold OkC; omega)
                                 | (rw [decide_eq_decide]; unfold OkC; omega)
                     · (try first | replace Q18 := bn_t Q18 | replace Q18 := bn_f Q18)
                       (try first | replace Q18 := bx_t Q18 | replace Q18 := bx_f Q18 | replace Q18 := be_t Q18 | replace Q18 := be_f Q18 | replace Q18 := of_decide_eq_true Q18 | replace Q18 := of_decide_eq_false Q18)
                       first
                        | (exfalso; first | omega | contradiction | (cases Q18; done))
                        | skip
                          refine st_gno rfl rfl ?_
                          refine st_gno rfl rfl ?_
                          refine st_gno rfl rfl ?_
                          refine st_gno rfl rfl ?_
                          refine st_val (ro_pickF (v := .bool _) rfl rfl) ?_
                          refine st_val (ro_move (v := .bool _) rfl) ?_
                          refine st_gno rfl rfl ?_
                          refine st_gno rfl rfl ?_
                          refine st_gno rfl rfl ?_
                          refine st_gno rfl rfl ?_
                          refine st_gno rfl rfl ?_
                          refine st_gno rfl rfl ?_
                          refine st_gno rfl rfl ?_
                          refine st_gno rfl rfl ?_
                          refine st_val (ro_pickF (v := .bool _) rfl rfl) ?_
                          refine st_val (ro_assign (v := .bool _) rfl) ?_
                          refine st_nil ?_
                          refine nx_then ?_
                          refine cd_ret ?_
                          refine res1 (v := .bool _) rfl rfl ?_
                          refine ⟨congrArg Value.bool ?_, hB⟩
                          first
                            | (rw [eq_comm, decide_eq_false_iff_not]; unfold OkC; omega)
                            | (rw [decide_eq_decide]; unfold OkC; omega)
                · (try first | replace Q16 := bn_t Q16 | replace Q16 := bn_f Q16)
                  (try first | replace Q16 := bx_t Q16 | replace Q16 := bx_f Q16 | replace Q16 := be_t Q16 | replace Q16 := be_f Q16 | replace Q16 := of_decide_eq_true Q16 | replace Q16 := of_decide_eq_false Q16)
                  first
                   | (exfalso; first | omega | contradiction | (cases Q16; done))
                   | skip
                     refine st_gno rfl rfl ?_
                     refine st_gno rfl rfl ?_
                     refine st_gno rfl rfl ?_
                     refine st_val (ro_pickF (v := .bool _) rfl rfl) ?_
                     refine st_val (ro_move (v := .bool _) rfl) ?_
                     refine st_gno rfl rfl ?_
                     refine st_gno rfl rfl ?_
                     refine st_gno rfl rfl ?_
                     refine st_gno rfl rfl ?_
                     refine st_val (ro_pickF (v := .bool _) rfl rfl) ?_
                     refine st_val (ro_move (v := .bool _) rfl) ?_
                     refine st_gno rfl rfl ?_
                     refine st_gno rfl rfl ?_
                     refine st_gno rfl rfl ?_
                     refine st_gno rfl rfl ?_
                     refine st_gno rfl rfl ?_
                     refine st_gno rfl rfl ?_
                     refine st_gno rfl rfl ?_
                     refine st_gno rfl rfl ?_
                     refine st_val (ro_pickF (v := .bool _) rfl rfl) ?_
                     refine st_val (ro_assign (v := .bool _) rfl) ?_
                     refine st_nil ?_
                     refine nx_then ?_
                     refine cd_ret ?_
                     refine res1 (v := .bool _) rfl rfl ?_
                     refine ⟨congrArg Value.bool ?_, hB⟩
                     first
                       | (rw [eq_comm, decide_eq_false_iff_not]; unfold OkC; omega)
                       | (rw [decide_eq_decide]; unfold OkC; omega)
           · (try first | replace Q14 := bn_t Q14 | replace Q14 := bn_f Q14)
             (try first | replace Q14 := bx_t Q14 | replace Q14 := bx_f Q14 | replace Q14 := be_t Q14 | replace Q14 := be_f Q14 | replace Q14 := of_decide_eq_true Q14 | replace Q14 := of_decide_eq_false Q14)
             first
              | (exfalso; first | omega | contradiction | (cases Q14; done))
              | skip
                refine st_gno rfl rfl ?_
                refine st_gno rfl rfl ?_
                refine st_gno rfl rfl ?_
                refine st_val (ro_pickF (v := .bool _) rfl rfl) ?_
                refine st_val (ro_move (v := .bool _) rfl) ?_
                refine st_gno rfl rfl ?_
                refine st_gno rfl rfl ?_
                refine st_gno rfl rfl ?_
                refine st_val (ro_pickF (v := .bool _) rfl rfl) ?_
                refine st_val (ro_move (v := .bool _) rfl) ?_
                refine st_gno rfl rfl ?_
                refine st_gno rfl rfl ?_
                refine st_gno rfl rfl ?_
                refine st_gno rfl rfl ?_
                refine st_val (ro_pickF (v := .bool _) rfl rfl) ?_
                refine st_val (ro_move (v := .bool _) rfl) ?_
                refine st_gno rfl rfl ?_
                refine st_gno rfl rfl ?_
                refine st_gno rfl rfl ?_
                refine st_gno rfl rfl ?_
                refine st_gno rfl rfl ?_
                refine st_gno rfl rfl ?_
                refine st_gno rfl rfl ?_
                refine st_gno rfl rfl ?_
                refine st_val (ro_pickF (v := .bool _) rfl rfl) ?_
                refine st_val (ro_assign (v := .bool _) rfl) ?_
                refine st_nil ?_
                refine nx_then ?_
                refine cd_ret ?_
                refine res1 (v := .bool _) rfl rfl ?_
                refine ⟨congrArg Value.bool ?_, hB⟩
                first
                  | (rw [eq_comm, decide_eq_false_iff_not]; unfold OkC; omega)
                  | (rw [decide_eq_decide]; unfold OkC; omega)
end Go.Proofs.Ythacjhdodjgojaa
