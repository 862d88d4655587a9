/- Helpers of the laws of package ints. -/
import Derived.Test.YtgnmmifolhoaeaaFast5
import Derived.Test.YtgnmmifolhoaeaaIntsBytes
namespace Go.Proofs.Ytgnmmifolhoaeaa
open Go.RowKit

theorem IntsHelp_e24 : elemQ Try.prog 24 = some (5, 1) := by kernel_rfl
theorem IntsHelp_l24 : (elemQ Try.prog 24).isSome = true := by kernel_rfl
theorem IntsHelp_g5 : aggQ Try.prog 5 = some false := by kernel_rfl
theorem IntsHelp_q24 : litQ Try.prog 24 = some (5, 1, 1, (.int .u8 0)) := by kernel_rfl
theorem IntsHelp_e23 : elemQ Try.prog 23 = some (47, 1) := by kernel_rfl
theorem IntsHelp_l23 : (elemQ Try.prog 23).isSome = true := by kernel_rfl
theorem IntsHelp_g47 : aggQ Try.prog 47 = some false := by kernel_rfl
theorem IntsHelp_q23 : litQ Try.prog 23 = some (47, 1, 8, (.int .u64 0)) := by kernel_rfl
theorem IntsHelp_z5 : sizeQ Try.prog 5 = some 1 := by kernel_rfl
set_option maxRecDepth 100000 in
set_option maxHeartbeats 400000 in
theorem num_any (e : Int) (w : World) :
    Rt Try.prog 12 [.int .i64 e] w (fun v w' => v = .int .i64 e ∧ w = w') := by
  refine enter (n := 4) Try.func12 rfl rfl rfl ?_
  refine cd_seq ?_
  refine cd_region ?_
  refine st_val (ro_assign (v := .int _ _) rfl) ?_
  refine st_nil ?_
  refine nx_then ?_
  refine cd_seq ?_
  refine cd_region ?_
  refine st_val (ro_move (v := .int _ _) rfl) ?_
  refine st_val (ro_assign (v := .int _ _) rfl) ?_
  refine st_nil ?_
  refine nx_then ?_
  refine cd_ret ?_
  refine res1 (v := .int _ _) rfl rfl ?_
  exact ⟨rfl, rfl⟩
theorem eq_ge {α : Type} {a b : List α} {k : Nat} (hl : a.length = b.length) (hk : ¬ k < a.length) (h : a.take k = b.take k) : a = b := by
  rw [List.take_of_length_le (by omega), List.take_of_length_le (by omega)] at h
  exact h
theorem take_eq {α : Type} {a b : List α} {k : Nat} (ha : k < a.length) (hb : k < b.length) (h : a.take k = b.take k) (he : a[k] = b[k]) : a.take (k + 1) = b.take (k + 1) := by
  rw [List.take_succ_eq_append_getElem ha, List.take_succ_eq_append_getElem hb, h, he]

set_option maxRecDepth 100000 in
set_option maxHeartbeats 400000 in
theorem eqBytes_any (A B : Option Addr) (ca cb : Nat) (a b : List Nat) (w : World) (ha : RowOf bV w A a) (hb : RowOf bV w B b) (hla : a.length * 1 ≤ 140737488351232) :
    Rt Try.prog 15 [.slice A a.length ca, .slice B b.length cb] w (fun v w' => v = .bool (decide (a = b)) ∧ From w w') := by
  refine enter (n := 26) Try.func15 rfl rfl rfl ?_
  refine cd_seq ?_
  refine cd_region ?_
  refine st_val (ro_assign (v := .bool _) rfl) ?_
  refine st_nil ?_
  refine nx_then ?_
  refine cd_seq ?_
  refine cd_seq ?_
  refine cd_region ?_
  refine st_val (ro_move (v := .slice _ _ _) rfl) ?_
  refine st_val (ro_len IntsHelp_l24 rfl) ?_
  refine st_val (ro_move (v := .slice _ _ _) rfl) ?_
  refine st_val (ro_len IntsHelp_l24 rfl) ?_
  refine st_val (ro_neq rfl rfl) ?_
  refine st_nil ?_
  refine nx_then ?_
  refine cd_cond rfl (fun Q1 => ?_) (fun Q1 => ?_)
  · (try first | replace Q1 := bn_t Q1 | replace Q1 := bn_f Q1)
    (try first | replace Q1 := bx_t Q1 | replace Q1 := bx_f Q1 | replace Q1 := be_t Q1 | replace Q1 := be_f Q1 | replace Q1 := of_decide_eq_true Q1 | replace Q1 := of_decide_eq_false Q1)
    first
     | (exfalso; first | omega | contradiction | (cases Q1; done))
     | skip
       refine cd_seq ?_
       refine cd_region ?_
       refine st_val (ro_assign (v := .bool _) rfl) ?_
       refine st_nil ?_
       refine nx_then ?_
       refine cd_ret ?_
       refine rt_then ?_
       refine res1 (v := .bool _) rfl rfl ?_
       exact ⟨by rw [decide_eq_false]; rintro rfl; omega, From.rfl_⟩
  · (try first | replace Q1 := bn_t Q1 | replace Q1 := bn_f Q1)
    (try first | replace Q1 := bx_t Q1 | replace Q1 := bx_f Q1 | replace Q1 := be_t Q1 | replace Q1 := be_f Q1 | replace Q1 := of_decide_eq_true Q1 | replace Q1 := of_decide_eq_false Q1)
    first
     | (exfalso; first | omega | contradiction | (cases Q1; done))
     | skip
       refine cd_skip ?_
       refine nx_then ?_
       refine cd_seq ?_
       refine cd_seq ?_
       refine cd_region ?_
       refine st_val (ro_assign (v := .int _ _) rfl) ?_
       refine st_nil ?_
       refine nx_then ?_
       refine cd_block ?_
       refine cd_loop (G := Nat) [4, 11, 12, 13, 14, 15, 16, 17, 18, 19, 20, 21, 22, 23, 24, 25] (fun k => [(5, .int .i64 (k : Nat))]) (fun k w' => k ≤ a.length ∧ a.take k = b.take k ∧ From w w') (fun k => a.length - k) (0) ⟨rfl, trivial⟩ ?_ ?_
       · exact ⟨Nat.zero_le _, rfl, From.rfl_⟩
       rintro k ρ2 w2 ⟨hk, ht, hB⟩
       refine cd_seq ?_
       refine cd_seq ?_
       refine cd_region ?_
       refine st_val (ro_move (v := .int _ _) rfl) ?_
       refine st_val (ro_move (v := .slice _ _ _) rfl) ?_
       refine st_val (ro_len IntsHelp_l24 rfl) ?_
       refine st_val (ro_lss rfl rfl) ?_
       refine st_nil ?_
       refine nx_then ?_
       refine cd_cond rfl (fun Q3 => ?_) (fun Q3 => ?_)
       · (try first | replace Q3 := bn_t Q3 | replace Q3 := bn_f Q3)
         (try first | replace Q3 := bx_t Q3 | replace Q3 := bx_f Q3 | replace Q3 := be_t Q3 | replace Q3 := be_f Q3 | replace Q3 := of_decide_eq_true Q3 | replace Q3 := of_decide_eq_false Q3)
         obtain ⟨ba, oa, rfl, ca⟩ := ha (by omega)
         obtain ⟨bb, ob, rfl, cb⟩ := hb (by omega)
         first
          | (exfalso; first | omega | contradiction | (cases Q3; done))
          | skip
            refine cd_skip ?_
            refine nx_then ?_
            refine cd_seq ?_
            refine cd_block ?_
            refine cd_seq ?_
            apply cd_drawn 9 [(17, eqp _), (18, eqp _), (19, eqp _), (20, eqp _), (21, eqp _), (22, eqp _), (23, eqp _), (24, eqp _), (25, eqp _)] (by kernel_rfl) (by kernel_rfl) ⟨eqp_mono _, eqp_mono _, eqp_mono _, eqp_mono _, eqp_mono _, eqp_mono _, eqp_mono _, eqp_mono _, eqp_mono _, trivial⟩
            case hop =>
             refine ⟨?_, ?_⟩
             · intro w5 D5
               show OpOK _ _ _ _ _ _ _
               exact ok_pure (ro_move (v := .slice _ _ _) rfl) rfl
             refine ⟨?_, ?_⟩
             · intro w6 D6
               show OpOK _ _ _ _ _ _ _
               exact ok_pure (ro_move (v := .int _ _) rfl) rfl
             refine ⟨?_, ?_⟩
             · intro w7 D7
               rintro _ rfl _ rfl
               show OpOK _ _ _ _ _ _ _
               exact ok_pure (ro_indexAddr1 IntsHelp_e24 rfl rfl (by omega)) rfl
             refine ⟨?_, ?_⟩
             · intro w8 D8
               rintro _ rfl
               show OpOK _ _ _ _ _ _ _
               exact ok_pure (ro_load IntsHelp_g5 rfl (by first | (exact cellF (hB.next D8) (ca k (by omega))) | (exact cellF (hB.next D8) (cb k (by omega))))) rfl
             refine ⟨?_, ?_⟩
             · intro w9 D9
               show OpOK _ _ _ _ _ _ _
               exact ok_pure (ro_move (v := .slice _ _ _) rfl) rfl
             refine ⟨?_, ?_⟩
             · intro w10 D10
               show OpOK _ _ _ _ _ _ _
               exact ok_pure (ro_move (v := .int _ _) rfl) rfl
             refine ⟨?_, ?_⟩
             · intro w11 D11
               rintro _ rfl _ rfl
               show OpOK _ _ _ _ _ _ _
               exact ok_pure (ro_indexAddr1 IntsHelp_e24 rfl rfl (by omega)) rfl
             refine ⟨?_, ?_⟩
             · intro w12 D12
               rintro _ rfl
               show OpOK _ _ _ _ _ _ _
               exact ok_pure (ro_load IntsHelp_g5 rfl (by first | (exact cellF (hB.next D12) (ca k (by omega))) | (exact cellF (hB.next D12) (cb k (by omega))))) rfl
             refine ⟨?_, ?_⟩
             · intro w13 D13
               rintro _ rfl _ rfl
               show OpOK _ _ _ _ _ _ _
               exact ok_pure (ro_neq rfl rfl) rfl
             exact trivial
            case hend =>
             intro w14 D14
             rintro _ rfl _ rfl _ rfl _ rfl _ rfl _ rfl _ rfl _ rfl _ rfl
             show St _ _ _ _ _ _ _
             refine st_nil ?_
             refine nx_then ?_
             refine cd_cond rfl (fun Q15 => ?_) (fun Q15 => ?_)
             · (try first | replace Q15 := bn_t Q15 | replace Q15 := bn_f Q15)
               (try first | replace Q15 := bx_t Q15 | replace Q15 := bx_f Q15 | replace Q15 := be_t Q15 | replace Q15 := be_f Q15 | replace Q15 := of_decide_eq_true Q15 | replace Q15 := of_decide_eq_false Q15)
               first
                | (exfalso; first | omega | contradiction | (cases Q15; done))
                | skip
                  refine cd_seq ?_
                  refine cd_region ?_
                  refine st_val (ro_assign (v := .bool _) rfl) ?_
                  refine st_nil ?_
                  refine nx_then ?_
                  refine cd_ret ?_
                  refine rt_block ?_
                  refine rt_then ?_
                  refine rt_then ?_
                  refine rt_block ?_
                  refine rt_then ?_
                  refine res1 (v := .bool _) rfl rfl ?_
                  exact ⟨by rw [decide_eq_false]; rintro rfl; exact absurd rfl (by assumption), (hB.next D14)⟩
             · (try first | replace Q15 := bn_t Q15 | replace Q15 := bn_f Q15)
               (try first | replace Q15 := bx_t Q15 | replace Q15 := bx_f Q15 | replace Q15 := be_t Q15 | replace Q15 := be_f Q15 | replace Q15 := of_decide_eq_true Q15 | replace Q15 := of_decide_eq_false Q15)
               first
                | (exfalso; first | omega | contradiction | (cases Q15; done))
                | skip
                  refine cd_skip ?_
                  refine nx_block ?_
                  refine nx_then ?_
                  refine cd_region ?_
                  refine st_val (ro_move (v := .int _ _) rfl) ?_
                  refine st_val (ro_add64 rfl rfl (by omega)) ?_
                  refine st_val (ro_assign (v := .int _ _) rfl) ?_
                  refine st_nil ?_
                  refine nx_cut (k + 1) ⟨(by first | rfl | (refine int_eq ?_; omega)), trivial⟩ (by (iterate 33 refine agr_cons rfl ?_); exact agr_rfl) ⟨?_, ?_⟩
                  · exact ⟨by omega, take_eq (by omega) (by omega) ht (by omega), (hB.next D14)⟩
                  · omega
       · (try first | replace Q3 := bn_t Q3 | replace Q3 := bn_f Q3)
         (try first | replace Q3 := bx_t Q3 | replace Q3 := bx_f Q3 | replace Q3 := be_t Q3 | replace Q3 := be_f Q3 | replace Q3 := of_decide_eq_true Q3 | replace Q3 := of_decide_eq_false Q3)
         first
          | (exfalso; first | omega | contradiction | (cases Q3; done))
          | skip
            refine cd_exit ?_
            refine ex_then ?_
            refine ex_then ?_
            refine ex_block ?_
            refine nx_then ?_
            refine cd_seq ?_
            refine cd_region ?_
            refine st_val (ro_assign (v := .bool _) rfl) ?_
            refine st_nil ?_
            refine nx_then ?_
            refine cd_ret ?_
            refine res1 (v := .bool _) rfl rfl ?_
            exact ⟨by rw [decide_eq_true (eq_ge (by omega) (by omega) ht)], hB⟩
set_option maxRecDepth 100000 in
set_option maxHeartbeats 400000 in
theorem copyBytes_any (A : Option Addr) (c : Nat) (l : List Nat) (w : World) (hr : RowOf bV w A l) (hl : l.length * 1 ≤ 140737488351232) :
    Rt Try.prog 19 [.slice A l.length c] w (fun v w' => ∃ A' c', v = .slice A' l.length c' ∧ w'.ownsRow w.heap.size 5 1 v l.length (l.map bV) ∧ From w w') := by
  refine enter (n := 19) Try.func19 rfl rfl rfl ?_
  refine cd_seq ?_
  refine cd_region ?_
  refine st_val (ro_assign (v := .slice _ _ _) rfl) ?_
  refine st_nil ?_
  refine nx_then ?_
  refine cd_seq ?_
  refine cd_region ?_
  refine st_val (ro_assign (v := .slice _ _ _) rfl) ?_
  refine st_nil ?_
  refine nx_then ?_
  refine cd_seq ?_
  refine cd_seq ?_
  refine cd_region ?_
  refine st_val (ro_assign (v := .int _ _) rfl) ?_
  refine st_nil ?_
  refine nx_then ?_
  refine cd_block ?_
  refine cd_loop (G := Nat × Option Addr × Nat) [5, 6, 7, 8, 9, 10, 11, 12, 13, 14, 15, 16, 17] (fun g => [(3, .slice g.2.1 g.1 g.2.2), (4, .int .i64 (g.1 : Nat))]) (fun g w' => g.1 ≤ l.length ∧ w'.ownsRow w.heap.size 5 1 (.slice g.2.1 g.1 g.2.2) g.1 ((l.take g.1).map bV) ∧ From w w') (fun g => l.length - g.1) ((0, none, 0)) ⟨rfl, rfl, trivial⟩ ?_ ?_
  · exact ⟨Nat.zero_le _, World.ownsRow_nil _ _ _ _, From.rfl_⟩
  rintro ⟨k, A3, c3⟩ ρ1 w1 ⟨hk, ho, hB⟩
  simp only at hk ho
  refine cd_seq ?_
  refine cd_seq ?_
  refine cd_region ?_
  refine st_val (ro_move (v := .int _ _) rfl) ?_
  refine st_val (ro_move (v := .slice _ _ _) rfl) ?_
  refine st_val (ro_len IntsHelp_l24 rfl) ?_
  refine st_val (ro_lss rfl rfl) ?_
  refine st_nil ?_
  refine nx_then ?_
  refine cd_cond rfl (fun Q2 => ?_) (fun Q2 => ?_)
  · (try first | replace Q2 := bn_t Q2 | replace Q2 := bn_f Q2)
    (try first | replace Q2 := bx_t Q2 | replace Q2 := bx_f Q2 | replace Q2 := be_t Q2 | replace Q2 := be_f Q2 | replace Q2 := of_decide_eq_true Q2 | replace Q2 := of_decide_eq_false Q2)
    obtain ⟨ba, oa, rfl, ca⟩ := hr (by omega)
    first
     | (exfalso; first | omega | contradiction | (cases Q2; done))
     | skip
       refine cd_skip ?_
       refine nx_then ?_
       refine cd_seq ?_
       refine cd_block ?_
       refine cd_region ?_
       refine st_val (ro_move (v := .slice _ _ _) rfl) ?_
       refine st_val (ro_move (v := .slice _ _ _) rfl) ?_
       refine st_val (ro_move (v := .int _ _) rfl) ?_
       refine st_val (ro_indexAddr1 IntsHelp_e24 rfl rfl (by omega)) ?_
       refine st_val (ro_load IntsHelp_g5 rfl (by first | (exact cellF hB (ca k (by omega))))) ?_
       refine st_lit1 (v := .int _ _) IntsHelp_q24 rfl rfl rfl ?_
       intro b16 w3 E16 hb16 hk16
       refine st_push1 (a0 := w) IntsHelp_q24 rfl rfl (ho.kept_from E16) (hB.next E16) rfl hk16 rfl (by omega) (by omega) ?_
       intro A17 c17 w4 ho17 B17 hg17
       refine st_val (ro_assign (v := .slice _ _ _) rfl) ?_
       refine st_nil ?_
       refine nx_block ?_
       refine nx_then ?_
       refine cd_region ?_
       refine st_val (ro_move (v := .int _ _) rfl) ?_
       refine st_val (ro_add64 rfl rfl (by omega)) ?_
       refine st_val (ro_assign (v := .int _ _) rfl) ?_
       refine st_nil ?_
       refine nx_cut ((k + 1, A17, c17)) ⟨(by first | rfl | (refine int_eq ?_; omega)), (by first | rfl | (refine int_eq ?_; omega)), trivial⟩ (by (iterate 30 refine agr_cons rfl ?_); exact agr_rfl) ⟨?_, ?_⟩
       · exact ⟨by simp only; omega, by rw [map_take_succ bV (by omega)]; exact ho17, B17⟩
       · simp only; omega
  · (try first | replace Q2 := bn_t Q2 | replace Q2 := bn_f Q2)
    (try first | replace Q2 := bx_t Q2 | replace Q2 := bx_f Q2 | replace Q2 := be_t Q2 | replace Q2 := be_f Q2 | replace Q2 := of_decide_eq_true Q2 | replace Q2 := of_decide_eq_false Q2)
    first
     | (exfalso; first | omega | contradiction | (cases Q2; done))
     | skip
       refine cd_exit ?_
       refine ex_then ?_
       refine ex_then ?_
       refine ex_block ?_
       refine nx_then ?_
       refine cd_seq ?_
       refine cd_region ?_
       refine st_val (ro_move (v := .slice _ _ _) rfl) ?_
       refine st_val (ro_assign (v := .slice _ _ _) rfl) ?_
       refine st_nil ?_
       refine nx_then ?_
       refine cd_ret ?_
       refine res1 (v := .slice _ _ _) rfl rfl ?_
       obtain rfl : k = l.length := by omega
       exact ⟨A3, c3, rfl, by rwa [List.take_length] at ho, hB⟩
set_option maxRecDepth 100000 in
set_option maxHeartbeats 400000 in
theorem copyLongs_any (A : Option Addr) (c : Nat) (l : List Nat) (w : World) (hr : RowOf uV w A l) (hl : l.length * 8 ≤ 140737488351232) :
    Rt Try.prog 8 [.slice A l.length c] w (fun v w' => ∃ A' c', v = .slice A' l.length c' ∧ w'.ownsRow w.heap.size 47 1 v l.length (l.map uV) ∧ From w w') := by
  refine enter (n := 19) Try.func8 rfl rfl rfl ?_
  refine cd_seq ?_
  refine cd_region ?_
  refine st_val (ro_assign (v := .slice _ _ _) rfl) ?_
  refine st_nil ?_
  refine nx_then ?_
  refine cd_seq ?_
  refine cd_region ?_
  refine st_val (ro_assign (v := .slice _ _ _) rfl) ?_
  refine st_nil ?_
  refine nx_then ?_
  refine cd_seq ?_
  refine cd_seq ?_
  refine cd_region ?_
  refine st_val (ro_assign (v := .int _ _) rfl) ?_
  refine st_nil ?_
  refine nx_then ?_
  refine cd_block ?_
  refine cd_loop (G := Nat × Option Addr × Nat) [5, 6, 7, 8, 9, 10, 11, 12, 13, 14, 15, 16, 17] (fun g => [(3, .slice g.2.1 g.1 g.2.2), (4, .int .i64 (g.1 : Nat))]) (fun g w' => g.1 ≤ l.length ∧ w'.ownsRow w.heap.size 47 1 (.slice g.2.1 g.1 g.2.2) g.1 ((l.take g.1).map uV) ∧ From w w') (fun g => l.length - g.1) ((0, none, 0)) ⟨rfl, rfl, trivial⟩ ?_ ?_
  · exact ⟨Nat.zero_le _, World.ownsRow_nil _ _ _ _, From.rfl_⟩
  rintro ⟨k, A3, c3⟩ ρ1 w1 ⟨hk, ho, hB⟩
  simp only at hk ho
  refine cd_seq ?_
  refine cd_seq ?_
  refine cd_region ?_
  refine st_val (ro_move (v := .int _ _) rfl) ?_
  refine st_val (ro_move (v := .slice _ _ _) rfl) ?_
  refine st_val (ro_len IntsHelp_l23 rfl) ?_
  refine st_val (ro_lss rfl rfl) ?_
  refine st_nil ?_
  refine nx_then ?_
  refine cd_cond rfl (fun Q2 => ?_) (fun Q2 => ?_)
  · (try first | replace Q2 := bn_t Q2 | replace Q2 := bn_f Q2)
    (try first | replace Q2 := bx_t Q2 | replace Q2 := bx_f Q2 | replace Q2 := be_t Q2 | replace Q2 := be_f Q2 | replace Q2 := of_decide_eq_true Q2 | replace Q2 := of_decide_eq_false Q2)
    obtain ⟨ba, oa, rfl, ca⟩ := hr (by omega)
    first
     | (exfalso; first | omega | contradiction | (cases Q2; done))
     | skip
       refine cd_skip ?_
       refine nx_then ?_
       refine cd_seq ?_
       refine cd_block ?_
       refine cd_region ?_
       refine st_val (ro_move (v := .slice _ _ _) rfl) ?_
       refine st_val (ro_move (v := .slice _ _ _) rfl) ?_
       refine st_val (ro_move (v := .int _ _) rfl) ?_
       refine st_val (ro_indexAddr1 IntsHelp_e23 rfl rfl (by omega)) ?_
       refine st_val (ro_load IntsHelp_g47 rfl (by first | (exact cellF hB (ca k (by omega))))) ?_
       refine st_lit1 (v := .int _ _) IntsHelp_q23 rfl rfl rfl ?_
       intro b16 w3 E16 hb16 hk16
       refine st_push1 (a0 := w) IntsHelp_q23 rfl rfl (ho.kept_from E16) (hB.next E16) rfl hk16 rfl (by omega) (by omega) ?_
       intro A17 c17 w4 ho17 B17 hg17
       refine st_val (ro_assign (v := .slice _ _ _) rfl) ?_
       refine st_nil ?_
       refine nx_block ?_
       refine nx_then ?_
       refine cd_region ?_
       refine st_val (ro_move (v := .int _ _) rfl) ?_
       refine st_val (ro_add64 rfl rfl (by omega)) ?_
       refine st_val (ro_assign (v := .int _ _) rfl) ?_
       refine st_nil ?_
       refine nx_cut ((k + 1, A17, c17)) ⟨(by first | rfl | (refine int_eq ?_; omega)), (by first | rfl | (refine int_eq ?_; omega)), trivial⟩ (by (iterate 30 refine agr_cons rfl ?_); exact agr_rfl) ⟨?_, ?_⟩
       · exact ⟨by simp only; omega, by rw [map_take_succ uV (by omega)]; exact ho17, B17⟩
       · simp only; omega
  · (try first | replace Q2 := bn_t Q2 | replace Q2 := bn_f Q2)
    (try first | replace Q2 := bx_t Q2 | replace Q2 := bx_f Q2 | replace Q2 := be_t Q2 | replace Q2 := be_f Q2 | replace Q2 := of_decide_eq_true Q2 | replace Q2 := of_decide_eq_false Q2)
    first
     | (exfalso; first | omega | contradiction | (cases Q2; done))
     | skip
       refine cd_exit ?_
       refine ex_then ?_
       refine ex_then ?_
       refine ex_block ?_
       refine nx_then ?_
       refine cd_seq ?_
       refine cd_region ?_
       refine st_val (ro_move (v := .slice _ _ _) rfl) ?_
       refine st_val (ro_assign (v := .slice _ _ _) rfl) ?_
       refine st_nil ?_
       refine nx_then ?_
       refine cd_ret ?_
       refine res1 (v := .slice _ _ _) rfl rfl ?_
       obtain rfl : k = l.length := by omega
       exact ⟨A3, c3, rfl, by rwa [List.take_length] at ho, hB⟩
set_option maxRecDepth 100000 in
set_option maxHeartbeats 400000 in
theorem spoilBytes_any (base : Nat) (A : Option Addr) (c : Nat) (l : List Nat) (w : World) (hl : ∀ x ∈ l, x < 256) (ho : w.ownsRow base 5 1 (.slice A l.length c) l.length (l.map bV)) (hn : l.length ≤ 140737488351232) (hbs : base ≤ w.heap.size) :
    Rt Try.prog 17 [.slice A l.length c] w (fun _ w' => w.grownBy w' (A.map (·.block))) := by
  refine enter (n := 20) Try.func17 rfl rfl rfl ?_
  refine cd_seq ?_
  refine cd_seq ?_
  refine cd_region ?_
  refine st_val (ro_assign (v := .int _ _) rfl) ?_
  refine st_nil ?_
  refine nx_then ?_
  refine cd_block ?_
  refine cd_loop (G := List Nat × Nat) [3, 4, 5, 6, 7, 8, 9, 10, 11, 12, 13, 14, 15, 16] (fun g => [(2, .int .i64 (g.2 : Nat))]) (fun g w' => g.2 ≤ l.length ∧ g.1.length = l.length ∧ (∀ x ∈ g.1, x < 256) ∧ w'.ownsRow base 5 1 (.slice A l.length c) l.length (g.1.map bV) ∧ w.grownBy w' (A.map (·.block))) (fun g => l.length - g.2) ((l, 0)) ⟨rfl, trivial⟩ ?_ ?_
  · exact ⟨Nat.zero_le _, rfl, hl, ho, (From.rfl_ (a := w)).grown _⟩
  rintro ⟨l1, k⟩ ρ1 w1 ⟨hk, hlen, hl1, ho1, hG⟩
  simp only at hk hlen ho1 hl1
  refine cd_seq ?_
  refine cd_seq ?_
  refine cd_region ?_
  refine st_val (ro_move (v := .int _ _) rfl) ?_
  refine st_val (ro_move (v := .slice _ _ _) rfl) ?_
  refine st_val (ro_len IntsHelp_l24 rfl) ?_
  refine st_val (ro_lss rfl rfl) ?_
  refine st_nil ?_
  refine nx_then ?_
  refine cd_cond rfl (fun Q2 => ?_) (fun Q2 => ?_)
  · (try first | replace Q2 := bn_t Q2 | replace Q2 := bn_f Q2)
    (try first | replace Q2 := bx_t Q2 | replace Q2 := bx_f Q2 | replace Q2 := be_t Q2 | replace Q2 := be_f Q2 | replace Q2 := of_decide_eq_true Q2 | replace Q2 := of_decide_eq_false Q2)
    obtain ⟨g, rfl⟩ := own_some ho (by omega)
    first
     | (exfalso; first | omega | contradiction | (cases Q2; done))
     | skip
       refine cd_skip ?_
       refine nx_then ?_
       refine cd_seq ?_
       refine cd_block ?_
       refine cd_region ?_
       refine st_val (ro_move (v := .slice _ _ _) rfl) ?_
       refine st_val (ro_move (v := .int _ _) rfl) ?_
       refine st_val (ro_move (v := .slice _ _ _) rfl) ?_
       refine st_val (ro_move (v := .int _ _) rfl) ?_
       refine st_val (ro_indexAddr0 IntsHelp_e24 rfl rfl (by omega)) ?_
       refine st_val (ro_load IntsHelp_g5 rfl (by exact own_cell ho1 k (by omega))) ?_
       refine st_val (ro_xorN8 (b := 85) rfl rfl (by exact ⟨hl1 _ (List.getElem_mem _), by decide⟩)) ?_
       refine st_val (ro_indexAddr0 IntsHelp_e24 rfl rfl (by omega)) ?_
       refine st_putOwn (v := .int _ _) IntsHelp_z5 rfl rfl rfl (ho1) (by omega) ?_
       intro w3 O3 P3
       refine st_nil ?_
       refine nx_block ?_
       refine nx_then ?_
       refine cd_region ?_
       refine st_val (ro_move (v := .int _ _) rfl) ?_
       refine st_val (ro_addN (b := 1) rfl rfl (by omega)) ?_
       refine st_val (ro_assign (v := .int _ _) rfl) ?_
       refine st_nil ?_
       refine nx_cut ((l1.set k (l1[k] ^^^ 85), k + 1)) ⟨(by first | rfl | (refine int_eq ?_; omega)), trivial⟩ (by (iterate 30 refine agr_cons rfl ?_); exact agr_rfl) ⟨?_, ?_⟩
       · refine ⟨by simp only; omega, by simp [hlen], fun x hx => ?_, by simpa [List.map_set] using P3, grown_trans hG O3.grown⟩
         rcases List.mem_or_eq_of_mem_set hx with h | rfl
         · exact hl1 x h
         · exact Nat.xor_lt_two_pow (n := 8) (hl1 _ (List.getElem_mem _)) (by decide)
       · simp only; omega
  · (try first | replace Q2 := bn_t Q2 | replace Q2 := bn_f Q2)
    (try first | replace Q2 := bx_t Q2 | replace Q2 := bx_f Q2 | replace Q2 := be_t Q2 | replace Q2 := be_f Q2 | replace Q2 := of_decide_eq_true Q2 | replace Q2 := of_decide_eq_false Q2)
    first
     | (exfalso; first | omega | contradiction | (cases Q2; done))
     | skip
       refine cd_exit ?_
       refine ex_then ?_
       refine ex_then ?_
       refine ex_block ?_
       refine nx_then ?_
       refine cd_region ?_
       refine st_val (ro_move (v := .slice _ _ _) rfl) ?_
       refine st_lit1 (v := .int _ _) IntsHelp_q24 rfl rfl rfl ?_
       intro b18 w4 E18 hb18 hk18
       refine st_appendB (base := base) IntsHelp_q24 rfl (by decide) rfl (A := A) (xs := l1.map bV) (news := [.int .u8 5]) (ho1.kept_from E18) (by have := hG.size; have := E18.size; omega) rfl rfl (fun _ => ⟨b18, 0, rfl, hk18.range 0 _ (fun j v h => by simpa using h)⟩) (fun h => by cases h) (by simp [Value.oneCell']) (by omega) (by omega) ?_
       intro A19 c19 w5 ho19 hg19
       refine st_val (ro_assign (v := .slice _ _ _) rfl) ?_
       refine st_nil ?_
       refine end_ret ?_
       refine res0 rfl ?_
       exact grown_trans hG (grown_trans (E18.grown _) hg19)
end Go.Proofs.Ytgnmmifolhoaeaa
