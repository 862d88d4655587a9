/- quorum.Enough, the references, the helpers of the laws. -/
import Derived.Test.YtpgcelbodpmajaaQWalks
namespace Go.Proofs.Ytpgcelbodpmajaa
open Go.RowKit
open Go.ChangeShapes Go.WideShapes Go.ChangeAt
theorem QHelp_e23 : elemQ Try.prog 23 = some (3, 1) := by kernel_rfl
theorem QHelp_l23 : (elemQ Try.prog 23).isSome = true := by kernel_rfl
theorem QHelp_g3 : aggQ Try.prog 3 = some false := by kernel_rfl
theorem QHelp_q23 : litQ Try.prog 23 = some (3, 1, 8, (.int .i64 0)) := by kernel_rfl
theorem QHelp_k16 : callable Try.prog 16 = true := by kernel_rfl
theorem QHelp_o41 : zeroQ Try.prog 41 = some (.agg #[.bool false, .bool false, .bool false, .bool false, .bool false, .bool false, .bool false, .bool false]) := by kernel_rfl
theorem QHelp_a41 : arrQ Try.prog 41 = some (8, 1) := by kernel_rfl
theorem QHelp_g4 : aggQ Try.prog 4 = some false := by kernel_rfl
theorem QHelp_z4 : sizeQ Try.prog 4 = some 1 := by kernel_rfl
theorem QHelp_k8 : callable Try.prog 8 = true := by kernel_rfl
theorem QHelp_k9 : callable Try.prog 9 = true := by kernel_rfl
theorem QHelp_f25_1 : fieldQ Try.prog 25 1 = some 1 := by kernel_rfl
theorem QHelp_g23 : aggQ Try.prog 23 = some false := by kernel_rfl
theorem QHelp_f25_2 : fieldQ Try.prog 25 2 = some 2 := by kernel_rfl
set_option maxRecDepth 100000 in
set_option maxHeartbeats 400000 in
theorem num_any (e : Int) (w : World) :
    Rt Try.prog 9 [.int .i64 e] w (fun v w' => v = .int .i64 e ∧ w = w') := by
  refine enter (n := 4) Try.func9 rfl rfl rfl ?_
  refine cd_seq ?_
  refine cd_region ?_
  refine st_val (ro_assign (v := .int _ _) rfl) ?_
  refine st_nil ?_
  refine nx_then ?_
  refine cd_seq ?_
  refine cd_region ?_
  refine st_val (ro_move (v := .int _ _) rfl) ?_
  refine st_val (ro_assign (v := .int _ _) rfl) ?_
  refine st_nil ?_
  refine nx_then ?_
  refine cd_ret ?_
  refine res1 (v := .int _ _) rfl rfl ?_
  exact ⟨rfl, rfl⟩
theorem eq_ge {α : Type} {a b : List α} {k : Nat} (hl : a.length = b.length) (hk : ¬ k < a.length) (h : a.take k = b.take k) : a = b := by
  rw [List.take_of_length_le (by omega), List.take_of_length_le (by omega)] at h
  exact h
theorem take_eq {α : Type} {a b : List α} {k : Nat} (ha : k < a.length) (hb : k < b.length) (h : a.take k = b.take k) (he : a[k] = b[k]) : a.take (k + 1) = b.take (k + 1) := by
  rw [List.take_succ_eq_append_getElem ha, List.take_succ_eq_append_getElem hb, h, he]

set_option maxRecDepth 100000 in
set_option maxHeartbeats 400000 in
theorem copyNums_any (A : Option Addr) (c : Nat) (l : List Int) (w : World) (hr : RowOf iV w A l) (hl : l.length * 8 ≤ 140737488351232) :
    Rt Try.prog 7 [.slice A l.length c] w (fun v w' => ∃ A' c', v = .slice A' l.length c' ∧ w'.ownsRow w.heap.size 3 1 v l.length (l.map iV) ∧ From w w') := by
  refine enter (n := 19) Try.func7 rfl rfl rfl ?_
  refine cd_seq ?_
  refine cd_region ?_
  refine st_val (ro_assign (v := .slice _ _ _) rfl) ?_
  refine st_nil ?_
  refine nx_then ?_
  refine cd_seq ?_
  refine cd_region ?_
  refine st_val (ro_assign (v := .slice _ _ _) rfl) ?_
  refine st_nil ?_
  refine nx_then ?_
  refine cd_seq ?_
  refine cd_seq ?_
  refine cd_region ?_
  refine st_val (ro_assign (v := .int _ _) rfl) ?_
  refine st_nil ?_
  refine nx_then ?_
  refine cd_block ?_
  refine cd_loop (G := Nat × Option Addr × Nat) [5, 6, 7, 8, 9, 10, 11, 12, 13, 14, 15, 16, 17] (fun g => [(3, .slice g.2.1 g.1 g.2.2), (4, .int .i64 (g.1 : Nat))]) (fun g w' => g.1 ≤ l.length ∧ w'.ownsRow w.heap.size 3 1 (.slice g.2.1 g.1 g.2.2) g.1 ((l.take g.1).map iV) ∧ From w w') (fun g => l.length - g.1) ((0, none, 0)) ⟨rfl, rfl, trivial⟩ ?_ ?_
  · exact ⟨Nat.zero_le _, World.ownsRow_nil _ _ _ _, From.rfl_⟩
  rintro ⟨k, A3, c3⟩ ρ1 w1 ⟨hk, ho, hB⟩
  simp only at hk ho
  refine cd_seq ?_
  refine cd_seq ?_
  refine cd_region ?_
  refine st_val (ro_move (v := .int _ _) rfl) ?_
  refine st_val (ro_move (v := .slice _ _ _) rfl) ?_
  refine st_val (ro_len QHelp_l23 rfl) ?_
  refine st_val (ro_lss rfl rfl) ?_
  refine st_nil ?_
  refine nx_then ?_
  refine cd_cond rfl (fun Q2 => ?_) (fun Q2 => ?_)
  · (try first | replace Q2 := bn_t Q2 | replace Q2 := bn_f Q2)
    (try first | replace Q2 := bx_t Q2 | replace Q2 := bx_f Q2 | replace Q2 := be_t Q2 | replace Q2 := be_f Q2 | replace Q2 := of_decide_eq_true Q2 | replace Q2 := of_decide_eq_false Q2)
    obtain ⟨ba, oa, rfl, ca⟩ := hr (by omega)
    first
     | (exfalso; first | omega | contradiction | (cases Q2; done))
     | skip
       refine cd_skip ?_
       refine nx_then ?_
       refine cd_seq ?_
       refine cd_block ?_
       refine cd_region ?_
       refine st_val (ro_move (v := .slice _ _ _) rfl) ?_
       refine st_val (ro_move (v := .slice _ _ _) rfl) ?_
       refine st_val (ro_move (v := .int _ _) rfl) ?_
       refine st_val (ro_indexAddr1 QHelp_e23 rfl rfl (by omega)) ?_
       refine st_val (ro_load QHelp_g3 rfl (by first | (exact cellF hB (ca k (by omega))))) ?_
       refine st_lit1 (v := .int _ _) QHelp_q23 rfl rfl rfl ?_
       intro b16 w3 E16 hb16 hk16
       refine st_push1 (a0 := w) QHelp_q23 rfl rfl (ho.kept_from E16) (hB.next E16) rfl hk16 rfl (by omega) (by omega) ?_
       intro A17 c17 w4 ho17 B17 hg17
       refine st_val (ro_assign (v := .slice _ _ _) rfl) ?_
       refine st_nil ?_
       refine nx_block ?_
       refine nx_then ?_
       refine cd_region ?_
       refine st_val (ro_move (v := .int _ _) rfl) ?_
       refine st_val (ro_add64 rfl rfl (by omega)) ?_
       refine st_val (ro_assign (v := .int _ _) rfl) ?_
       refine st_nil ?_
       refine nx_cut ((k + 1, A17, c17)) ⟨(by first | rfl | (refine int_eq ?_; omega)), (by first | rfl | (refine int_eq ?_; omega)), trivial⟩ (by (iterate 30 refine agr_cons rfl ?_); exact agr_rfl) ⟨?_, ?_⟩
       · exact ⟨by simp only; omega, by rw [map_take_succ iV (by omega)]; exact ho17, B17⟩
       · simp only; omega
  · (try first | replace Q2 := bn_t Q2 | replace Q2 := bn_f Q2)
    (try first | replace Q2 := bx_t Q2 | replace Q2 := bx_f Q2 | replace Q2 := be_t Q2 | replace Q2 := be_f Q2 | replace Q2 := of_decide_eq_true Q2 | replace Q2 := of_decide_eq_false Q2)
    first
     | (exfalso; first | omega | contradiction | (cases Q2; done))
     | skip
       refine cd_exit ?_
       refine ex_then ?_
       refine ex_then ?_
       refine ex_block ?_
       refine nx_then ?_
       refine cd_seq ?_
       refine cd_region ?_
       refine st_val (ro_move (v := .slice _ _ _) rfl) ?_
       refine st_val (ro_assign (v := .slice _ _ _) rfl) ?_
       refine st_nil ?_
       refine nx_then ?_
       refine cd_ret ?_
       refine res1 (v := .slice _ _ _) rfl rfl ?_
       obtain rfl : k = l.length := by omega
       exact ⟨A3, c3, rfl, by rwa [List.take_length] at ho, hB⟩
set_option maxRecDepth 100000 in
set_option maxHeartbeats 400000 in
theorem eqNums_any (A B : Option Addr) (ca cb : Nat) (a b : List Int) (w : World) (ha : RowOf iV w A a) (hb : RowOf iV w B b) (hla : a.length * 8 ≤ 140737488351232) :
    Rt Try.prog 11 [.slice A a.length ca, .slice B b.length cb] w (fun v w' => v = .bool (decide (a = b)) ∧ From w w') := by
  refine enter (n := 26) Try.func11 rfl rfl rfl ?_
  refine cd_seq ?_
  refine cd_region ?_
  refine st_val (ro_assign (v := .bool _) rfl) ?_
  refine st_nil ?_
  refine nx_then ?_
  refine cd_seq ?_
  refine cd_seq ?_
  refine cd_region ?_
  refine st_val (ro_move (v := .slice _ _ _) rfl) ?_
  refine st_val (ro_len QHelp_l23 rfl) ?_
  refine st_val (ro_move (v := .slice _ _ _) rfl) ?_
  refine st_val (ro_len QHelp_l23 rfl) ?_
  refine st_val (ro_neq rfl rfl) ?_
  refine st_nil ?_
  refine nx_then ?_
  refine cd_cond rfl (fun Q1 => ?_) (fun Q1 => ?_)
  · (try first | replace Q1 := bn_t Q1 | replace Q1 := bn_f Q1)
    (try first | replace Q1 := bx_t Q1 | replace Q1 := bx_f Q1 | replace Q1 := be_t Q1 | replace Q1 := be_f Q1 | replace Q1 := of_decide_eq_true Q1 | replace Q1 := of_decide_eq_false Q1)
    first
     | (exfalso; first | omega | contradiction | (cases Q1; done))
     | skip
       refine cd_seq ?_
       refine cd_region ?_
       refine st_val (ro_assign (v := .bool _) rfl) ?_
       refine st_nil ?_
       refine nx_then ?_
       refine cd_ret ?_
       refine rt_then ?_
       refine res1 (v := .bool _) rfl rfl ?_
       exact ⟨by rw [decide_eq_false]; rintro rfl; omega, From.rfl_⟩
  · (try first | replace Q1 := bn_t Q1 | replace Q1 := bn_f Q1)
    (try first | replace Q1 := bx_t Q1 | replace Q1 := bx_f Q1 | replace Q1 := be_t Q1 | replace Q1 := be_f Q1 | replace Q1 := of_decide_eq_true Q1 | replace Q1 := of_decide_eq_false Q1)
    first
     | (exfalso; first | omega | contradiction | (cases Q1; done))
     | skip
       refine cd_skip ?_
       refine nx_then ?_
       refine cd_seq ?_
       refine cd_seq ?_
       refine cd_region ?_
       refine st_val (ro_assign (v := .int _ _) rfl) ?_
       refine st_nil ?_
       refine nx_then ?_
       refine cd_block ?_
       refine cd_loop (G := Nat) [4, 11, 12, 13, 14, 15, 16, 17, 18, 19, 20, 21, 22, 23, 24, 25] (fun k => [(5, .int .i64 (k : Nat))]) (fun k w' => k ≤ a.length ∧ a.take k = b.take k ∧ From w w') (fun k => a.length - k) (0) ⟨rfl, trivial⟩ ?_ ?_
       · exact ⟨Nat.zero_le _, rfl, From.rfl_⟩
       rintro k ρ2 w2 ⟨hk, ht, hB⟩
       refine cd_seq ?_
       refine cd_seq ?_
       refine cd_region ?_
       refine st_val (ro_move (v := .int _ _) rfl) ?_
       refine st_val (ro_move (v := .slice _ _ _) rfl) ?_
       refine st_val (ro_len QHelp_l23 rfl) ?_
       refine st_val (ro_lss rfl rfl) ?_
       refine st_nil ?_
       refine nx_then ?_
       refine cd_cond rfl (fun Q3 => ?_) (fun Q3 => ?_)
       · (try first | replace Q3 := bn_t Q3 | replace Q3 := bn_f Q3)
         (try first | replace Q3 := bx_t Q3 | replace Q3 := bx_f Q3 | replace Q3 := be_t Q3 | replace Q3 := be_f Q3 | replace Q3 := of_decide_eq_true Q3 | replace Q3 := of_decide_eq_false Q3)
         obtain ⟨ba, oa, rfl, ca⟩ := ha (by omega)
         obtain ⟨bb, ob, rfl, cb⟩ := hb (by omega)
         first
          | (exfalso; first | omega | contradiction | (cases Q3; done))
          | skip
            refine cd_skip ?_
            refine nx_then ?_
            refine cd_seq ?_
            refine cd_block ?_
            refine cd_seq ?_
            apply cd_drawn 9 [(17, eqp _), (18, eqp _), (19, eqp _), (20, eqp _), (21, eqp _), (22, eqp _), (23, eqp _), (24, eqp _), (25, eqp _)] (by kernel_rfl) (by kernel_rfl) ⟨eqp_mono _, eqp_mono _, eqp_mono _, eqp_mono _, eqp_mono _, eqp_mono _, eqp_mono _, eqp_mono _, eqp_mono _, trivial⟩
            case hop =>
             refine ⟨?_, ?_⟩
             · intro w5 D5
               show OpOK _ _ _ _ _ _ _
               exact ok_pure (ro_move (v := .slice _ _ _) rfl) rfl
             refine ⟨?_, ?_⟩
             · intro w6 D6
               show OpOK _ _ _ _ _ _ _
               exact ok_pure (ro_move (v := .int _ _) rfl) rfl
             refine ⟨?_, ?_⟩
             · intro w7 D7
               rintro _ rfl _ rfl
               show OpOK _ _ _ _ _ _ _
               exact ok_pure (ro_indexAddr1 QHelp_e23 rfl rfl (by omega)) rfl
             refine ⟨?_, ?_⟩
             · intro w8 D8
               rintro _ rfl
               show OpOK _ _ _ _ _ _ _
               exact ok_pure (ro_load QHelp_g3 rfl (by first | (exact cellF (hB.next D8) (ca k (by omega))) | (exact cellF (hB.next D8) (cb k (by omega))))) rfl
             refine ⟨?_, ?_⟩
             · intro w9 D9
               show OpOK _ _ _ _ _ _ _
               exact ok_pure (ro_move (v := .slice _ _ _) rfl) rfl
             refine ⟨?_, ?_⟩
             · intro w10 D10
               show OpOK _ _ _ _ _ _ _
               exact ok_pure (ro_move (v := .int _ _) rfl) rfl
             refine ⟨?_, ?_⟩
             · intro w11 D11
               rintro _ rfl _ rfl
               show OpOK _ _ _ _ _ _ _
               exact ok_pure (ro_indexAddr1 QHelp_e23 rfl rfl (by omega)) rfl
             refine ⟨?_, ?_⟩
             · intro w12 D12
               rintro _ rfl
               show OpOK _ _ _ _ _ _ _
               exact ok_pure (ro_load QHelp_g3 rfl (by first | (exact cellF (hB.next D12) (ca k (by omega))) | (exact cellF (hB.next D12) (cb k (by omega))))) rfl
             refine ⟨?_, ?_⟩
             · intro w13 D13
               rintro _ rfl _ rfl
               show OpOK _ _ _ _ _ _ _
               exact ok_pure (ro_neq rfl rfl) rfl
             exact trivial
            case hend =>
             intro w14 D14
             rintro _ rfl _ rfl _ rfl _ rfl _ rfl _ rfl _ rfl _ rfl _ rfl
             show St _ _ _ _ _ _ _
             refine st_nil ?_
             refine nx_then ?_
             refine cd_cond rfl (fun Q15 => ?_) (fun Q15 => ?_)
             · (try first | replace Q15 := bn_t Q15 | replace Q15 := bn_f Q15)
               (try first | replace Q15 := bx_t Q15 | replace Q15 := bx_f Q15 | replace Q15 := be_t Q15 | replace Q15 := be_f Q15 | replace Q15 := of_decide_eq_true Q15 | replace Q15 := of_decide_eq_false Q15)
               first
                | (exfalso; first | omega | contradiction | (cases Q15; done))
                | skip
                  refine cd_seq ?_
                  refine cd_region ?_
                  refine st_val (ro_assign (v := .bool _) rfl) ?_
                  refine st_nil ?_
                  refine nx_then ?_
                  refine cd_ret ?_
                  refine rt_block ?_
                  refine rt_then ?_
                  refine rt_then ?_
                  refine rt_block ?_
                  refine rt_then ?_
                  refine res1 (v := .bool _) rfl rfl ?_
                  exact ⟨by rw [decide_eq_false]; rintro rfl; exact absurd rfl (by assumption), (hB.next D14)⟩
             · (try first | replace Q15 := bn_t Q15 | replace Q15 := bn_f Q15)
               (try first | replace Q15 := bx_t Q15 | replace Q15 := bx_f Q15 | replace Q15 := be_t Q15 | replace Q15 := be_f Q15 | replace Q15 := of_decide_eq_true Q15 | replace Q15 := of_decide_eq_false Q15)
               first
                | (exfalso; first | omega | contradiction | (cases Q15; done))
                | skip
                  refine cd_skip ?_
                  refine nx_block ?_
                  refine nx_then ?_
                  refine cd_region ?_
                  refine st_val (ro_move (v := .int _ _) rfl) ?_
                  refine st_val (ro_add64 rfl rfl (by omega)) ?_
                  refine st_val (ro_assign (v := .int _ _) rfl) ?_
                  refine st_nil ?_
                  refine nx_cut (k + 1) ⟨(by first | rfl | (refine int_eq ?_; omega)), trivial⟩ (by (iterate 33 refine agr_cons rfl ?_); exact agr_rfl) ⟨?_, ?_⟩
                  · exact ⟨by omega, take_eq (by omega) (by omega) ht (by omega), (hB.next D14)⟩
                  · omega
       · (try first | replace Q3 := bn_t Q3 | replace Q3 := bn_f Q3)
         (try first | replace Q3 := bx_t Q3 | replace Q3 := bx_f Q3 | replace Q3 := be_t Q3 | replace Q3 := be_f Q3 | replace Q3 := of_decide_eq_true Q3 | replace Q3 := of_decide_eq_false Q3)
         first
          | (exfalso; first | omega | contradiction | (cases Q3; done))
          | skip
            refine cd_exit ?_
            refine ex_then ?_
            refine ex_then ?_
            refine ex_block ?_
            refine nx_then ?_
            refine cd_seq ?_
            refine cd_region ?_
            refine st_val (ro_assign (v := .bool _) rfl) ?_
            refine st_nil ?_
            refine nx_then ?_
            refine cd_ret ?_
            refine res1 (v := .bool _) rfl rfl ?_
            exact ⟨by rw [decide_eq_true (eq_ge (by omega) (by omega) ht)], hB⟩
set_option maxRecDepth 100000 in
set_option maxHeartbeats 400000 in
theorem in_rt (A : Option Addr) (c : Nat) (L : List Int) (x : Int) (w : World) (hr : RowOf iV w A L) (hl : L.length ≤ 1000000) :
    Rt Try.prog 16 [.slice A L.length c, .int .i64 x] w (fun v w' => (∃ r : Int, v = .int .i64 r ∧ (0 ≤ r ↔ x ∈ L)) ∧ w = w') := by
  refine enter (n := 19) Try.func16 rfl rfl rfl ?_
  refine cd_seq ?_
  refine cd_region ?_
  refine st_val (ro_assign (v := .int _ _) rfl) ?_
  refine st_nil ?_
  refine nx_then ?_
  refine cd_seq ?_
  refine cd_seq ?_
  refine cd_region ?_
  refine st_val (ro_assign (v := .int _ _) rfl) ?_
  refine st_nil ?_
  refine nx_then ?_
  refine cd_block ?_
  refine cd_loop (G := Nat) [4, 6, 7, 8, 9, 10, 11, 12, 13, 14, 15, 16, 17, 18] (fun k => [(5, .int .i64 (k : Nat))]) (fun k w' => k ≤ L.length ∧ (∀ i (h : i < L.length), i < k → L[i] ≠ x) ∧ w = w') (fun k => L.length - k) (0) ⟨rfl, trivial⟩ ?_ ?_
  · exact ⟨Nat.zero_le _, fun i h h0 => absurd h0 (by omega), rfl⟩
  rintro k ρ1 w1 ⟨hk, hne, rfl⟩
  refine cd_seq ?_
  refine cd_seq ?_
  refine cd_region ?_
  refine st_val (ro_move (v := .int _ _) rfl) ?_
  refine st_val (ro_move (v := .slice _ _ _) rfl) ?_
  refine st_val (ro_len QHelp_l23 rfl) ?_
  refine st_val (ro_lss rfl rfl) ?_
  refine st_nil ?_
  refine nx_then ?_
  refine cd_cond rfl (fun Q2 => ?_) (fun Q2 => ?_)
  · (try first | replace Q2 := bn_t Q2 | replace Q2 := bn_f Q2)
    (try first | replace Q2 := bx_t Q2 | replace Q2 := bx_f Q2 | replace Q2 := be_t Q2 | replace Q2 := be_f Q2 | replace Q2 := of_decide_eq_true Q2 | replace Q2 := of_decide_eq_false Q2)
    obtain ⟨ba, oa, rfl, hca⟩ := hr (by omega)
    first
     | (exfalso; first | omega | contradiction | (cases Q2; done))
     | skip
       refine cd_skip ?_
       refine nx_then ?_
       refine cd_seq ?_
       refine cd_block ?_
       refine cd_seq ?_
       refine cd_region ?_
       refine st_val (ro_move (v := .slice _ _ _) rfl) ?_
       refine st_val (ro_move (v := .int _ _) rfl) ?_
       refine st_val (ro_indexAddr1 QHelp_e23 rfl rfl (by omega)) ?_
       refine st_val (ro_load QHelp_g3 rfl (by exact hca k (by omega))) ?_
       refine st_val (ro_move (v := .int _ _) rfl) ?_
       refine st_val (ro_eql rfl rfl) ?_
       refine st_nil ?_
       refine nx_then ?_
       refine cd_cond rfl (fun Q3 => ?_) (fun Q3 => ?_)
       · (try first | replace Q3 := bn_t Q3 | replace Q3 := bn_f Q3)
         (try first | replace Q3 := bx_t Q3 | replace Q3 := bx_f Q3 | replace Q3 := be_t Q3 | replace Q3 := be_f Q3 | replace Q3 := of_decide_eq_true Q3 | replace Q3 := of_decide_eq_false Q3)
         first
          | (exfalso; first | omega | contradiction | (cases Q3; done))
          | skip
            refine cd_seq ?_
            refine cd_region ?_
            refine st_val (ro_move (v := .int _ _) rfl) ?_
            refine st_val (ro_assign (v := .int _ _) rfl) ?_
            refine st_nil ?_
            refine nx_then ?_
            refine cd_ret ?_
            refine rt_block ?_
            refine rt_then ?_
            refine rt_then ?_
            refine rt_block ?_
            refine rt_then ?_
            refine res1 (v := .int _ _) rfl rfl ?_
            refine ⟨⟨_, rfl, fun _ => ?_, fun _ => by omega⟩, rfl⟩
            rename L[k] = x => hx
            rw [← hx]
            exact List.getElem_mem _
       · (try first | replace Q3 := bn_t Q3 | replace Q3 := bn_f Q3)
         (try first | replace Q3 := bx_t Q3 | replace Q3 := bx_f Q3 | replace Q3 := be_t Q3 | replace Q3 := be_f Q3 | replace Q3 := of_decide_eq_true Q3 | replace Q3 := of_decide_eq_false Q3)
         first
          | (exfalso; first | omega | contradiction | (cases Q3; done))
          | skip
            refine cd_skip ?_
            refine nx_block ?_
            refine nx_then ?_
            refine cd_region ?_
            refine st_val (ro_move (v := .int _ _) rfl) ?_
            refine st_val (ro_addN (b := 1) rfl rfl (by omega)) ?_
            refine st_val (ro_assign (v := .int _ _) rfl) ?_
            refine st_nil ?_
            refine nx_cut (k + 1) ⟨(by first | rfl | (refine int_eq ?_; omega)), trivial⟩ (by (iterate 28 refine agr_cons rfl ?_); exact agr_rfl) ⟨?_, ?_⟩
            · refine ⟨by omega, fun i h h0 => ?_, rfl⟩
              rcases Nat.lt_or_ge i k with a | a
              · exact hne i h a
              · obtain rfl : i = k := by omega
                assumption
            · omega
  · (try first | replace Q2 := bn_t Q2 | replace Q2 := bn_f Q2)
    (try first | replace Q2 := bx_t Q2 | replace Q2 := bx_f Q2 | replace Q2 := be_t Q2 | replace Q2 := be_f Q2 | replace Q2 := of_decide_eq_true Q2 | replace Q2 := of_decide_eq_false Q2)
    first
     | (exfalso; first | omega | contradiction | (cases Q2; done))
     | skip
       refine cd_exit ?_
       refine ex_then ?_
       refine ex_then ?_
       refine ex_block ?_
       refine nx_then ?_
       refine cd_seq ?_
       refine cd_region ?_
       refine st_val (ro_assign (v := .int _ _) rfl) ?_
       refine st_nil ?_
       refine nx_then ?_
       refine cd_ret ?_
       refine res1 (v := .int _ _) rfl rfl ?_
       refine ⟨⟨_, rfl, fun h => absurd h (by omega), fun h => ?_⟩, rfl⟩
       obtain ⟨i, hi, e⟩ := List.getElem_of_mem h
       exact absurd e (hne i hi (by omega))
theorem cv_nil (n : Nat) : cv [] n = 0 := by
  unfold cv
  rw [List.countP_eq_zero]
  simp
def okV (n : Int) (L : List Int) : Bool := decide (1 ≤ n ∧ n ≤ 7) && decide (n < 2 * (cv L n.toNat : Nat))
def eV (n : Int) : Int := if 1 ≤ n ∧ n ≤ 7 then 0 else 1
theorem okV_in {N : Nat} (h : 1 ≤ (N : Int) ∧ (N : Int) ≤ 7) (L : List Int) : okV N L = decide ((N : Int) < 2 * (cv L N : Nat)) := by
  unfold okV
  rw [decide_eq_true h, Bool.true_and, Int.toNat_natCast]
theorem okV_out {n : Int} (h : ¬ (1 ≤ n ∧ n ≤ 7)) (L : List Int) : okV n L = false := by
  unfold okV
  rw [decide_eq_false h, Bool.false_and]
theorem eV_in {n : Int} (h : 1 ≤ n ∧ n ≤ 7) : eV n = 0 := if_pos h
theorem eV_out {n : Int} (h : ¬ (1 ≤ n ∧ n ≤ 7)) : eV n = 1 := if_neg h
theorem tup_b {a b : Bool} {x : Value} (h : a = b) : Value.tuple #[.bool a, x] = .tuple #[.bool b, x] := by rw [h]
set_option maxRecDepth 100000 in
set_option maxHeartbeats 400000 in
theorem refEnough_rt (A : Option Addr) (c N : Nat) (L : List Int) (w : World) (hr : RowOf iV w A L) (hl : L.length ≤ 1000000) (hN : N ≤ 7) :
    Rt Try.prog 10 [.int .i64 (N : Nat), .slice A L.length c] w (fun v w' => v = .bool (decide ((N : Int) < 2 * (cv L N : Nat))) ∧ w = w') := by
  refine enter (n := 22) Try.func10 rfl rfl rfl ?_
  refine cd_seq ?_
  refine cd_region ?_
  refine st_val (ro_assign (v := .bool _) rfl) ?_
  refine st_nil ?_
  refine nx_then ?_
  refine cd_seq ?_
  refine cd_region ?_
  refine st_val (ro_assign (v := .int _ _) rfl) ?_
  refine st_nil ?_
  refine nx_then ?_
  refine cd_seq ?_
  refine cd_seq ?_
  refine cd_region ?_
  refine st_val (ro_assign (v := .int _ _) rfl) ?_
  refine st_nil ?_
  refine nx_then ?_
  refine cd_block ?_
  refine cd_loop (G := Nat) [7, 8, 9, 10, 11, 12, 13, 14, 15, 16, 17] (fun j => [(5, .int .i64 (cv L j : Nat)), (6, .int .i64 (j + 1 : Nat))]) (fun j w' => j ≤ N ∧ w = w') (fun j => N - j) (0) ⟨rfl, rfl, trivial⟩ ?_ ?_
  · exact ⟨Nat.zero_le _, rfl⟩
  rintro j ρ1 w1 ⟨hj, rfl⟩
  have hcl := cv_le L j
  have hcs := cv_succ L j
  refine cd_seq ?_
  refine cd_seq ?_
  refine cd_region ?_
  refine st_val (ro_move (v := .int _ _) rfl) ?_
  refine st_val (ro_move (v := .int _ _) rfl) ?_
  refine st_val (ro_leq rfl rfl) ?_
  refine st_nil ?_
  refine nx_then ?_
  refine cd_cond rfl (fun Q2 => ?_) (fun Q2 => ?_)
  · (try first | replace Q2 := bn_t Q2 | replace Q2 := bn_f Q2)
    (try first | replace Q2 := bx_t Q2 | replace Q2 := bx_f Q2 | replace Q2 := be_t Q2 | replace Q2 := be_f Q2 | replace Q2 := of_decide_eq_true Q2 | replace Q2 := of_decide_eq_false Q2)
    first
     | (exfalso; first | omega | contradiction | (cases Q2; done))
     | skip
       refine cd_skip ?_
       refine nx_then ?_
       refine cd_seq ?_
       refine cd_block ?_
       refine cd_seq ?_
       refine cd_region ?_
       refine st_val (ro_move (v := .slice _ _ _) rfl) ?_
       refine st_val (ro_move (v := .int _ _) rfl) ?_
       refine st_call QHelp_k16 (in_rt A c L ((j + 1 : Nat) : Int) _ hr hl) ?_
       rintro v14 w3 ⟨⟨r14, rfl, hr14⟩, rfl⟩
       refine st_val (ro_geq rfl rfl) ?_
       refine st_nil ?_
       refine nx_then ?_
       refine cd_cond rfl (fun Q4 => ?_) (fun Q4 => ?_)
       · (try first | replace Q4 := bn_t Q4 | replace Q4 := bn_f Q4)
         (try first | replace Q4 := bx_t Q4 | replace Q4 := bx_f Q4 | replace Q4 := be_t Q4 | replace Q4 := be_f Q4 | replace Q4 := of_decide_eq_true Q4 | replace Q4 := of_decide_eq_false Q4)
         rw [if_pos (hr14.1 (by omega))] at hcs
         first
          | (exfalso; first | omega | contradiction | (cases Q4; done))
          | skip
            refine cd_region ?_
            refine st_val (ro_move (v := .int _ _) rfl) ?_
            refine st_val (ro_addN (b := 1) rfl rfl (by omega)) ?_
            refine st_val (ro_assign (v := .int _ _) rfl) ?_
            refine st_nil ?_
            refine nx_block ?_
            refine nx_then ?_
            refine cd_region ?_
            refine st_val (ro_move (v := .int _ _) rfl) ?_
            refine st_val (ro_addN (b := 1) rfl rfl (by omega)) ?_
            refine st_val (ro_assign (v := .int _ _) rfl) ?_
            refine st_nil ?_
            refine nx_cut (j + 1) ⟨(by first | rfl | (refine int_eq ?_; omega)), (by first | rfl | (refine int_eq ?_; omega)), trivial⟩ (by (iterate 26 refine agr_cons rfl ?_); exact agr_rfl) ⟨?_, ?_⟩
            · exact ⟨by omega, rfl⟩
            · omega
       · (try first | replace Q4 := bn_t Q4 | replace Q4 := bn_f Q4)
         (try first | replace Q4 := bx_t Q4 | replace Q4 := bx_f Q4 | replace Q4 := be_t Q4 | replace Q4 := be_f Q4 | replace Q4 := of_decide_eq_true Q4 | replace Q4 := of_decide_eq_false Q4)
         rw [if_neg (fun hm => by have := hr14.2 hm; omega)] at hcs
         first
          | (exfalso; first | omega | contradiction | (cases Q4; done))
          | skip
            refine cd_skip ?_
            refine nx_block ?_
            refine nx_then ?_
            refine cd_region ?_
            refine st_val (ro_move (v := .int _ _) rfl) ?_
            refine st_val (ro_addN (b := 1) rfl rfl (by omega)) ?_
            refine st_val (ro_assign (v := .int _ _) rfl) ?_
            refine st_nil ?_
            refine nx_cut (j + 1) ⟨(by first | rfl | (refine int_eq ?_; omega)), (by first | rfl | (refine int_eq ?_; omega)), trivial⟩ (by (iterate 23 refine agr_cons rfl ?_); exact agr_rfl) ⟨?_, ?_⟩
            · exact ⟨by omega, rfl⟩
            · omega
  · (try first | replace Q2 := bn_t Q2 | replace Q2 := bn_f Q2)
    (try first | replace Q2 := bx_t Q2 | replace Q2 := bx_f Q2 | replace Q2 := be_t Q2 | replace Q2 := be_f Q2 | replace Q2 := of_decide_eq_true Q2 | replace Q2 := of_decide_eq_false Q2)
    first
     | (exfalso; first | omega | contradiction | (cases Q2; done))
     | skip
       refine cd_exit ?_
       refine ex_then ?_
       refine ex_then ?_
       refine ex_block ?_
       refine nx_then ?_
       refine cd_seq ?_
       refine cd_region ?_
       refine st_val (ro_move (v := .int _ _) rfl) ?_
       refine st_val (ro_mulN (a := 2) rfl rfl (by omega)) ?_
       refine st_val (ro_move (v := .int _ _) rfl) ?_
       refine st_val (ro_gtr rfl rfl) ?_
       refine st_val (ro_assign (v := .bool _) rfl) ?_
       refine st_nil ?_
       refine nx_then ?_
       refine cd_ret ?_
       refine res1 (v := .bool _) rfl rfl ?_
       obtain rfl : j = N := by omega
       exact ⟨congrArg Value.bool (decide_eq_decide.2 (by omega)), rfl⟩
set_option maxRecDepth 100000 in
set_option maxHeartbeats 2000000 in
theorem enough_rt (A : Option Addr) (c : Nat) (n : Int) (L : List Int) (w : World) (hr : RowOf iV w A L) (hl : L.length ≤ 1000000) :
    Rt Try.prog 8 [.int .i64 n, .slice A L.length c] w (fun v w' => v = .tuple #[.bool (okV n L), .int .i64 (eV n)] ∧ From w w') := by
  refine enter (n := 43) Try.func8 rfl rfl rfl ?_
  refine cd_seq ?_
  refine cd_region ?_
  refine st_val (ro_assign (v := .bool _) rfl) ?_
  refine st_val (ro_assign (v := .int _ _) rfl) ?_
  refine st_nil ?_
  refine nx_then ?_
  refine cd_seq ?_
  refine cd_seq ?_
  refine cd_region ?_
  refine st_val (ro_move (v := .int _ _) rfl) ?_
  refine st_val (ro_lss rfl rfl) ?_
  refine st_val (ro_move (v := .bool _) rfl) ?_
  refine st_split (t := 12) rfl (fun Q1 => ?_) (fun Q1 => ?_)
  · (try first | replace Q1 := bn_t Q1 | replace Q1 := bn_f Q1)
    (try first | replace Q1 := bx_t Q1 | replace Q1 := bx_f Q1 | replace Q1 := be_t Q1 | replace Q1 := be_f Q1 | replace Q1 := of_decide_eq_true Q1 | replace Q1 := of_decide_eq_false Q1)
    first
     | (exfalso; first | omega | contradiction | (cases Q1; done))
     | skip
       refine st_gno rfl rfl ?_
       refine st_gno rfl rfl ?_
       refine st_val (ro_pickT (v := .bool _) rfl rfl) ?_
       refine st_nil ?_
       refine nx_then ?_
       refine cd_condT rfl ?_
       refine cd_seq ?_
       refine cd_region ?_
       refine st_val (ro_assign (v := .bool _) rfl) ?_
       refine st_val (ro_assign (v := .int _ _) rfl) ?_
       refine st_nil ?_
       refine nx_then ?_
       refine cd_ret ?_
       refine rt_then ?_
       refine res2 (v := .bool _) (v' := .int _ _) rfl rfl rfl ?_
       refine ⟨?_, From.rfl_⟩
       rw [okV_out (by omega), eV_out (by omega)]
  · (try first | replace Q1 := bn_t Q1 | replace Q1 := bn_f Q1)
    (try first | replace Q1 := bx_t Q1 | replace Q1 := bx_f Q1 | replace Q1 := be_t Q1 | replace Q1 := be_f Q1 | replace Q1 := of_decide_eq_true Q1 | replace Q1 := of_decide_eq_false Q1)
    first
     | (exfalso; first | omega | contradiction | (cases Q1; done))
     | skip
       refine st_unguard rfl ?_
       refine st_val (ro_move (v := .int _ _) rfl) ?_
       refine st_unguard rfl ?_
       refine st_val (ro_gtr rfl rfl) ?_
       refine st_val (ro_pickF (v := .bool _) rfl rfl) ?_
       refine st_nil ?_
       refine nx_then ?_
       refine cd_cond rfl (fun Q2 => ?_) (fun Q2 => ?_)
       · (try first | replace Q2 := bn_t Q2 | replace Q2 := bn_f Q2)
         (try first | replace Q2 := bx_t Q2 | replace Q2 := bx_f Q2 | replace Q2 := be_t Q2 | replace Q2 := be_f Q2 | replace Q2 := of_decide_eq_true Q2 | replace Q2 := of_decide_eq_false Q2)
         first
          | (exfalso; first | omega | contradiction | (cases Q2; done))
          | skip
            refine cd_seq ?_
            refine cd_region ?_
            refine st_val (ro_assign (v := .bool _) rfl) ?_
            refine st_val (ro_assign (v := .int _ _) rfl) ?_
            refine st_nil ?_
            refine nx_then ?_
            refine cd_ret ?_
            refine rt_then ?_
            refine res2 (v := .bool _) (v' := .int _ _) rfl rfl rfl ?_
            refine ⟨?_, From.rfl_⟩
            rw [okV_out (by omega), eV_out (by omega)]
       · (try first | replace Q2 := bn_t Q2 | replace Q2 := bn_f Q2)
         (try first | replace Q2 := bx_t Q2 | replace Q2 := bx_f Q2 | replace Q2 := be_t Q2 | replace Q2 := be_f Q2 | replace Q2 := of_decide_eq_true Q2 | replace Q2 := of_decide_eq_false Q2)
         first
          | (exfalso; first | omega | contradiction | (cases Q2; done))
          | skip
            refine cd_skip ?_
            refine nx_then ?_
            refine cd_seq ?_
            refine cd_region ?_
            obtain ⟨N, rfl⟩ : ∃ N : Nat, n = N := ⟨n.toNat, by omega⟩
            have hB6 : From w w := From.rfl_
            refine st_alloc QHelp_o41 ?_
            intro b6 w3 E6 hb6 hk6
            have hg6 : w.heap.size ≤ b6 := by have := hB6.size; omega
            refine st_nil ?_
            refine nx_then ?_
            refine cd_seq ?_
            refine cd_region ?_
            refine st_val (ro_assign (v := .int _ _) rfl) ?_
            refine st_nil ?_
            refine nx_then ?_
            refine cd_seq ?_
            refine cd_seq ?_
            refine cd_region ?_
            refine st_val (ro_move (v := .slice _ _ _) rfl) ?_
            refine st_val (ro_len QHelp_l23 rfl) ?_
            refine st_val (ro_move (v := .int _ _) rfl) ?_
            refine st_nil ?_
            refine nx_then ?_
            refine cd_block ?_
            refine cd_loop (G := Nat) [9, 19, 20, 21, 22, 23, 24, 25, 26, 27, 28, 29, 30, 31, 32, 33, 34, 35, 36, 37, 38] (fun k => [(7, .int .i64 (cv (L.take k) N : Nat)), (18, .int .i64 (k : Nat))]) (fun k w' => k ≤ L.length ∧ Blk w' b6 41 (vrow (L.take k) N).toArray ∧ From w w') (fun k => L.length - k) (0) ⟨(int_eq (by rw [List.take_zero, cv_nil]; rfl)), rfl, trivial⟩ ?_ ?_
            · exact ⟨Nat.zero_le _, by rw [List.take_zero, vrow_nil]; exact hk6.from_ From.rfl_, (From.rfl_.next E6)⟩
            rintro k ρ4 w4 ⟨hk, hP, hB⟩
            have hcl := cv_le (L.take k) N
            refine cd_seq ?_
            refine cd_region ?_
            refine st_val (ro_lss rfl rfl) ?_
            refine st_nil ?_
            refine nx_then ?_
            refine cd_seq ?_
            refine cd_cond rfl (fun Q5 => ?_) (fun Q5 => ?_)
            · (try first | replace Q5 := bn_t Q5 | replace Q5 := bn_f Q5)
              (try first | replace Q5 := bx_t Q5 | replace Q5 := bx_f Q5 | replace Q5 := be_t Q5 | replace Q5 := be_f Q5 | replace Q5 := of_decide_eq_true Q5 | replace Q5 := of_decide_eq_false Q5)
              obtain ⟨ba, oa, rfl, hca⟩ := hr (by omega)
              first
               | (exfalso; first | omega | contradiction | (cases Q5; done))
               | skip
                 refine cd_skip ?_
                 refine nx_then ?_
                 refine cd_seq ?_
                 refine cd_block ?_
                 refine cd_seq ?_
                 refine cd_region ?_
                 refine st_val (ro_indexAddr1 QHelp_e23 rfl rfl (by omega)) ?_
                 refine st_val (ro_load QHelp_g3 rfl (by exact cellF hB (hca k (by omega)))) ?_
                 refine st_val (ro_assign (v := .int _ _) rfl) ?_
                 refine st_nil ?_
                 refine nx_then ?_
                 refine cd_seq ?_
                 refine cd_seq ?_
                 refine cd_region ?_
                 refine st_val (ro_move (v := .int _ _) rfl) ?_
                 refine st_val (ro_lss rfl rfl) ?_
                 refine st_val (ro_move (v := .bool _) rfl) ?_
                 refine st_split (t := 24) rfl (fun Q6 => ?_) (fun Q6 => ?_)
                 · (try first | replace Q6 := bn_t Q6 | replace Q6 := bn_f Q6)
                   (try first | replace Q6 := bx_t Q6 | replace Q6 := bx_f Q6 | replace Q6 := be_t Q6 | replace Q6 := be_f Q6 | replace Q6 := of_decide_eq_true Q6 | replace Q6 := of_decide_eq_false Q6)
                   have hsk : ¬ (1 ≤ L[k] ∧ L[k] ≤ N) ∨ L[k] ∈ L.take k := .inl (by omega)
                   have hV := hP
                   rw [← vrow_skip (by omega) hsk] at hV
                   have hC := cv_skip (n := N) (by omega) hsk
                   first
                    | (exfalso; first | omega | contradiction | (cases Q6; done))
                    | skip
                      refine st_gno rfl rfl ?_
                      refine st_gno rfl rfl ?_
                      refine st_gno rfl rfl ?_
                      refine st_val (ro_pickT (v := .bool _) rfl rfl) ?_
                      refine st_val (ro_move (v := .bool _) rfl) ?_
                      refine st_gno rfl rfl ?_
                      refine st_gno rfl rfl ?_
                      refine st_gno rfl rfl ?_
                      refine st_val (ro_pickT (v := .bool _) rfl rfl) ?_
                      refine st_nil ?_
                      refine nx_then ?_
                      refine cd_condT rfl ?_
                      refine cd_exit ?_
                      refine ex_then ?_
                      refine ex_block ?_
                      refine nx_then ?_
                      refine cd_region ?_
                      refine st_val (ro_addN (b := 1) rfl rfl (by omega)) ?_
                      refine st_val (ro_move (v := .int _ _) rfl) ?_
                      refine st_nil ?_
                      refine nx_cut (k + 1) ⟨(by first | rfl | (refine int_eq ?_; omega)), (by first | rfl | (refine int_eq ?_; omega)), trivial⟩ (by (iterate 42 refine agr_cons rfl ?_); exact agr_rfl) ⟨?_, ?_⟩
                      · exact ⟨by omega, hV, hB⟩
                      · omega
                 · (try first | replace Q6 := bn_t Q6 | replace Q6 := bn_f Q6)
                   (try first | replace Q6 := bx_t Q6 | replace Q6 := bx_f Q6 | replace Q6 := be_t Q6 | replace Q6 := be_f Q6 | replace Q6 := of_decide_eq_true Q6 | replace Q6 := of_decide_eq_false Q6)
                   first
                    | (exfalso; first | omega | contradiction | (cases Q6; done))
                    | skip
                      refine st_unguard rfl ?_
                      refine st_val (ro_move (v := .int _ _) rfl) ?_
                      refine st_unguard rfl ?_
                      refine st_val (ro_move (v := .int _ _) rfl) ?_
                      refine st_unguard rfl ?_
                      refine st_val (ro_gtr rfl rfl) ?_
                      refine st_val (ro_pickF (v := .bool _) rfl rfl) ?_
                      refine st_val (ro_move (v := .bool _) rfl) ?_
                      refine st_split (t := 29) rfl (fun Q7 => ?_) (fun Q7 => ?_)
                      · (try first | replace Q7 := bn_t Q7 | replace Q7 := bn_f Q7)
                        (try first | replace Q7 := bx_t Q7 | replace Q7 := bx_f Q7 | replace Q7 := be_t Q7 | replace Q7 := be_f Q7 | replace Q7 := of_decide_eq_true Q7 | replace Q7 := of_decide_eq_false Q7)
                        have hsk : ¬ (1 ≤ L[k] ∧ L[k] ≤ N) ∨ L[k] ∈ L.take k := .inl (by omega)
                        have hV := hP
                        rw [← vrow_skip (by omega) hsk] at hV
                        have hC := cv_skip (n := N) (by omega) hsk
                        first
                         | (exfalso; first | omega | contradiction | (cases Q7; done))
                         | skip
                           refine st_gno rfl rfl ?_
                           refine st_gno rfl rfl ?_
                           refine st_gno rfl rfl ?_
                           refine st_val (ro_pickT (v := .bool _) rfl rfl) ?_
                           refine st_nil ?_
                           refine nx_then ?_
                           refine cd_condT rfl ?_
                           refine cd_exit ?_
                           refine ex_then ?_
                           refine ex_block ?_
                           refine nx_then ?_
                           refine cd_region ?_
                           refine st_val (ro_addN (b := 1) rfl rfl (by omega)) ?_
                           refine st_val (ro_move (v := .int _ _) rfl) ?_
                           refine st_nil ?_
                           refine nx_cut (k + 1) ⟨(by first | rfl | (refine int_eq ?_; omega)), (by first | rfl | (refine int_eq ?_; omega)), trivial⟩ (by (iterate 43 refine agr_cons rfl ?_); exact agr_rfl) ⟨?_, ?_⟩
                           · exact ⟨by omega, hV, hB⟩
                           · omega
                      · (try first | replace Q7 := bn_t Q7 | replace Q7 := bn_f Q7)
                        (try first | replace Q7 := bx_t Q7 | replace Q7 := bx_f Q7 | replace Q7 := be_t Q7 | replace Q7 := be_f Q7 | replace Q7 := of_decide_eq_true Q7 | replace Q7 := of_decide_eq_false Q7)
                        first
                         | (exfalso; first | omega | contradiction | (cases Q7; done))
                         | skip
                           refine st_unguard rfl ?_
                           refine st_val (ro_move (v := .int _ _) rfl) ?_
                           refine st_unguard rfl ?_
                           refine st_val (ro_indexAddrA QHelp_a41 rfl rfl (by omega)) ?_
                           refine st_unguard rfl ?_
                           refine st_val (ro_load QHelp_g4 rfl (by exact hP.rd _ (vrow_get _ N _ (by omega)))) ?_
                           refine st_val (ro_pickF (v := .bool _) rfl rfl) ?_
                           refine st_nil ?_
                           refine nx_then ?_
                           refine cd_cond rfl (fun Q8 => ?_) (fun Q8 => ?_)
                           · (try first | replace Q8 := bn_t Q8 | replace Q8 := bn_f Q8)
                             (try first | replace Q8 := bx_t Q8 | replace Q8 := bx_f Q8 | replace Q8 := be_t Q8 | replace Q8 := be_f Q8 | replace Q8 := of_decide_eq_true Q8 | replace Q8 := of_decide_eq_false Q8)
                             have h9 := Q8
                             have hsk : ¬ (1 ≤ L[k] ∧ L[k] ≤ N) ∨ L[k] ∈ L.take k := .inr (by have h8 := h9.2.2; rwa [Int.toNat_of_nonneg (by omega)] at h8)
                             have hV := hP
                             rw [← vrow_skip (by omega) hsk] at hV
                             have hC := cv_skip (n := N) (by omega) hsk
                             first
                              | (exfalso; first | omega | contradiction | (cases Q8; done))
                              | skip
                                refine cd_exit ?_
                                refine ex_then ?_
                                refine ex_block ?_
                                refine nx_then ?_
                                refine cd_region ?_
                                refine st_val (ro_addN (b := 1) rfl rfl (by omega)) ?_
                                refine st_val (ro_move (v := .int _ _) rfl) ?_
                                refine st_nil ?_
                                refine nx_cut (k + 1) ⟨(by first | rfl | (refine int_eq ?_; omega)), (by first | rfl | (refine int_eq ?_; omega)), trivial⟩ (by (iterate 43 refine agr_cons rfl ?_); exact agr_rfl) ⟨?_, ?_⟩
                                · exact ⟨by omega, hV, hB⟩
                                · omega
                           · (try first | replace Q8 := bn_t Q8 | replace Q8 := bn_f Q8)
                             (try first | replace Q8 := bx_t Q8 | replace Q8 := bx_f Q8 | replace Q8 := be_t Q8 | replace Q8 := be_f Q8 | replace Q8 := of_decide_eq_true Q8 | replace Q8 := of_decide_eq_false Q8)
                             have h9 := Q8
                             have hnew : L[k] ∉ L.take k := fun hm => h9 ⟨by omega, by omega, by rw [Int.toNat_of_nonneg (by omega)]; exact hm⟩
                             have hC := cv_new (by omega) hnew N (by omega) (by omega)
                             first
                              | (exfalso; first | omega | contradiction | (cases Q8; done))
                              | skip
                                refine cd_skip ?_
                                refine nx_then ?_
                                refine cd_seq ?_
                                refine cd_region ?_
                                refine st_val (ro_move (v := .int _ _) rfl) ?_
                                refine st_val (ro_indexAddrA QHelp_a41 rfl rfl (by omega)) ?_
                                refine st_put (v := .bool _) QHelp_z4 rfl rfl rfl (hP) (by simp [vrow]; omega) ?_
                                intro w9 O9 P9
                                have hV := P9
                                rw [vrow_new (by omega) (by omega) (by omega) (by omega)] at hV
                                refine st_nil ?_
                                refine nx_then ?_
                                refine cd_region ?_
                                refine st_val (ro_move (v := .int _ _) rfl) ?_
                                refine st_val (ro_addN (b := 1) rfl rfl (by omega)) ?_
                                refine st_val (ro_assign (v := .int _ _) rfl) ?_
                                refine st_nil ?_
                                refine nx_block ?_
                                refine nx_then ?_
                                refine cd_region ?_
                                refine st_val (ro_addN (b := 1) rfl rfl (by omega)) ?_
                                refine st_val (ro_move (v := .int _ _) rfl) ?_
                                refine st_nil ?_
                                refine nx_cut (k + 1) ⟨(by first | rfl | (refine int_eq ?_; omega)), (by first | rfl | (refine int_eq ?_; omega)), trivial⟩ (by (iterate 48 refine agr_cons rfl ?_); exact agr_rfl) ⟨?_, ?_⟩
                                · exact ⟨by omega, hV, (hB.only O9 (hg6))⟩
                                · omega
            · (try first | replace Q5 := bn_t Q5 | replace Q5 := bn_f Q5)
              (try first | replace Q5 := bx_t Q5 | replace Q5 := bx_f Q5 | replace Q5 := be_t Q5 | replace Q5 := be_f Q5 | replace Q5 := of_decide_eq_true Q5 | replace Q5 := of_decide_eq_false Q5)
              first
               | (exfalso; first | omega | contradiction | (cases Q5; done))
               | skip
                 refine cd_exit ?_
                 refine ex_then ?_
                 refine ex_then ?_
                 refine ex_block ?_
                 refine nx_then ?_
                 refine cd_seq ?_
                 refine cd_region ?_
                 refine st_val (ro_move (v := .int _ _) rfl) ?_
                 refine st_val (ro_mulN (a := 2) rfl rfl (by omega)) ?_
                 refine st_val (ro_move (v := .int _ _) rfl) ?_
                 refine st_val (ro_gtr rfl rfl) ?_
                 refine st_val (ro_assign (v := .bool _) rfl) ?_
                 refine st_val (ro_assign (v := .int _ _) rfl) ?_
                 refine st_nil ?_
                 refine nx_then ?_
                 refine cd_ret ?_
                 refine res2 (v := .bool _) (v' := .int _ _) rfl rfl rfl ?_
                 obtain rfl : k = L.length := by omega
                 refine ⟨?_, hB⟩
                 rw [okV_in (by omega), eV_in (by omega), List.take_length]
                 exact tup_b (decide_eq_decide.2 (by omega))
set_option maxRecDepth 100000 in
set_option maxHeartbeats 400000 in
theorem refIndex_rt (A : Option Addr) (c : Nat) (L : List Int) (w : World) (hr : RowOf iV w A L) (hF : Fit L) :
    Rt Try.prog 12 [.slice A L.length c] w (fun v w' => v = .int .i64 (med L) ∧ From w w') := by
  obtain ⟨f1, f2, f3⟩ := id hF
  obtain ⟨ba, oa, rfl, hca⟩ := hr (by omega)
  have hm0 := f3 _ (med_mem f1)
  refine enter (n := 42) Try.func12 rfl rfl rfl ?_
  refine cd_seq ?_
  refine cd_region ?_
  refine st_val (ro_assign (v := .int _ _) rfl) ?_
  refine st_nil ?_
  refine nx_then ?_
  refine cd_seq ?_
  refine cd_region ?_
  refine st_val (ro_assign (v := .int _ _) rfl) ?_
  refine st_nil ?_
  refine nx_then ?_
  refine cd_seq ?_
  refine cd_seq ?_
  refine cd_region ?_
  refine st_val (ro_assign (v := .int _ _) rfl) ?_
  refine st_nil ?_
  refine nx_then ?_
  refine cd_block ?_
  refine cd_loop (G := Int × Nat) [5, 6, 7, 8, 9, 10, 11, 12, 13, 14, 15, 16, 17, 18, 19, 20, 21, 22, 23, 24, 25, 26, 27, 28, 29, 30, 31, 32, 33, 34, 35, 36, 37, 38, 39, 40] (fun (m, i) => [(3, .int .i64 m), (4, .int .i64 (i : Nat))]) (fun (m, i) w' => i ≤ L.length ∧ m ≤ med L ∧ (∀ j (h : j < L.length), j < i → L[j] = med L → m = med L) ∧ From w w') (fun (_, i) => L.length - i) ((0, 0)) ⟨rfl, rfl, trivial⟩ ?_ ?_
  · exact ⟨Nat.zero_le _, hm0, fun j h h0 => absurd h0 (by omega), From.rfl_⟩
  rintro ⟨m, i⟩ ρ1 w1 ⟨hi, hm, hj, hB⟩
  refine cd_seq ?_
  refine cd_seq ?_
  refine cd_region ?_
  refine st_val (ro_move (v := .int _ _) rfl) ?_
  refine st_val (ro_move (v := .slice _ _ _) rfl) ?_
  refine st_val (ro_len QHelp_l23 rfl) ?_
  refine st_val (ro_lss rfl rfl) ?_
  refine st_nil ?_
  refine nx_then ?_
  refine cd_cond rfl (fun Q2 => ?_) (fun Q2 => ?_)
  · (try first | replace Q2 := bn_t Q2 | replace Q2 := bn_f Q2)
    (try first | replace Q2 := bx_t Q2 | replace Q2 := bx_f Q2 | replace Q2 := be_t Q2 | replace Q2 := be_f Q2 | replace Q2 := of_decide_eq_true Q2 | replace Q2 := of_decide_eq_false Q2)
    first
     | (exfalso; first | omega | contradiction | (cases Q2; done))
     | skip
       refine cd_skip ?_
       refine nx_then ?_
       refine cd_seq ?_
       refine cd_block ?_
       refine cd_seq ?_
       refine cd_region ?_
       refine st_val (ro_assign (v := .int _ _) rfl) ?_
       refine st_nil ?_
       refine nx_then ?_
       refine cd_seq ?_
       refine cd_seq ?_
       refine cd_region ?_
       refine st_val (ro_assign (v := .int _ _) rfl) ?_
       refine st_nil ?_
       refine nx_then ?_
       refine cd_block ?_
       refine cd_loop (G := Nat) [13, 14, 15, 16, 17, 18, 19, 20, 21, 22, 23, 24, 25, 26, 27, 28, 29] (fun k => [(5, .int .i64 ((L.take k).countP (fun y => decide (L[i] ≤ y)) : Nat)), (6, .int .i64 (k : Nat))]) (fun k w' => k ≤ L.length ∧ From w w') (fun k => L.length - k) (0) ⟨rfl, rfl, trivial⟩ ?_ ?_
       · exact ⟨Nat.zero_le _, hB⟩
       rintro k ρ3 w3 ⟨hk, hB⟩
       have hcl := List.countP_le_length (p := fun y => decide (L[i] ≤ y)) (l := L.take k)
       rw [List.length_take] at hcl
       refine cd_seq ?_
       refine cd_seq ?_
       refine cd_region ?_
       refine st_val (ro_move (v := .int _ _) rfl) ?_
       refine st_val (ro_move (v := .slice _ _ _) rfl) ?_
       refine st_val (ro_len QHelp_l23 rfl) ?_
       refine st_val (ro_lss rfl rfl) ?_
       refine st_nil ?_
       refine nx_then ?_
       refine cd_cond rfl (fun Q4 => ?_) (fun Q4 => ?_)
       · (try first | replace Q4 := bn_t Q4 | replace Q4 := bn_f Q4)
         (try first | replace Q4 := bx_t Q4 | replace Q4 := bx_f Q4 | replace Q4 := be_t Q4 | replace Q4 := be_f Q4 | replace Q4 := of_decide_eq_true Q4 | replace Q4 := of_decide_eq_false Q4)
         first
          | (exfalso; first | omega | contradiction | (cases Q4; done))
          | skip
            refine cd_skip ?_
            refine nx_then ?_
            refine cd_seq ?_
            refine cd_block ?_
            refine cd_seq ?_
            apply cd_drawn 9 [(19, eqp _), (20, eqp _), (21, eqp _), (22, eqp _), (23, eqp _), (24, eqp _), (25, eqp _), (26, eqp _), (27, eqp _)] (by kernel_rfl) (by kernel_rfl) ⟨eqp_mono _, eqp_mono _, eqp_mono _, eqp_mono _, eqp_mono _, eqp_mono _, eqp_mono _, eqp_mono _, eqp_mono _, trivial⟩
            case hop =>
             refine ⟨?_, ?_⟩
             · intro w6 D6
               show OpOK _ _ _ _ _ _ _
               exact ok_pure (ro_move (v := .slice _ _ _) rfl) rfl
             refine ⟨?_, ?_⟩
             · intro w7 D7
               show OpOK _ _ _ _ _ _ _
               exact ok_pure (ro_move (v := .int _ _) rfl) rfl
             refine ⟨?_, ?_⟩
             · intro w8 D8
               rintro _ rfl _ rfl
               show OpOK _ _ _ _ _ _ _
               exact ok_pure (ro_indexAddr1 QHelp_e23 rfl rfl (by omega)) rfl
             refine ⟨?_, ?_⟩
             · intro w9 D9
               rintro _ rfl
               show OpOK _ _ _ _ _ _ _
               exact ok_pure (ro_load QHelp_g3 rfl (by exact cellF (hB.next D9) (hca k (by omega)))) rfl
             refine ⟨?_, ?_⟩
             · intro w10 D10
               show OpOK _ _ _ _ _ _ _
               exact ok_pure (ro_move (v := .slice _ _ _) rfl) rfl
             refine ⟨?_, ?_⟩
             · intro w11 D11
               show OpOK _ _ _ _ _ _ _
               exact ok_pure (ro_move (v := .int _ _) rfl) rfl
             refine ⟨?_, ?_⟩
             · intro w12 D12
               rintro _ rfl _ rfl
               show OpOK _ _ _ _ _ _ _
               exact ok_pure (ro_indexAddr1 QHelp_e23 rfl rfl (by omega)) rfl
             refine ⟨?_, ?_⟩
             · intro w13 D13
               rintro _ rfl
               show OpOK _ _ _ _ _ _ _
               exact ok_pure (ro_load QHelp_g3 rfl (by exact cellF (hB.next D13) (hca i (by omega)))) rfl
             refine ⟨?_, ?_⟩
             · intro w14 D14
               rintro _ rfl _ rfl
               show OpOK _ _ _ _ _ _ _
               exact ok_pure (ro_geq rfl rfl) rfl
             exact trivial
            case hend =>
             intro w15 D15
             rintro _ rfl _ rfl _ rfl _ rfl _ rfl _ rfl _ rfl _ rfl _ rfl
             show St _ _ _ _ _ _ _
             refine st_nil ?_
             refine nx_then ?_
             refine cd_cond rfl (fun Q16 => ?_) (fun Q16 => ?_)
             · (try first | replace Q16 := bn_t Q16 | replace Q16 := bn_f Q16)
               (try first | replace Q16 := bx_t Q16 | replace Q16 := bx_f Q16 | replace Q16 := be_t Q16 | replace Q16 := be_f Q16 | replace Q16 := of_decide_eq_true Q16 | replace Q16 := of_decide_eq_false Q16)
               have hcp := countP_one (p := fun y => decide (L[i] ≤ y)) (L := L) (k := k) (by omega)
               rw [if_pos (decide_eq_true (by omega))] at hcp
               first
                | (exfalso; first | omega | contradiction | (cases Q16; done))
                | skip
                  refine cd_region ?_
                  refine st_val (ro_move (v := .int _ _) rfl) ?_
                  refine st_val (ro_addN (b := 1) rfl rfl (by omega)) ?_
                  refine st_val (ro_assign (v := .int _ _) rfl) ?_
                  refine st_nil ?_
                  refine nx_block ?_
                  refine nx_then ?_
                  refine cd_region ?_
                  refine st_val (ro_move (v := .int _ _) rfl) ?_
                  refine st_val (ro_addN (b := 1) rfl rfl (by omega)) ?_
                  refine st_val (ro_assign (v := .int _ _) rfl) ?_
                  refine st_nil ?_
                  refine nx_cut (k + 1) ⟨(by first | rfl | (refine int_eq ?_; omega)), (by first | rfl | (refine int_eq ?_; omega)), trivial⟩ (by (iterate 38 refine agr_cons rfl ?_); exact agr_rfl) ⟨?_, ?_⟩
                  · exact ⟨by omega, (hB.next D15)⟩
                  · omega
             · (try first | replace Q16 := bn_t Q16 | replace Q16 := bn_f Q16)
               (try first | replace Q16 := bx_t Q16 | replace Q16 := bx_f Q16 | replace Q16 := be_t Q16 | replace Q16 := be_f Q16 | replace Q16 := of_decide_eq_true Q16 | replace Q16 := of_decide_eq_false Q16)
               have hcp := countP_one (p := fun y => decide (L[i] ≤ y)) (L := L) (k := k) (by omega)
               rw [if_neg (by rw [decide_eq_true_eq]; omega)] at hcp
               first
                | (exfalso; first | omega | contradiction | (cases Q16; done))
                | skip
                  refine cd_skip ?_
                  refine nx_block ?_
                  refine nx_then ?_
                  refine cd_region ?_
                  refine st_val (ro_move (v := .int _ _) rfl) ?_
                  refine st_val (ro_addN (b := 1) rfl rfl (by omega)) ?_
                  refine st_val (ro_assign (v := .int _ _) rfl) ?_
                  refine st_nil ?_
                  refine nx_cut (k + 1) ⟨(by first | rfl | (refine int_eq ?_; omega)), (by first | rfl | (refine int_eq ?_; omega)), trivial⟩ (by (iterate 35 refine agr_cons rfl ?_); exact agr_rfl) ⟨?_, ?_⟩
                  · exact ⟨by omega, (hB.next D15)⟩
                  · omega
       · (try first | replace Q4 := bn_t Q4 | replace Q4 := bn_f Q4)
         (try first | replace Q4 := bx_t Q4 | replace Q4 := bx_f Q4 | replace Q4 := be_t Q4 | replace Q4 := be_f Q4 | replace Q4 := of_decide_eq_true Q4 | replace Q4 := of_decide_eq_false Q4)
         first
          | (exfalso; first | omega | contradiction | (cases Q4; done))
          | skip
            refine cd_exit ?_
            refine ex_then ?_
            refine ex_then ?_
            refine ex_block ?_
            refine nx_then ?_
            refine cd_seq ?_
            refine cd_region ?_
            refine st_val (ro_move (v := .int _ _) rfl) ?_
            refine st_val (ro_mulN (a := 2) rfl rfl (by omega)) ?_
            refine st_val (ro_move (v := .slice _ _ _) rfl) ?_
            refine st_val (ro_len QHelp_l23 rfl) ?_
            refine st_val (ro_gtr rfl rfl) ?_
            refine st_nil ?_
            refine nx_then ?_
            refine cd_cond rfl (fun Q17 => ?_) (fun Q17 => ?_)
            · (try first | replace Q17 := bn_t Q17 | replace Q17 := bn_f Q17)
              (try first | replace Q17 := bx_t Q17 | replace Q17 := bx_f Q17 | replace Q17 := be_t Q17 | replace Q17 := be_f Q17 | replace Q17 := of_decide_eq_true Q17 | replace Q17 := of_decide_eq_false Q17)
              have hme : L[i] ≤ med L := by
                rcases Int.lt_or_le (med L) L[i] with a | a
                · have h1 := cnt_high f1 a
                  obtain rfl : k = L.length := by omega
                  rw [List.take_length] at *
                  unfold cnt at h1
                  omega
                · exact a
              obtain ⟨m2, hm2⟩ : ∃ m2, m2 = max m L[i] := ⟨_, rfl⟩
              first
               | (exfalso; first | omega | contradiction | (cases Q17; done))
               | skip
                 refine cd_region ?_
                 refine st_val (ro_move (v := .int _ _) rfl) ?_
                 refine st_val (ro_move (v := .slice _ _ _) rfl) ?_
                 refine st_val (ro_move (v := .int _ _) rfl) ?_
                 refine st_val (ro_indexAddr1 QHelp_e23 rfl rfl (by omega)) ?_
                 refine st_val (ro_load QHelp_g3 rfl (by exact cellF hB (hca i (by omega)))) ?_
                 refine st_val (ro_max rfl rfl) ?_
                 refine st_val (ro_assign (v := .int _ _) rfl) ?_
                 refine st_nil ?_
                 refine nx_block ?_
                 refine nx_then ?_
                 refine cd_region ?_
                 refine st_val (ro_move (v := .int _ _) rfl) ?_
                 refine st_val (ro_addN (b := 1) rfl rfl (by omega)) ?_
                 refine st_val (ro_assign (v := .int _ _) rfl) ?_
                 refine st_nil ?_
                 refine nx_cut ((m2, i + 1)) ⟨(by first | rfl | (refine int_eq ?_; omega)), (by first | rfl | (refine int_eq ?_; omega)), trivial⟩ (by (iterate 82 refine agr_cons rfl ?_); exact agr_rfl) ⟨?_, ?_⟩
                 · refine ⟨by omega, by omega, fun j h h0 he => ?_, hB⟩
                   rcases Nat.lt_or_ge j i with a | a
                   · have := hj j h a he
                     omega
                   · obtain rfl : j = i := by omega
                     omega
                 · show _ - _ < _ - _; omega
            · (try first | replace Q17 := bn_t Q17 | replace Q17 := bn_f Q17)
              (try first | replace Q17 := bx_t Q17 | replace Q17 := bx_f Q17 | replace Q17 := be_t Q17 | replace Q17 := be_f Q17 | replace Q17 := of_decide_eq_true Q17 | replace Q17 := of_decide_eq_false Q17)
              have hme : L[i] ≠ med L := by
                intro a
                have h1 := cnt_low f1 (Int.le_of_eq a)
                obtain rfl : k = L.length := by omega
                rw [List.take_length] at *
                unfold cnt at h1
                omega
              obtain ⟨m2, hm2⟩ : ∃ m2, m2 = m := ⟨_, rfl⟩
              first
               | (exfalso; first | omega | contradiction | (cases Q17; done))
               | skip
                 refine cd_skip ?_
                 refine nx_block ?_
                 refine nx_then ?_
                 refine cd_region ?_
                 refine st_val (ro_move (v := .int _ _) rfl) ?_
                 refine st_val (ro_addN (b := 1) rfl rfl (by omega)) ?_
                 refine st_val (ro_assign (v := .int _ _) rfl) ?_
                 refine st_nil ?_
                 refine nx_cut ((m2, i + 1)) ⟨(by first | rfl | (refine int_eq ?_; omega)), (by first | rfl | (refine int_eq ?_; omega)), trivial⟩ (by (iterate 75 refine agr_cons rfl ?_); exact agr_rfl) ⟨?_, ?_⟩
                 · refine ⟨by omega, by omega, fun j h h0 he => ?_, hB⟩
                   rcases Nat.lt_or_ge j i with a | a
                   · have := hj j h a he
                     omega
                   · obtain rfl : j = i := by omega
                     omega
                 · show _ - _ < _ - _; omega
  · (try first | replace Q2 := bn_t Q2 | replace Q2 := bn_f Q2)
    (try first | replace Q2 := bx_t Q2 | replace Q2 := bx_f Q2 | replace Q2 := be_t Q2 | replace Q2 := be_f Q2 | replace Q2 := of_decide_eq_true Q2 | replace Q2 := of_decide_eq_false Q2)
    first
     | (exfalso; first | omega | contradiction | (cases Q2; done))
     | skip
       refine cd_exit ?_
       refine ex_then ?_
       refine ex_then ?_
       refine ex_block ?_
       refine nx_then ?_
       refine cd_seq ?_
       refine cd_region ?_
       refine st_val (ro_move (v := .int _ _) rfl) ?_
       refine st_val (ro_assign (v := .int _ _) rfl) ?_
       refine st_nil ?_
       refine nx_then ?_
       refine cd_ret ?_
       refine res1 (v := .int _ _) rfl rfl ?_
       obtain ⟨j, hjl, he⟩ := List.getElem_of_mem (med_mem f1)
       exact ⟨int_eq (hj j hjl (by omega) he), hB⟩
theorem wakes_ok : okV 3 [3, 1] = true ∧ eV 3 = 0 := by decide
set_option maxRecDepth 100000 in
set_option maxHeartbeats 400000 in
theorem wakes_any (w : World) :
    Rt Try.prog 14 [] w (fun v w' => v = .bool true ∧ From w w') := by
  refine enter (n := 14) Try.func14 rfl rfl rfl ?_
  refine cd_seq ?_
  refine cd_region ?_
  refine st_val (ro_assign (v := .bool _) rfl) ?_
  refine st_nil ?_
  refine nx_then ?_
  refine cd_seq ?_
  refine cd_region ?_
  refine st_lits [.const (.int .i64 3), .const (.int .i64 1)] [.int .i64 3, .int .i64 1] QHelp_q23 rfl rfl rfl rfl (by simp [Value.cells]) ?_
  intro b4 w1 E4 hb4 hk4
  refine st_call QHelp_k8 (enough_rt (some ⟨b4, 0, none⟩) 2 3 [3, 1] _ (RowOf.blk hk4 (fun i hi => by match i, hi with | 0, _ => rfl | 1, _ => rfl)) (by decide)) ?_
  rintro v5 w2 ⟨rfl, E5⟩
  refine st_val (ro_move (v := .tuple _) rfl) ?_
  refine st_val (ro_extract rfl rfl) ?_
  refine st_val (ro_extract rfl rfl) ?_
  refine st_val (ro_assign (v := .bool _) rfl) ?_
  refine st_val (ro_assign (v := .int _ _) rfl) ?_
  refine st_nil ?_
  refine nx_then ?_
  refine cd_seq ?_
  refine cd_region ?_
  refine st_val (ro_move (v := .int _ _) rfl) ?_
  refine st_call QHelp_k9 (num_any _ _) ?_
  rintro v9 w3 ⟨rfl, rfl⟩
  refine st_val (ro_bt (ro_eql rfl rfl) (by decide)) ?_
  refine st_val (ro_move (v := .bool _) rfl) ?_
  refine st_unguard rfl ?_
  refine st_val (ro_move (v := .bool _) rfl) ?_
  refine st_val (ro_pickT (v := .bool _) rfl rfl) ?_
  refine st_val (ro_assign (v := .bool _) rfl) ?_
  refine st_nil ?_
  refine nx_then ?_
  refine cd_ret ?_
  refine res1 (v := .bool _) rfl rfl ?_
  exact ⟨congrArg Value.bool wakes_ok.1, ((From.rfl_.next E4).next E5)⟩
set_option maxRecDepth 100000 in
set_option maxHeartbeats 400000 in
theorem heavy_any (N : Int) (A B : Option Addr) (n ca m cb : Nat) (w : World) (hn : n ≤ 1000000000000000 ∧ m ≤ 1000000000000000) :
    Rt Try.prog 6 [.agg #[.int .i64 N, .slice A n ca, .slice B m cb]] w (fun v w' => v = .bool (decide (500 < n + m)) ∧ From w w') := by
  refine enter (n := 11) Try.func6 rfl rfl rfl ?_
  refine cd_seq ?_
  refine cd_region ?_
  refine st_box (v := .agg _) rfl ?_
  intro b1 w1 E1 hb1 hk1
  refine st_val (ro_assign (v := .bool _) rfl) ?_
  refine st_nil ?_
  refine nx_then ?_
  refine cd_seq ?_
  refine cd_region ?_
  refine st_val (ro_fieldAddr QHelp_f25_1 rfl) ?_
  refine st_val (ro_load QHelp_g23 rfl (by exact hk1.rd 1 rfl)) ?_
  refine st_val (ro_len QHelp_l23 rfl) ?_
  refine st_val (ro_fieldAddr QHelp_f25_2 rfl) ?_
  refine st_val (ro_load QHelp_g23 rfl (by exact hk1.rd 2 rfl)) ?_
  refine st_val (ro_len QHelp_l23 rfl) ?_
  refine st_val (ro_addN rfl rfl (by omega)) ?_
  refine st_val (ro_gtr rfl rfl) ?_
  refine st_val (ro_assign (v := .bool _) rfl) ?_
  refine st_nil ?_
  refine nx_then ?_
  refine cd_ret ?_
  refine res1 (v := .bool _) rfl rfl ?_
  refine ⟨?_, (From.rfl_.next E1)⟩
  first
    | rw [decide_eq_true (by omega)]
    | exact congrArg Value.bool (decide_eq_decide.2 (by omega))
end Go.Proofs.Ytpgcelbodpmajaa
