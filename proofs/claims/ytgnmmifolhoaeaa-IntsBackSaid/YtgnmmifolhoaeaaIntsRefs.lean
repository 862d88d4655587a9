/- Walks of the reference of package ints, of Parse, of same. -/
import Derived.Test.YtgnmmifolhoaeaaIntsHelp
import Derived.Test.YtgnmmifolhoaeaaIntsMath3
namespace Go.Proofs.Ytgnmmifolhoaeaa
open Go.RowKit

theorem IntsRefs_e23 : elemQ Try.prog 23 = some (47, 1) := by kernel_rfl
theorem IntsRefs_k23 : callable Try.prog 23 = true := by kernel_rfl
theorem IntsRefs_l23 : (elemQ Try.prog 23).isSome = true := by kernel_rfl
theorem IntsRefs_k22 : callable Try.prog 22 = true := by kernel_rfl
theorem IntsRefs_k24 : callable Try.prog 24 = true := by kernel_rfl
theorem IntsRefs_k12 : callable Try.prog 12 = true := by kernel_rfl
theorem IntsRefs_g47 : aggQ Try.prog 47 = some false := by kernel_rfl
theorem IntsRefs_e24 : elemQ Try.prog 24 = some (5, 1) := by kernel_rfl
theorem IntsRefs_m24 : makeQ Try.prog 24 = some (5, 1, (.int .u8 0)) := by kernel_rfl
theorem IntsRefs_g5 : aggQ Try.prog 5 = some false := by kernel_rfl
theorem IntsRefs_z5 : sizeQ Try.prog 5 = some 1 := by kernel_rfl
theorem IntsAt.from_ {base : Nat} {w w' : World} {g W : Nat} {l : List Nat} (h : IntsAt base w g W l) (hw : From w w') : IntsAt base w' g W l := by
  obtain ⟨ws, ⟨hh, cap, hb, ho, hne, hbase⟩, r⟩ := h
  exact ⟨ws, ⟨hh, cap, hb.from_ hw, ho.kept_from hw, hne, hbase⟩, r⟩
/-- a block that is not its own may change -/
theorem IntsAt.kept {base : Nat} {w w' : World} {g W : Nat} {l : List Nat} {r : Option Nat} (h : IntsAt base w g W l) (hw : w.grownBy w' r) (hr : ∀ k, r = some k → k < base) : IntsAt base w' g W l := by
  obtain ⟨ws, ⟨hh, cap, hb, ho, hne, hbase⟩, r'⟩ := h
  refine ⟨ws, ⟨hh, cap, ?_, own_kept ho hw hr, hne, hbase⟩, r'⟩
  exact (hw.block g hb.lt (fun e => by have := hr g e.symm; omega)).trans hb
theorem IntsAt.kept2 {base : Nat} {w0 w w' : World} {g W : Nat} {l : List Nat} {r : Option Nat} (h : IntsAt base w0 g W l) (hF : From w0 w) (hw : w.grownBy w' r) (hr : ∀ k, r = some k → w0.heap.size ≤ k) : IntsAt base w' g W l :=
  h.from_ (hF.grew hw hr)
theorem get_rt (base g W : Nat) (l : List Nat) (i : Int) (w : World) (h : IntsAt base w g W l) :
    Rt Try.prog 24 [.pointer (some ⟨g, 0, none⟩), .int .i64 i] w fun v w' => ∃ (x : Nat) (e : Int), v = .tuple #[.int .u64 x, .int .i64 e] ∧ (0 ≤ i ∧ i < l.length → e = 0) ∧ (i < 0 ∨ l.length ≤ i → e = 3 ∧ x = 0) ∧ (∀ j (hj : j < l.length), i = j → x = l[j]) ∧ From w w' := by
  refine Rt.mono (Rt.of (get_any base g W l i w h)) ?_
  rintro v w' ⟨rfl, hF⟩
  unfold getV
  split
  · rename_i hi
    refine ⟨_, _, rfl, fun _ => rfl, fun _ => by omega, fun j hj e => ?_, hF⟩
    subst e
    simp [List.getD_eq_getElem?_getD, hj]
  · refine ⟨0, 3, rfl, fun _ => by omega, fun _ => ⟨rfl, rfl⟩, fun j hj e => by omega, hF⟩
theorem take_past {l m : List Nat} {k : Nat} (h : l.take k = m.take k) (hl : l.length = m.length) (hk : l.length ≤ k) (k' : Nat) : l.take k' = m.take k' := by
  rw [List.take_of_length_le hk, List.take_of_length_le (by omega)] at h
  rw [h]

set_option maxRecDepth 100000 in
set_option maxHeartbeats 400000 in
theorem same_any (base g W : Nat) (V : Int) (A : Option Addr) (c : Nat) (l m : List Nat) (w : World) (hx : IntsAt base w g W l) (hm : RowOf uV w A m) (hml : m.length * 8 ≤ 140737488351232) :
    Rt Try.prog 13 [.pointer (some ⟨g, 0, none⟩), .int .i64 V, .slice A m.length c] w (fun v w' => v = .bool (decide ((W : Int) = V ∧ l = m)) ∧ From w w') := by
  refine enter (n := 59) Try.func13 rfl rfl rfl ?_
  refine cd_seq ?_
  refine cd_region ?_
  refine st_val (ro_assign (v := .bool _) rfl) ?_
  refine st_nil ?_
  refine nx_then ?_
  refine cd_seq ?_
  refine cd_seq ?_
  refine cd_region ?_
  refine st_val (ro_move (v := .pointer _) rfl) ?_
  refine st_call IntsRefs_k23 (Rt.of (len_any base g W l _ (hx.from_ From.rfl_))) ?_
  rintro v11 w1 ⟨rfl, E11⟩
  refine st_val (ro_move (v := .slice _ _ _) rfl) ?_
  refine st_val (ro_len IntsRefs_l23 rfl) ?_
  refine st_val (ro_neq rfl rfl) ?_
  refine st_val (ro_move (v := .bool _) rfl) ?_
  refine st_split (t := 15) rfl (fun Q2 => ?_) (fun Q2 => ?_)
  · (try first | replace Q2 := bn_t Q2 | replace Q2 := bn_f Q2)
    (try first | replace Q2 := bx_t Q2 | replace Q2 := bx_f Q2 | replace Q2 := be_t Q2 | replace Q2 := be_f Q2 | replace Q2 := of_decide_eq_true Q2 | replace Q2 := of_decide_eq_false Q2)
    first
     | (exfalso; first | omega | contradiction | (cases Q2; done))
     | skip
       refine st_gno rfl rfl ?_
       refine st_gno rfl rfl ?_
       refine st_gno rfl rfl ?_
       refine st_gno rfl rfl ?_
       refine st_val (ro_pickT (v := .bool _) rfl rfl) ?_
       refine st_nil ?_
       refine nx_then ?_
       refine cd_condT rfl ?_
       refine cd_seq ?_
       refine cd_region ?_
       refine st_val (ro_assign (v := .bool _) rfl) ?_
       refine st_nil ?_
       refine nx_then ?_
       refine cd_ret ?_
       refine rt_then ?_
       refine res1 (v := .bool _) rfl rfl ?_
       exact ⟨by rw [decide_eq_false]; rintro ⟨h1, rfl⟩; omega, (From.rfl_.next E11)⟩
  · (try first | replace Q2 := bn_t Q2 | replace Q2 := bn_f Q2)
    (try first | replace Q2 := bx_t Q2 | replace Q2 := bx_f Q2 | replace Q2 := be_t Q2 | replace Q2 := be_f Q2 | replace Q2 := of_decide_eq_true Q2 | replace Q2 := of_decide_eq_false Q2)
    first
     | (exfalso; first | omega | contradiction | (cases Q2; done))
     | skip
       refine st_unguard rfl ?_
       refine st_val (ro_move (v := .pointer _) rfl) ?_
       refine st_unguard rfl ?_
       refine st_call IntsRefs_k22 (Rt.of (width_any base g W l _ (hx.from_ (From.rfl_.next E11)))) ?_
       rintro v17 w3 ⟨rfl, E17⟩
       refine st_unguard rfl ?_
       refine st_val (ro_move (v := .int _ _) rfl) ?_
       refine st_unguard rfl ?_
       refine st_val (ro_neq rfl rfl) ?_
       refine st_val (ro_pickF (v := .bool _) rfl rfl) ?_
       refine st_nil ?_
       refine nx_then ?_
       refine cd_cond rfl (fun Q4 => ?_) (fun Q4 => ?_)
       · (try first | replace Q4 := bn_t Q4 | replace Q4 := bn_f Q4)
         (try first | replace Q4 := bx_t Q4 | replace Q4 := bx_f Q4 | replace Q4 := be_t Q4 | replace Q4 := be_f Q4 | replace Q4 := of_decide_eq_true Q4 | replace Q4 := of_decide_eq_false Q4)
         first
          | (exfalso; first | omega | contradiction | (cases Q4; done))
          | skip
            refine cd_seq ?_
            refine cd_region ?_
            refine st_val (ro_assign (v := .bool _) rfl) ?_
            refine st_nil ?_
            refine nx_then ?_
            refine cd_ret ?_
            refine rt_then ?_
            refine res1 (v := .bool _) rfl rfl ?_
            exact ⟨by rw [decide_eq_false]; rintro ⟨h1, rfl⟩; omega, ((From.rfl_.next E11).next E17)⟩
       · (try first | replace Q4 := bn_t Q4 | replace Q4 := bn_f Q4)
         (try first | replace Q4 := bx_t Q4 | replace Q4 := bx_f Q4 | replace Q4 := be_t Q4 | replace Q4 := be_f Q4 | replace Q4 := of_decide_eq_true Q4 | replace Q4 := of_decide_eq_false Q4)
         first
          | (exfalso; first | omega | contradiction | (cases Q4; done))
          | skip
            refine cd_skip ?_
            refine nx_then ?_
            refine cd_seq ?_
            refine cd_seq ?_
            refine cd_region ?_
            refine st_val (ro_assign (v := .int _ _) rfl) ?_
            refine st_nil ?_
            refine nx_then ?_
            refine cd_block ?_
            refine cd_loop (G := Nat) [6, 8, 9, 21, 22, 23, 24, 25, 26, 27, 28, 29, 30, 31, 32, 33, 34, 35, 36, 37, 38, 39, 40, 41, 42, 43, 44, 45, 46, 47, 48, 49, 50, 51, 52, 53, 54, 55, 56, 57, 58] (fun k => [(7, .int .i64 ((k : Nat) - 1))]) (fun k w' => k ≤ l.length + 2 ∧ l.take (k - 1) = m.take (k - 1) ∧ From w w') (fun k => l.length + 2 - k) (0) ⟨rfl, trivial⟩ ?_ ?_
            · exact ⟨by omega, rfl, ((From.rfl_.next E11).next E17)⟩
            rintro k ρ5 w5 ⟨hk, ht, hB⟩
            refine cd_seq ?_
            refine cd_seq ?_
            refine cd_region ?_
            refine st_val (ro_move (v := .int _ _) rfl) ?_
            refine st_val (ro_move (v := .slice _ _ _) rfl) ?_
            refine st_val (ro_len IntsRefs_l23 rfl) ?_
            refine st_val (ro_leq rfl rfl) ?_
            refine st_nil ?_
            refine nx_then ?_
            refine cd_cond rfl (fun Q6 => ?_) (fun Q6 => ?_)
            · (try first | replace Q6 := bn_t Q6 | replace Q6 := bn_f Q6)
              (try first | replace Q6 := bx_t Q6 | replace Q6 := bx_f Q6 | replace Q6 := be_t Q6 | replace Q6 := be_f Q6 | replace Q6 := of_decide_eq_true Q6 | replace Q6 := of_decide_eq_false Q6)
              first
               | (exfalso; first | omega | contradiction | (cases Q6; done))
               | skip
                 refine cd_skip ?_
                 refine nx_then ?_
                 refine cd_seq ?_
                 refine cd_block ?_
                 refine cd_seq ?_
                 refine cd_region ?_
                 refine st_val (ro_move (v := .pointer _) rfl) ?_
                 refine st_val (ro_move (v := .int _ _) rfl) ?_
                 refine st_call IntsRefs_k24 (get_rt base g W l _ _ (hx.from_ hB)) ?_
                 rintro v30 w7 ⟨x30, e30, rfl, hi30, ho30, hx30, E30⟩
                 refine st_val (ro_move (v := .tuple _) rfl) ?_
                 refine st_val (ro_extract rfl rfl) ?_
                 refine st_val (ro_extract rfl rfl) ?_
                 refine st_val (ro_assign (v := .int _ _) rfl) ?_
                 refine st_val (ro_assign (v := .int _ _) rfl) ?_
                 refine st_nil ?_
                 refine nx_then ?_
                 refine cd_seq ?_
                 refine cd_seq ?_
                 refine cd_region ?_
                 refine st_val (ro_move (v := .int _ _) rfl) ?_
                 refine st_val (ro_lss rfl rfl) ?_
                 refine st_val (ro_move (v := .bool _) rfl) ?_
                 refine st_split (t := 35) rfl (fun Q8 => ?_) (fun Q8 => ?_)
                 · (try first | replace Q8 := bn_t Q8 | replace Q8 := bn_f Q8)
                   (try first | replace Q8 := bx_t Q8 | replace Q8 := bx_f Q8 | replace Q8 := be_t Q8 | replace Q8 := be_f Q8 | replace Q8 := of_decide_eq_true Q8 | replace Q8 := of_decide_eq_false Q8)
                   first
                    | (exfalso; first | omega | contradiction | (cases Q8; done))
                    | skip
                      refine st_gno rfl rfl ?_
                      refine st_gno rfl rfl ?_
                      refine st_gno rfl rfl ?_
                      refine st_gno rfl rfl ?_
                      refine st_val (ro_pickT (v := .bool _) rfl rfl) ?_
                      refine st_nil ?_
                      refine nx_then ?_
                      refine cd_condT rfl ?_
                      refine cd_seq ?_
                      refine cd_seq ?_
                      refine cd_region ?_
                      refine st_val (ro_move (v := .int _ _) rfl) ?_
                      refine st_call IntsRefs_k12 (num_any _ _) ?_
                      rintro v42 w9 ⟨rfl, rfl⟩
                      refine st_val (ro_neq rfl rfl) ?_
                      refine st_val (ro_move (v := .bool _) rfl) ?_
                      refine st_split (t := 44) rfl (fun Q10 => ?_) (fun Q10 => ?_)
                      · (try first | replace Q10 := bn_t Q10 | replace Q10 := bn_f Q10)
                        (try first | replace Q10 := bx_t Q10 | replace Q10 := bx_f Q10 | replace Q10 := be_t Q10 | replace Q10 := be_f Q10 | replace Q10 := of_decide_eq_true Q10 | replace Q10 := of_decide_eq_false Q10)
                        first
                         | (exfalso; first | omega | contradiction | (cases Q10; done))
                         | skip
                           refine st_gno rfl rfl ?_
                           refine st_gno rfl rfl ?_
                           refine st_val (ro_pickT (v := .bool _) rfl rfl) ?_
                           refine st_nil ?_
                           refine nx_then ?_
                           refine cd_condT rfl ?_
                           refine cd_seq ?_
                           refine cd_region ?_
                           refine st_val (ro_assign (v := .bool _) rfl) ?_
                           refine st_nil ?_
                           refine nx_then ?_
                           refine cd_ret ?_
                           refine rt_then ?_
                           refine rt_then ?_
                           refine rt_block ?_
                           refine rt_then ?_
                           refine rt_then ?_
                           refine rt_block ?_
                           refine rt_then ?_
                           refine res1 (v := .bool _) rfl rfl ?_
                           exfalso; omega
                      · (try first | replace Q10 := bn_t Q10 | replace Q10 := bn_f Q10)
                        (try first | replace Q10 := bx_t Q10 | replace Q10 := bx_f Q10 | replace Q10 := be_t Q10 | replace Q10 := be_f Q10 | replace Q10 := of_decide_eq_true Q10 | replace Q10 := of_decide_eq_false Q10)
                        first
                         | (exfalso; first | omega | contradiction | (cases Q10; done))
                         | skip
                           refine st_unguard rfl ?_
                           refine st_val (ro_move (v := .int _ _) rfl) ?_
                           refine st_unguard rfl ?_
                           refine st_val (ro_neq rfl rfl) ?_
                           refine st_val (ro_pickF (v := .bool _) rfl rfl) ?_
                           refine st_nil ?_
                           refine nx_then ?_
                           refine cd_cond rfl (fun Q11 => ?_) (fun Q11 => ?_)
                           · (try first | replace Q11 := bn_t Q11 | replace Q11 := bn_f Q11)
                             (try first | replace Q11 := bx_t Q11 | replace Q11 := bx_f Q11 | replace Q11 := be_t Q11 | replace Q11 := be_f Q11 | replace Q11 := of_decide_eq_true Q11 | replace Q11 := of_decide_eq_false Q11)
                             first
                              | (exfalso; first | omega | contradiction | (cases Q11; done))
                              | skip
                                refine cd_seq ?_
                                refine cd_region ?_
                                refine st_val (ro_assign (v := .bool _) rfl) ?_
                                refine st_nil ?_
                                refine nx_then ?_
                                refine cd_ret ?_
                                refine rt_then ?_
                                refine rt_then ?_
                                refine rt_block ?_
                                refine rt_then ?_
                                refine rt_then ?_
                                refine rt_block ?_
                                refine rt_then ?_
                                refine res1 (v := .bool _) rfl rfl ?_
                                exfalso; omega
                           · (try first | replace Q11 := bn_t Q11 | replace Q11 := bn_f Q11)
                             (try first | replace Q11 := bx_t Q11 | replace Q11 := bx_f Q11 | replace Q11 := be_t Q11 | replace Q11 := be_f Q11 | replace Q11 := of_decide_eq_true Q11 | replace Q11 := of_decide_eq_false Q11)
                             first
                              | (exfalso; first | omega | contradiction | (cases Q11; done))
                              | skip
                                refine cd_skip ?_
                                refine nx_then ?_
                                refine cd_exit ?_
                                refine ex_then ?_
                                refine ex_block ?_
                                refine nx_then ?_
                                refine cd_region ?_
                                refine st_val (ro_move (v := .int _ _) rfl) ?_
                                refine st_val (ro_add64 rfl rfl (by omega)) ?_
                                refine st_val (ro_assign (v := .int _ _) rfl) ?_
                                refine st_nil ?_
                                refine nx_cut (k + 1) ⟨(by first | rfl | (refine int_eq ?_; omega)), trivial⟩ (by (iterate 74 refine agr_cons rfl ?_); exact agr_rfl) ⟨?_, ?_⟩
                                · refine ⟨by omega, ?_, (hB.next E30)⟩
                                  rcases Nat.eq_zero_or_pos k with h0 | h0
                                  · subst h0; rfl
                                  · by_cases hkl : k - 1 < l.length
                                    · have e1 := hx30 (k - 1) hkl (by omega)
                                      have := take_eq (a := l) (b := m) hkl (by omega) ht (by omega)
                                      rwa [show k - 1 + 1 = k + 1 - 1 by omega] at this
                                    · exact take_past ht (by omega) (by omega) _
                                · omega
                 · (try first | replace Q8 := bn_t Q8 | replace Q8 := bn_f Q8)
                   (try first | replace Q8 := bx_t Q8 | replace Q8 := bx_f Q8 | replace Q8 := be_t Q8 | replace Q8 := be_f Q8 | replace Q8 := of_decide_eq_true Q8 | replace Q8 := of_decide_eq_false Q8)
                   first
                    | (exfalso; first | omega | contradiction | (cases Q8; done))
                    | skip
                      refine st_unguard rfl ?_
                      refine st_val (ro_move (v := .int _ _) rfl) ?_
                      refine st_unguard rfl ?_
                      refine st_val (ro_move (v := .slice _ _ _) rfl) ?_
                      refine st_unguard rfl ?_
                      refine st_val (ro_len IntsRefs_l23 rfl) ?_
                      refine st_unguard rfl ?_
                      refine st_val (ro_eql rfl rfl) ?_
                      refine st_val (ro_pickF (v := .bool _) rfl rfl) ?_
                      refine st_nil ?_
                      refine nx_then ?_
                      refine cd_cond rfl (fun Q12 => ?_) (fun Q12 => ?_)
                      · (try first | replace Q12 := bn_t Q12 | replace Q12 := bn_f Q12)
                        (try first | replace Q12 := bx_t Q12 | replace Q12 := bx_f Q12 | replace Q12 := be_t Q12 | replace Q12 := be_f Q12 | replace Q12 := of_decide_eq_true Q12 | replace Q12 := of_decide_eq_false Q12)
                        first
                         | (exfalso; first | omega | contradiction | (cases Q12; done))
                         | skip
                           refine cd_seq ?_
                           refine cd_seq ?_
                           refine cd_region ?_
                           refine st_val (ro_move (v := .int _ _) rfl) ?_
                           refine st_call IntsRefs_k12 (num_any _ _) ?_
                           rintro v42 w13 ⟨rfl, rfl⟩
                           refine st_val (ro_neq rfl rfl) ?_
                           refine st_val (ro_move (v := .bool _) rfl) ?_
                           refine st_split (t := 44) rfl (fun Q14 => ?_) (fun Q14 => ?_)
                           · (try first | replace Q14 := bn_t Q14 | replace Q14 := bn_f Q14)
                             (try first | replace Q14 := bx_t Q14 | replace Q14 := bx_f Q14 | replace Q14 := be_t Q14 | replace Q14 := be_f Q14 | replace Q14 := of_decide_eq_true Q14 | replace Q14 := of_decide_eq_false Q14)
                             first
                              | (exfalso; first | omega | contradiction | (cases Q14; done))
                              | skip
                                refine st_gno rfl rfl ?_
                                refine st_gno rfl rfl ?_
                                refine st_val (ro_pickT (v := .bool _) rfl rfl) ?_
                                refine st_nil ?_
                                refine nx_then ?_
                                refine cd_condT rfl ?_
                                refine cd_seq ?_
                                refine cd_region ?_
                                refine st_val (ro_assign (v := .bool _) rfl) ?_
                                refine st_nil ?_
                                refine nx_then ?_
                                refine cd_ret ?_
                                refine rt_then ?_
                                refine rt_then ?_
                                refine rt_block ?_
                                refine rt_then ?_
                                refine rt_then ?_
                                refine rt_block ?_
                                refine rt_then ?_
                                refine res1 (v := .bool _) rfl rfl ?_
                                exfalso; omega
                           · (try first | replace Q14 := bn_t Q14 | replace Q14 := bn_f Q14)
                             (try first | replace Q14 := bx_t Q14 | replace Q14 := bx_f Q14 | replace Q14 := be_t Q14 | replace Q14 := be_f Q14 | replace Q14 := of_decide_eq_true Q14 | replace Q14 := of_decide_eq_false Q14)
                             first
                              | (exfalso; first | omega | contradiction | (cases Q14; done))
                              | skip
                                refine st_unguard rfl ?_
                                refine st_val (ro_move (v := .int _ _) rfl) ?_
                                refine st_unguard rfl ?_
                                refine st_val (ro_neq rfl rfl) ?_
                                refine st_val (ro_pickF (v := .bool _) rfl rfl) ?_
                                refine st_nil ?_
                                refine nx_then ?_
                                refine cd_cond rfl (fun Q15 => ?_) (fun Q15 => ?_)
                                · (try first | replace Q15 := bn_t Q15 | replace Q15 := bn_f Q15)
                                  (try first | replace Q15 := bx_t Q15 | replace Q15 := bx_f Q15 | replace Q15 := be_t Q15 | replace Q15 := be_f Q15 | replace Q15 := of_decide_eq_true Q15 | replace Q15 := of_decide_eq_false Q15)
                                  first
                                   | (exfalso; first | omega | contradiction | (cases Q15; done))
                                   | skip
                                     refine cd_seq ?_
                                     refine cd_region ?_
                                     refine st_val (ro_assign (v := .bool _) rfl) ?_
                                     refine st_nil ?_
                                     refine nx_then ?_
                                     refine cd_ret ?_
                                     refine rt_then ?_
                                     refine rt_then ?_
                                     refine rt_block ?_
                                     refine rt_then ?_
                                     refine rt_then ?_
                                     refine rt_block ?_
                                     refine rt_then ?_
                                     refine res1 (v := .bool _) rfl rfl ?_
                                     exfalso; omega
                                · (try first | replace Q15 := bn_t Q15 | replace Q15 := bn_f Q15)
                                  (try first | replace Q15 := bx_t Q15 | replace Q15 := bx_f Q15 | replace Q15 := be_t Q15 | replace Q15 := be_f Q15 | replace Q15 := of_decide_eq_true Q15 | replace Q15 := of_decide_eq_false Q15)
                                  first
                                   | (exfalso; first | omega | contradiction | (cases Q15; done))
                                   | skip
                                     refine cd_skip ?_
                                     refine nx_then ?_
                                     refine cd_exit ?_
                                     refine ex_then ?_
                                     refine ex_block ?_
                                     refine nx_then ?_
                                     refine cd_region ?_
                                     refine st_val (ro_move (v := .int _ _) rfl) ?_
                                     refine st_val (ro_add64 rfl rfl (by omega)) ?_
                                     refine st_val (ro_assign (v := .int _ _) rfl) ?_
                                     refine st_nil ?_
                                     refine nx_cut (k + 1) ⟨(by first | rfl | (refine int_eq ?_; omega)), trivial⟩ (by (iterate 74 refine agr_cons rfl ?_); exact agr_rfl) ⟨?_, ?_⟩
                                     · refine ⟨by omega, ?_, (hB.next E30)⟩
                                       rcases Nat.eq_zero_or_pos k with h0 | h0
                                       · subst h0; rfl
                                       · by_cases hkl : k - 1 < l.length
                                         · have e1 := hx30 (k - 1) hkl (by omega)
                                           have := take_eq (a := l) (b := m) hkl (by omega) ht (by omega)
                                           rwa [show k - 1 + 1 = k + 1 - 1 by omega] at this
                                         · exact take_past ht (by omega) (by omega) _
                                     · omega
                      · (try first | replace Q12 := bn_t Q12 | replace Q12 := bn_f Q12)
                        (try first | replace Q12 := bx_t Q12 | replace Q12 := bx_f Q12 | replace Q12 := be_t Q12 | replace Q12 := be_f Q12 | replace Q12 := of_decide_eq_true Q12 | replace Q12 := of_decide_eq_false Q12)
                        obtain ⟨bm, om, rfl, cm⟩ := hm (by omega)
                        first
                         | (exfalso; first | omega | contradiction | (cases Q12; done))
                         | skip
                           refine cd_skip ?_
                           refine nx_then ?_
                           refine cd_seq ?_
                           refine cd_region ?_
                           refine st_val (ro_move (v := .int _ _) rfl) ?_
                           refine st_call IntsRefs_k12 (num_any _ _) ?_
                           rintro v49 w16 ⟨rfl, rfl⟩
                           refine st_val (ro_neq rfl rfl) ?_
                           refine st_val (ro_move (v := .bool _) rfl) ?_
                           refine st_split (t := 51) rfl (fun Q17 => ?_) (fun Q17 => ?_)
                           · (try first | replace Q17 := bn_t Q17 | replace Q17 := bn_f Q17)
                             (try first | replace Q17 := bx_t Q17 | replace Q17 := bx_f Q17 | replace Q17 := be_t Q17 | replace Q17 := be_f Q17 | replace Q17 := of_decide_eq_true Q17 | replace Q17 := of_decide_eq_false Q17)
                             first
                              | (exfalso; first | omega | contradiction | (cases Q17; done))
                              | skip
                                refine st_gno rfl rfl ?_
                                refine st_gno rfl rfl ?_
                                refine st_gno rfl rfl ?_
                                refine st_gno rfl rfl ?_
                                refine st_gno rfl rfl ?_
                                refine st_gno rfl rfl ?_
                                refine st_val (ro_pickT (v := .bool _) rfl rfl) ?_
                                refine st_nil ?_
                                refine nx_then ?_
                                refine cd_condT rfl ?_
                                refine cd_seq ?_
                                refine cd_region ?_
                                refine st_val (ro_assign (v := .bool _) rfl) ?_
                                refine st_nil ?_
                                refine nx_then ?_
                                refine cd_ret ?_
                                refine rt_block ?_
                                refine rt_then ?_
                                refine rt_then ?_
                                refine rt_block ?_
                                refine rt_then ?_
                                refine res1 (v := .bool _) rfl rfl ?_
                                exact ⟨by rw [decide_eq_false]; rintro ⟨h1, rfl⟩; have := hx30 (k - 1) (by omega) (by omega); omega, (hB.next E30)⟩
                           · (try first | replace Q17 := bn_t Q17 | replace Q17 := bn_f Q17)
                             (try first | replace Q17 := bx_t Q17 | replace Q17 := bx_f Q17 | replace Q17 := be_t Q17 | replace Q17 := be_f Q17 | replace Q17 := of_decide_eq_true Q17 | replace Q17 := of_decide_eq_false Q17)
                             first
                              | (exfalso; first | omega | contradiction | (cases Q17; done))
                              | skip
                                refine st_unguard rfl ?_
                                refine st_val (ro_move (v := .int _ _) rfl) ?_
                                refine st_unguard rfl ?_
                                refine st_val (ro_move (v := .slice _ _ _) rfl) ?_
                                refine st_unguard rfl ?_
                                refine st_val (ro_move (v := .int _ _) rfl) ?_
                                refine st_spell (t := 54) (v := .int _ _) (v' := .int .i64 ((k - 1 : Nat) : Int)) rfl (by congr 1; omega) ?_
                                refine st_unguard rfl ?_
                                refine st_val (ro_indexAddr1 (i := k - 1) IntsRefs_e23 rfl rfl (by omega)) ?_
                                refine st_unguard rfl ?_
                                refine st_val (ro_load IntsRefs_g47 rfl (by first | (exact cellF (hB.next E30) (cm (k - 1) (by omega))))) ?_
                                refine st_unguard rfl ?_
                                refine st_val (ro_neq rfl rfl) ?_
                                refine st_val (ro_pickF (v := .bool _) rfl rfl) ?_
                                refine st_nil ?_
                                refine nx_then ?_
                                refine cd_cond rfl (fun Q18 => ?_) (fun Q18 => ?_)
                                · (try first | replace Q18 := bn_t Q18 | replace Q18 := bn_f Q18)
                                  (try first | replace Q18 := bx_t Q18 | replace Q18 := bx_f Q18 | replace Q18 := be_t Q18 | replace Q18 := be_f Q18 | replace Q18 := of_decide_eq_true Q18 | replace Q18 := of_decide_eq_false Q18)
                                  first
                                   | (exfalso; first | omega | contradiction | (cases Q18; done))
                                   | skip
                                     refine cd_seq ?_
                                     refine cd_region ?_
                                     refine st_val (ro_assign (v := .bool _) rfl) ?_
                                     refine st_nil ?_
                                     refine nx_then ?_
                                     refine cd_ret ?_
                                     refine rt_block ?_
                                     refine rt_then ?_
                                     refine rt_then ?_
                                     refine rt_block ?_
                                     refine rt_then ?_
                                     refine res1 (v := .bool _) rfl rfl ?_
                                     exact ⟨by rw [decide_eq_false]; rintro ⟨h1, rfl⟩; have := hx30 (k - 1) (by omega) (by omega); omega, (hB.next E30)⟩
                                · (try first | replace Q18 := bn_t Q18 | replace Q18 := bn_f Q18)
                                  (try first | replace Q18 := bx_t Q18 | replace Q18 := bx_f Q18 | replace Q18 := be_t Q18 | replace Q18 := be_f Q18 | replace Q18 := of_decide_eq_true Q18 | replace Q18 := of_decide_eq_false Q18)
                                  first
                                   | (exfalso; first | omega | contradiction | (cases Q18; done))
                                   | skip
                                     refine cd_skip ?_
                                     refine nx_block ?_
                                     refine nx_then ?_
                                     refine cd_region ?_
                                     refine st_val (ro_move (v := .int _ _) rfl) ?_
                                     refine st_val (ro_add64 rfl rfl (by omega)) ?_
                                     refine st_val (ro_assign (v := .int _ _) rfl) ?_
                                     refine st_nil ?_
                                     refine nx_cut (k + 1) ⟨(by first | rfl | (refine int_eq ?_; omega)), trivial⟩ (by (iterate 79 refine agr_cons rfl ?_); exact agr_rfl) ⟨?_, ?_⟩
                                     · refine ⟨by omega, ?_, (hB.next E30)⟩
                                       rcases Nat.eq_zero_or_pos k with h0 | h0
                                       · subst h0; rfl
                                       · by_cases hkl : k - 1 < l.length
                                         · have e1 := hx30 (k - 1) hkl (by omega)
                                           have := take_eq (a := l) (b := m) hkl (by omega) ht (by omega)
                                           rwa [show k - 1 + 1 = k + 1 - 1 by omega] at this
                                         · exact take_past ht (by omega) (by omega) _
                                     · omega
            · (try first | replace Q6 := bn_t Q6 | replace Q6 := bn_f Q6)
              (try first | replace Q6 := bx_t Q6 | replace Q6 := bx_f Q6 | replace Q6 := be_t Q6 | replace Q6 := be_f Q6 | replace Q6 := of_decide_eq_true Q6 | replace Q6 := of_decide_eq_false Q6)
              first
               | (exfalso; first | omega | contradiction | (cases Q6; done))
               | skip
                 refine cd_exit ?_
                 refine ex_then ?_
                 refine ex_then ?_
                 refine ex_block ?_
                 refine nx_then ?_
                 refine cd_seq ?_
                 refine cd_region ?_
                 refine st_val (ro_assign (v := .bool _) rfl) ?_
                 refine st_nil ?_
                 refine nx_then ?_
                 refine cd_ret ?_
                 refine res1 (v := .bool _) rfl rfl ?_
                 exact ⟨by rw [decide_eq_true ⟨by omega, eq_ge (k := k - 1) (by omega) (by omega) ht⟩], hB⟩
set_option maxRecDepth 100000 in
set_option maxHeartbeats 400000 in
theorem may_any (W : Int) (A : Option Addr) (c : Nat) (l : List Nat) (w : World) (hr : RowOf uV w A l) (hl : l.length * 8 ≤ 140737488351232) (h64 : ∀ x ∈ l, x < 2 ^ 64) :
    Rt Try.prog 11 [.int .i64 W, .slice A l.length c] w (fun v w' => v = .bool (mayI W l) ∧ From w w') := by
  refine enter (n := 29) Try.func11 rfl rfl rfl ?_
  refine cd_seq ?_
  refine cd_region ?_
  refine st_val (ro_assign (v := .bool _) rfl) ?_
  refine st_nil ?_
  refine nx_then ?_
  refine cd_seq ?_
  refine cd_seq ?_
  refine cd_region ?_
  refine st_val (ro_move (v := .int _ _) rfl) ?_
  refine st_val (ro_lss rfl rfl) ?_
  refine st_val (ro_move (v := .bool _) rfl) ?_
  refine st_split (t := 8) rfl (fun Q1 => ?_) (fun Q1 => ?_)
  · (try first | replace Q1 := bn_t Q1 | replace Q1 := bn_f Q1)
    (try first | replace Q1 := bx_t Q1 | replace Q1 := bx_f Q1 | replace Q1 := be_t Q1 | replace Q1 := be_f Q1 | replace Q1 := of_decide_eq_true Q1 | replace Q1 := of_decide_eq_false Q1)
    have hbad : mayI W l = false := by unfold mayI; rw [decide_eq_false (by omega)]; rfl
    first
     | (exfalso; first | omega | contradiction | (cases Q1; done))
     | skip
       refine st_gno rfl rfl ?_
       refine st_gno rfl rfl ?_
       refine st_val (ro_pickT (v := .bool _) rfl rfl) ?_
       refine st_nil ?_
       refine nx_then ?_
       refine cd_condT rfl ?_
       refine cd_seq ?_
       refine cd_region ?_
       refine st_val (ro_assign (v := .bool _) rfl) ?_
       refine st_nil ?_
       refine nx_then ?_
       refine cd_ret ?_
       refine rt_then ?_
       refine res1 (v := .bool _) rfl rfl ?_
       exact ⟨by rw [hbad], From.rfl_⟩
  · (try first | replace Q1 := bn_t Q1 | replace Q1 := bn_f Q1)
    (try first | replace Q1 := bx_t Q1 | replace Q1 := bx_f Q1 | replace Q1 := be_t Q1 | replace Q1 := be_f Q1 | replace Q1 := of_decide_eq_true Q1 | replace Q1 := of_decide_eq_false Q1)
    first
     | (exfalso; first | omega | contradiction | (cases Q1; done))
     | skip
       refine st_unguard rfl ?_
       refine st_val (ro_move (v := .int _ _) rfl) ?_
       refine st_unguard rfl ?_
       refine st_val (ro_gtr rfl rfl) ?_
       refine st_val (ro_pickF (v := .bool _) rfl rfl) ?_
       refine st_nil ?_
       refine nx_then ?_
       refine cd_cond rfl (fun Q2 => ?_) (fun Q2 => ?_)
       · (try first | replace Q2 := bn_t Q2 | replace Q2 := bn_f Q2)
         (try first | replace Q2 := bx_t Q2 | replace Q2 := bx_f Q2 | replace Q2 := be_t Q2 | replace Q2 := be_f Q2 | replace Q2 := of_decide_eq_true Q2 | replace Q2 := of_decide_eq_false Q2)
         have hbad : mayI W l = false := by unfold mayI; rw [decide_eq_false (show ¬ W ≤ 64 by omega), Bool.and_false]; rfl
         first
          | (exfalso; first | omega | contradiction | (cases Q2; done))
          | skip
            refine cd_seq ?_
            refine cd_region ?_
            refine st_val (ro_assign (v := .bool _) rfl) ?_
            refine st_nil ?_
            refine nx_then ?_
            refine cd_ret ?_
            refine rt_then ?_
            refine res1 (v := .bool _) rfl rfl ?_
            exact ⟨by rw [hbad], From.rfl_⟩
       · (try first | replace Q2 := bn_t Q2 | replace Q2 := bn_f Q2)
         (try first | replace Q2 := bx_t Q2 | replace Q2 := bx_f Q2 | replace Q2 := be_t Q2 | replace Q2 := be_f Q2 | replace Q2 := of_decide_eq_true Q2 | replace Q2 := of_decide_eq_false Q2)
         obtain ⟨W1, rfl⟩ : ∃ W1 : Nat, W = W1 := ⟨W.toNat, by omega⟩
         first
          | (exfalso; first | omega | contradiction | (cases Q2; done))
          | skip
            refine cd_skip ?_
            refine nx_then ?_
            refine cd_seq ?_
            refine cd_seq ?_
            refine cd_region ?_
            refine st_val (ro_assign (v := .int _ _) rfl) ?_
            refine st_nil ?_
            refine nx_then ?_
            refine cd_block ?_
            refine cd_loop (G := Nat) [4, 12, 13, 14, 15, 16, 17, 18, 19, 20, 21, 22, 23, 24, 25, 26, 27, 28] (fun k => [(5, .int .i64 (k : Nat))]) (fun k w' => k ≤ l.length ∧ (∀ x ∈ l.take k, x < 2 ^ W1) ∧ From w w') (fun k => l.length - k) (0) ⟨rfl, trivial⟩ ?_ ?_
            · exact ⟨by omega, by simp, From.rfl_⟩
            rintro k ρ3 w3 ⟨hk, ht, hB⟩
            refine cd_seq ?_
            refine cd_seq ?_
            refine cd_region ?_
            refine st_val (ro_move (v := .int _ _) rfl) ?_
            refine st_val (ro_move (v := .slice _ _ _) rfl) ?_
            refine st_val (ro_len IntsRefs_l23 rfl) ?_
            refine st_val (ro_lss rfl rfl) ?_
            refine st_nil ?_
            refine nx_then ?_
            refine cd_cond rfl (fun Q4 => ?_) (fun Q4 => ?_)
            · (try first | replace Q4 := bn_t Q4 | replace Q4 := bn_f Q4)
              (try first | replace Q4 := bx_t Q4 | replace Q4 := bx_f Q4 | replace Q4 := be_t Q4 | replace Q4 := be_f Q4 | replace Q4 := of_decide_eq_true Q4 | replace Q4 := of_decide_eq_false Q4)
              obtain ⟨ba, oa, rfl, ca⟩ := hr (by omega)
              first
               | (exfalso; first | omega | contradiction | (cases Q4; done))
               | skip
                 refine cd_skip ?_
                 refine nx_then ?_
                 refine cd_seq ?_
                 refine cd_block ?_
                 refine cd_seq ?_
                 refine cd_region ?_
                 refine st_val (ro_move (v := .int _ _) rfl) ?_
                 refine st_val (ro_lss rfl rfl) ?_
                 refine st_val (ro_move (v := .bool _) rfl) ?_
                 refine st_split (t := 20) rfl (fun Q5 => ?_) (fun Q5 => ?_)
                 · (try first | replace Q5 := bn_t Q5 | replace Q5 := bn_f Q5)
                   (try first | replace Q5 := bx_t Q5 | replace Q5 := bx_f Q5 | replace Q5 := be_t Q5 | replace Q5 := be_f Q5 | replace Q5 := of_decide_eq_true Q5 | replace Q5 := of_decide_eq_false Q5)
                   first
                    | (exfalso; first | omega | contradiction | (cases Q5; done))
                    | skip
                      refine st_unguard rfl ?_
                      refine st_val (ro_move (v := .slice _ _ _) rfl) ?_
                      refine st_unguard rfl ?_
                      refine st_val (ro_move (v := .int _ _) rfl) ?_
                      refine st_unguard rfl ?_
                      refine st_val (ro_indexAddr1 IntsRefs_e23 rfl rfl (by omega)) ?_
                      refine st_unguard rfl ?_
                      refine st_val (ro_load IntsRefs_g47 rfl (by first | (exact cellF hB (ca k (by omega))))) ?_
                      refine st_unguard rfl ?_
                      refine st_val (ro_move (v := .int _ _) rfl) ?_
                      refine st_unguard rfl ?_
                      refine st_val (ro_shrN rfl rfl (by show W1 ≤ 64; omega)) ?_
                      refine st_unguard rfl ?_
                      refine st_val (ro_neq rfl rfl) ?_
                      refine st_val (ro_pickT (v := .bool _) rfl rfl) ?_
                      refine st_nil ?_
                      refine nx_then ?_
                      refine cd_cond rfl (fun Q6 => ?_) (fun Q6 => ?_)
                      · (try first | replace Q6 := bn_t Q6 | replace Q6 := bn_f Q6)
                        (try first | replace Q6 := bx_t Q6 | replace Q6 := bx_f Q6 | replace Q6 := be_t Q6 | replace Q6 := be_f Q6 | replace Q6 := of_decide_eq_true Q6 | replace Q6 := of_decide_eq_false Q6)
                        first
                         | (exfalso; first | omega | contradiction | (cases Q6; done))
                         | skip
                           refine cd_seq ?_
                           refine cd_region ?_
                           refine st_val (ro_assign (v := .bool _) rfl) ?_
                           refine st_nil ?_
                           refine nx_then ?_
                           refine cd_ret ?_
                           refine rt_block ?_
                           refine rt_then ?_
                           refine rt_then ?_
                           refine rt_block ?_
                           refine rt_then ?_
                           refine res1 (v := .bool _) rfl rfl ?_
                           exact ⟨by
                             have hnot : ¬ l[k] < 2 ^ W1 := fun h => by have := (div_ne_iff l[k] W1).2 h; omega
                             have : mayI (W1 : Int) l = false := by
                               rw [← Bool.not_eq_true]
                               intro h
                               obtain ⟨W2, e, _, h3⟩ := mayI_ok h
                               obtain rfl : W1 = W2 := by omega
                               exact hnot (h3 _ (List.getElem_mem _))
                             rw [this], hB⟩
                      · (try first | replace Q6 := bn_t Q6 | replace Q6 := bn_f Q6)
                        (try first | replace Q6 := bx_t Q6 | replace Q6 := bx_f Q6 | replace Q6 := be_t Q6 | replace Q6 := be_f Q6 | replace Q6 := of_decide_eq_true Q6 | replace Q6 := of_decide_eq_false Q6)
                        first
                         | (exfalso; first | omega | contradiction | (cases Q6; done))
                         | skip
                           refine cd_skip ?_
                           refine nx_block ?_
                           refine nx_then ?_
                           refine cd_region ?_
                           refine st_val (ro_move (v := .int _ _) rfl) ?_
                           refine st_val (ro_addN (b := 1) rfl rfl (by omega)) ?_
                           refine st_val (ro_assign (v := .int _ _) rfl) ?_
                           refine st_nil ?_
                           refine nx_cut (k + 1) ⟨(by first | rfl | (refine int_eq ?_; omega)), trivial⟩ (by (iterate 38 refine agr_cons rfl ?_); exact agr_rfl) ⟨?_, ?_⟩
                           · refine ⟨by omega, fun x hx => ?_, hB⟩
                             rw [List.take_succ_eq_append_getElem (by omega)] at hx
                             rcases List.mem_append.1 hx with h | h
                             · exact ht x h
                             · simp only [List.mem_singleton] at h
                               subst h
                               first | exact h64 _ (List.getElem_mem _) | exact (div_ne_iff _ _).1 (by omega)
                           · omega
                 · (try first | replace Q5 := bn_t Q5 | replace Q5 := bn_f Q5)
                   (try first | replace Q5 := bx_t Q5 | replace Q5 := bx_f Q5 | replace Q5 := be_t Q5 | replace Q5 := be_f Q5 | replace Q5 := of_decide_eq_true Q5 | replace Q5 := of_decide_eq_false Q5)
                   obtain rfl : W1 = 64 := by omega
                   first
                    | (exfalso; first | omega | contradiction | (cases Q5; done))
                    | skip
                      refine st_gno rfl rfl ?_
                      refine st_gno rfl rfl ?_
                      refine st_gno rfl rfl ?_
                      refine st_gno rfl rfl ?_
                      refine st_gno rfl rfl ?_
                      refine st_gno rfl rfl ?_
                      refine st_gno rfl rfl ?_
                      refine st_val (ro_pickF (v := .bool _) rfl rfl) ?_
                      refine st_nil ?_
                      refine nx_then ?_
                      refine cd_condF rfl ?_
                      refine cd_skip ?_
                      refine nx_block ?_
                      refine nx_then ?_
                      refine cd_region ?_
                      refine st_val (ro_move (v := .int _ _) rfl) ?_
                      refine st_val (ro_addN (b := 1) rfl rfl (by omega)) ?_
                      refine st_val (ro_assign (v := .int _ _) rfl) ?_
                      refine st_nil ?_
                      refine nx_cut (k + 1) ⟨(by first | rfl | (refine int_eq ?_; omega)), trivial⟩ (by (iterate 38 refine agr_cons rfl ?_); exact agr_rfl) ⟨?_, ?_⟩
                      · refine ⟨by omega, fun x hx => ?_, hB⟩
                        rw [List.take_succ_eq_append_getElem (by omega)] at hx
                        rcases List.mem_append.1 hx with h | h
                        · exact ht x h
                        · simp only [List.mem_singleton] at h
                          subst h
                          first | exact h64 _ (List.getElem_mem _) | exact (div_ne_iff _ _).1 (by omega)
                      · omega
            · (try first | replace Q4 := bn_t Q4 | replace Q4 := bn_f Q4)
              (try first | replace Q4 := bx_t Q4 | replace Q4 := bx_f Q4 | replace Q4 := be_t Q4 | replace Q4 := be_f Q4 | replace Q4 := of_decide_eq_true Q4 | replace Q4 := of_decide_eq_false Q4)
              first
               | (exfalso; first | omega | contradiction | (cases Q4; done))
               | skip
                 refine cd_exit ?_
                 refine ex_then ?_
                 refine ex_then ?_
                 refine ex_block ?_
                 refine nx_then ?_
                 refine cd_seq ?_
                 refine cd_region ?_
                 refine st_val (ro_assign (v := .bool _) rfl) ?_
                 refine st_nil ?_
                 refine nx_then ?_
                 refine cd_ret ?_
                 refine res1 (v := .bool _) rfl rfl ?_
                 exact ⟨by
                   have hall : ∀ x ∈ l, x < 2 ^ W1 := fun x hx => ht x (by rwa [List.take_of_length_le (by omega)])
                   have : mayI (W1 : Int) l = true := by
                     unfold mayI
                     rw [decide_eq_true (by omega), decide_eq_true (by omega), Bool.true_and, Bool.true_and, List.all_eq_true]
                     intro x hx
                     have := hall x hx
                     simpa using this
                   rw [this], hB⟩
theorem map_set_arr {l : List Nat} {i v : Nat} {V : Nat → Value} : (l.map V).toArray.setIfInBounds i (V v) = ((l.set i v).map V).toArray := by simp [List.map_set]
theorem rd_map {w : World} {g : Nat} {t : TypeId} {l : List Nat} {V : Nat → Value} (h : Blk w g t (l.map V).toArray) (i : Nat) (hi : i < l.length) : w.cell? ⟨g, i, none⟩ = some (V l[i]) := h.rd i (by simp [hi])
theorem one_le_mul {i n W : Nat} (h : i < n) : i * W + W ≤ n * W := by have := Nat.mul_le_mul_right W h; rwa [Nat.succ_mul] at this

set_option maxRecDepth 100000 in
set_option maxHeartbeats 400000 in
theorem refBytes_any (W : Nat) (A : Option Addr) (c : Nat) (l : List Nat) (w : World) (hr : RowOf uV w A l) (hW : W ≤ 64) (hn : l.length ≤ 131072) (h64 : ∀ x ∈ l, x < 2 ^ 64) :
    Rt Try.prog 16 [.int .i64 W, .slice A l.length c] w (fun v w' => ∃ g bs, v = .slice (some ⟨g, 0, none⟩) bs.length bs.length ∧ w.heap.size ≤ g ∧ Blk w' g 5 (bs.map bV).toArray ∧ bs.length = byteCnt W l.length ∧ PBp bs W l (l.length * W) ∧ From w w') := by
  have hcm := Nat.mul_comm W l.length
  have hp := (wordCount_small hW hn).1
  have hc := byteCnt_ge W l.length
  refine enter (n := 54) Try.func16 rfl rfl rfl ?_
  refine cd_seq ?_
  refine cd_region ?_
  refine st_val (ro_assign (v := .slice _ _ _) rfl) ?_
  refine st_nil ?_
  refine nx_then ?_
  refine cd_seq ?_
  refine cd_region ?_
  refine st_val (ro_move (v := .int _ _) rfl) ?_
  refine st_val (ro_move (v := .slice _ _ _) rfl) ?_
  refine st_val (ro_len IntsRefs_l23 rfl) ?_
  refine st_val (ro_mulN rfl rfl (by omega)) ?_
  refine st_val (ro_addN (b := 7) rfl rfl (by omega)) ?_
  refine st_val (ro_quoN (b := 8) rfl rfl (by omega)) ?_
  refine st_make IntsRefs_m24 rfl rfl rfl (by omega) (by omega) ?_
  intro b15 w1 E15 hb15 hk15
  have hge : w.heap.size ≤ b15 := Nat.le_of_eq hb15.symm
  have hmm : (W * l.length + 7) / 8 = byteCnt W l.length := rfl
  refine st_val (ro_assign (v := .slice _ _ _) rfl) ?_
  refine st_nil ?_
  refine nx_then ?_
  refine cd_seq ?_
  refine cd_seq ?_
  refine cd_region ?_
  refine st_val (ro_assign (v := .int _ _) rfl) ?_
  refine st_nil ?_
  refine nx_then ?_
  refine cd_block ?_
  refine cd_loop (G := Nat × List Nat) [7, 8, 16, 17, 18, 19, 20, 21, 22, 23, 24, 25, 26, 27, 28, 29, 30, 31, 32, 33, 34, 35, 36, 37, 38, 39, 40, 41, 42, 43, 44, 45, 46, 47, 48, 49, 50, 51, 52] (fun (i, _) => [(6, .int .i64 (i : Nat))]) (fun (i, bs) w' => i ≤ l.length ∧ bs.length = byteCnt W l.length ∧ PBp bs W l (i * W) ∧ Blk w' b15 5 (bs.map bV).toArray ∧ From w w') (fun (i, _) => l.length - i) ((0, List.replicate (byteCnt W l.length) 0)) ⟨rfl, trivial⟩ ?_ ?_
  · refine ⟨by omega, List.length_replicate .., ?_, ?_, (From.rfl_.next E15)⟩
    · rw [Nat.zero_mul]; exact pbp_zero _ _ _
    · rw [List.map_replicate]; exact hk15
  rintro ⟨i, bs⟩ ρ2 w2 ⟨hi, hbl, hpb, hblk, hB⟩
  refine cd_seq ?_
  refine cd_seq ?_
  refine cd_region ?_
  refine st_val (ro_move (v := .int _ _) rfl) ?_
  refine st_val (ro_move (v := .slice _ _ _) rfl) ?_
  refine st_val (ro_len IntsRefs_l23 rfl) ?_
  refine st_val (ro_lss rfl rfl) ?_
  refine st_nil ?_
  refine nx_then ?_
  refine cd_cond rfl (fun Q3 => ?_) (fun Q3 => ?_)
  · (try first | replace Q3 := bn_t Q3 | replace Q3 := bn_f Q3)
    (try first | replace Q3 := bx_t Q3 | replace Q3 := bx_f Q3 | replace Q3 := be_t Q3 | replace Q3 := be_f Q3 | replace Q3 := of_decide_eq_true Q3 | replace Q3 := of_decide_eq_false Q3)
    obtain ⟨ba, oa, rfl, ca⟩ := hr (by omega)
    have hiw := one_le_mul (W := W) (show i < l.length by omega)
    first
     | (exfalso; first | omega | contradiction | (cases Q3; done))
     | skip
       refine cd_skip ?_
       refine nx_then ?_
       refine cd_seq ?_
       refine cd_block ?_
       refine cd_seq ?_
       refine cd_region ?_
       refine st_val (ro_assign (v := .int _ _) rfl) ?_
       refine st_nil ?_
       refine nx_then ?_
       refine cd_block ?_
       refine cd_loop (G := Nat × List Nat) [8, 22, 23, 24, 25, 26, 27, 28, 29, 30, 31, 32, 33, 34, 35, 36, 37, 38, 39, 40, 41, 42, 43, 44, 45, 46, 47, 48, 49, 50, 51, 52] (fun (k, _) => [(7, .int .i64 (k : Nat))]) (fun (k, bs) w' => k ≤ W ∧ bs.length = byteCnt W l.length ∧ PBp bs W l (i * W + k) ∧ Blk w' b15 5 (bs.map bV).toArray ∧ From w w') (fun (k, _) => W - k) ((0, bs)) ⟨rfl, trivial⟩ ?_ ?_
       · exact ⟨by omega, hbl, hpb, hblk, hB⟩
       rintro ⟨k, bs1⟩ ρ4 w4 ⟨hk, hbl1, hpb1, hblk1, hB⟩
       refine cd_seq ?_
       refine cd_seq ?_
       refine cd_region ?_
       refine st_val (ro_move (v := .int _ _) rfl) ?_
       refine st_val (ro_move (v := .int _ _) rfl) ?_
       refine st_val (ro_lss rfl rfl) ?_
       refine st_nil ?_
       refine nx_then ?_
       refine cd_cond rfl (fun Q5 => ?_) (fun Q5 => ?_)
       · (try first | replace Q5 := bn_t Q5 | replace Q5 := bn_f Q5)
         (try first | replace Q5 := bx_t Q5 | replace Q5 := bx_f Q5 | replace Q5 := be_t Q5 | replace Q5 := be_f Q5 | replace Q5 := of_decide_eq_true Q5 | replace Q5 := of_decide_eq_false Q5)
         first
          | (exfalso; first | omega | contradiction | (cases Q5; done))
          | skip
            refine cd_skip ?_
            refine nx_then ?_
            refine cd_cut (G := List Nat) [8, 27, 28, 29, 30, 31, 32, 33, 34, 35, 36, 37, 38, 39, 40, 41, 42, 43, 44, 45, 46, 47, 48, 49, 50, 51, 52] (fun _ => []) (fun bs2 w' => bs2.length = byteCnt W l.length ∧ PBp bs2 W l (i * W + (k + 1)) ∧ Blk w' b15 5 (bs2.map bV).toArray ∧ From w w') ?_ ?_
            · refine cd_block ?_
              refine cd_seq ?_
              refine cd_region ?_
              refine st_val (ro_move (v := .slice _ _ _) rfl) ?_
              refine st_val (ro_move (v := .int _ _) rfl) ?_
              refine st_val (ro_indexAddr1 IntsRefs_e23 rfl rfl (by omega)) ?_
              refine st_val (ro_load IntsRefs_g47 rfl (by exact cellF hB (ca i (by omega)))) ?_
              refine st_val (ro_move (v := .int _ _) rfl) ?_
              refine st_val (ro_shrN rfl rfl (by show k ≤ 64; omega)) ?_
              refine st_val (ro_andN (b := 1) rfl rfl (by exact ⟨Nat.lt_of_le_of_lt (Nat.div_le_self _ _) (h64 _ (List.getElem_mem _)), by decide⟩)) ?_
              refine st_val (ro_eql rfl rfl) ?_
              refine st_nil ?_
              refine nx_then ?_
              refine cd_cond rfl (fun Q6 => ?_) (fun Q6 => ?_)
              · (try first | replace Q6 := bn_t Q6 | replace Q6 := bn_f Q6)
                (try first | replace Q6 := bx_t Q6 | replace Q6 := bx_f Q6 | replace Q6 := be_t Q6 | replace Q6 := be_f Q6 | replace Q6 := of_decide_eq_true Q6 | replace Q6 := of_decide_eq_false Q6)
                have hbit : bitAt W l (i * W + k) = true := by
                  rw [bitAt_mk (by omega) (by omega)]
                  have := shr_and_one l[i] k
                  cases hb : l[i].testBit k with
                  | true => rfl
                  | false => rw [hb, if_neg (by simp)] at this; omega
                have hlt8 : (i * W + k) / 8 < bs1.length := by omega
                first
                 | (exfalso; first | omega | contradiction | (cases Q6; done))
                 | skip
                   refine cd_seq ?_
                   refine cd_region ?_
                   refine st_val (ro_move (v := .int _ _) rfl) ?_
                   refine st_val (ro_move (v := .int _ _) rfl) ?_
                   refine st_val (ro_mulN rfl rfl (by omega)) ?_
                   refine st_val (ro_move (v := .int _ _) rfl) ?_
                   refine st_val (ro_addN rfl rfl (by omega)) ?_
                   refine st_val (ro_assign (v := .int _ _) rfl) ?_
                   refine st_nil ?_
                   refine nx_then ?_
                   apply cd_drawn 13 [(40, eqp _), (41, eqp _), (42, eqp _), (43, eqp _), (44, eqp _), (45, eqp _), (46, eqp _), (47, eqp _), (48, eqp _), (49, eqp _), (50, eqp _), (51, eqp _), (52, eqp _)] (by kernel_rfl) (by kernel_rfl) ⟨eqp_mono _, eqp_mono _, eqp_mono _, eqp_mono _, eqp_mono _, eqp_mono _, eqp_mono _, eqp_mono _, eqp_mono _, eqp_mono _, eqp_mono _, eqp_mono _, eqp_mono _, trivial⟩
                   case hop =>
                    refine ⟨?_, ?_⟩
                    · intro w8 D8
                      show OpOK _ _ _ _ _ _ _
                      exact ok_pure (ro_move (v := .slice _ _ _) rfl) rfl
                    refine ⟨?_, ?_⟩
                    · intro w9 D9
                      show OpOK _ _ _ _ _ _ _
                      exact ok_pure (ro_move (v := .int _ _) rfl) rfl
                    refine ⟨?_, ?_⟩
                    · intro w10 D10
                      rintro _ rfl
                      show OpOK _ _ _ _ _ _ _
                      exact ok_pure (ro_quoN (b := 8) rfl rfl (by omega)) rfl
                    refine ⟨?_, ?_⟩
                    · intro w11 D11
                      show OpOK _ _ _ _ _ _ _
                      exact ok_pure (ro_move (v := .slice _ _ _) rfl) rfl
                    refine ⟨?_, ?_⟩
                    · intro w12 D12
                      show OpOK _ _ _ _ _ _ _
                      exact ok_pure (ro_move (v := .int _ _) rfl) rfl
                    refine ⟨?_, ?_⟩
                    · intro w13 D13
                      rintro _ rfl
                      show OpOK _ _ _ _ _ _ _
                      exact ok_pure (ro_quoN (b := 8) rfl rfl (by omega)) rfl
                    refine ⟨?_, ?_⟩
                    · intro w14 D14
                      rintro _ rfl _ rfl
                      show OpOK _ _ _ _ _ _ _
                      exact ok_pure (ro_indexAddr0 IntsRefs_e24 rfl rfl (by omega)) rfl
                    refine ⟨?_, ?_⟩
                    · intro w15 D15
                      rintro _ rfl
                      show OpOK _ _ _ _ _ _ _
                      exact ok_pure (ro_load IntsRefs_g5 rfl (by exact rd_map (hblk1.from_ D15) _ (by omega))) rfl
                    refine ⟨?_, ?_⟩
                    · intro w16 D16
                      show OpOK _ _ _ _ _ _ _
                      exact ok_pure (ro_move (v := .int _ _) rfl) rfl
                    refine ⟨?_, ?_⟩
                    · intro w17 D17
                      rintro _ rfl
                      show OpOK _ _ _ _ _ _ _
                      exact ok_pure (ro_remN (b := 8) rfl rfl (by decide)) rfl
                    refine ⟨?_, ?_⟩
                    · intro w18 D18
                      rintro _ rfl
                      show OpOK _ _ _ _ _ _ _
                      exact ok_pure (ro_shlN8 (a := 1) rfl rfl (by omega)) rfl
                    refine ⟨?_, ?_⟩
                    · intro w19 D19
                      rintro _ rfl _ rfl
                      show OpOK _ _ _ _ _ _ _
                      exact ok_pure (ro_orN8 rfl rfl (by exact ⟨hpb1.1 _ (List.getElem_mem _), Nat.mod_lt _ (by decide)⟩)) rfl
                    refine ⟨?_, ?_⟩
                    · intro w20 D20
                      rintro _ rfl _ rfl
                      show OpOK _ _ _ _ _ _ _
                      exact ok_pure (ro_indexAddr0 IntsRefs_e24 rfl rfl (by omega)) rfl
                    exact trivial
                   case hend =>
                    intro w21 D21
                    rintro _ rfl _ rfl _ rfl _ rfl _ rfl _ rfl _ rfl _ rfl _ rfl _ rfl _ rfl _ rfl _ rfl
                    show St _ _ _ _ _ _ _
                    refine st_put (v := .int _ _) IntsRefs_z5 rfl rfl rfl (hblk1.from_ D21) (by simp; omega) ?_
                    intro w22 O10 P10
                    refine st_nil ?_
                    refine nx_block ?_
                    refine nx_cut (bs1.set ((i * W + k) / 8) (bs1[(i * W + k) / 8] ||| 1 * 2 ^ ((i * W + k) % 8) % 256)) trivial (by (iterate 27 refine agr_cons rfl ?_); exact agr_rfl) ?_
                    exact ⟨(List.length_set ..).trans hbl1, pbp_set hpb1 hbit (by omega), by rw [← map_set_arr]; exact P10, ((hB.next D21).only O10 (hge))⟩
              · (try first | replace Q6 := bn_t Q6 | replace Q6 := bn_f Q6)
                (try first | replace Q6 := bx_t Q6 | replace Q6 := bx_f Q6 | replace Q6 := be_t Q6 | replace Q6 := be_f Q6 | replace Q6 := of_decide_eq_true Q6 | replace Q6 := of_decide_eq_false Q6)
                have hbit : bitAt W l (i * W + k) = false := by
                  rw [bitAt_mk (by omega) (by omega)]
                  have := shr_and_one l[i] k
                  cases hb : l[i].testBit k with
                  | false => rfl
                  | true => rw [hb, if_pos rfl] at this; omega
                first
                 | (exfalso; first | omega | contradiction | (cases Q6; done))
                 | skip
                   refine cd_skip ?_
                   refine nx_block ?_
                   refine nx_cut (bs1) trivial (by (iterate 8 refine agr_cons rfl ?_); exact agr_rfl) ?_
                   exact ⟨hbl1, pbp_skip hpb1 hbit, hblk1, hB⟩
            · rintro bs2 ρ23 w23 ⟨hbl2, hpb2, hblk2, hB⟩
              refine cd_region ?_
              refine st_val (ro_move (v := .int _ _) rfl) ?_
              refine st_val (ro_addN (b := 1) rfl rfl (by omega)) ?_
              refine st_val (ro_assign (v := .int _ _) rfl) ?_
              refine st_nil ?_
              refine nx_cut ((k + 1, bs2)) ⟨(by first | rfl | (refine int_eq ?_; omega)), trivial⟩ (by (iterate 66 refine agr_cons rfl ?_); exact agr_rfl) ⟨?_, ?_⟩
              · exact ⟨by omega, hbl2, hpb2, hblk2, hB⟩
              · show _ - _ < _ - _; omega
       · (try first | replace Q5 := bn_t Q5 | replace Q5 := bn_f Q5)
         (try first | replace Q5 := bx_t Q5 | replace Q5 := bx_f Q5 | replace Q5 := be_t Q5 | replace Q5 := be_f Q5 | replace Q5 := of_decide_eq_true Q5 | replace Q5 := of_decide_eq_false Q5)
         first
          | (exfalso; first | omega | contradiction | (cases Q5; done))
          | skip
            refine cd_exit ?_
            refine ex_then ?_
            refine ex_then ?_
            refine ex_block ?_
            refine nx_block ?_
            refine nx_then ?_
            refine cd_region ?_
            refine st_val (ro_move (v := .int _ _) rfl) ?_
            refine st_val (ro_addN (b := 1) rfl rfl (by omega)) ?_
            refine st_val (ro_assign (v := .int _ _) rfl) ?_
            refine st_nil ?_
            refine nx_cut ((i + 1, bs1)) ⟨(by first | rfl | (refine int_eq ?_; omega)), trivial⟩ (by (iterate 84 refine agr_cons rfl ?_); exact agr_rfl) ⟨?_, ?_⟩
            · refine ⟨by omega, hbl1, ?_, hblk1, hB⟩
              have : k = W := by omega
              subst this
              rw [Nat.succ_mul]; exact hpb1
            · show _ - _ < _ - _; omega
  · (try first | replace Q3 := bn_t Q3 | replace Q3 := bn_f Q3)
    (try first | replace Q3 := bx_t Q3 | replace Q3 := bx_f Q3 | replace Q3 := be_t Q3 | replace Q3 := be_f Q3 | replace Q3 := of_decide_eq_true Q3 | replace Q3 := of_decide_eq_false Q3)
    first
     | (exfalso; first | omega | contradiction | (cases Q3; done))
     | skip
       refine cd_exit ?_
       refine ex_then ?_
       refine ex_then ?_
       refine ex_block ?_
       refine nx_then ?_
       refine cd_seq ?_
       refine cd_region ?_
       refine st_val (ro_move (v := .slice _ _ _) rfl) ?_
       refine st_val (ro_assign (v := .slice _ _ _) rfl) ?_
       refine st_nil ?_
       refine nx_then ?_
       refine cd_ret ?_
       refine res1 (v := .slice _ _ _) rfl rfl ?_
       have : i = l.length := by omega
       subst this
       exact ⟨b15, bs, (by rw [hbl]; rfl), hge, hblk, hbl, hpb, hB⟩
end Go.Proofs.Ytgnmmifolhoaeaa
