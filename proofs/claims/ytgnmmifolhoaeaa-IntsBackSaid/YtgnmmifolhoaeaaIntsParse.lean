/- Walks of Parse of package ints, and of the reference. -/
import Derived.Test.YtgnmmifolhoaeaaIntsRefs
namespace Go.Proofs.Ytgnmmifolhoaeaa
open Go.RowKit

theorem IntsParse_e24 : elemQ Try.prog 24 = some (5, 1) := by kernel_rfl
theorem IntsParse_l24 : (elemQ Try.prog 24).isSome = true := by kernel_rfl
theorem IntsParse_k28 : callable Try.prog 28 = true := by kernel_rfl
theorem IntsParse_g5 : aggQ Try.prog 5 = some false := by kernel_rfl
theorem IntsParse_k26 : callable Try.prog 26 = true := by kernel_rfl
theorem IntsParse_f56_0 : fieldQ Try.prog 56 0 = some 0 := by kernel_rfl
theorem IntsParse_f53_0 : fieldQ Try.prog 53 0 = some 0 := by kernel_rfl
theorem IntsParse_g23 : aggQ Try.prog 23 = some false := by kernel_rfl
theorem IntsParse_e23 : elemQ Try.prog 23 = some (47, 1) := by kernel_rfl
theorem IntsParse_g47 : aggQ Try.prog 47 = some false := by kernel_rfl
theorem IntsParse_s5 : (Try.prog.underlying 5).isSome = true := by kernel_rfl
theorem IntsParse_i47 : Try.prog.underlying 47 = some (.int .u64) := by kernel_rfl
theorem IntsParse_z47 : sizeQ Try.prog 47 = some 1 := by kernel_rfl
theorem IntsParse_m23 : makeQ Try.prog 23 = some (47, 8, (.int .u64 0)) := by kernel_rfl
theorem IntsParse_k16 : callable Try.prog 16 = true := by kernel_rfl
theorem IntsParse_k15 : callable Try.prog 15 = true := by kernel_rfl
def GoodP (W n : Int) (b : List Nat) : Prop := 0 ≤ W ∧ W ≤ 64 ∧ 0 ≤ n ∧ n ≤ 131072 ∧ b.length = byteCnt W.toNat n.toNat ∧ Spare0 b W.toNat n.toNat
theorem byteCount_rt (W n : Nat) (w : World) (hW : W ≤ 64) (hn : n ≤ 131072) : Rt Try.prog 28 [.int .i64 W, .int .i64 n] w fun v w' => v = .int .i64 (byteCnt W n : Nat) ∧ w = w' :=
  Rt.mono (Rt.of (byteCount_any W n w hW hn)) fun v w' ⟨a, b⟩ => ⟨a, b.symm⟩
theorem newPacked_rt (W n : Nat) (w : World) (hW : W ≤ 64) (hn : n ≤ 131072) : Rt Try.prog 26 [.int .i64 W, .int .i64 n] w fun v w' => ∃ h cap, v = .agg #[.slice (some ⟨h, 0, none⟩) (wordCount W n) cap, .int .i64 W, .int .i64 n] ∧
    w'.ownsRow w.heap.size 47 1 (.slice (some ⟨h, 0, none⟩) (wordCount W n) cap) (wordCount W n) ((List.replicate (wordCount W n) 0).map uV) ∧ h < w'.heap.size ∧ From w w' :=
  Calls.mono (newPacked_any W n w hW hn) fun e w' ⟨h, cap, he, ho, hF⟩ => ⟨_, he, h, cap, rfl, ho, (ho.lt h rfl).2, hF⟩
def ParseGot (w : World) (W n : Int) (b : List Nat) (v : Value) (w' : World) : Prop :=
  (v = .tuple #[.pointer none, .int .i64 1] ∧ ¬ GoodP W n b) ∨
  ∃ g l, v = .tuple #[.pointer (some ⟨g, 0, none⟩), .int .i64 0] ∧ GoodP W n b ∧ l.length = n.toNat ∧ (∀ x ∈ l, x < 2 ^ W.toNat) ∧ (∀ t, t < n.toNat * W.toNat → bitAt W.toNat l t = bitAt 8 b t) ∧ IntsAt w.heap.size w' g W.toNat l

set_option maxRecDepth 100000 in
set_option maxHeartbeats 1000000 in
theorem parse_any (W n : Int) (A : Option Addr) (c : Nat) (b : List Nat) (w : World) (hr : RowOf bV w A b) (hl : b.length ≤ 140737488351232) (h8 : ∀ x ∈ b, x < 256) :
    Rt Try.prog 20 [.int .i64 W, .int .i64 n, .slice A b.length c] w (fun v w' => ParseGot w W n b v w' ∧ From w w') := by
  refine enter (n := 86) Try.func20 rfl rfl rfl ?_
  refine cd_seq ?_
  refine cd_region ?_
  refine st_val (ro_assign (v := .pointer _) rfl) ?_
  refine st_val (ro_assign (v := .int _ _) rfl) ?_
  refine st_nil ?_
  refine nx_then ?_
  refine cd_seq ?_
  refine cd_seq ?_
  refine cd_region ?_
  refine st_val (ro_move (v := .int _ _) rfl) ?_
  refine st_val (ro_lss rfl rfl) ?_
  refine st_val (ro_move (v := .bool _) rfl) ?_
  refine st_split (t := 14) rfl (fun Q1 => ?_) (fun Q1 => ?_)
  · (try first | replace Q1 := bn_t Q1 | replace Q1 := bn_f Q1)
    (try first | replace Q1 := bx_t Q1 | replace Q1 := bx_f Q1 | replace Q1 := be_t Q1 | replace Q1 := be_f Q1 | replace Q1 := of_decide_eq_true Q1 | replace Q1 := of_decide_eq_false Q1)
    first
     | (exfalso; first | omega | contradiction | (cases Q1; done))
     | skip
       refine st_gno rfl rfl ?_
       refine st_gno rfl rfl ?_
       refine st_val (ro_pickT (v := .bool _) rfl rfl) ?_
       refine st_val (ro_move (v := .bool _) rfl) ?_
       refine st_gno rfl rfl ?_
       refine st_gno rfl rfl ?_
       refine st_val (ro_pickT (v := .bool _) rfl rfl) ?_
       refine st_val (ro_move (v := .bool _) rfl) ?_
       refine st_gno rfl rfl ?_
       refine st_gno rfl rfl ?_
       refine st_val (ro_pickT (v := .bool _) rfl rfl) ?_
       refine st_val (ro_move (v := .bool _) rfl) ?_
       refine st_gno rfl rfl ?_
       refine st_gno rfl rfl ?_
       refine st_gno rfl rfl ?_
       refine st_gno rfl rfl ?_
       refine st_gno rfl rfl ?_
       refine st_gno rfl rfl ?_
       refine st_val (ro_pickT (v := .bool _) rfl rfl) ?_
       refine st_nil ?_
       refine nx_then ?_
       refine cd_condT rfl ?_
       refine cd_seq ?_
       refine cd_region ?_
       refine st_val (ro_assign (v := .pointer _) rfl) ?_
       refine st_val (ro_assign (v := .int _ _) rfl) ?_
       refine st_nil ?_
       refine nx_then ?_
       refine cd_ret ?_
       refine rt_then ?_
       refine res2 (v := .pointer _) (v' := .int _ _) rfl rfl rfl ?_
       exact ⟨.inl ⟨rfl, fun h => by obtain ⟨g1, g2, g3, g4, g5, g6⟩ := h; first | omega | (simp only [Int.toNat_natCast] at g5; omega)⟩, From.rfl_⟩
  · (try first | replace Q1 := bn_t Q1 | replace Q1 := bn_f Q1)
    (try first | replace Q1 := bx_t Q1 | replace Q1 := bx_f Q1 | replace Q1 := be_t Q1 | replace Q1 := be_f Q1 | replace Q1 := of_decide_eq_true Q1 | replace Q1 := of_decide_eq_false Q1)
    first
     | (exfalso; first | omega | contradiction | (cases Q1; done))
     | skip
       refine st_unguard rfl ?_
       refine st_val (ro_move (v := .int _ _) rfl) ?_
       refine st_unguard rfl ?_
       refine st_val (ro_gtr rfl rfl) ?_
       refine st_val (ro_pickF (v := .bool _) rfl rfl) ?_
       refine st_val (ro_move (v := .bool _) rfl) ?_
       refine st_split (t := 18) rfl (fun Q2 => ?_) (fun Q2 => ?_)
       · (try first | replace Q2 := bn_t Q2 | replace Q2 := bn_f Q2)
         (try first | replace Q2 := bx_t Q2 | replace Q2 := bx_f Q2 | replace Q2 := be_t Q2 | replace Q2 := be_f Q2 | replace Q2 := of_decide_eq_true Q2 | replace Q2 := of_decide_eq_false Q2)
         first
          | (exfalso; first | omega | contradiction | (cases Q2; done))
          | skip
            refine st_gno rfl rfl ?_
            refine st_gno rfl rfl ?_
            refine st_val (ro_pickT (v := .bool _) rfl rfl) ?_
            refine st_val (ro_move (v := .bool _) rfl) ?_
            refine st_gno rfl rfl ?_
            refine st_gno rfl rfl ?_
            refine st_val (ro_pickT (v := .bool _) rfl rfl) ?_
            refine st_val (ro_move (v := .bool _) rfl) ?_
            refine st_gno rfl rfl ?_
            refine st_gno rfl rfl ?_
            refine st_gno rfl rfl ?_
            refine st_gno rfl rfl ?_
            refine st_gno rfl rfl ?_
            refine st_gno rfl rfl ?_
            refine st_val (ro_pickT (v := .bool _) rfl rfl) ?_
            refine st_nil ?_
            refine nx_then ?_
            refine cd_condT rfl ?_
            refine cd_seq ?_
            refine cd_region ?_
            refine st_val (ro_assign (v := .pointer _) rfl) ?_
            refine st_val (ro_assign (v := .int _ _) rfl) ?_
            refine st_nil ?_
            refine nx_then ?_
            refine cd_ret ?_
            refine rt_then ?_
            refine res2 (v := .pointer _) (v' := .int _ _) rfl rfl rfl ?_
            exact ⟨.inl ⟨rfl, fun h => by obtain ⟨g1, g2, g3, g4, g5, g6⟩ := h; first | omega | (simp only [Int.toNat_natCast] at g5; omega)⟩, From.rfl_⟩
       · (try first | replace Q2 := bn_t Q2 | replace Q2 := bn_f Q2)
         (try first | replace Q2 := bx_t Q2 | replace Q2 := bx_f Q2 | replace Q2 := be_t Q2 | replace Q2 := be_f Q2 | replace Q2 := of_decide_eq_true Q2 | replace Q2 := of_decide_eq_false Q2)
         first
          | (exfalso; first | omega | contradiction | (cases Q2; done))
          | skip
            refine st_unguard rfl ?_
            refine st_val (ro_move (v := .int _ _) rfl) ?_
            refine st_unguard rfl ?_
            refine st_val (ro_lss rfl rfl) ?_
            refine st_val (ro_pickF (v := .bool _) rfl rfl) ?_
            refine st_val (ro_move (v := .bool _) rfl) ?_
            refine st_split (t := 22) rfl (fun Q3 => ?_) (fun Q3 => ?_)
            · (try first | replace Q3 := bn_t Q3 | replace Q3 := bn_f Q3)
              (try first | replace Q3 := bx_t Q3 | replace Q3 := bx_f Q3 | replace Q3 := be_t Q3 | replace Q3 := be_f Q3 | replace Q3 := of_decide_eq_true Q3 | replace Q3 := of_decide_eq_false Q3)
              first
               | (exfalso; first | omega | contradiction | (cases Q3; done))
               | skip
                 refine st_gno rfl rfl ?_
                 refine st_gno rfl rfl ?_
                 refine st_val (ro_pickT (v := .bool _) rfl rfl) ?_
                 refine st_val (ro_move (v := .bool _) rfl) ?_
                 refine st_gno rfl rfl ?_
                 refine st_gno rfl rfl ?_
                 refine st_gno rfl rfl ?_
                 refine st_gno rfl rfl ?_
                 refine st_gno rfl rfl ?_
                 refine st_gno rfl rfl ?_
                 refine st_val (ro_pickT (v := .bool _) rfl rfl) ?_
                 refine st_nil ?_
                 refine nx_then ?_
                 refine cd_condT rfl ?_
                 refine cd_seq ?_
                 refine cd_region ?_
                 refine st_val (ro_assign (v := .pointer _) rfl) ?_
                 refine st_val (ro_assign (v := .int _ _) rfl) ?_
                 refine st_nil ?_
                 refine nx_then ?_
                 refine cd_ret ?_
                 refine rt_then ?_
                 refine res2 (v := .pointer _) (v' := .int _ _) rfl rfl rfl ?_
                 exact ⟨.inl ⟨rfl, fun h => by obtain ⟨g1, g2, g3, g4, g5, g6⟩ := h; first | omega | (simp only [Int.toNat_natCast] at g5; omega)⟩, From.rfl_⟩
            · (try first | replace Q3 := bn_t Q3 | replace Q3 := bn_f Q3)
              (try first | replace Q3 := bx_t Q3 | replace Q3 := bx_f Q3 | replace Q3 := be_t Q3 | replace Q3 := be_f Q3 | replace Q3 := of_decide_eq_true Q3 | replace Q3 := of_decide_eq_false Q3)
              first
               | (exfalso; first | omega | contradiction | (cases Q3; done))
               | skip
                 refine st_unguard rfl ?_
                 refine st_val (ro_move (v := .int _ _) rfl) ?_
                 refine st_unguard rfl ?_
                 refine st_val (ro_gtr rfl rfl) ?_
                 refine st_val (ro_pickF (v := .bool _) rfl rfl) ?_
                 refine st_val (ro_move (v := .bool _) rfl) ?_
                 refine st_split (t := 26) rfl (fun Q4 => ?_) (fun Q4 => ?_)
                 · (try first | replace Q4 := bn_t Q4 | replace Q4 := bn_f Q4)
                   (try first | replace Q4 := bx_t Q4 | replace Q4 := bx_f Q4 | replace Q4 := be_t Q4 | replace Q4 := be_f Q4 | replace Q4 := of_decide_eq_true Q4 | replace Q4 := of_decide_eq_false Q4)
                   first
                    | (exfalso; first | omega | contradiction | (cases Q4; done))
                    | skip
                      refine st_gno rfl rfl ?_
                      refine st_gno rfl rfl ?_
                      refine st_gno rfl rfl ?_
                      refine st_gno rfl rfl ?_
                      refine st_gno rfl rfl ?_
                      refine st_gno rfl rfl ?_
                      refine st_val (ro_pickT (v := .bool _) rfl rfl) ?_
                      refine st_nil ?_
                      refine nx_then ?_
                      refine cd_condT rfl ?_
                      refine cd_seq ?_
                      refine cd_region ?_
                      refine st_val (ro_assign (v := .pointer _) rfl) ?_
                      refine st_val (ro_assign (v := .int _ _) rfl) ?_
                      refine st_nil ?_
                      refine nx_then ?_
                      refine cd_ret ?_
                      refine rt_then ?_
                      refine res2 (v := .pointer _) (v' := .int _ _) rfl rfl rfl ?_
                      exact ⟨.inl ⟨rfl, fun h => by obtain ⟨g1, g2, g3, g4, g5, g6⟩ := h; first | omega | (simp only [Int.toNat_natCast] at g5; omega)⟩, From.rfl_⟩
                 · (try first | replace Q4 := bn_t Q4 | replace Q4 := bn_f Q4)
                   (try first | replace Q4 := bx_t Q4 | replace Q4 := bx_f Q4 | replace Q4 := be_t Q4 | replace Q4 := be_f Q4 | replace Q4 := of_decide_eq_true Q4 | replace Q4 := of_decide_eq_false Q4)
                   obtain ⟨W1, rfl⟩ : ∃ W1 : Nat, W = W1 := ⟨W.toNat, by omega⟩
                   obtain ⟨n1, rfl⟩ : ∃ n1 : Nat, n = n1 := ⟨n.toNat, by omega⟩
                   have hW : W1 ≤ 64 := by omega
                   have hn : n1 ≤ 131072 := by omega
                   have hcm := Nat.mul_comm W1 n1
                   have hp := (wordCount_small hW hn).1
                   have hc := byteCnt_ge W1 n1
                   first
                    | (exfalso; first | omega | contradiction | (cases Q4; done))
                    | skip
                      refine st_unguard rfl ?_
                      refine st_val (ro_move (v := .slice _ _ _) rfl) ?_
                      refine st_unguard rfl ?_
                      refine st_val (ro_len IntsParse_l24 rfl) ?_
                      refine st_unguard rfl ?_
                      refine st_val (ro_move (v := .int _ _) rfl) ?_
                      refine st_unguard rfl ?_
                      refine st_val (ro_move (v := .int _ _) rfl) ?_
                      refine st_unguard rfl ?_
                      refine st_call IntsParse_k28 (byteCount_rt W1 n1 _ hW hn) ?_
                      rintro v31 w5 ⟨rfl, rfl⟩
                      refine st_unguard rfl ?_
                      refine st_val (ro_neq rfl rfl) ?_
                      refine st_val (ro_pickF (v := .bool _) rfl rfl) ?_
                      refine st_nil ?_
                      refine nx_then ?_
                      refine cd_cond rfl (fun Q6 => ?_) (fun Q6 => ?_)
                      · (try first | replace Q6 := bn_t Q6 | replace Q6 := bn_f Q6)
                        (try first | replace Q6 := bx_t Q6 | replace Q6 := bx_f Q6 | replace Q6 := be_t Q6 | replace Q6 := be_f Q6 | replace Q6 := of_decide_eq_true Q6 | replace Q6 := of_decide_eq_false Q6)
                        first
                         | (exfalso; first | omega | contradiction | (cases Q6; done))
                         | skip
                           refine cd_seq ?_
                           refine cd_region ?_
                           refine st_val (ro_assign (v := .pointer _) rfl) ?_
                           refine st_val (ro_assign (v := .int _ _) rfl) ?_
                           refine st_nil ?_
                           refine nx_then ?_
                           refine cd_ret ?_
                           refine rt_then ?_
                           refine res2 (v := .pointer _) (v' := .int _ _) rfl rfl rfl ?_
                           exact ⟨.inl ⟨rfl, fun h => by obtain ⟨g1, g2, g3, g4, g5, g6⟩ := h; first | omega | (simp only [Int.toNat_natCast] at g5; omega)⟩, From.rfl_⟩
                      · (try first | replace Q6 := bn_t Q6 | replace Q6 := bn_f Q6)
                        (try first | replace Q6 := bx_t Q6 | replace Q6 := bx_f Q6 | replace Q6 := be_t Q6 | replace Q6 := be_f Q6 | replace Q6 := of_decide_eq_true Q6 | replace Q6 := of_decide_eq_false Q6)
                        have hbc : b.length = byteCnt W1 n1 := by omega
                        first
                         | (exfalso; first | omega | contradiction | (cases Q6; done))
                         | skip
                           refine cd_skip ?_
                           refine nx_then ?_
                           refine cd_cut (G := Unit) [6, 7, 8, 34, 35, 36, 37, 38, 39, 40, 41, 42, 43, 44, 45, 46, 47, 48, 49, 50, 51, 52, 53, 54] (fun _ => []) (fun _ w' => Spare0 b W1 n1 ∧ From w w') ?_ ?_
                           · refine cd_seq ?_
                             refine cd_region ?_
                             refine st_val (ro_move (v := .slice _ _ _) rfl) ?_
                             refine st_val (ro_len IntsParse_l24 rfl) ?_
                             refine st_val (ro_mulN (b := 8) rfl rfl (by omega)) ?_
                             refine st_val (ro_move (v := .int _ _) rfl) ?_
                             refine st_val (ro_move (v := .int _ _) rfl) ?_
                             refine st_val (ro_mulN rfl rfl (by omega)) ?_
                             refine st_val (ro_subN rfl rfl (by omega)) ?_
                             refine st_val (ro_assign (v := .int _ _) rfl) ?_
                             refine st_nil ?_
                             refine nx_then ?_
                             refine cd_seq ?_
                             refine cd_region ?_
                             refine st_val (ro_move (v := .int _ _) rfl) ?_
                             refine st_val (ro_gtr rfl rfl) ?_
                             refine st_val (ro_move (v := .bool _) rfl) ?_
                             refine st_split (t := 43) rfl (fun Q7 => ?_) (fun Q7 => ?_)
                             · (try first | replace Q7 := bn_t Q7 | replace Q7 := bn_f Q7)
                               (try first | replace Q7 := bx_t Q7 | replace Q7 := bx_f Q7 | replace Q7 := be_t Q7 | replace Q7 := be_f Q7 | replace Q7 := of_decide_eq_true Q7 | replace Q7 := of_decide_eq_false Q7)
                               obtain ⟨ba, oa, rfl, ca⟩ := hr (by omega)
                               first
                                | (exfalso; first | omega | contradiction | (cases Q7; done))
                                | skip
                                  refine st_unguard rfl ?_
                                  refine st_val (ro_move (v := .slice _ _ _) rfl) ?_
                                  refine st_unguard rfl ?_
                                  refine st_val (ro_move (v := .slice _ _ _) rfl) ?_
                                  refine st_unguard rfl ?_
                                  refine st_val (ro_len IntsParse_l24 rfl) ?_
                                  refine st_unguard rfl ?_
                                  refine st_val (ro_subN (b := 1) rfl rfl (by omega)) ?_
                                  refine st_unguard rfl ?_
                                  refine st_val (ro_indexAddr1 IntsParse_e24 rfl rfl (by omega)) ?_
                                  refine st_unguard rfl ?_
                                  refine st_val (ro_load IntsParse_g5 rfl (by exact cellF From.rfl_ (ca (b.length - 1) (by omega)))) ?_
                                  refine st_unguard rfl ?_
                                  refine st_val (ro_move (v := .int _ _) rfl) ?_
                                  refine st_unguard rfl ?_
                                  refine st_val (ro_subN (a := 8) rfl rfl (by omega)) ?_
                                  refine st_unguard rfl ?_
                                  refine st_val (ro_shrN rfl rfl (by show _ ≤ 8; omega)) ?_
                                  refine st_unguard rfl ?_
                                  refine st_val (ro_neq rfl rfl) ?_
                                  refine st_val (ro_pickT (v := .bool _) rfl rfl) ?_
                                  refine st_nil ?_
                                  refine nx_then ?_
                                  refine cd_cond rfl (fun Q8 => ?_) (fun Q8 => ?_)
                                  · (try first | replace Q8 := bn_t Q8 | replace Q8 := bn_f Q8)
                                    (try first | replace Q8 := bx_t Q8 | replace Q8 := bx_f Q8 | replace Q8 := be_t Q8 | replace Q8 := be_f Q8 | replace Q8 := of_decide_eq_true Q8 | replace Q8 := of_decide_eq_false Q8)
                                    first
                                     | (exfalso; first | omega | contradiction | (cases Q8; done))
                                     | skip
                                       refine cd_seq ?_
                                       refine cd_region ?_
                                       refine st_val (ro_assign (v := .pointer _) rfl) ?_
                                       refine st_val (ro_assign (v := .int _ _) rfl) ?_
                                       refine st_nil ?_
                                       refine nx_then ?_
                                       refine cd_ret ?_
                                       refine rt_then ?_
                                       refine res2 (v := .pointer _) (v' := .int _ _) rfl rfl rfl ?_
                                       exact ⟨.inl ⟨rfl, fun h => by
                                         obtain ⟨g1, g2, g3, g4, g5, g6⟩ := h
                                         have := (spare_iff h8 hbc (by omega) (by omega)).2 g6
                                         rw [hcm] at *
                                         omega⟩, From.rfl_⟩
                                  · (try first | replace Q8 := bn_t Q8 | replace Q8 := bn_f Q8)
                                    (try first | replace Q8 := bx_t Q8 | replace Q8 := bx_f Q8 | replace Q8 := be_t Q8 | replace Q8 := be_f Q8 | replace Q8 := of_decide_eq_true Q8 | replace Q8 := of_decide_eq_false Q8)
                                    first
                                     | (exfalso; first | omega | contradiction | (cases Q8; done))
                                     | skip
                                       refine cd_skip ?_
                                       refine nx_cut (()) trivial (by (iterate 23 refine agr_cons rfl ?_); exact agr_rfl) ?_
                                       refine ⟨?_, From.rfl_⟩
                                       first
                                         | exact spare_full (by omega)
                                         | (refine (spare_iff h8 hbc (by omega) (by omega)).1 ?_; rw [hcm] at *; omega)
                             · (try first | replace Q7 := bn_t Q7 | replace Q7 := bn_f Q7)
                               (try first | replace Q7 := bx_t Q7 | replace Q7 := bx_f Q7 | replace Q7 := be_t Q7 | replace Q7 := be_f Q7 | replace Q7 := of_decide_eq_true Q7 | replace Q7 := of_decide_eq_false Q7)
                               first
                                | (exfalso; first | omega | contradiction | (cases Q7; done))
                                | skip
                                  refine st_gno rfl rfl ?_
                                  refine st_gno rfl rfl ?_
                                  refine st_gno rfl rfl ?_
                                  refine st_gno rfl rfl ?_
                                  refine st_gno rfl rfl ?_
                                  refine st_gno rfl rfl ?_
                                  refine st_gno rfl rfl ?_
                                  refine st_gno rfl rfl ?_
                                  refine st_gno rfl rfl ?_
                                  refine st_gno rfl rfl ?_
                                  refine st_val (ro_pickF (v := .bool _) rfl rfl) ?_
                                  refine st_nil ?_
                                  refine nx_then ?_
                                  refine cd_condF rfl ?_
                                  refine cd_skip ?_
                                  refine nx_cut (()) trivial (by (iterate 23 refine agr_cons rfl ?_); exact agr_rfl) ?_
                                  refine ⟨?_, From.rfl_⟩
                                  first
                                    | exact spare_full (by omega)
                                    | (refine (spare_iff h8 hbc (by omega) (by omega)).1 ?_; rw [hcm] at *; omega)
                           · rintro _ ρ9 w9 ⟨hs0, hB⟩
                             refine cd_seq ?_
                             refine cd_region ?_
                             refine st_val (ro_move (v := .int _ _) rfl) ?_
                             refine st_val (ro_move (v := .int _ _) rfl) ?_
                             refine st_call IntsParse_k26 (newPacked_rt W1 n1 _ hW hn) ?_
                             rintro v57 w10 ⟨h57, cap57, rfl, ho57, hlt57, E57⟩
                             refine st_val (ro_build (by rfl)) ?_
                             refine st_box (v := .agg _) rfl ?_
                             intro b59 w11 E59 hb59 hk59
                             have hne : b59 ≠ h57 := by omega
                             have hge : w.heap.size ≤ b59 := by rw [hb59]; exact ((hB.next E57)).size
                             refine st_val (ro_assign (v := .pointer _) rfl) ?_
                             refine st_nil ?_
                             refine nx_then ?_
                             refine cd_seq ?_
                             refine cd_seq ?_
                             refine cd_region ?_
                             refine st_val (ro_move (v := .slice _ _ _) rfl) ?_
                             refine st_val (ro_len IntsParse_l24 rfl) ?_
                             refine st_val (ro_move (v := .int _ _) rfl) ?_
                             refine st_nil ?_
                             refine nx_then ?_
                             refine cd_block ?_
                             refine cd_loop (G := Nat × List Nat) [10, 11, 63, 64, 65, 66, 67, 68, 69, 70, 71, 72, 73, 74, 75, 76, 77, 78, 79, 80, 81, 82, 83, 84] (fun (i, _) => [(62, .int .i64 (i : Nat))]) (fun (i, ws) w' => i ≤ b.length ∧ ws.length = wordCount W1 n1 ∧ WBp ws b i ∧ Blk w' b59 56 #[.slice (some ⟨h57, 0, none⟩) (wordCount W1 n1) cap57, .int .i64 W1, .int .i64 n1] ∧ w'.ownsRow w.heap.size 47 1 (.slice (some ⟨h57, 0, none⟩) (wordCount W1 n1) cap57) (wordCount W1 n1) (ws.map uV) ∧ From w w') (fun (i, _) => b.length - i) ((0, List.replicate (wordCount W1 n1) 0)) ⟨rfl, trivial⟩ ?_ ?_
                             · exact ⟨by omega, List.length_replicate .., wbp_zero _ _, hk59, ownsRow_le (ho57.kept_from E59) (hB.size), ((hB.next E57).next E59)⟩
                             rintro ⟨i, ws⟩ ρ12 w12 ⟨hi, hwl, hwb, hblk, hown, hB⟩
                             refine cd_seq ?_
                             refine cd_region ?_
                             refine st_val (ro_lss rfl rfl) ?_
                             refine st_nil ?_
                             refine nx_then ?_
                             refine cd_seq ?_
                             refine cd_cond rfl (fun Q13 => ?_) (fun Q13 => ?_)
                             · (try first | replace Q13 := bn_t Q13 | replace Q13 := bn_f Q13)
                               (try first | replace Q13 := bx_t Q13 | replace Q13 := bx_f Q13 | replace Q13 := be_t Q13 | replace Q13 := be_f Q13 | replace Q13 := of_decide_eq_true Q13 | replace Q13 := of_decide_eq_false Q13)
                               obtain ⟨ba, oa, rfl, ca⟩ := hr (by omega)
                               have hq8 : i / 8 < ws.length := by rw [hwl]; exact byte_ix (p := W1 * n1) (j := i) (m := byteCnt W1 n1) (by omega) rfl rfl
                               first
                                | (exfalso; first | omega | contradiction | (cases Q13; done))
                                | skip
                                  refine cd_skip ?_
                                  refine nx_then ?_
                                  refine cd_seq ?_
                                  refine cd_block ?_
                                  refine cd_seq ?_
                                  refine cd_region ?_
                                  refine st_val (ro_move (v := .int _ _) rfl) ?_
                                  refine st_val (ro_indexAddr1 IntsParse_e24 rfl rfl (by omega)) ?_
                                  refine st_val (ro_load IntsParse_g5 rfl (by exact cellF hB (ca i (by omega)))) ?_
                                  refine st_val (ro_assign (v := .int _ _) rfl) ?_
                                  refine st_val (ro_assign (v := .int _ _) rfl) ?_
                                  refine st_nil ?_
                                  refine nx_then ?_
                                  apply cd_drawn 17 [(67, eqp _), (68, eqp _), (69, eqp _), (70, eqp _), (71, eqp _), (72, eqp _), (73, eqp _), (74, eqp _), (75, eqp _), (76, eqp _), (77, eqp _), (78, eqp _), (79, eqp _), (80, eqp _), (81, eqp _), (82, eqp _), (83, eqp _)] (by kernel_rfl) (by kernel_rfl) ⟨eqp_mono _, eqp_mono _, eqp_mono _, eqp_mono _, eqp_mono _, eqp_mono _, eqp_mono _, eqp_mono _, eqp_mono _, eqp_mono _, eqp_mono _, eqp_mono _, eqp_mono _, eqp_mono _, eqp_mono _, eqp_mono _, eqp_mono _, trivial⟩
                                  case hop =>
                                   refine ⟨?_, ?_⟩
                                   · intro w15 D15
                                     show OpOK _ _ _ _ _ _ _
                                     exact ok_pure (ro_move (v := .pointer _) rfl) rfl
                                   refine ⟨?_, ?_⟩
                                   · intro w16 D16
                                     rintro _ rfl
                                     show OpOK _ _ _ _ _ _ _
                                     exact ok_pure (ro_nilCheck rfl) rfl
                                   refine ⟨?_, ?_⟩
                                   · intro w17 D17
                                     rintro _ rfl
                                     show OpOK _ _ _ _ _ _ _
                                     exact ok_pure (ro_fieldAddr IntsParse_f56_0 rfl) rfl
                                   refine ⟨?_, ?_⟩
                                   · intro w18 D18
                                     rintro _ rfl
                                     show OpOK _ _ _ _ _ _ _
                                     exact ok_pure (ro_fieldAddr IntsParse_f53_0 rfl) rfl
                                   refine ⟨?_, ?_⟩
                                   · intro w19 D19
                                     rintro _ rfl
                                     show OpOK _ _ _ _ _ _ _
                                     exact ok_pure (ro_load IntsParse_g23 rfl (by exact (hblk.from_ D19).rd 0 rfl)) rfl
                                   refine ⟨?_, ?_⟩
                                   · intro w20 D20
                                     show OpOK _ _ _ _ _ _ _
                                     exact ok_pure (ro_move (v := .int _ _) rfl) rfl
                                   refine ⟨?_, ?_⟩
                                   · intro w21 D21
                                     rintro _ rfl
                                     show OpOK _ _ _ _ _ _ _
                                     exact ok_pure (ro_quoN (b := 8) rfl rfl (by omega)) rfl
                                   refine ⟨?_, ?_⟩
                                   · intro w22 D22
                                     rintro _ rfl _ rfl
                                     show OpOK _ _ _ _ _ _ _
                                     exact ok_pure (ro_indexAddr0 IntsParse_e23 rfl rfl (by omega)) rfl
                                   refine ⟨?_, ?_⟩
                                   · intro w23 D23
                                     rintro _ rfl
                                     show OpOK _ _ _ _ _ _ _
                                     exact ok_pure (ro_load IntsParse_g47 rfl (by exact own_cell (hown.kept_from D23) (i / 8) hq8)) rfl
                                   refine ⟨?_, ?_⟩
                                   · intro w24 D24
                                     show OpOK _ _ _ _ _ _ _
                                     exact ok_pure (ro_move (v := .int _ _) rfl) rfl
                                   refine ⟨?_, ?_⟩
                                   · intro w25 D25
                                     rintro _ rfl
                                     show OpOK _ _ _ _ _ _ _
                                     exact ok_pure (ro_conv64 IntsParse_s5 IntsParse_i47 rfl (by have := h8 _ (List.getElem_mem (show i < b.length by omega)); omega)) rfl
                                   refine ⟨?_, ?_⟩
                                   · intro w26 D26
                                     show OpOK _ _ _ _ _ _ _
                                     exact ok_pure (ro_move (v := .int _ _) rfl) rfl
                                   refine ⟨?_, ?_⟩
                                   · intro w27 D27
                                     rintro _ rfl
                                     show OpOK _ _ _ _ _ _ _
                                     exact ok_pure (ro_remN (b := 8) rfl rfl (by decide)) rfl
                                   refine ⟨?_, ?_⟩
                                   · intro w28 D28
                                     rintro _ rfl
                                     show OpOK _ _ _ _ _ _ _
                                     exact ok_pure (ro_mulN (b := 8) rfl rfl (by omega)) rfl
                                   refine ⟨?_, ?_⟩
                                   · intro w29 D29
                                     rintro _ rfl _ rfl
                                     show OpOK _ _ _ _ _ _ _
                                     exact ok_pure (ro_shlN rfl rfl (by omega)) rfl
                                   refine ⟨?_, ?_⟩
                                   · intro w30 D30
                                     rintro _ rfl _ rfl
                                     show OpOK _ _ _ _ _ _ _
                                     exact ok_pure (ro_orN rfl rfl (by exact ⟨hwb.1 _ (List.getElem_mem _), Nat.mod_lt _ (by decide)⟩)) rfl
                                   refine ⟨?_, ?_⟩
                                   · intro w31 D31
                                     rintro _ rfl _ rfl
                                     show OpOK _ _ _ _ _ _ _
                                     exact ok_pure (ro_indexAddr0 IntsParse_e23 rfl rfl (by omega)) rfl
                                   exact trivial
                                  case hend =>
                                   intro w32 D32
                                   rintro _ rfl _ rfl _ rfl _ rfl _ rfl _ rfl _ rfl _ rfl _ rfl _ rfl _ rfl _ rfl _ rfl _ rfl _ rfl _ rfl _ rfl
                                   show St _ _ _ _ _ _ _
                                   have E0 := D32
                                   refine st_putOwn (v := .int _ _) IntsParse_z47 rfl rfl rfl (hown.kept_from D32) (by omega) ?_
                                   intro w33 O10 P10
                                   refine st_nil ?_
                                   refine nx_block ?_
                                   refine nx_then ?_
                                   refine cd_region ?_
                                   refine st_val (ro_addN (b := 1) rfl rfl (by omega)) ?_
                                   refine st_val (ro_move (v := .int _ _) rfl) ?_
                                   refine st_nil ?_
                                   refine nx_cut ((i + 1, ws.set (i / 8) (ws[i / 8] ||| b[i] * 2 ^ (i % 8 * 8) % 2 ^ 64))) ⟨(by first | rfl | (refine int_eq ?_; omega)), trivial⟩ (by (iterate 50 refine agr_cons rfl ?_); exact agr_rfl) ⟨?_, ?_⟩
                                   · exact ⟨by omega, (List.length_set ..).trans hwl, wbp_set hwb (by omega) h8 hq8, (hblk.from_ E0).only O10 hne, by simpa [List.map_set] using P10, ((hB.next D32).only O10 ((hown.lt h57 rfl).1))⟩
                                   · show _ - _ < _ - _; omega
                             · (try first | replace Q13 := bn_t Q13 | replace Q13 := bn_f Q13)
                               (try first | replace Q13 := bx_t Q13 | replace Q13 := bx_f Q13 | replace Q13 := be_t Q13 | replace Q13 := be_f Q13 | replace Q13 := of_decide_eq_true Q13 | replace Q13 := of_decide_eq_false Q13)
                               first
                                | (exfalso; first | omega | contradiction | (cases Q13; done))
                                | skip
                                  refine cd_exit ?_
                                  refine ex_then ?_
                                  refine ex_then ?_
                                  refine ex_block ?_
                                  refine nx_then ?_
                                  refine cd_seq ?_
                                  refine cd_region ?_
                                  refine st_val (ro_move (v := .pointer _) rfl) ?_
                                  refine st_val (ro_assign (v := .pointer _) rfl) ?_
                                  refine st_val (ro_assign (v := .int _ _) rfl) ?_
                                  refine st_nil ?_
                                  refine nx_then ?_
                                  refine cd_ret ?_
                                  refine res2 (v := .pointer _) (v' := .int _ _) rfl rfl rfl ?_
                                  obtain rfl : i = b.length := by omega
                                  have hnl : ∀ x ∈ numsOf ws W1 n1, x < 2 ^ W1 := numsOf_lt
                                  refine ⟨.inr ⟨b59, numsOf ws W1 n1, rfl, ⟨by omega, by omega, by omega, by omega, hbc, hs0⟩, numsOf_len _ _ _, hnl, fun t ht => ?_, ⟨ws, ⟨h57, cap57, ?_, ?_, hne, hge⟩, ?_, fun h0 => ?_, fun h0 x hx => ?_, hW, hnl, ?_⟩⟩, hB⟩
                                  · have h0 : 0 < W1 := by
                                      rcases Nat.eq_zero_or_pos W1 with h | h
                                      · subst h; simp at ht
                                      · exact h
                                    refine (numsOf_bit hwb.1 hW h0 ht).trans ?_
                                    rw [hwb.2, if_pos (by simp only [Int.toNat_natCast] at ht; omega)]
                                  · rw [numsOf_len, hwl]; exact hblk
                                  · rw [hwl]; exact hown
                                  · rw [numsOf_len]; exact hwl
                                  · exact packs_of hwb hbc hs0 hW h0
                                  · have := hnl x hx; simp only [Int.toNat_natCast] at h0; rw [h0] at this; omega
                                  · rw [numsOf_len]; exact hn
def RefParseGot (W n : Int) (b : List Nat) (v : Value) (w' : World) : Prop := ∃ A l c ok, v = .tuple #[.slice A (List.length l) c, .bool ok] ∧ (ok = true ↔ GoodP W n b) ∧
  (GoodP W n b → RowOf uV w' A l ∧ l.length = n.toNat ∧ (∀ x ∈ l, x < 2 ^ W.toNat) ∧ (∀ t, t < n.toNat * W.toNat → bitAt W.toNat l t = bitAt 8 b t))
set_option maxRecDepth 100000 in
set_option maxHeartbeats 1000000 in
theorem refParse_any (W n : Int) (A : Option Addr) (c : Nat) (b : List Nat) (w : World) (hr : RowOf bV w A b) (hl : b.length ≤ 140737488351232) (h8 : ∀ x ∈ b, x < 256) :
    Rt Try.prog 21 [.int .i64 W, .int .i64 n, .slice A b.length c] w (fun v w' => RefParseGot W n b v w' ∧ From w w') := by
  refine enter (n := 79) Try.func21 rfl rfl rfl ?_
  refine cd_seq ?_
  refine cd_region ?_
  refine st_val (ro_assign (v := .slice _ _ _) rfl) ?_
  refine st_val (ro_assign (v := .bool _) rfl) ?_
  refine st_nil ?_
  refine nx_then ?_
  refine cd_seq ?_
  refine cd_seq ?_
  refine cd_region ?_
  refine st_val (ro_move (v := .int _ _) rfl) ?_
  refine st_val (ro_lss rfl rfl) ?_
  refine st_val (ro_move (v := .bool _) rfl) ?_
  refine st_split (t := 14) rfl (fun Q1 => ?_) (fun Q1 => ?_)
  · (try first | replace Q1 := bn_t Q1 | replace Q1 := bn_f Q1)
    (try first | replace Q1 := bx_t Q1 | replace Q1 := bx_f Q1 | replace Q1 := be_t Q1 | replace Q1 := be_f Q1 | replace Q1 := of_decide_eq_true Q1 | replace Q1 := of_decide_eq_false Q1)
    first
     | (exfalso; first | omega | contradiction | (cases Q1; done))
     | skip
       refine st_gno rfl rfl ?_
       refine st_gno rfl rfl ?_
       refine st_val (ro_pickT (v := .bool _) rfl rfl) ?_
       refine st_val (ro_move (v := .bool _) rfl) ?_
       refine st_gno rfl rfl ?_
       refine st_gno rfl rfl ?_
       refine st_val (ro_pickT (v := .bool _) rfl rfl) ?_
       refine st_val (ro_move (v := .bool _) rfl) ?_
       refine st_gno rfl rfl ?_
       refine st_gno rfl rfl ?_
       refine st_val (ro_pickT (v := .bool _) rfl rfl) ?_
       refine st_val (ro_move (v := .bool _) rfl) ?_
       refine st_gno rfl rfl ?_
       refine st_gno rfl rfl ?_
       refine st_gno rfl rfl ?_
       refine st_gno rfl rfl ?_
       refine st_gno rfl rfl ?_
       refine st_gno rfl rfl ?_
       refine st_gno rfl rfl ?_
       refine st_gno rfl rfl ?_
       refine st_val (ro_pickT (v := .bool _) rfl rfl) ?_
       refine st_nil ?_
       refine nx_then ?_
       refine cd_condT rfl ?_
       refine cd_seq ?_
       refine cd_region ?_
       refine st_val (ro_assign (v := .slice _ _ _) rfl) ?_
       refine st_val (ro_assign (v := .bool _) rfl) ?_
       refine st_nil ?_
       refine nx_then ?_
       refine cd_ret ?_
       refine rt_then ?_
       refine res2 (v := .slice _ _ _) (v' := .bool _) rfl rfl rfl ?_
       exact ⟨⟨none, [], 0, false, rfl, ⟨fun h => (by cases h), fun h => False.elim (by obtain ⟨g1, g2, g3, g4, g5, g6⟩ := h; first | omega | (simp only [Int.toNat_natCast] at g5; omega))⟩, fun h => False.elim (by obtain ⟨g1, g2, g3, g4, g5, g6⟩ := h; first | omega | (simp only [Int.toNat_natCast] at g5; omega))⟩, From.rfl_⟩
  · (try first | replace Q1 := bn_t Q1 | replace Q1 := bn_f Q1)
    (try first | replace Q1 := bx_t Q1 | replace Q1 := bx_f Q1 | replace Q1 := be_t Q1 | replace Q1 := be_f Q1 | replace Q1 := of_decide_eq_true Q1 | replace Q1 := of_decide_eq_false Q1)
    first
     | (exfalso; first | omega | contradiction | (cases Q1; done))
     | skip
       refine st_unguard rfl ?_
       refine st_val (ro_move (v := .int _ _) rfl) ?_
       refine st_unguard rfl ?_
       refine st_val (ro_gtr rfl rfl) ?_
       refine st_val (ro_pickF (v := .bool _) rfl rfl) ?_
       refine st_val (ro_move (v := .bool _) rfl) ?_
       refine st_split (t := 18) rfl (fun Q2 => ?_) (fun Q2 => ?_)
       · (try first | replace Q2 := bn_t Q2 | replace Q2 := bn_f Q2)
         (try first | replace Q2 := bx_t Q2 | replace Q2 := bx_f Q2 | replace Q2 := be_t Q2 | replace Q2 := be_f Q2 | replace Q2 := of_decide_eq_true Q2 | replace Q2 := of_decide_eq_false Q2)
         first
          | (exfalso; first | omega | contradiction | (cases Q2; done))
          | skip
            refine st_gno rfl rfl ?_
            refine st_gno rfl rfl ?_
            refine st_val (ro_pickT (v := .bool _) rfl rfl) ?_
            refine st_val (ro_move (v := .bool _) rfl) ?_
            refine st_gno rfl rfl ?_
            refine st_gno rfl rfl ?_
            refine st_val (ro_pickT (v := .bool _) rfl rfl) ?_
            refine st_val (ro_move (v := .bool _) rfl) ?_
            refine st_gno rfl rfl ?_
            refine st_gno rfl rfl ?_
            refine st_gno rfl rfl ?_
            refine st_gno rfl rfl ?_
            refine st_gno rfl rfl ?_
            refine st_gno rfl rfl ?_
            refine st_gno rfl rfl ?_
            refine st_gno rfl rfl ?_
            refine st_val (ro_pickT (v := .bool _) rfl rfl) ?_
            refine st_nil ?_
            refine nx_then ?_
            refine cd_condT rfl ?_
            refine cd_seq ?_
            refine cd_region ?_
            refine st_val (ro_assign (v := .slice _ _ _) rfl) ?_
            refine st_val (ro_assign (v := .bool _) rfl) ?_
            refine st_nil ?_
            refine nx_then ?_
            refine cd_ret ?_
            refine rt_then ?_
            refine res2 (v := .slice _ _ _) (v' := .bool _) rfl rfl rfl ?_
            exact ⟨⟨none, [], 0, false, rfl, ⟨fun h => (by cases h), fun h => False.elim (by obtain ⟨g1, g2, g3, g4, g5, g6⟩ := h; first | omega | (simp only [Int.toNat_natCast] at g5; omega))⟩, fun h => False.elim (by obtain ⟨g1, g2, g3, g4, g5, g6⟩ := h; first | omega | (simp only [Int.toNat_natCast] at g5; omega))⟩, From.rfl_⟩
       · (try first | replace Q2 := bn_t Q2 | replace Q2 := bn_f Q2)
         (try first | replace Q2 := bx_t Q2 | replace Q2 := bx_f Q2 | replace Q2 := be_t Q2 | replace Q2 := be_f Q2 | replace Q2 := of_decide_eq_true Q2 | replace Q2 := of_decide_eq_false Q2)
         first
          | (exfalso; first | omega | contradiction | (cases Q2; done))
          | skip
            refine st_unguard rfl ?_
            refine st_val (ro_move (v := .int _ _) rfl) ?_
            refine st_unguard rfl ?_
            refine st_val (ro_lss rfl rfl) ?_
            refine st_val (ro_pickF (v := .bool _) rfl rfl) ?_
            refine st_val (ro_move (v := .bool _) rfl) ?_
            refine st_split (t := 22) rfl (fun Q3 => ?_) (fun Q3 => ?_)
            · (try first | replace Q3 := bn_t Q3 | replace Q3 := bn_f Q3)
              (try first | replace Q3 := bx_t Q3 | replace Q3 := bx_f Q3 | replace Q3 := be_t Q3 | replace Q3 := be_f Q3 | replace Q3 := of_decide_eq_true Q3 | replace Q3 := of_decide_eq_false Q3)
              first
               | (exfalso; first | omega | contradiction | (cases Q3; done))
               | skip
                 refine st_gno rfl rfl ?_
                 refine st_gno rfl rfl ?_
                 refine st_val (ro_pickT (v := .bool _) rfl rfl) ?_
                 refine st_val (ro_move (v := .bool _) rfl) ?_
                 refine st_gno rfl rfl ?_
                 refine st_gno rfl rfl ?_
                 refine st_gno rfl rfl ?_
                 refine st_gno rfl rfl ?_
                 refine st_gno rfl rfl ?_
                 refine st_gno rfl rfl ?_
                 refine st_gno rfl rfl ?_
                 refine st_gno rfl rfl ?_
                 refine st_val (ro_pickT (v := .bool _) rfl rfl) ?_
                 refine st_nil ?_
                 refine nx_then ?_
                 refine cd_condT rfl ?_
                 refine cd_seq ?_
                 refine cd_region ?_
                 refine st_val (ro_assign (v := .slice _ _ _) rfl) ?_
                 refine st_val (ro_assign (v := .bool _) rfl) ?_
                 refine st_nil ?_
                 refine nx_then ?_
                 refine cd_ret ?_
                 refine rt_then ?_
                 refine res2 (v := .slice _ _ _) (v' := .bool _) rfl rfl rfl ?_
                 exact ⟨⟨none, [], 0, false, rfl, ⟨fun h => (by cases h), fun h => False.elim (by obtain ⟨g1, g2, g3, g4, g5, g6⟩ := h; first | omega | (simp only [Int.toNat_natCast] at g5; omega))⟩, fun h => False.elim (by obtain ⟨g1, g2, g3, g4, g5, g6⟩ := h; first | omega | (simp only [Int.toNat_natCast] at g5; omega))⟩, From.rfl_⟩
            · (try first | replace Q3 := bn_t Q3 | replace Q3 := bn_f Q3)
              (try first | replace Q3 := bx_t Q3 | replace Q3 := bx_f Q3 | replace Q3 := be_t Q3 | replace Q3 := be_f Q3 | replace Q3 := of_decide_eq_true Q3 | replace Q3 := of_decide_eq_false Q3)
              first
               | (exfalso; first | omega | contradiction | (cases Q3; done))
               | skip
                 refine st_unguard rfl ?_
                 refine st_val (ro_move (v := .int _ _) rfl) ?_
                 refine st_unguard rfl ?_
                 refine st_val (ro_gtr rfl rfl) ?_
                 refine st_val (ro_pickF (v := .bool _) rfl rfl) ?_
                 refine st_val (ro_move (v := .bool _) rfl) ?_
                 refine st_split (t := 26) rfl (fun Q4 => ?_) (fun Q4 => ?_)
                 · (try first | replace Q4 := bn_t Q4 | replace Q4 := bn_f Q4)
                   (try first | replace Q4 := bx_t Q4 | replace Q4 := bx_f Q4 | replace Q4 := be_t Q4 | replace Q4 := be_f Q4 | replace Q4 := of_decide_eq_true Q4 | replace Q4 := of_decide_eq_false Q4)
                   first
                    | (exfalso; first | omega | contradiction | (cases Q4; done))
                    | skip
                      refine st_gno rfl rfl ?_
                      refine st_gno rfl rfl ?_
                      refine st_gno rfl rfl ?_
                      refine st_gno rfl rfl ?_
                      refine st_gno rfl rfl ?_
                      refine st_gno rfl rfl ?_
                      refine st_gno rfl rfl ?_
                      refine st_gno rfl rfl ?_
                      refine st_val (ro_pickT (v := .bool _) rfl rfl) ?_
                      refine st_nil ?_
                      refine nx_then ?_
                      refine cd_condT rfl ?_
                      refine cd_seq ?_
                      refine cd_region ?_
                      refine st_val (ro_assign (v := .slice _ _ _) rfl) ?_
                      refine st_val (ro_assign (v := .bool _) rfl) ?_
                      refine st_nil ?_
                      refine nx_then ?_
                      refine cd_ret ?_
                      refine rt_then ?_
                      refine res2 (v := .slice _ _ _) (v' := .bool _) rfl rfl rfl ?_
                      exact ⟨⟨none, [], 0, false, rfl, ⟨fun h => (by cases h), fun h => False.elim (by obtain ⟨g1, g2, g3, g4, g5, g6⟩ := h; first | omega | (simp only [Int.toNat_natCast] at g5; omega))⟩, fun h => False.elim (by obtain ⟨g1, g2, g3, g4, g5, g6⟩ := h; first | omega | (simp only [Int.toNat_natCast] at g5; omega))⟩, From.rfl_⟩
                 · (try first | replace Q4 := bn_t Q4 | replace Q4 := bn_f Q4)
                   (try first | replace Q4 := bx_t Q4 | replace Q4 := bx_f Q4 | replace Q4 := be_t Q4 | replace Q4 := be_f Q4 | replace Q4 := of_decide_eq_true Q4 | replace Q4 := of_decide_eq_false Q4)
                   obtain ⟨W1, rfl⟩ : ∃ W1 : Nat, W = W1 := ⟨W.toNat, by omega⟩
                   obtain ⟨n1, rfl⟩ : ∃ n1 : Nat, n = n1 := ⟨n.toNat, by omega⟩
                   have hW : W1 ≤ 64 := by omega
                   have hn : n1 ≤ 131072 := by omega
                   have hcm := Nat.mul_comm W1 n1
                   have hp := (wordCount_small hW hn).1
                   have hc := byteCnt_ge W1 n1
                   have hmm : (W1 * n1 + 7) / 8 = byteCnt W1 n1 := rfl
                   first
                    | (exfalso; first | omega | contradiction | (cases Q4; done))
                    | skip
                      refine st_unguard rfl ?_
                      refine st_val (ro_move (v := .slice _ _ _) rfl) ?_
                      refine st_unguard rfl ?_
                      refine st_val (ro_len IntsParse_l24 rfl) ?_
                      refine st_unguard rfl ?_
                      refine st_val (ro_move (v := .int _ _) rfl) ?_
                      refine st_unguard rfl ?_
                      refine st_val (ro_move (v := .int _ _) rfl) ?_
                      refine st_unguard rfl ?_
                      refine st_val (ro_mulN rfl rfl (by omega)) ?_
                      refine st_unguard rfl ?_
                      refine st_val (ro_addN (b := 7) rfl rfl (by omega)) ?_
                      refine st_unguard rfl ?_
                      refine st_val (ro_quoN (b := 8) rfl rfl (by omega)) ?_
                      refine st_unguard rfl ?_
                      refine st_val (ro_neq rfl rfl) ?_
                      refine st_val (ro_pickF (v := .bool _) rfl rfl) ?_
                      refine st_nil ?_
                      refine nx_then ?_
                      refine cd_cond rfl (fun Q5 => ?_) (fun Q5 => ?_)
                      · (try first | replace Q5 := bn_t Q5 | replace Q5 := bn_f Q5)
                        (try first | replace Q5 := bx_t Q5 | replace Q5 := bx_f Q5 | replace Q5 := be_t Q5 | replace Q5 := be_f Q5 | replace Q5 := of_decide_eq_true Q5 | replace Q5 := of_decide_eq_false Q5)
                        first
                         | (exfalso; first | omega | contradiction | (cases Q5; done))
                         | skip
                           refine cd_seq ?_
                           refine cd_region ?_
                           refine st_val (ro_assign (v := .slice _ _ _) rfl) ?_
                           refine st_val (ro_assign (v := .bool _) rfl) ?_
                           refine st_nil ?_
                           refine nx_then ?_
                           refine cd_ret ?_
                           refine rt_then ?_
                           refine res2 (v := .slice _ _ _) (v' := .bool _) rfl rfl rfl ?_
                           exact ⟨⟨none, [], 0, false, rfl, ⟨fun h => (by cases h), fun h => False.elim (by obtain ⟨g1, g2, g3, g4, g5, g6⟩ := h; first | omega | (simp only [Int.toNat_natCast] at g5; omega))⟩, fun h => False.elim (by obtain ⟨g1, g2, g3, g4, g5, g6⟩ := h; first | omega | (simp only [Int.toNat_natCast] at g5; omega))⟩, From.rfl_⟩
                      · (try first | replace Q5 := bn_t Q5 | replace Q5 := bn_f Q5)
                        (try first | replace Q5 := bx_t Q5 | replace Q5 := bx_f Q5 | replace Q5 := be_t Q5 | replace Q5 := be_f Q5 | replace Q5 := of_decide_eq_true Q5 | replace Q5 := of_decide_eq_false Q5)
                        first
                         | (exfalso; first | omega | contradiction | (cases Q5; done))
                         | skip
                           refine cd_skip ?_
                           refine nx_then ?_
                           refine cd_seq ?_
                           refine cd_region ?_
                           refine st_val (ro_move (v := .int _ _) rfl) ?_
                           refine st_make IntsParse_m23 rfl rfl rfl (by omega) (by omega) ?_
                           intro b37 w6 E37 hb37 hk37
                           have hge : w.heap.size ≤ b37 := by rw [hb37]; exact (From.rfl_).size
                           refine st_val (ro_assign (v := .slice _ _ _) rfl) ?_
                           refine st_nil ?_
                           refine nx_then ?_
                           refine cd_seq ?_
                           refine cd_seq ?_
                           refine cd_region ?_
                           refine st_val (ro_assign (v := .int _ _) rfl) ?_
                           refine st_nil ?_
                           refine nx_then ?_
                           refine cd_block ?_
                           refine cd_loop (G := Nat × List Nat) [10, 11, 38, 39, 40, 41, 42, 43, 44, 45, 46, 47, 48, 49, 50, 51, 52, 53, 54, 55, 56, 57, 58, 59, 60, 61, 62, 63, 64, 65, 66, 67, 68, 69, 70, 71, 72] (fun (i, _) => [(9, .int .i64 (i : Nat))]) (fun (i, ls) w' => i ≤ n1 ∧ PNp ls W1 n1 b (i * W1) ∧ Blk w' b37 47 (ls.map uV).toArray ∧ From w w') (fun (i, _) => n1 - i) ((0, List.replicate n1 0)) ⟨rfl, trivial⟩ ?_ ?_
                           · refine ⟨by omega, ?_, ?_, (From.rfl_.next E37)⟩
                             · rw [Nat.zero_mul]; exact pnp_zero _ _ _
                             · rw [List.map_replicate]; exact hk37
                           rintro ⟨i, ls⟩ ρ7 w7 ⟨hi, hpn, hblk, hB⟩
                           refine cd_seq ?_
                           refine cd_seq ?_
                           refine cd_region ?_
                           refine st_val (ro_move (v := .int _ _) rfl) ?_
                           refine st_val (ro_move (v := .int _ _) rfl) ?_
                           refine st_val (ro_lss rfl rfl) ?_
                           refine st_nil ?_
                           refine nx_then ?_
                           refine cd_cond rfl (fun Q8 => ?_) (fun Q8 => ?_)
                           · (try first | replace Q8 := bn_t Q8 | replace Q8 := bn_f Q8)
                             (try first | replace Q8 := bx_t Q8 | replace Q8 := bx_f Q8 | replace Q8 := be_t Q8 | replace Q8 := be_f Q8 | replace Q8 := of_decide_eq_true Q8 | replace Q8 := of_decide_eq_false Q8)
                             have hiw := one_le_mul (W := W1) (show i < n1 by omega)
                             first
                              | (exfalso; first | omega | contradiction | (cases Q8; done))
                              | skip
                                refine cd_skip ?_
                                refine nx_then ?_
                                refine cd_seq ?_
                                refine cd_block ?_
                                refine cd_seq ?_
                                refine cd_region ?_
                                refine st_val (ro_assign (v := .int _ _) rfl) ?_
                                refine st_nil ?_
                                refine nx_then ?_
                                refine cd_block ?_
                                refine cd_loop (G := Nat × List Nat) [11, 43, 44, 45, 46, 47, 48, 49, 50, 51, 52, 53, 54, 55, 56, 57, 58, 59, 60, 61, 62, 63, 64, 65, 66, 67, 68, 69, 70, 71, 72] (fun (k, _) => [(10, .int .i64 (k : Nat))]) (fun (k, ls) w' => k ≤ W1 ∧ PNp ls W1 n1 b (i * W1 + k) ∧ Blk w' b37 47 (ls.map uV).toArray ∧ From w w') (fun (k, _) => W1 - k) ((0, ls)) ⟨rfl, trivial⟩ ?_ ?_
                                · exact ⟨by omega, hpn, hblk, hB⟩
                                rintro ⟨k, ls1⟩ ρ9 w9 ⟨hk, hpn1, hblk1, hB⟩
                                refine cd_seq ?_
                                refine cd_seq ?_
                                refine cd_region ?_
                                refine st_val (ro_move (v := .int _ _) rfl) ?_
                                refine st_val (ro_move (v := .int _ _) rfl) ?_
                                refine st_val (ro_lss rfl rfl) ?_
                                refine st_nil ?_
                                refine nx_then ?_
                                refine cd_cond rfl (fun Q10 => ?_) (fun Q10 => ?_)
                                · (try first | replace Q10 := bn_t Q10 | replace Q10 := bn_f Q10)
                                  (try first | replace Q10 := bx_t Q10 | replace Q10 := bx_f Q10 | replace Q10 := be_t Q10 | replace Q10 := be_f Q10 | replace Q10 := of_decide_eq_true Q10 | replace Q10 := of_decide_eq_false Q10)
                                  obtain ⟨ba, oa, rfl, ca⟩ := hr (by omega)
                                  have h57 : (i * W1 + k) / 8 < b.length := by omega
                                  first
                                   | (exfalso; first | omega | contradiction | (cases Q10; done))
                                   | skip
                                     refine cd_skip ?_
                                     refine nx_then ?_
                                     refine cd_cut (G := List Nat) [11, 48, 49, 50, 51, 52, 53, 54, 55, 56, 57, 58, 59, 60, 61, 62, 63, 64, 65, 66, 67, 68, 69, 70, 71, 72] (fun _ => []) (fun ls2 w' => PNp ls2 W1 n1 b (i * W1 + (k + 1)) ∧ Blk w' b37 47 (ls2.map uV).toArray ∧ From w w') ?_ ?_
                                     · refine cd_block ?_
                                       refine cd_seq ?_
                                       refine cd_region ?_
                                       refine st_val (ro_move (v := .int _ _) rfl) ?_
                                       refine st_val (ro_move (v := .int _ _) rfl) ?_
                                       refine st_val (ro_mulN rfl rfl (by omega)) ?_
                                       refine st_val (ro_move (v := .int _ _) rfl) ?_
                                       refine st_val (ro_addN rfl rfl (by omega)) ?_
                                       refine st_val (ro_assign (v := .int _ _) rfl) ?_
                                       refine st_nil ?_
                                       refine nx_then ?_
                                       refine cd_seq ?_
                                       refine cd_region ?_
                                       refine st_val (ro_move (v := .slice _ _ _) rfl) ?_
                                       refine st_val (ro_move (v := .int _ _) rfl) ?_
                                       refine st_val (ro_quoN (b := 8) rfl rfl (by omega)) ?_
                                       refine st_val (ro_indexAddr1 IntsParse_e24 rfl rfl (by omega)) ?_
                                       have h57 : (i * W1 + k) / 8 < b.length := by omega
                                       refine st_val (ro_load IntsParse_g5 rfl (by exact cellF hB (ca _ h57))) ?_
                                       refine st_val (ro_move (v := .int _ _) rfl) ?_
                                       refine st_val (ro_remN (b := 8) rfl rfl (by decide)) ?_
                                       refine st_val (ro_shrN rfl rfl (by show (i * W1 + k) % 8 ≤ 8; omega)) ?_
                                       refine st_val (ro_andN8 (b := 1) rfl rfl (by refine ⟨Nat.lt_of_le_of_lt (Nat.div_le_self _ _) (h8 _ (List.getElem_mem h57)), by decide⟩)) ?_
                                       refine st_val (ro_eql rfl rfl) ?_
                                       refine st_nil ?_
                                       refine nx_then ?_
                                       refine cd_cond rfl (fun Q11 => ?_) (fun Q11 => ?_)
                                       · (try first | replace Q11 := bn_t Q11 | replace Q11 := bn_f Q11)
                                         (try first | replace Q11 := bx_t Q11 | replace Q11 := bx_f Q11 | replace Q11 := be_t Q11 | replace Q11 := be_f Q11 | replace Q11 := of_decide_eq_true Q11 | replace Q11 := of_decide_eq_false Q11)
                                         have hbit : bitAt 8 b (i * W1 + k) = true := by
                                           rw [bitAt_in h57]
                                           have := shr_and_one b[(i * W1 + k) / 8] ((i * W1 + k) % 8)
                                           cases hb : b[(i * W1 + k) / 8].testBit ((i * W1 + k) % 8) with
                                           | true => rfl
                                           | false => rw [hb, if_neg (by simp)] at this; omega
                                         have hil : i < ls1.length := by rw [hpn1.1]; omega
                                         first
                                          | (exfalso; first | omega | contradiction | (cases Q11; done))
                                          | skip
                                            apply cd_drawn 10 [(63, eqp _), (64, eqp _), (65, eqp _), (66, eqp _), (67, eqp _), (68, eqp _), (69, eqp _), (70, eqp _), (71, eqp _), (72, eqp _)] (by kernel_rfl) (by kernel_rfl) ⟨eqp_mono _, eqp_mono _, eqp_mono _, eqp_mono _, eqp_mono _, eqp_mono _, eqp_mono _, eqp_mono _, eqp_mono _, eqp_mono _, trivial⟩
                                            case hop =>
                                             refine ⟨?_, ?_⟩
                                             · intro w13 D13
                                               show OpOK _ _ _ _ _ _ _
                                               exact ok_pure (ro_move (v := .slice _ _ _) rfl) rfl
                                             refine ⟨?_, ?_⟩
                                             · intro w14 D14
                                               show OpOK _ _ _ _ _ _ _
                                               exact ok_pure (ro_move (v := .int _ _) rfl) rfl
                                             refine ⟨?_, ?_⟩
                                             · intro w15 D15
                                               show OpOK _ _ _ _ _ _ _
                                               exact ok_pure (ro_move (v := .slice _ _ _) rfl) rfl
                                             refine ⟨?_, ?_⟩
                                             · intro w16 D16
                                               show OpOK _ _ _ _ _ _ _
                                               exact ok_pure (ro_move (v := .int _ _) rfl) rfl
                                             refine ⟨?_, ?_⟩
                                             · intro w17 D17
                                               rintro _ rfl _ rfl
                                               show OpOK _ _ _ _ _ _ _
                                               exact ok_pure (ro_indexAddr0 IntsParse_e23 rfl rfl (by omega)) rfl
                                             refine ⟨?_, ?_⟩
                                             · intro w18 D18
                                               rintro _ rfl
                                               show OpOK _ _ _ _ _ _ _
                                               exact ok_pure (ro_load IntsParse_g47 rfl (by exact rd_map (hblk1.from_ D18) i hil)) rfl
                                             refine ⟨?_, ?_⟩
                                             · intro w19 D19
                                               show OpOK _ _ _ _ _ _ _
                                               exact ok_pure (ro_move (v := .int _ _) rfl) rfl
                                             refine ⟨?_, ?_⟩
                                             · intro w20 D20
                                               rintro _ rfl
                                               show OpOK _ _ _ _ _ _ _
                                               exact ok_pure (ro_shlN (a := 1) rfl rfl (by omega)) rfl
                                             refine ⟨?_, ?_⟩
                                             · intro w21 D21
                                               rintro _ rfl _ rfl
                                               show OpOK _ _ _ _ _ _ _
                                               exact ok_pure (ro_orN rfl rfl (by exact ⟨Nat.lt_of_lt_of_le (pnp_lt hpn1 _ (List.getElem_mem _)) (Nat.pow_le_pow_right (by decide) hW), Nat.mod_lt _ (by decide)⟩)) rfl
                                             refine ⟨?_, ?_⟩
                                             · intro w22 D22
                                               rintro _ rfl _ rfl
                                               show OpOK _ _ _ _ _ _ _
                                               exact ok_pure (ro_indexAddr0 IntsParse_e23 rfl rfl (by omega)) rfl
                                             exact trivial
                                            case hend =>
                                             intro w23 D23
                                             rintro _ rfl _ rfl _ rfl _ rfl _ rfl _ rfl _ rfl _ rfl _ rfl _ rfl
                                             show St _ _ _ _ _ _ _
                                             refine st_put (v := .int _ _) IntsParse_z47 rfl rfl rfl (hblk1.from_ D23) (by simp; omega) ?_
                                             intro w24 O12 P12
                                             refine st_nil ?_
                                             refine nx_block ?_
                                             refine nx_cut (ls1.set i (ls1[i] ||| 1 * 2 ^ k % 2 ^ 64)) trivial (by (iterate 26 refine agr_cons rfl ?_); exact agr_rfl) ?_
                                             exact ⟨pnp_set hpn1 (by omega) hW hil hbit, by rw [← map_set_arr]; exact P12, ((hB.next D23).only O12 (hge))⟩
                                       · (try first | replace Q11 := bn_t Q11 | replace Q11 := bn_f Q11)
                                         (try first | replace Q11 := bx_t Q11 | replace Q11 := bx_f Q11 | replace Q11 := be_t Q11 | replace Q11 := be_f Q11 | replace Q11 := of_decide_eq_true Q11 | replace Q11 := of_decide_eq_false Q11)
                                         have hbit : bitAt 8 b (i * W1 + k) = false := by
                                           rw [bitAt_in h57]
                                           have := shr_and_one b[(i * W1 + k) / 8] ((i * W1 + k) % 8)
                                           cases hb : b[(i * W1 + k) / 8].testBit ((i * W1 + k) % 8) with
                                           | false => rfl
                                           | true => rw [hb, if_pos rfl] at this; omega
                                         first
                                          | (exfalso; first | omega | contradiction | (cases Q11; done))
                                          | skip
                                            refine cd_skip ?_
                                            refine nx_block ?_
                                            refine nx_cut (ls1) trivial (by (iterate 16 refine agr_cons rfl ?_); exact agr_rfl) ?_
                                            exact ⟨pnp_skip hpn1 (by omega) hbit, hblk1, hB⟩
                                     · rintro ls2 ρ25 w25 ⟨hpn2, hblk2, hB⟩
                                       refine cd_region ?_
                                       refine st_val (ro_move (v := .int _ _) rfl) ?_
                                       refine st_val (ro_addN (b := 1) rfl rfl (by omega)) ?_
                                       refine st_val (ro_assign (v := .int _ _) rfl) ?_
                                       refine st_nil ?_
                                       refine nx_cut ((k + 1, ls2)) ⟨(by first | rfl | (refine int_eq ?_; omega)), trivial⟩ (by (iterate 64 refine agr_cons rfl ?_); exact agr_rfl) ⟨?_, ?_⟩
                                       · exact ⟨by omega, hpn2, hblk2, hB⟩
                                       · show _ - _ < _ - _; omega
                                · (try first | replace Q10 := bn_t Q10 | replace Q10 := bn_f Q10)
                                  (try first | replace Q10 := bx_t Q10 | replace Q10 := bx_f Q10 | replace Q10 := be_t Q10 | replace Q10 := be_f Q10 | replace Q10 := of_decide_eq_true Q10 | replace Q10 := of_decide_eq_false Q10)
                                  first
                                   | (exfalso; first | omega | contradiction | (cases Q10; done))
                                   | skip
                                     refine cd_exit ?_
                                     refine ex_then ?_
                                     refine ex_then ?_
                                     refine ex_block ?_
                                     refine nx_block ?_
                                     refine nx_then ?_
                                     refine cd_region ?_
                                     refine st_val (ro_move (v := .int _ _) rfl) ?_
                                     refine st_val (ro_addN (b := 1) rfl rfl (by omega)) ?_
                                     refine st_val (ro_assign (v := .int _ _) rfl) ?_
                                     refine st_nil ?_
                                     refine nx_cut ((i + 1, ls1)) ⟨(by first | rfl | (refine int_eq ?_; omega)), trivial⟩ (by (iterate 80 refine agr_cons rfl ?_); exact agr_rfl) ⟨?_, ?_⟩
                                     · refine ⟨by omega, ?_, hblk1, hB⟩
                                       have : k = W1 := by omega
                                       subst this
                                       rw [Nat.succ_mul]; exact hpn1
                                     · show _ - _ < _ - _; omega
                           · (try first | replace Q8 := bn_t Q8 | replace Q8 := bn_f Q8)
                             (try first | replace Q8 := bx_t Q8 | replace Q8 := bx_f Q8 | replace Q8 := be_t Q8 | replace Q8 := be_f Q8 | replace Q8 := of_decide_eq_true Q8 | replace Q8 := of_decide_eq_false Q8)
                             first
                              | (exfalso; first | omega | contradiction | (cases Q8; done))
                              | skip
                                refine cd_exit ?_
                                refine ex_then ?_
                                refine ex_then ?_
                                refine ex_block ?_
                                refine nx_then ?_
                                refine cd_seq ?_
                                refine cd_region ?_
                                refine st_val (ro_move (v := .slice _ _ _) rfl) ?_
                                refine st_val (ro_move (v := .int _ _) rfl) ?_
                                refine st_val (ro_move (v := .slice _ _ _) rfl) ?_
                                obtain rfl : ls.length = n1 := hpn.1
                                refine st_call IntsParse_k16 (refBytes_any W1 (some ⟨b37, 0, none⟩) ls.length ls _ (by exact RowOf.blk hblk (fun i hi => by simp [hi])) hW hn (fun x hx => Nat.lt_of_lt_of_le (pnp_lt hpn x hx) (Nat.pow_le_pow_right (by decide) hW))) ?_
                                rintro v76 w26 ⟨g76, bs76, rfl, hg76, hk76, hbc76, hpb76, E76⟩
                                have hbl76 : bs76.length = b.length := by omega
                                refine st_val (ro_move (v := .slice _ _ _) rfl) ?_
                                refine st_call IntsParse_k15 (eqBytes_any (some ⟨g76, 0, none⟩) A bs76.length c bs76 b _ (RowOf.blk hk76 (fun i hi => by simp [hi])) (hr.from_ (hB.next E76)) (by omega)) ?_
                                rintro v78 w27 ⟨rfl, E78⟩
                                refine st_val (ro_assign (v := .slice _ _ _) rfl) ?_
                                refine st_val (ro_assign (v := .bool _) rfl) ?_
                                refine st_nil ?_
                                refine nx_then ?_
                                refine cd_ret ?_
                                refine res2 (v := .slice _ _ _) (v' := .bool _) rfl rfl rfl ?_
                                obtain rfl : i = ls.length := by omega
                                have hbits := pnp_bits hpn
                                have hsp := pbp_spare hpb76 hbl76 hbits h8
                                have hgood : bs76 = b ↔ GoodP W1 ls.length b := ⟨fun e => ⟨by omega, by omega, by omega, by omega, by simp only [Int.toNat_natCast]; omega, hsp.1 e⟩, fun g => hsp.2 g.2.2.2.2.2⟩
                                refine ⟨⟨some ⟨b37, 0, none⟩, ls, ls.length, decide (bs76 = b), rfl, by rw [decide_eq_true_eq]; exact hgood, fun _ => ⟨(RowOf.blk (hblk.from_ (E76.next E78)) (fun i hi => by simp [hi])), hpn.1, pnp_lt hpn, hbits⟩⟩, ((hB.next E76).next E78)⟩
end Go.Proofs.Ytgnmmifolhoaeaa
