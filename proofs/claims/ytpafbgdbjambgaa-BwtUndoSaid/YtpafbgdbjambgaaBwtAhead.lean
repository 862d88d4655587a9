/- bwt: valid, symbol, ahead. -/
import Derived.Test.YtpafbgdbjambgaaSufHelp
import Derived.Test.YtpafbgdbjambgaaSbB
namespace Go.Proofs.Ytpafbgdbjambgaa
open Go.RowKit
open Go.ChangeShapes Go.WideShapes Go.ChangeAt
open Go.Proofs.Ytpafbgdbjambgaa.SA
theorem BwtAhead_e24 : elemQ Try.prog 24 = some (3, 1) := by kernel_rfl
theorem BwtAhead_m24 : makeQ Try.prog 24 = some (3, 8, (.int .i64 0)) := by kernel_rfl
theorem BwtAhead_q24 : litQ Try.prog 24 = some (3, 1, 8, (.int .i64 0)) := by kernel_rfl
theorem BwtAhead_a47 : arrQ Try.prog 47 = some (513, 1) := by kernel_rfl
theorem BwtAhead_za47 : zeroQ Try.prog 47 = some (.agg (List.replicate 513 (Value.int .i64 0)).toArray) := by kernel_rfl
theorem BwtAhead_zc : (Value.agg (List.replicate 513 (Value.int .i64 0)).toArray).cells = (List.replicate 513 (Value.int .i64 0)).toArray := by kernel_rfl
theorem BwtAhead_l24 : (elemQ Try.prog 24).isSome = true := by kernel_rfl
theorem BwtAhead_g3 : aggQ Try.prog 3 = some false := by kernel_rfl
theorem BwtAhead_z3 : sizeQ Try.prog 3 = some 1 := by kernel_rfl
theorem BwtAhead_k23 : callable Try.prog 23 = true := by kernel_rfl
theorem ro_arr {P : Program} {ρ : Operand → Value} {w : World} {t : TypeId} {x y : Operand} {m b i : Nat} {k : IntKind} (ht : arrQ P t = some (m, 1)) (hx : ρ x = .pointer (some ⟨b, 0, none⟩)) (hy : ρ y = .int k (i : Nat)) (h : i < m) : RO P ρ (.indexAddr t x y) w (.pointer (some ⟨b, i, none⟩)) w := by
  have := ro_indexAddrA (P := P) (ρ := ρ) (w := w) ht hx hy ⟨by omega, by omega⟩
  simpa using this
theorem ro_arr0 {P : Program} {ρ : Operand → Value} {w : World} {t : TypeId} {x y : Operand} {m b : Nat} {k : IntKind} (ht : arrQ P t = some (m, 1)) (hx : ρ x = .pointer (some ⟨b, 0, none⟩)) (hy : ρ y = .int k 0) (h : 0 < m) : RO P ρ (.indexAddr t x y) w (.pointer (some ⟨b, 0, none⟩)) w := ro_arr (i := 0) ht hx hy h
theorem cI_get {B : List Nat} {i : Nat} (h : i < B.length) : (cI B)[i]? = some ((B.getD i 0 : Nat) : Int) := by
  simp [cI, List.getD_eq_getElem?_getD, List.getElem?_eq_getElem h]
theorem symb_get {B : List Nat} (hx : ∀ x ∈ B, x < 512) (i : Nat) : B.getD i 0 < 512 := by
  rw [List.getD_eq_getElem?_getD]
  rcases e : B[i]? with _ | y
  · simp
  · exact hx y (List.mem_of_getElem? e)
set_option maxRecDepth 100000 in
set_option maxHeartbeats 1000000 in
theorem valid_rt (at_ : Int) (A : Option Addr) (c n : Nat) (xs : List Int) (w : World) (hr : RowOf iV w A xs) (hn : n = xs.length) (hl : n ≤ 1000000) :
    Rt Try.prog 21 [.int .i64 at_, .slice A n c] w (fun v w' => v = .bool (decide (0 ≤ at_ ∧ at_ ≤ n ∧ n ≤ 131072) && xs.all (okS 512)) ∧ From w w') := by
  refine enter (n := 33) Try.func21 rfl rfl rfl ?_
  refine cd_seq ?_
  refine cd_region ?_
  refine st_val (ro_assign (v := .bool _) rfl) ?_
  refine st_nil ?_
  refine nx_then ?_
  refine cd_seq ?_
  refine cd_seq ?_
  refine cd_region ?_
  refine st_val (ro_move (v := .int _ _) rfl) ?_
  refine st_val (ro_lss rfl rfl) ?_
  refine st_val (ro_move (v := .bool _) rfl) ?_
  refine st_split (t := 9) rfl (fun Q1 => ?_) (fun Q1 => ?_)
  · (try with_reducible first | replace Q1 := of_decide_eq_true Q1 | replace Q1 := of_decide_eq_false Q1 | replace Q1 := bn_t Q1 | replace Q1 := bn_f Q1)
    (try with_reducible first | replace Q1 := of_decide_eq_true Q1 | replace Q1 := of_decide_eq_false Q1 | replace Q1 := bx_t Q1 | replace Q1 := bx_f Q1 | replace Q1 := be_t Q1 | replace Q1 := be_f Q1)
    first
     | (exfalso; first | omega | contradiction | (cases Q1; done))
     | skip
       refine st_gno rfl rfl ?_
       refine st_gno rfl rfl ?_
       refine st_gno rfl rfl ?_
       refine st_gno rfl rfl ?_
       refine st_val (ro_pickT (v := .bool _) rfl rfl) ?_
       refine st_val (ro_move (v := .bool _) rfl) ?_
       refine st_gno rfl rfl ?_
       refine st_gno rfl rfl ?_
       refine st_gno rfl rfl ?_
       refine st_val (ro_pickT (v := .bool _) rfl rfl) ?_
       refine st_nil ?_
       refine nx_then ?_
       refine cd_condT rfl ?_
       refine cd_seq ?_
       refine cd_region ?_
       refine st_val (ro_assign (v := .bool _) rfl) ?_
       refine st_nil ?_
       refine nx_then ?_
       refine cd_ret ?_
       refine rt_then ?_
       refine res1 (v := .bool _) rfl rfl ?_
       refine ⟨congrArg Value.bool ?_, From.rfl_⟩
       rw [decide_eq_false (by omega)]; rfl
  · (try with_reducible first | replace Q1 := of_decide_eq_true Q1 | replace Q1 := of_decide_eq_false Q1 | replace Q1 := bn_t Q1 | replace Q1 := bn_f Q1)
    (try with_reducible first | replace Q1 := of_decide_eq_true Q1 | replace Q1 := of_decide_eq_false Q1 | replace Q1 := bx_t Q1 | replace Q1 := bx_f Q1 | replace Q1 := be_t Q1 | replace Q1 := be_f Q1)
    first
     | (exfalso; first | omega | contradiction | (cases Q1; done))
     | skip
       refine st_unguard rfl ?_
       refine st_val (ro_move (v := .int _ _) rfl) ?_
       refine st_unguard rfl ?_
       refine st_val (ro_move (v := .slice _ _ _) rfl) ?_
       refine st_unguard rfl ?_
       refine st_val (ro_len BwtAhead_l24 rfl) ?_
       refine st_unguard rfl ?_
       refine st_val (ro_gtr rfl rfl) ?_
       refine st_val (ro_pickF (v := .bool _) rfl rfl) ?_
       refine st_val (ro_move (v := .bool _) rfl) ?_
       refine st_split (t := 15) rfl (fun Q2 => ?_) (fun Q2 => ?_)
       · (try with_reducible first | replace Q2 := of_decide_eq_true Q2 | replace Q2 := of_decide_eq_false Q2 | replace Q2 := bn_t Q2 | replace Q2 := bn_f Q2)
         (try with_reducible first | replace Q2 := of_decide_eq_true Q2 | replace Q2 := of_decide_eq_false Q2 | replace Q2 := bx_t Q2 | replace Q2 := bx_f Q2 | replace Q2 := be_t Q2 | replace Q2 := be_f Q2)
         first
          | (exfalso; first | omega | contradiction | (cases Q2; done))
          | skip
            refine st_gno rfl rfl ?_
            refine st_gno rfl rfl ?_
            refine st_gno rfl rfl ?_
            refine st_val (ro_pickT (v := .bool _) rfl rfl) ?_
            refine st_nil ?_
            refine nx_then ?_
            refine cd_condT rfl ?_
            refine cd_seq ?_
            refine cd_region ?_
            refine st_val (ro_assign (v := .bool _) rfl) ?_
            refine st_nil ?_
            refine nx_then ?_
            refine cd_ret ?_
            refine rt_then ?_
            refine res1 (v := .bool _) rfl rfl ?_
            refine ⟨congrArg Value.bool ?_, From.rfl_⟩
            rw [decide_eq_false (by omega)]; rfl
       · (try with_reducible first | replace Q2 := of_decide_eq_true Q2 | replace Q2 := of_decide_eq_false Q2 | replace Q2 := bn_t Q2 | replace Q2 := bn_f Q2)
         (try with_reducible first | replace Q2 := of_decide_eq_true Q2 | replace Q2 := of_decide_eq_false Q2 | replace Q2 := bx_t Q2 | replace Q2 := bx_f Q2 | replace Q2 := be_t Q2 | replace Q2 := be_f Q2)
         first
          | (exfalso; first | omega | contradiction | (cases Q2; done))
          | skip
            refine st_unguard rfl ?_
            refine st_val (ro_move (v := .slice _ _ _) rfl) ?_
            refine st_unguard rfl ?_
            refine st_val (ro_len BwtAhead_l24 rfl) ?_
            refine st_unguard rfl ?_
            refine st_val (ro_gtr rfl rfl) ?_
            refine st_val (ro_pickF (v := .bool _) rfl rfl) ?_
            refine st_nil ?_
            refine nx_then ?_
            refine cd_cond rfl (fun Q3 => ?_) (fun Q3 => ?_)
            · (try with_reducible first | replace Q3 := of_decide_eq_true Q3 | replace Q3 := of_decide_eq_false Q3 | replace Q3 := bn_t Q3 | replace Q3 := bn_f Q3)
              (try with_reducible first | replace Q3 := of_decide_eq_true Q3 | replace Q3 := of_decide_eq_false Q3 | replace Q3 := bx_t Q3 | replace Q3 := bx_f Q3 | replace Q3 := be_t Q3 | replace Q3 := be_f Q3)
              first
               | (exfalso; first | omega | contradiction | (cases Q3; done))
               | skip
                 refine cd_seq ?_
                 refine cd_region ?_
                 refine st_val (ro_assign (v := .bool _) rfl) ?_
                 refine st_nil ?_
                 refine nx_then ?_
                 refine cd_ret ?_
                 refine rt_then ?_
                 refine res1 (v := .bool _) rfl rfl ?_
                 refine ⟨congrArg Value.bool ?_, From.rfl_⟩
                 rw [decide_eq_false (by omega)]; rfl
            (try with_reducible first | replace Q3 := of_decide_eq_true Q3 | replace Q3 := of_decide_eq_false Q3 | replace Q3 := bn_t Q3 | replace Q3 := bn_f Q3)
            (try with_reducible first | replace Q3 := of_decide_eq_true Q3 | replace Q3 := of_decide_eq_false Q3 | replace Q3 := bx_t Q3 | replace Q3 := bx_f Q3 | replace Q3 := be_t Q3 | replace Q3 := be_f Q3)
            first
             | (exfalso; first | omega | contradiction | (cases Q3; done))
             | skip
               refine cd_skip ?_
               refine nx_then ?_
               refine cd_seq ?_
               refine cd_seq ?_
               refine cd_region ?_
               refine st_val (ro_move (v := .slice _ _ _) rfl) ?_
               refine st_val (ro_len BwtAhead_l24 rfl) ?_
               refine st_val (ro_move (v := .int _ _) rfl) ?_
               refine st_nil ?_
               refine nx_then ?_
               refine cd_block ?_
               refine cd_loop (G := Nat) [4, 6, 23, 24, 25, 26, 27, 28, 29, 30, 31, 32] (fun k => [(22, .int .i64 (k : Nat))]) (fun k w' => k ≤ n ∧ (xs.take k).all (okS 512) = true ∧ From w w') (fun k => n - k) (0) ⟨rfl, trivial⟩ ?_ ?_
               · exact ⟨Nat.zero_le _, rfl, From.rfl_⟩
               rintro k ρ4 w4 ⟨hk, hall, hB⟩
               refine cd_seq ?_
               refine cd_region ?_
               refine st_val (ro_lss rfl rfl) ?_
               refine st_nil ?_
               refine nx_then ?_
               refine cd_seq ?_
               refine cd_cond rfl (fun Q5 => ?_) (fun Q5 => ?_)
               · (try with_reducible first | replace Q5 := of_decide_eq_true Q5 | replace Q5 := of_decide_eq_false Q5 | replace Q5 := bn_t Q5 | replace Q5 := bn_f Q5)
                 (try with_reducible first | replace Q5 := of_decide_eq_true Q5 | replace Q5 := of_decide_eq_false Q5 | replace Q5 := bx_t Q5 | replace Q5 := bx_f Q5 | replace Q5 := be_t Q5 | replace Q5 := be_f Q5)
                 have hkx : k < xs.length := by omega
                 obtain ⟨b, o, rfl, hc⟩ := hr (by omega)
                 have hck := hc k hkx
                 first
                  | (exfalso; first | omega | contradiction | (cases Q5; done))
                  | skip
                    refine cd_skip ?_
                    refine nx_then ?_
                    refine cd_seq ?_
                    refine cd_block ?_
                    refine cd_seq ?_
                    refine cd_region ?_
                    refine st_val (ro_indexAddr1 BwtAhead_e24 rfl rfl (by omega)) ?_
                    refine st_val (ro_load BwtAhead_g3 rfl (by exact cellF hB hck)) ?_
                    refine st_val (ro_assign (v := .int _ _) rfl) ?_
                    refine st_nil ?_
                    refine nx_then ?_
                    refine cd_seq ?_
                    refine cd_region ?_
                    refine st_val (ro_move (v := .int _ _) rfl) ?_
                    refine st_val (ro_lss rfl rfl) ?_
                    refine st_val (ro_move (v := .bool _) rfl) ?_
                    refine st_split (t := 28) rfl (fun Q6 => ?_) (fun Q6 => ?_)
                    · (try with_reducible first | replace Q6 := of_decide_eq_true Q6 | replace Q6 := of_decide_eq_false Q6 | replace Q6 := bn_t Q6 | replace Q6 := bn_f Q6)
                      (try with_reducible first | replace Q6 := of_decide_eq_true Q6 | replace Q6 := of_decide_eq_false Q6 | replace Q6 := bx_t Q6 | replace Q6 := bx_f Q6 | replace Q6 := be_t Q6 | replace Q6 := be_f Q6)
                      first
                       | (exfalso; first | omega | contradiction | (cases Q6; done))
                       | skip
                         refine st_gno rfl rfl ?_
                         refine st_gno rfl rfl ?_
                         refine st_val (ro_pickT (v := .bool _) rfl rfl) ?_
                         refine st_nil ?_
                         refine nx_then ?_
                         refine cd_condT rfl ?_
                         refine cd_seq ?_
                         refine cd_region ?_
                         refine st_val (ro_assign (v := .bool _) rfl) ?_
                         refine st_nil ?_
                         refine nx_then ?_
                         refine cd_ret ?_
                         refine rt_block ?_
                         refine rt_then ?_
                         refine rt_then ?_
                         refine rt_block ?_
                         refine rt_then ?_
                         refine res1 (v := .bool _) rfl rfl ?_
                         refine ⟨congrArg Value.bool ?_, hB⟩
                         rw [all_no hkx (okS_no (by omega)), Bool.and_false]
                    · (try with_reducible first | replace Q6 := of_decide_eq_true Q6 | replace Q6 := of_decide_eq_false Q6 | replace Q6 := bn_t Q6 | replace Q6 := bn_f Q6)
                      (try with_reducible first | replace Q6 := of_decide_eq_true Q6 | replace Q6 := of_decide_eq_false Q6 | replace Q6 := bx_t Q6 | replace Q6 := bx_f Q6 | replace Q6 := be_t Q6 | replace Q6 := be_f Q6)
                      first
                       | (exfalso; first | omega | contradiction | (cases Q6; done))
                       | skip
                         refine st_unguard rfl ?_
                         refine st_val (ro_move (v := .int _ _) rfl) ?_
                         refine st_unguard rfl ?_
                         refine st_val (ro_geq rfl rfl) ?_
                         refine st_val (ro_pickF (v := .bool _) rfl rfl) ?_
                         refine st_nil ?_
                         refine nx_then ?_
                         refine cd_cond rfl (fun Q7 => ?_) (fun Q7 => ?_)
                         · (try with_reducible first | replace Q7 := of_decide_eq_true Q7 | replace Q7 := of_decide_eq_false Q7 | replace Q7 := bn_t Q7 | replace Q7 := bn_f Q7)
                           (try with_reducible first | replace Q7 := of_decide_eq_true Q7 | replace Q7 := of_decide_eq_false Q7 | replace Q7 := bx_t Q7 | replace Q7 := bx_f Q7 | replace Q7 := be_t Q7 | replace Q7 := be_f Q7)
                           first
                            | (exfalso; first | omega | contradiction | (cases Q7; done))
                            | skip
                              refine cd_seq ?_
                              refine cd_region ?_
                              refine st_val (ro_assign (v := .bool _) rfl) ?_
                              refine st_nil ?_
                              refine nx_then ?_
                              refine cd_ret ?_
                              refine rt_block ?_
                              refine rt_then ?_
                              refine rt_then ?_
                              refine rt_block ?_
                              refine rt_then ?_
                              refine res1 (v := .bool _) rfl rfl ?_
                              refine ⟨congrArg Value.bool ?_, hB⟩
                              rw [all_no hkx (okS_no (by omega)), Bool.and_false]
                         (try with_reducible first | replace Q7 := of_decide_eq_true Q7 | replace Q7 := of_decide_eq_false Q7 | replace Q7 := bn_t Q7 | replace Q7 := bn_f Q7)
                         (try with_reducible first | replace Q7 := of_decide_eq_true Q7 | replace Q7 := of_decide_eq_false Q7 | replace Q7 := bx_t Q7 | replace Q7 := bx_f Q7 | replace Q7 := be_t Q7 | replace Q7 := be_f Q7)
                         first
                          | (exfalso; first | omega | contradiction | (cases Q7; done))
                          | skip
                            refine cd_skip ?_
                            refine nx_block ?_
                            refine nx_then ?_
                            refine cd_region ?_
                            refine st_val (ro_add64 rfl rfl (by omega)) ?_
                            refine st_val (ro_move (v := .int _ _) rfl) ?_
                            refine st_nil ?_
                            refine nx_cut (k + 1) ⟨(by first | rfl | (refine int_eq ?_; omega)), trivial⟩ (by (iterate 26 refine agr_cons rfl ?_); exact agr_rfl) ⟨?_, ?_⟩
                            · exact ⟨by omega, all_take hkx hall (okS_yes (by omega) (by omega)), hB⟩
                            · show n - (k + 1) < n - k; omega
               (try with_reducible first | replace Q5 := of_decide_eq_true Q5 | replace Q5 := of_decide_eq_false Q5 | replace Q5 := bn_t Q5 | replace Q5 := bn_f Q5)
               (try with_reducible first | replace Q5 := of_decide_eq_true Q5 | replace Q5 := of_decide_eq_false Q5 | replace Q5 := bx_t Q5 | replace Q5 := bx_f Q5 | replace Q5 := be_t Q5 | replace Q5 := be_f Q5)
               first
                | (exfalso; first | omega | contradiction | (cases Q5; done))
                | skip
                  refine cd_exit ?_
                  refine ex_then ?_
                  refine ex_then ?_
                  refine ex_block ?_
                  refine nx_then ?_
                  refine cd_seq ?_
                  refine cd_region ?_
                  refine st_val (ro_assign (v := .bool _) rfl) ?_
                  refine st_nil ?_
                  refine nx_then ?_
                  refine cd_ret ?_
                  refine res1 (v := .bool _) rfl rfl ?_
                  refine ⟨congrArg Value.bool ?_, hB⟩
                  have h1 : k = xs.length := by omega
                  rw [decide_eq_true (by omega), Bool.true_and]
                  rw [h1, List.take_length] at hall
                  exact hall.symm
set_option maxRecDepth 100000 in
set_option maxHeartbeats 400000 in
theorem symbol_rt (a : Nat) (A : Option Addr) (c n : Nat) (B : List Nat) (r : Nat) (w : World) (hr : RowOf iV w A (cI B)) (hn : n = B.length) (ha : a ≤ n) (hrn : r ≤ n) (hra : r ≠ a) (hl : n ≤ 1000000) :
    Rt Try.prog 23 [.int .i64 (a : Nat), .slice A n c, .int .i64 (r : Nat)] w (fun v w' => v = .int .i64 ((B.getD (sy a r) 0 : Nat) : Int) ∧ From w w') := by
  obtain ⟨b, o, rfl, hc⟩ := rowD hr (by omega)
  refine enter (n := 19) Try.func23 rfl rfl rfl ?_
  refine cd_seq ?_
  refine cd_region ?_
  refine st_val (ro_assign (v := .int _ _) rfl) ?_
  refine st_nil ?_
  refine nx_then ?_
  refine cd_seq ?_
  refine cd_seq ?_
  refine cd_region ?_
  refine st_val (ro_move (v := .int _ _) rfl) ?_
  refine st_val (ro_move (v := .int _ _) rfl) ?_
  refine st_val (ro_gtr rfl rfl) ?_
  refine st_nil ?_
  refine nx_then ?_
  refine cd_cond rfl (fun Q1 => ?_) (fun Q1 => ?_)
  · (try first | replace Q1 := bn_t Q1 | replace Q1 := bn_f Q1)
    (try first | replace Q1 := bx_t Q1 | replace Q1 := bx_f Q1 | replace Q1 := be_t Q1 | replace Q1 := be_f Q1 | replace Q1 := of_decide_eq_true Q1 | replace Q1 := of_decide_eq_false Q1)
    first
     | (exfalso; first | omega | contradiction | (cases Q1; done))
     | skip
       refine cd_seq ?_
       refine cd_region ?_
       refine st_val (ro_move (v := .slice _ _ _) rfl) ?_
       refine st_val (ro_move (v := .int _ _) rfl) ?_
       refine st_val (ro_subN (b := 1) rfl rfl (by omega)) ?_
       refine st_val (ro_indexAddr1 BwtAhead_e24 rfl rfl (by omega)) ?_
       refine st_val (ro_load BwtAhead_g3 rfl (by exact cellF From.rfl_ (hc (r - 1) (by omega)))) ?_
       refine st_val (ro_assign (v := .int _ _) rfl) ?_
       refine st_nil ?_
       refine nx_then ?_
       refine cd_ret ?_
       refine rt_then ?_
       refine res1 (v := .int _ _) rfl rfl ?_
       exact ⟨by rw [sy_gt (by omega)], From.rfl_⟩
  (try first | replace Q1 := bn_t Q1 | replace Q1 := bn_f Q1)
  (try first | replace Q1 := bx_t Q1 | replace Q1 := bx_f Q1 | replace Q1 := be_t Q1 | replace Q1 := be_f Q1 | replace Q1 := of_decide_eq_true Q1 | replace Q1 := of_decide_eq_false Q1)
  first
   | (exfalso; first | omega | contradiction | (cases Q1; done))
   | skip
     refine cd_skip ?_
     refine nx_then ?_
     refine cd_seq ?_
     refine cd_region ?_
     refine st_val (ro_move (v := .slice _ _ _) rfl) ?_
     refine st_val (ro_move (v := .int _ _) rfl) ?_
     refine st_val (ro_indexAddr1 BwtAhead_e24 rfl rfl (by omega)) ?_
     refine st_val (ro_load BwtAhead_g3 rfl (by exact cellF From.rfl_ (hc r (by omega)))) ?_
     refine st_val (ro_assign (v := .int _ _) rfl) ?_
     refine st_nil ?_
     refine nx_then ?_
     refine cd_ret ?_
     refine res1 (v := .int _ _) rfl rfl ?_
     exact ⟨by rw [sy_le (by omega)], From.rfl_⟩
set_option maxRecDepth 100000 in
set_option maxHeartbeats 4000000 in
theorem ahead_rt (a : Nat) (A : Option Addr) (c n : Nat) (B : List Nat) (w : World) (hr : RowOf iV w A (cI B)) (hn : n = B.length) (ha : a ≤ n) (hl : n ≤ 131072) (hx : ∀ x ∈ B, x < 512) :
    Rt Try.prog 22 [.int .i64 (a : Nat), .slice A n c] w (fun v w' => (∃ g, v = .slice (some ⟨g, 0, none⟩) (n + 1) (n + 1) ∧ w.heap.size ≤ g ∧ Blk w' g 3 (tabI (n + 1) fun r => ((lf n (fun i => B.getD i 0) a r : Nat) : Int))) ∧ From w w') := by
  refine enter (n := 68) Try.func22 rfl rfl rfl ?_
  refine cd_seq ?_
  refine cd_region ?_
  refine st_val (ro_assign (v := .slice _ _ _) rfl) ?_
  refine st_nil ?_
  refine nx_then ?_
  refine cd_seq ?_
  refine cd_region ?_
  refine st_alloc BwtAhead_za47 ?_
  intro b5 w1 E5 hb5 hk5
  rw [BwtAhead_zc] at hk5
  have hg5 : w.heap.size ≤ b5 := by rw [hb5]; exact (From.rfl_).size
  refine st_nil ?_
  refine nx_then ?_
  refine cd_seq ?_
  refine cd_seq ?_
  refine cd_region ?_
  refine st_val (ro_move (v := .slice _ _ _) rfl) ?_
  refine st_val (ro_len BwtAhead_l24 rfl) ?_
  refine st_val (ro_move (v := .int _ _) rfl) ?_
  refine st_nil ?_
  refine nx_then ?_
  refine cd_block ?_
  refine cd_loop (G := Nat) [7, 15, 16, 17, 18, 19, 20, 21, 22, 23, 24] (fun i => [(14, .int .i64 (i : Nat))]) (fun i w' => i ≤ n ∧ Blk w' b5 47 (tabI 513 fun x => ((ctT (fun i => B.getD i 0) i x : Nat) : Int)) ∧ From w w') (fun i => n - i) (0) ⟨rfl, trivial⟩ ?_ ?_
  · exact ⟨Nat.zero_le _, by rw [tabI_congr (g := fun _ => 0) (fun x _ => by rw [ct_zero]; rfl), ← tabI_zero]; exact hk5, (From.rfl_.next E5)⟩
  rintro i ρ2 w2 ⟨hi, hT, hB⟩
  refine cd_seq ?_
  refine cd_region ?_
  refine st_val (ro_lss rfl rfl) ?_
  refine st_nil ?_
  refine nx_then ?_
  refine cd_seq ?_
  refine cd_cond rfl (fun Q3 => ?_) (fun Q3 => ?_)
  · (try with_reducible first | replace Q3 := of_decide_eq_true Q3 | replace Q3 := of_decide_eq_false Q3 | replace Q3 := bn_t Q3 | replace Q3 := bn_f Q3)
    (try with_reducible first | replace Q3 := of_decide_eq_true Q3 | replace Q3 := of_decide_eq_false Q3 | replace Q3 := bx_t Q3 | replace Q3 := bx_f Q3 | replace Q3 := be_t Q3 | replace Q3 := be_f Q3)
    obtain ⟨b, o, rfl, hc⟩ := rowD hr (by omega)
    have hs1 := symb_get hx i
    have hct := ct_le (b := fun i => B.getD i 0) i (B.getD i 0 + 1)
    first
     | (exfalso; first | omega | contradiction | (cases Q3; done))
     | skip
       refine cd_skip ?_
       refine nx_then ?_
       refine cd_seq ?_
       refine cd_block ?_
       refine cd_seq ?_
       refine cd_region ?_
       refine st_val (ro_indexAddr1 BwtAhead_e24 rfl rfl (by omega)) ?_
       refine st_val (ro_load BwtAhead_g3 rfl (by exact cellF hB (hc i (by omega)))) ?_
       refine st_val (ro_assign (v := .int _ _) rfl) ?_
       refine st_nil ?_
       refine nx_then ?_
       refine cd_region ?_
       refine st_val (ro_move (v := .int _ _) rfl) ?_
       refine st_val (ro_addN (b := 1) rfl rfl (by omega)) ?_
       refine st_val (ro_arr (i := B.getD i 0 + 1) BwtAhead_a47 rfl rfl (by omega)) ?_
       refine st_val (ro_load BwtAhead_g3 rfl (by exact hT.rd _ (tabI_at (by omega)))) ?_
       refine st_val (ro_addN (b := 1) rfl rfl (by omega)) ?_
       refine st_val (ro_arr (i := B.getD i 0 + 1) BwtAhead_a47 rfl rfl (by omega)) ?_
       refine st_put (v := .int _ _) BwtAhead_z3 rfl rfl rfl (hT) (by rw [tabI_size]; omega) ?_
       intro w4 O5 P5
       have P5b : Blk w4 b5 47 (tabI 513 fun x => ((ctT (fun i => B.getD i 0) (i + 1) x : Nat) : Int)) := by rw [← tabI_congr (fun x _ => ct_step rfl x), ← tabI_set]; exact P5
       refine st_nil ?_
       refine nx_block ?_
       refine nx_then ?_
       refine cd_region ?_
       refine st_val (ro_add64 rfl rfl (by omega)) ?_
       refine st_val (ro_move (v := .int _ _) rfl) ?_
       refine st_nil ?_
       refine nx_cut (i + 1) ⟨(by first | rfl | (refine int_eq ?_; omega)), trivial⟩ (by (iterate 24 refine agr_cons rfl ?_); exact agr_rfl) ⟨?_, ?_⟩
       · exact ⟨by omega, P5b.from_ From.rfl_, (hB.only O5 (hg5))⟩
       · show n - (i + 1) < n - i; omega
  (try with_reducible first | replace Q3 := of_decide_eq_true Q3 | replace Q3 := of_decide_eq_false Q3 | replace Q3 := bn_t Q3 | replace Q3 := bn_f Q3)
  (try with_reducible first | replace Q3 := of_decide_eq_true Q3 | replace Q3 := of_decide_eq_false Q3 | replace Q3 := bx_t Q3 | replace Q3 := bx_f Q3 | replace Q3 := be_t Q3 | replace Q3 := be_f Q3)
  obtain rfl : n = i := by omega
  first
   | (exfalso; first | omega | contradiction | (cases Q3; done))
   | skip
     refine cd_exit ?_
     refine ex_then ?_
     refine ex_then ?_
     refine ex_block ?_
     refine nx_then ?_
     refine cd_seq ?_
     refine cd_region ?_
     refine st_val (ro_arr0 BwtAhead_a47 rfl rfl (by omega)) ?_
     refine st_put (v := .int _ _) BwtAhead_z3 rfl rfl rfl (hT) (by rw [tabI_size]; omega) ?_
     intro w5 O7 P7
     have P7b : Blk w5 b5 47 (tabI 513 fun x => ((smT 1 n (fun i => B.getD i 0) 0 x : Nat) : Int)) := by rw [← tabI_congr (fun x _ => sm_one x), ← tabI_set]; exact P7
     refine st_nil ?_
     refine nx_then ?_
     refine cd_seq ?_
     refine cd_seq ?_
     refine cd_region ?_
     refine st_val (ro_move (v := .int _ _) rfl) ?_
     refine st_nil ?_
     refine nx_then ?_
     refine cd_block ?_
     refine cd_loop (G := Nat) [8, 27, 28, 29, 30, 31, 32, 33, 34, 35, 36, 37, 38] (fun c => [(26, .int .i64 (c : Nat))]) (fun c w' => c ≤ 512 ∧ Blk w' b5 47 (tabI 513 fun x => ((smT 1 n (fun i => B.getD i 0) c x : Nat) : Int)) ∧ From w w') (fun c => 512 - c) (0) ⟨rfl, trivial⟩ ?_ ?_
     · exact ⟨Nat.zero_le _, P7b.from_ From.rfl_, (hB.only O7 (hg5))⟩
     rintro k ρ6 w6 ⟨hk, hT, hB⟩
     refine cd_seq ?_
     refine cd_region ?_
     refine st_val (ro_lss rfl rfl) ?_
     refine st_nil ?_
     refine nx_then ?_
     refine cd_seq ?_
     refine cd_cond rfl (fun Q7 => ?_) (fun Q7 => ?_)
     · (try with_reducible first | replace Q7 := of_decide_eq_true Q7 | replace Q7 := of_decide_eq_false Q7 | replace Q7 := bn_t Q7 | replace Q7 := bn_f Q7)
       (try with_reducible first | replace Q7 := of_decide_eq_true Q7 | replace Q7 := of_decide_eq_false Q7 | replace Q7 := bx_t Q7 | replace Q7 := bx_f Q7 | replace Q7 := be_t Q7 | replace Q7 := be_f Q7)
       have ho1 := occ_le (b := fun i => B.getD i 0) n k
       have hl1 := les_le (n := n) (b := fun i => B.getD i 0) k
       first
        | (exfalso; first | omega | contradiction | (cases Q7; done))
        | skip
          refine cd_skip ?_
          refine nx_then ?_
          refine cd_seq ?_
          refine cd_block ?_
          refine cd_seq ?_
          refine cd_region ?_
          refine st_val (ro_move (v := .int _ _) rfl) ?_
          refine st_val (ro_assign (v := .int _ _) rfl) ?_
          refine st_nil ?_
          refine nx_then ?_
          apply cd_drawn 9 [(29, eqp _), (30, eqp _), (31, eqp _), (32, eqp _), (33, eqp _), (34, eqp _), (35, eqp _), (36, eqp _), (37, eqp _)] (by kernel_rfl) (by kernel_rfl) ⟨eqp_mono _, eqp_mono _, eqp_mono _, eqp_mono _, eqp_mono _, eqp_mono _, eqp_mono _, eqp_mono _, eqp_mono _, trivial⟩
          case hop =>
           refine ⟨?_, ?_⟩
           · intro w9 D9
             show OpOK _ _ _ _ _ _ _
             exact ok_pure (ro_move (v := .int _ _) rfl) rfl
           refine ⟨?_, ?_⟩
           · intro w10 D10
             rintro _ rfl
             show OpOK _ _ _ _ _ _ _
             exact ok_pure (ro_addN (b := 1) rfl rfl (by omega)) rfl
           refine ⟨?_, ?_⟩
           · intro w11 D11
             rintro _ rfl
             show OpOK _ _ _ _ _ _ _
             exact ok_pure (ro_arr (i := k + 1) BwtAhead_a47 rfl rfl (by omega)) rfl
           refine ⟨?_, ?_⟩
           · intro w12 D12
             rintro _ rfl
             show OpOK _ _ _ _ _ _ _
             exact ok_pure (ro_load BwtAhead_g3 rfl (by exact (hT.from_ (From.rfl_.next D12)).rd _ (by rw [tabI_at (by omega), sm_nx]))) rfl
           refine ⟨?_, ?_⟩
           · intro w13 D13
             show OpOK _ _ _ _ _ _ _
             exact ok_pure (ro_move (v := .int _ _) rfl) rfl
           refine ⟨?_, ?_⟩
           · intro w14 D14
             rintro _ rfl
             show OpOK _ _ _ _ _ _ _
             exact ok_pure (ro_arr (i := k) BwtAhead_a47 rfl rfl (by omega)) rfl
           refine ⟨?_, ?_⟩
           · intro w15 D15
             rintro _ rfl
             show OpOK _ _ _ _ _ _ _
             exact ok_pure (ro_load BwtAhead_g3 rfl (by exact (hT.from_ (From.rfl_.next D15)).rd _ (by rw [tabI_at (by omega), sm_at]))) rfl
           refine ⟨?_, ?_⟩
           · intro w16 D16
             rintro _ rfl _ rfl
             show OpOK _ _ _ _ _ _ _
             exact ok_pure (ro_addN rfl rfl (by omega)) rfl
           refine ⟨?_, ?_⟩
           · intro w17 D17
             rintro _ rfl
             show OpOK _ _ _ _ _ _ _
             exact ok_pure (ro_arr (i := k + 1) BwtAhead_a47 rfl rfl (by omega)) rfl
           exact trivial
          case hend =>
           intro w18 D18
           rintro _ rfl _ rfl _ rfl _ rfl _ rfl _ rfl _ rfl _ rfl _ rfl
           show St _ _ _ _ _ _ _
           refine st_put (v := .int _ _) BwtAhead_z3 rfl rfl rfl ((hT.from_ (From.rfl_.next D18))) (by rw [tabI_size]; omega) ?_
           intro w19 O11 P11
           have P11b : Blk w19 b5 47 (tabI 513 fun x => ((smT 1 n (fun i => B.getD i 0) (k + 1) x : Nat) : Int)) := by rw [← tabI_congr (fun x _ => sm_step x), ← tabI_set]; exact P11
           refine st_nil ?_
           refine nx_block ?_
           refine nx_then ?_
           refine cd_region ?_
           refine st_val (ro_add64 rfl rfl (by omega)) ?_
           refine st_val (ro_move (v := .int _ _) rfl) ?_
           refine st_nil ?_
           refine nx_cut (k + 1) ⟨(by first | rfl | (refine int_eq ?_; omega)), trivial⟩ (by (iterate 28 refine agr_cons rfl ?_); exact agr_rfl) ⟨?_, ?_⟩
           · exact ⟨by omega, P11b.from_ From.rfl_, ((hB.next D18).only O11 (hg5))⟩
           · show 512 - (k + 1) < 512 - k; omega
     (try with_reducible first | replace Q7 := of_decide_eq_true Q7 | replace Q7 := of_decide_eq_false Q7 | replace Q7 := bn_t Q7 | replace Q7 := bn_f Q7)
     (try with_reducible first | replace Q7 := of_decide_eq_true Q7 | replace Q7 := of_decide_eq_false Q7 | replace Q7 := bx_t Q7 | replace Q7 := bx_f Q7 | replace Q7 := be_t Q7 | replace Q7 := be_f Q7)
     have hT512 : Blk w6 b5 47 (tabI 513 fun x => ((smT 1 n (fun i => B.getD i 0) 512 x : Nat) : Int)) := by rw [show k = 512 by omega] at hT; exact hT
     first
      | (exfalso; first | omega | contradiction | (cases Q7; done))
      | skip
        refine cd_exit ?_
        refine ex_then ?_
        refine ex_then ?_
        refine ex_block ?_
        refine nx_then ?_
        refine cd_seq ?_
        refine cd_region ?_
        refine st_val (ro_move (v := .slice _ _ _) rfl) ?_
        refine st_val (ro_len BwtAhead_l24 rfl) ?_
        refine st_val (ro_addN (b := 1) rfl rfl (by omega)) ?_
        refine st_make BwtAhead_m24 rfl rfl rfl (by omega) (by omega) ?_
        intro b42 w20 E42 hb42 hk42
        have hg42 : w.heap.size ≤ b42 := by rw [hb42]; exact (hB).size
        have h542 : b5 < b42 := by rw [hb42]; exact hT512.lt
        refine st_val (ro_assign (v := .slice _ _ _) rfl) ?_
        refine st_nil ?_
        refine nx_then ?_
        refine cd_seq ?_
        refine cd_seq ?_
        refine cd_region ?_
        refine st_val (ro_move (v := .slice _ _ _) rfl) ?_
        refine st_val (ro_len BwtAhead_l24 rfl) ?_
        refine st_val (ro_move (v := .int _ _) rfl) ?_
        refine st_nil ?_
        refine nx_then ?_
        refine cd_block ?_
        refine cd_loop (G := Nat) [10, 11, 46, 47, 48, 49, 50, 51, 52, 53, 54, 55, 56, 57, 58, 59, 60, 61, 62, 63, 64, 65, 66] (fun k => [(45, .int .i64 (k : Nat))]) (fun k w' => k ≤ n + 1 ∧ Blk w' b5 47 (tabI 513 fun x => ((frT 1 n (fun i => B.getD i 0) (sy a k) x : Nat) : Int)) ∧ Blk w' b42 3 (tabI (n + 1) fun r => ((nxT n (fun i => B.getD i 0) a k r : Nat) : Int)) ∧ From w w') (fun k => n + 1 - k) (0) ⟨rfl, trivial⟩ ?_ ?_
        · exact ⟨Nat.zero_le _, by rw [sy_zero, ← tabI_congr (fun x hx => fr_zero hx)]; exact hT512.from_ (From.rfl_.next E42), by rw [tabI_congr (g := fun _ => 0) (fun x _ => by rw [nx_zero]; rfl), ← tabI_zero]; exact hk42, (hB.next E42)⟩
        rintro k ρ21 w21 ⟨hk, hT, hN, hB⟩
        refine cd_seq ?_
        refine cd_region ?_
        refine st_val (ro_lss rfl rfl) ?_
        refine st_nil ?_
        refine nx_then ?_
        refine cd_seq ?_
        refine cd_cond rfl (fun Q22 => ?_) (fun Q22 => ?_)
        · (try with_reducible first | replace Q22 := of_decide_eq_true Q22 | replace Q22 := of_decide_eq_false Q22 | replace Q22 := bn_t Q22 | replace Q22 := bn_f Q22)
          (try with_reducible first | replace Q22 := of_decide_eq_true Q22 | replace Q22 := of_decide_eq_false Q22 | replace Q22 := bx_t Q22 | replace Q22 := bx_f Q22 | replace Q22 := be_t Q22 | replace Q22 := be_f Q22)
          first
           | (exfalso; first | omega | contradiction | (cases Q22; done))
           | skip
             refine cd_skip ?_
             refine nx_then ?_
             refine cd_cut (G := Unit) [10, 11, 47, 48, 49, 50, 51, 52, 53, 54, 55, 56, 57, 58, 59, 60, 61, 62, 63, 64, 65] (fun _ => []) (fun _ w' => Blk w' b5 47 (tabI 513 fun x => ((frT 1 n (fun i => B.getD i 0) (sy a (k + 1)) x : Nat) : Int)) ∧ Blk w' b42 3 (tabI (n + 1) fun r => ((nxT n (fun i => B.getD i 0) a (k + 1) r : Nat) : Int)) ∧ From w w') ?_ ?_
             · refine cd_block ?_
               refine cd_seq ?_
               refine cd_region ?_
               refine st_val (ro_move (v := .int _ _) rfl) ?_
               refine st_val (ro_assign (v := .int _ _) rfl) ?_
               refine st_nil ?_
               refine nx_then ?_
               refine cd_seq ?_
               refine cd_seq ?_
               refine cd_region ?_
               refine st_val (ro_move (v := .int _ _) rfl) ?_
               refine st_val (ro_move (v := .int _ _) rfl) ?_
               refine st_val (ro_eql rfl rfl) ?_
               refine st_nil ?_
               refine nx_then ?_
               refine cd_cond rfl (fun Q23 => ?_) (fun Q23 => ?_)
               · (try with_reducible first | replace Q23 := of_decide_eq_true Q23 | replace Q23 := of_decide_eq_false Q23 | replace Q23 := bn_t Q23 | replace Q23 := bn_f Q23)
                 (try with_reducible first | replace Q23 := of_decide_eq_true Q23 | replace Q23 := of_decide_eq_false Q23 | replace Q23 := bx_t Q23 | replace Q23 := bx_f Q23 | replace Q23 := be_t Q23 | replace Q23 := be_f Q23)
                 first
                  | (exfalso; first | omega | contradiction | (cases Q23; done))
                  | skip
                    refine cd_exit ?_
                    refine ex_then ?_
                    refine ex_block ?_
                    refine nx_cut (()) trivial (by (iterate 5 refine agr_cons rfl ?_); exact agr_rfl) ?_
                    exact ⟨by rw [show k = a by omega, sy_next]; rw [show k = a by omega, sy_self] at hT; exact hT.from_ From.rfl_, by rw [show k = a by omega, tabI_congr (fun x _ => by rw [nx_skip])]; rw [show k = a by omega] at hN; exact hN.from_ From.rfl_, hB⟩
               (try with_reducible first | replace Q23 := of_decide_eq_true Q23 | replace Q23 := of_decide_eq_false Q23 | replace Q23 := bn_t Q23 | replace Q23 := bn_f Q23)
               (try with_reducible first | replace Q23 := of_decide_eq_true Q23 | replace Q23 := of_decide_eq_false Q23 | replace Q23 := bx_t Q23 | replace Q23 := bx_f Q23 | replace Q23 := be_t Q23 | replace Q23 := be_f Q23)
               have hka : k ≠ a := by omega
               have hs1 := symb_get hx (sy a k)
               have hv := lf_val (n := n) (b := fun i => B.getD i 0) ha (show k ≤ n by omega) hka rfl
               have ho1 := occ_le (b := fun i => B.getD i 0) (sy a k) (B.getD (sy a k) 0)
               have hl1 := les_le (n := n) (b := fun i => B.getD i 0) (B.getD (sy a k) 0)
               have hsl := sy_lt (n := n) ha (show k ≤ n by omega) hka
               first
                | (exfalso; first | omega | contradiction | (cases Q23; done))
                | skip
                  refine cd_skip ?_
                  refine nx_then ?_
                  refine cd_seq ?_
                  refine cd_region ?_
                  refine st_val (ro_move (v := .int _ _) rfl) ?_
                  refine st_val (ro_move (v := .slice _ _ _) rfl) ?_
                  refine st_val (ro_move (v := .int _ _) rfl) ?_
                  refine st_call BwtAhead_k23 (symbol_rt a A c n B k _ (hr.from_ hB) hn ha (by omega) hka (by omega)) ?_
                  rintro v54 w24 ⟨rfl, E54⟩
                  refine st_val (ro_assign (v := .int _ _) rfl) ?_
                  refine st_nil ?_
                  refine nx_then ?_
                  refine cd_seq ?_
                  refine cd_region ?_
                  refine st_val (ro_move (v := .slice _ _ _) rfl) ?_
                  refine st_val (ro_move (v := .int _ _) rfl) ?_
                  refine st_val (ro_move (v := .int _ _) rfl) ?_
                  refine st_val (ro_arr (i := B.getD (sy a k) 0) BwtAhead_a47 rfl rfl (by omega)) ?_
                  refine st_val (ro_load BwtAhead_g3 rfl (by exact (hT.from_ (From.rfl_.next E54)).rd _ (by rw [tabI_at (by omega), fr_at hs1]))) ?_
                  refine st_val (ro_indexAddr0 BwtAhead_e24 rfl rfl (by omega)) ?_
                  refine st_put (v := .int _ _) BwtAhead_z3 rfl rfl rfl ((hN.from_ (From.rfl_.next E54))) (by rw [tabI_size]; omega) ?_
                  intro w25 O19 P19
                  have hT19 := (hT.from_ E54).only O19 (by omega)
                  have N19 : Blk w25 b42 3 (tabI (n + 1) fun r => ((nxT n (fun i => B.getD i 0) a (k + 1) r : Nat) : Int)) := by rw [← tabI_congr (fun x _ => nx_step hv x), ← tabI_set]; exact P19
                  refine st_nil ?_
                  refine nx_then ?_
                  refine cd_region ?_
                  refine st_val (ro_move (v := .int _ _) rfl) ?_
                  refine st_val (ro_arr (i := B.getD (sy a k) 0) BwtAhead_a47 rfl rfl (by omega)) ?_
                  refine st_val (ro_load BwtAhead_g3 rfl (by exact (hT19.from_ From.rfl_).rd _ (by rw [tabI_at (by omega), fr_at hs1]))) ?_
                  refine st_val (ro_addN (b := 1) rfl rfl (by omega)) ?_
                  refine st_val (ro_arr (i := B.getD (sy a k) 0) BwtAhead_a47 rfl rfl (by omega)) ?_
                  refine st_put (v := .int _ _) BwtAhead_z3 rfl rfl rfl (hT19) (by rw [tabI_size]; omega) ?_
                  intro w26 O20 P20
                  have P20b : Blk w26 b5 47 (tabI 513 fun x => ((frT 1 n (fun i => B.getD i 0) (sy a k + 1) x : Nat) : Int)) := by rw [← tabI_congr (fun x _ => fr_step (o := 1) (n := n) (b := fun i => B.getD i 0) (i := sy a k) rfl hs1 x), ← tabI_set]; exact P20
                  have N20 := N19.only O20 (by omega)
                  refine st_nil ?_
                  refine nx_block ?_
                  refine nx_cut (()) trivial (by (iterate 21 refine agr_cons rfl ?_); exact agr_rfl) ?_
                  exact ⟨by rw [sy_succ hka]; exact P20b.from_ From.rfl_, N20.from_ From.rfl_, (((hB.next E54).only O19 (hg42)).only O20 (hg5))⟩
             rintro ⟨⟩ ρ27 w27 ⟨hT', hN', hB⟩
             refine cd_region ?_
             refine st_val (ro_add64 rfl rfl (by omega)) ?_
             refine st_val (ro_move (v := .int _ _) rfl) ?_
             refine st_nil ?_
             refine nx_cut (k + 1) ⟨(by first | rfl | (refine int_eq ?_; omega)), trivial⟩ (by (iterate 48 refine agr_cons rfl ?_); exact agr_rfl) ⟨?_, ?_⟩
             · exact ⟨by omega, hT'.from_ From.rfl_, hN'.from_ From.rfl_, hB⟩
             · show n + 1 - (k + 1) < n + 1 - k; omega
        (try with_reducible first | replace Q22 := of_decide_eq_true Q22 | replace Q22 := of_decide_eq_false Q22 | replace Q22 := bn_t Q22 | replace Q22 := bn_f Q22)
        (try with_reducible first | replace Q22 := of_decide_eq_true Q22 | replace Q22 := of_decide_eq_false Q22 | replace Q22 := bx_t Q22 | replace Q22 := bx_f Q22 | replace Q22 := be_t Q22 | replace Q22 := be_f Q22)
        first
         | (exfalso; first | omega | contradiction | (cases Q22; done))
         | skip
           refine cd_exit ?_
           refine ex_then ?_
           refine ex_then ?_
           refine ex_block ?_
           refine nx_then ?_
           refine cd_seq ?_
           refine cd_region ?_
           refine st_val (ro_move (v := .slice _ _ _) rfl) ?_
           refine st_val (ro_assign (v := .slice _ _ _) rfl) ?_
           refine st_nil ?_
           refine nx_then ?_
           refine cd_ret ?_
           refine res1 (v := .slice _ _ _) rfl rfl ?_
           obtain rfl : k = n + 1 := by omega
           refine ⟨⟨b42, rfl, hg42, ?_⟩, hB⟩
           rw [tabI_congr (g := fun r => ((nxT n (fun i => B.getD i 0) a (n + 1) r : Nat) : Int)) (fun x hx => by rw [nx_all hx])]
           exact hN.from_ From.rfl_
end Go.Proofs.Ytpafbgdbjambgaa
