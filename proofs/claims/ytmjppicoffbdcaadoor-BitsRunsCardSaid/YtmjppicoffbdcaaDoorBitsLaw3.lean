/- The law BitsRuns. -/
import Derived.Test.YtmjppicoffbdcaaDoorBitsLaw2
namespace Go.Proofs.YtmjppicoffbdcaaDoor
open Go.RowKit
open Go.ChangeShapes Go.WideShapes Go.ChangeAt
theorem BitsLaw3_m22 : makeQ Tryd.prog 22 = some (4, 1, (.bool false)) := by kernel_rfl
theorem BitsLaw3_e22 : elemQ Tryd.prog 22 = some (4, 1) := by kernel_rfl
theorem BitsLaw3_z4 : sizeQ Tryd.prog 4 = some 1 := by kernel_rfl
theorem BitsLaw3_k16 : callable Tryd.prog 16 = true := by kernel_rfl
theorem BitsLaw3_k10 : callable Tryd.prog 10 = true := by kernel_rfl
theorem BitsLaw3_p27 : Tryd.prog.underlying 27 = some (.pointer (Tryd.prog.pointee 27)) := by kernel_rfl
theorem BitsLaw3_k14 : callable Tryd.prog 14 = true := by kernel_rfl
theorem BitsLaw3_k8 : callable Tryd.prog 8 = true := by kernel_rfl
theorem BitsLaw3_f25_0 : fieldQ Tryd.prog 25 0 = some 0 := by kernel_rfl
theorem BitsLaw3_g22 : aggQ Tryd.prog 22 = some false := by kernel_rfl
theorem BitsLaw3_l22 : (elemQ Tryd.prog 22).isSome = true := by kernel_rfl
theorem BitsLaw3_k13 : callable Tryd.prog 13 = true := by kernel_rfl
/-- n bits; of the first i every m-th is a one -/
def rl (n m i : Nat) : List Bool := (List.range n).map fun x => decide (x < i) && (x % m == 0)
theorem rl_len (n m i : Nat) : (rl n m i).length = n := by simp [rl]
theorem rl_zero (n m : Nat) : rl n m 0 = List.replicate n false := by
  apply List.ext_getElem
  · simp [rl]
  · intro i h1 h2
    simp [rl]
theorem rl_set (n m i : Nat) (hi : i < n) : (rl n m i).set i (decide (((i % m : Nat) : Int) = 0)) = rl n m (i + 1) := by
  apply List.ext_getElem
  · simp [rl]
  · intro j h1 h2
    rw [List.getElem_set]
    by_cases e : i = j
    · subst e
      rw [if_pos rfl]
      simp only [rl, List.getElem_map, List.getElem_range]
      by_cases hm : i % m = 0
      · simp [hm]
      · have : ¬ ((i % m : Nat) : Int) = 0 := by omega
        rw [decide_eq_false this]
        simp [hm]
    · rw [if_neg e]
      simp only [rl, List.getElem_map, List.getElem_range]
      by_cases hj : j < i
      · simp [hj, show j < i + 1 by omega]
      · simp [hj, show ¬ j < i + 1 by omega]
theorem rl_bt {n m k : Nat} (h : k < n) : bt (rl n m n) k = (k % m == 0) := by
  rw [bt_at (by rw [rl_len]; exact h)]
  simp [rl, h]
theorem div_step {k m : Nat} (hm : 0 < m) : (k + 1 + m - 1) / m = (k + m - 1) / m + (k % m == 0).toNat := by
  have h1 := Nat.div_add_mod k m
  have h2 := Nat.mod_lt k hm
  obtain ⟨q, hq⟩ : ∃ q, q = k / m := ⟨_, rfl⟩
  obtain ⟨r, hr⟩ : ∃ r, r = k % m := ⟨_, rfl⟩
  rw [← hq, ← hr] at h1
  rw [← hr] at h2
  have e1 : (k + 1 + m - 1) / m = q + 1 := by
    rw [show k + 1 + m - 1 = r + m * (q + 1) by rw [Nat.mul_add, Nat.mul_one]; omega, Nat.add_mul_div_left _ _ hm, Nat.div_eq_of_lt h2]; omega
  rw [e1, ← hr]
  by_cases h0 : r = 0
  · have e2 : (k + m - 1) / m = q := by
      rw [show k + m - 1 = (m - 1) + m * q by omega, Nat.add_mul_div_left _ _ hm, Nat.div_eq_of_lt (by omega)]; omega
    rw [e2, h0]; rfl
  · have e2 : (k + m - 1) / m = q + 1 := by
      rw [show k + m - 1 = (r - 1) + m * (q + 1) by rw [Nat.mul_add, Nat.mul_one]; omega, Nat.add_mul_div_left _ _ hm, Nat.div_eq_of_lt (by omega)]; omega
    rw [e2]
    simp [h0]
theorem rl_rk {n m : Nat} (hm : 0 < m) : ∀ k, k ≤ n → rk (rl n m n) k = (k + m - 1) / m
  | 0, _ => by
    rw [Nat.zero_add, Nat.div_eq_of_lt (by omega)]; rfl
  | k + 1, h => by
    rw [rk_succ, rl_rk hm k (by omega), rl_bt (by omega), div_step hm]
theorem rl_sel {n m p k : Nat} (hm : 0 < m) (h1 : p < n) (h2 : bt (rl n m n) p = true) (h3 : rk (rl n m n) p = k) : p = k * m := by
  rw [rl_bt h1, beq_iff_eq] at h2
  rw [rl_rk hm p (by omega)] at h3
  have h4 := Nat.div_add_mod p m
  rw [h2, Nat.add_zero] at h4
  have e2 : (p + m - 1) / m = p / m := by
    obtain ⟨q, hq⟩ : ∃ q, q = p / m := ⟨_, rfl⟩
    rw [← hq] at h4 ⊢
    rw [show p + m - 1 = (m - 1) + m * q by omega, Nat.add_mul_div_left _ _ hm, Nat.div_eq_of_lt (by omega)]; omega
  rw [← h3, e2, Nat.mul_comm]
  exact h4.symm
theorem rows_blk {w : World} {g : Nat} {t : TypeId} {l : List Bool} (h : Blk w g t (l.map boV).toArray) : RowOf boV w (some ⟨g, 0, none⟩) l := RowOf.blk h (fun i hi => arr_at i hi)
theorem new_rl (g n m : Nat) (w : World) (h : RowOf boV w (some ⟨g, 0, none⟩) (rl n m n)) (hn : n ≤ 1000) : Rt Tryd.prog 16 [.slice (some ⟨g, 0, none⟩) n n] w fun v w' => ∃ b, v = .tuple #[.pointer (some ⟨b, 0, none⟩), .int .i64 0] ∧ Vec w' w.heap.size b (rl n m n) ∧ From w w' := by
  have h1 := new_rt (some ⟨g, 0, none⟩) n (rl n m n) w h (by rw [rl_len]; omega)
  rw [rl_len] at h1
  exact h1
set_option maxRecDepth 100000 in
set_option maxHeartbeats 3000000 in
theorem runs_law (A B : Option Addr) (ca cb : Nat) (l : List Bool) (is : List Int) (w : World) (hr : RowOf boV w A l) (hrB : RowOf iV w B is) (hB64 : ∀ x ∈ is, -9223372036854775808 ≤ x ∧ x ≤ 9223372036854775807) (hT : TZ w) :
    Rt Tryd.prog 5 [.agg #[.slice A l.length ca, .slice B is.length cb]] w (fun v w' => v = .bool true ∧ From w w') := by
  refine enter (n := 109) Tryd.func5 rfl rfl rfl ?_
  refine cd_seq ?_
  refine cd_region ?_
  refine st_box (v := .agg _) rfl ?_
  intro b1 w1 E1 hb1 hk1
  refine st_val (ro_assign (v := .bool _) rfl) ?_
  refine st_nil ?_
  refine nx_then ?_
  refine cd_seq ?_
  refine cd_seq ?_
  refine cd_region ?_
  refine st_val (ro_assign (v := .int _ _) rfl) ?_
  refine st_nil ?_
  refine nx_then ?_
  refine cd_block ?_
  refine cd_loop (G := Nat) [2, 4, 5, 6, 7, 8, 9, 10, 11, 12, 13, 14, 15, 16, 17, 18, 19, 20, 21, 22, 23, 24, 25, 26, 27, 28, 29, 30, 31, 32, 33, 34, 35, 36, 37, 38, 39, 40, 41, 42, 43, 44, 45, 46, 47, 48, 49, 50, 51, 52, 53, 54, 55, 56, 57, 58, 59, 60, 61, 62, 63, 64, 65, 66, 67, 68, 69, 70, 71, 72, 73, 74, 75, 76, 77, 78, 79, 80, 81, 82, 83, 84, 85, 86, 87, 88, 89, 90, 91, 92, 93, 94, 95, 96, 97, 98, 99, 100, 101] (fun n => [(3, .int .i64 (n : Nat))]) (fun n w' => n ≤ 1000 ∧ Blk w' b1 25 #[.slice A l.length ca, .slice B is.length cb] ∧ From w w') (fun n => 1000 - n) (0) ⟨rfl, trivial⟩ ?_ ?_
  · exact ⟨by omega, hk1.from_ From.rfl_, (From.rfl_.next E1)⟩
  rintro n ρ2 w2 ⟨hn, hP1, hB⟩
  refine cd_seq ?_
  refine cd_seq ?_
  refine cd_region ?_
  refine st_val (ro_move (v := .int _ _) rfl) ?_
  refine st_val (ro_lss rfl rfl) ?_
  refine st_nil ?_
  refine nx_then ?_
  refine cd_cond rfl (fun Q3 => ?_) (fun Q3 => ?_)
  · (try first | replace Q3 := bn_t Q3 | replace Q3 := bn_f Q3)
    (try first | replace Q3 := bx_t Q3 | replace Q3 := bx_f Q3 | replace Q3 := be_t Q3 | replace Q3 := be_f Q3 | replace Q3 := of_decide_eq_true Q3 | replace Q3 := of_decide_eq_false Q3)
    first
     | (exfalso; first | omega | contradiction | (cases Q3; done))
     | skip
       refine cd_skip ?_
       refine nx_then ?_
       refine cd_seq ?_
       refine cd_block ?_
       refine cd_seq ?_
       refine cd_region ?_
       refine st_val (ro_assign (v := .int _ _) rfl) ?_
       refine st_nil ?_
       refine nx_then ?_
       refine cd_block ?_
       refine cd_loop (G := Nat) [2, 5, 6, 7, 8, 9, 10, 11, 12, 13, 14, 22, 23, 24, 25, 26, 27, 28, 29, 30, 31, 32, 33, 34, 35, 36, 37, 38, 39, 40, 41, 42, 43, 44, 45, 46, 47, 48, 49, 50, 51, 52, 53, 54, 55, 56, 57, 58, 59, 60, 61, 62, 63, 64, 65, 66, 67, 68, 69, 70, 71, 72, 73, 74, 75, 76, 77, 78, 79, 80, 81, 82, 83, 84, 85, 86, 87, 88, 89, 90, 91, 92, 93, 94, 95, 96, 97, 98, 99, 100, 101] (fun m => [(4, .int .i64 (m : Nat))]) (fun m w' => (1 ≤ m ∧ m ≤ 4) ∧ Blk w' b1 25 #[.slice A l.length ca, .slice B is.length cb] ∧ From w w') (fun m => 4 - m) (1) ⟨rfl, trivial⟩ ?_ ?_
       · exact ⟨by omega, hP1.from_ From.rfl_, hB⟩
       rintro m ρ4 w4 ⟨hm, hP1, hB⟩
       refine cd_seq ?_
       refine cd_seq ?_
       refine cd_region ?_
       refine st_val (ro_move (v := .int _ _) rfl) ?_
       refine st_val (ro_leq rfl rfl) ?_
       refine st_nil ?_
       refine nx_then ?_
       refine cd_cond rfl (fun Q5 => ?_) (fun Q5 => ?_)
       · (try first | replace Q5 := bn_t Q5 | replace Q5 := bn_f Q5)
         (try first | replace Q5 := bx_t Q5 | replace Q5 := bx_f Q5 | replace Q5 := be_t Q5 | replace Q5 := be_f Q5 | replace Q5 := of_decide_eq_true Q5 | replace Q5 := of_decide_eq_false Q5)
         first
          | (exfalso; first | omega | contradiction | (cases Q5; done))
          | skip
            refine cd_skip ?_
            refine nx_then ?_
            refine cd_seq ?_
            refine cd_block ?_
            refine cd_seq ?_
            refine cd_region ?_
            refine st_val (ro_move (v := .int _ _) rfl) ?_
            have hl1 := hP1.from_ From.rfl_
            have hl1b := hl1.lt
            refine st_make BitsLaw3_m22 rfl rfl rfl (by omega) (by omega) ?_
            intro b27 w6 E27 hb27 hk27
            have hg27 : w.heap.size ≤ b27 := by rw [hb27]; exact (hB).size
            refine st_val (ro_assign (v := .slice _ _ _) rfl) ?_
            refine st_nil ?_
            refine nx_then ?_
            refine cd_seq ?_
            refine cd_seq ?_
            refine cd_region ?_
            refine st_val (ro_assign (v := .int _ _) rfl) ?_
            refine st_nil ?_
            refine nx_then ?_
            refine cd_block ?_
            refine cd_loop (G := Nat) [28, 29, 30, 31, 32, 33, 34, 35, 36, 37, 38, 39] (fun i => [(6, .int .i64 (i : Nat))]) (fun i w' => i ≤ n ∧ Blk w' b27 4 ((rl n m i).map boV).toArray ∧ Blk w' b1 25 #[.slice A l.length ca, .slice B is.length cb] ∧ From w w') (fun i => n - i) (0) ⟨rfl, trivial⟩ ?_ ?_
            · exact ⟨Nat.zero_le _, by rw [rl_zero, List.map_replicate]; exact hk27, hP1.from_ (From.rfl_.next E27), (hB.next E27)⟩
            rintro i ρ7 w7 ⟨hi, hL, hP1, hB⟩
            refine cd_seq ?_
            refine cd_seq ?_
            refine cd_region ?_
            refine st_val (ro_move (v := .int _ _) rfl) ?_
            refine st_val (ro_move (v := .int _ _) rfl) ?_
            refine st_val (ro_lss rfl rfl) ?_
            refine st_nil ?_
            refine nx_then ?_
            refine cd_cond rfl (fun Q8 => ?_) (fun Q8 => ?_)
            · (try first | replace Q8 := bn_t Q8 | replace Q8 := bn_f Q8)
              (try first | replace Q8 := bx_t Q8 | replace Q8 := bx_f Q8 | replace Q8 := be_t Q8 | replace Q8 := be_f Q8 | replace Q8 := of_decide_eq_true Q8 | replace Q8 := of_decide_eq_false Q8)
              first
               | (exfalso; first | omega | contradiction | (cases Q8; done))
               | skip
                 refine cd_skip ?_
                 refine nx_then ?_
                 refine cd_seq ?_
                 refine cd_block ?_
                 refine cd_region ?_
                 refine st_val (ro_move (v := .slice _ _ _) rfl) ?_
                 refine st_val (ro_move (v := .int _ _) rfl) ?_
                 refine st_val (ro_move (v := .int _ _) rfl) ?_
                 refine st_val (ro_move (v := .int _ _) rfl) ?_
                 refine st_val (ro_remN rfl rfl (by omega)) ?_
                 refine st_val (ro_eql rfl rfl) ?_
                 refine st_val (ro_indexAddr0 BitsLaw3_e22 rfl rfl (by omega)) ?_
                 refine st_put (v := .bool _) BitsLaw3_z4 rfl rfl rfl (hL) (by simp [rl_len]; omega) ?_
                 intro w9 O11 P11
                 have hL2 : Blk w9 b27 4 ((rl n m (i + 1)).map boV).toArray := by rw [← rl_set n m i (by omega), List.map_set, ← List.setIfInBounds_toArray]; exact P11
                 refine st_nil ?_
                 refine nx_block ?_
                 refine nx_then ?_
                 refine cd_region ?_
                 refine st_val (ro_move (v := .int _ _) rfl) ?_
                 refine st_val (ro_addN (b := 1) rfl rfl (by omega)) ?_
                 refine st_val (ro_assign (v := .int _ _) rfl) ?_
                 refine st_nil ?_
                 refine nx_cut (i + 1) ⟨(by first | rfl | (refine int_eq ?_; omega)), trivial⟩ (by (iterate 26 refine agr_cons rfl ?_); exact agr_rfl) ⟨?_, ?_⟩
                 · exact ⟨by omega, hL2, hP1.only O11 (by omega), (hB.only O11 (hg27))⟩
                 · omega
            · (try first | replace Q8 := bn_t Q8 | replace Q8 := bn_f Q8)
              (try first | replace Q8 := bx_t Q8 | replace Q8 := bx_f Q8 | replace Q8 := be_t Q8 | replace Q8 := be_f Q8 | replace Q8 := of_decide_eq_true Q8 | replace Q8 := of_decide_eq_false Q8)
              first
               | (exfalso; first | omega | contradiction | (cases Q8; done))
               | skip
                 refine cd_exit ?_
                 refine ex_then ?_
                 refine ex_then ?_
                 refine ex_block ?_
                 refine nx_then ?_
                 refine cd_seq ?_
                 refine cd_region ?_
                 refine st_val (ro_move (v := .slice _ _ _) rfl) ?_
                 have hz42 := (hB).size
                 have hL4 := hL
                 rw [show i = n by omega] at hL4
                 have hL3 := rows_blk hL4
                 refine st_call BitsLaw3_k16 (new_rl b27 n m _ hL3 (by omega)) ?_
                 rintro v42 w10 ⟨b, rfl, hv, E42⟩
                 replace hv := hv.le hz42
                 refine st_val (ro_move (v := .tuple _) rfl) ?_
                 refine st_val (ro_extract rfl rfl) ?_
                 refine st_val (ro_extract rfl rfl) ?_
                 refine st_val (ro_assign (v := .pointer _) rfl) ?_
                 refine st_val (ro_assign (v := .int _ _) rfl) ?_
                 refine st_nil ?_
                 refine nx_then ?_
                 refine cd_seq ?_
                 refine cd_seq ?_
                 refine cd_region ?_
                 refine st_val (ro_move (v := .int _ _) rfl) ?_
                 refine st_call BitsLaw3_k10 (num_any _ _) ?_
                 rintro v46 w11 ⟨rfl, rfl⟩
                 refine st_val (ro_neq rfl rfl) ?_
                 refine st_val (ro_move (v := .bool _) rfl) ?_
                 refine st_split (t := 48) rfl (fun Q12 => ?_) (fun Q12 => ?_)
                 · (try first | replace Q12 := bn_t Q12 | replace Q12 := bn_f Q12)
                   (try first | replace Q12 := bx_t Q12 | replace Q12 := bx_f Q12 | replace Q12 := be_t Q12 | replace Q12 := be_f Q12 | replace Q12 := of_decide_eq_true Q12 | replace Q12 := of_decide_eq_false Q12)
                   first
                    | (exfalso; first | omega | contradiction | (cases Q12; done))
                    | skip
                      refine st_gno rfl rfl ?_
                      refine st_gno rfl rfl ?_
                      refine st_val (ro_pickT (v := .bool _) rfl rfl) ?_
                      refine st_nil ?_
                      refine nx_then ?_
                      refine cd_condT rfl ?_
                      refine cd_seq ?_
                      refine cd_region ?_
                      refine st_val (ro_assign (v := .bool _) rfl) ?_
                      refine st_nil ?_
                      refine nx_then ?_
                      refine cd_ret ?_
                      refine rt_then ?_
                      refine rt_block ?_
                      refine rt_then ?_
                      refine rt_then ?_
                      refine rt_block ?_
                      refine rt_block ?_
                      refine rt_then ?_
                      refine rt_then ?_
                      refine rt_block ?_
                      refine rt_then ?_
                      refine res1 (v := .bool _) rfl rfl ?_
                      exact ⟨rfl, (hB.next E42)⟩
                 · (try first | replace Q12 := bn_t Q12 | replace Q12 := bn_f Q12)
                   (try first | replace Q12 := bx_t Q12 | replace Q12 := bx_f Q12 | replace Q12 := be_t Q12 | replace Q12 := be_f Q12 | replace Q12 := of_decide_eq_true Q12 | replace Q12 := of_decide_eq_false Q12)
                   first
                    | (exfalso; first | omega | contradiction | (cases Q12; done))
                    | skip
                      refine st_unguard rfl ?_
                      refine st_val (ro_move (v := .pointer _) rfl) ?_
                      refine st_unguard rfl ?_
                      refine st_val (ro_eqlNil BitsLaw3_p27 rfl rfl) ?_
                      refine st_val (ro_pickF (v := .bool _) rfl rfl) ?_
                      refine st_nil ?_
                      refine nx_then ?_
                      refine cd_cond rfl (fun Q13 => ?_) (fun Q13 => ?_)
                      · (try first | replace Q13 := bn_t Q13 | replace Q13 := bn_f Q13)
                        (try first | replace Q13 := bx_t Q13 | replace Q13 := bx_f Q13 | replace Q13 := be_t Q13 | replace Q13 := be_f Q13 | replace Q13 := of_decide_eq_true Q13 | replace Q13 := of_decide_eq_false Q13)
                        first
                         | (exfalso; first | omega | contradiction | (cases Q13; done))
                         | skip
                           refine cd_seq ?_
                           refine cd_region ?_
                           refine st_val (ro_assign (v := .bool _) rfl) ?_
                           refine st_nil ?_
                           refine nx_then ?_
                           refine cd_ret ?_
                           refine rt_then ?_
                           refine rt_block ?_
                           refine rt_then ?_
                           refine rt_then ?_
                           refine rt_block ?_
                           refine rt_block ?_
                           refine rt_then ?_
                           refine rt_then ?_
                           refine rt_block ?_
                           refine rt_then ?_
                           refine res1 (v := .bool _) rfl rfl ?_
                           exact ⟨rfl, (hB.next E42)⟩
                      · (try first | replace Q13 := bn_t Q13 | replace Q13 := bn_f Q13)
                        (try first | replace Q13 := bx_t Q13 | replace Q13 := bx_f Q13 | replace Q13 := be_t Q13 | replace Q13 := be_f Q13 | replace Q13 := of_decide_eq_true Q13 | replace Q13 := of_decide_eq_false Q13)
                        first
                         | (exfalso; first | omega | contradiction | (cases Q13; done))
                         | skip
                           refine cd_skip ?_
                           refine nx_then ?_
                           refine cd_seq ?_
                           refine cd_seq ?_
                           refine cd_region ?_
                           refine st_val (ro_assign (v := .int _ _) rfl) ?_
                           refine st_nil ?_
                           refine nx_then ?_
                           refine cd_block ?_
                           refine cd_loop (G := Nat) [2, 10, 11, 52, 53, 54, 55, 56, 57, 58, 59, 60, 61, 62, 63, 64, 65, 66, 67, 68, 69, 70, 71, 72, 73, 74, 75] (fun k => [(9, .int .i64 (k : Nat))]) (fun k w' => k ≤ n + 1 ∧ Vec w' w.heap.size b (rl n m n) ∧ Blk w' b1 25 #[.slice A l.length ca, .slice B is.length cb] ∧ From w w') (fun k => n + 1 - k) (0) ⟨rfl, trivial⟩ ?_ ?_
                           · exact ⟨Nat.zero_le _, hv.from_ From.rfl_, hP1.from_ (From.rfl_.next E42), (hB.next E42)⟩
                           rintro k ρ14 w14 ⟨hk, hv, hP1, hB⟩
                           refine cd_seq ?_
                           refine cd_seq ?_
                           refine cd_region ?_
                           refine st_val (ro_move (v := .int _ _) rfl) ?_
                           refine st_val (ro_move (v := .int _ _) rfl) ?_
                           refine st_val (ro_leq rfl rfl) ?_
                           refine st_nil ?_
                           refine nx_then ?_
                           refine cd_cond rfl (fun Q15 => ?_) (fun Q15 => ?_)
                           · (try first | replace Q15 := bn_t Q15 | replace Q15 := bn_f Q15)
                             (try first | replace Q15 := bx_t Q15 | replace Q15 := bx_f Q15 | replace Q15 := be_t Q15 | replace Q15 := be_f Q15 | replace Q15 := of_decide_eq_true Q15 | replace Q15 := of_decide_eq_false Q15)
                             first
                              | (exfalso; first | omega | contradiction | (cases Q15; done))
                              | skip
                                refine cd_skip ?_
                                refine nx_then ?_
                                refine cd_seq ?_
                                refine cd_block ?_
                                refine cd_seq ?_
                                refine cd_region ?_
                                refine st_val (ro_move (v := .pointer _) rfl) ?_
                                refine st_val (ro_move (v := .int _ _) rfl) ?_
                                refine st_call BitsLaw3_k14 (rank_rt _ b (k : Nat) _ _ (hv.from_ From.rfl_)) ?_
                                rintro v60 w16 ⟨rfl, E60⟩
                                obtain ⟨hR60, hE60⟩ := rB_at (l := rl n m n) (p := k) (by rw [rl_len]; omega)
                                rw [rl_rk (by omega) k (by omega)] at hR60
                                refine st_val (ro_move (v := .tuple _) rfl) ?_
                                refine st_val (ro_extract rfl rfl) ?_
                                refine st_val (ro_extract rfl rfl) ?_
                                refine st_val (ro_assign (v := .int _ _) rfl) ?_
                                refine st_val (ro_assign (v := .int _ _) rfl) ?_
                                refine st_nil ?_
                                refine nx_then ?_
                                refine cd_seq ?_
                                refine cd_region ?_
                                refine st_val (ro_move (v := .int _ _) rfl) ?_
                                refine st_call BitsLaw3_k10 (num_any _ _) ?_
                                rintro v64 w17 ⟨rfl, rfl⟩
                                refine st_val (ro_neq rfl rfl) ?_
                                refine st_val (ro_move (v := .bool _) rfl) ?_
                                refine st_split (t := 66) rfl (fun Q18 => ?_) (fun Q18 => ?_)
                                · (try first | replace Q18 := bn_t Q18 | replace Q18 := bn_f Q18)
                                  (try first | replace Q18 := bx_t Q18 | replace Q18 := bx_f Q18 | replace Q18 := be_t Q18 | replace Q18 := be_f Q18 | replace Q18 := of_decide_eq_true Q18 | replace Q18 := of_decide_eq_false Q18)
                                  first
                                   | (exfalso; first | omega | contradiction | (cases Q18; done))
                                   | skip
                                     refine st_gno rfl rfl ?_
                                     refine st_gno rfl rfl ?_
                                     refine st_gno rfl rfl ?_
                                     refine st_gno rfl rfl ?_
                                     refine st_gno rfl rfl ?_
                                     refine st_gno rfl rfl ?_
                                     refine st_gno rfl rfl ?_
                                     refine st_gno rfl rfl ?_
                                     refine st_val (ro_pickT (v := .bool _) rfl rfl) ?_
                                     refine st_nil ?_
                                     refine nx_then ?_
                                     refine cd_condT rfl ?_
                                     refine cd_seq ?_
                                     refine cd_region ?_
                                     refine st_val (ro_assign (v := .bool _) rfl) ?_
                                     refine st_nil ?_
                                     refine nx_then ?_
                                     refine cd_ret ?_
                                     refine rt_block ?_
                                     refine rt_then ?_
                                     refine rt_then ?_
                                     refine rt_block ?_
                                     refine rt_then ?_
                                     refine rt_block ?_
                                     refine rt_then ?_
                                     refine rt_then ?_
                                     refine rt_block ?_
                                     refine rt_block ?_
                                     refine rt_then ?_
                                     refine rt_then ?_
                                     refine rt_block ?_
                                     refine rt_then ?_
                                     refine res1 (v := .bool _) rfl rfl ?_
                                     exact ⟨rfl, (hB.next E60)⟩
                                · (try first | replace Q18 := bn_t Q18 | replace Q18 := bn_f Q18)
                                  (try first | replace Q18 := bx_t Q18 | replace Q18 := bx_f Q18 | replace Q18 := be_t Q18 | replace Q18 := be_f Q18 | replace Q18 := of_decide_eq_true Q18 | replace Q18 := of_decide_eq_false Q18)
                                  first
                                   | (exfalso; first | omega | contradiction | (cases Q18; done))
                                   | skip
                                     refine st_unguard rfl ?_
                                     refine st_val (ro_move (v := .int _ _) rfl) ?_
                                     refine st_unguard rfl ?_
                                     refine st_val (ro_move (v := .int _ _) rfl) ?_
                                     refine st_unguard rfl ?_
                                     refine st_val (ro_move (v := .int _ _) rfl) ?_
                                     refine st_unguard rfl ?_
                                     refine st_val (ro_addN rfl rfl (by omega)) ?_
                                     refine st_unguard rfl ?_
                                     refine st_val (ro_subN (b := 1) rfl rfl (by omega)) ?_
                                     refine st_unguard rfl ?_
                                     refine st_val (ro_move (v := .int _ _) rfl) ?_
                                     refine st_unguard rfl ?_
                                     refine st_val (ro_quoN rfl rfl (by exact ⟨by omega, by omega⟩)) ?_
                                     refine st_unguard rfl ?_
                                     refine st_val (ro_neq rfl rfl) ?_
                                     refine st_val (ro_pickF (v := .bool _) rfl rfl) ?_
                                     refine st_nil ?_
                                     refine nx_then ?_
                                     refine cd_cond rfl (fun Q19 => ?_) (fun Q19 => ?_)
                                     · (try first | replace Q19 := bn_t Q19 | replace Q19 := bn_f Q19)
                                       (try first | replace Q19 := bx_t Q19 | replace Q19 := bx_f Q19 | replace Q19 := be_t Q19 | replace Q19 := be_f Q19 | replace Q19 := of_decide_eq_true Q19 | replace Q19 := of_decide_eq_false Q19)
                                       first
                                        | (exfalso; first | omega | contradiction | (cases Q19; done))
                                        | skip
                                          refine cd_seq ?_
                                          refine cd_region ?_
                                          refine st_val (ro_assign (v := .bool _) rfl) ?_
                                          refine st_nil ?_
                                          refine nx_then ?_
                                          refine cd_ret ?_
                                          refine rt_block ?_
                                          refine rt_then ?_
                                          refine rt_then ?_
                                          refine rt_block ?_
                                          refine rt_then ?_
                                          refine rt_block ?_
                                          refine rt_then ?_
                                          refine rt_then ?_
                                          refine rt_block ?_
                                          refine rt_block ?_
                                          refine rt_then ?_
                                          refine rt_then ?_
                                          refine rt_block ?_
                                          refine rt_then ?_
                                          refine res1 (v := .bool _) rfl rfl ?_
                                          exact ⟨rfl, (hB.next E60)⟩
                                     · (try first | replace Q19 := bn_t Q19 | replace Q19 := bn_f Q19)
                                       (try first | replace Q19 := bx_t Q19 | replace Q19 := bx_f Q19 | replace Q19 := be_t Q19 | replace Q19 := be_f Q19 | replace Q19 := of_decide_eq_true Q19 | replace Q19 := of_decide_eq_false Q19)
                                       first
                                        | (exfalso; first | omega | contradiction | (cases Q19; done))
                                        | skip
                                          refine cd_skip ?_
                                          refine nx_block ?_
                                          refine nx_then ?_
                                          refine cd_region ?_
                                          refine st_val (ro_move (v := .int _ _) rfl) ?_
                                          refine st_val (ro_addN (b := 1) rfl rfl (by omega)) ?_
                                          refine st_val (ro_assign (v := .int _ _) rfl) ?_
                                          refine st_nil ?_
                                          refine nx_cut (k + 1) ⟨(by first | rfl | (refine int_eq ?_; omega)), trivial⟩ (by (iterate 56 refine agr_cons rfl ?_); exact agr_rfl) ⟨?_, ?_⟩
                                          · exact ⟨by omega, hv.from_ (From.rfl_.next E60), hP1.from_ (From.rfl_.next E60), (hB.next E60)⟩
                                          · omega
                           · (try first | replace Q15 := bn_t Q15 | replace Q15 := bn_f Q15)
                             (try first | replace Q15 := bx_t Q15 | replace Q15 := bx_f Q15 | replace Q15 := be_t Q15 | replace Q15 := be_f Q15 | replace Q15 := of_decide_eq_true Q15 | replace Q15 := of_decide_eq_false Q15)
                             first
                              | (exfalso; first | omega | contradiction | (cases Q15; done))
                              | skip
                                refine cd_exit ?_
                                refine ex_then ?_
                                refine ex_then ?_
                                refine ex_block ?_
                                refine nx_then ?_
                                refine cd_seq ?_
                                refine cd_region ?_
                                refine st_val (ro_assign (v := .int _ _) rfl) ?_
                                refine st_nil ?_
                                refine nx_then ?_
                                refine cd_block ?_
                                refine cd_loop (G := Nat) [2, 13, 14, 76, 77, 78, 79, 80, 81, 82, 83, 84, 85, 86, 87, 88, 89, 90, 91, 92, 93, 94, 95, 96, 97, 98, 99, 100, 101] (fun k => [(12, .int .i64 (k : Nat))]) (fun k w' => k ≤ n + 2 ∧ Vec w' w.heap.size b (rl n m n) ∧ Blk w' b1 25 #[.slice A l.length ca, .slice B is.length cb] ∧ From w w') (fun k => n + 2 - k) (0) ⟨rfl, trivial⟩ ?_ ?_
                                · exact ⟨Nat.zero_le _, hv.from_ From.rfl_, hP1.from_ From.rfl_, hB⟩
                                rintro k ρ20 w20 ⟨hk, hv, hP1, hB⟩
                                have hcn : (n + m - 1) / m ≤ n + m - 1 := Nat.div_le_self _ _
                                refine cd_seq ?_
                                refine cd_seq ?_
                                refine cd_region ?_
                                refine st_val (ro_move (v := .int _ _) rfl) ?_
                                refine st_val (ro_move (v := .int _ _) rfl) ?_
                                refine st_val (ro_move (v := .int _ _) rfl) ?_
                                refine st_val (ro_addN rfl rfl (by omega)) ?_
                                refine st_val (ro_subN (b := 1) rfl rfl (by omega)) ?_
                                refine st_val (ro_move (v := .int _ _) rfl) ?_
                                refine st_val (ro_quoN rfl rfl (by exact ⟨by omega, by omega⟩)) ?_
                                refine st_val (ro_lss rfl rfl) ?_
                                refine st_nil ?_
                                refine nx_then ?_
                                refine cd_cond rfl (fun Q21 => ?_) (fun Q21 => ?_)
                                · (try first | replace Q21 := bn_t Q21 | replace Q21 := bn_f Q21)
                                  (try first | replace Q21 := bx_t Q21 | replace Q21 := bx_f Q21 | replace Q21 := be_t Q21 | replace Q21 := be_f Q21 | replace Q21 := of_decide_eq_true Q21 | replace Q21 := of_decide_eq_false Q21)
                                  first
                                   | (exfalso; first | omega | contradiction | (cases Q21; done))
                                   | skip
                                     refine cd_skip ?_
                                     refine nx_then ?_
                                     refine cd_seq ?_
                                     refine cd_block ?_
                                     refine cd_seq ?_
                                     refine cd_region ?_
                                     refine st_val (ro_move (v := .pointer _) rfl) ?_
                                     refine st_val (ro_move (v := .int _ _) rfl) ?_
                                     refine st_call BitsLaw3_k8 (sel1_k _ b k _ _ (hv.from_ From.rfl_) (hT.from_ hB) (by rw [rl_len, rl_rk (by omega) n (Nat.le_refl _)]; omega)) ?_
                                     rintro v89 w22 ⟨p89, rfl, hp89a, hp89b, hp89c, E89⟩
                                     have hpk := rl_sel (by omega) (by rw [rl_len] at hp89a; exact hp89a) hp89b hp89c
                                     refine st_val (ro_move (v := .tuple _) rfl) ?_
                                     refine st_val (ro_extract rfl rfl) ?_
                                     refine st_val (ro_extract rfl rfl) ?_
                                     refine st_val (ro_assign (v := .int _ _) rfl) ?_
                                     refine st_val (ro_assign (v := .int _ _) rfl) ?_
                                     refine st_nil ?_
                                     refine nx_then ?_
                                     refine cd_seq ?_
                                     refine cd_region ?_
                                     refine st_val (ro_move (v := .int _ _) rfl) ?_
                                     refine st_call BitsLaw3_k10 (num_any _ _) ?_
                                     rintro v93 w23 ⟨rfl, rfl⟩
                                     refine st_val (ro_neq rfl rfl) ?_
                                     refine st_val (ro_move (v := .bool _) rfl) ?_
                                     refine st_split (t := 95) rfl (fun Q24 => ?_) (fun Q24 => ?_)
                                     · (try first | replace Q24 := bn_t Q24 | replace Q24 := bn_f Q24)
                                       (try first | replace Q24 := bx_t Q24 | replace Q24 := bx_f Q24 | replace Q24 := be_t Q24 | replace Q24 := be_f Q24 | replace Q24 := of_decide_eq_true Q24 | replace Q24 := of_decide_eq_false Q24)
                                       first
                                        | (exfalso; first | omega | contradiction | (cases Q24; done))
                                        | skip
                                          refine st_gno rfl rfl ?_
                                          refine st_gno rfl rfl ?_
                                          refine st_gno rfl rfl ?_
                                          refine st_gno rfl rfl ?_
                                          refine st_gno rfl rfl ?_
                                          refine st_val (ro_pickT (v := .bool _) rfl rfl) ?_
                                          refine st_nil ?_
                                          refine nx_then ?_
                                          refine cd_condT rfl ?_
                                          refine cd_seq ?_
                                          refine cd_region ?_
                                          refine st_val (ro_assign (v := .bool _) rfl) ?_
                                          refine st_nil ?_
                                          refine nx_then ?_
                                          refine cd_ret ?_
                                          refine rt_block ?_
                                          refine rt_then ?_
                                          refine rt_then ?_
                                          refine rt_block ?_
                                          refine rt_block ?_
                                          refine rt_then ?_
                                          refine rt_then ?_
                                          refine rt_block ?_
                                          refine rt_block ?_
                                          refine rt_then ?_
                                          refine rt_then ?_
                                          refine rt_block ?_
                                          refine rt_then ?_
                                          refine res1 (v := .bool _) rfl rfl ?_
                                          exact ⟨rfl, (hB.next E89)⟩
                                     · (try first | replace Q24 := bn_t Q24 | replace Q24 := bn_f Q24)
                                       (try first | replace Q24 := bx_t Q24 | replace Q24 := bx_f Q24 | replace Q24 := be_t Q24 | replace Q24 := be_f Q24 | replace Q24 := of_decide_eq_true Q24 | replace Q24 := of_decide_eq_false Q24)
                                       first
                                        | (exfalso; first | omega | contradiction | (cases Q24; done))
                                        | skip
                                          refine st_unguard rfl ?_
                                          refine st_val (ro_move (v := .int _ _) rfl) ?_
                                          refine st_unguard rfl ?_
                                          refine st_val (ro_move (v := .int _ _) rfl) ?_
                                          refine st_unguard rfl ?_
                                          refine st_val (ro_move (v := .int _ _) rfl) ?_
                                          refine st_unguard rfl ?_
                                          refine st_val (ro_mulN rfl rfl (by have h9 : k * m ≤ 400 * 3 := Nat.mul_le_mul (by omega) (by omega); omega)) ?_
                                          refine st_unguard rfl ?_
                                          refine st_val (ro_neq rfl rfl) ?_
                                          refine st_val (ro_pickF (v := .bool _) rfl rfl) ?_
                                          refine st_nil ?_
                                          refine nx_then ?_
                                          refine cd_cond rfl (fun Q25 => ?_) (fun Q25 => ?_)
                                          · (try first | replace Q25 := bn_t Q25 | replace Q25 := bn_f Q25)
                                            (try first | replace Q25 := bx_t Q25 | replace Q25 := bx_f Q25 | replace Q25 := be_t Q25 | replace Q25 := be_f Q25 | replace Q25 := of_decide_eq_true Q25 | replace Q25 := of_decide_eq_false Q25)
                                            first
                                             | (exfalso; first | omega | contradiction | (cases Q25; done))
                                             | skip
                                               refine cd_seq ?_
                                               refine cd_region ?_
                                               refine st_val (ro_assign (v := .bool _) rfl) ?_
                                               refine st_nil ?_
                                               refine nx_then ?_
                                               refine cd_ret ?_
                                               refine rt_block ?_
                                               refine rt_then ?_
                                               refine rt_then ?_
                                               refine rt_block ?_
                                               refine rt_block ?_
                                               refine rt_then ?_
                                               refine rt_then ?_
                                               refine rt_block ?_
                                               refine rt_block ?_
                                               refine rt_then ?_
                                               refine rt_then ?_
                                               refine rt_block ?_
                                               refine rt_then ?_
                                               refine res1 (v := .bool _) rfl rfl ?_
                                               exact ⟨rfl, (hB.next E89)⟩
                                          · (try first | replace Q25 := bn_t Q25 | replace Q25 := bn_f Q25)
                                            (try first | replace Q25 := bx_t Q25 | replace Q25 := bx_f Q25 | replace Q25 := be_t Q25 | replace Q25 := be_f Q25 | replace Q25 := of_decide_eq_true Q25 | replace Q25 := of_decide_eq_false Q25)
                                            first
                                             | (exfalso; first | omega | contradiction | (cases Q25; done))
                                             | skip
                                               refine cd_skip ?_
                                               refine nx_block ?_
                                               refine nx_then ?_
                                               refine cd_region ?_
                                               refine st_val (ro_move (v := .int _ _) rfl) ?_
                                               refine st_val (ro_addN (b := 1) rfl rfl (by omega)) ?_
                                               refine st_val (ro_assign (v := .int _ _) rfl) ?_
                                               refine st_nil ?_
                                               refine nx_cut (k + 1) ⟨(by first | rfl | (refine int_eq ?_; omega)), trivial⟩ (by (iterate 60 refine agr_cons rfl ?_); exact agr_rfl) ⟨?_, ?_⟩
                                               · exact ⟨by omega, hv.from_ (From.rfl_.next E89), hP1.from_ (From.rfl_.next E89), (hB.next E89)⟩
                                               · omega
                                · (try first | replace Q21 := bn_t Q21 | replace Q21 := bn_f Q21)
                                  (try first | replace Q21 := bx_t Q21 | replace Q21 := bx_f Q21 | replace Q21 := be_t Q21 | replace Q21 := be_f Q21 | replace Q21 := of_decide_eq_true Q21 | replace Q21 := of_decide_eq_false Q21)
                                  first
                                   | (exfalso; first | omega | contradiction | (cases Q21; done))
                                   | skip
                                     refine cd_exit ?_
                                     refine ex_then ?_
                                     refine ex_then ?_
                                     refine ex_block ?_
                                     refine nx_block ?_
                                     refine nx_then ?_
                                     refine cd_region ?_
                                     refine st_val (ro_move (v := .int _ _) rfl) ?_
                                     refine st_val (ro_addN (b := 1) rfl rfl (by omega)) ?_
                                     refine st_val (ro_assign (v := .int _ _) rfl) ?_
                                     refine st_nil ?_
                                     refine nx_cut (m + 1) ⟨(by first | rfl | (refine int_eq ?_; omega)), trivial⟩ (by (iterate 203 refine agr_cons rfl ?_); exact agr_rfl) ⟨?_, ?_⟩
                                     · exact ⟨by omega, hP1.from_ From.rfl_, hB⟩
                                     · omega
       · (try first | replace Q5 := bn_t Q5 | replace Q5 := bn_f Q5)
         (try first | replace Q5 := bx_t Q5 | replace Q5 := bx_f Q5 | replace Q5 := be_t Q5 | replace Q5 := be_f Q5 | replace Q5 := of_decide_eq_true Q5 | replace Q5 := of_decide_eq_false Q5)
         first
          | (exfalso; first | omega | contradiction | (cases Q5; done))
          | skip
            refine cd_exit ?_
            refine ex_then ?_
            refine ex_then ?_
            refine ex_block ?_
            refine nx_block ?_
            refine nx_then ?_
            refine cd_region ?_
            refine st_val (ro_move (v := .int _ _) rfl) ?_
            refine st_val (ro_addN (b := 1) rfl rfl (by omega)) ?_
            refine st_val (ro_move (v := .int _ _) rfl) ?_
            refine st_val (ro_quoN (b := 3) rfl rfl (by omega)) ?_
            refine st_val (ro_addN rfl rfl (by omega)) ?_
            refine st_val (ro_assign (v := .int _ _) rfl) ?_
            refine st_nil ?_
            refine nx_cut (n + 1 + n / 3) ⟨(by first | rfl | (refine int_eq ?_; omega)), trivial⟩ (by (iterate 203 refine agr_cons rfl ?_); exact agr_rfl) ⟨?_, ?_⟩
            · exact ⟨by omega, hP1.from_ From.rfl_, hB⟩
            · omega
  · (try first | replace Q3 := bn_t Q3 | replace Q3 := bn_f Q3)
    (try first | replace Q3 := bx_t Q3 | replace Q3 := bx_f Q3 | replace Q3 := be_t Q3 | replace Q3 := be_f Q3 | replace Q3 := of_decide_eq_true Q3 | replace Q3 := of_decide_eq_false Q3)
    first
     | (exfalso; first | omega | contradiction | (cases Q3; done))
     | skip
       refine cd_exit ?_
       refine ex_then ?_
       refine ex_then ?_
       refine ex_block ?_
       refine nx_then ?_
       refine cd_seq ?_
       refine cd_region ?_
       refine st_val (ro_fieldAddr BitsLaw3_f25_0 rfl) ?_
       refine st_val (ro_load BitsLaw3_g22 rfl (by first | (first | exact (hP1.from_ From.rfl_).rd 0 rfl | exact (hk1.from_ From.rfl_).rd 0 rfl))) ?_
       refine st_val (ro_len BitsLaw3_l22 rfl) ?_
       refine st_val (ro_geq rfl rfl) ?_
       refine st_val (ro_move (v := .bool _) rfl) ?_
       refine st_split (t := 106) rfl (fun Q26 => ?_) (fun Q26 => ?_)
       · (try first | replace Q26 := bn_t Q26 | replace Q26 := bn_f Q26)
         (try first | replace Q26 := bx_t Q26 | replace Q26 := bx_f Q26 | replace Q26 := be_t Q26 | replace Q26 := be_f Q26 | replace Q26 := of_decide_eq_true Q26 | replace Q26 := of_decide_eq_false Q26)
         first
          | (exfalso; first | omega | contradiction | (cases Q26; done))
          | skip
            refine st_unguard rfl ?_
            refine st_call BitsLaw3_k13 (wakes_any _) ?_
            rintro v107 w27 ⟨rfl, E107⟩
            refine st_val (ro_pickT (v := .bool _) rfl rfl) ?_
            refine st_val (ro_assign (v := .bool _) rfl) ?_
            refine st_nil ?_
            refine nx_then ?_
            refine cd_ret ?_
            refine res1 (v := .bool _) rfl rfl ?_
            exact ⟨rfl, (hB.next E107)⟩
       · (try first | replace Q26 := bn_t Q26 | replace Q26 := bn_f Q26)
         (try first | replace Q26 := bx_t Q26 | replace Q26 := bx_f Q26 | replace Q26 := be_t Q26 | replace Q26 := be_f Q26 | replace Q26 := of_decide_eq_true Q26 | replace Q26 := of_decide_eq_false Q26)
         first
          | (exfalso; first | omega | contradiction | (cases Q26; done))
          | skip
            refine st_gno rfl rfl ?_
            refine st_val (ro_pickF (v := .bool _) rfl rfl) ?_
            refine st_val (ro_assign (v := .bool _) rfl) ?_
            refine st_nil ?_
            refine nx_then ?_
            refine cd_ret ?_
            refine res1 (v := .bool _) rfl rfl ?_
            exact ⟨rfl, hB⟩
theorem table_of3 {W : World} (h : laidMetH Tryd.prog Rows.bitsRunsRow.laid W) : TZ W := table_of h
theorem runs_arg (cs : Array Value) (x : (Ty.pr (.sl .bool) (.pr (.sl (.int .i64)) .unit)).den) (w : World) (hs : cs.size = 2) (h : (Ty.pr (.sl .bool) (.pr (.sl (.int .i64)) .unit)).At w (fun j => cs[j]?) x) (hT : TZ w) :
    Rt Tryd.prog 5 [.agg cs] w fun v w' => v = .bool true ∧ From w w' := by
  obtain ⟨A, ca, l, B, cb, is, rfl, h1, _, h3, _, h5⟩ := ask_of hs h
  exact runs_law A B ca cb l is w h1 h3 h5 hT
/-- A WORLD FOR THE WITNESS: the settled one, the variables holding what their initialisers lay. -/
noncomputable def BitsRuns_world (os : Os) : World :=
  { World.holding Tryd.prog os ⟨#[], #[], []⟩ with heap := (World.holding Tryd.prog os ⟨#[], #[], []⟩).heap.modify 0 fun | .cells _ t frozen => .cells #[.int .u8 0, .int .u8 1, .int .u8 56, .int .u8 2, .int .u8 57, .int .u8 49, .int .u8 28, .int .u8 3, .int .u8 61, .int .u8 58, .int .u8 42, .int .u8 50, .int .u8 38, .int .u8 29, .int .u8 17, .int .u8 4, .int .u8 62, .int .u8 47, .int .u8 59, .int .u8 36, .int .u8 45, .int .u8 43, .int .u8 51, .int .u8 22, .int .u8 53, .int .u8 39, .int .u8 33, .int .u8 30, .int .u8 24, .int .u8 18, .int .u8 12, .int .u8 5, .int .u8 63, .int .u8 55, .int .u8 48, .int .u8 27, .int .u8 60, .int .u8 41, .int .u8 37, .int .u8 16, .int .u8 46, .int .u8 35, .int .u8 44, .int .u8 21, .int .u8 52, .int .u8 32, .int .u8 23, .int .u8 11, .int .u8 54, .int .u8 26, .int .u8 40, .int .u8 15, .int .u8 34, .int .u8 20, .int .u8 31, .int .u8 10, .int .u8 25, .int .u8 14, .int .u8 19, .int .u8 9, .int .u8 13, .int .u8 8, .int .u8 7, .int .u8 6] t frozen | o => o }
theorem BitsRuns_met (os : Os) : laidMet Tryd.prog Rows.bitsRunsRow.laid ((BitsRuns_world os).forCall (fun _ _ => 0) ⟨#[], #[.agg #[.slice none 0 0, .slice none 0 0]], []⟩).memory :=
  laidMet_of_run' 8 (by kernel_rfl) (by kernel_rfl)
theorem BitsRuns_reads (os : Os) {H : Type} (enc : TypeId × Value → H) : ∃ places, DataW.whole enc Tryd.prog ((BitsRuns_world os).forCall (fun _ _ => 0) ⟨#[], #[.agg #[.slice none 0 0, .slice none 0 0]], []⟩).memory Tryd.f5.params.toList Rows.bitsRunsSpec.vars false #[(.agg #[.slice none 0 0, .slice none 0 0] : Value)].toList 8 = some ([.agg [.nil, .nil]], [], places) :=
  ⟨[], by kernel_rfl⟩

set_option maxRecDepth 100000 in
theorem BitsRuns_lifted (os : Os) (started : os.Started) (H : Type) (enc : TypeId × Value → H) (F : Stop.Interp) :
    ReturnsInHanded {} Tryd.checked os 5 .any ((OpenSpec.ofChange Rows.bitsRunsSpec).preRow enc Tryd.prog Tryd.f5 Rows.bitsRunsRow.domain false Rows.bitsRunsRow.laid) (((OpenSpec.ofChange Rows.bitsRunsSpec).at F).post enc Tryd.prog Tryd.f5 false true false false) := by
  obtain ⟨places, hx⟩ := BitsRuns_reads os enc
  refine returnsInHanded_of_row (C := Tryd.checked) (s := OpenSpec.ofChange Rows.bitsRunsSpec) Tryd.own started (by kernel_rfl) Tryd.func5
    (witness_row_at (enc := enc) (C := Tryd.checked) false (BitsRuns_world os) #[.agg #[.slice none 0 0, .slice none 0 0]] rfl (by kernel_rfl) (by kernel_rfl) (by kernel_rfl)
      (OpenSpec.preRow_of_cond 8 hx (by kernel_rfl) (fun k hk => by cases hk) (by kernel_rfl) (BitsRuns_met os))) ?_
  intro W base args ds gs before hval hW _ _ hsz hL hS _
  exact law_step_laid 5 Tryd.f5 25 4 Rows.bitsRunsSpec Tryd.params5 (by kernel_rfl) Tryd.underlying4 rfl (fun _ => rfl) (by kernel_rfl) (of_decide_eq_true (by kernel_rfl)) Rows.bitsRunsRow.laid (walk_laid (.sl .bool) (.pr (.sl (.int .i64)) .unit) (by kernel_rfl) Rows.bitsRunsRow.laid (fun _ h => table_of h) runs_arg) W base args ds gs before hval hW hsz hL hS

theorem BitsRuns_said : Rows.BitsRunsSaid :=
  OpenClaim.holds_of_cond 5 Tryd.f5 rfl rfl rfl rfl rfl rfl rfl ⟨rfl, rfl, rfl, rfl, rfl⟩ rfl rfl rfl rfl rfl (by kernel_rfl) Tryd.func5 (by kernel_rfl)
    (of_decide_eq_true (by kernel_rfl)) (by unfold Func.isWrapper; first | (rw [if_pos (by decide +kernel)]; kernel_rfl) | (rw [if_neg (by decide +kernel)]; exact ⟨rfl, rfl⟩))
    (fun os started H enc _ F => by rw [OpenClaim.pre_eq_preRow]; exact BitsRuns_lifted os started H enc F)

theorem BitsRuns_plain (f : FuncId) (fn : Func) (hf : Tryd.pinned.checked.prog.funcNamed "lectern/lecternlaw1.BitsRuns" = some f) (hfn : Tryd.pinned.checked.prog.funcs[f]? = some fn) :
    false = Tryd.pinned.checked.prog.looks [] ∧ ∀ (j : Nat) t, fn.params[j]? = some t → Tryd.pinned.checked.prog.wantsStandIn t = false := by
  obtain rfl : f = 5 := Option.some.inj ((show Tryd.prog.funcNamed "lectern/lecternlaw1.BitsRuns" = some 5 by kernel_rfl).symm.trans hf) |>.symm
  obtain rfl : fn = Tryd.f5 := (Option.some.inj (Tryd.func5.symm.trans hfn)).symm
  refine ⟨by kernel_rfl, fun j t ht => ?_⟩
  rw [(Tryd.params5)] at ht
  obtain rfl : t = 25 := by simpa using Array.mem_of_getElem? ht
  exact (show Tryd.prog.wantsStandIn 25 = false by kernel_rfl)

theorem BitsRuns_holds : Rows.BitsRunsCardSaid :=
  Claim7.holds_tied_plain_at .later [] _ _ _ _ BitsRuns_said (fun _ h => by cases h) (by kernel_rfl) (fun _ h => by cases h) bitsRuns_row_tie rfl ⟨rfl, rfl⟩ (by kernel_rfl) rfl BitsRuns_plain (by kernel_rfl)
#print axioms BitsRuns_holds

end Go.Proofs.YtmjppicoffbdcaaDoor
