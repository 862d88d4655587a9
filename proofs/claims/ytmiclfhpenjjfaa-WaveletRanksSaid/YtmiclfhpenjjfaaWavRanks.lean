/- The law WaveletRanks. -/
import Derived.Test.YtmiclfhpenjjfaaWavHelp
namespace Go.Proofs.Ytmiclfhpenjjfaa
open Go.RowKit
open Go.ChangeShapes Go.WideShapes Go.ChangeAt
theorem WavRanks_e22 : elemQ Try.prog 22 = some (3, 1) := by kernel_rfl
theorem WavRanks_g3 : aggQ Try.prog 3 = some false := by kernel_rfl
theorem WavRanks_g22 : aggQ Try.prog 22 = some false := by kernel_rfl
theorem WavRanks_g24 : aggQ Try.prog 24 = some true := by kernel_rfl
theorem WavRanks_z24 : sizeQ Try.prog 24 = some 3 := by kernel_rfl
theorem WavRanks_k6 : callable Try.prog 6 = true := by kernel_rfl
theorem WavRanks_k7 : callable Try.prog 7 = true := by kernel_rfl
theorem WavRanks_p26 : Try.prog.underlying 26 = some (.pointer (Try.prog.pointee 26)) := by kernel_rfl
theorem WavRanks_k8 : callable Try.prog 8 = true := by kernel_rfl
theorem WavRanks_f24_2 : fieldQ Try.prog 24 2 = some 2 := by kernel_rfl
theorem WavRanks_l22 : (elemQ Try.prog 22).isSome = true := by kernel_rfl
theorem WavRanks_k14 : callable Try.prog 14 = true := by kernel_rfl
theorem WavRanks_k12 : callable Try.prog 12 = true := by kernel_rfl
theorem WavRanks_f24_0 : fieldQ Try.prog 24 0 = some 0 := by kernel_rfl
theorem WavRanks_f24_1 : fieldQ Try.prog 24 1 = some 1 := by kernel_rfl
theorem WavRanks_k13 : callable Try.prog 13 = true := by kernel_rfl
theorem cnt_step (p : Int → Bool) {xs : List Int} {i : Nat} (h : i < xs.length) : (xs.take (i + 1)).countP p = (xs.take i).countP p + if p xs[i] then 1 else 0 := by
  rw [List.take_succ_eq_append_getElem h, List.countP_append, List.countP_cons]
  simp
theorem rk_in {K : Nat} {L : List Nat} {xs : List Int} (hx : xs = L.map fun x : Nat => (x : Int)) {c i : Int} (h : 0 ≤ c ∧ c < (K : Nat)) (hi : 0 ≤ i ∧ i ≤ (xs.length : Nat)) : ((0 : Int) ≠ 0 → kE K L c i = 0 ∧ kV K L c i = 0) ∧ ((0 : Int) = 0 → kE K L c i = 0 ∧ kV K L c i = ((xs.take i.toNat).countP (fun x => decide (x = c)) : Nat)) := by
  subst hx
  rw [List.length_map] at hi
  unfold kE kV
  rw [if_pos h, if_pos hi, if_pos h, if_pos hi]
  refine ⟨fun h => absurd rfl h, fun _ => ⟨rfl, ?_⟩⟩
  obtain ⟨q, rfl⟩ : ∃ q : Nat, c = (q : Int) := ⟨c.toNat, by omega⟩
  unfold cntC
  rw [← List.map_take, List.countP_map, Int.toNat_natCast]
  congr 2
  funext x
  simp
  omega
theorem rk_out {K : Nat} {L : List Nat} {c i : Int} (h : ¬ (0 ≤ c ∧ c < (K : Nat))) : ((1 : Int) ≠ 0 → kE K L c i = 1 ∧ kV K L c i = 0) ∧ ((1 : Int) = 0 → kE K L c i = 0 ∧ kV K L c i = 0) := by
  unfold kE kV
  rw [if_neg h, if_neg h]
  exact ⟨fun _ => ⟨rfl, rfl⟩, fun h => by omega⟩
theorem rk_far {K : Nat} {L : List Nat} {xs : List Int} (hxl : xs.length = L.length) {c i : Int} (h : 0 ≤ c ∧ c < (K : Nat)) (hi : ¬ (0 ≤ i ∧ i ≤ (xs.length : Nat))) : ((3 : Int) ≠ 0 → kE K L c i = 3 ∧ kV K L c i = 0) ∧ ((3 : Int) = 0 → kE K L c i = 0 ∧ kV K L c i = 0) := by
  rw [hxl] at hi
  unfold kE kV
  rw [if_pos h, if_neg hi, if_pos h, if_neg hi]
  exact ⟨fun _ => ⟨rfl, rfl⟩, fun h => by omega⟩
set_option maxRecDepth 100000 in
set_option maxHeartbeats 400000 in
theorem refRank_n (c : Int) (q : Nat) (A : Option Addr) (ca : Nat) (xs : List Int) (w : World) (hr : RowOf iV w A xs) (hl : xs.length ≤ 1000000000000) (hq : q ≤ xs.length) :
    Rt Try.prog 13 [.slice A xs.length ca, .int .i64 c, .int .i64 (q : Nat)] w (fun v w' => v = .int .i64 (((xs.take q).countP (fun x => decide (x = c)) : Nat) : Int) ∧ w = w') := by
  refine enter (n := 23) Try.func13 rfl rfl rfl ?_
  refine cd_seq ?_
  refine cd_region ?_
  refine st_val (ro_assign (v := .int _ _) rfl) ?_
  refine st_nil ?_
  refine nx_then ?_
  refine cd_seq ?_
  refine cd_region ?_
  refine st_val (ro_assign (v := .int _ _) rfl) ?_
  refine st_nil ?_
  refine nx_then ?_
  refine cd_seq ?_
  refine cd_seq ?_
  refine cd_region ?_
  refine st_val (ro_assign (v := .int _ _) rfl) ?_
  refine st_nil ?_
  refine nx_then ?_
  refine cd_block ?_
  refine cd_loop (G := Nat) [9, 10, 11, 12, 13, 14, 15, 16, 17, 18, 19, 20, 21] (fun i => [(7, .int .i64 (((xs.take i).countP (fun x => decide (x = c)) : Nat) : Int)), (8, .int .i64 (i : Nat))]) (fun i w' => i ≤ q ∧ w = w') (fun i => q - i) (0) ⟨rfl, rfl, trivial⟩ ?_ ?_
  · exact ⟨Nat.zero_le _, rfl⟩
  rintro i ρ1 w1 ⟨hi, rfl⟩
  refine cd_seq ?_
  refine cd_seq ?_
  refine cd_region ?_
  refine st_val (ro_move (v := .int _ _) rfl) ?_
  refine st_val (ro_move (v := .int _ _) rfl) ?_
  refine st_val (ro_lss rfl rfl) ?_
  refine st_nil ?_
  refine nx_then ?_
  refine cd_cond rfl (fun Q2 => ?_) (fun Q2 => ?_)
  · (try first | replace Q2 := bn_t Q2 | replace Q2 := bn_f Q2)
    (try first | replace Q2 := bx_t Q2 | replace Q2 := bx_f Q2 | replace Q2 := be_t Q2 | replace Q2 := be_f Q2 | replace Q2 := of_decide_eq_true Q2 | replace Q2 := of_decide_eq_false Q2)
    have hiL : i < xs.length := by omega
    have hcl := List.countP_le_length (p := (fun x => decide (x = c))) (l := xs.take i)
    have htl := List.length_take_le i xs
    obtain ⟨ba, oa, hA, hca⟩ := hr (by omega)
    subst hA
    first
     | (exfalso; first | omega | contradiction | (cases Q2; done))
     | skip
       refine cd_skip ?_
       refine nx_then ?_
       refine cd_seq ?_
       refine cd_block ?_
       refine cd_seq ?_
       refine cd_region ?_
       refine st_val (ro_move (v := .slice _ _ _) rfl) ?_
       refine st_val (ro_move (v := .int _ _) rfl) ?_
       refine st_val (ro_indexAddr1 WavRanks_e22 rfl rfl (by omega)) ?_
       refine st_val (ro_load WavRanks_g3 rfl (by exact hca i hiL)) ?_
       refine st_val (ro_move (v := .int _ _) rfl) ?_
       refine st_val (ro_eql rfl rfl) ?_
       refine st_nil ?_
       refine nx_then ?_
       refine cd_cond rfl (fun Q3 => ?_) (fun Q3 => ?_)
       · (try first | replace Q3 := bn_t Q3 | replace Q3 := bn_f Q3)
         (try first | replace Q3 := bx_t Q3 | replace Q3 := bx_f Q3 | replace Q3 := be_t Q3 | replace Q3 := be_f Q3 | replace Q3 := of_decide_eq_true Q3 | replace Q3 := of_decide_eq_false Q3)
         have hs : (xs.take (i + 1)).countP (fun x => decide (x = c)) = (xs.take i).countP (fun x => decide (x = c)) + 1 := by rw [cnt_step _ hiL, if_pos (decide_eq_true Q3)]
         first
          | (exfalso; first | omega | contradiction | (cases Q3; done))
          | skip
            refine cd_region ?_
            refine st_val (ro_move (v := .int _ _) rfl) ?_
            refine st_val (ro_addN (b := 1) rfl rfl (by omega)) ?_
            refine st_val (ro_assign (v := .int _ _) rfl) ?_
            refine st_nil ?_
            refine nx_block ?_
            refine nx_then ?_
            refine cd_region ?_
            refine st_val (ro_move (v := .int _ _) rfl) ?_
            refine st_val (ro_addN (b := 1) rfl rfl (by omega)) ?_
            refine st_val (ro_assign (v := .int _ _) rfl) ?_
            refine st_nil ?_
            refine nx_cut (i + 1) ⟨(int_eq (by rw [hs])), rfl, trivial⟩ (by (iterate 30 refine agr_cons rfl ?_); exact agr_rfl) ⟨?_, ?_⟩
            · exact ⟨by omega, rfl⟩
            · omega
       · (try first | replace Q3 := bn_t Q3 | replace Q3 := bn_f Q3)
         (try first | replace Q3 := bx_t Q3 | replace Q3 := bx_f Q3 | replace Q3 := be_t Q3 | replace Q3 := be_f Q3 | replace Q3 := of_decide_eq_true Q3 | replace Q3 := of_decide_eq_false Q3)
         have hs : (xs.take (i + 1)).countP (fun x => decide (x = c)) = (xs.take i).countP (fun x => decide (x = c)) := by rw [cnt_step _ hiL, if_neg (by simpa using Q3), Nat.add_zero]
         first
          | (exfalso; first | omega | contradiction | (cases Q3; done))
          | skip
            refine cd_skip ?_
            refine nx_block ?_
            refine nx_then ?_
            refine cd_region ?_
            refine st_val (ro_move (v := .int _ _) rfl) ?_
            refine st_val (ro_addN (b := 1) rfl rfl (by omega)) ?_
            refine st_val (ro_assign (v := .int _ _) rfl) ?_
            refine st_nil ?_
            refine nx_cut (i + 1) ⟨(int_eq (by rw [hs])), rfl, trivial⟩ (by (iterate 27 refine agr_cons rfl ?_); exact agr_rfl) ⟨?_, ?_⟩
            · exact ⟨by omega, rfl⟩
            · omega
  · (try first | replace Q2 := bn_t Q2 | replace Q2 := bn_f Q2)
    (try first | replace Q2 := bx_t Q2 | replace Q2 := bx_f Q2 | replace Q2 := be_t Q2 | replace Q2 := be_f Q2 | replace Q2 := of_decide_eq_true Q2 | replace Q2 := of_decide_eq_false Q2)
    first
     | (exfalso; first | omega | contradiction | (cases Q2; done))
     | skip
       refine cd_exit ?_
       refine ex_then ?_
       refine ex_then ?_
       refine ex_block ?_
       refine nx_then ?_
       refine cd_seq ?_
       refine cd_region ?_
       refine st_val (ro_move (v := .int _ _) rfl) ?_
       refine st_val (ro_assign (v := .int _ _) rfl) ?_
       refine st_nil ?_
       refine nx_then ?_
       refine cd_ret ?_
       refine res1 (v := .int _ _) rfl rfl ?_
       obtain rfl : i = q := by omega
       exact ⟨rfl, rfl⟩
theorem refRank_any (c i : Int) (A : Option Addr) (ca : Nat) (xs : List Int) (w : World) (hr : RowOf iV w A xs) (hl : xs.length ≤ 1000000000000) (hi : 0 ≤ i ∧ i ≤ (xs.length : Nat)) : Rt Try.prog 13 [.slice A xs.length ca, .int .i64 c, .int .i64 i] w fun v w' => v = .int .i64 (((xs.take i.toNat).countP (fun x => decide (x = c)) : Nat) : Int) ∧ w = w' := by
  obtain ⟨q, rfl⟩ : ∃ q : Nat, i = (q : Int) := ⟨i.toNat, by omega⟩
  rw [Int.toNat_natCast]
  exact refRank_n c q A ca xs w hr hl (by omega)
set_option maxRecDepth 100000 in
set_option maxHeartbeats 3000000 in
theorem ranks_law (k : Int) (A B : Option Addr) (ca cb : Nat) (xs is : List Int) (w : World) (hr : RowOf iV w A xs) (hb64 : ∀ x ∈ xs, -9223372036854775808 ≤ x ∧ x ≤ 9223372036854775807) (hrB : RowOf iV w B is) (hB64 : ∀ x ∈ is, -9223372036854775808 ≤ x ∧ x ≤ 9223372036854775807) :
    Rt Try.prog 4 [.agg #[.int .i64 k, .slice A xs.length ca, .slice B is.length cb]] w (fun v w' => v = .bool true ∧ From w w') := by
  refine enter (n := 89) Try.func4 rfl rfl rfl ?_
  refine cd_seq ?_
  refine cd_region ?_
  refine st_box (v := .agg _) rfl ?_
  intro b1 w1 E1 hb1 hk1
  refine st_val (ro_assign (v := .bool _) rfl) ?_
  refine st_nil ?_
  refine nx_then ?_
  refine cd_seq ?_
  refine cd_seq ?_
  refine cd_region ?_
  refine st_val (ro_loadA (cs := [_, _, _]) WavRanks_g24 WavRanks_z24 rfl (by first | (first | exact (hP1.from_ From.rfl_).whole | exact (hP1.from_ From.rfl_).rd 0 rfl | exact (hP1.from_ From.rfl_).rd 1 rfl | exact (hP1.from_ From.rfl_).rd 2 rfl) | (first | exact (hk1.from_ From.rfl_).whole | exact (hk1.from_ From.rfl_).rd 0 rfl | exact (hk1.from_ From.rfl_).rd 1 rfl | exact (hk1.from_ From.rfl_).rd 2 rfl))) ?_
  refine st_call WavRanks_k6 (heavy_any k A B _ ca _ cb _) ?_
  rintro v14 w2 ⟨rfl, E14⟩
  refine st_nil ?_
  refine nx_then ?_
  refine cd_cond rfl (fun Q3 => ?_) (fun Q3 => ?_)
  · (try first | replace Q3 := bn_t Q3 | replace Q3 := bn_f Q3)
    (try first | replace Q3 := bx_t Q3 | replace Q3 := bx_f Q3 | replace Q3 := be_t Q3 | replace Q3 := be_f Q3 | replace Q3 := of_decide_eq_true Q3 | replace Q3 := of_decide_eq_false Q3)
    first
     | (exfalso; first | omega | (simp only [hne] at *; done) | (simp_all; done) | contradiction | (cases Q3; done))
     | skip
       refine cd_seq ?_
       refine cd_region ?_
       refine st_val (ro_assign (v := .bool _) rfl) ?_
       refine st_nil ?_
       refine nx_then ?_
       refine cd_ret ?_
       refine rt_then ?_
       refine res1 (v := .bool _) rfl rfl ?_
       exact ⟨rfl, ((From.rfl_.next E1).next E14)⟩
  · (try first | replace Q3 := bn_t Q3 | replace Q3 := bn_f Q3)
    (try first | replace Q3 := bx_t Q3 | replace Q3 := bx_f Q3 | replace Q3 := be_t Q3 | replace Q3 := be_f Q3 | replace Q3 := of_decide_eq_true Q3 | replace Q3 := of_decide_eq_false Q3)
    first
     | (exfalso; first | omega | (simp only [hne] at *; done) | (simp_all; done) | contradiction | (cases Q3; done))
     | skip
       refine cd_skip ?_
       refine nx_then ?_
       refine cd_seq ?_
       refine cd_region ?_
       refine st_val (ro_loadA (cs := [_, _, _]) WavRanks_g24 WavRanks_z24 rfl (by first | (first | exact (hP1.from_ (From.rfl_.next E14)).whole | exact (hP1.from_ (From.rfl_.next E14)).rd 0 rfl | exact (hP1.from_ (From.rfl_.next E14)).rd 1 rfl | exact (hP1.from_ (From.rfl_.next E14)).rd 2 rfl) | (first | exact (hk1.from_ (From.rfl_.next E14)).whole | exact (hk1.from_ (From.rfl_.next E14)).rd 0 rfl | exact (hk1.from_ (From.rfl_.next E14)).rd 1 rfl | exact (hk1.from_ (From.rfl_.next E14)).rd 2 rfl))) ?_
       have hz17 := (((From.rfl_.next E1).next E14)).size
       refine st_call WavRanks_k7 (made_rt k A B ca _ cb xs _ (hr.from_ ((From.rfl_.next E1).next E14)) (by omega)) ?_
       rintro v17 w4 ⟨hn17, E17⟩
       replace hk1 := hk1.from_ ((From.rfl_.next E14).next E17)
       rcases hn17 with ⟨hne, rfl⟩ | ⟨K, L, b, rfl, hx, rfl, hv⟩
       · refine st_val (ro_move (v := .tuple _) rfl) ?_
         refine st_val (ro_extract rfl rfl) ?_
         refine st_val (ro_extract rfl rfl) ?_
         refine st_val (ro_assign (v := .pointer _) rfl) ?_
         refine st_val (ro_assign (v := .int _ _) rfl) ?_
         refine st_nil ?_
         refine nx_then ?_
         refine cd_seq ?_
         refine cd_seq ?_
         refine cd_region ?_
         refine st_val (ro_move (v := .pointer _) rfl) ?_
         refine st_val (ro_eqlNil WavRanks_p26 rfl rfl) ?_
         refine st_nil ?_
         refine nx_then ?_
         refine cd_cond rfl (fun Q5 => ?_) (fun Q5 => ?_)
         · (try first | replace Q5 := bn_t Q5 | replace Q5 := bn_f Q5)
           (try first | replace Q5 := bx_t Q5 | replace Q5 := bx_f Q5 | replace Q5 := be_t Q5 | replace Q5 := be_f Q5 | replace Q5 := of_decide_eq_true Q5 | replace Q5 := of_decide_eq_false Q5)
           first
            | (exfalso; first | omega | (simp only [hne] at *; done) | (simp_all; done) | contradiction | (cases Q5; done))
            | skip
              refine cd_seq ?_
              refine cd_region ?_
              refine st_val (ro_move (v := .int _ _) rfl) ?_
              refine st_val (ro_neq rfl rfl) ?_
              refine st_val (ro_move (v := .bool _) rfl) ?_
              refine st_split (t := 24) rfl (fun Q6 => ?_) (fun Q6 => ?_)
              · (try first | replace Q6 := bn_t Q6 | replace Q6 := bn_f Q6)
                (try first | replace Q6 := bx_t Q6 | replace Q6 := bx_f Q6 | replace Q6 := be_t Q6 | replace Q6 := be_f Q6 | replace Q6 := of_decide_eq_true Q6 | replace Q6 := of_decide_eq_false Q6)
                first
                 | (exfalso; first | omega | (simp only [hne] at *; done) | (simp_all; done) | contradiction | (cases Q6; done))
                 | skip
                   refine st_unguard rfl ?_
                   refine st_call WavRanks_k8 (wakes_any _) ?_
                   rintro v25 w7 ⟨rfl, E25⟩
                   refine st_val (ro_pickT (v := .bool _) rfl rfl) ?_
                   refine st_val (ro_assign (v := .bool _) rfl) ?_
                   refine st_nil ?_
                   refine nx_then ?_
                   refine cd_ret ?_
                   refine rt_then ?_
                   refine res1 (v := .bool _) rfl rfl ?_
                   exact ⟨rfl, ((((From.rfl_.next E1).next E14).next E17).next E25)⟩
              · (try first | replace Q6 := bn_t Q6 | replace Q6 := bn_f Q6)
                (try first | replace Q6 := bx_t Q6 | replace Q6 := bx_f Q6 | replace Q6 := be_t Q6 | replace Q6 := be_f Q6 | replace Q6 := of_decide_eq_true Q6 | replace Q6 := of_decide_eq_false Q6)
                first
                 | (exfalso; first | omega | (simp only [hne] at *; done) | (simp_all; done) | contradiction | (cases Q6; done))
                 | skip
                   refine st_gno rfl rfl ?_
                   refine st_val (ro_pickF (v := .bool _) rfl rfl) ?_
                   refine st_val (ro_assign (v := .bool _) rfl) ?_
                   refine st_nil ?_
                   refine nx_then ?_
                   refine cd_ret ?_
                   refine rt_then ?_
                   refine res1 (v := .bool _) rfl rfl ?_
                   exact ⟨rfl, (((From.rfl_.next E1).next E14).next E17)⟩
         · (try first | replace Q5 := bn_t Q5 | replace Q5 := bn_f Q5)
           (try first | replace Q5 := bx_t Q5 | replace Q5 := bx_f Q5 | replace Q5 := be_t Q5 | replace Q5 := be_f Q5 | replace Q5 := of_decide_eq_true Q5 | replace Q5 := of_decide_eq_false Q5)
           first
            | (exfalso; first | omega | (simp only [hne] at *; done) | (simp_all; done) | contradiction | (cases Q5; done))
            | skip
              refine cd_skip ?_
              refine nx_then ?_
              refine cd_seq ?_
              refine cd_seq ?_
              refine cd_region ?_
              refine st_val (ro_assign (v := .int _ _) rfl) ?_
              refine st_nil ?_
              refine nx_then ?_
              refine cd_block ?_
              refine cd_loop (G := Nat) [2, 6, 7, 8, 9, 10, 11, 12, 27, 28, 29, 30, 31, 32, 33, 34, 35, 36, 37, 38, 39, 40, 41, 42, 43, 44, 45, 46, 47, 48, 49, 50, 51, 52, 53, 54, 55, 56, 57, 58, 59, 60, 61, 62, 63, 64, 65, 66, 67, 68, 69, 70, 71, 72, 73, 74, 75, 76, 77, 78, 79, 80, 81, 82, 83, 84, 85, 86, 87] (fun i => [(5, .int .i64 (i : Nat))]) (fun i w' => i ≤ is.length ∧ TreeAt w' w.heap.size b K L ∧ Blk w' b1 24 #[.int .i64 (K : Nat), .slice A xs.length ca, .slice B is.length cb] ∧ From w w') (fun i => is.length - i) (0) ⟨rfl, trivial⟩ ?_ ?_
              · exact ⟨Nat.zero_le _, hv.from_ From.rfl_, hk1.from_ From.rfl_, (((From.rfl_.next E1).next E14).next E17)⟩
              rintro i ρ8 w8 ⟨hi, hv, hP1, hB⟩
              refine cd_seq ?_
              refine cd_seq ?_
              refine cd_region ?_
              refine st_val (ro_move (v := .int _ _) rfl) ?_
              refine st_val (ro_fieldAddr WavRanks_f24_2 rfl) ?_
              refine st_val (ro_load WavRanks_g22 rfl (by first | (first | exact (hP1.from_ From.rfl_).whole | exact (hP1.from_ From.rfl_).rd 0 rfl | exact (hP1.from_ From.rfl_).rd 1 rfl | exact (hP1.from_ From.rfl_).rd 2 rfl) | (first | exact (hk1.from_ From.rfl_).whole | exact (hk1.from_ From.rfl_).rd 0 rfl | exact (hk1.from_ From.rfl_).rd 1 rfl | exact (hk1.from_ From.rfl_).rd 2 rfl))) ?_
              refine st_val (ro_len WavRanks_l22 rfl) ?_
              refine st_val (ro_lss rfl rfl) ?_
              refine st_nil ?_
              refine nx_then ?_
              refine cd_cond rfl (fun Q9 => ?_) (fun Q9 => ?_)
              · (try first | replace Q9 := bn_t Q9 | replace Q9 := bn_f Q9)
                (try first | replace Q9 := bx_t Q9 | replace Q9 := bx_f Q9 | replace Q9 := be_t Q9 | replace Q9 := be_f Q9 | replace Q9 := of_decide_eq_true Q9 | replace Q9 := of_decide_eq_false Q9)
                have hil : i < is.length := by omega
                obtain ⟨bb, ob, hB0, hcb⟩ := hrB (by omega)
                subst hB0
                first
                 | (exfalso; first | omega | (simp only [hne] at *; done) | (simp_all; done) | contradiction | (cases Q9; done))
                 | skip
                   refine cd_skip ?_
                   refine nx_then ?_
                   refine cd_seq ?_
                   refine cd_block ?_
                   refine cd_seq ?_
                   refine cd_region ?_
                   refine st_val (ro_assign (v := .int _ _) rfl) ?_
                   refine st_nil ?_
                   refine nx_then ?_
                   refine cd_block ?_
                   refine cd_loop (G := Nat) [2, 7, 8, 9, 10, 11, 12, 34, 35, 36, 37, 38, 39, 40, 41, 42, 43, 44, 45, 46, 47, 48, 49, 50, 51, 52, 53, 54, 55, 56, 57, 58, 59, 60, 61, 62, 63, 64, 65, 66, 67, 68, 69, 70, 71, 72, 73, 74, 75, 76, 77, 78, 79, 80, 81, 82, 83, 84, 85, 86, 87] (fun l => [(6, .int .i64 (l : Nat))]) (fun l w' => l ≤ is.length ∧ TreeAt w' w.heap.size b K L ∧ Blk w' b1 24 #[.int .i64 (K : Nat), .slice A xs.length ca, .slice (some ⟨bb, ob, none⟩) is.length cb] ∧ From w w') (fun l => is.length - l) (0) ⟨rfl, trivial⟩ ?_ ?_
                   · exact ⟨Nat.zero_le _, hv.from_ From.rfl_, hP1.from_ From.rfl_, hB⟩
                   rintro l ρ10 w10 ⟨hl, hv, hP1, hB⟩
                   refine cd_seq ?_
                   refine cd_seq ?_
                   refine cd_region ?_
                   refine st_val (ro_move (v := .int _ _) rfl) ?_
                   refine st_val (ro_fieldAddr WavRanks_f24_2 rfl) ?_
                   refine st_val (ro_load WavRanks_g22 rfl (by first | (first | exact (hP1.from_ From.rfl_).whole | exact (hP1.from_ From.rfl_).rd 0 rfl | exact (hP1.from_ From.rfl_).rd 1 rfl | exact (hP1.from_ From.rfl_).rd 2 rfl) | (first | exact (hk1.from_ From.rfl_).whole | exact (hk1.from_ From.rfl_).rd 0 rfl | exact (hk1.from_ From.rfl_).rd 1 rfl | exact (hk1.from_ From.rfl_).rd 2 rfl))) ?_
                   refine st_val (ro_len WavRanks_l22 rfl) ?_
                   refine st_val (ro_lss rfl rfl) ?_
                   refine st_nil ?_
                   refine nx_then ?_
                   refine cd_cond rfl (fun Q11 => ?_) (fun Q11 => ?_)
                   · (try first | replace Q11 := bn_t Q11 | replace Q11 := bn_f Q11)
                     (try first | replace Q11 := bx_t Q11 | replace Q11 := bx_f Q11 | replace Q11 := be_t Q11 | replace Q11 := be_f Q11 | replace Q11 := of_decide_eq_true Q11 | replace Q11 := of_decide_eq_false Q11)
                     have hll : l < is.length := by omega
                     first
                      | (exfalso; first | omega | (simp only [hne] at *; done) | (simp_all; done) | contradiction | (cases Q11; done))
                      | skip
                        refine cd_skip ?_
                        refine nx_then ?_
                        refine cd_seq ?_
                        refine cd_block ?_
                        refine cd_seq ?_
                        apply cd_drawnD 12 [(41, eqp _), (42, eqp (.slice (some ⟨bb, ob, none⟩) is.length cb)), (43, eqp _), (44, eqp _), (45, eqp (iV (is[i]'hil))), (46, eqp _), (47, eqp (.slice (some ⟨bb, ob, none⟩) is.length cb)), (48, eqp _), (49, eqp _), (50, eqp (iV (is[l]'hll))), (7, eqp _), (8, eqp _)] (by repeat first | exact pq_body | refine pq_then ?_ | refine pq_block ?_) (by kernel_rfl) (by kernel_rfl) ⟨eqp_mono _, eqp_mono _, eqp_mono _, eqp_mono _, eqp_mono _, eqp_mono _, eqp_mono _, eqp_mono _, eqp_mono _, eqp_mono _, eqp_mono _, eqp_mono _, trivial⟩
                        case hop =>
                         refine ⟨?_, ?_⟩
                         · rintro - w13 D13
                           show OpOK _ _ _ _ _ _ _
                           exact ok_pure (ro_fieldAddr WavRanks_f24_2 rfl) rfl
                         refine ⟨?_, ?_⟩
                         · rintro - w14 D14
                           rintro _ rfl
                           show OpOK _ _ _ _ _ _ _
                           exact ok_pure (ro_load WavRanks_g22 rfl ((hP1.from_ D14).rd 2 rfl)) rfl
                         refine ⟨?_, ?_⟩
                         · rintro - w15 D15
                           show OpOK _ _ _ _ _ _ _
                           exact ok_pure (ro_move (v := .int _ _) rfl) rfl
                         refine ⟨?_, ?_⟩
                         · rintro - w16 D16
                           rintro v16_42 rfl _ rfl
                           show OpOK _ _ _ _ _ _ _
                           exact ok_pure (ro_indexAddr1 WavRanks_e22 rfl rfl (by omega)) rfl
                         refine ⟨?_, ?_⟩
                         · rintro - w17 D17
                           rintro _ rfl
                           show OpOK _ _ _ _ _ _ _
                           exact ok_pure (ro_load (v := iV (is[i]'hil)) WavRanks_g3 rfl (cellF (hB.next D17) (hcb i hil))) rfl
                         refine ⟨?_, ?_⟩
                         · rintro - w18 D18
                           show OpOK _ _ _ _ _ _ _
                           exact ok_pure (ro_fieldAddr WavRanks_f24_2 rfl) rfl
                         refine ⟨?_, ?_⟩
                         · rintro - w19 D19
                           rintro _ rfl
                           show OpOK _ _ _ _ _ _ _
                           exact ok_pure (ro_load WavRanks_g22 rfl ((hP1.from_ D19).rd 2 rfl)) rfl
                         refine ⟨?_, ?_⟩
                         · rintro - w20 D20
                           show OpOK _ _ _ _ _ _ _
                           exact ok_pure (ro_move (v := .int _ _) rfl) rfl
                         refine ⟨?_, ?_⟩
                         · rintro - w21 D21
                           rintro v21_47 rfl _ rfl
                           show OpOK _ _ _ _ _ _ _
                           exact ok_pure (ro_indexAddr1 WavRanks_e22 rfl rfl (by omega)) rfl
                         refine ⟨?_, ?_⟩
                         · rintro - w22 D22
                           rintro _ rfl
                           show OpOK _ _ _ _ _ _ _
                           exact ok_pure (ro_load (v := iV (is[l]'hll)) WavRanks_g3 rfl (cellF (hB.next D22) (hcb l hll))) rfl
                         refine ⟨?_, ?_⟩
                         · rintro - w23 D23
                           rintro v23_45 rfl
                           show OpOK _ _ _ _ _ _ _
                           exact ok_pure (ro_assign (v := .int _ _) rfl) rfl
                         refine ⟨?_, ?_⟩
                         · rintro - w24 D24
                           rintro v24_50 rfl
                           show OpOK _ _ _ _ _ _ _
                           exact ok_pure (ro_assign (v := .int _ _) rfl) rfl
                         exact trivial
                        case hend =>
                         intro w25 D25
                         rintro _ rfl v42 rfl _ rfl _ rfl v45 rfl _ rfl v47 rfl _ rfl _ rfl v50 rfl _ rfl _ rfl
                         show St _ _ _ _ _ _ _
                         refine st_nil ?_
                         refine nx_then ?_
                         refine cd_seq ?_
                         refine cd_region ?_
                         refine st_val (ro_assign (v := .int _ _) rfl) ?_
                         refine st_val (ro_assign (v := .int _ _) rfl) ?_
                         refine st_nil ?_
                         refine nx_then ?_
                         refine cd_seq ?_
                         refine cd_block ?_
                         refine cd_seq ?_
                         refine cd_region ?_
                         refine st_val (ro_move (v := .int _ _) rfl) ?_
                         refine st_val (ro_lss rfl rfl) ?_
                         refine st_val (ro_move (v := .bool _) rfl) ?_
                         refine st_split (t := 59) rfl (fun Q26 => ?_) (fun Q26 => ?_)
                         · (try first | replace Q26 := bn_t Q26 | replace Q26 := bn_f Q26)
                           (try first | replace Q26 := bx_t Q26 | replace Q26 := bx_f Q26 | replace Q26 := be_t Q26 | replace Q26 := be_f Q26 | replace Q26 := of_decide_eq_true Q26 | replace Q26 := of_decide_eq_false Q26)
                           first
                            | (exfalso; first | omega | (simp only [hne] at *; done) | (simp_all; done) | contradiction | (cases Q26; done))
                            | skip
                              refine st_gno rfl rfl ?_
                              refine st_gno rfl rfl ?_
                              refine st_gno rfl rfl ?_
                              refine st_gno rfl rfl ?_
                              refine st_val (ro_pickT (v := .bool _) rfl rfl) ?_
                              refine st_val (ro_assign (v := .bool _) rfl) ?_
                              refine st_nil ?_
                              refine nx_then ?_
                              refine cd_condT rfl ?_
                              refine cd_region ?_
                              refine st_val (ro_assign (v := .int _ _) rfl) ?_
                              refine st_nil ?_
                              refine nx_block ?_
                              refine nx_then ?_
                              refine cd_seq ?_
                              refine cd_region ?_
                              refine st_val (ro_move (v := .pointer _) rfl) ?_
                              refine st_val (ro_move (v := .int _ _) rfl) ?_
                              refine st_val (ro_move (v := .int _ _) rfl) ?_
                              refine st_call WavRanks_k14 (rankT _ b K L _ (hv.from_ (From.rfl_.next D25)) is[i] is[l]) ?_
                              rintro v79 w27 ⟨rfl, E79⟩
                              refine st_val (ro_move (v := .tuple _) rfl) ?_
                              refine st_val (ro_extract rfl rfl) ?_
                              refine st_val (ro_extract rfl rfl) ?_
                              refine st_val (ro_assign (v := .int _ _) rfl) ?_
                              refine st_val (ro_assign (v := .int _ _) rfl) ?_
                              refine st_nil ?_
                              refine nx_then ?_
                              refine cd_seq ?_
                              refine cd_region ?_
                              refine st_val (ro_move (v := .int _ _) rfl) ?_
                              refine st_val (ro_move (v := .int _ _) rfl) ?_
                              refine st_val (ro_move (v := .int _ _) rfl) ?_
                              refine st_val (ro_move (v := .int _ _) rfl) ?_
                              refine st_call WavRanks_k12 (told_any _ _ _ _ _ (by first | exact rk_in hx (by omega) (by omega) | exact rk_out (by omega) | exact rk_far hxl (by omega) (by omega))) ?_
                              rintro v86 w28 ⟨rfl, rfl⟩
                              refine st_val (ro_not rfl) ?_
                              refine st_nil ?_
                              refine nx_then ?_
                              refine cd_cond rfl (fun Q29 => ?_) (fun Q29 => ?_)
                              · (try first | replace Q29 := bn_t Q29 | replace Q29 := bn_f Q29)
                                (try first | replace Q29 := bx_t Q29 | replace Q29 := bx_f Q29 | replace Q29 := be_t Q29 | replace Q29 := be_f Q29 | replace Q29 := of_decide_eq_true Q29 | replace Q29 := of_decide_eq_false Q29)
                                first
                                 | (exfalso; first | omega | (simp only [hne] at *; done) | (simp_all; done) | contradiction | (cases Q29; done))
                                 | skip
                                   refine cd_seq ?_
                                   refine cd_region ?_
                                   refine st_val (ro_assign (v := .bool _) rfl) ?_
                                   refine st_nil ?_
                                   refine nx_then ?_
                                   refine cd_ret ?_
                                   refine rt_block ?_
                                   refine rt_then ?_
                                   refine rt_then ?_
                                   refine rt_block ?_
                                   refine rt_block ?_
                                   refine rt_then ?_
                                   refine rt_then ?_
                                   refine rt_block ?_
                                   refine rt_then ?_
                                   refine res1 (v := .bool _) rfl rfl ?_
                                   exact ⟨rfl, ((hB.next D25).next E79)⟩
                              · (try first | replace Q29 := bn_t Q29 | replace Q29 := bn_f Q29)
                                (try first | replace Q29 := bx_t Q29 | replace Q29 := bx_f Q29 | replace Q29 := be_t Q29 | replace Q29 := be_f Q29 | replace Q29 := of_decide_eq_true Q29 | replace Q29 := of_decide_eq_false Q29)
                                first
                                 | (exfalso; first | omega | (simp only [hne] at *; done) | (simp_all; done) | contradiction | (cases Q29; done))
                                 | skip
                                   refine cd_skip ?_
                                   refine nx_block ?_
                                   refine nx_then ?_
                                   refine cd_region ?_
                                   refine st_val (ro_move (v := .int _ _) rfl) ?_
                                   refine st_val (ro_addN (b := 1) rfl rfl (by omega)) ?_
                                   refine st_val (ro_assign (v := .int _ _) rfl) ?_
                                   refine st_nil ?_
                                   refine nx_cut (l + 1) ⟨(by first | rfl | (refine int_eq ?_; omega)), trivial⟩ (by (iterate 110 refine agr_cons rfl ?_); exact agr_rfl) ⟨?_, ?_⟩
                                   · exact ⟨by omega, hv.from_ ((From.rfl_.next D25).next E79), hP1.from_ ((From.rfl_.next D25).next E79), ((hB.next D25).next E79)⟩
                                   · omega
                         · (try first | replace Q26 := bn_t Q26 | replace Q26 := bn_f Q26)
                           (try first | replace Q26 := bx_t Q26 | replace Q26 := bx_f Q26 | replace Q26 := be_t Q26 | replace Q26 := be_f Q26 | replace Q26 := of_decide_eq_true Q26 | replace Q26 := of_decide_eq_false Q26)
                           first
                            | (exfalso; first | omega | (simp only [hne] at *; done) | (simp_all; done) | contradiction | (cases Q26; done))
                            | skip
                              refine st_unguard rfl ?_
                              refine st_val (ro_move (v := .int _ _) rfl) ?_
                              refine st_unguard rfl ?_
                              refine st_val (ro_fieldAddr WavRanks_f24_0 rfl) ?_
                              refine st_unguard rfl ?_
                              refine st_val (ro_load WavRanks_g3 rfl (by first | (first | exact (hP1.from_ (From.rfl_.next D25)).whole | exact (hP1.from_ (From.rfl_.next D25)).rd 0 rfl | exact (hP1.from_ (From.rfl_.next D25)).rd 1 rfl | exact (hP1.from_ (From.rfl_.next D25)).rd 2 rfl) | (first | exact (hk1.from_ (From.rfl_.next D25)).whole | exact (hk1.from_ (From.rfl_.next D25)).rd 0 rfl | exact (hk1.from_ (From.rfl_.next D25)).rd 1 rfl | exact (hk1.from_ (From.rfl_.next D25)).rd 2 rfl))) ?_
                              refine st_unguard rfl ?_
                              refine st_val (ro_geq rfl rfl) ?_
                              refine st_val (ro_pickF (v := .bool _) rfl rfl) ?_
                              refine st_val (ro_assign (v := .bool _) rfl) ?_
                              refine st_nil ?_
                              refine nx_then ?_
                              refine cd_cond rfl (fun Q30 => ?_) (fun Q30 => ?_)
                              · (try first | replace Q30 := bn_t Q30 | replace Q30 := bn_f Q30)
                                (try first | replace Q30 := bx_t Q30 | replace Q30 := bx_f Q30 | replace Q30 := be_t Q30 | replace Q30 := be_f Q30 | replace Q30 := of_decide_eq_true Q30 | replace Q30 := of_decide_eq_false Q30)
                                first
                                 | (exfalso; first | omega | (simp only [hne] at *; done) | (simp_all; done) | contradiction | (cases Q30; done))
                                 | skip
                                   refine cd_region ?_
                                   refine st_val (ro_assign (v := .int _ _) rfl) ?_
                                   refine st_nil ?_
                                   refine nx_block ?_
                                   refine nx_then ?_
                                   refine cd_seq ?_
                                   refine cd_region ?_
                                   refine st_val (ro_move (v := .pointer _) rfl) ?_
                                   refine st_val (ro_move (v := .int _ _) rfl) ?_
                                   refine st_val (ro_move (v := .int _ _) rfl) ?_
                                   refine st_call WavRanks_k14 (rankT _ b K L _ (hv.from_ (From.rfl_.next D25)) is[i] is[l]) ?_
                                   rintro v79 w31 ⟨rfl, E79⟩
                                   refine st_val (ro_move (v := .tuple _) rfl) ?_
                                   refine st_val (ro_extract rfl rfl) ?_
                                   refine st_val (ro_extract rfl rfl) ?_
                                   refine st_val (ro_assign (v := .int _ _) rfl) ?_
                                   refine st_val (ro_assign (v := .int _ _) rfl) ?_
                                   refine st_nil ?_
                                   refine nx_then ?_
                                   refine cd_seq ?_
                                   refine cd_region ?_
                                   refine st_val (ro_move (v := .int _ _) rfl) ?_
                                   refine st_val (ro_move (v := .int _ _) rfl) ?_
                                   refine st_val (ro_move (v := .int _ _) rfl) ?_
                                   refine st_val (ro_move (v := .int _ _) rfl) ?_
                                   refine st_call WavRanks_k12 (told_any _ _ _ _ _ (by first | exact rk_in hx (by omega) (by omega) | exact rk_out (by omega) | exact rk_far hxl (by omega) (by omega))) ?_
                                   rintro v86 w32 ⟨rfl, rfl⟩
                                   refine st_val (ro_not rfl) ?_
                                   refine st_nil ?_
                                   refine nx_then ?_
                                   refine cd_cond rfl (fun Q33 => ?_) (fun Q33 => ?_)
                                   · (try first | replace Q33 := bn_t Q33 | replace Q33 := bn_f Q33)
                                     (try first | replace Q33 := bx_t Q33 | replace Q33 := bx_f Q33 | replace Q33 := be_t Q33 | replace Q33 := be_f Q33 | replace Q33 := of_decide_eq_true Q33 | replace Q33 := of_decide_eq_false Q33)
                                     first
                                      | (exfalso; first | omega | (simp only [hne] at *; done) | (simp_all; done) | contradiction | (cases Q33; done))
                                      | skip
                                        refine cd_seq ?_
                                        refine cd_region ?_
                                        refine st_val (ro_assign (v := .bool _) rfl) ?_
                                        refine st_nil ?_
                                        refine nx_then ?_
                                        refine cd_ret ?_
                                        refine rt_block ?_
                                        refine rt_then ?_
                                        refine rt_then ?_
                                        refine rt_block ?_
                                        refine rt_block ?_
                                        refine rt_then ?_
                                        refine rt_then ?_
                                        refine rt_block ?_
                                        refine rt_then ?_
                                        refine res1 (v := .bool _) rfl rfl ?_
                                        exact ⟨rfl, ((hB.next D25).next E79)⟩
                                   · (try first | replace Q33 := bn_t Q33 | replace Q33 := bn_f Q33)
                                     (try first | replace Q33 := bx_t Q33 | replace Q33 := bx_f Q33 | replace Q33 := be_t Q33 | replace Q33 := be_f Q33 | replace Q33 := of_decide_eq_true Q33 | replace Q33 := of_decide_eq_false Q33)
                                     first
                                      | (exfalso; first | omega | (simp only [hne] at *; done) | (simp_all; done) | contradiction | (cases Q33; done))
                                      | skip
                                        refine cd_skip ?_
                                        refine nx_block ?_
                                        refine nx_then ?_
                                        refine cd_region ?_
                                        refine st_val (ro_move (v := .int _ _) rfl) ?_
                                        refine st_val (ro_addN (b := 1) rfl rfl (by omega)) ?_
                                        refine st_val (ro_assign (v := .int _ _) rfl) ?_
                                        refine st_nil ?_
                                        refine nx_cut (l + 1) ⟨(by first | rfl | (refine int_eq ?_; omega)), trivial⟩ (by (iterate 110 refine agr_cons rfl ?_); exact agr_rfl) ⟨?_, ?_⟩
                                        · exact ⟨by omega, hv.from_ ((From.rfl_.next D25).next E79), hP1.from_ ((From.rfl_.next D25).next E79), ((hB.next D25).next E79)⟩
                                        · omega
                              · (try first | replace Q30 := bn_t Q30 | replace Q30 := bn_f Q30)
                                (try first | replace Q30 := bx_t Q30 | replace Q30 := bx_f Q30 | replace Q30 := be_t Q30 | replace Q30 := be_f Q30 | replace Q30 := of_decide_eq_true Q30 | replace Q30 := of_decide_eq_false Q30)
                                first
                                 | (exfalso; first | omega | (simp only [hne] at *; done) | (simp_all; done) | contradiction | (cases Q30; done))
                                 | skip
                                   refine cd_seq ?_
                                   refine cd_region ?_
                                   refine st_val (ro_move (v := .int _ _) rfl) ?_
                                   refine st_val (ro_lss rfl rfl) ?_
                                   refine st_val (ro_move (v := .bool _) rfl) ?_
                                   refine st_split (t := 68) rfl (fun Q34 => ?_) (fun Q34 => ?_)
                                   · (try first | replace Q34 := bn_t Q34 | replace Q34 := bn_f Q34)
                                     (try first | replace Q34 := bx_t Q34 | replace Q34 := bx_f Q34 | replace Q34 := be_t Q34 | replace Q34 := be_f Q34 | replace Q34 := of_decide_eq_true Q34 | replace Q34 := of_decide_eq_false Q34)
                                     first
                                      | (exfalso; first | omega | (simp only [hne] at *; done) | (simp_all; done) | contradiction | (cases Q34; done))
                                      | skip
                                        refine st_gno rfl rfl ?_
                                        refine st_gno rfl rfl ?_
                                        refine st_gno rfl rfl ?_
                                        refine st_gno rfl rfl ?_
                                        refine st_gno rfl rfl ?_
                                        refine st_val (ro_pickT (v := .bool _) rfl rfl) ?_
                                        refine st_val (ro_assign (v := .bool _) rfl) ?_
                                        refine st_nil ?_
                                        refine nx_then ?_
                                        refine cd_condT rfl ?_
                                        refine cd_region ?_
                                        refine st_val (ro_assign (v := .int _ _) rfl) ?_
                                        refine st_nil ?_
                                        refine nx_block ?_
                                        refine nx_then ?_
                                        refine cd_seq ?_
                                        refine cd_region ?_
                                        refine st_val (ro_move (v := .pointer _) rfl) ?_
                                        refine st_val (ro_move (v := .int _ _) rfl) ?_
                                        refine st_val (ro_move (v := .int _ _) rfl) ?_
                                        refine st_call WavRanks_k14 (rankT _ b K L _ (hv.from_ (From.rfl_.next D25)) is[i] is[l]) ?_
                                        rintro v79 w35 ⟨rfl, E79⟩
                                        refine st_val (ro_move (v := .tuple _) rfl) ?_
                                        refine st_val (ro_extract rfl rfl) ?_
                                        refine st_val (ro_extract rfl rfl) ?_
                                        refine st_val (ro_assign (v := .int _ _) rfl) ?_
                                        refine st_val (ro_assign (v := .int _ _) rfl) ?_
                                        refine st_nil ?_
                                        refine nx_then ?_
                                        refine cd_seq ?_
                                        refine cd_region ?_
                                        refine st_val (ro_move (v := .int _ _) rfl) ?_
                                        refine st_val (ro_move (v := .int _ _) rfl) ?_
                                        refine st_val (ro_move (v := .int _ _) rfl) ?_
                                        refine st_val (ro_move (v := .int _ _) rfl) ?_
                                        refine st_call WavRanks_k12 (told_any _ _ _ _ _ (by first | exact rk_in hx (by omega) (by omega) | exact rk_out (by omega) | exact rk_far hxl (by omega) (by omega))) ?_
                                        rintro v86 w36 ⟨rfl, rfl⟩
                                        refine st_val (ro_not rfl) ?_
                                        refine st_nil ?_
                                        refine nx_then ?_
                                        refine cd_cond rfl (fun Q37 => ?_) (fun Q37 => ?_)
                                        · (try first | replace Q37 := bn_t Q37 | replace Q37 := bn_f Q37)
                                          (try first | replace Q37 := bx_t Q37 | replace Q37 := bx_f Q37 | replace Q37 := be_t Q37 | replace Q37 := be_f Q37 | replace Q37 := of_decide_eq_true Q37 | replace Q37 := of_decide_eq_false Q37)
                                          first
                                           | (exfalso; first | omega | (simp only [hne] at *; done) | (simp_all; done) | contradiction | (cases Q37; done))
                                           | skip
                                             refine cd_seq ?_
                                             refine cd_region ?_
                                             refine st_val (ro_assign (v := .bool _) rfl) ?_
                                             refine st_nil ?_
                                             refine nx_then ?_
                                             refine cd_ret ?_
                                             refine rt_block ?_
                                             refine rt_then ?_
                                             refine rt_then ?_
                                             refine rt_block ?_
                                             refine rt_block ?_
                                             refine rt_then ?_
                                             refine rt_then ?_
                                             refine rt_block ?_
                                             refine rt_then ?_
                                             refine res1 (v := .bool _) rfl rfl ?_
                                             exact ⟨rfl, ((hB.next D25).next E79)⟩
                                        · (try first | replace Q37 := bn_t Q37 | replace Q37 := bn_f Q37)
                                          (try first | replace Q37 := bx_t Q37 | replace Q37 := bx_f Q37 | replace Q37 := be_t Q37 | replace Q37 := be_f Q37 | replace Q37 := of_decide_eq_true Q37 | replace Q37 := of_decide_eq_false Q37)
                                          first
                                           | (exfalso; first | omega | (simp only [hne] at *; done) | (simp_all; done) | contradiction | (cases Q37; done))
                                           | skip
                                             refine cd_skip ?_
                                             refine nx_block ?_
                                             refine nx_then ?_
                                             refine cd_region ?_
                                             refine st_val (ro_move (v := .int _ _) rfl) ?_
                                             refine st_val (ro_addN (b := 1) rfl rfl (by omega)) ?_
                                             refine st_val (ro_assign (v := .int _ _) rfl) ?_
                                             refine st_nil ?_
                                             refine nx_cut (l + 1) ⟨(by first | rfl | (refine int_eq ?_; omega)), trivial⟩ (by (iterate 121 refine agr_cons rfl ?_); exact agr_rfl) ⟨?_, ?_⟩
                                             · exact ⟨by omega, hv.from_ ((From.rfl_.next D25).next E79), hP1.from_ ((From.rfl_.next D25).next E79), ((hB.next D25).next E79)⟩
                                             · omega
                                   · (try first | replace Q34 := bn_t Q34 | replace Q34 := bn_f Q34)
                                     (try first | replace Q34 := bx_t Q34 | replace Q34 := bx_f Q34 | replace Q34 := be_t Q34 | replace Q34 := be_f Q34 | replace Q34 := of_decide_eq_true Q34 | replace Q34 := of_decide_eq_false Q34)
                                     first
                                      | (exfalso; first | omega | (simp only [hne] at *; done) | (simp_all; done) | contradiction | (cases Q34; done))
                                      | skip
                                        refine st_unguard rfl ?_
                                        refine st_val (ro_move (v := .int _ _) rfl) ?_
                                        refine st_unguard rfl ?_
                                        refine st_val (ro_fieldAddr WavRanks_f24_1 rfl) ?_
                                        refine st_unguard rfl ?_
                                        refine st_val (ro_load WavRanks_g22 rfl (by first | (first | exact (hP1.from_ (From.rfl_.next D25)).whole | exact (hP1.from_ (From.rfl_.next D25)).rd 0 rfl | exact (hP1.from_ (From.rfl_.next D25)).rd 1 rfl | exact (hP1.from_ (From.rfl_.next D25)).rd 2 rfl) | (first | exact (hk1.from_ (From.rfl_.next D25)).whole | exact (hk1.from_ (From.rfl_.next D25)).rd 0 rfl | exact (hk1.from_ (From.rfl_.next D25)).rd 1 rfl | exact (hk1.from_ (From.rfl_.next D25)).rd 2 rfl))) ?_
                                        refine st_unguard rfl ?_
                                        refine st_val (ro_len WavRanks_l22 rfl) ?_
                                        refine st_unguard rfl ?_
                                        refine st_val (ro_gtr rfl rfl) ?_
                                        refine st_val (ro_pickF (v := .bool _) rfl rfl) ?_
                                        refine st_val (ro_assign (v := .bool _) rfl) ?_
                                        refine st_nil ?_
                                        refine nx_then ?_
                                        refine cd_cond rfl (fun Q38 => ?_) (fun Q38 => ?_)
                                        · (try first | replace Q38 := bn_t Q38 | replace Q38 := bn_f Q38)
                                          (try first | replace Q38 := bx_t Q38 | replace Q38 := bx_f Q38 | replace Q38 := be_t Q38 | replace Q38 := be_f Q38 | replace Q38 := of_decide_eq_true Q38 | replace Q38 := of_decide_eq_false Q38)
                                          first
                                           | (exfalso; first | omega | (simp only [hne] at *; done) | (simp_all; done) | contradiction | (cases Q38; done))
                                           | skip
                                             refine cd_region ?_
                                             refine st_val (ro_assign (v := .int _ _) rfl) ?_
                                             refine st_nil ?_
                                             refine nx_block ?_
                                             refine nx_then ?_
                                             refine cd_seq ?_
                                             refine cd_region ?_
                                             refine st_val (ro_move (v := .pointer _) rfl) ?_
                                             refine st_val (ro_move (v := .int _ _) rfl) ?_
                                             refine st_val (ro_move (v := .int _ _) rfl) ?_
                                             refine st_call WavRanks_k14 (rankT _ b K L _ (hv.from_ (From.rfl_.next D25)) is[i] is[l]) ?_
                                             rintro v79 w39 ⟨rfl, E79⟩
                                             refine st_val (ro_move (v := .tuple _) rfl) ?_
                                             refine st_val (ro_extract rfl rfl) ?_
                                             refine st_val (ro_extract rfl rfl) ?_
                                             refine st_val (ro_assign (v := .int _ _) rfl) ?_
                                             refine st_val (ro_assign (v := .int _ _) rfl) ?_
                                             refine st_nil ?_
                                             refine nx_then ?_
                                             refine cd_seq ?_
                                             refine cd_region ?_
                                             refine st_val (ro_move (v := .int _ _) rfl) ?_
                                             refine st_val (ro_move (v := .int _ _) rfl) ?_
                                             refine st_val (ro_move (v := .int _ _) rfl) ?_
                                             refine st_val (ro_move (v := .int _ _) rfl) ?_
                                             refine st_call WavRanks_k12 (told_any _ _ _ _ _ (by first | exact rk_in hx (by omega) (by omega) | exact rk_out (by omega) | exact rk_far hxl (by omega) (by omega))) ?_
                                             rintro v86 w40 ⟨rfl, rfl⟩
                                             refine st_val (ro_not rfl) ?_
                                             refine st_nil ?_
                                             refine nx_then ?_
                                             refine cd_cond rfl (fun Q41 => ?_) (fun Q41 => ?_)
                                             · (try first | replace Q41 := bn_t Q41 | replace Q41 := bn_f Q41)
                                               (try first | replace Q41 := bx_t Q41 | replace Q41 := bx_f Q41 | replace Q41 := be_t Q41 | replace Q41 := be_f Q41 | replace Q41 := of_decide_eq_true Q41 | replace Q41 := of_decide_eq_false Q41)
                                               first
                                                | (exfalso; first | omega | (simp only [hne] at *; done) | (simp_all; done) | contradiction | (cases Q41; done))
                                                | skip
                                                  refine cd_seq ?_
                                                  refine cd_region ?_
                                                  refine st_val (ro_assign (v := .bool _) rfl) ?_
                                                  refine st_nil ?_
                                                  refine nx_then ?_
                                                  refine cd_ret ?_
                                                  refine rt_block ?_
                                                  refine rt_then ?_
                                                  refine rt_then ?_
                                                  refine rt_block ?_
                                                  refine rt_block ?_
                                                  refine rt_then ?_
                                                  refine rt_then ?_
                                                  refine rt_block ?_
                                                  refine rt_then ?_
                                                  refine res1 (v := .bool _) rfl rfl ?_
                                                  exact ⟨rfl, ((hB.next D25).next E79)⟩
                                             · (try first | replace Q41 := bn_t Q41 | replace Q41 := bn_f Q41)
                                               (try first | replace Q41 := bx_t Q41 | replace Q41 := bx_f Q41 | replace Q41 := be_t Q41 | replace Q41 := be_f Q41 | replace Q41 := of_decide_eq_true Q41 | replace Q41 := of_decide_eq_false Q41)
                                               first
                                                | (exfalso; first | omega | (simp only [hne] at *; done) | (simp_all; done) | contradiction | (cases Q41; done))
                                                | skip
                                                  refine cd_skip ?_
                                                  refine nx_block ?_
                                                  refine nx_then ?_
                                                  refine cd_region ?_
                                                  refine st_val (ro_move (v := .int _ _) rfl) ?_
                                                  refine st_val (ro_addN (b := 1) rfl rfl (by omega)) ?_
                                                  refine st_val (ro_assign (v := .int _ _) rfl) ?_
                                                  refine st_nil ?_
                                                  refine nx_cut (l + 1) ⟨(by first | rfl | (refine int_eq ?_; omega)), trivial⟩ (by (iterate 121 refine agr_cons rfl ?_); exact agr_rfl) ⟨?_, ?_⟩
                                                  · exact ⟨by omega, hv.from_ ((From.rfl_.next D25).next E79), hP1.from_ ((From.rfl_.next D25).next E79), ((hB.next D25).next E79)⟩
                                                  · omega
                                        · (try first | replace Q38 := bn_t Q38 | replace Q38 := bn_f Q38)
                                          (try first | replace Q38 := bx_t Q38 | replace Q38 := bx_f Q38 | replace Q38 := be_t Q38 | replace Q38 := be_f Q38 | replace Q38 := of_decide_eq_true Q38 | replace Q38 := of_decide_eq_false Q38)
                                          first
                                           | (exfalso; first | omega | (simp only [hne] at *; done) | (simp_all; done) | contradiction | (cases Q38; done))
                                           | skip
                                             refine cd_region ?_
                                             refine st_val (ro_fieldAddr WavRanks_f24_1 rfl) ?_
                                             refine st_val (ro_load WavRanks_g22 rfl (by first | (first | exact (hP1.from_ (From.rfl_.next D25)).whole | exact (hP1.from_ (From.rfl_.next D25)).rd 0 rfl | exact (hP1.from_ (From.rfl_.next D25)).rd 1 rfl | exact (hP1.from_ (From.rfl_.next D25)).rd 2 rfl) | (first | exact (hk1.from_ (From.rfl_.next D25)).whole | exact (hk1.from_ (From.rfl_.next D25)).rd 0 rfl | exact (hk1.from_ (From.rfl_.next D25)).rd 1 rfl | exact (hk1.from_ (From.rfl_.next D25)).rd 2 rfl))) ?_
                                             refine st_val (ro_move (v := .int _ _) rfl) ?_
                                             refine st_val (ro_move (v := .int _ _) rfl) ?_
                                             refine st_call WavRanks_k13 (refRank_any is[i] is[l] A ca xs _ (hr.from_ (hB.next D25)) (by omega) (by omega)) ?_
                                             rintro v55 w42 ⟨rfl, rfl⟩
                                             refine st_val (ro_assign (v := .int _ _) rfl) ?_
                                             refine st_nil ?_
                                             refine nx_block ?_
                                             refine nx_then ?_
                                             refine cd_seq ?_
                                             refine cd_region ?_
                                             refine st_val (ro_move (v := .pointer _) rfl) ?_
                                             refine st_val (ro_move (v := .int _ _) rfl) ?_
                                             refine st_val (ro_move (v := .int _ _) rfl) ?_
                                             refine st_call WavRanks_k14 (rankT _ b K L _ (hv.from_ (From.rfl_.next D25)) is[i] is[l]) ?_
                                             rintro v79 w43 ⟨rfl, E79⟩
                                             refine st_val (ro_move (v := .tuple _) rfl) ?_
                                             refine st_val (ro_extract rfl rfl) ?_
                                             refine st_val (ro_extract rfl rfl) ?_
                                             refine st_val (ro_assign (v := .int _ _) rfl) ?_
                                             refine st_val (ro_assign (v := .int _ _) rfl) ?_
                                             refine st_nil ?_
                                             refine nx_then ?_
                                             refine cd_seq ?_
                                             refine cd_region ?_
                                             refine st_val (ro_move (v := .int _ _) rfl) ?_
                                             refine st_val (ro_move (v := .int _ _) rfl) ?_
                                             refine st_val (ro_move (v := .int _ _) rfl) ?_
                                             refine st_val (ro_move (v := .int _ _) rfl) ?_
                                             refine st_call WavRanks_k12 (told_any _ _ _ _ _ (by first | exact rk_in hx (by omega) (by omega) | exact rk_out (by omega) | exact rk_far hxl (by omega) (by omega))) ?_
                                             rintro v86 w44 ⟨rfl, rfl⟩
                                             refine st_val (ro_not rfl) ?_
                                             refine st_nil ?_
                                             refine nx_then ?_
                                             refine cd_cond rfl (fun Q45 => ?_) (fun Q45 => ?_)
                                             · (try first | replace Q45 := bn_t Q45 | replace Q45 := bn_f Q45)
                                               (try first | replace Q45 := bx_t Q45 | replace Q45 := bx_f Q45 | replace Q45 := be_t Q45 | replace Q45 := be_f Q45 | replace Q45 := of_decide_eq_true Q45 | replace Q45 := of_decide_eq_false Q45)
                                               first
                                                | (exfalso; first | omega | (simp only [hne] at *; done) | (simp_all; done) | contradiction | (cases Q45; done))
                                                | skip
                                                  refine cd_seq ?_
                                                  refine cd_region ?_
                                                  refine st_val (ro_assign (v := .bool _) rfl) ?_
                                                  refine st_nil ?_
                                                  refine nx_then ?_
                                                  refine cd_ret ?_
                                                  refine rt_block ?_
                                                  refine rt_then ?_
                                                  refine rt_then ?_
                                                  refine rt_block ?_
                                                  refine rt_block ?_
                                                  refine rt_then ?_
                                                  refine rt_then ?_
                                                  refine rt_block ?_
                                                  refine rt_then ?_
                                                  refine res1 (v := .bool _) rfl rfl ?_
                                                  exact ⟨rfl, ((hB.next D25).next E79)⟩
                                             · (try first | replace Q45 := bn_t Q45 | replace Q45 := bn_f Q45)
                                               (try first | replace Q45 := bx_t Q45 | replace Q45 := bx_f Q45 | replace Q45 := be_t Q45 | replace Q45 := be_f Q45 | replace Q45 := of_decide_eq_true Q45 | replace Q45 := of_decide_eq_false Q45)
                                               first
                                                | (exfalso; first | omega | (simp only [hne] at *; done) | (simp_all; done) | contradiction | (cases Q45; done))
                                                | skip
                                                  refine cd_skip ?_
                                                  refine nx_block ?_
                                                  refine nx_then ?_
                                                  refine cd_region ?_
                                                  refine st_val (ro_move (v := .int _ _) rfl) ?_
                                                  refine st_val (ro_addN (b := 1) rfl rfl (by omega)) ?_
                                                  refine st_val (ro_assign (v := .int _ _) rfl) ?_
                                                  refine st_nil ?_
                                                  refine nx_cut (l + 1) ⟨(by first | rfl | (refine int_eq ?_; omega)), trivial⟩ (by (iterate 126 refine agr_cons rfl ?_); exact agr_rfl) ⟨?_, ?_⟩
                                                  · exact ⟨by omega, hv.from_ ((From.rfl_.next D25).next E79), hP1.from_ ((From.rfl_.next D25).next E79), ((hB.next D25).next E79)⟩
                                                  · omega
                   · (try first | replace Q11 := bn_t Q11 | replace Q11 := bn_f Q11)
                     (try first | replace Q11 := bx_t Q11 | replace Q11 := bx_f Q11 | replace Q11 := be_t Q11 | replace Q11 := be_f Q11 | replace Q11 := of_decide_eq_true Q11 | replace Q11 := of_decide_eq_false Q11)
                     first
                      | (exfalso; first | omega | (simp only [hne] at *; done) | (simp_all; done) | contradiction | (cases Q11; done))
                      | skip
                        refine cd_exit ?_
                        refine ex_then ?_
                        refine ex_then ?_
                        refine ex_block ?_
                        refine nx_block ?_
                        refine nx_then ?_
                        refine cd_region ?_
                        refine st_val (ro_move (v := .int _ _) rfl) ?_
                        refine st_val (ro_addN (b := 1) rfl rfl (by omega)) ?_
                        refine st_val (ro_assign (v := .int _ _) rfl) ?_
                        refine st_nil ?_
                        refine nx_cut (i + 1) ⟨(by first | rfl | (refine int_eq ?_; omega)), trivial⟩ (by (iterate 146 refine agr_cons rfl ?_); exact agr_rfl) ⟨?_, ?_⟩
                        · exact ⟨by omega, hv.from_ From.rfl_, hP1.from_ From.rfl_, hB⟩
                        · omega
              · (try first | replace Q9 := bn_t Q9 | replace Q9 := bn_f Q9)
                (try first | replace Q9 := bx_t Q9 | replace Q9 := bx_f Q9 | replace Q9 := be_t Q9 | replace Q9 := be_f Q9 | replace Q9 := of_decide_eq_true Q9 | replace Q9 := of_decide_eq_false Q9)
                first
                 | (exfalso; first | omega | (simp only [hne] at *; done) | (simp_all; done) | contradiction | (cases Q9; done))
                 | skip
                   refine cd_exit ?_
                   refine ex_then ?_
                   refine ex_then ?_
                   refine ex_block ?_
                   refine nx_then ?_
                   refine cd_seq ?_
                   refine cd_region ?_
                   refine st_call WavRanks_k8 (wakes_any _) ?_
                   rintro v88 w46 ⟨rfl, E88⟩
                   refine st_val (ro_assign (v := .bool _) rfl) ?_
                   refine st_nil ?_
                   refine nx_then ?_
                   refine cd_ret ?_
                   refine res1 (v := .bool _) rfl rfl ?_
                   exact ⟨rfl, (hB.next E88)⟩
       · replace hv := hv.le hz17
         have hxl : xs.length = L.length := by rw [hx, List.length_map]
         obtain ⟨_, _, _, _, _, _, _, _, _, _, hK1, hK2, hlt, hLl⟩ := id hv
         refine st_val (ro_move (v := .tuple _) rfl) ?_
         refine st_val (ro_extract rfl rfl) ?_
         refine st_val (ro_extract rfl rfl) ?_
         refine st_val (ro_assign (v := .pointer _) rfl) ?_
         refine st_val (ro_assign (v := .int _ _) rfl) ?_
         refine st_nil ?_
         refine nx_then ?_
         refine cd_seq ?_
         refine cd_seq ?_
         refine cd_region ?_
         refine st_val (ro_move (v := .pointer _) rfl) ?_
         refine st_val (ro_eqlNil WavRanks_p26 rfl rfl) ?_
         refine st_nil ?_
         refine nx_then ?_
         refine cd_cond rfl (fun Q47 => ?_) (fun Q47 => ?_)
         · (try first | replace Q47 := bn_t Q47 | replace Q47 := bn_f Q47)
           (try first | replace Q47 := bx_t Q47 | replace Q47 := bx_f Q47 | replace Q47 := be_t Q47 | replace Q47 := be_f Q47 | replace Q47 := of_decide_eq_true Q47 | replace Q47 := of_decide_eq_false Q47)
           first
            | (exfalso; first | omega | (simp only [hne] at *; done) | (simp_all; done) | contradiction | (cases Q47; done))
            | skip
              refine cd_seq ?_
              refine cd_region ?_
              refine st_val (ro_move (v := .int _ _) rfl) ?_
              refine st_val (ro_neq rfl rfl) ?_
              refine st_val (ro_move (v := .bool _) rfl) ?_
              refine st_split (t := 24) rfl (fun Q48 => ?_) (fun Q48 => ?_)
              · (try first | replace Q48 := bn_t Q48 | replace Q48 := bn_f Q48)
                (try first | replace Q48 := bx_t Q48 | replace Q48 := bx_f Q48 | replace Q48 := be_t Q48 | replace Q48 := be_f Q48 | replace Q48 := of_decide_eq_true Q48 | replace Q48 := of_decide_eq_false Q48)
                first
                 | (exfalso; first | omega | (simp only [hne] at *; done) | (simp_all; done) | contradiction | (cases Q48; done))
                 | skip
                   refine st_unguard rfl ?_
                   refine st_call WavRanks_k8 (wakes_any _) ?_
                   rintro v25 w49 ⟨rfl, E25⟩
                   refine st_val (ro_pickT (v := .bool _) rfl rfl) ?_
                   refine st_val (ro_assign (v := .bool _) rfl) ?_
                   refine st_nil ?_
                   refine nx_then ?_
                   refine cd_ret ?_
                   refine rt_then ?_
                   refine res1 (v := .bool _) rfl rfl ?_
                   exact ⟨rfl, ((((From.rfl_.next E1).next E14).next E17).next E25)⟩
              · (try first | replace Q48 := bn_t Q48 | replace Q48 := bn_f Q48)
                (try first | replace Q48 := bx_t Q48 | replace Q48 := bx_f Q48 | replace Q48 := be_t Q48 | replace Q48 := be_f Q48 | replace Q48 := of_decide_eq_true Q48 | replace Q48 := of_decide_eq_false Q48)
                first
                 | (exfalso; first | omega | (simp only [hne] at *; done) | (simp_all; done) | contradiction | (cases Q48; done))
                 | skip
                   refine st_gno rfl rfl ?_
                   refine st_val (ro_pickF (v := .bool _) rfl rfl) ?_
                   refine st_val (ro_assign (v := .bool _) rfl) ?_
                   refine st_nil ?_
                   refine nx_then ?_
                   refine cd_ret ?_
                   refine rt_then ?_
                   refine res1 (v := .bool _) rfl rfl ?_
                   exact ⟨rfl, (((From.rfl_.next E1).next E14).next E17)⟩
         · (try first | replace Q47 := bn_t Q47 | replace Q47 := bn_f Q47)
           (try first | replace Q47 := bx_t Q47 | replace Q47 := bx_f Q47 | replace Q47 := be_t Q47 | replace Q47 := be_f Q47 | replace Q47 := of_decide_eq_true Q47 | replace Q47 := of_decide_eq_false Q47)
           first
            | (exfalso; first | omega | (simp only [hne] at *; done) | (simp_all; done) | contradiction | (cases Q47; done))
            | skip
              refine cd_skip ?_
              refine nx_then ?_
              refine cd_seq ?_
              refine cd_seq ?_
              refine cd_region ?_
              refine st_val (ro_assign (v := .int _ _) rfl) ?_
              refine st_nil ?_
              refine nx_then ?_
              refine cd_block ?_
              refine cd_loop (G := Nat) [2, 6, 7, 8, 9, 10, 11, 12, 27, 28, 29, 30, 31, 32, 33, 34, 35, 36, 37, 38, 39, 40, 41, 42, 43, 44, 45, 46, 47, 48, 49, 50, 51, 52, 53, 54, 55, 56, 57, 58, 59, 60, 61, 62, 63, 64, 65, 66, 67, 68, 69, 70, 71, 72, 73, 74, 75, 76, 77, 78, 79, 80, 81, 82, 83, 84, 85, 86, 87] (fun i => [(5, .int .i64 (i : Nat))]) (fun i w' => i ≤ is.length ∧ TreeAt w' w.heap.size b K L ∧ Blk w' b1 24 #[.int .i64 (K : Nat), .slice A xs.length ca, .slice B is.length cb] ∧ From w w') (fun i => is.length - i) (0) ⟨rfl, trivial⟩ ?_ ?_
              · exact ⟨Nat.zero_le _, hv.from_ From.rfl_, hk1.from_ From.rfl_, (((From.rfl_.next E1).next E14).next E17)⟩
              rintro i ρ50 w50 ⟨hi, hv, hP1, hB⟩
              refine cd_seq ?_
              refine cd_seq ?_
              refine cd_region ?_
              refine st_val (ro_move (v := .int _ _) rfl) ?_
              refine st_val (ro_fieldAddr WavRanks_f24_2 rfl) ?_
              refine st_val (ro_load WavRanks_g22 rfl (by first | (first | exact (hP1.from_ From.rfl_).whole | exact (hP1.from_ From.rfl_).rd 0 rfl | exact (hP1.from_ From.rfl_).rd 1 rfl | exact (hP1.from_ From.rfl_).rd 2 rfl) | (first | exact (hk1.from_ From.rfl_).whole | exact (hk1.from_ From.rfl_).rd 0 rfl | exact (hk1.from_ From.rfl_).rd 1 rfl | exact (hk1.from_ From.rfl_).rd 2 rfl))) ?_
              refine st_val (ro_len WavRanks_l22 rfl) ?_
              refine st_val (ro_lss rfl rfl) ?_
              refine st_nil ?_
              refine nx_then ?_
              refine cd_cond rfl (fun Q51 => ?_) (fun Q51 => ?_)
              · (try first | replace Q51 := bn_t Q51 | replace Q51 := bn_f Q51)
                (try first | replace Q51 := bx_t Q51 | replace Q51 := bx_f Q51 | replace Q51 := be_t Q51 | replace Q51 := be_f Q51 | replace Q51 := of_decide_eq_true Q51 | replace Q51 := of_decide_eq_false Q51)
                have hil : i < is.length := by omega
                obtain ⟨bb, ob, hB0, hcb⟩ := hrB (by omega)
                subst hB0
                first
                 | (exfalso; first | omega | (simp only [hne] at *; done) | (simp_all; done) | contradiction | (cases Q51; done))
                 | skip
                   refine cd_skip ?_
                   refine nx_then ?_
                   refine cd_seq ?_
                   refine cd_block ?_
                   refine cd_seq ?_
                   refine cd_region ?_
                   refine st_val (ro_assign (v := .int _ _) rfl) ?_
                   refine st_nil ?_
                   refine nx_then ?_
                   refine cd_block ?_
                   refine cd_loop (G := Nat) [2, 7, 8, 9, 10, 11, 12, 34, 35, 36, 37, 38, 39, 40, 41, 42, 43, 44, 45, 46, 47, 48, 49, 50, 51, 52, 53, 54, 55, 56, 57, 58, 59, 60, 61, 62, 63, 64, 65, 66, 67, 68, 69, 70, 71, 72, 73, 74, 75, 76, 77, 78, 79, 80, 81, 82, 83, 84, 85, 86, 87] (fun l => [(6, .int .i64 (l : Nat))]) (fun l w' => l ≤ is.length ∧ TreeAt w' w.heap.size b K L ∧ Blk w' b1 24 #[.int .i64 (K : Nat), .slice A xs.length ca, .slice (some ⟨bb, ob, none⟩) is.length cb] ∧ From w w') (fun l => is.length - l) (0) ⟨rfl, trivial⟩ ?_ ?_
                   · exact ⟨Nat.zero_le _, hv.from_ From.rfl_, hP1.from_ From.rfl_, hB⟩
                   rintro l ρ52 w52 ⟨hl, hv, hP1, hB⟩
                   refine cd_seq ?_
                   refine cd_seq ?_
                   refine cd_region ?_
                   refine st_val (ro_move (v := .int _ _) rfl) ?_
                   refine st_val (ro_fieldAddr WavRanks_f24_2 rfl) ?_
                   refine st_val (ro_load WavRanks_g22 rfl (by first | (first | exact (hP1.from_ From.rfl_).whole | exact (hP1.from_ From.rfl_).rd 0 rfl | exact (hP1.from_ From.rfl_).rd 1 rfl | exact (hP1.from_ From.rfl_).rd 2 rfl) | (first | exact (hk1.from_ From.rfl_).whole | exact (hk1.from_ From.rfl_).rd 0 rfl | exact (hk1.from_ From.rfl_).rd 1 rfl | exact (hk1.from_ From.rfl_).rd 2 rfl))) ?_
                   refine st_val (ro_len WavRanks_l22 rfl) ?_
                   refine st_val (ro_lss rfl rfl) ?_
                   refine st_nil ?_
                   refine nx_then ?_
                   refine cd_cond rfl (fun Q53 => ?_) (fun Q53 => ?_)
                   · (try first | replace Q53 := bn_t Q53 | replace Q53 := bn_f Q53)
                     (try first | replace Q53 := bx_t Q53 | replace Q53 := bx_f Q53 | replace Q53 := be_t Q53 | replace Q53 := be_f Q53 | replace Q53 := of_decide_eq_true Q53 | replace Q53 := of_decide_eq_false Q53)
                     have hll : l < is.length := by omega
                     first
                      | (exfalso; first | omega | (simp only [hne] at *; done) | (simp_all; done) | contradiction | (cases Q53; done))
                      | skip
                        refine cd_skip ?_
                        refine nx_then ?_
                        refine cd_seq ?_
                        refine cd_block ?_
                        refine cd_seq ?_
                        apply cd_drawnD 12 [(41, eqp _), (42, eqp (.slice (some ⟨bb, ob, none⟩) is.length cb)), (43, eqp _), (44, eqp _), (45, eqp (iV (is[i]'hil))), (46, eqp _), (47, eqp (.slice (some ⟨bb, ob, none⟩) is.length cb)), (48, eqp _), (49, eqp _), (50, eqp (iV (is[l]'hll))), (7, eqp _), (8, eqp _)] (by repeat first | exact pq_body | refine pq_then ?_ | refine pq_block ?_) (by kernel_rfl) (by kernel_rfl) ⟨eqp_mono _, eqp_mono _, eqp_mono _, eqp_mono _, eqp_mono _, eqp_mono _, eqp_mono _, eqp_mono _, eqp_mono _, eqp_mono _, eqp_mono _, eqp_mono _, trivial⟩
                        case hop =>
                         refine ⟨?_, ?_⟩
                         · rintro - w55 D55
                           show OpOK _ _ _ _ _ _ _
                           exact ok_pure (ro_fieldAddr WavRanks_f24_2 rfl) rfl
                         refine ⟨?_, ?_⟩
                         · rintro - w56 D56
                           rintro _ rfl
                           show OpOK _ _ _ _ _ _ _
                           exact ok_pure (ro_load WavRanks_g22 rfl ((hP1.from_ D56).rd 2 rfl)) rfl
                         refine ⟨?_, ?_⟩
                         · rintro - w57 D57
                           show OpOK _ _ _ _ _ _ _
                           exact ok_pure (ro_move (v := .int _ _) rfl) rfl
                         refine ⟨?_, ?_⟩
                         · rintro - w58 D58
                           rintro v58_42 rfl _ rfl
                           show OpOK _ _ _ _ _ _ _
                           exact ok_pure (ro_indexAddr1 WavRanks_e22 rfl rfl (by omega)) rfl
                         refine ⟨?_, ?_⟩
                         · rintro - w59 D59
                           rintro _ rfl
                           show OpOK _ _ _ _ _ _ _
                           exact ok_pure (ro_load (v := iV (is[i]'hil)) WavRanks_g3 rfl (cellF (hB.next D59) (hcb i hil))) rfl
                         refine ⟨?_, ?_⟩
                         · rintro - w60 D60
                           show OpOK _ _ _ _ _ _ _
                           exact ok_pure (ro_fieldAddr WavRanks_f24_2 rfl) rfl
                         refine ⟨?_, ?_⟩
                         · rintro - w61 D61
                           rintro _ rfl
                           show OpOK _ _ _ _ _ _ _
                           exact ok_pure (ro_load WavRanks_g22 rfl ((hP1.from_ D61).rd 2 rfl)) rfl
                         refine ⟨?_, ?_⟩
                         · rintro - w62 D62
                           show OpOK _ _ _ _ _ _ _
                           exact ok_pure (ro_move (v := .int _ _) rfl) rfl
                         refine ⟨?_, ?_⟩
                         · rintro - w63 D63
                           rintro v63_47 rfl _ rfl
                           show OpOK _ _ _ _ _ _ _
                           exact ok_pure (ro_indexAddr1 WavRanks_e22 rfl rfl (by omega)) rfl
                         refine ⟨?_, ?_⟩
                         · rintro - w64 D64
                           rintro _ rfl
                           show OpOK _ _ _ _ _ _ _
                           exact ok_pure (ro_load (v := iV (is[l]'hll)) WavRanks_g3 rfl (cellF (hB.next D64) (hcb l hll))) rfl
                         refine ⟨?_, ?_⟩
                         · rintro - w65 D65
                           rintro v65_45 rfl
                           show OpOK _ _ _ _ _ _ _
                           exact ok_pure (ro_assign (v := .int _ _) rfl) rfl
                         refine ⟨?_, ?_⟩
                         · rintro - w66 D66
                           rintro v66_50 rfl
                           show OpOK _ _ _ _ _ _ _
                           exact ok_pure (ro_assign (v := .int _ _) rfl) rfl
                         exact trivial
                        case hend =>
                         intro w67 D67
                         rintro _ rfl v42 rfl _ rfl _ rfl v45 rfl _ rfl v47 rfl _ rfl _ rfl v50 rfl _ rfl _ rfl
                         show St _ _ _ _ _ _ _
                         refine st_nil ?_
                         refine nx_then ?_
                         refine cd_seq ?_
                         refine cd_region ?_
                         refine st_val (ro_assign (v := .int _ _) rfl) ?_
                         refine st_val (ro_assign (v := .int _ _) rfl) ?_
                         refine st_nil ?_
                         refine nx_then ?_
                         refine cd_seq ?_
                         refine cd_block ?_
                         refine cd_seq ?_
                         refine cd_region ?_
                         refine st_val (ro_move (v := .int _ _) rfl) ?_
                         refine st_val (ro_lss rfl rfl) ?_
                         refine st_val (ro_move (v := .bool _) rfl) ?_
                         refine st_split (t := 59) rfl (fun Q68 => ?_) (fun Q68 => ?_)
                         · (try first | replace Q68 := bn_t Q68 | replace Q68 := bn_f Q68)
                           (try first | replace Q68 := bx_t Q68 | replace Q68 := bx_f Q68 | replace Q68 := be_t Q68 | replace Q68 := be_f Q68 | replace Q68 := of_decide_eq_true Q68 | replace Q68 := of_decide_eq_false Q68)
                           first
                            | (exfalso; first | omega | (simp only [hne] at *; done) | (simp_all; done) | contradiction | (cases Q68; done))
                            | skip
                              refine st_gno rfl rfl ?_
                              refine st_gno rfl rfl ?_
                              refine st_gno rfl rfl ?_
                              refine st_gno rfl rfl ?_
                              refine st_val (ro_pickT (v := .bool _) rfl rfl) ?_
                              refine st_val (ro_assign (v := .bool _) rfl) ?_
                              refine st_nil ?_
                              refine nx_then ?_
                              refine cd_condT rfl ?_
                              refine cd_region ?_
                              refine st_val (ro_assign (v := .int _ _) rfl) ?_
                              refine st_nil ?_
                              refine nx_block ?_
                              refine nx_then ?_
                              refine cd_seq ?_
                              refine cd_region ?_
                              refine st_val (ro_move (v := .pointer _) rfl) ?_
                              refine st_val (ro_move (v := .int _ _) rfl) ?_
                              refine st_val (ro_move (v := .int _ _) rfl) ?_
                              refine st_call WavRanks_k14 (rankT _ b K L _ (hv.from_ (From.rfl_.next D67)) is[i] is[l]) ?_
                              rintro v79 w69 ⟨rfl, E79⟩
                              refine st_val (ro_move (v := .tuple _) rfl) ?_
                              refine st_val (ro_extract rfl rfl) ?_
                              refine st_val (ro_extract rfl rfl) ?_
                              refine st_val (ro_assign (v := .int _ _) rfl) ?_
                              refine st_val (ro_assign (v := .int _ _) rfl) ?_
                              refine st_nil ?_
                              refine nx_then ?_
                              refine cd_seq ?_
                              refine cd_region ?_
                              refine st_val (ro_move (v := .int _ _) rfl) ?_
                              refine st_val (ro_move (v := .int _ _) rfl) ?_
                              refine st_val (ro_move (v := .int _ _) rfl) ?_
                              refine st_val (ro_move (v := .int _ _) rfl) ?_
                              refine st_call WavRanks_k12 (told_any _ _ _ _ _ (by first | exact rk_in hx (by omega) (by omega) | exact rk_out (by omega) | exact rk_far hxl (by omega) (by omega))) ?_
                              rintro v86 w70 ⟨rfl, rfl⟩
                              refine st_val (ro_not rfl) ?_
                              refine st_nil ?_
                              refine nx_then ?_
                              refine cd_cond rfl (fun Q71 => ?_) (fun Q71 => ?_)
                              · (try first | replace Q71 := bn_t Q71 | replace Q71 := bn_f Q71)
                                (try first | replace Q71 := bx_t Q71 | replace Q71 := bx_f Q71 | replace Q71 := be_t Q71 | replace Q71 := be_f Q71 | replace Q71 := of_decide_eq_true Q71 | replace Q71 := of_decide_eq_false Q71)
                                first
                                 | (exfalso; first | omega | (simp only [hne] at *; done) | (simp_all; done) | contradiction | (cases Q71; done))
                                 | skip
                                   refine cd_seq ?_
                                   refine cd_region ?_
                                   refine st_val (ro_assign (v := .bool _) rfl) ?_
                                   refine st_nil ?_
                                   refine nx_then ?_
                                   refine cd_ret ?_
                                   refine rt_block ?_
                                   refine rt_then ?_
                                   refine rt_then ?_
                                   refine rt_block ?_
                                   refine rt_block ?_
                                   refine rt_then ?_
                                   refine rt_then ?_
                                   refine rt_block ?_
                                   refine rt_then ?_
                                   refine res1 (v := .bool _) rfl rfl ?_
                                   exact ⟨rfl, ((hB.next D67).next E79)⟩
                              · (try first | replace Q71 := bn_t Q71 | replace Q71 := bn_f Q71)
                                (try first | replace Q71 := bx_t Q71 | replace Q71 := bx_f Q71 | replace Q71 := be_t Q71 | replace Q71 := be_f Q71 | replace Q71 := of_decide_eq_true Q71 | replace Q71 := of_decide_eq_false Q71)
                                first
                                 | (exfalso; first | omega | (simp only [hne] at *; done) | (simp_all; done) | contradiction | (cases Q71; done))
                                 | skip
                                   refine cd_skip ?_
                                   refine nx_block ?_
                                   refine nx_then ?_
                                   refine cd_region ?_
                                   refine st_val (ro_move (v := .int _ _) rfl) ?_
                                   refine st_val (ro_addN (b := 1) rfl rfl (by omega)) ?_
                                   refine st_val (ro_assign (v := .int _ _) rfl) ?_
                                   refine st_nil ?_
                                   refine nx_cut (l + 1) ⟨(by first | rfl | (refine int_eq ?_; omega)), trivial⟩ (by (iterate 110 refine agr_cons rfl ?_); exact agr_rfl) ⟨?_, ?_⟩
                                   · exact ⟨by omega, hv.from_ ((From.rfl_.next D67).next E79), hP1.from_ ((From.rfl_.next D67).next E79), ((hB.next D67).next E79)⟩
                                   · omega
                         · (try first | replace Q68 := bn_t Q68 | replace Q68 := bn_f Q68)
                           (try first | replace Q68 := bx_t Q68 | replace Q68 := bx_f Q68 | replace Q68 := be_t Q68 | replace Q68 := be_f Q68 | replace Q68 := of_decide_eq_true Q68 | replace Q68 := of_decide_eq_false Q68)
                           first
                            | (exfalso; first | omega | (simp only [hne] at *; done) | (simp_all; done) | contradiction | (cases Q68; done))
                            | skip
                              refine st_unguard rfl ?_
                              refine st_val (ro_move (v := .int _ _) rfl) ?_
                              refine st_unguard rfl ?_
                              refine st_val (ro_fieldAddr WavRanks_f24_0 rfl) ?_
                              refine st_unguard rfl ?_
                              refine st_val (ro_load WavRanks_g3 rfl (by first | (first | exact (hP1.from_ (From.rfl_.next D67)).whole | exact (hP1.from_ (From.rfl_.next D67)).rd 0 rfl | exact (hP1.from_ (From.rfl_.next D67)).rd 1 rfl | exact (hP1.from_ (From.rfl_.next D67)).rd 2 rfl) | (first | exact (hk1.from_ (From.rfl_.next D67)).whole | exact (hk1.from_ (From.rfl_.next D67)).rd 0 rfl | exact (hk1.from_ (From.rfl_.next D67)).rd 1 rfl | exact (hk1.from_ (From.rfl_.next D67)).rd 2 rfl))) ?_
                              refine st_unguard rfl ?_
                              refine st_val (ro_geq rfl rfl) ?_
                              refine st_val (ro_pickF (v := .bool _) rfl rfl) ?_
                              refine st_val (ro_assign (v := .bool _) rfl) ?_
                              refine st_nil ?_
                              refine nx_then ?_
                              refine cd_cond rfl (fun Q72 => ?_) (fun Q72 => ?_)
                              · (try first | replace Q72 := bn_t Q72 | replace Q72 := bn_f Q72)
                                (try first | replace Q72 := bx_t Q72 | replace Q72 := bx_f Q72 | replace Q72 := be_t Q72 | replace Q72 := be_f Q72 | replace Q72 := of_decide_eq_true Q72 | replace Q72 := of_decide_eq_false Q72)
                                first
                                 | (exfalso; first | omega | (simp only [hne] at *; done) | (simp_all; done) | contradiction | (cases Q72; done))
                                 | skip
                                   refine cd_region ?_
                                   refine st_val (ro_assign (v := .int _ _) rfl) ?_
                                   refine st_nil ?_
                                   refine nx_block ?_
                                   refine nx_then ?_
                                   refine cd_seq ?_
                                   refine cd_region ?_
                                   refine st_val (ro_move (v := .pointer _) rfl) ?_
                                   refine st_val (ro_move (v := .int _ _) rfl) ?_
                                   refine st_val (ro_move (v := .int _ _) rfl) ?_
                                   refine st_call WavRanks_k14 (rankT _ b K L _ (hv.from_ (From.rfl_.next D67)) is[i] is[l]) ?_
                                   rintro v79 w73 ⟨rfl, E79⟩
                                   refine st_val (ro_move (v := .tuple _) rfl) ?_
                                   refine st_val (ro_extract rfl rfl) ?_
                                   refine st_val (ro_extract rfl rfl) ?_
                                   refine st_val (ro_assign (v := .int _ _) rfl) ?_
                                   refine st_val (ro_assign (v := .int _ _) rfl) ?_
                                   refine st_nil ?_
                                   refine nx_then ?_
                                   refine cd_seq ?_
                                   refine cd_region ?_
                                   refine st_val (ro_move (v := .int _ _) rfl) ?_
                                   refine st_val (ro_move (v := .int _ _) rfl) ?_
                                   refine st_val (ro_move (v := .int _ _) rfl) ?_
                                   refine st_val (ro_move (v := .int _ _) rfl) ?_
                                   refine st_call WavRanks_k12 (told_any _ _ _ _ _ (by first | exact rk_in hx (by omega) (by omega) | exact rk_out (by omega) | exact rk_far hxl (by omega) (by omega))) ?_
                                   rintro v86 w74 ⟨rfl, rfl⟩
                                   refine st_val (ro_not rfl) ?_
                                   refine st_nil ?_
                                   refine nx_then ?_
                                   refine cd_cond rfl (fun Q75 => ?_) (fun Q75 => ?_)
                                   · (try first | replace Q75 := bn_t Q75 | replace Q75 := bn_f Q75)
                                     (try first | replace Q75 := bx_t Q75 | replace Q75 := bx_f Q75 | replace Q75 := be_t Q75 | replace Q75 := be_f Q75 | replace Q75 := of_decide_eq_true Q75 | replace Q75 := of_decide_eq_false Q75)
                                     first
                                      | (exfalso; first | omega | (simp only [hne] at *; done) | (simp_all; done) | contradiction | (cases Q75; done))
                                      | skip
                                        refine cd_seq ?_
                                        refine cd_region ?_
                                        refine st_val (ro_assign (v := .bool _) rfl) ?_
                                        refine st_nil ?_
                                        refine nx_then ?_
                                        refine cd_ret ?_
                                        refine rt_block ?_
                                        refine rt_then ?_
                                        refine rt_then ?_
                                        refine rt_block ?_
                                        refine rt_block ?_
                                        refine rt_then ?_
                                        refine rt_then ?_
                                        refine rt_block ?_
                                        refine rt_then ?_
                                        refine res1 (v := .bool _) rfl rfl ?_
                                        exact ⟨rfl, ((hB.next D67).next E79)⟩
                                   · (try first | replace Q75 := bn_t Q75 | replace Q75 := bn_f Q75)
                                     (try first | replace Q75 := bx_t Q75 | replace Q75 := bx_f Q75 | replace Q75 := be_t Q75 | replace Q75 := be_f Q75 | replace Q75 := of_decide_eq_true Q75 | replace Q75 := of_decide_eq_false Q75)
                                     first
                                      | (exfalso; first | omega | (simp only [hne] at *; done) | (simp_all; done) | contradiction | (cases Q75; done))
                                      | skip
                                        refine cd_skip ?_
                                        refine nx_block ?_
                                        refine nx_then ?_
                                        refine cd_region ?_
                                        refine st_val (ro_move (v := .int _ _) rfl) ?_
                                        refine st_val (ro_addN (b := 1) rfl rfl (by omega)) ?_
                                        refine st_val (ro_assign (v := .int _ _) rfl) ?_
                                        refine st_nil ?_
                                        refine nx_cut (l + 1) ⟨(by first | rfl | (refine int_eq ?_; omega)), trivial⟩ (by (iterate 110 refine agr_cons rfl ?_); exact agr_rfl) ⟨?_, ?_⟩
                                        · exact ⟨by omega, hv.from_ ((From.rfl_.next D67).next E79), hP1.from_ ((From.rfl_.next D67).next E79), ((hB.next D67).next E79)⟩
                                        · omega
                              · (try first | replace Q72 := bn_t Q72 | replace Q72 := bn_f Q72)
                                (try first | replace Q72 := bx_t Q72 | replace Q72 := bx_f Q72 | replace Q72 := be_t Q72 | replace Q72 := be_f Q72 | replace Q72 := of_decide_eq_true Q72 | replace Q72 := of_decide_eq_false Q72)
                                first
                                 | (exfalso; first | omega | (simp only [hne] at *; done) | (simp_all; done) | contradiction | (cases Q72; done))
                                 | skip
                                   refine cd_seq ?_
                                   refine cd_region ?_
                                   refine st_val (ro_move (v := .int _ _) rfl) ?_
                                   refine st_val (ro_lss rfl rfl) ?_
                                   refine st_val (ro_move (v := .bool _) rfl) ?_
                                   refine st_split (t := 68) rfl (fun Q76 => ?_) (fun Q76 => ?_)
                                   · (try first | replace Q76 := bn_t Q76 | replace Q76 := bn_f Q76)
                                     (try first | replace Q76 := bx_t Q76 | replace Q76 := bx_f Q76 | replace Q76 := be_t Q76 | replace Q76 := be_f Q76 | replace Q76 := of_decide_eq_true Q76 | replace Q76 := of_decide_eq_false Q76)
                                     first
                                      | (exfalso; first | omega | (simp only [hne] at *; done) | (simp_all; done) | contradiction | (cases Q76; done))
                                      | skip
                                        refine st_gno rfl rfl ?_
                                        refine st_gno rfl rfl ?_
                                        refine st_gno rfl rfl ?_
                                        refine st_gno rfl rfl ?_
                                        refine st_gno rfl rfl ?_
                                        refine st_val (ro_pickT (v := .bool _) rfl rfl) ?_
                                        refine st_val (ro_assign (v := .bool _) rfl) ?_
                                        refine st_nil ?_
                                        refine nx_then ?_
                                        refine cd_condT rfl ?_
                                        refine cd_region ?_
                                        refine st_val (ro_assign (v := .int _ _) rfl) ?_
                                        refine st_nil ?_
                                        refine nx_block ?_
                                        refine nx_then ?_
                                        refine cd_seq ?_
                                        refine cd_region ?_
                                        refine st_val (ro_move (v := .pointer _) rfl) ?_
                                        refine st_val (ro_move (v := .int _ _) rfl) ?_
                                        refine st_val (ro_move (v := .int _ _) rfl) ?_
                                        refine st_call WavRanks_k14 (rankT _ b K L _ (hv.from_ (From.rfl_.next D67)) is[i] is[l]) ?_
                                        rintro v79 w77 ⟨rfl, E79⟩
                                        refine st_val (ro_move (v := .tuple _) rfl) ?_
                                        refine st_val (ro_extract rfl rfl) ?_
                                        refine st_val (ro_extract rfl rfl) ?_
                                        refine st_val (ro_assign (v := .int _ _) rfl) ?_
                                        refine st_val (ro_assign (v := .int _ _) rfl) ?_
                                        refine st_nil ?_
                                        refine nx_then ?_
                                        refine cd_seq ?_
                                        refine cd_region ?_
                                        refine st_val (ro_move (v := .int _ _) rfl) ?_
                                        refine st_val (ro_move (v := .int _ _) rfl) ?_
                                        refine st_val (ro_move (v := .int _ _) rfl) ?_
                                        refine st_val (ro_move (v := .int _ _) rfl) ?_
                                        refine st_call WavRanks_k12 (told_any _ _ _ _ _ (by first | exact rk_in hx (by omega) (by omega) | exact rk_out (by omega) | exact rk_far hxl (by omega) (by omega))) ?_
                                        rintro v86 w78 ⟨rfl, rfl⟩
                                        refine st_val (ro_not rfl) ?_
                                        refine st_nil ?_
                                        refine nx_then ?_
                                        refine cd_cond rfl (fun Q79 => ?_) (fun Q79 => ?_)
                                        · (try first | replace Q79 := bn_t Q79 | replace Q79 := bn_f Q79)
                                          (try first | replace Q79 := bx_t Q79 | replace Q79 := bx_f Q79 | replace Q79 := be_t Q79 | replace Q79 := be_f Q79 | replace Q79 := of_decide_eq_true Q79 | replace Q79 := of_decide_eq_false Q79)
                                          first
                                           | (exfalso; first | omega | (simp only [hne] at *; done) | (simp_all; done) | contradiction | (cases Q79; done))
                                           | skip
                                             refine cd_seq ?_
                                             refine cd_region ?_
                                             refine st_val (ro_assign (v := .bool _) rfl) ?_
                                             refine st_nil ?_
                                             refine nx_then ?_
                                             refine cd_ret ?_
                                             refine rt_block ?_
                                             refine rt_then ?_
                                             refine rt_then ?_
                                             refine rt_block ?_
                                             refine rt_block ?_
                                             refine rt_then ?_
                                             refine rt_then ?_
                                             refine rt_block ?_
                                             refine rt_then ?_
                                             refine res1 (v := .bool _) rfl rfl ?_
                                             exact ⟨rfl, ((hB.next D67).next E79)⟩
                                        · (try first | replace Q79 := bn_t Q79 | replace Q79 := bn_f Q79)
                                          (try first | replace Q79 := bx_t Q79 | replace Q79 := bx_f Q79 | replace Q79 := be_t Q79 | replace Q79 := be_f Q79 | replace Q79 := of_decide_eq_true Q79 | replace Q79 := of_decide_eq_false Q79)
                                          first
                                           | (exfalso; first | omega | (simp only [hne] at *; done) | (simp_all; done) | contradiction | (cases Q79; done))
                                           | skip
                                             refine cd_skip ?_
                                             refine nx_block ?_
                                             refine nx_then ?_
                                             refine cd_region ?_
                                             refine st_val (ro_move (v := .int _ _) rfl) ?_
                                             refine st_val (ro_addN (b := 1) rfl rfl (by omega)) ?_
                                             refine st_val (ro_assign (v := .int _ _) rfl) ?_
                                             refine st_nil ?_
                                             refine nx_cut (l + 1) ⟨(by first | rfl | (refine int_eq ?_; omega)), trivial⟩ (by (iterate 121 refine agr_cons rfl ?_); exact agr_rfl) ⟨?_, ?_⟩
                                             · exact ⟨by omega, hv.from_ ((From.rfl_.next D67).next E79), hP1.from_ ((From.rfl_.next D67).next E79), ((hB.next D67).next E79)⟩
                                             · omega
                                   · (try first | replace Q76 := bn_t Q76 | replace Q76 := bn_f Q76)
                                     (try first | replace Q76 := bx_t Q76 | replace Q76 := bx_f Q76 | replace Q76 := be_t Q76 | replace Q76 := be_f Q76 | replace Q76 := of_decide_eq_true Q76 | replace Q76 := of_decide_eq_false Q76)
                                     first
                                      | (exfalso; first | omega | (simp only [hne] at *; done) | (simp_all; done) | contradiction | (cases Q76; done))
                                      | skip
                                        refine st_unguard rfl ?_
                                        refine st_val (ro_move (v := .int _ _) rfl) ?_
                                        refine st_unguard rfl ?_
                                        refine st_val (ro_fieldAddr WavRanks_f24_1 rfl) ?_
                                        refine st_unguard rfl ?_
                                        refine st_val (ro_load WavRanks_g22 rfl (by first | (first | exact (hP1.from_ (From.rfl_.next D67)).whole | exact (hP1.from_ (From.rfl_.next D67)).rd 0 rfl | exact (hP1.from_ (From.rfl_.next D67)).rd 1 rfl | exact (hP1.from_ (From.rfl_.next D67)).rd 2 rfl) | (first | exact (hk1.from_ (From.rfl_.next D67)).whole | exact (hk1.from_ (From.rfl_.next D67)).rd 0 rfl | exact (hk1.from_ (From.rfl_.next D67)).rd 1 rfl | exact (hk1.from_ (From.rfl_.next D67)).rd 2 rfl))) ?_
                                        refine st_unguard rfl ?_
                                        refine st_val (ro_len WavRanks_l22 rfl) ?_
                                        refine st_unguard rfl ?_
                                        refine st_val (ro_gtr rfl rfl) ?_
                                        refine st_val (ro_pickF (v := .bool _) rfl rfl) ?_
                                        refine st_val (ro_assign (v := .bool _) rfl) ?_
                                        refine st_nil ?_
                                        refine nx_then ?_
                                        refine cd_cond rfl (fun Q80 => ?_) (fun Q80 => ?_)
                                        · (try first | replace Q80 := bn_t Q80 | replace Q80 := bn_f Q80)
                                          (try first | replace Q80 := bx_t Q80 | replace Q80 := bx_f Q80 | replace Q80 := be_t Q80 | replace Q80 := be_f Q80 | replace Q80 := of_decide_eq_true Q80 | replace Q80 := of_decide_eq_false Q80)
                                          first
                                           | (exfalso; first | omega | (simp only [hne] at *; done) | (simp_all; done) | contradiction | (cases Q80; done))
                                           | skip
                                             refine cd_region ?_
                                             refine st_val (ro_assign (v := .int _ _) rfl) ?_
                                             refine st_nil ?_
                                             refine nx_block ?_
                                             refine nx_then ?_
                                             refine cd_seq ?_
                                             refine cd_region ?_
                                             refine st_val (ro_move (v := .pointer _) rfl) ?_
                                             refine st_val (ro_move (v := .int _ _) rfl) ?_
                                             refine st_val (ro_move (v := .int _ _) rfl) ?_
                                             refine st_call WavRanks_k14 (rankT _ b K L _ (hv.from_ (From.rfl_.next D67)) is[i] is[l]) ?_
                                             rintro v79 w81 ⟨rfl, E79⟩
                                             refine st_val (ro_move (v := .tuple _) rfl) ?_
                                             refine st_val (ro_extract rfl rfl) ?_
                                             refine st_val (ro_extract rfl rfl) ?_
                                             refine st_val (ro_assign (v := .int _ _) rfl) ?_
                                             refine st_val (ro_assign (v := .int _ _) rfl) ?_
                                             refine st_nil ?_
                                             refine nx_then ?_
                                             refine cd_seq ?_
                                             refine cd_region ?_
                                             refine st_val (ro_move (v := .int _ _) rfl) ?_
                                             refine st_val (ro_move (v := .int _ _) rfl) ?_
                                             refine st_val (ro_move (v := .int _ _) rfl) ?_
                                             refine st_val (ro_move (v := .int _ _) rfl) ?_
                                             refine st_call WavRanks_k12 (told_any _ _ _ _ _ (by first | exact rk_in hx (by omega) (by omega) | exact rk_out (by omega) | exact rk_far hxl (by omega) (by omega))) ?_
                                             rintro v86 w82 ⟨rfl, rfl⟩
                                             refine st_val (ro_not rfl) ?_
                                             refine st_nil ?_
                                             refine nx_then ?_
                                             refine cd_cond rfl (fun Q83 => ?_) (fun Q83 => ?_)
                                             · (try first | replace Q83 := bn_t Q83 | replace Q83 := bn_f Q83)
                                               (try first | replace Q83 := bx_t Q83 | replace Q83 := bx_f Q83 | replace Q83 := be_t Q83 | replace Q83 := be_f Q83 | replace Q83 := of_decide_eq_true Q83 | replace Q83 := of_decide_eq_false Q83)
                                               first
                                                | (exfalso; first | omega | (simp only [hne] at *; done) | (simp_all; done) | contradiction | (cases Q83; done))
                                                | skip
                                                  refine cd_seq ?_
                                                  refine cd_region ?_
                                                  refine st_val (ro_assign (v := .bool _) rfl) ?_
                                                  refine st_nil ?_
                                                  refine nx_then ?_
                                                  refine cd_ret ?_
                                                  refine rt_block ?_
                                                  refine rt_then ?_
                                                  refine rt_then ?_
                                                  refine rt_block ?_
                                                  refine rt_block ?_
                                                  refine rt_then ?_
                                                  refine rt_then ?_
                                                  refine rt_block ?_
                                                  refine rt_then ?_
                                                  refine res1 (v := .bool _) rfl rfl ?_
                                                  exact ⟨rfl, ((hB.next D67).next E79)⟩
                                             · (try first | replace Q83 := bn_t Q83 | replace Q83 := bn_f Q83)
                                               (try first | replace Q83 := bx_t Q83 | replace Q83 := bx_f Q83 | replace Q83 := be_t Q83 | replace Q83 := be_f Q83 | replace Q83 := of_decide_eq_true Q83 | replace Q83 := of_decide_eq_false Q83)
                                               first
                                                | (exfalso; first | omega | (simp only [hne] at *; done) | (simp_all; done) | contradiction | (cases Q83; done))
                                                | skip
                                                  refine cd_skip ?_
                                                  refine nx_block ?_
                                                  refine nx_then ?_
                                                  refine cd_region ?_
                                                  refine st_val (ro_move (v := .int _ _) rfl) ?_
                                                  refine st_val (ro_addN (b := 1) rfl rfl (by omega)) ?_
                                                  refine st_val (ro_assign (v := .int _ _) rfl) ?_
                                                  refine st_nil ?_
                                                  refine nx_cut (l + 1) ⟨(by first | rfl | (refine int_eq ?_; omega)), trivial⟩ (by (iterate 121 refine agr_cons rfl ?_); exact agr_rfl) ⟨?_, ?_⟩
                                                  · exact ⟨by omega, hv.from_ ((From.rfl_.next D67).next E79), hP1.from_ ((From.rfl_.next D67).next E79), ((hB.next D67).next E79)⟩
                                                  · omega
                                        · (try first | replace Q80 := bn_t Q80 | replace Q80 := bn_f Q80)
                                          (try first | replace Q80 := bx_t Q80 | replace Q80 := bx_f Q80 | replace Q80 := be_t Q80 | replace Q80 := be_f Q80 | replace Q80 := of_decide_eq_true Q80 | replace Q80 := of_decide_eq_false Q80)
                                          first
                                           | (exfalso; first | omega | (simp only [hne] at *; done) | (simp_all; done) | contradiction | (cases Q80; done))
                                           | skip
                                             refine cd_region ?_
                                             refine st_val (ro_fieldAddr WavRanks_f24_1 rfl) ?_
                                             refine st_val (ro_load WavRanks_g22 rfl (by first | (first | exact (hP1.from_ (From.rfl_.next D67)).whole | exact (hP1.from_ (From.rfl_.next D67)).rd 0 rfl | exact (hP1.from_ (From.rfl_.next D67)).rd 1 rfl | exact (hP1.from_ (From.rfl_.next D67)).rd 2 rfl) | (first | exact (hk1.from_ (From.rfl_.next D67)).whole | exact (hk1.from_ (From.rfl_.next D67)).rd 0 rfl | exact (hk1.from_ (From.rfl_.next D67)).rd 1 rfl | exact (hk1.from_ (From.rfl_.next D67)).rd 2 rfl))) ?_
                                             refine st_val (ro_move (v := .int _ _) rfl) ?_
                                             refine st_val (ro_move (v := .int _ _) rfl) ?_
                                             refine st_call WavRanks_k13 (refRank_any is[i] is[l] A ca xs _ (hr.from_ (hB.next D67)) (by omega) (by omega)) ?_
                                             rintro v55 w84 ⟨rfl, rfl⟩
                                             refine st_val (ro_assign (v := .int _ _) rfl) ?_
                                             refine st_nil ?_
                                             refine nx_block ?_
                                             refine nx_then ?_
                                             refine cd_seq ?_
                                             refine cd_region ?_
                                             refine st_val (ro_move (v := .pointer _) rfl) ?_
                                             refine st_val (ro_move (v := .int _ _) rfl) ?_
                                             refine st_val (ro_move (v := .int _ _) rfl) ?_
                                             refine st_call WavRanks_k14 (rankT _ b K L _ (hv.from_ (From.rfl_.next D67)) is[i] is[l]) ?_
                                             rintro v79 w85 ⟨rfl, E79⟩
                                             refine st_val (ro_move (v := .tuple _) rfl) ?_
                                             refine st_val (ro_extract rfl rfl) ?_
                                             refine st_val (ro_extract rfl rfl) ?_
                                             refine st_val (ro_assign (v := .int _ _) rfl) ?_
                                             refine st_val (ro_assign (v := .int _ _) rfl) ?_
                                             refine st_nil ?_
                                             refine nx_then ?_
                                             refine cd_seq ?_
                                             refine cd_region ?_
                                             refine st_val (ro_move (v := .int _ _) rfl) ?_
                                             refine st_val (ro_move (v := .int _ _) rfl) ?_
                                             refine st_val (ro_move (v := .int _ _) rfl) ?_
                                             refine st_val (ro_move (v := .int _ _) rfl) ?_
                                             refine st_call WavRanks_k12 (told_any _ _ _ _ _ (by first | exact rk_in hx (by omega) (by omega) | exact rk_out (by omega) | exact rk_far hxl (by omega) (by omega))) ?_
                                             rintro v86 w86 ⟨rfl, rfl⟩
                                             refine st_val (ro_not rfl) ?_
                                             refine st_nil ?_
                                             refine nx_then ?_
                                             refine cd_cond rfl (fun Q87 => ?_) (fun Q87 => ?_)
                                             · (try first | replace Q87 := bn_t Q87 | replace Q87 := bn_f Q87)
                                               (try first | replace Q87 := bx_t Q87 | replace Q87 := bx_f Q87 | replace Q87 := be_t Q87 | replace Q87 := be_f Q87 | replace Q87 := of_decide_eq_true Q87 | replace Q87 := of_decide_eq_false Q87)
                                               first
                                                | (exfalso; first | omega | (simp only [hne] at *; done) | (simp_all; done) | contradiction | (cases Q87; done))
                                                | skip
                                                  refine cd_seq ?_
                                                  refine cd_region ?_
                                                  refine st_val (ro_assign (v := .bool _) rfl) ?_
                                                  refine st_nil ?_
                                                  refine nx_then ?_
                                                  refine cd_ret ?_
                                                  refine rt_block ?_
                                                  refine rt_then ?_
                                                  refine rt_then ?_
                                                  refine rt_block ?_
                                                  refine rt_block ?_
                                                  refine rt_then ?_
                                                  refine rt_then ?_
                                                  refine rt_block ?_
                                                  refine rt_then ?_
                                                  refine res1 (v := .bool _) rfl rfl ?_
                                                  exact ⟨rfl, ((hB.next D67).next E79)⟩
                                             · (try first | replace Q87 := bn_t Q87 | replace Q87 := bn_f Q87)
                                               (try first | replace Q87 := bx_t Q87 | replace Q87 := bx_f Q87 | replace Q87 := be_t Q87 | replace Q87 := be_f Q87 | replace Q87 := of_decide_eq_true Q87 | replace Q87 := of_decide_eq_false Q87)
                                               first
                                                | (exfalso; first | omega | (simp only [hne] at *; done) | (simp_all; done) | contradiction | (cases Q87; done))
                                                | skip
                                                  refine cd_skip ?_
                                                  refine nx_block ?_
                                                  refine nx_then ?_
                                                  refine cd_region ?_
                                                  refine st_val (ro_move (v := .int _ _) rfl) ?_
                                                  refine st_val (ro_addN (b := 1) rfl rfl (by omega)) ?_
                                                  refine st_val (ro_assign (v := .int _ _) rfl) ?_
                                                  refine st_nil ?_
                                                  refine nx_cut (l + 1) ⟨(by first | rfl | (refine int_eq ?_; omega)), trivial⟩ (by (iterate 126 refine agr_cons rfl ?_); exact agr_rfl) ⟨?_, ?_⟩
                                                  · exact ⟨by omega, hv.from_ ((From.rfl_.next D67).next E79), hP1.from_ ((From.rfl_.next D67).next E79), ((hB.next D67).next E79)⟩
                                                  · omega
                   · (try first | replace Q53 := bn_t Q53 | replace Q53 := bn_f Q53)
                     (try first | replace Q53 := bx_t Q53 | replace Q53 := bx_f Q53 | replace Q53 := be_t Q53 | replace Q53 := be_f Q53 | replace Q53 := of_decide_eq_true Q53 | replace Q53 := of_decide_eq_false Q53)
                     first
                      | (exfalso; first | omega | (simp only [hne] at *; done) | (simp_all; done) | contradiction | (cases Q53; done))
                      | skip
                        refine cd_exit ?_
                        refine ex_then ?_
                        refine ex_then ?_
                        refine ex_block ?_
                        refine nx_block ?_
                        refine nx_then ?_
                        refine cd_region ?_
                        refine st_val (ro_move (v := .int _ _) rfl) ?_
                        refine st_val (ro_addN (b := 1) rfl rfl (by omega)) ?_
                        refine st_val (ro_assign (v := .int _ _) rfl) ?_
                        refine st_nil ?_
                        refine nx_cut (i + 1) ⟨(by first | rfl | (refine int_eq ?_; omega)), trivial⟩ (by (iterate 146 refine agr_cons rfl ?_); exact agr_rfl) ⟨?_, ?_⟩
                        · exact ⟨by omega, hv.from_ From.rfl_, hP1.from_ From.rfl_, hB⟩
                        · omega
              · (try first | replace Q51 := bn_t Q51 | replace Q51 := bn_f Q51)
                (try first | replace Q51 := bx_t Q51 | replace Q51 := bx_f Q51 | replace Q51 := be_t Q51 | replace Q51 := be_f Q51 | replace Q51 := of_decide_eq_true Q51 | replace Q51 := of_decide_eq_false Q51)
                first
                 | (exfalso; first | omega | (simp only [hne] at *; done) | (simp_all; done) | contradiction | (cases Q51; done))
                 | skip
                   refine cd_exit ?_
                   refine ex_then ?_
                   refine ex_then ?_
                   refine ex_block ?_
                   refine nx_then ?_
                   refine cd_seq ?_
                   refine cd_region ?_
                   refine st_call WavRanks_k8 (wakes_any _) ?_
                   rintro v88 w88 ⟨rfl, E88⟩
                   refine st_val (ro_assign (v := .bool _) rfl) ?_
                   refine st_nil ?_
                   refine nx_then ?_
                   refine cd_ret ?_
                   refine res1 (v := .bool _) rfl rfl ?_
                   exact ⟨rfl, (hB.next E88)⟩
theorem ranks_arg (cs : Array Value) (x : (Ty.pr (.int .i64) (.pr (.sl (.int .i64)) (.pr (.sl (.int .i64)) .unit))).den) (w : World) (hs : cs.size = 3) (h : (Ty.pr (.int .i64) (.pr (.sl (.int .i64)) (.pr (.sl (.int .i64)) .unit))).At w (fun j => cs[j]?) x) :
    Rt Try.prog 4 [.agg cs] w fun v w' => v = .bool true ∧ From w w' := by
  obtain ⟨k, A, ca, xs, B, cb, is, rfl, h1, h2, h3, h4, h5⟩ := ask_of hs h
  exact ranks_law k A B ca cb xs is w h1 h2 h3 h4
set_option maxRecDepth 100000 in
theorem WaveletRanks_lifted (os : Os) (started : os.Started) (H : Type) (enc : TypeId × Value → H) :
    ReturnsInHanded {} Try.checked os 4 .any (Rows.waveletRanksSpec.pre6 enc Try.prog Try.f4 Rows.waveletRanksRow.domain false) (Rows.waveletRanksSpec.post enc Try.prog Try.f4 false true false false) := by
  refine returnsInHanded_of_change_sized (C := Try.checked) Try.own started (by kernel_rfl) Try.func4
    (ChangeSpec.witness6 (enc := enc) (C := Try.checked) false ⟨#[], #[.agg #[.int .i64 0, .slice none 0 0, .slice none 0 0]], []⟩ 8 (by kernel_rfl) (by kernel_rfl) (by kernel_rfl) (by kernel_rfl)) ?_
  intro W base args ds gs before hval hW _ hsz _
  exact law_step 4 Try.f4 24 4 Rows.waveletRanksSpec Try.params4 (by kernel_rfl) Try.underlying4 rfl (fun _ => rfl) (by kernel_rfl) (of_decide_eq_true (by kernel_rfl)) (walk_struct (.int .i64) (.pr (.sl (.int .i64)) (.pr (.sl (.int .i64)) .unit)) (by kernel_rfl) ranks_arg) W base args ds gs before hval hW hsz

theorem WaveletRanks_holds : Rows.WaveletRanksSaid :=
  OpenClaim.holds_of_wide 4 Try.f4 rfl rfl rfl rfl rfl rfl rfl ⟨rfl, rfl, rfl, rfl, rfl⟩ rfl rfl rfl rfl rfl (by kernel_rfl) Try.func4 (by kernel_rfl)
    (of_decide_eq_true (by kernel_rfl)) (by unfold Func.isWrapper; first | (rw [if_pos (by decide +kernel)]; kernel_rfl) | (rw [if_neg (by decide +kernel)]; exact ⟨rfl, rfl⟩))
    (fun os started H enc _ => WaveletRanks_lifted os started H enc)
#print axioms WaveletRanks_holds

end Go.Proofs.Ytmiclfhpenjjfaa
