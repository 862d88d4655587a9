/- The law WaveletLess. -/
import Derived.Test.YtmiclfhpenjjfaaWavHelp
namespace Go.Proofs.Ytmiclfhpenjjfaa
open Go.RowKit
open Go.ChangeShapes Go.WideShapes Go.ChangeAt
theorem WavLess_l22 : (elemQ Try.prog 22).isSome = true := by kernel_rfl
theorem WavLess_e22 : elemQ Try.prog 22 = some (3, 1) := by kernel_rfl
theorem WavLess_g3 : aggQ Try.prog 3 = some false := by kernel_rfl
theorem WavLess_g24 : aggQ Try.prog 24 = some true := by kernel_rfl
theorem WavLess_z24 : sizeQ Try.prog 24 = some 3 := by kernel_rfl
theorem WavLess_k6 : callable Try.prog 6 = true := by kernel_rfl
theorem WavLess_k7 : callable Try.prog 7 = true := by kernel_rfl
theorem WavLess_p26 : Try.prog.underlying 26 = some (.pointer (Try.prog.pointee 26)) := by kernel_rfl
theorem WavLess_k8 : callable Try.prog 8 = true := by kernel_rfl
theorem WavLess_f24_2 : fieldQ Try.prog 24 2 = some 2 := by kernel_rfl
theorem WavLess_g22 : aggQ Try.prog 22 = some false := by kernel_rfl
theorem WavLess_f24_0 : fieldQ Try.prog 24 0 = some 0 := by kernel_rfl
theorem WavLess_f24_1 : fieldQ Try.prog 24 1 = some 1 := by kernel_rfl
theorem WavLess_k15 : callable Try.prog 15 = true := by kernel_rfl
theorem WavLess_k16 : callable Try.prog 16 = true := by kernel_rfl
theorem WavLess_k12 : callable Try.prog 12 = true := by kernel_rfl
theorem cnt_step (p : Int → Bool) {xs : List Int} {i : Nat} (h : i < xs.length) : (xs.take (i + 1)).countP p = (xs.take i).countP p + if p xs[i] then 1 else 0 := by
  rw [List.take_succ_eq_append_getElem h, List.countP_append, List.countP_cons]
  simp
theorem lt_in {K : Nat} {L : List Nat} {xs : List Int} (hx : xs = L.map fun x : Nat => (x : Int)) {c : Int} (h : 0 ≤ c ∧ c ≤ (K : Nat)) : ((0 : Int) ≠ 0 → sE K c = 0 ∧ sV K L c = 0) ∧ ((0 : Int) = 0 → sE K c = 0 ∧ sV K L c = (xs.countP (fun x => decide (x < c)) : Nat)) := by
  subst hx
  unfold sE sV
  rw [if_pos h, if_pos h]
  refine ⟨fun h => absurd rfl h, fun _ => ⟨rfl, ?_⟩⟩
  obtain ⟨q, rfl⟩ : ∃ q : Nat, c = (q : Int) := ⟨c.toNat, by omega⟩
  unfold cntLt
  rw [List.countP_map, Int.toNat_natCast]
  congr 2
  funext x
  simp
theorem lt_out {K : Nat} {L : List Nat} {c : Int} (h : ¬ (0 ≤ c ∧ c ≤ (K : Nat))) : ((1 : Int) ≠ 0 → sE K c = 1 ∧ sV K L c = 0) ∧ ((1 : Int) = 0 → sE K c = 0 ∧ sV K L c = 0) := by
  unfold sE sV
  rw [if_neg h, if_neg h]
  exact ⟨fun _ => ⟨rfl, rfl⟩, fun h => by omega⟩
set_option maxRecDepth 100000 in
set_option maxHeartbeats 400000 in
theorem refLess_any (c : Int) (A : Option Addr) (ca : Nat) (xs : List Int) (w : World) (hr : RowOf iV w A xs) (hl : xs.length ≤ 1000000000000) :
    Rt Try.prog 15 [.slice A xs.length ca, .int .i64 c] w (fun v w' => v = .int .i64 ((xs.countP (fun x => decide (x < c)) : Nat) : Int) ∧ w = w') := by
  refine enter (n := 22) Try.func15 rfl rfl rfl ?_
  refine cd_seq ?_
  refine cd_region ?_
  refine st_val (ro_assign (v := .int _ _) rfl) ?_
  refine st_nil ?_
  refine nx_then ?_
  refine cd_seq ?_
  refine cd_region ?_
  refine st_val (ro_assign (v := .int _ _) rfl) ?_
  refine st_nil ?_
  refine nx_then ?_
  refine cd_seq ?_
  refine cd_seq ?_
  refine cd_region ?_
  refine st_val (ro_assign (v := .int _ _) rfl) ?_
  refine st_nil ?_
  refine nx_then ?_
  refine cd_block ?_
  refine cd_loop (G := Nat) [7, 8, 9, 10, 11, 12, 13, 14, 15, 16, 17, 18, 19, 20] (fun i => [(5, .int .i64 (((xs.take i).countP (fun x => decide (x < c)) : Nat) : Int)), (6, .int .i64 (i : Nat))]) (fun i w' => i ≤ xs.length ∧ w = w') (fun i => xs.length - i) (0) ⟨rfl, rfl, trivial⟩ ?_ ?_
  · exact ⟨Nat.zero_le _, rfl⟩
  rintro i ρ1 w1 ⟨hi, rfl⟩
  refine cd_seq ?_
  refine cd_seq ?_
  refine cd_region ?_
  refine st_val (ro_move (v := .int _ _) rfl) ?_
  refine st_val (ro_move (v := .slice _ _ _) rfl) ?_
  refine st_val (ro_len WavLess_l22 rfl) ?_
  refine st_val (ro_lss rfl rfl) ?_
  refine st_nil ?_
  refine nx_then ?_
  refine cd_cond rfl (fun Q2 => ?_) (fun Q2 => ?_)
  · (try first | replace Q2 := bn_t Q2 | replace Q2 := bn_f Q2)
    (try first | replace Q2 := bx_t Q2 | replace Q2 := bx_f Q2 | replace Q2 := be_t Q2 | replace Q2 := be_f Q2 | replace Q2 := of_decide_eq_true Q2 | replace Q2 := of_decide_eq_false Q2)
    have hiL : i < xs.length := by omega
    have hcl := List.countP_le_length (p := (fun x => decide (x < c))) (l := xs.take i)
    have htl := List.length_take_le i xs
    obtain ⟨ba, oa, hA, hca⟩ := hr (by omega)
    subst hA
    first
     | (exfalso; first | omega | contradiction | (cases Q2; done))
     | skip
       refine cd_skip ?_
       refine nx_then ?_
       refine cd_seq ?_
       refine cd_block ?_
       refine cd_seq ?_
       refine cd_region ?_
       refine st_val (ro_move (v := .slice _ _ _) rfl) ?_
       refine st_val (ro_move (v := .int _ _) rfl) ?_
       refine st_val (ro_indexAddr1 WavLess_e22 rfl rfl (by omega)) ?_
       refine st_val (ro_load WavLess_g3 rfl (by exact hca i hiL)) ?_
       refine st_val (ro_move (v := .int _ _) rfl) ?_
       refine st_val (ro_lss rfl rfl) ?_
       refine st_nil ?_
       refine nx_then ?_
       refine cd_cond rfl (fun Q3 => ?_) (fun Q3 => ?_)
       · (try first | replace Q3 := bn_t Q3 | replace Q3 := bn_f Q3)
         (try first | replace Q3 := bx_t Q3 | replace Q3 := bx_f Q3 | replace Q3 := be_t Q3 | replace Q3 := be_f Q3 | replace Q3 := of_decide_eq_true Q3 | replace Q3 := of_decide_eq_false Q3)
         have hs : (xs.take (i + 1)).countP (fun x => decide (x < c)) = (xs.take i).countP (fun x => decide (x < c)) + 1 := by rw [cnt_step _ hiL, if_pos (decide_eq_true Q3)]
         first
          | (exfalso; first | omega | contradiction | (cases Q3; done))
          | skip
            refine cd_region ?_
            refine st_val (ro_move (v := .int _ _) rfl) ?_
            refine st_val (ro_addN (b := 1) rfl rfl (by omega)) ?_
            refine st_val (ro_assign (v := .int _ _) rfl) ?_
            refine st_nil ?_
            refine nx_block ?_
            refine nx_then ?_
            refine cd_region ?_
            refine st_val (ro_move (v := .int _ _) rfl) ?_
            refine st_val (ro_addN (b := 1) rfl rfl (by omega)) ?_
            refine st_val (ro_assign (v := .int _ _) rfl) ?_
            refine st_nil ?_
            refine nx_cut (i + 1) ⟨(int_eq (by rw [hs])), rfl, trivial⟩ (by (iterate 32 refine agr_cons rfl ?_); exact agr_rfl) ⟨?_, ?_⟩
            · exact ⟨by omega, rfl⟩
            · omega
       · (try first | replace Q3 := bn_t Q3 | replace Q3 := bn_f Q3)
         (try first | replace Q3 := bx_t Q3 | replace Q3 := bx_f Q3 | replace Q3 := be_t Q3 | replace Q3 := be_f Q3 | replace Q3 := of_decide_eq_true Q3 | replace Q3 := of_decide_eq_false Q3)
         have hs : (xs.take (i + 1)).countP (fun x => decide (x < c)) = (xs.take i).countP (fun x => decide (x < c)) := by rw [cnt_step _ hiL, if_neg (by simpa using Q3), Nat.add_zero]
         first
          | (exfalso; first | omega | contradiction | (cases Q3; done))
          | skip
            refine cd_skip ?_
            refine nx_block ?_
            refine nx_then ?_
            refine cd_region ?_
            refine st_val (ro_move (v := .int _ _) rfl) ?_
            refine st_val (ro_addN (b := 1) rfl rfl (by omega)) ?_
            refine st_val (ro_assign (v := .int _ _) rfl) ?_
            refine st_nil ?_
            refine nx_cut (i + 1) ⟨(int_eq (by rw [hs])), rfl, trivial⟩ (by (iterate 29 refine agr_cons rfl ?_); exact agr_rfl) ⟨?_, ?_⟩
            · exact ⟨by omega, rfl⟩
            · omega
  · (try first | replace Q2 := bn_t Q2 | replace Q2 := bn_f Q2)
    (try first | replace Q2 := bx_t Q2 | replace Q2 := bx_f Q2 | replace Q2 := be_t Q2 | replace Q2 := be_f Q2 | replace Q2 := of_decide_eq_true Q2 | replace Q2 := of_decide_eq_false Q2)
    first
     | (exfalso; first | omega | contradiction | (cases Q2; done))
     | skip
       refine cd_exit ?_
       refine ex_then ?_
       refine ex_then ?_
       refine ex_block ?_
       refine nx_then ?_
       refine cd_seq ?_
       refine cd_region ?_
       refine st_val (ro_move (v := .int _ _) rfl) ?_
       refine st_val (ro_assign (v := .int _ _) rfl) ?_
       refine st_nil ?_
       refine nx_then ?_
       refine cd_ret ?_
       refine res1 (v := .int _ _) rfl rfl ?_
       obtain rfl : i = xs.length := by omega
       exact ⟨by rw [List.take_length], rfl⟩
set_option maxRecDepth 100000 in
set_option maxHeartbeats 3000000 in
theorem less_law (k : Int) (A B : Option Addr) (ca cb : Nat) (xs is : List Int) (w : World) (hr : RowOf iV w A xs) (hb64 : ∀ x ∈ xs, -9223372036854775808 ≤ x ∧ x ≤ 9223372036854775807) (hrB : RowOf iV w B is) (hB64 : ∀ x ∈ is, -9223372036854775808 ≤ x ∧ x ≤ 9223372036854775807) :
    Rt Try.prog 5 [.agg #[.int .i64 k, .slice A xs.length ca, .slice B is.length cb]] w (fun v w' => v = .bool true ∧ From w w') := by
  refine enter (n := 62) Try.func5 rfl rfl rfl ?_
  refine cd_seq ?_
  refine cd_region ?_
  refine st_box (v := .agg _) rfl ?_
  intro b1 w1 E1 hb1 hk1
  refine st_val (ro_assign (v := .bool _) rfl) ?_
  refine st_nil ?_
  refine nx_then ?_
  refine cd_seq ?_
  refine cd_seq ?_
  refine cd_region ?_
  refine st_val (ro_loadA (cs := [_, _, _]) WavLess_g24 WavLess_z24 rfl (by first | (first | exact (hP1.from_ From.rfl_).whole | exact (hP1.from_ From.rfl_).rd 0 rfl | exact (hP1.from_ From.rfl_).rd 1 rfl | exact (hP1.from_ From.rfl_).rd 2 rfl) | (first | exact (hk1.from_ From.rfl_).whole | exact (hk1.from_ From.rfl_).rd 0 rfl | exact (hk1.from_ From.rfl_).rd 1 rfl | exact (hk1.from_ From.rfl_).rd 2 rfl))) ?_
  refine st_call WavLess_k6 (heavy_any k A B _ ca _ cb _) ?_
  rintro v12 w2 ⟨rfl, E12⟩
  refine st_nil ?_
  refine nx_then ?_
  refine cd_cond rfl (fun Q3 => ?_) (fun Q3 => ?_)
  · (try first | replace Q3 := bn_t Q3 | replace Q3 := bn_f Q3)
    (try first | replace Q3 := bx_t Q3 | replace Q3 := bx_f Q3 | replace Q3 := be_t Q3 | replace Q3 := be_f Q3 | replace Q3 := of_decide_eq_true Q3 | replace Q3 := of_decide_eq_false Q3)
    first
     | (exfalso; first | omega | (simp only [hne] at *; done) | (simp_all; done) | contradiction | (cases Q3; done))
     | skip
       refine cd_seq ?_
       refine cd_region ?_
       refine st_val (ro_assign (v := .bool _) rfl) ?_
       refine st_nil ?_
       refine nx_then ?_
       refine cd_ret ?_
       refine rt_then ?_
       refine res1 (v := .bool _) rfl rfl ?_
       exact ⟨rfl, ((From.rfl_.next E1).next E12)⟩
  · (try first | replace Q3 := bn_t Q3 | replace Q3 := bn_f Q3)
    (try first | replace Q3 := bx_t Q3 | replace Q3 := bx_f Q3 | replace Q3 := be_t Q3 | replace Q3 := be_f Q3 | replace Q3 := of_decide_eq_true Q3 | replace Q3 := of_decide_eq_false Q3)
    first
     | (exfalso; first | omega | (simp only [hne] at *; done) | (simp_all; done) | contradiction | (cases Q3; done))
     | skip
       refine cd_skip ?_
       refine nx_then ?_
       refine cd_seq ?_
       refine cd_region ?_
       refine st_val (ro_loadA (cs := [_, _, _]) WavLess_g24 WavLess_z24 rfl (by first | (first | exact (hP1.from_ (From.rfl_.next E12)).whole | exact (hP1.from_ (From.rfl_.next E12)).rd 0 rfl | exact (hP1.from_ (From.rfl_.next E12)).rd 1 rfl | exact (hP1.from_ (From.rfl_.next E12)).rd 2 rfl) | (first | exact (hk1.from_ (From.rfl_.next E12)).whole | exact (hk1.from_ (From.rfl_.next E12)).rd 0 rfl | exact (hk1.from_ (From.rfl_.next E12)).rd 1 rfl | exact (hk1.from_ (From.rfl_.next E12)).rd 2 rfl))) ?_
       have hz15 := (((From.rfl_.next E1).next E12)).size
       refine st_call WavLess_k7 (made_rt k A B ca _ cb xs _ (hr.from_ ((From.rfl_.next E1).next E12)) (by omega)) ?_
       rintro v15 w4 ⟨hn15, E15⟩
       replace hk1 := hk1.from_ ((From.rfl_.next E12).next E15)
       rcases hn15 with ⟨hne, rfl⟩ | ⟨K, L, b, rfl, hx, rfl, hv⟩
       · refine st_val (ro_move (v := .tuple _) rfl) ?_
         refine st_val (ro_extract rfl rfl) ?_
         refine st_val (ro_extract rfl rfl) ?_
         refine st_val (ro_assign (v := .pointer _) rfl) ?_
         refine st_val (ro_assign (v := .int _ _) rfl) ?_
         refine st_nil ?_
         refine nx_then ?_
         refine cd_seq ?_
         refine cd_seq ?_
         refine cd_region ?_
         refine st_val (ro_move (v := .pointer _) rfl) ?_
         refine st_val (ro_eqlNil WavLess_p26 rfl rfl) ?_
         refine st_nil ?_
         refine nx_then ?_
         refine cd_cond rfl (fun Q5 => ?_) (fun Q5 => ?_)
         · (try first | replace Q5 := bn_t Q5 | replace Q5 := bn_f Q5)
           (try first | replace Q5 := bx_t Q5 | replace Q5 := bx_f Q5 | replace Q5 := be_t Q5 | replace Q5 := be_f Q5 | replace Q5 := of_decide_eq_true Q5 | replace Q5 := of_decide_eq_false Q5)
           first
            | (exfalso; first | omega | (simp only [hne] at *; done) | (simp_all; done) | contradiction | (cases Q5; done))
            | skip
              refine cd_seq ?_
              refine cd_region ?_
              refine st_val (ro_move (v := .int _ _) rfl) ?_
              refine st_val (ro_neq rfl rfl) ?_
              refine st_val (ro_move (v := .bool _) rfl) ?_
              refine st_split (t := 22) rfl (fun Q6 => ?_) (fun Q6 => ?_)
              · (try first | replace Q6 := bn_t Q6 | replace Q6 := bn_f Q6)
                (try first | replace Q6 := bx_t Q6 | replace Q6 := bx_f Q6 | replace Q6 := be_t Q6 | replace Q6 := be_f Q6 | replace Q6 := of_decide_eq_true Q6 | replace Q6 := of_decide_eq_false Q6)
                first
                 | (exfalso; first | omega | (simp only [hne] at *; done) | (simp_all; done) | contradiction | (cases Q6; done))
                 | skip
                   refine st_unguard rfl ?_
                   refine st_call WavLess_k8 (wakes_any _) ?_
                   rintro v23 w7 ⟨rfl, E23⟩
                   refine st_val (ro_pickT (v := .bool _) rfl rfl) ?_
                   refine st_val (ro_assign (v := .bool _) rfl) ?_
                   refine st_nil ?_
                   refine nx_then ?_
                   refine cd_ret ?_
                   refine rt_then ?_
                   refine res1 (v := .bool _) rfl rfl ?_
                   exact ⟨rfl, ((((From.rfl_.next E1).next E12).next E15).next E23)⟩
              · (try first | replace Q6 := bn_t Q6 | replace Q6 := bn_f Q6)
                (try first | replace Q6 := bx_t Q6 | replace Q6 := bx_f Q6 | replace Q6 := be_t Q6 | replace Q6 := be_f Q6 | replace Q6 := of_decide_eq_true Q6 | replace Q6 := of_decide_eq_false Q6)
                first
                 | (exfalso; first | omega | (simp only [hne] at *; done) | (simp_all; done) | contradiction | (cases Q6; done))
                 | skip
                   refine st_gno rfl rfl ?_
                   refine st_val (ro_pickF (v := .bool _) rfl rfl) ?_
                   refine st_val (ro_assign (v := .bool _) rfl) ?_
                   refine st_nil ?_
                   refine nx_then ?_
                   refine cd_ret ?_
                   refine rt_then ?_
                   refine res1 (v := .bool _) rfl rfl ?_
                   exact ⟨rfl, (((From.rfl_.next E1).next E12).next E15)⟩
         · (try first | replace Q5 := bn_t Q5 | replace Q5 := bn_f Q5)
           (try first | replace Q5 := bx_t Q5 | replace Q5 := bx_f Q5 | replace Q5 := be_t Q5 | replace Q5 := be_f Q5 | replace Q5 := of_decide_eq_true Q5 | replace Q5 := of_decide_eq_false Q5)
           first
            | (exfalso; first | omega | (simp only [hne] at *; done) | (simp_all; done) | contradiction | (cases Q5; done))
            | skip
              refine cd_skip ?_
              refine nx_then ?_
              refine cd_seq ?_
              refine cd_seq ?_
              refine cd_region ?_
              refine st_val (ro_assign (v := .int _ _) rfl) ?_
              refine st_nil ?_
              refine nx_then ?_
              refine cd_block ?_
              refine cd_loop (G := Nat) [2, 6, 7, 8, 9, 10, 25, 26, 27, 28, 29, 30, 31, 32, 33, 34, 35, 36, 37, 38, 39, 40, 41, 42, 43, 44, 45, 46, 47, 48, 49, 50, 51, 52, 53, 54, 55, 56, 57, 58, 59, 60] (fun i => [(5, .int .i64 (i : Nat))]) (fun i w' => i ≤ is.length ∧ TreeAt w' w.heap.size b K L ∧ Blk w' b1 24 #[.int .i64 (K : Nat), .slice A xs.length ca, .slice B is.length cb] ∧ From w w') (fun i => is.length - i) (0) ⟨rfl, trivial⟩ ?_ ?_
              · exact ⟨Nat.zero_le _, hv.from_ From.rfl_, hk1.from_ From.rfl_, (((From.rfl_.next E1).next E12).next E15)⟩
              rintro i ρ8 w8 ⟨hi, hv, hP1, hB⟩
              refine cd_seq ?_
              refine cd_seq ?_
              refine cd_region ?_
              refine st_val (ro_move (v := .int _ _) rfl) ?_
              refine st_val (ro_fieldAddr WavLess_f24_2 rfl) ?_
              refine st_val (ro_load WavLess_g22 rfl (by first | (first | exact (hP1.from_ From.rfl_).whole | exact (hP1.from_ From.rfl_).rd 0 rfl | exact (hP1.from_ From.rfl_).rd 1 rfl | exact (hP1.from_ From.rfl_).rd 2 rfl) | (first | exact (hk1.from_ From.rfl_).whole | exact (hk1.from_ From.rfl_).rd 0 rfl | exact (hk1.from_ From.rfl_).rd 1 rfl | exact (hk1.from_ From.rfl_).rd 2 rfl))) ?_
              refine st_val (ro_len WavLess_l22 rfl) ?_
              refine st_val (ro_lss rfl rfl) ?_
              refine st_nil ?_
              refine nx_then ?_
              refine cd_cond rfl (fun Q9 => ?_) (fun Q9 => ?_)
              · (try first | replace Q9 := bn_t Q9 | replace Q9 := bn_f Q9)
                (try first | replace Q9 := bx_t Q9 | replace Q9 := bx_f Q9 | replace Q9 := be_t Q9 | replace Q9 := be_f Q9 | replace Q9 := of_decide_eq_true Q9 | replace Q9 := of_decide_eq_false Q9)
                have hil : i < is.length := by omega
                obtain ⟨bb, ob, hB0, hcb⟩ := hrB (by omega)
                subst hB0
                first
                 | (exfalso; first | omega | (simp only [hne] at *; done) | (simp_all; done) | contradiction | (cases Q9; done))
                 | skip
                   refine cd_skip ?_
                   refine nx_then ?_
                   refine cd_seq ?_
                   refine cd_block ?_
                   refine cd_seq ?_
                   refine cd_region ?_
                   refine st_val (ro_fieldAddr WavLess_f24_2 rfl) ?_
                   refine st_val (ro_load WavLess_g22 rfl (by first | (first | exact (hP1.from_ From.rfl_).whole | exact (hP1.from_ From.rfl_).rd 0 rfl | exact (hP1.from_ From.rfl_).rd 1 rfl | exact (hP1.from_ From.rfl_).rd 2 rfl) | (first | exact (hk1.from_ From.rfl_).whole | exact (hk1.from_ From.rfl_).rd 0 rfl | exact (hk1.from_ From.rfl_).rd 1 rfl | exact (hk1.from_ From.rfl_).rd 2 rfl))) ?_
                   refine st_val (ro_move (v := .int _ _) rfl) ?_
                   refine st_val (ro_indexAddr1 WavLess_e22 rfl rfl (by omega)) ?_
                   refine st_val (ro_load WavLess_g3 rfl (by exact cellF hB (hcb i hil))) ?_
                   refine st_val (ro_assign (v := .int _ _) rfl) ?_
                   refine st_nil ?_
                   refine nx_then ?_
                   refine cd_seq ?_
                   refine cd_region ?_
                   refine st_val (ro_assign (v := .int _ _) rfl) ?_
                   refine st_val (ro_assign (v := .int _ _) rfl) ?_
                   refine st_nil ?_
                   refine nx_then ?_
                   refine cd_seq ?_
                   refine cd_seq ?_
                   refine cd_region ?_
                   refine st_val (ro_move (v := .int _ _) rfl) ?_
                   refine st_val (ro_geq rfl rfl) ?_
                   refine st_val (ro_move (v := .bool _) rfl) ?_
                   refine st_split (t := 39) rfl (fun Q10 => ?_) (fun Q10 => ?_)
                   · (try first | replace Q10 := bn_t Q10 | replace Q10 := bn_f Q10)
                     (try first | replace Q10 := bx_t Q10 | replace Q10 := bx_f Q10 | replace Q10 := be_t Q10 | replace Q10 := be_f Q10 | replace Q10 := of_decide_eq_true Q10 | replace Q10 := of_decide_eq_false Q10)
                     first
                      | (exfalso; first | omega | (simp only [hne] at *; done) | (simp_all; done) | contradiction | (cases Q10; done))
                      | skip
                        refine st_unguard rfl ?_
                        refine st_val (ro_move (v := .int _ _) rfl) ?_
                        refine st_unguard rfl ?_
                        refine st_val (ro_fieldAddr WavLess_f24_0 rfl) ?_
                        refine st_unguard rfl ?_
                        refine st_val (ro_load WavLess_g3 rfl (by first | (first | exact (hP1.from_ From.rfl_).whole | exact (hP1.from_ From.rfl_).rd 0 rfl | exact (hP1.from_ From.rfl_).rd 1 rfl | exact (hP1.from_ From.rfl_).rd 2 rfl) | (first | exact (hk1.from_ From.rfl_).whole | exact (hk1.from_ From.rfl_).rd 0 rfl | exact (hk1.from_ From.rfl_).rd 1 rfl | exact (hk1.from_ From.rfl_).rd 2 rfl))) ?_
                        refine st_unguard rfl ?_
                        refine st_val (ro_leq rfl rfl) ?_
                        refine st_val (ro_pickT (v := .bool _) rfl rfl) ?_
                        refine st_nil ?_
                        refine nx_then ?_
                        refine cd_cond rfl (fun Q11 => ?_) (fun Q11 => ?_)
                        · (try first | replace Q11 := bn_t Q11 | replace Q11 := bn_f Q11)
                          (try first | replace Q11 := bx_t Q11 | replace Q11 := bx_f Q11 | replace Q11 := be_t Q11 | replace Q11 := be_f Q11 | replace Q11 := of_decide_eq_true Q11 | replace Q11 := of_decide_eq_false Q11)
                          first
                           | (exfalso; first | omega | (simp only [hne] at *; done) | (simp_all; done) | contradiction | (cases Q11; done))
                           | skip
                             refine cd_region ?_
                             refine st_val (ro_fieldAddr WavLess_f24_1 rfl) ?_
                             refine st_val (ro_load WavLess_g22 rfl (by first | (first | exact (hP1.from_ From.rfl_).whole | exact (hP1.from_ From.rfl_).rd 0 rfl | exact (hP1.from_ From.rfl_).rd 1 rfl | exact (hP1.from_ From.rfl_).rd 2 rfl) | (first | exact (hk1.from_ From.rfl_).whole | exact (hk1.from_ From.rfl_).rd 0 rfl | exact (hk1.from_ From.rfl_).rd 1 rfl | exact (hk1.from_ From.rfl_).rd 2 rfl))) ?_
                             refine st_val (ro_move (v := .int _ _) rfl) ?_
                             refine st_call WavLess_k15 (refLess_any is[i] A ca xs _ (hr.from_ hB) (by omega)) ?_
                             rintro v48 w12 ⟨rfl, rfl⟩
                             refine st_val (ro_assign (v := .int _ _) rfl) ?_
                             refine st_val (ro_assign (v := .int _ _) rfl) ?_
                             refine st_nil ?_
                             refine nx_then ?_
                             refine cd_seq ?_
                             refine cd_region ?_
                             refine st_val (ro_move (v := .pointer _) rfl) ?_
                             refine st_val (ro_move (v := .int _ _) rfl) ?_
                             refine st_call WavLess_k16 (lessT _ b K L _ (hv.from_ From.rfl_) is[i]) ?_
                             rintro v52 w13 ⟨rfl, rfl⟩
                             refine st_val (ro_move (v := .tuple _) rfl) ?_
                             refine st_val (ro_extract rfl rfl) ?_
                             refine st_val (ro_extract rfl rfl) ?_
                             refine st_val (ro_assign (v := .int _ _) rfl) ?_
                             refine st_val (ro_assign (v := .int _ _) rfl) ?_
                             refine st_nil ?_
                             refine nx_then ?_
                             refine cd_seq ?_
                             refine cd_region ?_
                             refine st_val (ro_move (v := .int _ _) rfl) ?_
                             refine st_val (ro_move (v := .int _ _) rfl) ?_
                             refine st_val (ro_move (v := .int _ _) rfl) ?_
                             refine st_val (ro_move (v := .int _ _) rfl) ?_
                             refine st_call WavLess_k12 (told_any _ _ _ _ _ (by first | exact lt_in hx (by omega) | exact lt_out (by omega))) ?_
                             rintro v59 w14 ⟨rfl, rfl⟩
                             refine st_val (ro_not rfl) ?_
                             refine st_nil ?_
                             refine nx_then ?_
                             refine cd_cond rfl (fun Q15 => ?_) (fun Q15 => ?_)
                             · (try first | replace Q15 := bn_t Q15 | replace Q15 := bn_f Q15)
                               (try first | replace Q15 := bx_t Q15 | replace Q15 := bx_f Q15 | replace Q15 := be_t Q15 | replace Q15 := be_f Q15 | replace Q15 := of_decide_eq_true Q15 | replace Q15 := of_decide_eq_false Q15)
                               first
                                | (exfalso; first | omega | (simp only [hne] at *; done) | (simp_all; done) | contradiction | (cases Q15; done))
                                | skip
                                  refine cd_seq ?_
                                  refine cd_region ?_
                                  refine st_val (ro_assign (v := .bool _) rfl) ?_
                                  refine st_nil ?_
                                  refine nx_then ?_
                                  refine cd_ret ?_
                                  refine rt_block ?_
                                  refine rt_then ?_
                                  refine rt_then ?_
                                  refine rt_block ?_
                                  refine rt_then ?_
                                  refine res1 (v := .bool _) rfl rfl ?_
                                  exact ⟨rfl, hB⟩
                             · (try first | replace Q15 := bn_t Q15 | replace Q15 := bn_f Q15)
                               (try first | replace Q15 := bx_t Q15 | replace Q15 := bx_f Q15 | replace Q15 := be_t Q15 | replace Q15 := be_f Q15 | replace Q15 := of_decide_eq_true Q15 | replace Q15 := of_decide_eq_false Q15)
                               first
                                | (exfalso; first | omega | (simp only [hne] at *; done) | (simp_all; done) | contradiction | (cases Q15; done))
                                | skip
                                  refine cd_skip ?_
                                  refine nx_block ?_
                                  refine nx_then ?_
                                  refine cd_region ?_
                                  refine st_val (ro_move (v := .int _ _) rfl) ?_
                                  refine st_val (ro_addN (b := 1) rfl rfl (by omega)) ?_
                                  refine st_val (ro_assign (v := .int _ _) rfl) ?_
                                  refine st_nil ?_
                                  refine nx_cut (i + 1) ⟨(by first | rfl | (refine int_eq ?_; omega)), trivial⟩ (by (iterate 88 refine agr_cons rfl ?_); exact agr_rfl) ⟨?_, ?_⟩
                                  · exact ⟨by omega, hv.from_ From.rfl_, hP1.from_ From.rfl_, hB⟩
                                  · omega
                        · (try first | replace Q11 := bn_t Q11 | replace Q11 := bn_f Q11)
                          (try first | replace Q11 := bx_t Q11 | replace Q11 := bx_f Q11 | replace Q11 := be_t Q11 | replace Q11 := be_f Q11 | replace Q11 := of_decide_eq_true Q11 | replace Q11 := of_decide_eq_false Q11)
                          first
                           | (exfalso; first | omega | (simp only [hne] at *; done) | (simp_all; done) | contradiction | (cases Q11; done))
                           | skip
                             refine cd_skip ?_
                             refine nx_then ?_
                             refine cd_seq ?_
                             refine cd_region ?_
                             refine st_val (ro_move (v := .pointer _) rfl) ?_
                             refine st_val (ro_move (v := .int _ _) rfl) ?_
                             refine st_call WavLess_k16 (lessT _ b K L _ (hv.from_ From.rfl_) is[i]) ?_
                             rintro v52 w16 ⟨rfl, rfl⟩
                             refine st_val (ro_move (v := .tuple _) rfl) ?_
                             refine st_val (ro_extract rfl rfl) ?_
                             refine st_val (ro_extract rfl rfl) ?_
                             refine st_val (ro_assign (v := .int _ _) rfl) ?_
                             refine st_val (ro_assign (v := .int _ _) rfl) ?_
                             refine st_nil ?_
                             refine nx_then ?_
                             refine cd_seq ?_
                             refine cd_region ?_
                             refine st_val (ro_move (v := .int _ _) rfl) ?_
                             refine st_val (ro_move (v := .int _ _) rfl) ?_
                             refine st_val (ro_move (v := .int _ _) rfl) ?_
                             refine st_val (ro_move (v := .int _ _) rfl) ?_
                             refine st_call WavLess_k12 (told_any _ _ _ _ _ (by first | exact lt_in hx (by omega) | exact lt_out (by omega))) ?_
                             rintro v59 w17 ⟨rfl, rfl⟩
                             refine st_val (ro_not rfl) ?_
                             refine st_nil ?_
                             refine nx_then ?_
                             refine cd_cond rfl (fun Q18 => ?_) (fun Q18 => ?_)
                             · (try first | replace Q18 := bn_t Q18 | replace Q18 := bn_f Q18)
                               (try first | replace Q18 := bx_t Q18 | replace Q18 := bx_f Q18 | replace Q18 := be_t Q18 | replace Q18 := be_f Q18 | replace Q18 := of_decide_eq_true Q18 | replace Q18 := of_decide_eq_false Q18)
                               first
                                | (exfalso; first | omega | (simp only [hne] at *; done) | (simp_all; done) | contradiction | (cases Q18; done))
                                | skip
                                  refine cd_seq ?_
                                  refine cd_region ?_
                                  refine st_val (ro_assign (v := .bool _) rfl) ?_
                                  refine st_nil ?_
                                  refine nx_then ?_
                                  refine cd_ret ?_
                                  refine rt_block ?_
                                  refine rt_then ?_
                                  refine rt_then ?_
                                  refine rt_block ?_
                                  refine rt_then ?_
                                  refine res1 (v := .bool _) rfl rfl ?_
                                  exact ⟨rfl, hB⟩
                             · (try first | replace Q18 := bn_t Q18 | replace Q18 := bn_f Q18)
                               (try first | replace Q18 := bx_t Q18 | replace Q18 := bx_f Q18 | replace Q18 := be_t Q18 | replace Q18 := be_f Q18 | replace Q18 := of_decide_eq_true Q18 | replace Q18 := of_decide_eq_false Q18)
                               first
                                | (exfalso; first | omega | (simp only [hne] at *; done) | (simp_all; done) | contradiction | (cases Q18; done))
                                | skip
                                  refine cd_skip ?_
                                  refine nx_block ?_
                                  refine nx_then ?_
                                  refine cd_region ?_
                                  refine st_val (ro_move (v := .int _ _) rfl) ?_
                                  refine st_val (ro_addN (b := 1) rfl rfl (by omega)) ?_
                                  refine st_val (ro_assign (v := .int _ _) rfl) ?_
                                  refine st_nil ?_
                                  refine nx_cut (i + 1) ⟨(by first | rfl | (refine int_eq ?_; omega)), trivial⟩ (by (iterate 82 refine agr_cons rfl ?_); exact agr_rfl) ⟨?_, ?_⟩
                                  · exact ⟨by omega, hv.from_ From.rfl_, hP1.from_ From.rfl_, hB⟩
                                  · omega
                   · (try first | replace Q10 := bn_t Q10 | replace Q10 := bn_f Q10)
                     (try first | replace Q10 := bx_t Q10 | replace Q10 := bx_f Q10 | replace Q10 := be_t Q10 | replace Q10 := be_f Q10 | replace Q10 := of_decide_eq_true Q10 | replace Q10 := of_decide_eq_false Q10)
                     first
                      | (exfalso; first | omega | (simp only [hne] at *; done) | (simp_all; done) | contradiction | (cases Q10; done))
                      | skip
                        refine st_gno rfl rfl ?_
                        refine st_gno rfl rfl ?_
                        refine st_gno rfl rfl ?_
                        refine st_gno rfl rfl ?_
                        refine st_val (ro_pickF (v := .bool _) rfl rfl) ?_
                        refine st_nil ?_
                        refine nx_then ?_
                        refine cd_condF rfl ?_
                        refine cd_skip ?_
                        refine nx_then ?_
                        refine cd_seq ?_
                        refine cd_region ?_
                        refine st_val (ro_move (v := .pointer _) rfl) ?_
                        refine st_val (ro_move (v := .int _ _) rfl) ?_
                        refine st_call WavLess_k16 (lessT _ b K L _ (hv.from_ From.rfl_) is[i]) ?_
                        rintro v52 w19 ⟨rfl, rfl⟩
                        refine st_val (ro_move (v := .tuple _) rfl) ?_
                        refine st_val (ro_extract rfl rfl) ?_
                        refine st_val (ro_extract rfl rfl) ?_
                        refine st_val (ro_assign (v := .int _ _) rfl) ?_
                        refine st_val (ro_assign (v := .int _ _) rfl) ?_
                        refine st_nil ?_
                        refine nx_then ?_
                        refine cd_seq ?_
                        refine cd_region ?_
                        refine st_val (ro_move (v := .int _ _) rfl) ?_
                        refine st_val (ro_move (v := .int _ _) rfl) ?_
                        refine st_val (ro_move (v := .int _ _) rfl) ?_
                        refine st_val (ro_move (v := .int _ _) rfl) ?_
                        refine st_call WavLess_k12 (told_any _ _ _ _ _ (by first | exact lt_in hx (by omega) | exact lt_out (by omega))) ?_
                        rintro v59 w20 ⟨rfl, rfl⟩
                        refine st_val (ro_not rfl) ?_
                        refine st_nil ?_
                        refine nx_then ?_
                        refine cd_cond rfl (fun Q21 => ?_) (fun Q21 => ?_)
                        · (try first | replace Q21 := bn_t Q21 | replace Q21 := bn_f Q21)
                          (try first | replace Q21 := bx_t Q21 | replace Q21 := bx_f Q21 | replace Q21 := be_t Q21 | replace Q21 := be_f Q21 | replace Q21 := of_decide_eq_true Q21 | replace Q21 := of_decide_eq_false Q21)
                          first
                           | (exfalso; first | omega | (simp only [hne] at *; done) | (simp_all; done) | contradiction | (cases Q21; done))
                           | skip
                             refine cd_seq ?_
                             refine cd_region ?_
                             refine st_val (ro_assign (v := .bool _) rfl) ?_
                             refine st_nil ?_
                             refine nx_then ?_
                             refine cd_ret ?_
                             refine rt_block ?_
                             refine rt_then ?_
                             refine rt_then ?_
                             refine rt_block ?_
                             refine rt_then ?_
                             refine res1 (v := .bool _) rfl rfl ?_
                             exact ⟨rfl, hB⟩
                        · (try first | replace Q21 := bn_t Q21 | replace Q21 := bn_f Q21)
                          (try first | replace Q21 := bx_t Q21 | replace Q21 := bx_f Q21 | replace Q21 := be_t Q21 | replace Q21 := be_f Q21 | replace Q21 := of_decide_eq_true Q21 | replace Q21 := of_decide_eq_false Q21)
                          first
                           | (exfalso; first | omega | (simp only [hne] at *; done) | (simp_all; done) | contradiction | (cases Q21; done))
                           | skip
                             refine cd_skip ?_
                             refine nx_block ?_
                             refine nx_then ?_
                             refine cd_region ?_
                             refine st_val (ro_move (v := .int _ _) rfl) ?_
                             refine st_val (ro_addN (b := 1) rfl rfl (by omega)) ?_
                             refine st_val (ro_assign (v := .int _ _) rfl) ?_
                             refine st_nil ?_
                             refine nx_cut (i + 1) ⟨(by first | rfl | (refine int_eq ?_; omega)), trivial⟩ (by (iterate 82 refine agr_cons rfl ?_); exact agr_rfl) ⟨?_, ?_⟩
                             · exact ⟨by omega, hv.from_ From.rfl_, hP1.from_ From.rfl_, hB⟩
                             · omega
              · (try first | replace Q9 := bn_t Q9 | replace Q9 := bn_f Q9)
                (try first | replace Q9 := bx_t Q9 | replace Q9 := bx_f Q9 | replace Q9 := be_t Q9 | replace Q9 := be_f Q9 | replace Q9 := of_decide_eq_true Q9 | replace Q9 := of_decide_eq_false Q9)
                first
                 | (exfalso; first | omega | (simp only [hne] at *; done) | (simp_all; done) | contradiction | (cases Q9; done))
                 | skip
                   refine cd_exit ?_
                   refine ex_then ?_
                   refine ex_then ?_
                   refine ex_block ?_
                   refine nx_then ?_
                   refine cd_seq ?_
                   refine cd_region ?_
                   refine st_call WavLess_k8 (wakes_any _) ?_
                   rintro v61 w22 ⟨rfl, E61⟩
                   refine st_val (ro_assign (v := .bool _) rfl) ?_
                   refine st_nil ?_
                   refine nx_then ?_
                   refine cd_ret ?_
                   refine res1 (v := .bool _) rfl rfl ?_
                   exact ⟨rfl, (hB.next E61)⟩
       · replace hv := hv.le hz15
         have hxl : xs.length = L.length := by rw [hx, List.length_map]
         obtain ⟨_, _, _, _, _, _, _, _, _, _, hK1, hK2, hlt, hLl⟩ := id hv
         refine st_val (ro_move (v := .tuple _) rfl) ?_
         refine st_val (ro_extract rfl rfl) ?_
         refine st_val (ro_extract rfl rfl) ?_
         refine st_val (ro_assign (v := .pointer _) rfl) ?_
         refine st_val (ro_assign (v := .int _ _) rfl) ?_
         refine st_nil ?_
         refine nx_then ?_
         refine cd_seq ?_
         refine cd_seq ?_
         refine cd_region ?_
         refine st_val (ro_move (v := .pointer _) rfl) ?_
         refine st_val (ro_eqlNil WavLess_p26 rfl rfl) ?_
         refine st_nil ?_
         refine nx_then ?_
         refine cd_cond rfl (fun Q23 => ?_) (fun Q23 => ?_)
         · (try first | replace Q23 := bn_t Q23 | replace Q23 := bn_f Q23)
           (try first | replace Q23 := bx_t Q23 | replace Q23 := bx_f Q23 | replace Q23 := be_t Q23 | replace Q23 := be_f Q23 | replace Q23 := of_decide_eq_true Q23 | replace Q23 := of_decide_eq_false Q23)
           first
            | (exfalso; first | omega | (simp only [hne] at *; done) | (simp_all; done) | contradiction | (cases Q23; done))
            | skip
              refine cd_seq ?_
              refine cd_region ?_
              refine st_val (ro_move (v := .int _ _) rfl) ?_
              refine st_val (ro_neq rfl rfl) ?_
              refine st_val (ro_move (v := .bool _) rfl) ?_
              refine st_split (t := 22) rfl (fun Q24 => ?_) (fun Q24 => ?_)
              · (try first | replace Q24 := bn_t Q24 | replace Q24 := bn_f Q24)
                (try first | replace Q24 := bx_t Q24 | replace Q24 := bx_f Q24 | replace Q24 := be_t Q24 | replace Q24 := be_f Q24 | replace Q24 := of_decide_eq_true Q24 | replace Q24 := of_decide_eq_false Q24)
                first
                 | (exfalso; first | omega | (simp only [hne] at *; done) | (simp_all; done) | contradiction | (cases Q24; done))
                 | skip
                   refine st_unguard rfl ?_
                   refine st_call WavLess_k8 (wakes_any _) ?_
                   rintro v23 w25 ⟨rfl, E23⟩
                   refine st_val (ro_pickT (v := .bool _) rfl rfl) ?_
                   refine st_val (ro_assign (v := .bool _) rfl) ?_
                   refine st_nil ?_
                   refine nx_then ?_
                   refine cd_ret ?_
                   refine rt_then ?_
                   refine res1 (v := .bool _) rfl rfl ?_
                   exact ⟨rfl, ((((From.rfl_.next E1).next E12).next E15).next E23)⟩
              · (try first | replace Q24 := bn_t Q24 | replace Q24 := bn_f Q24)
                (try first | replace Q24 := bx_t Q24 | replace Q24 := bx_f Q24 | replace Q24 := be_t Q24 | replace Q24 := be_f Q24 | replace Q24 := of_decide_eq_true Q24 | replace Q24 := of_decide_eq_false Q24)
                first
                 | (exfalso; first | omega | (simp only [hne] at *; done) | (simp_all; done) | contradiction | (cases Q24; done))
                 | skip
                   refine st_gno rfl rfl ?_
                   refine st_val (ro_pickF (v := .bool _) rfl rfl) ?_
                   refine st_val (ro_assign (v := .bool _) rfl) ?_
                   refine st_nil ?_
                   refine nx_then ?_
                   refine cd_ret ?_
                   refine rt_then ?_
                   refine res1 (v := .bool _) rfl rfl ?_
                   exact ⟨rfl, (((From.rfl_.next E1).next E12).next E15)⟩
         · (try first | replace Q23 := bn_t Q23 | replace Q23 := bn_f Q23)
           (try first | replace Q23 := bx_t Q23 | replace Q23 := bx_f Q23 | replace Q23 := be_t Q23 | replace Q23 := be_f Q23 | replace Q23 := of_decide_eq_true Q23 | replace Q23 := of_decide_eq_false Q23)
           first
            | (exfalso; first | omega | (simp only [hne] at *; done) | (simp_all; done) | contradiction | (cases Q23; done))
            | skip
              refine cd_skip ?_
              refine nx_then ?_
              refine cd_seq ?_
              refine cd_seq ?_
              refine cd_region ?_
              refine st_val (ro_assign (v := .int _ _) rfl) ?_
              refine st_nil ?_
              refine nx_then ?_
              refine cd_block ?_
              refine cd_loop (G := Nat) [2, 6, 7, 8, 9, 10, 25, 26, 27, 28, 29, 30, 31, 32, 33, 34, 35, 36, 37, 38, 39, 40, 41, 42, 43, 44, 45, 46, 47, 48, 49, 50, 51, 52, 53, 54, 55, 56, 57, 58, 59, 60] (fun i => [(5, .int .i64 (i : Nat))]) (fun i w' => i ≤ is.length ∧ TreeAt w' w.heap.size b K L ∧ Blk w' b1 24 #[.int .i64 (K : Nat), .slice A xs.length ca, .slice B is.length cb] ∧ From w w') (fun i => is.length - i) (0) ⟨rfl, trivial⟩ ?_ ?_
              · exact ⟨Nat.zero_le _, hv.from_ From.rfl_, hk1.from_ From.rfl_, (((From.rfl_.next E1).next E12).next E15)⟩
              rintro i ρ26 w26 ⟨hi, hv, hP1, hB⟩
              refine cd_seq ?_
              refine cd_seq ?_
              refine cd_region ?_
              refine st_val (ro_move (v := .int _ _) rfl) ?_
              refine st_val (ro_fieldAddr WavLess_f24_2 rfl) ?_
              refine st_val (ro_load WavLess_g22 rfl (by first | (first | exact (hP1.from_ From.rfl_).whole | exact (hP1.from_ From.rfl_).rd 0 rfl | exact (hP1.from_ From.rfl_).rd 1 rfl | exact (hP1.from_ From.rfl_).rd 2 rfl) | (first | exact (hk1.from_ From.rfl_).whole | exact (hk1.from_ From.rfl_).rd 0 rfl | exact (hk1.from_ From.rfl_).rd 1 rfl | exact (hk1.from_ From.rfl_).rd 2 rfl))) ?_
              refine st_val (ro_len WavLess_l22 rfl) ?_
              refine st_val (ro_lss rfl rfl) ?_
              refine st_nil ?_
              refine nx_then ?_
              refine cd_cond rfl (fun Q27 => ?_) (fun Q27 => ?_)
              · (try first | replace Q27 := bn_t Q27 | replace Q27 := bn_f Q27)
                (try first | replace Q27 := bx_t Q27 | replace Q27 := bx_f Q27 | replace Q27 := be_t Q27 | replace Q27 := be_f Q27 | replace Q27 := of_decide_eq_true Q27 | replace Q27 := of_decide_eq_false Q27)
                have hil : i < is.length := by omega
                obtain ⟨bb, ob, hB0, hcb⟩ := hrB (by omega)
                subst hB0
                first
                 | (exfalso; first | omega | (simp only [hne] at *; done) | (simp_all; done) | contradiction | (cases Q27; done))
                 | skip
                   refine cd_skip ?_
                   refine nx_then ?_
                   refine cd_seq ?_
                   refine cd_block ?_
                   refine cd_seq ?_
                   refine cd_region ?_
                   refine st_val (ro_fieldAddr WavLess_f24_2 rfl) ?_
                   refine st_val (ro_load WavLess_g22 rfl (by first | (first | exact (hP1.from_ From.rfl_).whole | exact (hP1.from_ From.rfl_).rd 0 rfl | exact (hP1.from_ From.rfl_).rd 1 rfl | exact (hP1.from_ From.rfl_).rd 2 rfl) | (first | exact (hk1.from_ From.rfl_).whole | exact (hk1.from_ From.rfl_).rd 0 rfl | exact (hk1.from_ From.rfl_).rd 1 rfl | exact (hk1.from_ From.rfl_).rd 2 rfl))) ?_
                   refine st_val (ro_move (v := .int _ _) rfl) ?_
                   refine st_val (ro_indexAddr1 WavLess_e22 rfl rfl (by omega)) ?_
                   refine st_val (ro_load WavLess_g3 rfl (by exact cellF hB (hcb i hil))) ?_
                   refine st_val (ro_assign (v := .int _ _) rfl) ?_
                   refine st_nil ?_
                   refine nx_then ?_
                   refine cd_seq ?_
                   refine cd_region ?_
                   refine st_val (ro_assign (v := .int _ _) rfl) ?_
                   refine st_val (ro_assign (v := .int _ _) rfl) ?_
                   refine st_nil ?_
                   refine nx_then ?_
                   refine cd_seq ?_
                   refine cd_seq ?_
                   refine cd_region ?_
                   refine st_val (ro_move (v := .int _ _) rfl) ?_
                   refine st_val (ro_geq rfl rfl) ?_
                   refine st_val (ro_move (v := .bool _) rfl) ?_
                   refine st_split (t := 39) rfl (fun Q28 => ?_) (fun Q28 => ?_)
                   · (try first | replace Q28 := bn_t Q28 | replace Q28 := bn_f Q28)
                     (try first | replace Q28 := bx_t Q28 | replace Q28 := bx_f Q28 | replace Q28 := be_t Q28 | replace Q28 := be_f Q28 | replace Q28 := of_decide_eq_true Q28 | replace Q28 := of_decide_eq_false Q28)
                     first
                      | (exfalso; first | omega | (simp only [hne] at *; done) | (simp_all; done) | contradiction | (cases Q28; done))
                      | skip
                        refine st_unguard rfl ?_
                        refine st_val (ro_move (v := .int _ _) rfl) ?_
                        refine st_unguard rfl ?_
                        refine st_val (ro_fieldAddr WavLess_f24_0 rfl) ?_
                        refine st_unguard rfl ?_
                        refine st_val (ro_load WavLess_g3 rfl (by first | (first | exact (hP1.from_ From.rfl_).whole | exact (hP1.from_ From.rfl_).rd 0 rfl | exact (hP1.from_ From.rfl_).rd 1 rfl | exact (hP1.from_ From.rfl_).rd 2 rfl) | (first | exact (hk1.from_ From.rfl_).whole | exact (hk1.from_ From.rfl_).rd 0 rfl | exact (hk1.from_ From.rfl_).rd 1 rfl | exact (hk1.from_ From.rfl_).rd 2 rfl))) ?_
                        refine st_unguard rfl ?_
                        refine st_val (ro_leq rfl rfl) ?_
                        refine st_val (ro_pickT (v := .bool _) rfl rfl) ?_
                        refine st_nil ?_
                        refine nx_then ?_
                        refine cd_cond rfl (fun Q29 => ?_) (fun Q29 => ?_)
                        · (try first | replace Q29 := bn_t Q29 | replace Q29 := bn_f Q29)
                          (try first | replace Q29 := bx_t Q29 | replace Q29 := bx_f Q29 | replace Q29 := be_t Q29 | replace Q29 := be_f Q29 | replace Q29 := of_decide_eq_true Q29 | replace Q29 := of_decide_eq_false Q29)
                          first
                           | (exfalso; first | omega | (simp only [hne] at *; done) | (simp_all; done) | contradiction | (cases Q29; done))
                           | skip
                             refine cd_region ?_
                             refine st_val (ro_fieldAddr WavLess_f24_1 rfl) ?_
                             refine st_val (ro_load WavLess_g22 rfl (by first | (first | exact (hP1.from_ From.rfl_).whole | exact (hP1.from_ From.rfl_).rd 0 rfl | exact (hP1.from_ From.rfl_).rd 1 rfl | exact (hP1.from_ From.rfl_).rd 2 rfl) | (first | exact (hk1.from_ From.rfl_).whole | exact (hk1.from_ From.rfl_).rd 0 rfl | exact (hk1.from_ From.rfl_).rd 1 rfl | exact (hk1.from_ From.rfl_).rd 2 rfl))) ?_
                             refine st_val (ro_move (v := .int _ _) rfl) ?_
                             refine st_call WavLess_k15 (refLess_any is[i] A ca xs _ (hr.from_ hB) (by omega)) ?_
                             rintro v48 w30 ⟨rfl, rfl⟩
                             refine st_val (ro_assign (v := .int _ _) rfl) ?_
                             refine st_val (ro_assign (v := .int _ _) rfl) ?_
                             refine st_nil ?_
                             refine nx_then ?_
                             refine cd_seq ?_
                             refine cd_region ?_
                             refine st_val (ro_move (v := .pointer _) rfl) ?_
                             refine st_val (ro_move (v := .int _ _) rfl) ?_
                             refine st_call WavLess_k16 (lessT _ b K L _ (hv.from_ From.rfl_) is[i]) ?_
                             rintro v52 w31 ⟨rfl, rfl⟩
                             refine st_val (ro_move (v := .tuple _) rfl) ?_
                             refine st_val (ro_extract rfl rfl) ?_
                             refine st_val (ro_extract rfl rfl) ?_
                             refine st_val (ro_assign (v := .int _ _) rfl) ?_
                             refine st_val (ro_assign (v := .int _ _) rfl) ?_
                             refine st_nil ?_
                             refine nx_then ?_
                             refine cd_seq ?_
                             refine cd_region ?_
                             refine st_val (ro_move (v := .int _ _) rfl) ?_
                             refine st_val (ro_move (v := .int _ _) rfl) ?_
                             refine st_val (ro_move (v := .int _ _) rfl) ?_
                             refine st_val (ro_move (v := .int _ _) rfl) ?_
                             refine st_call WavLess_k12 (told_any _ _ _ _ _ (by first | exact lt_in hx (by omega) | exact lt_out (by omega))) ?_
                             rintro v59 w32 ⟨rfl, rfl⟩
                             refine st_val (ro_not rfl) ?_
                             refine st_nil ?_
                             refine nx_then ?_
                             refine cd_cond rfl (fun Q33 => ?_) (fun Q33 => ?_)
                             · (try first | replace Q33 := bn_t Q33 | replace Q33 := bn_f Q33)
                               (try first | replace Q33 := bx_t Q33 | replace Q33 := bx_f Q33 | replace Q33 := be_t Q33 | replace Q33 := be_f Q33 | replace Q33 := of_decide_eq_true Q33 | replace Q33 := of_decide_eq_false Q33)
                               first
                                | (exfalso; first | omega | (simp only [hne] at *; done) | (simp_all; done) | contradiction | (cases Q33; done))
                                | skip
                                  refine cd_seq ?_
                                  refine cd_region ?_
                                  refine st_val (ro_assign (v := .bool _) rfl) ?_
                                  refine st_nil ?_
                                  refine nx_then ?_
                                  refine cd_ret ?_
                                  refine rt_block ?_
                                  refine rt_then ?_
                                  refine rt_then ?_
                                  refine rt_block ?_
                                  refine rt_then ?_
                                  refine res1 (v := .bool _) rfl rfl ?_
                                  exact ⟨rfl, hB⟩
                             · (try first | replace Q33 := bn_t Q33 | replace Q33 := bn_f Q33)
                               (try first | replace Q33 := bx_t Q33 | replace Q33 := bx_f Q33 | replace Q33 := be_t Q33 | replace Q33 := be_f Q33 | replace Q33 := of_decide_eq_true Q33 | replace Q33 := of_decide_eq_false Q33)
                               first
                                | (exfalso; first | omega | (simp only [hne] at *; done) | (simp_all; done) | contradiction | (cases Q33; done))
                                | skip
                                  refine cd_skip ?_
                                  refine nx_block ?_
                                  refine nx_then ?_
                                  refine cd_region ?_
                                  refine st_val (ro_move (v := .int _ _) rfl) ?_
                                  refine st_val (ro_addN (b := 1) rfl rfl (by omega)) ?_
                                  refine st_val (ro_assign (v := .int _ _) rfl) ?_
                                  refine st_nil ?_
                                  refine nx_cut (i + 1) ⟨(by first | rfl | (refine int_eq ?_; omega)), trivial⟩ (by (iterate 88 refine agr_cons rfl ?_); exact agr_rfl) ⟨?_, ?_⟩
                                  · exact ⟨by omega, hv.from_ From.rfl_, hP1.from_ From.rfl_, hB⟩
                                  · omega
                        · (try first | replace Q29 := bn_t Q29 | replace Q29 := bn_f Q29)
                          (try first | replace Q29 := bx_t Q29 | replace Q29 := bx_f Q29 | replace Q29 := be_t Q29 | replace Q29 := be_f Q29 | replace Q29 := of_decide_eq_true Q29 | replace Q29 := of_decide_eq_false Q29)
                          first
                           | (exfalso; first | omega | (simp only [hne] at *; done) | (simp_all; done) | contradiction | (cases Q29; done))
                           | skip
                             refine cd_skip ?_
                             refine nx_then ?_
                             refine cd_seq ?_
                             refine cd_region ?_
                             refine st_val (ro_move (v := .pointer _) rfl) ?_
                             refine st_val (ro_move (v := .int _ _) rfl) ?_
                             refine st_call WavLess_k16 (lessT _ b K L _ (hv.from_ From.rfl_) is[i]) ?_
                             rintro v52 w34 ⟨rfl, rfl⟩
                             refine st_val (ro_move (v := .tuple _) rfl) ?_
                             refine st_val (ro_extract rfl rfl) ?_
                             refine st_val (ro_extract rfl rfl) ?_
                             refine st_val (ro_assign (v := .int _ _) rfl) ?_
                             refine st_val (ro_assign (v := .int _ _) rfl) ?_
                             refine st_nil ?_
                             refine nx_then ?_
                             refine cd_seq ?_
                             refine cd_region ?_
                             refine st_val (ro_move (v := .int _ _) rfl) ?_
                             refine st_val (ro_move (v := .int _ _) rfl) ?_
                             refine st_val (ro_move (v := .int _ _) rfl) ?_
                             refine st_val (ro_move (v := .int _ _) rfl) ?_
                             refine st_call WavLess_k12 (told_any _ _ _ _ _ (by first | exact lt_in hx (by omega) | exact lt_out (by omega))) ?_
                             rintro v59 w35 ⟨rfl, rfl⟩
                             refine st_val (ro_not rfl) ?_
                             refine st_nil ?_
                             refine nx_then ?_
                             refine cd_cond rfl (fun Q36 => ?_) (fun Q36 => ?_)
                             · (try first | replace Q36 := bn_t Q36 | replace Q36 := bn_f Q36)
                               (try first | replace Q36 := bx_t Q36 | replace Q36 := bx_f Q36 | replace Q36 := be_t Q36 | replace Q36 := be_f Q36 | replace Q36 := of_decide_eq_true Q36 | replace Q36 := of_decide_eq_false Q36)
                               first
                                | (exfalso; first | omega | (simp only [hne] at *; done) | (simp_all; done) | contradiction | (cases Q36; done))
                                | skip
                                  refine cd_seq ?_
                                  refine cd_region ?_
                                  refine st_val (ro_assign (v := .bool _) rfl) ?_
                                  refine st_nil ?_
                                  refine nx_then ?_
                                  refine cd_ret ?_
                                  refine rt_block ?_
                                  refine rt_then ?_
                                  refine rt_then ?_
                                  refine rt_block ?_
                                  refine rt_then ?_
                                  refine res1 (v := .bool _) rfl rfl ?_
                                  exact ⟨rfl, hB⟩
                             · (try first | replace Q36 := bn_t Q36 | replace Q36 := bn_f Q36)
                               (try first | replace Q36 := bx_t Q36 | replace Q36 := bx_f Q36 | replace Q36 := be_t Q36 | replace Q36 := be_f Q36 | replace Q36 := of_decide_eq_true Q36 | replace Q36 := of_decide_eq_false Q36)
                               first
                                | (exfalso; first | omega | (simp only [hne] at *; done) | (simp_all; done) | contradiction | (cases Q36; done))
                                | skip
                                  refine cd_skip ?_
                                  refine nx_block ?_
                                  refine nx_then ?_
                                  refine cd_region ?_
                                  refine st_val (ro_move (v := .int _ _) rfl) ?_
                                  refine st_val (ro_addN (b := 1) rfl rfl (by omega)) ?_
                                  refine st_val (ro_assign (v := .int _ _) rfl) ?_
                                  refine st_nil ?_
                                  refine nx_cut (i + 1) ⟨(by first | rfl | (refine int_eq ?_; omega)), trivial⟩ (by (iterate 82 refine agr_cons rfl ?_); exact agr_rfl) ⟨?_, ?_⟩
                                  · exact ⟨by omega, hv.from_ From.rfl_, hP1.from_ From.rfl_, hB⟩
                                  · omega
                   · (try first | replace Q28 := bn_t Q28 | replace Q28 := bn_f Q28)
                     (try first | replace Q28 := bx_t Q28 | replace Q28 := bx_f Q28 | replace Q28 := be_t Q28 | replace Q28 := be_f Q28 | replace Q28 := of_decide_eq_true Q28 | replace Q28 := of_decide_eq_false Q28)
                     first
                      | (exfalso; first | omega | (simp only [hne] at *; done) | (simp_all; done) | contradiction | (cases Q28; done))
                      | skip
                        refine st_gno rfl rfl ?_
                        refine st_gno rfl rfl ?_
                        refine st_gno rfl rfl ?_
                        refine st_gno rfl rfl ?_
                        refine st_val (ro_pickF (v := .bool _) rfl rfl) ?_
                        refine st_nil ?_
                        refine nx_then ?_
                        refine cd_condF rfl ?_
                        refine cd_skip ?_
                        refine nx_then ?_
                        refine cd_seq ?_
                        refine cd_region ?_
                        refine st_val (ro_move (v := .pointer _) rfl) ?_
                        refine st_val (ro_move (v := .int _ _) rfl) ?_
                        refine st_call WavLess_k16 (lessT _ b K L _ (hv.from_ From.rfl_) is[i]) ?_
                        rintro v52 w37 ⟨rfl, rfl⟩
                        refine st_val (ro_move (v := .tuple _) rfl) ?_
                        refine st_val (ro_extract rfl rfl) ?_
                        refine st_val (ro_extract rfl rfl) ?_
                        refine st_val (ro_assign (v := .int _ _) rfl) ?_
                        refine st_val (ro_assign (v := .int _ _) rfl) ?_
                        refine st_nil ?_
                        refine nx_then ?_
                        refine cd_seq ?_
                        refine cd_region ?_
                        refine st_val (ro_move (v := .int _ _) rfl) ?_
                        refine st_val (ro_move (v := .int _ _) rfl) ?_
                        refine st_val (ro_move (v := .int _ _) rfl) ?_
                        refine st_val (ro_move (v := .int _ _) rfl) ?_
                        refine st_call WavLess_k12 (told_any _ _ _ _ _ (by first | exact lt_in hx (by omega) | exact lt_out (by omega))) ?_
                        rintro v59 w38 ⟨rfl, rfl⟩
                        refine st_val (ro_not rfl) ?_
                        refine st_nil ?_
                        refine nx_then ?_
                        refine cd_cond rfl (fun Q39 => ?_) (fun Q39 => ?_)
                        · (try first | replace Q39 := bn_t Q39 | replace Q39 := bn_f Q39)
                          (try first | replace Q39 := bx_t Q39 | replace Q39 := bx_f Q39 | replace Q39 := be_t Q39 | replace Q39 := be_f Q39 | replace Q39 := of_decide_eq_true Q39 | replace Q39 := of_decide_eq_false Q39)
                          first
                           | (exfalso; first | omega | (simp only [hne] at *; done) | (simp_all; done) | contradiction | (cases Q39; done))
                           | skip
                             refine cd_seq ?_
                             refine cd_region ?_
                             refine st_val (ro_assign (v := .bool _) rfl) ?_
                             refine st_nil ?_
                             refine nx_then ?_
                             refine cd_ret ?_
                             refine rt_block ?_
                             refine rt_then ?_
                             refine rt_then ?_
                             refine rt_block ?_
                             refine rt_then ?_
                             refine res1 (v := .bool _) rfl rfl ?_
                             exact ⟨rfl, hB⟩
                        · (try first | replace Q39 := bn_t Q39 | replace Q39 := bn_f Q39)
                          (try first | replace Q39 := bx_t Q39 | replace Q39 := bx_f Q39 | replace Q39 := be_t Q39 | replace Q39 := be_f Q39 | replace Q39 := of_decide_eq_true Q39 | replace Q39 := of_decide_eq_false Q39)
                          first
                           | (exfalso; first | omega | (simp only [hne] at *; done) | (simp_all; done) | contradiction | (cases Q39; done))
                           | skip
                             refine cd_skip ?_
                             refine nx_block ?_
                             refine nx_then ?_
                             refine cd_region ?_
                             refine st_val (ro_move (v := .int _ _) rfl) ?_
                             refine st_val (ro_addN (b := 1) rfl rfl (by omega)) ?_
                             refine st_val (ro_assign (v := .int _ _) rfl) ?_
                             refine st_nil ?_
                             refine nx_cut (i + 1) ⟨(by first | rfl | (refine int_eq ?_; omega)), trivial⟩ (by (iterate 82 refine agr_cons rfl ?_); exact agr_rfl) ⟨?_, ?_⟩
                             · exact ⟨by omega, hv.from_ From.rfl_, hP1.from_ From.rfl_, hB⟩
                             · omega
              · (try first | replace Q27 := bn_t Q27 | replace Q27 := bn_f Q27)
                (try first | replace Q27 := bx_t Q27 | replace Q27 := bx_f Q27 | replace Q27 := be_t Q27 | replace Q27 := be_f Q27 | replace Q27 := of_decide_eq_true Q27 | replace Q27 := of_decide_eq_false Q27)
                first
                 | (exfalso; first | omega | (simp only [hne] at *; done) | (simp_all; done) | contradiction | (cases Q27; done))
                 | skip
                   refine cd_exit ?_
                   refine ex_then ?_
                   refine ex_then ?_
                   refine ex_block ?_
                   refine nx_then ?_
                   refine cd_seq ?_
                   refine cd_region ?_
                   refine st_call WavLess_k8 (wakes_any _) ?_
                   rintro v61 w40 ⟨rfl, E61⟩
                   refine st_val (ro_assign (v := .bool _) rfl) ?_
                   refine st_nil ?_
                   refine nx_then ?_
                   refine cd_ret ?_
                   refine res1 (v := .bool _) rfl rfl ?_
                   exact ⟨rfl, (hB.next E61)⟩
theorem less_arg (cs : Array Value) (x : (Ty.pr (.int .i64) (.pr (.sl (.int .i64)) (.pr (.sl (.int .i64)) .unit))).den) (w : World) (hs : cs.size = 3) (h : (Ty.pr (.int .i64) (.pr (.sl (.int .i64)) (.pr (.sl (.int .i64)) .unit))).At w (fun j => cs[j]?) x) :
    Rt Try.prog 5 [.agg cs] w fun v w' => v = .bool true ∧ From w w' := by
  obtain ⟨k, A, ca, xs, B, cb, is, rfl, h1, h2, h3, h4, h5⟩ := ask_of hs h
  exact less_law k A B ca cb xs is w h1 h2 h3 h4
set_option maxRecDepth 100000 in
theorem WaveletLess_lifted (os : Os) (started : os.Started) (H : Type) (enc : TypeId × Value → H) :
    ReturnsInHanded {} Try.checked os 5 .any (Rows.waveletLessSpec.pre6 enc Try.prog Try.f5 Rows.waveletLessRow.domain false) (Rows.waveletLessSpec.post enc Try.prog Try.f5 false true false false) := by
  refine returnsInHanded_of_change_sized (C := Try.checked) Try.own started (by kernel_rfl) Try.func5
    (ChangeSpec.witness6 (enc := enc) (C := Try.checked) false ⟨#[], #[.agg #[.int .i64 0, .slice none 0 0, .slice none 0 0]], []⟩ 8 (by kernel_rfl) (by kernel_rfl) (by kernel_rfl) (by kernel_rfl)) ?_
  intro W base args ds gs before hval hW _ hsz _
  exact law_step 5 Try.f5 24 4 Rows.waveletLessSpec Try.params5 (by kernel_rfl) Try.underlying4 rfl (fun _ => rfl) (by kernel_rfl) (of_decide_eq_true (by kernel_rfl)) (walk_struct (.int .i64) (.pr (.sl (.int .i64)) (.pr (.sl (.int .i64)) .unit)) (by kernel_rfl) less_arg) W base args ds gs before hval hW hsz

theorem WaveletLess_holds : Rows.WaveletLessSaid :=
  OpenClaim.holds_of_wide 5 Try.f5 rfl rfl rfl rfl rfl rfl rfl ⟨rfl, rfl, rfl, rfl, rfl⟩ rfl rfl rfl rfl rfl (by kernel_rfl) Try.func5 (by kernel_rfl)
    (of_decide_eq_true (by kernel_rfl)) (by unfold Func.isWrapper; first | (rw [if_pos (by decide +kernel)]; kernel_rfl) | (rw [if_neg (by decide +kernel)]; exact ⟨rfl, rfl⟩))
    (fun os started H enc _ => WaveletLess_lifted os started H enc)
#print axioms WaveletLess_holds

end Go.Proofs.Ytmiclfhpenjjfaa
