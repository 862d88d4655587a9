/- The law WaveletBack. -/
import Derived.Test.YtmiclfhpenjjfaaDoorWavHelp
import Derived.Test.YtmiclfhpenjjfaaDoorWavSelW
namespace Go.Proofs.YtmiclfhpenjjfaaDoor
open Go.RowKit
open Go.ChangeShapes Go.WideShapes Go.ChangeAt
theorem WavBack_g24 : aggQ Tryd.prog 24 = some true := by kernel_rfl
theorem WavBack_z24 : sizeQ Tryd.prog 24 = some 3 := by kernel_rfl
theorem WavBack_k6 : callable Tryd.prog 6 = true := by kernel_rfl
theorem WavBack_f24_0 : fieldQ Tryd.prog 24 0 = some 0 := by kernel_rfl
theorem WavBack_g3 : aggQ Tryd.prog 3 = some false := by kernel_rfl
theorem WavBack_f24_1 : fieldQ Tryd.prog 24 1 = some 1 := by kernel_rfl
theorem WavBack_g22 : aggQ Tryd.prog 22 = some false := by kernel_rfl
theorem WavBack_k12 : callable Tryd.prog 12 = true := by kernel_rfl
theorem WavBack_k13 : callable Tryd.prog 13 = true := by kernel_rfl
theorem WavBack_p26 : Tryd.prog.underlying 26 = some (.pointer (Tryd.prog.pointee 26)) := by kernel_rfl
theorem WavBack_k8 : callable Tryd.prog 8 = true := by kernel_rfl
theorem WavBack_k14 : callable Tryd.prog 14 = true := by kernel_rfl
theorem WavBack_l22 : (elemQ Tryd.prog 22).isSome = true := by kernel_rfl
theorem WavBack_k15 : callable Tryd.prog 15 = true := by kernel_rfl
theorem WavBack_k10 : callable Tryd.prog 10 = true := by kernel_rfl
theorem WavBack_k16 : callable Tryd.prog 16 = true := by kernel_rfl
theorem less_at (base b K : Nat) (L : List Nat) (w : World) (ht : TreeAt w base b K L) (c : Nat) (hc : c ≤ K) : Rt Tryd.prog 14 [.pointer (some ⟨b, 0, none⟩), .int .i64 (c : Nat)] w fun v w' => v = .tuple #[.int .i64 (cntLt L c : Nat), .int .i64 0] ∧ w = w' := by
  refine (lessT base b K L w ht (c : Nat)).mono fun v w' h => ⟨?_, h.2⟩
  rw [h.1]
  unfold sV sE
  rw [if_pos (by omega), if_pos (by omega), Int.toNat_natCast]
theorem rank_at (base b K : Nat) (L : List Nat) (w : World) (ht : TreeAt w base b K L) (c q r : Nat) (hc : c < K) (hq : q ≤ L.length) (hr : cntC L c q = r) : Rt Tryd.prog 15 [.pointer (some ⟨b, 0, none⟩), .int .i64 (c : Nat), .int .i64 (q : Nat)] w fun v w' => v = .tuple #[.int .i64 (r : Nat), .int .i64 0] ∧ From w w' := by
  refine (rankT base b K L w ht (c : Nat) (q : Nat)).mono fun v w' h => ⟨?_, h.2⟩
  rw [h.1]
  unfold kV kE
  rw [if_pos (by omega), if_pos (by omega), if_pos (by omega), if_pos (by omega), Int.toNat_natCast, Int.toNat_natCast, hr]
theorem sel_at (base b K : Nat) (L : List Nat) (w : World) (ht : TreeAt w base b K L) (hT : TZ w) (c j : Nat) (hc : c < K) (hj : j < cntC L c L.length) : Rt Tryd.prog 10 [.pointer (some ⟨b, 0, none⟩), .int .i64 (c : Nat), .int .i64 (j : Nat)] w fun v w' => ∃ q, ∃ h : q < L.length, v = .tuple #[.int .i64 (q : Nat), .int .i64 0] ∧ L[q] = c ∧ cntC L c q = j ∧ From w w' := by
  obtain ⟨q, hq, h1, h2, h3, h4⟩ := occ_at hj
  refine (selectT base b K L w ht hT (c : Nat) (j : Nat)).mono fun v w' h => ⟨q, hq, ?_, h1, h2, h.2⟩
  rw [h.1]
  unfold slV slE
  rw [if_pos (by omega), if_pos (by omega), Int.toNat_natCast, h3]
  unfold selE
  rw [if_pos h4]
theorem sel_none (base b K : Nat) (L : List Nat) (w : World) (ht : TreeAt w base b K L) (hT : TZ w) (c j : Nat) (hc : c < K) (hj : cntC L c L.length ≤ j) : Rt Tryd.prog 10 [.pointer (some ⟨b, 0, none⟩), .int .i64 (c : Nat), .int .i64 (j : Nat)] w fun v w' => v = .tuple #[.int .i64 0, .int .i64 3] ∧ From w w' := by
  have ho := occ_out (L := L) (c := c) (j := (j : Nat)) (by omega)
  refine (selectT base b K L w ht hT (c : Nat) (j : Nat)).mono fun v w' h => ⟨?_, h.2⟩
  rw [h.1]
  unfold slV slE
  rw [if_pos (by omega), if_pos (by omega), Int.toNat_natCast, selP_no ho]
  unfold selE
  rw [if_neg (by rw [ho]; decide)]
theorem access_at (base b K : Nat) (L : List Nat) (w : World) (ht : TreeAt w base b K L) (q c : Nat) (hq : q < L.length) (hc : L[q] = c) : Rt Tryd.prog 16 [.pointer (some ⟨b, 0, none⟩), .int .i64 (q : Nat)] w fun v w' => v = .tuple #[.int .i64 (c : Nat), .int .i64 0] ∧ From w w' := by
  refine (accessT base b K L w ht (q : Nat)).mono fun v w' h => ⟨?_, h.2⟩
  rw [h.1]
  unfold aV aE
  rw [if_pos (by omega), if_pos (by omega), Int.toNat_natCast, List.getD_eq_getElem?_getD, List.getElem?_eq_getElem hq, Option.getD_some, hc]
set_option maxRecDepth 100000 in
set_option maxHeartbeats 3000000 in
theorem back_law (k : Int) (A B : Option Addr) (ca cb : Nat) (xs is : List Int) (w : World) (hr : RowOf iV w A xs) (hb64 : ∀ x ∈ xs, -9223372036854775808 ≤ x ∧ x ≤ 9223372036854775807) (hrB : RowOf iV w B is) (hB64 : ∀ x ∈ is, -9223372036854775808 ≤ x ∧ x ≤ 9223372036854775807) (hTZ : TZ w) (hA0 : ∀ q, A.map (·.block) = some q → 0 < xs.length → q < w.heap.size) :
    Rt Tryd.prog 4 [.agg #[.int .i64 k, .slice A xs.length ca, .slice B is.length cb]] w (fun v w' => v = .bool true ∧ From w w') := by
  refine enter (n := 178) Tryd.func4 rfl rfl rfl ?_
  refine cd_seq ?_
  refine cd_region ?_
  refine st_box (v := .agg _) rfl ?_
  intro b1 w1 E1 hb1 hk1
  refine st_val (ro_assign (v := .bool _) rfl) ?_
  refine st_nil ?_
  refine nx_then ?_
  refine cd_seq ?_
  refine cd_seq ?_
  refine cd_region ?_
  refine st_val (ro_loadA (cs := [_, _, _]) WavBack_g24 WavBack_z24 rfl (by first | (first | exact (hP1.from_ From.rfl_).whole | exact (hP1.from_ From.rfl_).rd 0 rfl | exact (hP1.from_ From.rfl_).rd 1 rfl | exact (hP1.from_ From.rfl_).rd 2 rfl) | (first | exact (hk1.from_ From.rfl_).whole | exact (hk1.from_ From.rfl_).rd 0 rfl | exact (hk1.from_ From.rfl_).rd 1 rfl | exact (hk1.from_ From.rfl_).rd 2 rfl))) ?_
  refine st_call WavBack_k6 (heavy_any k A B _ ca _ cb _) ?_
  rintro v23 w2 ⟨rfl, E23⟩
  refine st_val (ro_move (v := .bool _) rfl) ?_
  refine st_split (t := 24) rfl (fun Q3 => ?_) (fun Q3 => ?_)
  · (try first | replace Q3 := bn_t Q3 | replace Q3 := bn_f Q3)
    (try first | replace Q3 := bx_t Q3 | replace Q3 := bx_f Q3 | replace Q3 := be_t Q3 | replace Q3 := be_f Q3 | replace Q3 := of_decide_eq_true Q3 | replace Q3 := of_decide_eq_false Q3)
    first
     | (exfalso; first | omega | (simp only [hne] at *; done) | (simp_all; done) | contradiction | (cases Q3; done))
     | skip
       refine st_gno rfl rfl ?_
       refine st_gno rfl rfl ?_
       refine st_gno rfl rfl ?_
       refine st_val (ro_pickT (v := .bool _) rfl rfl) ?_
       refine st_nil ?_
       refine nx_then ?_
       refine cd_condT rfl ?_
       refine cd_seq ?_
       refine cd_region ?_
       refine st_val (ro_assign (v := .bool _) rfl) ?_
       refine st_nil ?_
       refine nx_then ?_
       refine cd_ret ?_
       refine rt_then ?_
       refine res1 (v := .bool _) rfl rfl ?_
       exact ⟨rfl, ((From.rfl_.next E1).next E23)⟩
  · (try first | replace Q3 := bn_t Q3 | replace Q3 := bn_f Q3)
    (try first | replace Q3 := bx_t Q3 | replace Q3 := bx_f Q3 | replace Q3 := be_t Q3 | replace Q3 := be_f Q3 | replace Q3 := of_decide_eq_true Q3 | replace Q3 := of_decide_eq_false Q3)
    first
     | (exfalso; first | omega | (simp only [hne] at *; done) | (simp_all; done) | contradiction | (cases Q3; done))
     | skip
       refine st_unguard rfl ?_
       refine st_val (ro_fieldAddr WavBack_f24_0 rfl) ?_
       refine st_unguard rfl ?_
       refine st_val (ro_load WavBack_g3 rfl (by first | (first | exact (hP1.from_ (From.rfl_.next E23)).whole | exact (hP1.from_ (From.rfl_.next E23)).rd 0 rfl | exact (hP1.from_ (From.rfl_.next E23)).rd 1 rfl | exact (hP1.from_ (From.rfl_.next E23)).rd 2 rfl) | (first | exact (hk1.from_ (From.rfl_.next E23)).whole | exact (hk1.from_ (From.rfl_.next E23)).rd 0 rfl | exact (hk1.from_ (From.rfl_.next E23)).rd 1 rfl | exact (hk1.from_ (From.rfl_.next E23)).rd 2 rfl))) ?_
       refine st_unguard rfl ?_
       refine st_val (ro_gtr rfl rfl) ?_
       refine st_val (ro_pickF (v := .bool _) rfl rfl) ?_
       refine st_nil ?_
       refine nx_then ?_
       refine cd_cond rfl (fun Q4 => ?_) (fun Q4 => ?_)
       · (try first | replace Q4 := bn_t Q4 | replace Q4 := bn_f Q4)
         (try first | replace Q4 := bx_t Q4 | replace Q4 := bx_f Q4 | replace Q4 := be_t Q4 | replace Q4 := be_f Q4 | replace Q4 := of_decide_eq_true Q4 | replace Q4 := of_decide_eq_false Q4)
         first
          | (exfalso; first | omega | (simp only [hne] at *; done) | (simp_all; done) | contradiction | (cases Q4; done))
          | skip
            refine cd_seq ?_
            refine cd_region ?_
            refine st_val (ro_assign (v := .bool _) rfl) ?_
            refine st_nil ?_
            refine nx_then ?_
            refine cd_ret ?_
            refine rt_then ?_
            refine res1 (v := .bool _) rfl rfl ?_
            exact ⟨rfl, ((From.rfl_.next E1).next E23)⟩
       · (try first | replace Q4 := bn_t Q4 | replace Q4 := bn_f Q4)
         (try first | replace Q4 := bx_t Q4 | replace Q4 := bx_f Q4 | replace Q4 := be_t Q4 | replace Q4 := be_f Q4 | replace Q4 := of_decide_eq_true Q4 | replace Q4 := of_decide_eq_false Q4)
         first
          | (exfalso; first | omega | (simp only [hne] at *; done) | (simp_all; done) | contradiction | (cases Q4; done))
          | skip
            refine cd_skip ?_
            refine nx_then ?_
            refine cd_seq ?_
            refine cd_region ?_
            refine st_val (ro_fieldAddr WavBack_f24_0 rfl) ?_
            refine st_val (ro_load WavBack_g3 rfl (by first | (first | exact (hP1.from_ (From.rfl_.next E23)).whole | exact (hP1.from_ (From.rfl_.next E23)).rd 0 rfl | exact (hP1.from_ (From.rfl_.next E23)).rd 1 rfl | exact (hP1.from_ (From.rfl_.next E23)).rd 2 rfl) | (first | exact (hk1.from_ (From.rfl_.next E23)).whole | exact (hk1.from_ (From.rfl_.next E23)).rd 0 rfl | exact (hk1.from_ (From.rfl_.next E23)).rd 1 rfl | exact (hk1.from_ (From.rfl_.next E23)).rd 2 rfl))) ?_
            refine st_val (ro_fieldAddr WavBack_f24_1 rfl) ?_
            refine st_val (ro_load WavBack_g22 rfl (by first | (first | exact (hP1.from_ (From.rfl_.next E23)).whole | exact (hP1.from_ (From.rfl_.next E23)).rd 0 rfl | exact (hP1.from_ (From.rfl_.next E23)).rd 1 rfl | exact (hP1.from_ (From.rfl_.next E23)).rd 2 rfl) | (first | exact (hk1.from_ (From.rfl_.next E23)).whole | exact (hk1.from_ (From.rfl_.next E23)).rd 0 rfl | exact (hk1.from_ (From.rfl_.next E23)).rd 1 rfl | exact (hk1.from_ (From.rfl_.next E23)).rd 2 rfl))) ?_
            have hz34 := (((From.rfl_.next E1).next E23)).size
            refine st_call WavBack_k12 (new_w k A ca xs.length xs _ (hr.from_ ((From.rfl_.next E1).next E23)) rfl (by omega) (fun q h0 hq => Nat.lt_of_lt_of_le (hA0 q hq h0) (((From.rfl_.next E1).next E23)).size)) ?_
            rintro v34 w5 ⟨hn34, E34⟩
            replace hk1 := hk1.from_ ((From.rfl_.next E23).next E34)
            rcases hn34 with ⟨hne, rfl⟩ | ⟨K, L, b, rfl, hx, rfl, hv⟩
            · refine st_val (ro_move (v := .tuple _) rfl) ?_
              refine st_val (ro_extract rfl rfl) ?_
              refine st_val (ro_extract rfl rfl) ?_
              refine st_val (ro_assign (v := .pointer _) rfl) ?_
              refine st_val (ro_assign (v := .int _ _) rfl) ?_
              refine st_nil ?_
              refine nx_then ?_
              refine cd_seq ?_
              refine cd_seq ?_
              refine cd_region ?_
              refine st_val (ro_move (v := .int _ _) rfl) ?_
              refine st_call WavBack_k13 (num_any _ _) ?_
              rintro v38 w6 ⟨rfl, rfl⟩
              refine st_val (ro_neq rfl rfl) ?_
              refine st_nil ?_
              refine nx_then ?_
              refine cd_cond rfl (fun Q7 => ?_) (fun Q7 => ?_)
              · (try first | replace Q7 := bn_t Q7 | replace Q7 := bn_f Q7)
                (try first | replace Q7 := bx_t Q7 | replace Q7 := bx_f Q7 | replace Q7 := be_t Q7 | replace Q7 := be_f Q7 | replace Q7 := of_decide_eq_true Q7 | replace Q7 := of_decide_eq_false Q7)
                first
                 | (exfalso; first | omega | (simp only [hne] at *; done) | (simp_all; done) | contradiction | (cases Q7; done))
                 | skip
                   refine cd_seq ?_
                   refine cd_region ?_
                   refine st_val (ro_move (v := .pointer _) rfl) ?_
                   refine st_val (ro_eqlNil WavBack_p26 rfl rfl) ?_
                   refine st_val (ro_move (v := .bool _) rfl) ?_
                   refine st_split (t := 42) rfl (fun Q8 => ?_) (fun Q8 => ?_)
                   · (try first | replace Q8 := bn_t Q8 | replace Q8 := bn_f Q8)
                     (try first | replace Q8 := bx_t Q8 | replace Q8 := bx_f Q8 | replace Q8 := be_t Q8 | replace Q8 := be_f Q8 | replace Q8 := of_decide_eq_true Q8 | replace Q8 := of_decide_eq_false Q8)
                     first
                      | (exfalso; first | omega | (simp only [hne] at *; done) | (simp_all; done) | contradiction | (cases Q8; done))
                      | skip
                        refine st_unguard rfl ?_
                        refine st_call WavBack_k8 (wakes_any _) ?_
                        rintro v43 w9 ⟨rfl, E43⟩
                        refine st_val (ro_pickT (v := .bool _) rfl rfl) ?_
                        refine st_val (ro_assign (v := .bool _) rfl) ?_
                        refine st_nil ?_
                        refine nx_then ?_
                        refine cd_ret ?_
                        refine rt_then ?_
                        refine res1 (v := .bool _) rfl rfl ?_
                        exact ⟨rfl, ((((From.rfl_.next E1).next E23).next E34).next E43)⟩
                   · (try first | replace Q8 := bn_t Q8 | replace Q8 := bn_f Q8)
                     (try first | replace Q8 := bx_t Q8 | replace Q8 := bx_f Q8 | replace Q8 := be_t Q8 | replace Q8 := be_f Q8 | replace Q8 := of_decide_eq_true Q8 | replace Q8 := of_decide_eq_false Q8)
                     first
                      | (exfalso; first | omega | (simp only [hne] at *; done) | (simp_all; done) | contradiction | (cases Q8; done))
                      | skip
                        refine st_gno rfl rfl ?_
                        refine st_val (ro_pickF (v := .bool _) rfl rfl) ?_
                        refine st_val (ro_assign (v := .bool _) rfl) ?_
                        refine st_nil ?_
                        refine nx_then ?_
                        refine cd_ret ?_
                        refine rt_then ?_
                        refine res1 (v := .bool _) rfl rfl ?_
                        exact ⟨rfl, (((From.rfl_.next E1).next E23).next E34)⟩
              · (try first | replace Q7 := bn_t Q7 | replace Q7 := bn_f Q7)
                (try first | replace Q7 := bx_t Q7 | replace Q7 := bx_f Q7 | replace Q7 := be_t Q7 | replace Q7 := be_f Q7 | replace Q7 := of_decide_eq_true Q7 | replace Q7 := of_decide_eq_false Q7)
                first
                 | (exfalso; first | omega | (simp only [hne] at *; done) | (simp_all; done) | contradiction | (cases Q7; done))
                 | skip
                   refine cd_skip ?_
                   refine nx_then ?_
                   refine cd_seq ?_
                   refine cd_region ?_
                   refine st_val (ro_assign (v := .int _ _) rfl) ?_
                   refine st_nil ?_
                   refine nx_then ?_
                   refine cd_seq ?_
                   refine cd_seq ?_
                   refine cd_region ?_
                   refine st_val (ro_assign (v := .int _ _) rfl) ?_
                   refine st_nil ?_
                   refine nx_then ?_
                   refine cd_block ?_
                   refine cd_loop (G := Nat) [2, 7, 8, 9, 10, 11, 12, 13, 14, 15, 16, 17, 18, 19, 45, 46, 47, 48, 49, 50, 51, 52, 53, 54, 55, 56, 57, 58, 59, 60, 61, 62, 63, 64, 65, 66, 67, 68, 69, 70, 71, 72, 73, 74, 75, 76, 77, 78, 79, 80, 81, 82, 83, 84, 85, 86, 87, 88, 89, 90, 91, 92, 93, 94, 95, 96, 97, 98, 99, 100, 101, 102, 103, 104, 105, 106, 107, 108, 109, 110, 111, 112, 113, 114, 115, 116, 117, 118, 119, 120, 121, 122, 123, 124, 125, 126, 127, 128, 129, 130, 131, 132, 133, 134, 135, 136, 137, 138, 139, 140, 141, 142, 143, 144, 145, 146, 147, 148, 149, 150] (fun c => [(5, .int .i64 (cntLt L c : Nat)), (6, .int .i64 (c : Nat))]) (fun c w' => c ≤ K ∧ TreeAt w' w.heap.size b K L ∧ Blk w' b1 24 #[.int .i64 (K : Nat), .slice A xs.length ca, .slice B is.length cb] ∧ From w w') (fun c => K - c) (0) ⟨(int_eq (by simp [cntLt])), rfl, trivial⟩ ?_ ?_
                   · exact ⟨Nat.zero_le _, hv.from_ From.rfl_, hk1.from_ From.rfl_, (((From.rfl_.next E1).next E23).next E34)⟩
                   rintro c ρ10 w10 ⟨hc, hv, hP1, hB⟩
                   refine cd_seq ?_
                   refine cd_seq ?_
                   refine cd_region ?_
                   refine st_val (ro_move (v := .int _ _) rfl) ?_
                   refine st_val (ro_fieldAddr WavBack_f24_0 rfl) ?_
                   refine st_val (ro_load WavBack_g3 rfl (by first | (first | exact (hP1.from_ From.rfl_).whole | exact (hP1.from_ From.rfl_).rd 0 rfl | exact (hP1.from_ From.rfl_).rd 1 rfl | exact (hP1.from_ From.rfl_).rd 2 rfl) | (first | exact (hk1.from_ From.rfl_).whole | exact (hk1.from_ From.rfl_).rd 0 rfl | exact (hk1.from_ From.rfl_).rd 1 rfl | exact (hk1.from_ From.rfl_).rd 2 rfl))) ?_
                   refine st_val (ro_lss rfl rfl) ?_
                   refine st_nil ?_
                   refine nx_then ?_
                   refine cd_cond rfl (fun Q11 => ?_) (fun Q11 => ?_)
                   · (try first | replace Q11 := bn_t Q11 | replace Q11 := bn_f Q11)
                     (try first | replace Q11 := bx_t Q11 | replace Q11 := bx_f Q11 | replace Q11 := be_t Q11 | replace Q11 := be_f Q11 | replace Q11 := of_decide_eq_true Q11 | replace Q11 := of_decide_eq_false Q11)
                     have hcK : c < K := by omega
                     have hcl : cntLt L c ≤ L.length := List.countP_le_length
                     have hcn : cntC L c L.length ≤ L.length := Nat.le_trans List.countP_le_length (List.length_take_le _ _)
                     have hx300 : xs.length ≤ 300 := by omega
                     first
                      | (exfalso; first | omega | (simp only [hne] at *; done) | (simp_all; done) | contradiction | (cases Q11; done))
                      | skip
                        refine cd_skip ?_
                        refine nx_then ?_
                        refine cd_seq ?_
                        refine cd_block ?_
                        refine cd_seq ?_
                        refine cd_region ?_
                        refine st_val (ro_move (v := .pointer _) rfl) ?_
                        refine st_val (ro_move (v := .int _ _) rfl) ?_
                        refine st_call WavBack_k14 (less_at _ b K L _ (hv.from_ From.rfl_) c (by omega)) ?_
                        rintro v54 w12 ⟨rfl, rfl⟩
                        refine st_val (ro_move (v := .tuple _) rfl) ?_
                        refine st_val (ro_extract rfl rfl) ?_
                        refine st_val (ro_extract rfl rfl) ?_
                        refine st_val (ro_assign (v := .int _ _) rfl) ?_
                        refine st_val (ro_assign (v := .int _ _) rfl) ?_
                        refine st_nil ?_
                        refine nx_then ?_
                        refine cd_seq ?_
                        refine cd_region ?_
                        refine st_val (ro_move (v := .pointer _) rfl) ?_
                        refine st_val (ro_move (v := .int _ _) rfl) ?_
                        refine st_val (ro_fieldAddr WavBack_f24_1 rfl) ?_
                        refine st_val (ro_load WavBack_g22 rfl (by first | (first | exact (hP1.from_ From.rfl_).whole | exact (hP1.from_ From.rfl_).rd 0 rfl | exact (hP1.from_ From.rfl_).rd 1 rfl | exact (hP1.from_ From.rfl_).rd 2 rfl) | (first | exact (hk1.from_ From.rfl_).whole | exact (hk1.from_ From.rfl_).rd 0 rfl | exact (hk1.from_ From.rfl_).rd 1 rfl | exact (hk1.from_ From.rfl_).rd 2 rfl))) ?_
                        refine st_val (ro_len WavBack_l22 rfl) ?_
                        refine st_call WavBack_k15 (rank_at _ b K L _ (hv.from_ From.rfl_) c xs.length (cntC L c L.length) (by omega) (by omega) (by rw [hxl])) ?_
                        rintro v63 w13 ⟨rfl, E63⟩
                        refine st_val (ro_move (v := .tuple _) rfl) ?_
                        refine st_val (ro_extract rfl rfl) ?_
                        refine st_val (ro_extract rfl rfl) ?_
                        refine st_val (ro_assign (v := .int _ _) rfl) ?_
                        refine st_val (ro_assign (v := .int _ _) rfl) ?_
                        refine st_nil ?_
                        refine nx_then ?_
                        refine cd_seq ?_
                        refine cd_seq ?_
                        refine cd_region ?_
                        refine st_val (ro_move (v := .int _ _) rfl) ?_
                        refine st_call WavBack_k13 (num_any _ _) ?_
                        rintro v67 w14 ⟨rfl, rfl⟩
                        refine st_val (ro_neq rfl rfl) ?_
                        refine st_val (ro_move (v := .bool _) rfl) ?_
                        refine st_split (t := 69) rfl (fun Q15 => ?_) (fun Q15 => ?_)
                        · (try first | replace Q15 := bn_t Q15 | replace Q15 := bn_f Q15)
                          (try first | replace Q15 := bx_t Q15 | replace Q15 := bx_f Q15 | replace Q15 := be_t Q15 | replace Q15 := be_f Q15 | replace Q15 := of_decide_eq_true Q15 | replace Q15 := of_decide_eq_false Q15)
                          first
                           | (exfalso; first | omega | (simp only [hne] at *; done) | (simp_all; done) | contradiction | (cases Q15; done))
                           | skip
                             refine st_gno rfl rfl ?_
                             refine st_gno rfl rfl ?_
                             refine st_gno rfl rfl ?_
                             refine st_val (ro_pickT (v := .bool _) rfl rfl) ?_
                             refine st_val (ro_move (v := .bool _) rfl) ?_
                             refine st_gno rfl rfl ?_
                             refine st_gno rfl rfl ?_
                             refine st_gno rfl rfl ?_
                             refine st_val (ro_pickT (v := .bool _) rfl rfl) ?_
                             refine st_val (ro_move (v := .bool _) rfl) ?_
                             refine st_gno rfl rfl ?_
                             refine st_gno rfl rfl ?_
                             refine st_val (ro_pickT (v := .bool _) rfl rfl) ?_
                             refine st_val (ro_move (v := .bool _) rfl) ?_
                             refine st_gno rfl rfl ?_
                             refine st_gno rfl rfl ?_
                             refine st_gno rfl rfl ?_
                             refine st_gno rfl rfl ?_
                             refine st_gno rfl rfl ?_
                             refine st_val (ro_pickT (v := .bool _) rfl rfl) ?_
                             refine st_nil ?_
                             refine nx_then ?_
                             refine cd_condT rfl ?_
                             refine cd_seq ?_
                             refine cd_region ?_
                             refine st_val (ro_assign (v := .bool _) rfl) ?_
                             refine st_nil ?_
                             refine nx_then ?_
                             refine cd_ret ?_
                             refine rt_then ?_
                             refine rt_block ?_
                             refine rt_then ?_
                             refine rt_then ?_
                             refine rt_block ?_
                             refine rt_then ?_
                             refine res1 (v := .bool _) rfl rfl ?_
                             exact ⟨rfl, (hB.next E63)⟩
                        · (try first | replace Q15 := bn_t Q15 | replace Q15 := bn_f Q15)
                          (try first | replace Q15 := bx_t Q15 | replace Q15 := bx_f Q15 | replace Q15 := be_t Q15 | replace Q15 := be_f Q15 | replace Q15 := of_decide_eq_true Q15 | replace Q15 := of_decide_eq_false Q15)
                          first
                           | (exfalso; first | omega | (simp only [hne] at *; done) | (simp_all; done) | contradiction | (cases Q15; done))
                           | skip
                             refine st_unguard rfl ?_
                             refine st_val (ro_move (v := .int _ _) rfl) ?_
                             refine st_unguard rfl ?_
                             refine st_call WavBack_k13 (num_any _ _) ?_
                             rintro v71 w16 ⟨rfl, rfl⟩
                             refine st_unguard rfl ?_
                             refine st_val (ro_neq rfl rfl) ?_
                             refine st_val (ro_pickF (v := .bool _) rfl rfl) ?_
                             refine st_val (ro_move (v := .bool _) rfl) ?_
                             refine st_split (t := 74) rfl (fun Q17 => ?_) (fun Q17 => ?_)
                             · (try first | replace Q17 := bn_t Q17 | replace Q17 := bn_f Q17)
                               (try first | replace Q17 := bx_t Q17 | replace Q17 := bx_f Q17 | replace Q17 := be_t Q17 | replace Q17 := be_f Q17 | replace Q17 := of_decide_eq_true Q17 | replace Q17 := of_decide_eq_false Q17)
                               first
                                | (exfalso; first | omega | (simp only [hne] at *; done) | (simp_all; done) | contradiction | (cases Q17; done))
                                | skip
                                  refine st_gno rfl rfl ?_
                                  refine st_gno rfl rfl ?_
                                  refine st_gno rfl rfl ?_
                                  refine st_val (ro_pickT (v := .bool _) rfl rfl) ?_
                                  refine st_val (ro_move (v := .bool _) rfl) ?_
                                  refine st_gno rfl rfl ?_
                                  refine st_gno rfl rfl ?_
                                  refine st_val (ro_pickT (v := .bool _) rfl rfl) ?_
                                  refine st_val (ro_move (v := .bool _) rfl) ?_
                                  refine st_gno rfl rfl ?_
                                  refine st_gno rfl rfl ?_
                                  refine st_gno rfl rfl ?_
                                  refine st_gno rfl rfl ?_
                                  refine st_gno rfl rfl ?_
                                  refine st_val (ro_pickT (v := .bool _) rfl rfl) ?_
                                  refine st_nil ?_
                                  refine nx_then ?_
                                  refine cd_condT rfl ?_
                                  refine cd_seq ?_
                                  refine cd_region ?_
                                  refine st_val (ro_assign (v := .bool _) rfl) ?_
                                  refine st_nil ?_
                                  refine nx_then ?_
                                  refine cd_ret ?_
                                  refine rt_then ?_
                                  refine rt_block ?_
                                  refine rt_then ?_
                                  refine rt_then ?_
                                  refine rt_block ?_
                                  refine rt_then ?_
                                  refine res1 (v := .bool _) rfl rfl ?_
                                  exact ⟨rfl, (hB.next E63)⟩
                             · (try first | replace Q17 := bn_t Q17 | replace Q17 := bn_f Q17)
                               (try first | replace Q17 := bx_t Q17 | replace Q17 := bx_f Q17 | replace Q17 := be_t Q17 | replace Q17 := be_f Q17 | replace Q17 := of_decide_eq_true Q17 | replace Q17 := of_decide_eq_false Q17)
                               first
                                | (exfalso; first | omega | (simp only [hne] at *; done) | (simp_all; done) | contradiction | (cases Q17; done))
                                | skip
                                  refine st_unguard rfl ?_
                                  refine st_val (ro_move (v := .int _ _) rfl) ?_
                                  refine st_unguard rfl ?_
                                  refine st_val (ro_move (v := .int _ _) rfl) ?_
                                  refine st_unguard rfl ?_
                                  refine st_val (ro_neq rfl rfl) ?_
                                  refine st_val (ro_pickF (v := .bool _) rfl rfl) ?_
                                  refine st_val (ro_move (v := .bool _) rfl) ?_
                                  refine st_split (t := 79) rfl (fun Q18 => ?_) (fun Q18 => ?_)
                                  · (try first | replace Q18 := bn_t Q18 | replace Q18 := bn_f Q18)
                                    (try first | replace Q18 := bx_t Q18 | replace Q18 := bx_f Q18 | replace Q18 := be_t Q18 | replace Q18 := be_f Q18 | replace Q18 := of_decide_eq_true Q18 | replace Q18 := of_decide_eq_false Q18)
                                    first
                                     | (exfalso; first | omega | (simp only [hne] at *; done) | (simp_all; done) | contradiction | (cases Q18; done))
                                     | skip
                                       refine st_gno rfl rfl ?_
                                       refine st_gno rfl rfl ?_
                                       refine st_val (ro_pickT (v := .bool _) rfl rfl) ?_
                                       refine st_val (ro_move (v := .bool _) rfl) ?_
                                       refine st_gno rfl rfl ?_
                                       refine st_gno rfl rfl ?_
                                       refine st_gno rfl rfl ?_
                                       refine st_gno rfl rfl ?_
                                       refine st_gno rfl rfl ?_
                                       refine st_val (ro_pickT (v := .bool _) rfl rfl) ?_
                                       refine st_nil ?_
                                       refine nx_then ?_
                                       refine cd_condT rfl ?_
                                       refine cd_seq ?_
                                       refine cd_region ?_
                                       refine st_val (ro_assign (v := .bool _) rfl) ?_
                                       refine st_nil ?_
                                       refine nx_then ?_
                                       refine cd_ret ?_
                                       refine rt_then ?_
                                       refine rt_block ?_
                                       refine rt_then ?_
                                       refine rt_then ?_
                                       refine rt_block ?_
                                       refine rt_then ?_
                                       refine res1 (v := .bool _) rfl rfl ?_
                                       exact ⟨rfl, (hB.next E63)⟩
                                  · (try first | replace Q18 := bn_t Q18 | replace Q18 := bn_f Q18)
                                    (try first | replace Q18 := bx_t Q18 | replace Q18 := bx_f Q18 | replace Q18 := be_t Q18 | replace Q18 := be_f Q18 | replace Q18 := of_decide_eq_true Q18 | replace Q18 := of_decide_eq_false Q18)
                                    first
                                     | (exfalso; first | omega | (simp only [hne] at *; done) | (simp_all; done) | contradiction | (cases Q18; done))
                                     | skip
                                       refine st_unguard rfl ?_
                                       refine st_val (ro_move (v := .int _ _) rfl) ?_
                                       refine st_unguard rfl ?_
                                       refine st_val (ro_lss rfl rfl) ?_
                                       refine st_val (ro_pickF (v := .bool _) rfl rfl) ?_
                                       refine st_val (ro_move (v := .bool _) rfl) ?_
                                       refine st_split (t := 83) rfl (fun Q19 => ?_) (fun Q19 => ?_)
                                       · (try first | replace Q19 := bn_t Q19 | replace Q19 := bn_f Q19)
                                         (try first | replace Q19 := bx_t Q19 | replace Q19 := bx_f Q19 | replace Q19 := be_t Q19 | replace Q19 := be_f Q19 | replace Q19 := of_decide_eq_true Q19 | replace Q19 := of_decide_eq_false Q19)
                                         first
                                          | (exfalso; first | omega | (simp only [hne] at *; done) | (simp_all; done) | contradiction | (cases Q19; done))
                                          | skip
                                            refine st_gno rfl rfl ?_
                                            refine st_gno rfl rfl ?_
                                            refine st_gno rfl rfl ?_
                                            refine st_gno rfl rfl ?_
                                            refine st_gno rfl rfl ?_
                                            refine st_val (ro_pickT (v := .bool _) rfl rfl) ?_
                                            refine st_nil ?_
                                            refine nx_then ?_
                                            refine cd_condT rfl ?_
                                            refine cd_seq ?_
                                            refine cd_region ?_
                                            refine st_val (ro_assign (v := .bool _) rfl) ?_
                                            refine st_nil ?_
                                            refine nx_then ?_
                                            refine cd_ret ?_
                                            refine rt_then ?_
                                            refine rt_block ?_
                                            refine rt_then ?_
                                            refine rt_then ?_
                                            refine rt_block ?_
                                            refine rt_then ?_
                                            refine res1 (v := .bool _) rfl rfl ?_
                                            exact ⟨rfl, (hB.next E63)⟩
                                       · (try first | replace Q19 := bn_t Q19 | replace Q19 := bn_f Q19)
                                         (try first | replace Q19 := bx_t Q19 | replace Q19 := bx_f Q19 | replace Q19 := be_t Q19 | replace Q19 := be_f Q19 | replace Q19 := of_decide_eq_true Q19 | replace Q19 := of_decide_eq_false Q19)
                                         first
                                          | (exfalso; first | omega | (simp only [hne] at *; done) | (simp_all; done) | contradiction | (cases Q19; done))
                                          | skip
                                            refine st_unguard rfl ?_
                                            refine st_val (ro_move (v := .int _ _) rfl) ?_
                                            refine st_unguard rfl ?_
                                            refine st_val (ro_fieldAddr WavBack_f24_1 rfl) ?_
                                            refine st_unguard rfl ?_
                                            refine st_val (ro_load WavBack_g22 rfl (by first | (first | exact (hP1.from_ (From.rfl_.next E63)).whole | exact (hP1.from_ (From.rfl_.next E63)).rd 0 rfl | exact (hP1.from_ (From.rfl_.next E63)).rd 1 rfl | exact (hP1.from_ (From.rfl_.next E63)).rd 2 rfl) | (first | exact (hk1.from_ (From.rfl_.next E63)).whole | exact (hk1.from_ (From.rfl_.next E63)).rd 0 rfl | exact (hk1.from_ (From.rfl_.next E63)).rd 1 rfl | exact (hk1.from_ (From.rfl_.next E63)).rd 2 rfl))) ?_
                                            refine st_unguard rfl ?_
                                            refine st_val (ro_len WavBack_l22 rfl) ?_
                                            refine st_unguard rfl ?_
                                            refine st_val (ro_gtr rfl rfl) ?_
                                            refine st_val (ro_pickF (v := .bool _) rfl rfl) ?_
                                            refine st_nil ?_
                                            refine nx_then ?_
                                            refine cd_cond rfl (fun Q20 => ?_) (fun Q20 => ?_)
                                            · (try first | replace Q20 := bn_t Q20 | replace Q20 := bn_f Q20)
                                              (try first | replace Q20 := bx_t Q20 | replace Q20 := bx_f Q20 | replace Q20 := be_t Q20 | replace Q20 := be_f Q20 | replace Q20 := of_decide_eq_true Q20 | replace Q20 := of_decide_eq_false Q20)
                                              first
                                               | (exfalso; first | omega | (simp only [hne] at *; done) | (simp_all; done) | contradiction | (cases Q20; done))
                                               | skip
                                                 refine cd_seq ?_
                                                 refine cd_region ?_
                                                 refine st_val (ro_assign (v := .bool _) rfl) ?_
                                                 refine st_nil ?_
                                                 refine nx_then ?_
                                                 refine cd_ret ?_
                                                 refine rt_then ?_
                                                 refine rt_block ?_
                                                 refine rt_then ?_
                                                 refine rt_then ?_
                                                 refine rt_block ?_
                                                 refine rt_then ?_
                                                 refine res1 (v := .bool _) rfl rfl ?_
                                                 exact ⟨rfl, (hB.next E63)⟩
                                            · (try first | replace Q20 := bn_t Q20 | replace Q20 := bn_f Q20)
                                              (try first | replace Q20 := bx_t Q20 | replace Q20 := bx_f Q20 | replace Q20 := be_t Q20 | replace Q20 := be_f Q20 | replace Q20 := of_decide_eq_true Q20 | replace Q20 := of_decide_eq_false Q20)
                                              first
                                               | (exfalso; first | omega | (simp only [hne] at *; done) | (simp_all; done) | contradiction | (cases Q20; done))
                                               | skip
                                                 refine cd_skip ?_
                                                 refine nx_then ?_
                                                 refine cd_seq ?_
                                                 refine cd_region ?_
                                                 refine st_val (ro_move (v := .int _ _) rfl) ?_
                                                 refine st_val (ro_move (v := .int _ _) rfl) ?_
                                                 refine st_val (ro_addN rfl rfl (by omega)) ?_
                                                 refine st_val (ro_assign (v := .int _ _) rfl) ?_
                                                 refine st_nil ?_
                                                 refine nx_then ?_
                                                 refine cd_seq ?_
                                                 refine cd_seq ?_
                                                 refine cd_region ?_
                                                 refine st_val (ro_assign (v := .int _ _) rfl) ?_
                                                 refine st_nil ?_
                                                 refine nx_then ?_
                                                 refine cd_block ?_
                                                 refine cd_loop (G := Nat) [2, 12, 13, 14, 15, 16, 17, 93, 94, 95, 96, 97, 98, 99, 100, 101, 102, 103, 104, 105, 106, 107, 108, 109, 110, 111, 112, 113, 114, 115, 116, 117, 118, 119, 120, 121, 122, 123, 124, 125, 126, 127, 128, 129, 130, 131, 132, 133, 134, 135, 136, 137, 138, 139, 140] (fun j => [(11, .int .i64 (j : Nat))]) (fun j w' => j ≤ cntC L c L.length ∧ TreeAt w' w.heap.size b K L ∧ Blk w' b1 24 #[.int .i64 (K : Nat), .slice A xs.length ca, .slice B is.length cb] ∧ From w w') (fun j => cntC L c L.length - j) (0) ⟨rfl, trivial⟩ ?_ ?_
                                                 · exact ⟨Nat.zero_le _, hv.from_ (From.rfl_.next E63), hP1.from_ (From.rfl_.next E63), (hB.next E63)⟩
                                                 rintro j ρ21 w21 ⟨hj, hv, hP1, hB⟩
                                                 refine cd_seq ?_
                                                 refine cd_seq ?_
                                                 refine cd_region ?_
                                                 refine st_val (ro_move (v := .int _ _) rfl) ?_
                                                 refine st_val (ro_move (v := .int _ _) rfl) ?_
                                                 refine st_val (ro_lss rfl rfl) ?_
                                                 refine st_nil ?_
                                                 refine nx_then ?_
                                                 refine cd_cond rfl (fun Q22 => ?_) (fun Q22 => ?_)
                                                 · (try first | replace Q22 := bn_t Q22 | replace Q22 := bn_f Q22)
                                                   (try first | replace Q22 := bx_t Q22 | replace Q22 := bx_f Q22 | replace Q22 := be_t Q22 | replace Q22 := be_f Q22 | replace Q22 := of_decide_eq_true Q22 | replace Q22 := of_decide_eq_false Q22)
                                                   first
                                                    | (exfalso; first | omega | (simp only [hne] at *; done) | (simp_all; done) | contradiction | (cases Q22; done))
                                                    | skip
                                                      refine cd_skip ?_
                                                      refine nx_then ?_
                                                      refine cd_seq ?_
                                                      refine cd_block ?_
                                                      refine cd_seq ?_
                                                      refine cd_region ?_
                                                      refine st_val (ro_move (v := .pointer _) rfl) ?_
                                                      refine st_val (ro_move (v := .int _ _) rfl) ?_
                                                      refine st_val (ro_move (v := .int _ _) rfl) ?_
                                                      refine st_call WavBack_k10 (sel_at _ b K L _ (hv.from_ From.rfl_) (hTZ.from_ hB) c j (by omega) (by omega)) ?_
                                                      rintro v102 w23 ⟨q, hq, rfl, hqc, hqj, E102⟩
                                                      refine st_val (ro_move (v := .tuple _) rfl) ?_
                                                      refine st_val (ro_extract rfl rfl) ?_
                                                      refine st_val (ro_extract rfl rfl) ?_
                                                      refine st_val (ro_assign (v := .int _ _) rfl) ?_
                                                      refine st_val (ro_assign (v := .int _ _) rfl) ?_
                                                      refine st_nil ?_
                                                      refine nx_then ?_
                                                      refine cd_seq ?_
                                                      refine cd_region ?_
                                                      refine st_val (ro_move (v := .pointer _) rfl) ?_
                                                      refine st_val (ro_move (v := .int _ _) rfl) ?_
                                                      refine st_val (ro_move (v := .int _ _) rfl) ?_
                                                      refine st_call WavBack_k15 (rank_at _ b K L _ (hv.from_ (From.rfl_.next E102)) c q j (by omega) (by omega) hqj) ?_
                                                      rintro v109 w24 ⟨rfl, E109⟩
                                                      refine st_val (ro_move (v := .tuple _) rfl) ?_
                                                      refine st_val (ro_extract rfl rfl) ?_
                                                      refine st_val (ro_extract rfl rfl) ?_
                                                      refine st_val (ro_assign (v := .int _ _) rfl) ?_
                                                      refine st_val (ro_assign (v := .int _ _) rfl) ?_
                                                      refine st_nil ?_
                                                      refine nx_then ?_
                                                      refine cd_seq ?_
                                                      refine cd_region ?_
                                                      refine st_val (ro_move (v := .pointer _) rfl) ?_
                                                      refine st_val (ro_move (v := .int _ _) rfl) ?_
                                                      refine st_call WavBack_k16 (access_at _ b K L _ (hv.from_ ((From.rfl_.next E102).next E109)) q c hq hqc) ?_
                                                      rintro v115 w25 ⟨rfl, E115⟩
                                                      refine st_val (ro_move (v := .tuple _) rfl) ?_
                                                      refine st_val (ro_extract rfl rfl) ?_
                                                      refine st_val (ro_extract rfl rfl) ?_
                                                      refine st_val (ro_assign (v := .int _ _) rfl) ?_
                                                      refine st_val (ro_assign (v := .int _ _) rfl) ?_
                                                      refine st_nil ?_
                                                      refine nx_then ?_
                                                      refine cd_seq ?_
                                                      refine cd_region ?_
                                                      refine st_val (ro_move (v := .int _ _) rfl) ?_
                                                      refine st_call WavBack_k13 (num_any _ _) ?_
                                                      rintro v119 w26 ⟨rfl, rfl⟩
                                                      refine st_val (ro_neq rfl rfl) ?_
                                                      refine st_val (ro_move (v := .bool _) rfl) ?_
                                                      refine st_split (t := 121) rfl (fun Q27 => ?_) (fun Q27 => ?_)
                                                      · (try first | replace Q27 := bn_t Q27 | replace Q27 := bn_f Q27)
                                                        (try first | replace Q27 := bx_t Q27 | replace Q27 := bx_f Q27 | replace Q27 := be_t Q27 | replace Q27 := be_f Q27 | replace Q27 := of_decide_eq_true Q27 | replace Q27 := of_decide_eq_false Q27)
                                                        first
                                                         | (exfalso; first | omega | (simp only [hne] at *; done) | (simp_all; done) | contradiction | (cases Q27; done))
                                                         | skip
                                                           refine st_gno rfl rfl ?_
                                                           refine st_gno rfl rfl ?_
                                                           refine st_gno rfl rfl ?_
                                                           refine st_val (ro_pickT (v := .bool _) rfl rfl) ?_
                                                           refine st_val (ro_move (v := .bool _) rfl) ?_
                                                           refine st_gno rfl rfl ?_
                                                           refine st_gno rfl rfl ?_
                                                           refine st_gno rfl rfl ?_
                                                           refine st_val (ro_pickT (v := .bool _) rfl rfl) ?_
                                                           refine st_val (ro_move (v := .bool _) rfl) ?_
                                                           refine st_gno rfl rfl ?_
                                                           refine st_gno rfl rfl ?_
                                                           refine st_gno rfl rfl ?_
                                                           refine st_val (ro_pickT (v := .bool _) rfl rfl) ?_
                                                           refine st_val (ro_move (v := .bool _) rfl) ?_
                                                           refine st_gno rfl rfl ?_
                                                           refine st_gno rfl rfl ?_
                                                           refine st_gno rfl rfl ?_
                                                           refine st_val (ro_pickT (v := .bool _) rfl rfl) ?_
                                                           refine st_nil ?_
                                                           refine nx_then ?_
                                                           refine cd_condT rfl ?_
                                                           refine cd_seq ?_
                                                           refine cd_region ?_
                                                           refine st_val (ro_assign (v := .bool _) rfl) ?_
                                                           refine st_nil ?_
                                                           refine nx_then ?_
                                                           refine cd_ret ?_
                                                           refine rt_block ?_
                                                           refine rt_then ?_
                                                           refine rt_then ?_
                                                           refine rt_block ?_
                                                           refine rt_then ?_
                                                           refine rt_block ?_
                                                           refine rt_then ?_
                                                           refine rt_then ?_
                                                           refine rt_block ?_
                                                           refine rt_then ?_
                                                           refine res1 (v := .bool _) rfl rfl ?_
                                                           exact ⟨rfl, (((hB.next E102).next E109).next E115)⟩
                                                      · (try first | replace Q27 := bn_t Q27 | replace Q27 := bn_f Q27)
                                                        (try first | replace Q27 := bx_t Q27 | replace Q27 := bx_f Q27 | replace Q27 := be_t Q27 | replace Q27 := be_f Q27 | replace Q27 := of_decide_eq_true Q27 | replace Q27 := of_decide_eq_false Q27)
                                                        first
                                                         | (exfalso; first | omega | (simp only [hne] at *; done) | (simp_all; done) | contradiction | (cases Q27; done))
                                                         | skip
                                                           refine st_unguard rfl ?_
                                                           refine st_val (ro_move (v := .int _ _) rfl) ?_
                                                           refine st_unguard rfl ?_
                                                           refine st_call WavBack_k13 (num_any _ _) ?_
                                                           rintro v123 w28 ⟨rfl, rfl⟩
                                                           refine st_unguard rfl ?_
                                                           refine st_val (ro_neq rfl rfl) ?_
                                                           refine st_val (ro_pickF (v := .bool _) rfl rfl) ?_
                                                           refine st_val (ro_move (v := .bool _) rfl) ?_
                                                           refine st_split (t := 126) rfl (fun Q29 => ?_) (fun Q29 => ?_)
                                                           · (try first | replace Q29 := bn_t Q29 | replace Q29 := bn_f Q29)
                                                             (try first | replace Q29 := bx_t Q29 | replace Q29 := bx_f Q29 | replace Q29 := be_t Q29 | replace Q29 := be_f Q29 | replace Q29 := of_decide_eq_true Q29 | replace Q29 := of_decide_eq_false Q29)
                                                             first
                                                              | (exfalso; first | omega | (simp only [hne] at *; done) | (simp_all; done) | contradiction | (cases Q29; done))
                                                              | skip
                                                                refine st_gno rfl rfl ?_
                                                                refine st_gno rfl rfl ?_
                                                                refine st_gno rfl rfl ?_
                                                                refine st_val (ro_pickT (v := .bool _) rfl rfl) ?_
                                                                refine st_val (ro_move (v := .bool _) rfl) ?_
                                                                refine st_gno rfl rfl ?_
                                                                refine st_gno rfl rfl ?_
                                                                refine st_gno rfl rfl ?_
                                                                refine st_val (ro_pickT (v := .bool _) rfl rfl) ?_
                                                                refine st_val (ro_move (v := .bool _) rfl) ?_
                                                                refine st_gno rfl rfl ?_
                                                                refine st_gno rfl rfl ?_
                                                                refine st_gno rfl rfl ?_
                                                                refine st_val (ro_pickT (v := .bool _) rfl rfl) ?_
                                                                refine st_nil ?_
                                                                refine nx_then ?_
                                                                refine cd_condT rfl ?_
                                                                refine cd_seq ?_
                                                                refine cd_region ?_
                                                                refine st_val (ro_assign (v := .bool _) rfl) ?_
                                                                refine st_nil ?_
                                                                refine nx_then ?_
                                                                refine cd_ret ?_
                                                                refine rt_block ?_
                                                                refine rt_then ?_
                                                                refine rt_then ?_
                                                                refine rt_block ?_
                                                                refine rt_then ?_
                                                                refine rt_block ?_
                                                                refine rt_then ?_
                                                                refine rt_then ?_
                                                                refine rt_block ?_
                                                                refine rt_then ?_
                                                                refine res1 (v := .bool _) rfl rfl ?_
                                                                exact ⟨rfl, (((hB.next E102).next E109).next E115)⟩
                                                           · (try first | replace Q29 := bn_t Q29 | replace Q29 := bn_f Q29)
                                                             (try first | replace Q29 := bx_t Q29 | replace Q29 := bx_f Q29 | replace Q29 := be_t Q29 | replace Q29 := be_f Q29 | replace Q29 := of_decide_eq_true Q29 | replace Q29 := of_decide_eq_false Q29)
                                                             first
                                                              | (exfalso; first | omega | (simp only [hne] at *; done) | (simp_all; done) | contradiction | (cases Q29; done))
                                                              | skip
                                                                refine st_unguard rfl ?_
                                                                refine st_val (ro_move (v := .int _ _) rfl) ?_
                                                                refine st_unguard rfl ?_
                                                                refine st_call WavBack_k13 (num_any _ _) ?_
                                                                rintro v128 w30 ⟨rfl, rfl⟩
                                                                refine st_unguard rfl ?_
                                                                refine st_val (ro_neq rfl rfl) ?_
                                                                refine st_val (ro_pickF (v := .bool _) rfl rfl) ?_
                                                                refine st_val (ro_move (v := .bool _) rfl) ?_
                                                                refine st_split (t := 131) rfl (fun Q31 => ?_) (fun Q31 => ?_)
                                                                · (try first | replace Q31 := bn_t Q31 | replace Q31 := bn_f Q31)
                                                                  (try first | replace Q31 := bx_t Q31 | replace Q31 := bx_f Q31 | replace Q31 := be_t Q31 | replace Q31 := be_f Q31 | replace Q31 := of_decide_eq_true Q31 | replace Q31 := of_decide_eq_false Q31)
                                                                  first
                                                                   | (exfalso; first | omega | (simp only [hne] at *; done) | (simp_all; done) | contradiction | (cases Q31; done))
                                                                   | skip
                                                                     refine st_gno rfl rfl ?_
                                                                     refine st_gno rfl rfl ?_
                                                                     refine st_gno rfl rfl ?_
                                                                     refine st_val (ro_pickT (v := .bool _) rfl rfl) ?_
                                                                     refine st_val (ro_move (v := .bool _) rfl) ?_
                                                                     refine st_gno rfl rfl ?_
                                                                     refine st_gno rfl rfl ?_
                                                                     refine st_gno rfl rfl ?_
                                                                     refine st_val (ro_pickT (v := .bool _) rfl rfl) ?_
                                                                     refine st_nil ?_
                                                                     refine nx_then ?_
                                                                     refine cd_condT rfl ?_
                                                                     refine cd_seq ?_
                                                                     refine cd_region ?_
                                                                     refine st_val (ro_assign (v := .bool _) rfl) ?_
                                                                     refine st_nil ?_
                                                                     refine nx_then ?_
                                                                     refine cd_ret ?_
                                                                     refine rt_block ?_
                                                                     refine rt_then ?_
                                                                     refine rt_then ?_
                                                                     refine rt_block ?_
                                                                     refine rt_then ?_
                                                                     refine rt_block ?_
                                                                     refine rt_then ?_
                                                                     refine rt_then ?_
                                                                     refine rt_block ?_
                                                                     refine rt_then ?_
                                                                     refine res1 (v := .bool _) rfl rfl ?_
                                                                     exact ⟨rfl, (((hB.next E102).next E109).next E115)⟩
                                                                · (try first | replace Q31 := bn_t Q31 | replace Q31 := bn_f Q31)
                                                                  (try first | replace Q31 := bx_t Q31 | replace Q31 := bx_f Q31 | replace Q31 := be_t Q31 | replace Q31 := be_f Q31 | replace Q31 := of_decide_eq_true Q31 | replace Q31 := of_decide_eq_false Q31)
                                                                  first
                                                                   | (exfalso; first | omega | (simp only [hne] at *; done) | (simp_all; done) | contradiction | (cases Q31; done))
                                                                   | skip
                                                                     refine st_unguard rfl ?_
                                                                     refine st_val (ro_move (v := .int _ _) rfl) ?_
                                                                     refine st_unguard rfl ?_
                                                                     refine st_val (ro_move (v := .int _ _) rfl) ?_
                                                                     refine st_unguard rfl ?_
                                                                     refine st_val (ro_neq rfl rfl) ?_
                                                                     refine st_val (ro_pickF (v := .bool _) rfl rfl) ?_
                                                                     refine st_val (ro_move (v := .bool _) rfl) ?_
                                                                     refine st_split (t := 136) rfl (fun Q32 => ?_) (fun Q32 => ?_)
                                                                     · (try first | replace Q32 := bn_t Q32 | replace Q32 := bn_f Q32)
                                                                       (try first | replace Q32 := bx_t Q32 | replace Q32 := bx_f Q32 | replace Q32 := be_t Q32 | replace Q32 := be_f Q32 | replace Q32 := of_decide_eq_true Q32 | replace Q32 := of_decide_eq_false Q32)
                                                                       first
                                                                        | (exfalso; first | omega | (simp only [hne] at *; done) | (simp_all; done) | contradiction | (cases Q32; done))
                                                                        | skip
                                                                          refine st_gno rfl rfl ?_
                                                                          refine st_gno rfl rfl ?_
                                                                          refine st_gno rfl rfl ?_
                                                                          refine st_val (ro_pickT (v := .bool _) rfl rfl) ?_
                                                                          refine st_nil ?_
                                                                          refine nx_then ?_
                                                                          refine cd_condT rfl ?_
                                                                          refine cd_seq ?_
                                                                          refine cd_region ?_
                                                                          refine st_val (ro_assign (v := .bool _) rfl) ?_
                                                                          refine st_nil ?_
                                                                          refine nx_then ?_
                                                                          refine cd_ret ?_
                                                                          refine rt_block ?_
                                                                          refine rt_then ?_
                                                                          refine rt_then ?_
                                                                          refine rt_block ?_
                                                                          refine rt_then ?_
                                                                          refine rt_block ?_
                                                                          refine rt_then ?_
                                                                          refine rt_then ?_
                                                                          refine rt_block ?_
                                                                          refine rt_then ?_
                                                                          refine res1 (v := .bool _) rfl rfl ?_
                                                                          exact ⟨rfl, (((hB.next E102).next E109).next E115)⟩
                                                                     · (try first | replace Q32 := bn_t Q32 | replace Q32 := bn_f Q32)
                                                                       (try first | replace Q32 := bx_t Q32 | replace Q32 := bx_f Q32 | replace Q32 := be_t Q32 | replace Q32 := be_f Q32 | replace Q32 := of_decide_eq_true Q32 | replace Q32 := of_decide_eq_false Q32)
                                                                       first
                                                                        | (exfalso; first | omega | (simp only [hne] at *; done) | (simp_all; done) | contradiction | (cases Q32; done))
                                                                        | skip
                                                                          refine st_unguard rfl ?_
                                                                          refine st_val (ro_move (v := .int _ _) rfl) ?_
                                                                          refine st_unguard rfl ?_
                                                                          refine st_val (ro_move (v := .int _ _) rfl) ?_
                                                                          refine st_unguard rfl ?_
                                                                          refine st_val (ro_neq rfl rfl) ?_
                                                                          refine st_val (ro_pickF (v := .bool _) rfl rfl) ?_
                                                                          refine st_nil ?_
                                                                          refine nx_then ?_
                                                                          refine cd_cond rfl (fun Q33 => ?_) (fun Q33 => ?_)
                                                                          · (try first | replace Q33 := bn_t Q33 | replace Q33 := bn_f Q33)
                                                                            (try first | replace Q33 := bx_t Q33 | replace Q33 := bx_f Q33 | replace Q33 := be_t Q33 | replace Q33 := be_f Q33 | replace Q33 := of_decide_eq_true Q33 | replace Q33 := of_decide_eq_false Q33)
                                                                            first
                                                                             | (exfalso; first | omega | (simp only [hne] at *; done) | (simp_all; done) | contradiction | (cases Q33; done))
                                                                             | skip
                                                                               refine cd_seq ?_
                                                                               refine cd_region ?_
                                                                               refine st_val (ro_assign (v := .bool _) rfl) ?_
                                                                               refine st_nil ?_
                                                                               refine nx_then ?_
                                                                               refine cd_ret ?_
                                                                               refine rt_block ?_
                                                                               refine rt_then ?_
                                                                               refine rt_then ?_
                                                                               refine rt_block ?_
                                                                               refine rt_then ?_
                                                                               refine rt_block ?_
                                                                               refine rt_then ?_
                                                                               refine rt_then ?_
                                                                               refine rt_block ?_
                                                                               refine rt_then ?_
                                                                               refine res1 (v := .bool _) rfl rfl ?_
                                                                               exact ⟨rfl, (((hB.next E102).next E109).next E115)⟩
                                                                          · (try first | replace Q33 := bn_t Q33 | replace Q33 := bn_f Q33)
                                                                            (try first | replace Q33 := bx_t Q33 | replace Q33 := bx_f Q33 | replace Q33 := be_t Q33 | replace Q33 := be_f Q33 | replace Q33 := of_decide_eq_true Q33 | replace Q33 := of_decide_eq_false Q33)
                                                                            first
                                                                             | (exfalso; first | omega | (simp only [hne] at *; done) | (simp_all; done) | contradiction | (cases Q33; done))
                                                                             | skip
                                                                               refine cd_skip ?_
                                                                               refine nx_block ?_
                                                                               refine nx_then ?_
                                                                               refine cd_region ?_
                                                                               refine st_val (ro_move (v := .int _ _) rfl) ?_
                                                                               refine st_val (ro_addN (b := 1) rfl rfl (by omega)) ?_
                                                                               refine st_val (ro_assign (v := .int _ _) rfl) ?_
                                                                               refine st_nil ?_
                                                                               refine nx_cut (j + 1) ⟨(by first | rfl | (refine int_eq ?_; omega)), trivial⟩ (by (iterate 115 refine agr_cons rfl ?_); exact agr_rfl) ⟨?_, ?_⟩
                                                                               · exact ⟨by omega, hv.from_ (((From.rfl_.next E102).next E109).next E115), hP1.from_ (((From.rfl_.next E102).next E109).next E115), (((hB.next E102).next E109).next E115)⟩
                                                                               · omega
                                                 · (try first | replace Q22 := bn_t Q22 | replace Q22 := bn_f Q22)
                                                   (try first | replace Q22 := bx_t Q22 | replace Q22 := bx_f Q22 | replace Q22 := be_t Q22 | replace Q22 := be_f Q22 | replace Q22 := of_decide_eq_true Q22 | replace Q22 := of_decide_eq_false Q22)
                                                   first
                                                    | (exfalso; first | omega | (simp only [hne] at *; done) | (simp_all; done) | contradiction | (cases Q22; done))
                                                    | skip
                                                      refine cd_exit ?_
                                                      refine ex_then ?_
                                                      refine ex_then ?_
                                                      refine ex_block ?_
                                                      refine nx_then ?_
                                                      refine cd_seq ?_
                                                      refine cd_region ?_
                                                      refine st_val (ro_move (v := .pointer _) rfl) ?_
                                                      refine st_val (ro_move (v := .int _ _) rfl) ?_
                                                      refine st_val (ro_move (v := .int _ _) rfl) ?_
                                                      refine st_call WavBack_k10 (sel_none _ b K L _ (hv.from_ From.rfl_) (hTZ.from_ hB) c (cntC L c L.length) (by omega) (Nat.le_refl _)) ?_
                                                      rintro v145 w34 ⟨rfl, E145⟩
                                                      refine st_val (ro_move (v := .tuple _) rfl) ?_
                                                      refine st_val (ro_extract rfl rfl) ?_
                                                      refine st_val (ro_extract rfl rfl) ?_
                                                      refine st_val (ro_assign (v := .int _ _) rfl) ?_
                                                      refine st_val (ro_assign (v := .int _ _) rfl) ?_
                                                      refine st_nil ?_
                                                      refine nx_then ?_
                                                      refine cd_seq ?_
                                                      refine cd_region ?_
                                                      refine st_val (ro_move (v := .int _ _) rfl) ?_
                                                      refine st_call WavBack_k13 (num_any _ _) ?_
                                                      rintro v149 w35 ⟨rfl, rfl⟩
                                                      refine st_val (ro_neq rfl rfl) ?_
                                                      refine st_nil ?_
                                                      refine nx_then ?_
                                                      refine cd_cond rfl (fun Q36 => ?_) (fun Q36 => ?_)
                                                      · (try first | replace Q36 := bn_t Q36 | replace Q36 := bn_f Q36)
                                                        (try first | replace Q36 := bx_t Q36 | replace Q36 := bx_f Q36 | replace Q36 := be_t Q36 | replace Q36 := be_f Q36 | replace Q36 := of_decide_eq_true Q36 | replace Q36 := of_decide_eq_false Q36)
                                                        first
                                                         | (exfalso; first | omega | (simp only [hne] at *; done) | (simp_all; done) | contradiction | (cases Q36; done))
                                                         | skip
                                                           refine cd_seq ?_
                                                           refine cd_region ?_
                                                           refine st_val (ro_assign (v := .bool _) rfl) ?_
                                                           refine st_nil ?_
                                                           refine nx_then ?_
                                                           refine cd_ret ?_
                                                           refine rt_block ?_
                                                           refine rt_then ?_
                                                           refine rt_then ?_
                                                           refine rt_block ?_
                                                           refine rt_then ?_
                                                           refine res1 (v := .bool _) rfl rfl ?_
                                                           exact ⟨rfl, (hB.next E145)⟩
                                                      · (try first | replace Q36 := bn_t Q36 | replace Q36 := bn_f Q36)
                                                        (try first | replace Q36 := bx_t Q36 | replace Q36 := bx_f Q36 | replace Q36 := be_t Q36 | replace Q36 := be_f Q36 | replace Q36 := of_decide_eq_true Q36 | replace Q36 := of_decide_eq_false Q36)
                                                        first
                                                         | (exfalso; first | omega | (simp only [hne] at *; done) | (simp_all; done) | contradiction | (cases Q36; done))
                                                         | skip
                                                           refine cd_skip ?_
                                                           refine nx_block ?_
                                                           refine nx_then ?_
                                                           refine cd_region ?_
                                                           refine st_val (ro_move (v := .int _ _) rfl) ?_
                                                           refine st_val (ro_addN (b := 1) rfl rfl (by omega)) ?_
                                                           refine st_val (ro_assign (v := .int _ _) rfl) ?_
                                                           refine st_nil ?_
                                                           refine nx_cut (c + 1) ⟨(int_eq (by rw [cnt_diff])), rfl, trivial⟩ (by (iterate 252 refine agr_cons rfl ?_); exact agr_rfl) ⟨?_, ?_⟩
                                                           · exact ⟨by omega, hv.from_ (From.rfl_.next E145), hP1.from_ (From.rfl_.next E145), (hB.next E145)⟩
                                                           · omega
                   · (try first | replace Q11 := bn_t Q11 | replace Q11 := bn_f Q11)
                     (try first | replace Q11 := bx_t Q11 | replace Q11 := bx_f Q11 | replace Q11 := be_t Q11 | replace Q11 := be_f Q11 | replace Q11 := of_decide_eq_true Q11 | replace Q11 := of_decide_eq_false Q11)
                     have hcK : c = K := by omega
                     have hallc : cntLt L c = L.length := by rw [hcK]; exact hall
                     first
                      | (exfalso; first | omega | (simp only [hne] at *; done) | (simp_all; done) | contradiction | (cases Q11; done))
                      | skip
                        refine cd_exit ?_
                        refine ex_then ?_
                        refine ex_then ?_
                        refine ex_block ?_
                        refine nx_then ?_
                        refine cd_seq ?_
                        refine cd_region ?_
                        refine st_val (ro_move (v := .pointer _) rfl) ?_
                        refine st_val (ro_fieldAddr WavBack_f24_0 rfl) ?_
                        refine st_val (ro_load WavBack_g3 rfl (by first | (first | exact (hP1.from_ From.rfl_).whole | exact (hP1.from_ From.rfl_).rd 0 rfl | exact (hP1.from_ From.rfl_).rd 1 rfl | exact (hP1.from_ From.rfl_).rd 2 rfl) | (first | exact (hk1.from_ From.rfl_).whole | exact (hk1.from_ From.rfl_).rd 0 rfl | exact (hk1.from_ From.rfl_).rd 1 rfl | exact (hk1.from_ From.rfl_).rd 2 rfl))) ?_
                        refine st_call WavBack_k14 (less_at _ b K L _ (hv.from_ From.rfl_) K (Nat.le_refl _)) ?_
                        rintro v155 w37 ⟨rfl, rfl⟩
                        refine st_val (ro_move (v := .tuple _) rfl) ?_
                        refine st_val (ro_extract rfl rfl) ?_
                        refine st_val (ro_extract rfl rfl) ?_
                        refine st_val (ro_assign (v := .int _ _) rfl) ?_
                        refine st_val (ro_assign (v := .int _ _) rfl) ?_
                        refine st_nil ?_
                        refine nx_then ?_
                        refine cd_seq ?_
                        refine cd_region ?_
                        refine st_val (ro_move (v := .int _ _) rfl) ?_
                        refine st_call WavBack_k13 (num_any _ _) ?_
                        rintro v159 w38 ⟨rfl, rfl⟩
                        refine st_val (ro_eql rfl rfl) ?_
                        refine st_val (ro_move (v := .bool _) rfl) ?_
                        refine st_split (t := 161) rfl (fun Q39 => ?_) (fun Q39 => ?_)
                        · (try first | replace Q39 := bn_t Q39 | replace Q39 := bn_f Q39)
                          (try first | replace Q39 := bx_t Q39 | replace Q39 := bx_f Q39 | replace Q39 := be_t Q39 | replace Q39 := be_f Q39 | replace Q39 := of_decide_eq_true Q39 | replace Q39 := of_decide_eq_false Q39)
                          first
                           | (exfalso; first | omega | (simp only [hne] at *; done) | (simp_all; done) | contradiction | (cases Q39; done))
                           | skip
                             refine st_unguard rfl ?_
                             refine st_val (ro_move (v := .int _ _) rfl) ?_
                             refine st_unguard rfl ?_
                             refine st_val (ro_fieldAddr WavBack_f24_1 rfl) ?_
                             refine st_unguard rfl ?_
                             refine st_val (ro_load WavBack_g22 rfl (by first | (first | exact (hP1.from_ From.rfl_).whole | exact (hP1.from_ From.rfl_).rd 0 rfl | exact (hP1.from_ From.rfl_).rd 1 rfl | exact (hP1.from_ From.rfl_).rd 2 rfl) | (first | exact (hk1.from_ From.rfl_).whole | exact (hk1.from_ From.rfl_).rd 0 rfl | exact (hk1.from_ From.rfl_).rd 1 rfl | exact (hk1.from_ From.rfl_).rd 2 rfl))) ?_
                             refine st_unguard rfl ?_
                             refine st_val (ro_len WavBack_l22 rfl) ?_
                             refine st_unguard rfl ?_
                             refine st_val (ro_eql rfl rfl) ?_
                             refine st_val (ro_pickT (v := .bool _) rfl rfl) ?_
                             refine st_val (ro_move (v := .bool _) rfl) ?_
                             refine st_split (t := 168) rfl (fun Q40 => ?_) (fun Q40 => ?_)
                             · (try first | replace Q40 := bn_t Q40 | replace Q40 := bn_f Q40)
                               (try first | replace Q40 := bx_t Q40 | replace Q40 := bx_f Q40 | replace Q40 := be_t Q40 | replace Q40 := be_f Q40 | replace Q40 := of_decide_eq_true Q40 | replace Q40 := of_decide_eq_false Q40)
                               first
                                | (exfalso; first | omega | (simp only [hne] at *; done) | (simp_all; done) | contradiction | (cases Q40; done))
                                | skip
                                  refine st_unguard rfl ?_
                                  refine st_val (ro_move (v := .int _ _) rfl) ?_
                                  refine st_unguard rfl ?_
                                  refine st_val (ro_fieldAddr WavBack_f24_1 rfl) ?_
                                  refine st_unguard rfl ?_
                                  refine st_val (ro_load WavBack_g22 rfl (by first | (first | exact (hP1.from_ From.rfl_).whole | exact (hP1.from_ From.rfl_).rd 0 rfl | exact (hP1.from_ From.rfl_).rd 1 rfl | exact (hP1.from_ From.rfl_).rd 2 rfl) | (first | exact (hk1.from_ From.rfl_).whole | exact (hk1.from_ From.rfl_).rd 0 rfl | exact (hk1.from_ From.rfl_).rd 1 rfl | exact (hk1.from_ From.rfl_).rd 2 rfl))) ?_
                                  refine st_unguard rfl ?_
                                  refine st_val (ro_len WavBack_l22 rfl) ?_
                                  refine st_unguard rfl ?_
                                  refine st_val (ro_eql rfl rfl) ?_
                                  refine st_val (ro_pickT (v := .bool _) rfl rfl) ?_
                                  refine st_val (ro_move (v := .bool _) rfl) ?_
                                  refine st_split (t := 175) rfl (fun Q41 => ?_) (fun Q41 => ?_)
                                  · (try first | replace Q41 := bn_t Q41 | replace Q41 := bn_f Q41)
                                    (try first | replace Q41 := bx_t Q41 | replace Q41 := bx_f Q41 | replace Q41 := be_t Q41 | replace Q41 := be_f Q41 | replace Q41 := of_decide_eq_true Q41 | replace Q41 := of_decide_eq_false Q41)
                                    first
                                     | (exfalso; first | omega | (simp only [hne] at *; done) | (simp_all; done) | contradiction | (cases Q41; done))
                                     | skip
                                       refine st_unguard rfl ?_
                                       refine st_call WavBack_k8 (wakes_any _) ?_
                                       rintro v176 w42 ⟨rfl, E176⟩
                                       refine st_val (ro_pickT (v := .bool _) rfl rfl) ?_
                                       refine st_val (ro_assign (v := .bool _) rfl) ?_
                                       refine st_nil ?_
                                       refine nx_then ?_
                                       refine cd_ret ?_
                                       refine res1 (v := .bool _) rfl rfl ?_
                                       exact ⟨rfl, (hB.next E176)⟩
                                  · (try first | replace Q41 := bn_t Q41 | replace Q41 := bn_f Q41)
                                    (try first | replace Q41 := bx_t Q41 | replace Q41 := bx_f Q41 | replace Q41 := be_t Q41 | replace Q41 := be_f Q41 | replace Q41 := of_decide_eq_true Q41 | replace Q41 := of_decide_eq_false Q41)
                                    first
                                     | (exfalso; first | omega | (simp only [hne] at *; done) | (simp_all; done) | contradiction | (cases Q41; done))
                                     | skip
                                       refine st_gno rfl rfl ?_
                                       refine st_val (ro_pickF (v := .bool _) rfl rfl) ?_
                                       refine st_val (ro_assign (v := .bool _) rfl) ?_
                                       refine st_nil ?_
                                       refine nx_then ?_
                                       refine cd_ret ?_
                                       refine res1 (v := .bool _) rfl rfl ?_
                                       exact ⟨rfl, hB⟩
                             · (try first | replace Q40 := bn_t Q40 | replace Q40 := bn_f Q40)
                               (try first | replace Q40 := bx_t Q40 | replace Q40 := bx_f Q40 | replace Q40 := be_t Q40 | replace Q40 := be_f Q40 | replace Q40 := of_decide_eq_true Q40 | replace Q40 := of_decide_eq_false Q40)
                               first
                                | (exfalso; first | omega | (simp only [hne] at *; done) | (simp_all; done) | contradiction | (cases Q40; done))
                                | skip
                                  refine st_gno rfl rfl ?_
                                  refine st_gno rfl rfl ?_
                                  refine st_gno rfl rfl ?_
                                  refine st_gno rfl rfl ?_
                                  refine st_gno rfl rfl ?_
                                  refine st_val (ro_pickF (v := .bool _) rfl rfl) ?_
                                  refine st_val (ro_move (v := .bool _) rfl) ?_
                                  refine st_gno rfl rfl ?_
                                  refine st_val (ro_pickF (v := .bool _) rfl rfl) ?_
                                  refine st_val (ro_assign (v := .bool _) rfl) ?_
                                  refine st_nil ?_
                                  refine nx_then ?_
                                  refine cd_ret ?_
                                  refine res1 (v := .bool _) rfl rfl ?_
                                  exact ⟨rfl, hB⟩
                        · (try first | replace Q39 := bn_t Q39 | replace Q39 := bn_f Q39)
                          (try first | replace Q39 := bx_t Q39 | replace Q39 := bx_f Q39 | replace Q39 := be_t Q39 | replace Q39 := be_f Q39 | replace Q39 := of_decide_eq_true Q39 | replace Q39 := of_decide_eq_false Q39)
                          first
                           | (exfalso; first | omega | (simp only [hne] at *; done) | (simp_all; done) | contradiction | (cases Q39; done))
                           | skip
                             refine st_gno rfl rfl ?_
                             refine st_gno rfl rfl ?_
                             refine st_gno rfl rfl ?_
                             refine st_gno rfl rfl ?_
                             refine st_gno rfl rfl ?_
                             refine st_val (ro_pickF (v := .bool _) rfl rfl) ?_
                             refine st_val (ro_move (v := .bool _) rfl) ?_
                             refine st_gno rfl rfl ?_
                             refine st_gno rfl rfl ?_
                             refine st_gno rfl rfl ?_
                             refine st_gno rfl rfl ?_
                             refine st_gno rfl rfl ?_
                             refine st_val (ro_pickF (v := .bool _) rfl rfl) ?_
                             refine st_val (ro_move (v := .bool _) rfl) ?_
                             refine st_gno rfl rfl ?_
                             refine st_val (ro_pickF (v := .bool _) rfl rfl) ?_
                             refine st_val (ro_assign (v := .bool _) rfl) ?_
                             refine st_nil ?_
                             refine nx_then ?_
                             refine cd_ret ?_
                             refine res1 (v := .bool _) rfl rfl ?_
                             exact ⟨rfl, hB⟩
            · replace hv := hv.le hz34
              have hxl : xs.length = L.length := by rw [hx, List.length_map]
              obtain ⟨_, _, _, _, _, _, _, _, _, _, hK1, hK2, hlt, hLl⟩ := id hv
              have hall : cntLt L K = L.length := cntLt_all hlt
              refine st_val (ro_move (v := .tuple _) rfl) ?_
              refine st_val (ro_extract rfl rfl) ?_
              refine st_val (ro_extract rfl rfl) ?_
              refine st_val (ro_assign (v := .pointer _) rfl) ?_
              refine st_val (ro_assign (v := .int _ _) rfl) ?_
              refine st_nil ?_
              refine nx_then ?_
              refine cd_seq ?_
              refine cd_seq ?_
              refine cd_region ?_
              refine st_val (ro_move (v := .int _ _) rfl) ?_
              refine st_call WavBack_k13 (num_any _ _) ?_
              rintro v38 w43 ⟨rfl, rfl⟩
              refine st_val (ro_neq rfl rfl) ?_
              refine st_nil ?_
              refine nx_then ?_
              refine cd_cond rfl (fun Q44 => ?_) (fun Q44 => ?_)
              · (try first | replace Q44 := bn_t Q44 | replace Q44 := bn_f Q44)
                (try first | replace Q44 := bx_t Q44 | replace Q44 := bx_f Q44 | replace Q44 := be_t Q44 | replace Q44 := be_f Q44 | replace Q44 := of_decide_eq_true Q44 | replace Q44 := of_decide_eq_false Q44)
                first
                 | (exfalso; first | omega | (simp only [hne] at *; done) | (simp_all; done) | contradiction | (cases Q44; done))
                 | skip
                   refine cd_seq ?_
                   refine cd_region ?_
                   refine st_val (ro_move (v := .pointer _) rfl) ?_
                   refine st_val (ro_eqlNil WavBack_p26 rfl rfl) ?_
                   refine st_val (ro_move (v := .bool _) rfl) ?_
                   refine st_split (t := 42) rfl (fun Q45 => ?_) (fun Q45 => ?_)
                   · (try first | replace Q45 := bn_t Q45 | replace Q45 := bn_f Q45)
                     (try first | replace Q45 := bx_t Q45 | replace Q45 := bx_f Q45 | replace Q45 := be_t Q45 | replace Q45 := be_f Q45 | replace Q45 := of_decide_eq_true Q45 | replace Q45 := of_decide_eq_false Q45)
                     first
                      | (exfalso; first | omega | (simp only [hne] at *; done) | (simp_all; done) | contradiction | (cases Q45; done))
                      | skip
                        refine st_unguard rfl ?_
                        refine st_call WavBack_k8 (wakes_any _) ?_
                        rintro v43 w46 ⟨rfl, E43⟩
                        refine st_val (ro_pickT (v := .bool _) rfl rfl) ?_
                        refine st_val (ro_assign (v := .bool _) rfl) ?_
                        refine st_nil ?_
                        refine nx_then ?_
                        refine cd_ret ?_
                        refine rt_then ?_
                        refine res1 (v := .bool _) rfl rfl ?_
                        exact ⟨rfl, ((((From.rfl_.next E1).next E23).next E34).next E43)⟩
                   · (try first | replace Q45 := bn_t Q45 | replace Q45 := bn_f Q45)
                     (try first | replace Q45 := bx_t Q45 | replace Q45 := bx_f Q45 | replace Q45 := be_t Q45 | replace Q45 := be_f Q45 | replace Q45 := of_decide_eq_true Q45 | replace Q45 := of_decide_eq_false Q45)
                     first
                      | (exfalso; first | omega | (simp only [hne] at *; done) | (simp_all; done) | contradiction | (cases Q45; done))
                      | skip
                        refine st_gno rfl rfl ?_
                        refine st_val (ro_pickF (v := .bool _) rfl rfl) ?_
                        refine st_val (ro_assign (v := .bool _) rfl) ?_
                        refine st_nil ?_
                        refine nx_then ?_
                        refine cd_ret ?_
                        refine rt_then ?_
                        refine res1 (v := .bool _) rfl rfl ?_
                        exact ⟨rfl, (((From.rfl_.next E1).next E23).next E34)⟩
              · (try first | replace Q44 := bn_t Q44 | replace Q44 := bn_f Q44)
                (try first | replace Q44 := bx_t Q44 | replace Q44 := bx_f Q44 | replace Q44 := be_t Q44 | replace Q44 := be_f Q44 | replace Q44 := of_decide_eq_true Q44 | replace Q44 := of_decide_eq_false Q44)
                first
                 | (exfalso; first | omega | (simp only [hne] at *; done) | (simp_all; done) | contradiction | (cases Q44; done))
                 | skip
                   refine cd_skip ?_
                   refine nx_then ?_
                   refine cd_seq ?_
                   refine cd_region ?_
                   refine st_val (ro_assign (v := .int _ _) rfl) ?_
                   refine st_nil ?_
                   refine nx_then ?_
                   refine cd_seq ?_
                   refine cd_seq ?_
                   refine cd_region ?_
                   refine st_val (ro_assign (v := .int _ _) rfl) ?_
                   refine st_nil ?_
                   refine nx_then ?_
                   refine cd_block ?_
                   refine cd_loop (G := Nat) [2, 7, 8, 9, 10, 11, 12, 13, 14, 15, 16, 17, 18, 19, 45, 46, 47, 48, 49, 50, 51, 52, 53, 54, 55, 56, 57, 58, 59, 60, 61, 62, 63, 64, 65, 66, 67, 68, 69, 70, 71, 72, 73, 74, 75, 76, 77, 78, 79, 80, 81, 82, 83, 84, 85, 86, 87, 88, 89, 90, 91, 92, 93, 94, 95, 96, 97, 98, 99, 100, 101, 102, 103, 104, 105, 106, 107, 108, 109, 110, 111, 112, 113, 114, 115, 116, 117, 118, 119, 120, 121, 122, 123, 124, 125, 126, 127, 128, 129, 130, 131, 132, 133, 134, 135, 136, 137, 138, 139, 140, 141, 142, 143, 144, 145, 146, 147, 148, 149, 150] (fun c => [(5, .int .i64 (cntLt L c : Nat)), (6, .int .i64 (c : Nat))]) (fun c w' => c ≤ K ∧ TreeAt w' w.heap.size b K L ∧ Blk w' b1 24 #[.int .i64 (K : Nat), .slice A xs.length ca, .slice B is.length cb] ∧ From w w') (fun c => K - c) (0) ⟨(int_eq (by simp [cntLt])), rfl, trivial⟩ ?_ ?_
                   · exact ⟨Nat.zero_le _, hv.from_ From.rfl_, hk1.from_ From.rfl_, (((From.rfl_.next E1).next E23).next E34)⟩
                   rintro c ρ47 w47 ⟨hc, hv, hP1, hB⟩
                   refine cd_seq ?_
                   refine cd_seq ?_
                   refine cd_region ?_
                   refine st_val (ro_move (v := .int _ _) rfl) ?_
                   refine st_val (ro_fieldAddr WavBack_f24_0 rfl) ?_
                   refine st_val (ro_load WavBack_g3 rfl (by first | (first | exact (hP1.from_ From.rfl_).whole | exact (hP1.from_ From.rfl_).rd 0 rfl | exact (hP1.from_ From.rfl_).rd 1 rfl | exact (hP1.from_ From.rfl_).rd 2 rfl) | (first | exact (hk1.from_ From.rfl_).whole | exact (hk1.from_ From.rfl_).rd 0 rfl | exact (hk1.from_ From.rfl_).rd 1 rfl | exact (hk1.from_ From.rfl_).rd 2 rfl))) ?_
                   refine st_val (ro_lss rfl rfl) ?_
                   refine st_nil ?_
                   refine nx_then ?_
                   refine cd_cond rfl (fun Q48 => ?_) (fun Q48 => ?_)
                   · (try first | replace Q48 := bn_t Q48 | replace Q48 := bn_f Q48)
                     (try first | replace Q48 := bx_t Q48 | replace Q48 := bx_f Q48 | replace Q48 := be_t Q48 | replace Q48 := be_f Q48 | replace Q48 := of_decide_eq_true Q48 | replace Q48 := of_decide_eq_false Q48)
                     have hcK : c < K := by omega
                     have hcl : cntLt L c ≤ L.length := List.countP_le_length
                     have hcn : cntC L c L.length ≤ L.length := Nat.le_trans List.countP_le_length (List.length_take_le _ _)
                     have hx300 : xs.length ≤ 300 := by omega
                     first
                      | (exfalso; first | omega | (simp only [hne] at *; done) | (simp_all; done) | contradiction | (cases Q48; done))
                      | skip
                        refine cd_skip ?_
                        refine nx_then ?_
                        refine cd_seq ?_
                        refine cd_block ?_
                        refine cd_seq ?_
                        refine cd_region ?_
                        refine st_val (ro_move (v := .pointer _) rfl) ?_
                        refine st_val (ro_move (v := .int _ _) rfl) ?_
                        refine st_call WavBack_k14 (less_at _ b K L _ (hv.from_ From.rfl_) c (by omega)) ?_
                        rintro v54 w49 ⟨rfl, rfl⟩
                        refine st_val (ro_move (v := .tuple _) rfl) ?_
                        refine st_val (ro_extract rfl rfl) ?_
                        refine st_val (ro_extract rfl rfl) ?_
                        refine st_val (ro_assign (v := .int _ _) rfl) ?_
                        refine st_val (ro_assign (v := .int _ _) rfl) ?_
                        refine st_nil ?_
                        refine nx_then ?_
                        refine cd_seq ?_
                        refine cd_region ?_
                        refine st_val (ro_move (v := .pointer _) rfl) ?_
                        refine st_val (ro_move (v := .int _ _) rfl) ?_
                        refine st_val (ro_fieldAddr WavBack_f24_1 rfl) ?_
                        refine st_val (ro_load WavBack_g22 rfl (by first | (first | exact (hP1.from_ From.rfl_).whole | exact (hP1.from_ From.rfl_).rd 0 rfl | exact (hP1.from_ From.rfl_).rd 1 rfl | exact (hP1.from_ From.rfl_).rd 2 rfl) | (first | exact (hk1.from_ From.rfl_).whole | exact (hk1.from_ From.rfl_).rd 0 rfl | exact (hk1.from_ From.rfl_).rd 1 rfl | exact (hk1.from_ From.rfl_).rd 2 rfl))) ?_
                        refine st_val (ro_len WavBack_l22 rfl) ?_
                        refine st_call WavBack_k15 (rank_at _ b K L _ (hv.from_ From.rfl_) c xs.length (cntC L c L.length) (by omega) (by omega) (by rw [hxl])) ?_
                        rintro v63 w50 ⟨rfl, E63⟩
                        refine st_val (ro_move (v := .tuple _) rfl) ?_
                        refine st_val (ro_extract rfl rfl) ?_
                        refine st_val (ro_extract rfl rfl) ?_
                        refine st_val (ro_assign (v := .int _ _) rfl) ?_
                        refine st_val (ro_assign (v := .int _ _) rfl) ?_
                        refine st_nil ?_
                        refine nx_then ?_
                        refine cd_seq ?_
                        refine cd_seq ?_
                        refine cd_region ?_
                        refine st_val (ro_move (v := .int _ _) rfl) ?_
                        refine st_call WavBack_k13 (num_any _ _) ?_
                        rintro v67 w51 ⟨rfl, rfl⟩
                        refine st_val (ro_neq rfl rfl) ?_
                        refine st_val (ro_move (v := .bool _) rfl) ?_
                        refine st_split (t := 69) rfl (fun Q52 => ?_) (fun Q52 => ?_)
                        · (try first | replace Q52 := bn_t Q52 | replace Q52 := bn_f Q52)
                          (try first | replace Q52 := bx_t Q52 | replace Q52 := bx_f Q52 | replace Q52 := be_t Q52 | replace Q52 := be_f Q52 | replace Q52 := of_decide_eq_true Q52 | replace Q52 := of_decide_eq_false Q52)
                          first
                           | (exfalso; first | omega | (simp only [hne] at *; done) | (simp_all; done) | contradiction | (cases Q52; done))
                           | skip
                             refine st_gno rfl rfl ?_
                             refine st_gno rfl rfl ?_
                             refine st_gno rfl rfl ?_
                             refine st_val (ro_pickT (v := .bool _) rfl rfl) ?_
                             refine st_val (ro_move (v := .bool _) rfl) ?_
                             refine st_gno rfl rfl ?_
                             refine st_gno rfl rfl ?_
                             refine st_gno rfl rfl ?_
                             refine st_val (ro_pickT (v := .bool _) rfl rfl) ?_
                             refine st_val (ro_move (v := .bool _) rfl) ?_
                             refine st_gno rfl rfl ?_
                             refine st_gno rfl rfl ?_
                             refine st_val (ro_pickT (v := .bool _) rfl rfl) ?_
                             refine st_val (ro_move (v := .bool _) rfl) ?_
                             refine st_gno rfl rfl ?_
                             refine st_gno rfl rfl ?_
                             refine st_gno rfl rfl ?_
                             refine st_gno rfl rfl ?_
                             refine st_gno rfl rfl ?_
                             refine st_val (ro_pickT (v := .bool _) rfl rfl) ?_
                             refine st_nil ?_
                             refine nx_then ?_
                             refine cd_condT rfl ?_
                             refine cd_seq ?_
                             refine cd_region ?_
                             refine st_val (ro_assign (v := .bool _) rfl) ?_
                             refine st_nil ?_
                             refine nx_then ?_
                             refine cd_ret ?_
                             refine rt_then ?_
                             refine rt_block ?_
                             refine rt_then ?_
                             refine rt_then ?_
                             refine rt_block ?_
                             refine rt_then ?_
                             refine res1 (v := .bool _) rfl rfl ?_
                             exact ⟨rfl, (hB.next E63)⟩
                        · (try first | replace Q52 := bn_t Q52 | replace Q52 := bn_f Q52)
                          (try first | replace Q52 := bx_t Q52 | replace Q52 := bx_f Q52 | replace Q52 := be_t Q52 | replace Q52 := be_f Q52 | replace Q52 := of_decide_eq_true Q52 | replace Q52 := of_decide_eq_false Q52)
                          first
                           | (exfalso; first | omega | (simp only [hne] at *; done) | (simp_all; done) | contradiction | (cases Q52; done))
                           | skip
                             refine st_unguard rfl ?_
                             refine st_val (ro_move (v := .int _ _) rfl) ?_
                             refine st_unguard rfl ?_
                             refine st_call WavBack_k13 (num_any _ _) ?_
                             rintro v71 w53 ⟨rfl, rfl⟩
                             refine st_unguard rfl ?_
                             refine st_val (ro_neq rfl rfl) ?_
                             refine st_val (ro_pickF (v := .bool _) rfl rfl) ?_
                             refine st_val (ro_move (v := .bool _) rfl) ?_
                             refine st_split (t := 74) rfl (fun Q54 => ?_) (fun Q54 => ?_)
                             · (try first | replace Q54 := bn_t Q54 | replace Q54 := bn_f Q54)
                               (try first | replace Q54 := bx_t Q54 | replace Q54 := bx_f Q54 | replace Q54 := be_t Q54 | replace Q54 := be_f Q54 | replace Q54 := of_decide_eq_true Q54 | replace Q54 := of_decide_eq_false Q54)
                               first
                                | (exfalso; first | omega | (simp only [hne] at *; done) | (simp_all; done) | contradiction | (cases Q54; done))
                                | skip
                                  refine st_gno rfl rfl ?_
                                  refine st_gno rfl rfl ?_
                                  refine st_gno rfl rfl ?_
                                  refine st_val (ro_pickT (v := .bool _) rfl rfl) ?_
                                  refine st_val (ro_move (v := .bool _) rfl) ?_
                                  refine st_gno rfl rfl ?_
                                  refine st_gno rfl rfl ?_
                                  refine st_val (ro_pickT (v := .bool _) rfl rfl) ?_
                                  refine st_val (ro_move (v := .bool _) rfl) ?_
                                  refine st_gno rfl rfl ?_
                                  refine st_gno rfl rfl ?_
                                  refine st_gno rfl rfl ?_
                                  refine st_gno rfl rfl ?_
                                  refine st_gno rfl rfl ?_
                                  refine st_val (ro_pickT (v := .bool _) rfl rfl) ?_
                                  refine st_nil ?_
                                  refine nx_then ?_
                                  refine cd_condT rfl ?_
                                  refine cd_seq ?_
                                  refine cd_region ?_
                                  refine st_val (ro_assign (v := .bool _) rfl) ?_
                                  refine st_nil ?_
                                  refine nx_then ?_
                                  refine cd_ret ?_
                                  refine rt_then ?_
                                  refine rt_block ?_
                                  refine rt_then ?_
                                  refine rt_then ?_
                                  refine rt_block ?_
                                  refine rt_then ?_
                                  refine res1 (v := .bool _) rfl rfl ?_
                                  exact ⟨rfl, (hB.next E63)⟩
                             · (try first | replace Q54 := bn_t Q54 | replace Q54 := bn_f Q54)
                               (try first | replace Q54 := bx_t Q54 | replace Q54 := bx_f Q54 | replace Q54 := be_t Q54 | replace Q54 := be_f Q54 | replace Q54 := of_decide_eq_true Q54 | replace Q54 := of_decide_eq_false Q54)
                               first
                                | (exfalso; first | omega | (simp only [hne] at *; done) | (simp_all; done) | contradiction | (cases Q54; done))
                                | skip
                                  refine st_unguard rfl ?_
                                  refine st_val (ro_move (v := .int _ _) rfl) ?_
                                  refine st_unguard rfl ?_
                                  refine st_val (ro_move (v := .int _ _) rfl) ?_
                                  refine st_unguard rfl ?_
                                  refine st_val (ro_neq rfl rfl) ?_
                                  refine st_val (ro_pickF (v := .bool _) rfl rfl) ?_
                                  refine st_val (ro_move (v := .bool _) rfl) ?_
                                  refine st_split (t := 79) rfl (fun Q55 => ?_) (fun Q55 => ?_)
                                  · (try first | replace Q55 := bn_t Q55 | replace Q55 := bn_f Q55)
                                    (try first | replace Q55 := bx_t Q55 | replace Q55 := bx_f Q55 | replace Q55 := be_t Q55 | replace Q55 := be_f Q55 | replace Q55 := of_decide_eq_true Q55 | replace Q55 := of_decide_eq_false Q55)
                                    first
                                     | (exfalso; first | omega | (simp only [hne] at *; done) | (simp_all; done) | contradiction | (cases Q55; done))
                                     | skip
                                       refine st_gno rfl rfl ?_
                                       refine st_gno rfl rfl ?_
                                       refine st_val (ro_pickT (v := .bool _) rfl rfl) ?_
                                       refine st_val (ro_move (v := .bool _) rfl) ?_
                                       refine st_gno rfl rfl ?_
                                       refine st_gno rfl rfl ?_
                                       refine st_gno rfl rfl ?_
                                       refine st_gno rfl rfl ?_
                                       refine st_gno rfl rfl ?_
                                       refine st_val (ro_pickT (v := .bool _) rfl rfl) ?_
                                       refine st_nil ?_
                                       refine nx_then ?_
                                       refine cd_condT rfl ?_
                                       refine cd_seq ?_
                                       refine cd_region ?_
                                       refine st_val (ro_assign (v := .bool _) rfl) ?_
                                       refine st_nil ?_
                                       refine nx_then ?_
                                       refine cd_ret ?_
                                       refine rt_then ?_
                                       refine rt_block ?_
                                       refine rt_then ?_
                                       refine rt_then ?_
                                       refine rt_block ?_
                                       refine rt_then ?_
                                       refine res1 (v := .bool _) rfl rfl ?_
                                       exact ⟨rfl, (hB.next E63)⟩
                                  · (try first | replace Q55 := bn_t Q55 | replace Q55 := bn_f Q55)
                                    (try first | replace Q55 := bx_t Q55 | replace Q55 := bx_f Q55 | replace Q55 := be_t Q55 | replace Q55 := be_f Q55 | replace Q55 := of_decide_eq_true Q55 | replace Q55 := of_decide_eq_false Q55)
                                    first
                                     | (exfalso; first | omega | (simp only [hne] at *; done) | (simp_all; done) | contradiction | (cases Q55; done))
                                     | skip
                                       refine st_unguard rfl ?_
                                       refine st_val (ro_move (v := .int _ _) rfl) ?_
                                       refine st_unguard rfl ?_
                                       refine st_val (ro_lss rfl rfl) ?_
                                       refine st_val (ro_pickF (v := .bool _) rfl rfl) ?_
                                       refine st_val (ro_move (v := .bool _) rfl) ?_
                                       refine st_split (t := 83) rfl (fun Q56 => ?_) (fun Q56 => ?_)
                                       · (try first | replace Q56 := bn_t Q56 | replace Q56 := bn_f Q56)
                                         (try first | replace Q56 := bx_t Q56 | replace Q56 := bx_f Q56 | replace Q56 := be_t Q56 | replace Q56 := be_f Q56 | replace Q56 := of_decide_eq_true Q56 | replace Q56 := of_decide_eq_false Q56)
                                         first
                                          | (exfalso; first | omega | (simp only [hne] at *; done) | (simp_all; done) | contradiction | (cases Q56; done))
                                          | skip
                                            refine st_gno rfl rfl ?_
                                            refine st_gno rfl rfl ?_
                                            refine st_gno rfl rfl ?_
                                            refine st_gno rfl rfl ?_
                                            refine st_gno rfl rfl ?_
                                            refine st_val (ro_pickT (v := .bool _) rfl rfl) ?_
                                            refine st_nil ?_
                                            refine nx_then ?_
                                            refine cd_condT rfl ?_
                                            refine cd_seq ?_
                                            refine cd_region ?_
                                            refine st_val (ro_assign (v := .bool _) rfl) ?_
                                            refine st_nil ?_
                                            refine nx_then ?_
                                            refine cd_ret ?_
                                            refine rt_then ?_
                                            refine rt_block ?_
                                            refine rt_then ?_
                                            refine rt_then ?_
                                            refine rt_block ?_
                                            refine rt_then ?_
                                            refine res1 (v := .bool _) rfl rfl ?_
                                            exact ⟨rfl, (hB.next E63)⟩
                                       · (try first | replace Q56 := bn_t Q56 | replace Q56 := bn_f Q56)
                                         (try first | replace Q56 := bx_t Q56 | replace Q56 := bx_f Q56 | replace Q56 := be_t Q56 | replace Q56 := be_f Q56 | replace Q56 := of_decide_eq_true Q56 | replace Q56 := of_decide_eq_false Q56)
                                         first
                                          | (exfalso; first | omega | (simp only [hne] at *; done) | (simp_all; done) | contradiction | (cases Q56; done))
                                          | skip
                                            refine st_unguard rfl ?_
                                            refine st_val (ro_move (v := .int _ _) rfl) ?_
                                            refine st_unguard rfl ?_
                                            refine st_val (ro_fieldAddr WavBack_f24_1 rfl) ?_
                                            refine st_unguard rfl ?_
                                            refine st_val (ro_load WavBack_g22 rfl (by first | (first | exact (hP1.from_ (From.rfl_.next E63)).whole | exact (hP1.from_ (From.rfl_.next E63)).rd 0 rfl | exact (hP1.from_ (From.rfl_.next E63)).rd 1 rfl | exact (hP1.from_ (From.rfl_.next E63)).rd 2 rfl) | (first | exact (hk1.from_ (From.rfl_.next E63)).whole | exact (hk1.from_ (From.rfl_.next E63)).rd 0 rfl | exact (hk1.from_ (From.rfl_.next E63)).rd 1 rfl | exact (hk1.from_ (From.rfl_.next E63)).rd 2 rfl))) ?_
                                            refine st_unguard rfl ?_
                                            refine st_val (ro_len WavBack_l22 rfl) ?_
                                            refine st_unguard rfl ?_
                                            refine st_val (ro_gtr rfl rfl) ?_
                                            refine st_val (ro_pickF (v := .bool _) rfl rfl) ?_
                                            refine st_nil ?_
                                            refine nx_then ?_
                                            refine cd_cond rfl (fun Q57 => ?_) (fun Q57 => ?_)
                                            · (try first | replace Q57 := bn_t Q57 | replace Q57 := bn_f Q57)
                                              (try first | replace Q57 := bx_t Q57 | replace Q57 := bx_f Q57 | replace Q57 := be_t Q57 | replace Q57 := be_f Q57 | replace Q57 := of_decide_eq_true Q57 | replace Q57 := of_decide_eq_false Q57)
                                              first
                                               | (exfalso; first | omega | (simp only [hne] at *; done) | (simp_all; done) | contradiction | (cases Q57; done))
                                               | skip
                                                 refine cd_seq ?_
                                                 refine cd_region ?_
                                                 refine st_val (ro_assign (v := .bool _) rfl) ?_
                                                 refine st_nil ?_
                                                 refine nx_then ?_
                                                 refine cd_ret ?_
                                                 refine rt_then ?_
                                                 refine rt_block ?_
                                                 refine rt_then ?_
                                                 refine rt_then ?_
                                                 refine rt_block ?_
                                                 refine rt_then ?_
                                                 refine res1 (v := .bool _) rfl rfl ?_
                                                 exact ⟨rfl, (hB.next E63)⟩
                                            · (try first | replace Q57 := bn_t Q57 | replace Q57 := bn_f Q57)
                                              (try first | replace Q57 := bx_t Q57 | replace Q57 := bx_f Q57 | replace Q57 := be_t Q57 | replace Q57 := be_f Q57 | replace Q57 := of_decide_eq_true Q57 | replace Q57 := of_decide_eq_false Q57)
                                              first
                                               | (exfalso; first | omega | (simp only [hne] at *; done) | (simp_all; done) | contradiction | (cases Q57; done))
                                               | skip
                                                 refine cd_skip ?_
                                                 refine nx_then ?_
                                                 refine cd_seq ?_
                                                 refine cd_region ?_
                                                 refine st_val (ro_move (v := .int _ _) rfl) ?_
                                                 refine st_val (ro_move (v := .int _ _) rfl) ?_
                                                 refine st_val (ro_addN rfl rfl (by omega)) ?_
                                                 refine st_val (ro_assign (v := .int _ _) rfl) ?_
                                                 refine st_nil ?_
                                                 refine nx_then ?_
                                                 refine cd_seq ?_
                                                 refine cd_seq ?_
                                                 refine cd_region ?_
                                                 refine st_val (ro_assign (v := .int _ _) rfl) ?_
                                                 refine st_nil ?_
                                                 refine nx_then ?_
                                                 refine cd_block ?_
                                                 refine cd_loop (G := Nat) [2, 12, 13, 14, 15, 16, 17, 93, 94, 95, 96, 97, 98, 99, 100, 101, 102, 103, 104, 105, 106, 107, 108, 109, 110, 111, 112, 113, 114, 115, 116, 117, 118, 119, 120, 121, 122, 123, 124, 125, 126, 127, 128, 129, 130, 131, 132, 133, 134, 135, 136, 137, 138, 139, 140] (fun j => [(11, .int .i64 (j : Nat))]) (fun j w' => j ≤ cntC L c L.length ∧ TreeAt w' w.heap.size b K L ∧ Blk w' b1 24 #[.int .i64 (K : Nat), .slice A xs.length ca, .slice B is.length cb] ∧ From w w') (fun j => cntC L c L.length - j) (0) ⟨rfl, trivial⟩ ?_ ?_
                                                 · exact ⟨Nat.zero_le _, hv.from_ (From.rfl_.next E63), hP1.from_ (From.rfl_.next E63), (hB.next E63)⟩
                                                 rintro j ρ58 w58 ⟨hj, hv, hP1, hB⟩
                                                 refine cd_seq ?_
                                                 refine cd_seq ?_
                                                 refine cd_region ?_
                                                 refine st_val (ro_move (v := .int _ _) rfl) ?_
                                                 refine st_val (ro_move (v := .int _ _) rfl) ?_
                                                 refine st_val (ro_lss rfl rfl) ?_
                                                 refine st_nil ?_
                                                 refine nx_then ?_
                                                 refine cd_cond rfl (fun Q59 => ?_) (fun Q59 => ?_)
                                                 · (try first | replace Q59 := bn_t Q59 | replace Q59 := bn_f Q59)
                                                   (try first | replace Q59 := bx_t Q59 | replace Q59 := bx_f Q59 | replace Q59 := be_t Q59 | replace Q59 := be_f Q59 | replace Q59 := of_decide_eq_true Q59 | replace Q59 := of_decide_eq_false Q59)
                                                   first
                                                    | (exfalso; first | omega | (simp only [hne] at *; done) | (simp_all; done) | contradiction | (cases Q59; done))
                                                    | skip
                                                      refine cd_skip ?_
                                                      refine nx_then ?_
                                                      refine cd_seq ?_
                                                      refine cd_block ?_
                                                      refine cd_seq ?_
                                                      refine cd_region ?_
                                                      refine st_val (ro_move (v := .pointer _) rfl) ?_
                                                      refine st_val (ro_move (v := .int _ _) rfl) ?_
                                                      refine st_val (ro_move (v := .int _ _) rfl) ?_
                                                      refine st_call WavBack_k10 (sel_at _ b K L _ (hv.from_ From.rfl_) (hTZ.from_ hB) c j (by omega) (by omega)) ?_
                                                      rintro v102 w60 ⟨q, hq, rfl, hqc, hqj, E102⟩
                                                      refine st_val (ro_move (v := .tuple _) rfl) ?_
                                                      refine st_val (ro_extract rfl rfl) ?_
                                                      refine st_val (ro_extract rfl rfl) ?_
                                                      refine st_val (ro_assign (v := .int _ _) rfl) ?_
                                                      refine st_val (ro_assign (v := .int _ _) rfl) ?_
                                                      refine st_nil ?_
                                                      refine nx_then ?_
                                                      refine cd_seq ?_
                                                      refine cd_region ?_
                                                      refine st_val (ro_move (v := .pointer _) rfl) ?_
                                                      refine st_val (ro_move (v := .int _ _) rfl) ?_
                                                      refine st_val (ro_move (v := .int _ _) rfl) ?_
                                                      refine st_call WavBack_k15 (rank_at _ b K L _ (hv.from_ (From.rfl_.next E102)) c q j (by omega) (by omega) hqj) ?_
                                                      rintro v109 w61 ⟨rfl, E109⟩
                                                      refine st_val (ro_move (v := .tuple _) rfl) ?_
                                                      refine st_val (ro_extract rfl rfl) ?_
                                                      refine st_val (ro_extract rfl rfl) ?_
                                                      refine st_val (ro_assign (v := .int _ _) rfl) ?_
                                                      refine st_val (ro_assign (v := .int _ _) rfl) ?_
                                                      refine st_nil ?_
                                                      refine nx_then ?_
                                                      refine cd_seq ?_
                                                      refine cd_region ?_
                                                      refine st_val (ro_move (v := .pointer _) rfl) ?_
                                                      refine st_val (ro_move (v := .int _ _) rfl) ?_
                                                      refine st_call WavBack_k16 (access_at _ b K L _ (hv.from_ ((From.rfl_.next E102).next E109)) q c hq hqc) ?_
                                                      rintro v115 w62 ⟨rfl, E115⟩
                                                      refine st_val (ro_move (v := .tuple _) rfl) ?_
                                                      refine st_val (ro_extract rfl rfl) ?_
                                                      refine st_val (ro_extract rfl rfl) ?_
                                                      refine st_val (ro_assign (v := .int _ _) rfl) ?_
                                                      refine st_val (ro_assign (v := .int _ _) rfl) ?_
                                                      refine st_nil ?_
                                                      refine nx_then ?_
                                                      refine cd_seq ?_
                                                      refine cd_region ?_
                                                      refine st_val (ro_move (v := .int _ _) rfl) ?_
                                                      refine st_call WavBack_k13 (num_any _ _) ?_
                                                      rintro v119 w63 ⟨rfl, rfl⟩
                                                      refine st_val (ro_neq rfl rfl) ?_
                                                      refine st_val (ro_move (v := .bool _) rfl) ?_
                                                      refine st_split (t := 121) rfl (fun Q64 => ?_) (fun Q64 => ?_)
                                                      · (try first | replace Q64 := bn_t Q64 | replace Q64 := bn_f Q64)
                                                        (try first | replace Q64 := bx_t Q64 | replace Q64 := bx_f Q64 | replace Q64 := be_t Q64 | replace Q64 := be_f Q64 | replace Q64 := of_decide_eq_true Q64 | replace Q64 := of_decide_eq_false Q64)
                                                        first
                                                         | (exfalso; first | omega | (simp only [hne] at *; done) | (simp_all; done) | contradiction | (cases Q64; done))
                                                         | skip
                                                           refine st_gno rfl rfl ?_
                                                           refine st_gno rfl rfl ?_
                                                           refine st_gno rfl rfl ?_
                                                           refine st_val (ro_pickT (v := .bool _) rfl rfl) ?_
                                                           refine st_val (ro_move (v := .bool _) rfl) ?_
                                                           refine st_gno rfl rfl ?_
                                                           refine st_gno rfl rfl ?_
                                                           refine st_gno rfl rfl ?_
                                                           refine st_val (ro_pickT (v := .bool _) rfl rfl) ?_
                                                           refine st_val (ro_move (v := .bool _) rfl) ?_
                                                           refine st_gno rfl rfl ?_
                                                           refine st_gno rfl rfl ?_
                                                           refine st_gno rfl rfl ?_
                                                           refine st_val (ro_pickT (v := .bool _) rfl rfl) ?_
                                                           refine st_val (ro_move (v := .bool _) rfl) ?_
                                                           refine st_gno rfl rfl ?_
                                                           refine st_gno rfl rfl ?_
                                                           refine st_gno rfl rfl ?_
                                                           refine st_val (ro_pickT (v := .bool _) rfl rfl) ?_
                                                           refine st_nil ?_
                                                           refine nx_then ?_
                                                           refine cd_condT rfl ?_
                                                           refine cd_seq ?_
                                                           refine cd_region ?_
                                                           refine st_val (ro_assign (v := .bool _) rfl) ?_
                                                           refine st_nil ?_
                                                           refine nx_then ?_
                                                           refine cd_ret ?_
                                                           refine rt_block ?_
                                                           refine rt_then ?_
                                                           refine rt_then ?_
                                                           refine rt_block ?_
                                                           refine rt_then ?_
                                                           refine rt_block ?_
                                                           refine rt_then ?_
                                                           refine rt_then ?_
                                                           refine rt_block ?_
                                                           refine rt_then ?_
                                                           refine res1 (v := .bool _) rfl rfl ?_
                                                           exact ⟨rfl, (((hB.next E102).next E109).next E115)⟩
                                                      · (try first | replace Q64 := bn_t Q64 | replace Q64 := bn_f Q64)
                                                        (try first | replace Q64 := bx_t Q64 | replace Q64 := bx_f Q64 | replace Q64 := be_t Q64 | replace Q64 := be_f Q64 | replace Q64 := of_decide_eq_true Q64 | replace Q64 := of_decide_eq_false Q64)
                                                        first
                                                         | (exfalso; first | omega | (simp only [hne] at *; done) | (simp_all; done) | contradiction | (cases Q64; done))
                                                         | skip
                                                           refine st_unguard rfl ?_
                                                           refine st_val (ro_move (v := .int _ _) rfl) ?_
                                                           refine st_unguard rfl ?_
                                                           refine st_call WavBack_k13 (num_any _ _) ?_
                                                           rintro v123 w65 ⟨rfl, rfl⟩
                                                           refine st_unguard rfl ?_
                                                           refine st_val (ro_neq rfl rfl) ?_
                                                           refine st_val (ro_pickF (v := .bool _) rfl rfl) ?_
                                                           refine st_val (ro_move (v := .bool _) rfl) ?_
                                                           refine st_split (t := 126) rfl (fun Q66 => ?_) (fun Q66 => ?_)
                                                           · (try first | replace Q66 := bn_t Q66 | replace Q66 := bn_f Q66)
                                                             (try first | replace Q66 := bx_t Q66 | replace Q66 := bx_f Q66 | replace Q66 := be_t Q66 | replace Q66 := be_f Q66 | replace Q66 := of_decide_eq_true Q66 | replace Q66 := of_decide_eq_false Q66)
                                                             first
                                                              | (exfalso; first | omega | (simp only [hne] at *; done) | (simp_all; done) | contradiction | (cases Q66; done))
                                                              | skip
                                                                refine st_gno rfl rfl ?_
                                                                refine st_gno rfl rfl ?_
                                                                refine st_gno rfl rfl ?_
                                                                refine st_val (ro_pickT (v := .bool _) rfl rfl) ?_
                                                                refine st_val (ro_move (v := .bool _) rfl) ?_
                                                                refine st_gno rfl rfl ?_
                                                                refine st_gno rfl rfl ?_
                                                                refine st_gno rfl rfl ?_
                                                                refine st_val (ro_pickT (v := .bool _) rfl rfl) ?_
                                                                refine st_val (ro_move (v := .bool _) rfl) ?_
                                                                refine st_gno rfl rfl ?_
                                                                refine st_gno rfl rfl ?_
                                                                refine st_gno rfl rfl ?_
                                                                refine st_val (ro_pickT (v := .bool _) rfl rfl) ?_
                                                                refine st_nil ?_
                                                                refine nx_then ?_
                                                                refine cd_condT rfl ?_
                                                                refine cd_seq ?_
                                                                refine cd_region ?_
                                                                refine st_val (ro_assign (v := .bool _) rfl) ?_
                                                                refine st_nil ?_
                                                                refine nx_then ?_
                                                                refine cd_ret ?_
                                                                refine rt_block ?_
                                                                refine rt_then ?_
                                                                refine rt_then ?_
                                                                refine rt_block ?_
                                                                refine rt_then ?_
                                                                refine rt_block ?_
                                                                refine rt_then ?_
                                                                refine rt_then ?_
                                                                refine rt_block ?_
                                                                refine rt_then ?_
                                                                refine res1 (v := .bool _) rfl rfl ?_
                                                                exact ⟨rfl, (((hB.next E102).next E109).next E115)⟩
                                                           · (try first | replace Q66 := bn_t Q66 | replace Q66 := bn_f Q66)
                                                             (try first | replace Q66 := bx_t Q66 | replace Q66 := bx_f Q66 | replace Q66 := be_t Q66 | replace Q66 := be_f Q66 | replace Q66 := of_decide_eq_true Q66 | replace Q66 := of_decide_eq_false Q66)
                                                             first
                                                              | (exfalso; first | omega | (simp only [hne] at *; done) | (simp_all; done) | contradiction | (cases Q66; done))
                                                              | skip
                                                                refine st_unguard rfl ?_
                                                                refine st_val (ro_move (v := .int _ _) rfl) ?_
                                                                refine st_unguard rfl ?_
                                                                refine st_call WavBack_k13 (num_any _ _) ?_
                                                                rintro v128 w67 ⟨rfl, rfl⟩
                                                                refine st_unguard rfl ?_
                                                                refine st_val (ro_neq rfl rfl) ?_
                                                                refine st_val (ro_pickF (v := .bool _) rfl rfl) ?_
                                                                refine st_val (ro_move (v := .bool _) rfl) ?_
                                                                refine st_split (t := 131) rfl (fun Q68 => ?_) (fun Q68 => ?_)
                                                                · (try first | replace Q68 := bn_t Q68 | replace Q68 := bn_f Q68)
                                                                  (try first | replace Q68 := bx_t Q68 | replace Q68 := bx_f Q68 | replace Q68 := be_t Q68 | replace Q68 := be_f Q68 | replace Q68 := of_decide_eq_true Q68 | replace Q68 := of_decide_eq_false Q68)
                                                                  first
                                                                   | (exfalso; first | omega | (simp only [hne] at *; done) | (simp_all; done) | contradiction | (cases Q68; done))
                                                                   | skip
                                                                     refine st_gno rfl rfl ?_
                                                                     refine st_gno rfl rfl ?_
                                                                     refine st_gno rfl rfl ?_
                                                                     refine st_val (ro_pickT (v := .bool _) rfl rfl) ?_
                                                                     refine st_val (ro_move (v := .bool _) rfl) ?_
                                                                     refine st_gno rfl rfl ?_
                                                                     refine st_gno rfl rfl ?_
                                                                     refine st_gno rfl rfl ?_
                                                                     refine st_val (ro_pickT (v := .bool _) rfl rfl) ?_
                                                                     refine st_nil ?_
                                                                     refine nx_then ?_
                                                                     refine cd_condT rfl ?_
                                                                     refine cd_seq ?_
                                                                     refine cd_region ?_
                                                                     refine st_val (ro_assign (v := .bool _) rfl) ?_
                                                                     refine st_nil ?_
                                                                     refine nx_then ?_
                                                                     refine cd_ret ?_
                                                                     refine rt_block ?_
                                                                     refine rt_then ?_
                                                                     refine rt_then ?_
                                                                     refine rt_block ?_
                                                                     refine rt_then ?_
                                                                     refine rt_block ?_
                                                                     refine rt_then ?_
                                                                     refine rt_then ?_
                                                                     refine rt_block ?_
                                                                     refine rt_then ?_
                                                                     refine res1 (v := .bool _) rfl rfl ?_
                                                                     exact ⟨rfl, (((hB.next E102).next E109).next E115)⟩
                                                                · (try first | replace Q68 := bn_t Q68 | replace Q68 := bn_f Q68)
                                                                  (try first | replace Q68 := bx_t Q68 | replace Q68 := bx_f Q68 | replace Q68 := be_t Q68 | replace Q68 := be_f Q68 | replace Q68 := of_decide_eq_true Q68 | replace Q68 := of_decide_eq_false Q68)
                                                                  first
                                                                   | (exfalso; first | omega | (simp only [hne] at *; done) | (simp_all; done) | contradiction | (cases Q68; done))
                                                                   | skip
                                                                     refine st_unguard rfl ?_
                                                                     refine st_val (ro_move (v := .int _ _) rfl) ?_
                                                                     refine st_unguard rfl ?_
                                                                     refine st_val (ro_move (v := .int _ _) rfl) ?_
                                                                     refine st_unguard rfl ?_
                                                                     refine st_val (ro_neq rfl rfl) ?_
                                                                     refine st_val (ro_pickF (v := .bool _) rfl rfl) ?_
                                                                     refine st_val (ro_move (v := .bool _) rfl) ?_
                                                                     refine st_split (t := 136) rfl (fun Q69 => ?_) (fun Q69 => ?_)
                                                                     · (try first | replace Q69 := bn_t Q69 | replace Q69 := bn_f Q69)
                                                                       (try first | replace Q69 := bx_t Q69 | replace Q69 := bx_f Q69 | replace Q69 := be_t Q69 | replace Q69 := be_f Q69 | replace Q69 := of_decide_eq_true Q69 | replace Q69 := of_decide_eq_false Q69)
                                                                       first
                                                                        | (exfalso; first | omega | (simp only [hne] at *; done) | (simp_all; done) | contradiction | (cases Q69; done))
                                                                        | skip
                                                                          refine st_gno rfl rfl ?_
                                                                          refine st_gno rfl rfl ?_
                                                                          refine st_gno rfl rfl ?_
                                                                          refine st_val (ro_pickT (v := .bool _) rfl rfl) ?_
                                                                          refine st_nil ?_
                                                                          refine nx_then ?_
                                                                          refine cd_condT rfl ?_
                                                                          refine cd_seq ?_
                                                                          refine cd_region ?_
                                                                          refine st_val (ro_assign (v := .bool _) rfl) ?_
                                                                          refine st_nil ?_
                                                                          refine nx_then ?_
                                                                          refine cd_ret ?_
                                                                          refine rt_block ?_
                                                                          refine rt_then ?_
                                                                          refine rt_then ?_
                                                                          refine rt_block ?_
                                                                          refine rt_then ?_
                                                                          refine rt_block ?_
                                                                          refine rt_then ?_
                                                                          refine rt_then ?_
                                                                          refine rt_block ?_
                                                                          refine rt_then ?_
                                                                          refine res1 (v := .bool _) rfl rfl ?_
                                                                          exact ⟨rfl, (((hB.next E102).next E109).next E115)⟩
                                                                     · (try first | replace Q69 := bn_t Q69 | replace Q69 := bn_f Q69)
                                                                       (try first | replace Q69 := bx_t Q69 | replace Q69 := bx_f Q69 | replace Q69 := be_t Q69 | replace Q69 := be_f Q69 | replace Q69 := of_decide_eq_true Q69 | replace Q69 := of_decide_eq_false Q69)
                                                                       first
                                                                        | (exfalso; first | omega | (simp only [hne] at *; done) | (simp_all; done) | contradiction | (cases Q69; done))
                                                                        | skip
                                                                          refine st_unguard rfl ?_
                                                                          refine st_val (ro_move (v := .int _ _) rfl) ?_
                                                                          refine st_unguard rfl ?_
                                                                          refine st_val (ro_move (v := .int _ _) rfl) ?_
                                                                          refine st_unguard rfl ?_
                                                                          refine st_val (ro_neq rfl rfl) ?_
                                                                          refine st_val (ro_pickF (v := .bool _) rfl rfl) ?_
                                                                          refine st_nil ?_
                                                                          refine nx_then ?_
                                                                          refine cd_cond rfl (fun Q70 => ?_) (fun Q70 => ?_)
                                                                          · (try first | replace Q70 := bn_t Q70 | replace Q70 := bn_f Q70)
                                                                            (try first | replace Q70 := bx_t Q70 | replace Q70 := bx_f Q70 | replace Q70 := be_t Q70 | replace Q70 := be_f Q70 | replace Q70 := of_decide_eq_true Q70 | replace Q70 := of_decide_eq_false Q70)
                                                                            first
                                                                             | (exfalso; first | omega | (simp only [hne] at *; done) | (simp_all; done) | contradiction | (cases Q70; done))
                                                                             | skip
                                                                               refine cd_seq ?_
                                                                               refine cd_region ?_
                                                                               refine st_val (ro_assign (v := .bool _) rfl) ?_
                                                                               refine st_nil ?_
                                                                               refine nx_then ?_
                                                                               refine cd_ret ?_
                                                                               refine rt_block ?_
                                                                               refine rt_then ?_
                                                                               refine rt_then ?_
                                                                               refine rt_block ?_
                                                                               refine rt_then ?_
                                                                               refine rt_block ?_
                                                                               refine rt_then ?_
                                                                               refine rt_then ?_
                                                                               refine rt_block ?_
                                                                               refine rt_then ?_
                                                                               refine res1 (v := .bool _) rfl rfl ?_
                                                                               exact ⟨rfl, (((hB.next E102).next E109).next E115)⟩
                                                                          · (try first | replace Q70 := bn_t Q70 | replace Q70 := bn_f Q70)
                                                                            (try first | replace Q70 := bx_t Q70 | replace Q70 := bx_f Q70 | replace Q70 := be_t Q70 | replace Q70 := be_f Q70 | replace Q70 := of_decide_eq_true Q70 | replace Q70 := of_decide_eq_false Q70)
                                                                            first
                                                                             | (exfalso; first | omega | (simp only [hne] at *; done) | (simp_all; done) | contradiction | (cases Q70; done))
                                                                             | skip
                                                                               refine cd_skip ?_
                                                                               refine nx_block ?_
                                                                               refine nx_then ?_
                                                                               refine cd_region ?_
                                                                               refine st_val (ro_move (v := .int _ _) rfl) ?_
                                                                               refine st_val (ro_addN (b := 1) rfl rfl (by omega)) ?_
                                                                               refine st_val (ro_assign (v := .int _ _) rfl) ?_
                                                                               refine st_nil ?_
                                                                               refine nx_cut (j + 1) ⟨(by first | rfl | (refine int_eq ?_; omega)), trivial⟩ (by (iterate 115 refine agr_cons rfl ?_); exact agr_rfl) ⟨?_, ?_⟩
                                                                               · exact ⟨by omega, hv.from_ (((From.rfl_.next E102).next E109).next E115), hP1.from_ (((From.rfl_.next E102).next E109).next E115), (((hB.next E102).next E109).next E115)⟩
                                                                               · omega
                                                 · (try first | replace Q59 := bn_t Q59 | replace Q59 := bn_f Q59)
                                                   (try first | replace Q59 := bx_t Q59 | replace Q59 := bx_f Q59 | replace Q59 := be_t Q59 | replace Q59 := be_f Q59 | replace Q59 := of_decide_eq_true Q59 | replace Q59 := of_decide_eq_false Q59)
                                                   first
                                                    | (exfalso; first | omega | (simp only [hne] at *; done) | (simp_all; done) | contradiction | (cases Q59; done))
                                                    | skip
                                                      refine cd_exit ?_
                                                      refine ex_then ?_
                                                      refine ex_then ?_
                                                      refine ex_block ?_
                                                      refine nx_then ?_
                                                      refine cd_seq ?_
                                                      refine cd_region ?_
                                                      refine st_val (ro_move (v := .pointer _) rfl) ?_
                                                      refine st_val (ro_move (v := .int _ _) rfl) ?_
                                                      refine st_val (ro_move (v := .int _ _) rfl) ?_
                                                      refine st_call WavBack_k10 (sel_none _ b K L _ (hv.from_ From.rfl_) (hTZ.from_ hB) c (cntC L c L.length) (by omega) (Nat.le_refl _)) ?_
                                                      rintro v145 w71 ⟨rfl, E145⟩
                                                      refine st_val (ro_move (v := .tuple _) rfl) ?_
                                                      refine st_val (ro_extract rfl rfl) ?_
                                                      refine st_val (ro_extract rfl rfl) ?_
                                                      refine st_val (ro_assign (v := .int _ _) rfl) ?_
                                                      refine st_val (ro_assign (v := .int _ _) rfl) ?_
                                                      refine st_nil ?_
                                                      refine nx_then ?_
                                                      refine cd_seq ?_
                                                      refine cd_region ?_
                                                      refine st_val (ro_move (v := .int _ _) rfl) ?_
                                                      refine st_call WavBack_k13 (num_any _ _) ?_
                                                      rintro v149 w72 ⟨rfl, rfl⟩
                                                      refine st_val (ro_neq rfl rfl) ?_
                                                      refine st_nil ?_
                                                      refine nx_then ?_
                                                      refine cd_cond rfl (fun Q73 => ?_) (fun Q73 => ?_)
                                                      · (try first | replace Q73 := bn_t Q73 | replace Q73 := bn_f Q73)
                                                        (try first | replace Q73 := bx_t Q73 | replace Q73 := bx_f Q73 | replace Q73 := be_t Q73 | replace Q73 := be_f Q73 | replace Q73 := of_decide_eq_true Q73 | replace Q73 := of_decide_eq_false Q73)
                                                        first
                                                         | (exfalso; first | omega | (simp only [hne] at *; done) | (simp_all; done) | contradiction | (cases Q73; done))
                                                         | skip
                                                           refine cd_seq ?_
                                                           refine cd_region ?_
                                                           refine st_val (ro_assign (v := .bool _) rfl) ?_
                                                           refine st_nil ?_
                                                           refine nx_then ?_
                                                           refine cd_ret ?_
                                                           refine rt_block ?_
                                                           refine rt_then ?_
                                                           refine rt_then ?_
                                                           refine rt_block ?_
                                                           refine rt_then ?_
                                                           refine res1 (v := .bool _) rfl rfl ?_
                                                           exact ⟨rfl, (hB.next E145)⟩
                                                      · (try first | replace Q73 := bn_t Q73 | replace Q73 := bn_f Q73)
                                                        (try first | replace Q73 := bx_t Q73 | replace Q73 := bx_f Q73 | replace Q73 := be_t Q73 | replace Q73 := be_f Q73 | replace Q73 := of_decide_eq_true Q73 | replace Q73 := of_decide_eq_false Q73)
                                                        first
                                                         | (exfalso; first | omega | (simp only [hne] at *; done) | (simp_all; done) | contradiction | (cases Q73; done))
                                                         | skip
                                                           refine cd_skip ?_
                                                           refine nx_block ?_
                                                           refine nx_then ?_
                                                           refine cd_region ?_
                                                           refine st_val (ro_move (v := .int _ _) rfl) ?_
                                                           refine st_val (ro_addN (b := 1) rfl rfl (by omega)) ?_
                                                           refine st_val (ro_assign (v := .int _ _) rfl) ?_
                                                           refine st_nil ?_
                                                           refine nx_cut (c + 1) ⟨(int_eq (by rw [cnt_diff])), rfl, trivial⟩ (by (iterate 252 refine agr_cons rfl ?_); exact agr_rfl) ⟨?_, ?_⟩
                                                           · exact ⟨by omega, hv.from_ (From.rfl_.next E145), hP1.from_ (From.rfl_.next E145), (hB.next E145)⟩
                                                           · omega
                   · (try first | replace Q48 := bn_t Q48 | replace Q48 := bn_f Q48)
                     (try first | replace Q48 := bx_t Q48 | replace Q48 := bx_f Q48 | replace Q48 := be_t Q48 | replace Q48 := be_f Q48 | replace Q48 := of_decide_eq_true Q48 | replace Q48 := of_decide_eq_false Q48)
                     have hcK : c = K := by omega
                     have hallc : cntLt L c = L.length := by rw [hcK]; exact hall
                     first
                      | (exfalso; first | omega | (simp only [hne] at *; done) | (simp_all; done) | contradiction | (cases Q48; done))
                      | skip
                        refine cd_exit ?_
                        refine ex_then ?_
                        refine ex_then ?_
                        refine ex_block ?_
                        refine nx_then ?_
                        refine cd_seq ?_
                        refine cd_region ?_
                        refine st_val (ro_move (v := .pointer _) rfl) ?_
                        refine st_val (ro_fieldAddr WavBack_f24_0 rfl) ?_
                        refine st_val (ro_load WavBack_g3 rfl (by first | (first | exact (hP1.from_ From.rfl_).whole | exact (hP1.from_ From.rfl_).rd 0 rfl | exact (hP1.from_ From.rfl_).rd 1 rfl | exact (hP1.from_ From.rfl_).rd 2 rfl) | (first | exact (hk1.from_ From.rfl_).whole | exact (hk1.from_ From.rfl_).rd 0 rfl | exact (hk1.from_ From.rfl_).rd 1 rfl | exact (hk1.from_ From.rfl_).rd 2 rfl))) ?_
                        refine st_call WavBack_k14 (less_at _ b K L _ (hv.from_ From.rfl_) K (Nat.le_refl _)) ?_
                        rintro v155 w74 ⟨rfl, rfl⟩
                        refine st_val (ro_move (v := .tuple _) rfl) ?_
                        refine st_val (ro_extract rfl rfl) ?_
                        refine st_val (ro_extract rfl rfl) ?_
                        refine st_val (ro_assign (v := .int _ _) rfl) ?_
                        refine st_val (ro_assign (v := .int _ _) rfl) ?_
                        refine st_nil ?_
                        refine nx_then ?_
                        refine cd_seq ?_
                        refine cd_region ?_
                        refine st_val (ro_move (v := .int _ _) rfl) ?_
                        refine st_call WavBack_k13 (num_any _ _) ?_
                        rintro v159 w75 ⟨rfl, rfl⟩
                        refine st_val (ro_eql rfl rfl) ?_
                        refine st_val (ro_move (v := .bool _) rfl) ?_
                        refine st_split (t := 161) rfl (fun Q76 => ?_) (fun Q76 => ?_)
                        · (try first | replace Q76 := bn_t Q76 | replace Q76 := bn_f Q76)
                          (try first | replace Q76 := bx_t Q76 | replace Q76 := bx_f Q76 | replace Q76 := be_t Q76 | replace Q76 := be_f Q76 | replace Q76 := of_decide_eq_true Q76 | replace Q76 := of_decide_eq_false Q76)
                          first
                           | (exfalso; first | omega | (simp only [hne] at *; done) | (simp_all; done) | contradiction | (cases Q76; done))
                           | skip
                             refine st_unguard rfl ?_
                             refine st_val (ro_move (v := .int _ _) rfl) ?_
                             refine st_unguard rfl ?_
                             refine st_val (ro_fieldAddr WavBack_f24_1 rfl) ?_
                             refine st_unguard rfl ?_
                             refine st_val (ro_load WavBack_g22 rfl (by first | (first | exact (hP1.from_ From.rfl_).whole | exact (hP1.from_ From.rfl_).rd 0 rfl | exact (hP1.from_ From.rfl_).rd 1 rfl | exact (hP1.from_ From.rfl_).rd 2 rfl) | (first | exact (hk1.from_ From.rfl_).whole | exact (hk1.from_ From.rfl_).rd 0 rfl | exact (hk1.from_ From.rfl_).rd 1 rfl | exact (hk1.from_ From.rfl_).rd 2 rfl))) ?_
                             refine st_unguard rfl ?_
                             refine st_val (ro_len WavBack_l22 rfl) ?_
                             refine st_unguard rfl ?_
                             refine st_val (ro_eql rfl rfl) ?_
                             refine st_val (ro_pickT (v := .bool _) rfl rfl) ?_
                             refine st_val (ro_move (v := .bool _) rfl) ?_
                             refine st_split (t := 168) rfl (fun Q77 => ?_) (fun Q77 => ?_)
                             · (try first | replace Q77 := bn_t Q77 | replace Q77 := bn_f Q77)
                               (try first | replace Q77 := bx_t Q77 | replace Q77 := bx_f Q77 | replace Q77 := be_t Q77 | replace Q77 := be_f Q77 | replace Q77 := of_decide_eq_true Q77 | replace Q77 := of_decide_eq_false Q77)
                               first
                                | (exfalso; first | omega | (simp only [hne] at *; done) | (simp_all; done) | contradiction | (cases Q77; done))
                                | skip
                                  refine st_unguard rfl ?_
                                  refine st_val (ro_move (v := .int _ _) rfl) ?_
                                  refine st_unguard rfl ?_
                                  refine st_val (ro_fieldAddr WavBack_f24_1 rfl) ?_
                                  refine st_unguard rfl ?_
                                  refine st_val (ro_load WavBack_g22 rfl (by first | (first | exact (hP1.from_ From.rfl_).whole | exact (hP1.from_ From.rfl_).rd 0 rfl | exact (hP1.from_ From.rfl_).rd 1 rfl | exact (hP1.from_ From.rfl_).rd 2 rfl) | (first | exact (hk1.from_ From.rfl_).whole | exact (hk1.from_ From.rfl_).rd 0 rfl | exact (hk1.from_ From.rfl_).rd 1 rfl | exact (hk1.from_ From.rfl_).rd 2 rfl))) ?_
                                  refine st_unguard rfl ?_
                                  refine st_val (ro_len WavBack_l22 rfl) ?_
                                  refine st_unguard rfl ?_
                                  refine st_val (ro_eql rfl rfl) ?_
                                  refine st_val (ro_pickT (v := .bool _) rfl rfl) ?_
                                  refine st_val (ro_move (v := .bool _) rfl) ?_
                                  refine st_split (t := 175) rfl (fun Q78 => ?_) (fun Q78 => ?_)
                                  · (try first | replace Q78 := bn_t Q78 | replace Q78 := bn_f Q78)
                                    (try first | replace Q78 := bx_t Q78 | replace Q78 := bx_f Q78 | replace Q78 := be_t Q78 | replace Q78 := be_f Q78 | replace Q78 := of_decide_eq_true Q78 | replace Q78 := of_decide_eq_false Q78)
                                    first
                                     | (exfalso; first | omega | (simp only [hne] at *; done) | (simp_all; done) | contradiction | (cases Q78; done))
                                     | skip
                                       refine st_unguard rfl ?_
                                       refine st_call WavBack_k8 (wakes_any _) ?_
                                       rintro v176 w79 ⟨rfl, E176⟩
                                       refine st_val (ro_pickT (v := .bool _) rfl rfl) ?_
                                       refine st_val (ro_assign (v := .bool _) rfl) ?_
                                       refine st_nil ?_
                                       refine nx_then ?_
                                       refine cd_ret ?_
                                       refine res1 (v := .bool _) rfl rfl ?_
                                       exact ⟨rfl, (hB.next E176)⟩
                                  · (try first | replace Q78 := bn_t Q78 | replace Q78 := bn_f Q78)
                                    (try first | replace Q78 := bx_t Q78 | replace Q78 := bx_f Q78 | replace Q78 := be_t Q78 | replace Q78 := be_f Q78 | replace Q78 := of_decide_eq_true Q78 | replace Q78 := of_decide_eq_false Q78)
                                    first
                                     | (exfalso; first | omega | (simp only [hne] at *; done) | (simp_all; done) | contradiction | (cases Q78; done))
                                     | skip
                                       refine st_gno rfl rfl ?_
                                       refine st_val (ro_pickF (v := .bool _) rfl rfl) ?_
                                       refine st_val (ro_assign (v := .bool _) rfl) ?_
                                       refine st_nil ?_
                                       refine nx_then ?_
                                       refine cd_ret ?_
                                       refine res1 (v := .bool _) rfl rfl ?_
                                       exact ⟨rfl, hB⟩
                             · (try first | replace Q77 := bn_t Q77 | replace Q77 := bn_f Q77)
                               (try first | replace Q77 := bx_t Q77 | replace Q77 := bx_f Q77 | replace Q77 := be_t Q77 | replace Q77 := be_f Q77 | replace Q77 := of_decide_eq_true Q77 | replace Q77 := of_decide_eq_false Q77)
                               first
                                | (exfalso; first | omega | (simp only [hne] at *; done) | (simp_all; done) | contradiction | (cases Q77; done))
                                | skip
                                  refine st_gno rfl rfl ?_
                                  refine st_gno rfl rfl ?_
                                  refine st_gno rfl rfl ?_
                                  refine st_gno rfl rfl ?_
                                  refine st_gno rfl rfl ?_
                                  refine st_val (ro_pickF (v := .bool _) rfl rfl) ?_
                                  refine st_val (ro_move (v := .bool _) rfl) ?_
                                  refine st_gno rfl rfl ?_
                                  refine st_val (ro_pickF (v := .bool _) rfl rfl) ?_
                                  refine st_val (ro_assign (v := .bool _) rfl) ?_
                                  refine st_nil ?_
                                  refine nx_then ?_
                                  refine cd_ret ?_
                                  refine res1 (v := .bool _) rfl rfl ?_
                                  exact ⟨rfl, hB⟩
                        · (try first | replace Q76 := bn_t Q76 | replace Q76 := bn_f Q76)
                          (try first | replace Q76 := bx_t Q76 | replace Q76 := bx_f Q76 | replace Q76 := be_t Q76 | replace Q76 := be_f Q76 | replace Q76 := of_decide_eq_true Q76 | replace Q76 := of_decide_eq_false Q76)
                          first
                           | (exfalso; first | omega | (simp only [hne] at *; done) | (simp_all; done) | contradiction | (cases Q76; done))
                           | skip
                             refine st_gno rfl rfl ?_
                             refine st_gno rfl rfl ?_
                             refine st_gno rfl rfl ?_
                             refine st_gno rfl rfl ?_
                             refine st_gno rfl rfl ?_
                             refine st_val (ro_pickF (v := .bool _) rfl rfl) ?_
                             refine st_val (ro_move (v := .bool _) rfl) ?_
                             refine st_gno rfl rfl ?_
                             refine st_gno rfl rfl ?_
                             refine st_gno rfl rfl ?_
                             refine st_gno rfl rfl ?_
                             refine st_gno rfl rfl ?_
                             refine st_val (ro_pickF (v := .bool _) rfl rfl) ?_
                             refine st_val (ro_move (v := .bool _) rfl) ?_
                             refine st_gno rfl rfl ?_
                             refine st_val (ro_pickF (v := .bool _) rfl rfl) ?_
                             refine st_val (ro_assign (v := .bool _) rfl) ?_
                             refine st_nil ?_
                             refine nx_then ?_
                             refine cd_ret ?_
                             refine res1 (v := .bool _) rfl rfl ?_
                             exact ⟨rfl, hB⟩
theorem back_arg (cs : Array Value) (x : (Ty.pr (.int .i64) (.pr (.sl (.int .i64)) (.pr (.sl (.int .i64)) .unit))).den) (w : World) (hs : cs.size = 3) (h : (Ty.pr (.int .i64) (.pr (.sl (.int .i64)) (.pr (.sl (.int .i64)) .unit))).At w (fun j => cs[j]?) x) (hT : TZ w) :
    Rt Tryd.prog 4 [.agg cs] w fun v w' => v = .bool true ∧ From w w' := by
  obtain ⟨k, A, ca, xs, B, cb, is, rfl, h1, h2, h3, h4, h5⟩ := ask_of hs h
  exact back_law k A B ca cb xs is w h1 h2 h3 h4 hT (fun q hq h0 => by obtain ⟨bb, o, rfl, hc⟩ := h1 h0; cases hq; exact lt_of_cell (hc 0 h0))
/-- A WORLD FOR THE WITNESS: the settled one, the variables holding what their initialisers lay. -/
noncomputable def WaveletBack_world (os : Os) : World :=
  { World.holding Tryd.prog os ⟨#[], #[], []⟩ with heap := (World.holding Tryd.prog os ⟨#[], #[], []⟩).heap.modify 0 fun | .cells _ t frozen => .cells #[.int .u8 0, .int .u8 1, .int .u8 56, .int .u8 2, .int .u8 57, .int .u8 49, .int .u8 28, .int .u8 3, .int .u8 61, .int .u8 58, .int .u8 42, .int .u8 50, .int .u8 38, .int .u8 29, .int .u8 17, .int .u8 4, .int .u8 62, .int .u8 47, .int .u8 59, .int .u8 36, .int .u8 45, .int .u8 43, .int .u8 51, .int .u8 22, .int .u8 53, .int .u8 39, .int .u8 33, .int .u8 30, .int .u8 24, .int .u8 18, .int .u8 12, .int .u8 5, .int .u8 63, .int .u8 55, .int .u8 48, .int .u8 27, .int .u8 60, .int .u8 41, .int .u8 37, .int .u8 16, .int .u8 46, .int .u8 35, .int .u8 44, .int .u8 21, .int .u8 52, .int .u8 32, .int .u8 23, .int .u8 11, .int .u8 54, .int .u8 26, .int .u8 40, .int .u8 15, .int .u8 34, .int .u8 20, .int .u8 31, .int .u8 10, .int .u8 25, .int .u8 14, .int .u8 19, .int .u8 9, .int .u8 13, .int .u8 8, .int .u8 7, .int .u8 6] t frozen | o => o }
theorem WaveletBack_met (os : Os) : laidMet Tryd.prog Rows.waveletBackRow.laid ((WaveletBack_world os).forCall (fun _ _ => 0) ⟨#[], #[.agg #[.int .i64 0, .slice none 0 0, .slice none 0 0]], []⟩).memory :=
  laidMet_of_run' 8 (by kernel_rfl) (by kernel_rfl)
theorem WaveletBack_reads (os : Os) {H : Type} (enc : TypeId × Value → H) : ∃ places, DataW.whole enc Tryd.prog ((WaveletBack_world os).forCall (fun _ _ => 0) ⟨#[], #[.agg #[.int .i64 0, .slice none 0 0, .slice none 0 0]], []⟩).memory Tryd.f4.params.toList Rows.waveletBackSpec.vars false #[(.agg #[.int .i64 0, .slice none 0 0, .slice none 0 0] : Value)].toList 8 = some ([.agg [.lit (.int .i64 0), .nil, .nil]], [], places) :=
  ⟨[], by kernel_rfl⟩

set_option maxRecDepth 100000 in
theorem WaveletBack_lifted (os : Os) (started : os.Started) (H : Type) (enc : TypeId × Value → H) (F : Stop.Interp) :
    ReturnsInHanded {} Tryd.checked os 4 .any ((OpenSpec.ofChange Rows.waveletBackSpec).preRow enc Tryd.prog Tryd.f4 Rows.waveletBackRow.domain false Rows.waveletBackRow.laid) (((OpenSpec.ofChange Rows.waveletBackSpec).at F).post enc Tryd.prog Tryd.f4 false true false false) := by
  obtain ⟨places, hx⟩ := WaveletBack_reads os enc
  refine returnsInHanded_of_row (C := Tryd.checked) (s := OpenSpec.ofChange Rows.waveletBackSpec) Tryd.own started (by kernel_rfl) Tryd.func4
    (witness_row_at (enc := enc) (C := Tryd.checked) false (WaveletBack_world os) #[.agg #[.int .i64 0, .slice none 0 0, .slice none 0 0]] rfl (by kernel_rfl) (by kernel_rfl) (by kernel_rfl)
      (OpenSpec.preRow_of_cond 8 hx (by kernel_rfl) (fun k hk => by cases hk) (by kernel_rfl) (WaveletBack_met os))) ?_
  intro W base args ds gs before hval hW _ _ hsz hL hS _
  exact law_step_laid 4 Tryd.f4 24 4 Rows.waveletBackSpec Tryd.params4 (by kernel_rfl) Tryd.underlying4 rfl (fun _ => rfl) (by kernel_rfl) (of_decide_eq_true (by kernel_rfl)) Rows.waveletBackRow.laid (walk_laid (.int .i64) (.pr (.sl (.int .i64)) (.pr (.sl (.int .i64)) .unit)) (by kernel_rfl) Rows.waveletBackRow.laid (fun _ h => table_of h) back_arg) W base args ds gs before hval hW hsz hL hS

theorem WaveletBack_said : Rows.WaveletBackSaid :=
  OpenClaim.holds_of_cond 4 Tryd.f4 rfl rfl rfl rfl rfl rfl rfl ⟨rfl, rfl, rfl, rfl, rfl⟩ rfl rfl rfl rfl rfl (by kernel_rfl) Tryd.func4 (by kernel_rfl)
    (of_decide_eq_true (by kernel_rfl)) (by unfold Func.isWrapper; first | (rw [if_pos (by decide +kernel)]; kernel_rfl) | (rw [if_neg (by decide +kernel)]; exact ⟨rfl, rfl⟩))
    (fun os started H enc _ F => by rw [OpenClaim.pre_eq_preRow]; exact WaveletBack_lifted os started H enc F)

theorem WaveletBack_plain (f : FuncId) (fn : Func) (hf : Tryd.pinned.checked.prog.funcNamed "lectern/lecternlaw3.WaveletBack" = some f) (hfn : Tryd.pinned.checked.prog.funcs[f]? = some fn) :
    false = Tryd.pinned.checked.prog.looks [] ∧ ∀ (j : Nat) t, fn.params[j]? = some t → Tryd.pinned.checked.prog.wantsStandIn t = false := by
  obtain rfl : f = 4 := Option.some.inj ((show Tryd.prog.funcNamed "lectern/lecternlaw3.WaveletBack" = some 4 by kernel_rfl).symm.trans hf) |>.symm
  obtain rfl : fn = Tryd.f4 := (Option.some.inj (Tryd.func4.symm.trans hfn)).symm
  refine ⟨by kernel_rfl, fun j t ht => ?_⟩
  rw [(Tryd.params4)] at ht
  obtain rfl : t = 24 := by simpa using Array.mem_of_getElem? ht
  exact (show Tryd.prog.wantsStandIn 24 = false by kernel_rfl)

theorem WaveletBack_holds : Rows.WaveletBackCardSaid :=
  Claim7.holds_tied_plain_at .later [] _ _ _ _ WaveletBack_said (fun _ h => by cases h) (by kernel_rfl) (fun _ h => by cases h) waveletBack_row_tie rfl ⟨rfl, rfl⟩ (by kernel_rfl) rfl WaveletBack_plain (by kernel_rfl)
#print axioms WaveletBack_holds

end Go.Proofs.YtmiclfhpenjjfaaDoor
