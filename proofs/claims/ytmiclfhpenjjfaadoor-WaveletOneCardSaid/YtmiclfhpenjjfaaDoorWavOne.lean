/- The law WaveletOne. -/
import Derived.Test.YtmiclfhpenjjfaaDoorWavHelp
import Derived.Test.YtmiclfhpenjjfaaDoorWavSelW
namespace Go.Proofs.YtmiclfhpenjjfaaDoor
open Go.RowKit
open Go.ChangeShapes Go.WideShapes Go.ChangeAt
theorem WavOne_m22 : makeQ Tryd.prog 22 = some (3, 8, (.int .i64 0)) := by kernel_rfl
theorem WavOne_q22 : litQ Tryd.prog 22 = some (3, 1, 8, (.int .i64 0)) := by kernel_rfl
theorem WavOne_k12 : callable Tryd.prog 12 = true := by kernel_rfl
theorem WavOne_k13 : callable Tryd.prog 13 = true := by kernel_rfl
theorem WavOne_p26 : Tryd.prog.underlying 26 = some (.pointer (Tryd.prog.pointee 26)) := by kernel_rfl
theorem WavOne_k10 : callable Tryd.prog 10 = true := by kernel_rfl
theorem WavOne_k15 : callable Tryd.prog 15 = true := by kernel_rfl
theorem WavOne_e22 : elemQ Tryd.prog 22 = some (3, 1) := by kernel_rfl
theorem WavOne_g3 : aggQ Tryd.prog 3 = some false := by kernel_rfl
theorem WavOne_k14 : callable Tryd.prog 14 = true := by kernel_rfl
theorem WavOne_f24_1 : fieldQ Tryd.prog 24 1 = some 1 := by kernel_rfl
theorem WavOne_g22 : aggQ Tryd.prog 22 = some false := by kernel_rfl
theorem WavOne_l22 : (elemQ Tryd.prog 22).isSome = true := by kernel_rfl
theorem WavOne_k8 : callable Tryd.prog 8 = true := by kernel_rfl
theorem less_at (base b K : Nat) (L : List Nat) (w : World) (ht : TreeAt w base b K L) (c : Nat) (hc : c ≤ K) : Rt Tryd.prog 14 [.pointer (some ⟨b, 0, none⟩), .int .i64 (c : Nat)] w fun v w' => v = .tuple #[.int .i64 (cntLt L c : Nat), .int .i64 0] ∧ w = w' := by
  refine (lessT base b K L w ht (c : Nat)).mono fun v w' h => ⟨?_, h.2⟩
  rw [h.1]
  unfold sV sE
  rw [if_pos (by omega), if_pos (by omega), Int.toNat_natCast]
theorem rank_at (base b K : Nat) (L : List Nat) (w : World) (ht : TreeAt w base b K L) (c q r : Nat) (hc : c < K) (hq : q ≤ L.length) (hr : cntC L c q = r) : Rt Tryd.prog 15 [.pointer (some ⟨b, 0, none⟩), .int .i64 (c : Nat), .int .i64 (q : Nat)] w fun v w' => v = .tuple #[.int .i64 (r : Nat), .int .i64 0] ∧ From w w' := by
  refine (rankT base b K L w ht (c : Nat) (q : Nat)).mono fun v w' h => ⟨?_, h.2⟩
  rw [h.1]
  unfold kV kE
  rw [if_pos (by omega), if_pos (by omega), if_pos (by omega), if_pos (by omega), Int.toNat_natCast, Int.toNat_natCast, hr]
theorem sel_is (base b K : Nat) (L : List Nat) (w : World) (ht : TreeAt w base b K L) (hT : TZ w) (c j q : Nat) (hc : c < K) (hq : q < L.length) (h1 : L[q] = c) (h2 : cntC L c q = j) : Rt Tryd.prog 10 [.pointer (some ⟨b, 0, none⟩), .int .i64 (c : Nat), .int .i64 (j : Nat)] w fun v w' => v = .tuple #[.int .i64 (q : Nat), .int .i64 0] ∧ From w w' := by
  have hq' : q < (cb L c).length := by rw [cb_len]; exact hq
  have hf : fl (cb L c) false q = true := by rw [cb_fl hq]; exact decide_eq_true h1
  have hcn : cntB (fl (cb L c) false) q = j := by rw [cb_cnt (Nat.le_of_lt hq), h2]
  refine (selectT base b K L w ht hT (c : Nat) (j : Nat)).mono fun v w' h => ⟨?_, h.2⟩
  rw [h.1]
  unfold slV slE
  rw [if_pos (by omega), if_pos (by omega), Int.toNat_natCast, selP_at hq' hf hcn]
  unfold selE
  rw [if_pos (selO_at hq' hf hcn)]
theorem sel_none (base b K : Nat) (L : List Nat) (w : World) (ht : TreeAt w base b K L) (hT : TZ w) (c j : Nat) (hc : c < K) (hj : cntC L c L.length ≤ j) : Rt Tryd.prog 10 [.pointer (some ⟨b, 0, none⟩), .int .i64 (c : Nat), .int .i64 (j : Nat)] w fun v w' => v = .tuple #[.int .i64 0, .int .i64 3] ∧ From w w' := by
  have ho := occ_out (L := L) (c := c) (j := (j : Nat)) (by omega)
  refine (selectT base b K L w ht hT (c : Nat) (j : Nat)).mono fun v w' h => ⟨?_, h.2⟩
  rw [h.1]
  unfold slV slE
  rw [if_pos (by omega), if_pos (by omega), Int.toNat_natCast, selP_no ho]
  unfold selE
  rw [if_neg (by rw [ho]; decide)]
def sizes : List Nat := [0, 1, 2, 3, 4, 6, 8, 11, 14, 18, 23, 29, 37, 47, 59]
def eachL (n : Nat) : List Nat := (List.range n).map fun i => (i * 7 + 3) % n
def eachI (n i : Nat) : List Int := (List.range i).map fun i => (((i * 7 + 3) % n : Nat) : Int)
theorem each_len (n : Nat) : (eachL n).length = n := by unfold eachL; rw [List.length_map, List.length_range]
theorem eachI_succ (n i : Nat) : eachI n (i + 1) = eachI n i ++ [(((i * 7 + 3) % n : Nat) : Int)] := by unfold eachI; rw [List.range_succ, List.map_append]; rfl
theorem eachI_all (n : Nat) : eachI n n = (eachL n).map fun x : Nat => (x : Int) := by unfold eachI eachL; rw [List.map_map]; rfl
theorem each_get {n i : Nat} (h : i < n) : (eachL n)[i]'(by rw [each_len]; exact h) = (i * 7 + 3) % n := by unfold eachL; simp
theorem sizes_step : ∀ n ∈ sizes, (n + 1 + n / 4) ∈ sizes ∨ (60 ≤ n + 1 + n / 4 ∧ n + 1 + n / 4 ≤ 200) := by decide
theorem sizes_le : ∀ n ∈ sizes, n ≤ 59 := by decide
def eachC (n : Nat) : Bool := n % 7 == 0 || (List.range n).all fun i => cntC (eachL n) ((i * 7 + 3) % n) i == 0 && cntC (eachL n) ((i * 7 + 3) % n) n == 1 && cntLt (eachL n) i == i
theorem each_all : sizes.all eachC = true := by kernel_rfl
theorem each_ok {n : Nat} (hn : n ∈ sizes) (h7 : n % 7 ≠ 0) {i : Nat} (hi : i < n) : cntC (eachL n) ((i * 7 + 3) % n) i = 0 ∧ cntC (eachL n) ((i * 7 + 3) % n) n = 1 ∧ cntLt (eachL n) i = i := by
  have h := List.all_eq_true.1 each_all n hn
  unfold eachC at h
  rw [Bool.or_eq_true] at h
  rcases h with h | h
  · exact absurd (by simpa using h) h7
  · have := List.all_eq_true.1 h i (List.mem_range.2 hi)
    simp only [Bool.and_eq_true, beq_iff_eq] at this
    exact ⟨this.1.1, this.1.2, this.2⟩
theorem each_lt {n : Nat} (hn : 0 < n) : ∀ x ∈ eachL n, x < n := by
  intro x hx
  unfold eachL at hx
  obtain ⟨i, _, rfl⟩ := List.mem_map.1 hx
  exact Nat.mod_lt _ hn
theorem new_list (k : Int) (K : Nat) (hk : k = (K : Nat)) (A : Option Addr) (c n : Nat) (L : List Nat) (w : World) (hr : RowOf iV w A (L.map fun x : Nat => (x : Int))) (hn : n = L.length) (h1 : 1 ≤ K) (h2 : K ≤ 512) (h3 : ∀ x ∈ L, x < K) (h4 : L.length ≤ 131072) (hA : ∀ q, A.map (·.block) = some q → q < w.heap.size) :
    Rt Tryd.prog 12 [.int .i64 k, .slice A n c] w fun v w' => ∃ b, v = .tuple #[.pointer (some ⟨b, 0, none⟩), .int .i64 0] ∧ TreeAt w' w.heap.size b K L ∧ From w w' := by
  have hz : chkW k (L.map fun x : Nat => (x : Int)) = 0 := by rw [hk]; exact chk_zero h1 h2 h3 h4
  refine (new_w k A c n _ w hr (by rw [List.length_map]; exact hn) (by rw [List.length_map]; omega) (fun q _ hq => hA q hq)).mono fun v w' ⟨h, hF⟩ => ?_
  rcases h with ⟨hne, _⟩ | ⟨K2, L2, b, hK, hL, e, hv⟩
  · exact absurd hz hne
  · obtain rfl : K = K2 := by omega
    obtain rfl : L = L2 := map_cast_inj hL
    exact ⟨b, e, hv, hF⟩
theorem new_same (g n : Nat) (w : World) (hb : Blk w g 3 (List.replicate n (.int .i64 0)).toArray) (hn : n ≤ 59) : Rt Tryd.prog 12 [.int .i64 1, .slice (some ⟨g, 0, none⟩) n n] w fun v w' => ∃ b, v = .tuple #[.pointer (some ⟨b, 0, none⟩), .int .i64 0] ∧ TreeAt w' w.heap.size b 1 (List.replicate n 0) ∧ From w w' := by
  refine new_list 1 1 rfl _ n n _ w (RowOf.blk hb fun i hi => ?_) (List.length_replicate ..).symm (by omega) (by omega) (fun x hx => by rw [List.eq_of_mem_replicate hx]; omega) (by rw [List.length_replicate]; omega) (fun q hq => by cases hq; exact hb.lt)
  rw [List.length_map, List.length_replicate] at hi
  simp [hi]
theorem new_each (n c base : Nat) (A : Option Addr) (w : World) (ho : w.ownsRow base 3 1 (.slice A n c) n ((eachI n n).map iV)) (hn : n ≤ 59) (h1 : 1 ≤ n) : Rt Tryd.prog 12 [.int .i64 (n : Nat), .slice A n c] w fun v w' => ∃ b, v = .tuple #[.pointer (some ⟨b, 0, none⟩), .int .i64 0] ∧ TreeAt w' w.heap.size b n (eachL n) ∧ From w w' := by
  have hr := (RowOf.own ho).2
  rw [eachI_all] at hr
  exact new_list (n : Nat) n rfl A c n _ w hr (each_len n).symm h1 (by omega) (each_lt h1) (by rw [each_len]; omega) (fun q hq => (own_at ho q hq).2)
theorem same_cnt {n k : Nat} (hk : k ≤ n) : cntC (List.replicate n 0) 0 k = k := by
  unfold cntC
  rw [List.take_replicate, List.countP_replicate]
  simp
  omega
set_option maxRecDepth 100000 in
set_option maxHeartbeats 3000000 in
theorem one_law (k : Int) (A B : Option Addr) (ca cb : Nat) (xs is : List Int) (w : World) (hr : RowOf iV w A xs) (hb64 : ∀ x ∈ xs, -9223372036854775808 ≤ x ∧ x ≤ 9223372036854775807) (hrB : RowOf iV w B is) (hB64 : ∀ x ∈ is, -9223372036854775808 ≤ x ∧ x ≤ 9223372036854775807) (hTZ : TZ w) :
    Rt Tryd.prog 5 [.agg #[.int .i64 k, .slice A xs.length ca, .slice B is.length cb]] w (fun v w' => v = .bool true ∧ From w w') := by
  refine enter (n := 170) Tryd.func5 rfl rfl rfl ?_
  refine cd_seq ?_
  refine cd_region ?_
  refine st_box (v := .agg _) rfl ?_
  intro b1 w1 E1 hb1 hk1
  refine st_val (ro_assign (v := .bool _) rfl) ?_
  refine st_nil ?_
  refine nx_then ?_
  refine cd_seq ?_
  refine cd_seq ?_
  refine cd_region ?_
  refine st_val (ro_assign (v := .int _ _) rfl) ?_
  refine st_nil ?_
  refine nx_then ?_
  refine cd_block ?_
  refine cd_loop (G := Nat) [2, 4, 5, 6, 7, 8, 9, 10, 11, 12, 13, 14, 15, 16, 17, 18, 19, 20, 21, 22, 23, 24, 25, 26, 27, 28, 29, 30, 31, 32, 33, 34, 35, 36, 37, 38, 39, 40, 41, 42, 43, 44, 45, 46, 47, 48, 49, 50, 51, 52, 53, 54, 55, 56, 57, 58, 59, 60, 61, 62, 63, 64, 65, 66, 67, 68, 69, 70, 71, 72, 73, 74, 75, 76, 77, 78, 79, 80, 81, 82, 83, 84, 85, 86, 87, 88, 89, 90, 91, 92, 93, 94, 95, 96, 97, 98, 99, 100, 101, 102, 103, 104, 105, 106, 107, 108, 109, 110, 111, 112, 113, 114, 115, 116, 117, 118, 119, 120, 121, 122, 123, 124, 125, 126, 127, 128, 129, 130, 131, 132, 133, 134, 135, 136, 137, 138, 139, 140, 141, 142, 143, 144, 145, 146, 147, 148, 149, 150, 151, 152, 153, 154, 155, 156, 157, 158, 159, 160, 161, 162] (fun n => [(3, .int .i64 (n : Nat))]) (fun n w' => (n ∈ sizes ∨ (60 ≤ n ∧ n ≤ 200)) ∧ Blk w' b1 24 #[.int .i64 k, .slice A xs.length ca, .slice B is.length cb] ∧ From w w') (fun n => 200 - n) (0) ⟨rfl, trivial⟩ ?_ ?_
  · exact ⟨.inl (by decide), hk1.from_ From.rfl_, (From.rfl_.next E1)⟩
  rintro n ρ2 w2 ⟨hn, hP1, hB⟩
  refine cd_seq ?_
  refine cd_seq ?_
  refine cd_region ?_
  refine st_val (ro_move (v := .int _ _) rfl) ?_
  refine st_val (ro_lss rfl rfl) ?_
  refine st_nil ?_
  refine nx_then ?_
  refine cd_cond rfl (fun Q3 => ?_) (fun Q3 => ?_)
  · (try first | replace Q3 := bn_t Q3 | replace Q3 := bn_f Q3)
    (try first | replace Q3 := bx_t Q3 | replace Q3 := bx_f Q3 | replace Q3 := be_t Q3 | replace Q3 := be_f Q3 | replace Q3 := of_decide_eq_true Q3 | replace Q3 := of_decide_eq_false Q3)
    have hnS : n ∈ sizes := by
      rcases hn with a | a
      · exact a
      · omega
    have hn60 := sizes_le n hnS
    first
     | (exfalso; first | omega | contradiction | (cases Q3; done))
     | skip
       refine cd_skip ?_
       refine nx_then ?_
       refine cd_seq ?_
       refine cd_block ?_
       refine cd_seq ?_
       refine cd_region ?_
       refine st_val (ro_move (v := .int _ _) rfl) ?_
       refine st_make WavOne_m22 rfl rfl rfl (by omega) (by omega) ?_
       intro b30 w4 E30 hb30 hk30
       obtain ⟨W3, hW3⟩ : ∃ W, W = w4 := ⟨_, rfl⟩
       have hF3 : From w W3 := by rw [hW3]; exact (hB.next E30)
       have hl3 : b30 < W3.heap.size := by rw [hW3]; exact hk30.lt
       have hl1 : b1 < W3.heap.size := by rw [hW3]; exact (hP1.from_ E30).lt
       refine st_val (ro_assign (v := .slice _ _ _) rfl) ?_
       refine st_nil ?_
       refine nx_then ?_
       refine cd_seq ?_
       refine cd_region ?_
       refine st_val (ro_assign (v := .slice _ _ _) rfl) ?_
       refine st_nil ?_
       refine nx_then ?_
       refine cd_seq ?_
       refine cd_seq ?_
       refine cd_region ?_
       refine st_val (ro_assign (v := .int _ _) rfl) ?_
       refine st_nil ?_
       refine nx_then ?_
       refine cd_block ?_
       refine cd_loop (G := Nat × Option Addr × Nat) [31, 32, 33, 34, 35, 36, 37, 38, 39, 40, 41, 42, 43] (fun (i, A5, c5) => [(5, .slice A5 i c5), (6, .int .i64 (i : Nat))]) (fun (i, A5, c5) w' => i ≤ n ∧ w'.ownsRow W3.heap.size 3 1 (.slice A5 i c5) i ((eachI n i).map iV) ∧ Blk w' b30 3 (List.replicate n (.int .i64 0)).toArray ∧ Blk w' b1 24 #[.int .i64 k, .slice A xs.length ca, .slice B is.length cb] ∧ From W3 w') (fun (i, _, _) => n - i) ((0, none, 0)) ⟨rfl, rfl, trivial⟩ ?_ ?_
       · exact ⟨Nat.zero_le _, World.ownsRow_nil _ _ _ _, hk30, hP1.from_ E30, by rw [hW3]; exact From.rfl_⟩
       rintro ⟨i, A5, c5⟩ ρ5 w5 ⟨hi, hoe, hS, hP1, hB3⟩
       refine cd_seq ?_
       refine cd_seq ?_
       refine cd_region ?_
       refine st_val (ro_move (v := .int _ _) rfl) ?_
       refine st_val (ro_move (v := .int _ _) rfl) ?_
       refine st_val (ro_lss rfl rfl) ?_
       refine st_nil ?_
       refine nx_then ?_
       refine cd_cond rfl (fun Q6 => ?_) (fun Q6 => ?_)
       · (try first | replace Q6 := bn_t Q6 | replace Q6 := bn_f Q6)
         (try first | replace Q6 := bx_t Q6 | replace Q6 := bx_f Q6 | replace Q6 := be_t Q6 | replace Q6 := be_f Q6 | replace Q6 := of_decide_eq_true Q6 | replace Q6 := of_decide_eq_false Q6)
         first
          | (exfalso; first | omega | contradiction | (cases Q6; done))
          | skip
            refine cd_skip ?_
            refine nx_then ?_
            refine cd_seq ?_
            refine cd_block ?_
            refine cd_region ?_
            refine st_val (ro_move (v := .slice _ _ _) rfl) ?_
            refine st_val (ro_move (v := .int _ _) rfl) ?_
            refine st_val (ro_mulN (b := 7) rfl rfl (by omega)) ?_
            refine st_val (ro_addN (b := 3) rfl rfl (by omega)) ?_
            refine st_val (ro_move (v := .int _ _) rfl) ?_
            refine st_val (ro_remN rfl rfl (by omega)) ?_
            refine st_lit1 (v := .int _ _) WavOne_q22 rfl rfl rfl ?_
            intro b42 w7 E42 hb42 hk42
            refine st_push1 (a0 := W3) WavOne_q22 rfl rfl (hoe.kept_from E42) (hB3.next E42) rfl hk42 rfl (by omega) (by omega) ?_
            intro A43 c43 w8 ho43 B43 hg43
            refine st_val (ro_assign (v := .slice _ _ _) rfl) ?_
            refine st_nil ?_
            refine nx_block ?_
            refine nx_then ?_
            refine cd_region ?_
            refine st_val (ro_move (v := .int _ _) rfl) ?_
            refine st_val (ro_addN (b := 1) rfl rfl (by omega)) ?_
            refine st_val (ro_assign (v := .int _ _) rfl) ?_
            refine st_nil ?_
            refine nx_cut ((i + 1, A43, c43)) ⟨(by first | rfl | (refine int_eq ?_; omega)), (by first | rfl | (refine int_eq ?_; omega)), trivial⟩ (by (iterate 30 refine agr_cons rfl ?_); exact agr_rfl) ⟨?_, ?_⟩
            · exact ⟨by omega, by rw [eachI_succ, List.map_append]; exact ho43, (hS.from_ E42).grown hg43 (fun q hq => by have := (own_at (hoe.kept_from E42) q hq).1; omega), (hP1.from_ E42).grown hg43 (fun q hq => by have := (own_at (hoe.kept_from E42) q hq).1; omega), B43⟩
            · show n - (i + 1) < n - i; omega
       · (try first | replace Q6 := bn_t Q6 | replace Q6 := bn_f Q6)
         (try first | replace Q6 := bx_t Q6 | replace Q6 := bx_f Q6 | replace Q6 := be_t Q6 | replace Q6 := be_f Q6 | replace Q6 := of_decide_eq_true Q6 | replace Q6 := of_decide_eq_false Q6)
         obtain rfl : n = i := by omega
         first
          | (exfalso; first | omega | contradiction | (cases Q6; done))
          | skip
            refine cd_exit ?_
            refine ex_then ?_
            refine ex_then ?_
            refine ex_block ?_
            refine nx_then ?_
            refine cd_seq ?_
            refine cd_region ?_
            refine st_val (ro_move (v := .slice _ _ _) rfl) ?_
            have hz46 := ((hF3.next hB3)).size
            refine st_call WavOne_k12 (new_same b30 n _ hS (by omega)) ?_
            rintro v46 w9 ⟨b, rfl, hv, E46⟩
            replace hv := hv.le hz46
            refine st_val (ro_move (v := .tuple _) rfl) ?_
            refine st_val (ro_extract rfl rfl) ?_
            refine st_val (ro_extract rfl rfl) ?_
            refine st_val (ro_assign (v := .pointer _) rfl) ?_
            refine st_val (ro_assign (v := .int _ _) rfl) ?_
            refine st_nil ?_
            refine nx_then ?_
            refine cd_seq ?_
            refine cd_seq ?_
            refine cd_region ?_
            refine st_val (ro_move (v := .int _ _) rfl) ?_
            refine st_call WavOne_k13 (num_any _ _) ?_
            rintro v50 w10 ⟨rfl, rfl⟩
            refine st_val (ro_neq rfl rfl) ?_
            refine st_val (ro_move (v := .bool _) rfl) ?_
            refine st_split (t := 52) rfl (fun Q11 => ?_) (fun Q11 => ?_)
            · (try first | replace Q11 := bn_t Q11 | replace Q11 := bn_f Q11)
              (try first | replace Q11 := bx_t Q11 | replace Q11 := bx_f Q11 | replace Q11 := be_t Q11 | replace Q11 := be_f Q11 | replace Q11 := of_decide_eq_true Q11 | replace Q11 := of_decide_eq_false Q11)
              first
               | (exfalso; first | omega | contradiction | (cases Q11; done))
               | skip
                 refine st_gno rfl rfl ?_
                 refine st_gno rfl rfl ?_
                 refine st_val (ro_pickT (v := .bool _) rfl rfl) ?_
                 refine st_nil ?_
                 refine nx_then ?_
                 refine cd_condT rfl ?_
                 refine cd_seq ?_
                 refine cd_region ?_
                 refine st_val (ro_assign (v := .bool _) rfl) ?_
                 refine st_nil ?_
                 refine nx_then ?_
                 refine cd_ret ?_
                 refine rt_then ?_
                 refine rt_block ?_
                 refine rt_then ?_
                 refine rt_then ?_
                 refine rt_block ?_
                 refine rt_then ?_
                 refine res1 (v := .bool _) rfl rfl ?_
                 exact ⟨rfl, ((hF3.next hB3).next E46)⟩
            · (try first | replace Q11 := bn_t Q11 | replace Q11 := bn_f Q11)
              (try first | replace Q11 := bx_t Q11 | replace Q11 := bx_f Q11 | replace Q11 := be_t Q11 | replace Q11 := be_f Q11 | replace Q11 := of_decide_eq_true Q11 | replace Q11 := of_decide_eq_false Q11)
              first
               | (exfalso; first | omega | contradiction | (cases Q11; done))
               | skip
                 refine st_unguard rfl ?_
                 refine st_val (ro_move (v := .pointer _) rfl) ?_
                 refine st_unguard rfl ?_
                 refine st_val (ro_eqlNil WavOne_p26 rfl rfl) ?_
                 refine st_val (ro_pickF (v := .bool _) rfl rfl) ?_
                 refine st_nil ?_
                 refine nx_then ?_
                 refine cd_cond rfl (fun Q12 => ?_) (fun Q12 => ?_)
                 · (try first | replace Q12 := bn_t Q12 | replace Q12 := bn_f Q12)
                   (try first | replace Q12 := bx_t Q12 | replace Q12 := bx_f Q12 | replace Q12 := be_t Q12 | replace Q12 := be_f Q12 | replace Q12 := of_decide_eq_true Q12 | replace Q12 := of_decide_eq_false Q12)
                   first
                    | (exfalso; first | omega | contradiction | (cases Q12; done))
                    | skip
                      refine cd_seq ?_
                      refine cd_region ?_
                      refine st_val (ro_assign (v := .bool _) rfl) ?_
                      refine st_nil ?_
                      refine nx_then ?_
                      refine cd_ret ?_
                      refine rt_then ?_
                      refine rt_block ?_
                      refine rt_then ?_
                      refine rt_then ?_
                      refine rt_block ?_
                      refine rt_then ?_
                      refine res1 (v := .bool _) rfl rfl ?_
                      exact ⟨rfl, ((hF3.next hB3).next E46)⟩
                 · (try first | replace Q12 := bn_t Q12 | replace Q12 := bn_f Q12)
                   (try first | replace Q12 := bx_t Q12 | replace Q12 := bx_f Q12 | replace Q12 := be_t Q12 | replace Q12 := be_f Q12 | replace Q12 := of_decide_eq_true Q12 | replace Q12 := of_decide_eq_false Q12)
                   first
                    | (exfalso; first | omega | contradiction | (cases Q12; done))
                    | skip
                      refine cd_skip ?_
                      refine nx_then ?_
                      refine cd_seq ?_
                      refine cd_seq ?_
                      refine cd_region ?_
                      refine st_val (ro_assign (v := .int _ _) rfl) ?_
                      refine st_nil ?_
                      refine nx_then ?_
                      refine cd_block ?_
                      refine cd_loop (G := Nat) [2, 10, 11, 12, 13, 56, 57, 58, 59, 60, 61, 62, 63, 64, 65, 66, 67, 68, 69, 70, 71, 72, 73, 74, 75, 76, 77, 78, 79, 80, 81, 82, 83, 84, 85, 86, 87, 88, 89, 90] (fun j => [(9, .int .i64 (j : Nat))]) (fun j w' => j ≤ n ∧ TreeAt w' w.heap.size b 1 (List.replicate n 0) ∧ w'.ownsRow W3.heap.size 3 1 (.slice A5 n c5) n ((eachI n n).map iV) ∧ Blk w' b1 24 #[.int .i64 k, .slice A xs.length ca, .slice B is.length cb] ∧ From w w') (fun j => n - j) (0) ⟨rfl, trivial⟩ ?_ ?_
                      · exact ⟨Nat.zero_le _, hv.from_ From.rfl_, hoe.kept_from E46, hP1.from_ E46, ((hF3.next hB3).next E46)⟩
                      rintro j ρ13 w13 ⟨hj, hv, hoe, hP1, hB⟩
                      refine cd_seq ?_
                      refine cd_seq ?_
                      refine cd_region ?_
                      refine st_val (ro_move (v := .int _ _) rfl) ?_
                      refine st_val (ro_move (v := .int _ _) rfl) ?_
                      refine st_val (ro_lss rfl rfl) ?_
                      refine st_nil ?_
                      refine nx_then ?_
                      refine cd_cond rfl (fun Q14 => ?_) (fun Q14 => ?_)
                      · (try first | replace Q14 := bn_t Q14 | replace Q14 := bn_f Q14)
                        (try first | replace Q14 := bx_t Q14 | replace Q14 := bx_f Q14 | replace Q14 := be_t Q14 | replace Q14 := be_f Q14 | replace Q14 := of_decide_eq_true Q14 | replace Q14 := of_decide_eq_false Q14)
                        first
                         | (exfalso; first | omega | contradiction | (cases Q14; done))
                         | skip
                           refine cd_skip ?_
                           refine nx_then ?_
                           refine cd_seq ?_
                           refine cd_block ?_
                           refine cd_seq ?_
                           refine cd_region ?_
                           refine st_val (ro_move (v := .pointer _) rfl) ?_
                           refine st_val (ro_move (v := .int _ _) rfl) ?_
                           refine st_call WavOne_k10 (sel_is _ b 1 (List.replicate n 0) _ (hv.from_ From.rfl_) (hTZ.from_ hB) 0 j j (by omega) (by rw [List.length_replicate]; omega) (by simp) (same_cnt (by omega))) ?_
                           rintro v64 w15 ⟨rfl, E64⟩
                           refine st_val (ro_move (v := .tuple _) rfl) ?_
                           refine st_val (ro_extract rfl rfl) ?_
                           refine st_val (ro_extract rfl rfl) ?_
                           refine st_val (ro_assign (v := .int _ _) rfl) ?_
                           refine st_val (ro_assign (v := .int _ _) rfl) ?_
                           refine st_nil ?_
                           refine nx_then ?_
                           refine cd_seq ?_
                           refine cd_region ?_
                           refine st_val (ro_move (v := .pointer _) rfl) ?_
                           refine st_val (ro_move (v := .int _ _) rfl) ?_
                           refine st_call WavOne_k15 (rank_at _ b 1 (List.replicate n 0) _ (hv.from_ (From.rfl_.next E64)) 0 j j (by omega) (by rw [List.length_replicate]; omega) (same_cnt (by omega))) ?_
                           rintro v70 w16 ⟨rfl, E70⟩
                           refine st_val (ro_move (v := .tuple _) rfl) ?_
                           refine st_val (ro_extract rfl rfl) ?_
                           refine st_val (ro_extract rfl rfl) ?_
                           refine st_val (ro_assign (v := .int _ _) rfl) ?_
                           refine st_val (ro_assign (v := .int _ _) rfl) ?_
                           refine st_nil ?_
                           refine nx_then ?_
                           refine cd_seq ?_
                           refine cd_region ?_
                           refine st_val (ro_move (v := .int _ _) rfl) ?_
                           refine st_call WavOne_k13 (num_any _ _) ?_
                           rintro v74 w17 ⟨rfl, rfl⟩
                           refine st_val (ro_neq rfl rfl) ?_
                           refine st_val (ro_move (v := .bool _) rfl) ?_
                           refine st_split (t := 76) rfl (fun Q18 => ?_) (fun Q18 => ?_)
                           · (try first | replace Q18 := bn_t Q18 | replace Q18 := bn_f Q18)
                             (try first | replace Q18 := bx_t Q18 | replace Q18 := bx_f Q18 | replace Q18 := be_t Q18 | replace Q18 := be_f Q18 | replace Q18 := of_decide_eq_true Q18 | replace Q18 := of_decide_eq_false Q18)
                             first
                              | (exfalso; first | omega | contradiction | (cases Q18; done))
                              | skip
                                refine st_gno rfl rfl ?_
                                refine st_gno rfl rfl ?_
                                refine st_gno rfl rfl ?_
                                refine st_val (ro_pickT (v := .bool _) rfl rfl) ?_
                                refine st_val (ro_move (v := .bool _) rfl) ?_
                                refine st_gno rfl rfl ?_
                                refine st_gno rfl rfl ?_
                                refine st_gno rfl rfl ?_
                                refine st_val (ro_pickT (v := .bool _) rfl rfl) ?_
                                refine st_val (ro_move (v := .bool _) rfl) ?_
                                refine st_gno rfl rfl ?_
                                refine st_gno rfl rfl ?_
                                refine st_gno rfl rfl ?_
                                refine st_val (ro_pickT (v := .bool _) rfl rfl) ?_
                                refine st_nil ?_
                                refine nx_then ?_
                                refine cd_condT rfl ?_
                                refine cd_seq ?_
                                refine cd_region ?_
                                refine st_val (ro_assign (v := .bool _) rfl) ?_
                                refine st_nil ?_
                                refine nx_then ?_
                                refine cd_ret ?_
                                refine rt_block ?_
                                refine rt_then ?_
                                refine rt_then ?_
                                refine rt_block ?_
                                refine rt_then ?_
                                refine rt_block ?_
                                refine rt_then ?_
                                refine rt_then ?_
                                refine rt_block ?_
                                refine rt_then ?_
                                refine res1 (v := .bool _) rfl rfl ?_
                                exact ⟨rfl, ((hB.next E64).next E70)⟩
                           · (try first | replace Q18 := bn_t Q18 | replace Q18 := bn_f Q18)
                             (try first | replace Q18 := bx_t Q18 | replace Q18 := bx_f Q18 | replace Q18 := be_t Q18 | replace Q18 := be_f Q18 | replace Q18 := of_decide_eq_true Q18 | replace Q18 := of_decide_eq_false Q18)
                             first
                              | (exfalso; first | omega | contradiction | (cases Q18; done))
                              | skip
                                refine st_unguard rfl ?_
                                refine st_val (ro_move (v := .int _ _) rfl) ?_
                                refine st_unguard rfl ?_
                                refine st_call WavOne_k13 (num_any _ _) ?_
                                rintro v78 w19 ⟨rfl, rfl⟩
                                refine st_unguard rfl ?_
                                refine st_val (ro_neq rfl rfl) ?_
                                refine st_val (ro_pickF (v := .bool _) rfl rfl) ?_
                                refine st_val (ro_move (v := .bool _) rfl) ?_
                                refine st_split (t := 81) rfl (fun Q20 => ?_) (fun Q20 => ?_)
                                · (try first | replace Q20 := bn_t Q20 | replace Q20 := bn_f Q20)
                                  (try first | replace Q20 := bx_t Q20 | replace Q20 := bx_f Q20 | replace Q20 := be_t Q20 | replace Q20 := be_f Q20 | replace Q20 := of_decide_eq_true Q20 | replace Q20 := of_decide_eq_false Q20)
                                  first
                                   | (exfalso; first | omega | contradiction | (cases Q20; done))
                                   | skip
                                     refine st_gno rfl rfl ?_
                                     refine st_gno rfl rfl ?_
                                     refine st_gno rfl rfl ?_
                                     refine st_val (ro_pickT (v := .bool _) rfl rfl) ?_
                                     refine st_val (ro_move (v := .bool _) rfl) ?_
                                     refine st_gno rfl rfl ?_
                                     refine st_gno rfl rfl ?_
                                     refine st_gno rfl rfl ?_
                                     refine st_val (ro_pickT (v := .bool _) rfl rfl) ?_
                                     refine st_nil ?_
                                     refine nx_then ?_
                                     refine cd_condT rfl ?_
                                     refine cd_seq ?_
                                     refine cd_region ?_
                                     refine st_val (ro_assign (v := .bool _) rfl) ?_
                                     refine st_nil ?_
                                     refine nx_then ?_
                                     refine cd_ret ?_
                                     refine rt_block ?_
                                     refine rt_then ?_
                                     refine rt_then ?_
                                     refine rt_block ?_
                                     refine rt_then ?_
                                     refine rt_block ?_
                                     refine rt_then ?_
                                     refine rt_then ?_
                                     refine rt_block ?_
                                     refine rt_then ?_
                                     refine res1 (v := .bool _) rfl rfl ?_
                                     exact ⟨rfl, ((hB.next E64).next E70)⟩
                                · (try first | replace Q20 := bn_t Q20 | replace Q20 := bn_f Q20)
                                  (try first | replace Q20 := bx_t Q20 | replace Q20 := bx_f Q20 | replace Q20 := be_t Q20 | replace Q20 := be_f Q20 | replace Q20 := of_decide_eq_true Q20 | replace Q20 := of_decide_eq_false Q20)
                                  first
                                   | (exfalso; first | omega | contradiction | (cases Q20; done))
                                   | skip
                                     refine st_unguard rfl ?_
                                     refine st_val (ro_move (v := .int _ _) rfl) ?_
                                     refine st_unguard rfl ?_
                                     refine st_val (ro_move (v := .int _ _) rfl) ?_
                                     refine st_unguard rfl ?_
                                     refine st_val (ro_neq rfl rfl) ?_
                                     refine st_val (ro_pickF (v := .bool _) rfl rfl) ?_
                                     refine st_val (ro_move (v := .bool _) rfl) ?_
                                     refine st_split (t := 86) rfl (fun Q21 => ?_) (fun Q21 => ?_)
                                     · (try first | replace Q21 := bn_t Q21 | replace Q21 := bn_f Q21)
                                       (try first | replace Q21 := bx_t Q21 | replace Q21 := bx_f Q21 | replace Q21 := be_t Q21 | replace Q21 := be_f Q21 | replace Q21 := of_decide_eq_true Q21 | replace Q21 := of_decide_eq_false Q21)
                                       first
                                        | (exfalso; first | omega | contradiction | (cases Q21; done))
                                        | skip
                                          refine st_gno rfl rfl ?_
                                          refine st_gno rfl rfl ?_
                                          refine st_gno rfl rfl ?_
                                          refine st_val (ro_pickT (v := .bool _) rfl rfl) ?_
                                          refine st_nil ?_
                                          refine nx_then ?_
                                          refine cd_condT rfl ?_
                                          refine cd_seq ?_
                                          refine cd_region ?_
                                          refine st_val (ro_assign (v := .bool _) rfl) ?_
                                          refine st_nil ?_
                                          refine nx_then ?_
                                          refine cd_ret ?_
                                          refine rt_block ?_
                                          refine rt_then ?_
                                          refine rt_then ?_
                                          refine rt_block ?_
                                          refine rt_then ?_
                                          refine rt_block ?_
                                          refine rt_then ?_
                                          refine rt_then ?_
                                          refine rt_block ?_
                                          refine rt_then ?_
                                          refine res1 (v := .bool _) rfl rfl ?_
                                          exact ⟨rfl, ((hB.next E64).next E70)⟩
                                     · (try first | replace Q21 := bn_t Q21 | replace Q21 := bn_f Q21)
                                       (try first | replace Q21 := bx_t Q21 | replace Q21 := bx_f Q21 | replace Q21 := be_t Q21 | replace Q21 := be_f Q21 | replace Q21 := of_decide_eq_true Q21 | replace Q21 := of_decide_eq_false Q21)
                                       first
                                        | (exfalso; first | omega | contradiction | (cases Q21; done))
                                        | skip
                                          refine st_unguard rfl ?_
                                          refine st_val (ro_move (v := .int _ _) rfl) ?_
                                          refine st_unguard rfl ?_
                                          refine st_val (ro_move (v := .int _ _) rfl) ?_
                                          refine st_unguard rfl ?_
                                          refine st_val (ro_neq rfl rfl) ?_
                                          refine st_val (ro_pickF (v := .bool _) rfl rfl) ?_
                                          refine st_nil ?_
                                          refine nx_then ?_
                                          refine cd_cond rfl (fun Q22 => ?_) (fun Q22 => ?_)
                                          · (try first | replace Q22 := bn_t Q22 | replace Q22 := bn_f Q22)
                                            (try first | replace Q22 := bx_t Q22 | replace Q22 := bx_f Q22 | replace Q22 := be_t Q22 | replace Q22 := be_f Q22 | replace Q22 := of_decide_eq_true Q22 | replace Q22 := of_decide_eq_false Q22)
                                            first
                                             | (exfalso; first | omega | contradiction | (cases Q22; done))
                                             | skip
                                               refine cd_seq ?_
                                               refine cd_region ?_
                                               refine st_val (ro_assign (v := .bool _) rfl) ?_
                                               refine st_nil ?_
                                               refine nx_then ?_
                                               refine cd_ret ?_
                                               refine rt_block ?_
                                               refine rt_then ?_
                                               refine rt_then ?_
                                               refine rt_block ?_
                                               refine rt_then ?_
                                               refine rt_block ?_
                                               refine rt_then ?_
                                               refine rt_then ?_
                                               refine rt_block ?_
                                               refine rt_then ?_
                                               refine res1 (v := .bool _) rfl rfl ?_
                                               exact ⟨rfl, ((hB.next E64).next E70)⟩
                                          · (try first | replace Q22 := bn_t Q22 | replace Q22 := bn_f Q22)
                                            (try first | replace Q22 := bx_t Q22 | replace Q22 := bx_f Q22 | replace Q22 := be_t Q22 | replace Q22 := be_f Q22 | replace Q22 := of_decide_eq_true Q22 | replace Q22 := of_decide_eq_false Q22)
                                            first
                                             | (exfalso; first | omega | contradiction | (cases Q22; done))
                                             | skip
                                               refine cd_skip ?_
                                               refine nx_block ?_
                                               refine nx_then ?_
                                               refine cd_region ?_
                                               refine st_val (ro_move (v := .int _ _) rfl) ?_
                                               refine st_val (ro_addN (b := 1) rfl rfl (by omega)) ?_
                                               refine st_val (ro_assign (v := .int _ _) rfl) ?_
                                               refine st_nil ?_
                                               refine nx_cut (j + 1) ⟨(by first | rfl | (refine int_eq ?_; omega)), trivial⟩ (by (iterate 84 refine agr_cons rfl ?_); exact agr_rfl) ⟨?_, ?_⟩
                                               · exact ⟨by omega, hv.from_ ((From.rfl_.next E64).next E70), hoe.kept_from ((From.rfl_.next E64).next E70), hP1.from_ ((From.rfl_.next E64).next E70), ((hB.next E64).next E70)⟩
                                               · omega
                      · (try first | replace Q14 := bn_t Q14 | replace Q14 := bn_f Q14)
                        (try first | replace Q14 := bx_t Q14 | replace Q14 := bx_f Q14 | replace Q14 := be_t Q14 | replace Q14 := be_f Q14 | replace Q14 := of_decide_eq_true Q14 | replace Q14 := of_decide_eq_false Q14)
                        first
                         | (exfalso; first | omega | contradiction | (cases Q14; done))
                         | skip
                           refine cd_exit ?_
                           refine ex_then ?_
                           refine ex_then ?_
                           refine ex_block ?_
                           refine nx_then ?_
                           refine cd_seq ?_
                           refine cd_seq ?_
                           refine cd_region ?_
                           refine st_val (ro_move (v := .int _ _) rfl) ?_
                           refine st_val (ro_remN (b := 7) rfl rfl (by decide)) ?_
                           refine st_val (ro_eql rfl rfl) ?_
                           refine st_val (ro_move (v := .bool _) rfl) ?_
                           refine st_split (t := 94) rfl (fun Q23 => ?_) (fun Q23 => ?_)
                           · (try first | replace Q23 := bn_t Q23 | replace Q23 := bn_f Q23)
                             (try first | replace Q23 := bx_t Q23 | replace Q23 := bx_f Q23 | replace Q23 := be_t Q23 | replace Q23 := be_f Q23 | replace Q23 := of_decide_eq_true Q23 | replace Q23 := of_decide_eq_false Q23)
                             first
                              | (exfalso; first | omega | contradiction | (cases Q23; done))
                              | skip
                                refine st_gno rfl rfl ?_
                                refine st_gno rfl rfl ?_
                                refine st_val (ro_pickT (v := .bool _) rfl rfl) ?_
                                refine st_nil ?_
                                refine nx_then ?_
                                refine cd_condT rfl ?_
                                refine cd_exit ?_
                                refine ex_then ?_
                                refine ex_block ?_
                                refine nx_then ?_
                                refine cd_region ?_
                                refine st_val (ro_move (v := .int _ _) rfl) ?_
                                refine st_val (ro_addN (b := 1) rfl rfl (by omega)) ?_
                                refine st_val (ro_move (v := .int _ _) rfl) ?_
                                refine st_val (ro_quoN (b := 4) rfl rfl (by omega)) ?_
                                refine st_val (ro_addN rfl rfl (by omega)) ?_
                                refine st_val (ro_assign (v := .int _ _) rfl) ?_
                                refine st_nil ?_
                                refine nx_cut (n + 1 + n / 4) ⟨(by first | rfl | (refine int_eq ?_; omega)), trivial⟩ (by (iterate 260 refine agr_cons rfl ?_); exact agr_rfl) ⟨?_, ?_⟩
                                · exact ⟨sizes_step n hnS, hP1.from_ From.rfl_, hB⟩
                                · omega
                           · (try first | replace Q23 := bn_t Q23 | replace Q23 := bn_f Q23)
                             (try first | replace Q23 := bx_t Q23 | replace Q23 := bx_f Q23 | replace Q23 := be_t Q23 | replace Q23 := be_f Q23 | replace Q23 := of_decide_eq_true Q23 | replace Q23 := of_decide_eq_false Q23)
                             have h7 : n % 7 ≠ 0 := by omega
                             first
                              | (exfalso; first | omega | contradiction | (cases Q23; done))
                              | skip
                                refine st_unguard rfl ?_
                                refine st_val (ro_move (v := .int _ _) rfl) ?_
                                refine st_unguard rfl ?_
                                refine st_val (ro_eql rfl rfl) ?_
                                refine st_val (ro_pickF (v := .bool _) rfl rfl) ?_
                                refine st_nil ?_
                                refine nx_then ?_
                                refine cd_cond rfl (fun Q24 => ?_) (fun Q24 => ?_)
                                · (try first | replace Q24 := bn_t Q24 | replace Q24 := bn_f Q24)
                                  (try first | replace Q24 := bx_t Q24 | replace Q24 := bx_f Q24 | replace Q24 := be_t Q24 | replace Q24 := be_f Q24 | replace Q24 := of_decide_eq_true Q24 | replace Q24 := of_decide_eq_false Q24)
                                  first
                                   | (exfalso; first | omega | contradiction | (cases Q24; done))
                                   | skip
                                     refine cd_exit ?_
                                     refine ex_then ?_
                                     refine ex_block ?_
                                     refine nx_then ?_
                                     refine cd_region ?_
                                     refine st_val (ro_move (v := .int _ _) rfl) ?_
                                     refine st_val (ro_addN (b := 1) rfl rfl (by omega)) ?_
                                     refine st_val (ro_move (v := .int _ _) rfl) ?_
                                     refine st_val (ro_quoN (b := 4) rfl rfl (by omega)) ?_
                                     refine st_val (ro_addN rfl rfl (by omega)) ?_
                                     refine st_val (ro_assign (v := .int _ _) rfl) ?_
                                     refine st_nil ?_
                                     refine nx_cut (n + 1 + n / 4) ⟨(by first | rfl | (refine int_eq ?_; omega)), trivial⟩ (by (iterate 260 refine agr_cons rfl ?_); exact agr_rfl) ⟨?_, ?_⟩
                                     · exact ⟨sizes_step n hnS, hP1.from_ From.rfl_, hB⟩
                                     · omega
                                · (try first | replace Q24 := bn_t Q24 | replace Q24 := bn_f Q24)
                                  (try first | replace Q24 := bx_t Q24 | replace Q24 := bx_f Q24 | replace Q24 := be_t Q24 | replace Q24 := be_f Q24 | replace Q24 := of_decide_eq_true Q24 | replace Q24 := of_decide_eq_false Q24)
                                  first
                                   | (exfalso; first | omega | contradiction | (cases Q24; done))
                                   | skip
                                     refine cd_skip ?_
                                     refine nx_then ?_
                                     refine cd_seq ?_
                                     refine cd_region ?_
                                     refine st_val (ro_move (v := .int _ _) rfl) ?_
                                     refine st_val (ro_move (v := .slice _ _ _) rfl) ?_
                                     have hz101 := (hB).size
                                     refine st_call WavOne_k12 (new_each n c5 _ A5 _ hoe (by omega) (by omega)) ?_
                                     rintro v101 w25 ⟨b2, rfl, hv2, E101⟩
                                     replace hv2 := hv2.le hz101
                                     refine st_val (ro_move (v := .tuple _) rfl) ?_
                                     refine st_val (ro_extract rfl rfl) ?_
                                     refine st_val (ro_extract rfl rfl) ?_
                                     refine st_val (ro_assign (v := .pointer _) rfl) ?_
                                     refine st_val (ro_assign (v := .int _ _) rfl) ?_
                                     refine st_nil ?_
                                     refine nx_then ?_
                                     refine cd_seq ?_
                                     refine cd_seq ?_
                                     refine cd_region ?_
                                     refine st_val (ro_move (v := .int _ _) rfl) ?_
                                     refine st_call WavOne_k13 (num_any _ _) ?_
                                     rintro v105 w26 ⟨rfl, rfl⟩
                                     refine st_val (ro_neq rfl rfl) ?_
                                     refine st_val (ro_move (v := .bool _) rfl) ?_
                                     refine st_split (t := 107) rfl (fun Q27 => ?_) (fun Q27 => ?_)
                                     · (try first | replace Q27 := bn_t Q27 | replace Q27 := bn_f Q27)
                                       (try first | replace Q27 := bx_t Q27 | replace Q27 := bx_f Q27 | replace Q27 := be_t Q27 | replace Q27 := be_f Q27 | replace Q27 := of_decide_eq_true Q27 | replace Q27 := of_decide_eq_false Q27)
                                       first
                                        | (exfalso; first | omega | contradiction | (cases Q27; done))
                                        | skip
                                          refine st_gno rfl rfl ?_
                                          refine st_gno rfl rfl ?_
                                          refine st_val (ro_pickT (v := .bool _) rfl rfl) ?_
                                          refine st_nil ?_
                                          refine nx_then ?_
                                          refine cd_condT rfl ?_
                                          refine cd_seq ?_
                                          refine cd_region ?_
                                          refine st_val (ro_assign (v := .bool _) rfl) ?_
                                          refine st_nil ?_
                                          refine nx_then ?_
                                          refine cd_ret ?_
                                          refine rt_then ?_
                                          refine rt_block ?_
                                          refine rt_then ?_
                                          refine rt_then ?_
                                          refine rt_block ?_
                                          refine rt_then ?_
                                          refine res1 (v := .bool _) rfl rfl ?_
                                          exact ⟨rfl, (hB.next E101)⟩
                                     · (try first | replace Q27 := bn_t Q27 | replace Q27 := bn_f Q27)
                                       (try first | replace Q27 := bx_t Q27 | replace Q27 := bx_f Q27 | replace Q27 := be_t Q27 | replace Q27 := be_f Q27 | replace Q27 := of_decide_eq_true Q27 | replace Q27 := of_decide_eq_false Q27)
                                       first
                                        | (exfalso; first | omega | contradiction | (cases Q27; done))
                                        | skip
                                          refine st_unguard rfl ?_
                                          refine st_val (ro_move (v := .pointer _) rfl) ?_
                                          refine st_unguard rfl ?_
                                          refine st_val (ro_eqlNil WavOne_p26 rfl rfl) ?_
                                          refine st_val (ro_pickF (v := .bool _) rfl rfl) ?_
                                          refine st_nil ?_
                                          refine nx_then ?_
                                          refine cd_cond rfl (fun Q28 => ?_) (fun Q28 => ?_)
                                          · (try first | replace Q28 := bn_t Q28 | replace Q28 := bn_f Q28)
                                            (try first | replace Q28 := bx_t Q28 | replace Q28 := bx_f Q28 | replace Q28 := be_t Q28 | replace Q28 := be_f Q28 | replace Q28 := of_decide_eq_true Q28 | replace Q28 := of_decide_eq_false Q28)
                                            first
                                             | (exfalso; first | omega | contradiction | (cases Q28; done))
                                             | skip
                                               refine cd_seq ?_
                                               refine cd_region ?_
                                               refine st_val (ro_assign (v := .bool _) rfl) ?_
                                               refine st_nil ?_
                                               refine nx_then ?_
                                               refine cd_ret ?_
                                               refine rt_then ?_
                                               refine rt_block ?_
                                               refine rt_then ?_
                                               refine rt_then ?_
                                               refine rt_block ?_
                                               refine rt_then ?_
                                               refine res1 (v := .bool _) rfl rfl ?_
                                               exact ⟨rfl, (hB.next E101)⟩
                                          · (try first | replace Q28 := bn_t Q28 | replace Q28 := bn_f Q28)
                                            (try first | replace Q28 := bx_t Q28 | replace Q28 := bx_f Q28 | replace Q28 := be_t Q28 | replace Q28 := be_f Q28 | replace Q28 := of_decide_eq_true Q28 | replace Q28 := of_decide_eq_false Q28)
                                            first
                                             | (exfalso; first | omega | contradiction | (cases Q28; done))
                                             | skip
                                               refine cd_skip ?_
                                               refine nx_then ?_
                                               refine cd_seq ?_
                                               refine cd_region ?_
                                               refine st_val (ro_assign (v := .int _ _) rfl) ?_
                                               refine st_nil ?_
                                               refine nx_then ?_
                                               refine cd_block ?_
                                               refine cd_loop (G := Nat) [2, 16, 17, 18, 19, 20, 21, 111, 112, 113, 114, 115, 116, 117, 118, 119, 120, 121, 122, 123, 124, 125, 126, 127, 128, 129, 130, 131, 132, 133, 134, 135, 136, 137, 138, 139, 140, 141, 142, 143, 144, 145, 146, 147, 148, 149, 150, 151, 152, 153, 154, 155, 156, 157, 158, 159, 160, 161, 162] (fun j => [(15, .int .i64 (j : Nat))]) (fun j w' => j ≤ n ∧ TreeAt w' w.heap.size b2 n (eachL n) ∧ w'.ownsRow W3.heap.size 3 1 (.slice A5 n c5) n ((eachI n n).map iV) ∧ Blk w' b1 24 #[.int .i64 k, .slice A xs.length ca, .slice B is.length cb] ∧ From w w') (fun j => n - j) (0) ⟨rfl, trivial⟩ ?_ ?_
                                               · exact ⟨Nat.zero_le _, hv2.from_ From.rfl_, hoe.kept_from E101, hP1.from_ E101, (hB.next E101)⟩
                                               rintro j ρ29 w29 ⟨hj, hv, hoe, hP1, hB⟩
                                               refine cd_seq ?_
                                               refine cd_seq ?_
                                               refine cd_region ?_
                                               refine st_val (ro_move (v := .int _ _) rfl) ?_
                                               refine st_val (ro_move (v := .int _ _) rfl) ?_
                                               refine st_val (ro_lss rfl rfl) ?_
                                               refine st_nil ?_
                                               refine nx_then ?_
                                               refine cd_cond rfl (fun Q30 => ?_) (fun Q30 => ?_)
                                               · (try first | replace Q30 := bn_t Q30 | replace Q30 := bn_f Q30)
                                                 (try first | replace Q30 := bx_t Q30 | replace Q30 := bx_f Q30 | replace Q30 := be_t Q30 | replace Q30 := be_f Q30 | replace Q30 := of_decide_eq_true Q30 | replace Q30 := of_decide_eq_false Q30)
                                                 obtain ⟨g5, rfl⟩ := own_some hoe (by omega)
                                                 obtain ⟨h1, h2, h3⟩ := each_ok hnS h7 (i := j) (by omega)
                                                 have hj7 : (j * 7 + 3) % n < n := Nat.mod_lt _ (by omega)
                                                 have hce : ∀ q, q < n → ∀ w2 : World, w2.ownsRow W3.heap.size 3 1 (.slice (some ⟨g5, 0, none⟩) n c5) n ((eachI n n).map iV) → w2.cell? ⟨g5, q, none⟩ = some (.int .i64 (((q * 7 + 3) % n : Nat) : Int)) := fun q hq w2 ho => by
                                                   rw [own_cell ho q (by unfold eachI; simpa using hq)]
                                                   unfold eachI
                                                   simp [iV]
                                                 first
                                                  | (exfalso; first | omega | contradiction | (cases Q30; done))
                                                  | skip
                                                    refine cd_skip ?_
                                                    refine nx_then ?_
                                                    refine cd_seq ?_
                                                    refine cd_block ?_
                                                    refine cd_seq ?_
                                                    refine cd_region ?_
                                                    refine st_val (ro_move (v := .pointer _) rfl) ?_
                                                    refine st_val (ro_move (v := .slice _ _ _) rfl) ?_
                                                    refine st_val (ro_move (v := .int _ _) rfl) ?_
                                                    refine st_val (ro_indexAddr0 WavOne_e22 rfl rfl (by omega)) ?_
                                                    refine st_val (ro_load WavOne_g3 rfl (by exact hce j (by omega) _ (hoe.kept_from From.rfl_))) ?_
                                                    refine st_call WavOne_k10 (sel_is _ b2 n (eachL n) _ (hv.from_ From.rfl_) (hTZ.from_ hB) ((j * 7 + 3) % n) 0 j hj7 (by rw [each_len]; omega) (each_get (by omega)) h1) ?_
                                                    rintro v122 w31 ⟨rfl, E122⟩
                                                    refine st_val (ro_move (v := .tuple _) rfl) ?_
                                                    refine st_val (ro_extract rfl rfl) ?_
                                                    refine st_val (ro_extract rfl rfl) ?_
                                                    refine st_val (ro_assign (v := .int _ _) rfl) ?_
                                                    refine st_val (ro_assign (v := .int _ _) rfl) ?_
                                                    refine st_nil ?_
                                                    refine nx_then ?_
                                                    refine cd_seq ?_
                                                    refine cd_region ?_
                                                    refine st_val (ro_move (v := .pointer _) rfl) ?_
                                                    refine st_val (ro_move (v := .int _ _) rfl) ?_
                                                    refine st_call WavOne_k14 (less_at _ b2 n (eachL n) _ (hv.from_ (From.rfl_.next E122)) j (by omega)) ?_
                                                    rintro v128 w32 ⟨rfl, rfl⟩
                                                    refine st_val (ro_move (v := .tuple _) rfl) ?_
                                                    refine st_val (ro_extract rfl rfl) ?_
                                                    refine st_val (ro_extract rfl rfl) ?_
                                                    refine st_val (ro_assign (v := .int _ _) rfl) ?_
                                                    refine st_val (ro_assign (v := .int _ _) rfl) ?_
                                                    refine st_nil ?_
                                                    refine nx_then ?_
                                                    refine cd_seq ?_
                                                    refine cd_region ?_
                                                    refine st_val (ro_move (v := .pointer _) rfl) ?_
                                                    refine st_val (ro_move (v := .slice _ _ _) rfl) ?_
                                                    refine st_val (ro_move (v := .int _ _) rfl) ?_
                                                    refine st_val (ro_indexAddr0 WavOne_e22 rfl rfl (by omega)) ?_
                                                    refine st_val (ro_load WavOne_g3 rfl (by exact hce j (by omega) _ (hoe.kept_from (From.rfl_.next E122)))) ?_
                                                    refine st_call WavOne_k10 (sel_none _ b2 n (eachL n) _ (hv.from_ (From.rfl_.next E122)) (hTZ.from_ (hB.next E122)) ((j * 7 + 3) % n) 1 hj7 (by rw [each_len, h2]; omega)) ?_
                                                    rintro v137 w33 ⟨rfl, E137⟩
                                                    refine st_val (ro_move (v := .tuple _) rfl) ?_
                                                    refine st_val (ro_extract rfl rfl) ?_
                                                    refine st_val (ro_extract rfl rfl) ?_
                                                    refine st_val (ro_assign (v := .int _ _) rfl) ?_
                                                    refine st_val (ro_assign (v := .int _ _) rfl) ?_
                                                    refine st_nil ?_
                                                    refine nx_then ?_
                                                    refine cd_seq ?_
                                                    refine cd_region ?_
                                                    refine st_val (ro_move (v := .int _ _) rfl) ?_
                                                    refine st_call WavOne_k13 (num_any _ _) ?_
                                                    rintro v141 w34 ⟨rfl, rfl⟩
                                                    refine st_val (ro_neq rfl rfl) ?_
                                                    refine st_val (ro_move (v := .bool _) rfl) ?_
                                                    refine st_split (t := 143) rfl (fun Q35 => ?_) (fun Q35 => ?_)
                                                    · (try first | replace Q35 := bn_t Q35 | replace Q35 := bn_f Q35)
                                                      (try first | replace Q35 := bx_t Q35 | replace Q35 := bx_f Q35 | replace Q35 := be_t Q35 | replace Q35 := be_f Q35 | replace Q35 := of_decide_eq_true Q35 | replace Q35 := of_decide_eq_false Q35)
                                                      first
                                                       | (exfalso; first | omega | contradiction | (cases Q35; done))
                                                       | skip
                                                         refine st_gno rfl rfl ?_
                                                         refine st_gno rfl rfl ?_
                                                         refine st_gno rfl rfl ?_
                                                         refine st_val (ro_pickT (v := .bool _) rfl rfl) ?_
                                                         refine st_val (ro_move (v := .bool _) rfl) ?_
                                                         refine st_gno rfl rfl ?_
                                                         refine st_gno rfl rfl ?_
                                                         refine st_gno rfl rfl ?_
                                                         refine st_val (ro_pickT (v := .bool _) rfl rfl) ?_
                                                         refine st_val (ro_move (v := .bool _) rfl) ?_
                                                         refine st_gno rfl rfl ?_
                                                         refine st_gno rfl rfl ?_
                                                         refine st_gno rfl rfl ?_
                                                         refine st_val (ro_pickT (v := .bool _) rfl rfl) ?_
                                                         refine st_val (ro_move (v := .bool _) rfl) ?_
                                                         refine st_gno rfl rfl ?_
                                                         refine st_gno rfl rfl ?_
                                                         refine st_gno rfl rfl ?_
                                                         refine st_val (ro_pickT (v := .bool _) rfl rfl) ?_
                                                         refine st_nil ?_
                                                         refine nx_then ?_
                                                         refine cd_condT rfl ?_
                                                         refine cd_seq ?_
                                                         refine cd_region ?_
                                                         refine st_val (ro_assign (v := .bool _) rfl) ?_
                                                         refine st_nil ?_
                                                         refine nx_then ?_
                                                         refine cd_ret ?_
                                                         refine rt_block ?_
                                                         refine rt_then ?_
                                                         refine rt_then ?_
                                                         refine rt_block ?_
                                                         refine rt_block ?_
                                                         refine rt_then ?_
                                                         refine rt_then ?_
                                                         refine rt_block ?_
                                                         refine rt_then ?_
                                                         refine res1 (v := .bool _) rfl rfl ?_
                                                         exact ⟨rfl, ((hB.next E122).next E137)⟩
                                                    · (try first | replace Q35 := bn_t Q35 | replace Q35 := bn_f Q35)
                                                      (try first | replace Q35 := bx_t Q35 | replace Q35 := bx_f Q35 | replace Q35 := be_t Q35 | replace Q35 := be_f Q35 | replace Q35 := of_decide_eq_true Q35 | replace Q35 := of_decide_eq_false Q35)
                                                      first
                                                       | (exfalso; first | omega | contradiction | (cases Q35; done))
                                                       | skip
                                                         refine st_unguard rfl ?_
                                                         refine st_val (ro_move (v := .int _ _) rfl) ?_
                                                         refine st_unguard rfl ?_
                                                         refine st_call WavOne_k13 (num_any _ _) ?_
                                                         rintro v145 w36 ⟨rfl, rfl⟩
                                                         refine st_unguard rfl ?_
                                                         refine st_val (ro_neq rfl rfl) ?_
                                                         refine st_val (ro_pickF (v := .bool _) rfl rfl) ?_
                                                         refine st_val (ro_move (v := .bool _) rfl) ?_
                                                         refine st_split (t := 148) rfl (fun Q37 => ?_) (fun Q37 => ?_)
                                                         · (try first | replace Q37 := bn_t Q37 | replace Q37 := bn_f Q37)
                                                           (try first | replace Q37 := bx_t Q37 | replace Q37 := bx_f Q37 | replace Q37 := be_t Q37 | replace Q37 := be_f Q37 | replace Q37 := of_decide_eq_true Q37 | replace Q37 := of_decide_eq_false Q37)
                                                           first
                                                            | (exfalso; first | omega | contradiction | (cases Q37; done))
                                                            | skip
                                                              refine st_gno rfl rfl ?_
                                                              refine st_gno rfl rfl ?_
                                                              refine st_gno rfl rfl ?_
                                                              refine st_val (ro_pickT (v := .bool _) rfl rfl) ?_
                                                              refine st_val (ro_move (v := .bool _) rfl) ?_
                                                              refine st_gno rfl rfl ?_
                                                              refine st_gno rfl rfl ?_
                                                              refine st_gno rfl rfl ?_
                                                              refine st_val (ro_pickT (v := .bool _) rfl rfl) ?_
                                                              refine st_val (ro_move (v := .bool _) rfl) ?_
                                                              refine st_gno rfl rfl ?_
                                                              refine st_gno rfl rfl ?_
                                                              refine st_gno rfl rfl ?_
                                                              refine st_val (ro_pickT (v := .bool _) rfl rfl) ?_
                                                              refine st_nil ?_
                                                              refine nx_then ?_
                                                              refine cd_condT rfl ?_
                                                              refine cd_seq ?_
                                                              refine cd_region ?_
                                                              refine st_val (ro_assign (v := .bool _) rfl) ?_
                                                              refine st_nil ?_
                                                              refine nx_then ?_
                                                              refine cd_ret ?_
                                                              refine rt_block ?_
                                                              refine rt_then ?_
                                                              refine rt_then ?_
                                                              refine rt_block ?_
                                                              refine rt_block ?_
                                                              refine rt_then ?_
                                                              refine rt_then ?_
                                                              refine rt_block ?_
                                                              refine rt_then ?_
                                                              refine res1 (v := .bool _) rfl rfl ?_
                                                              exact ⟨rfl, ((hB.next E122).next E137)⟩
                                                         · (try first | replace Q37 := bn_t Q37 | replace Q37 := bn_f Q37)
                                                           (try first | replace Q37 := bx_t Q37 | replace Q37 := bx_f Q37 | replace Q37 := be_t Q37 | replace Q37 := be_f Q37 | replace Q37 := of_decide_eq_true Q37 | replace Q37 := of_decide_eq_false Q37)
                                                           first
                                                            | (exfalso; first | omega | contradiction | (cases Q37; done))
                                                            | skip
                                                              refine st_unguard rfl ?_
                                                              refine st_val (ro_move (v := .int _ _) rfl) ?_
                                                              refine st_unguard rfl ?_
                                                              refine st_val (ro_move (v := .int _ _) rfl) ?_
                                                              refine st_unguard rfl ?_
                                                              refine st_val (ro_neq rfl rfl) ?_
                                                              refine st_val (ro_pickF (v := .bool _) rfl rfl) ?_
                                                              refine st_val (ro_move (v := .bool _) rfl) ?_
                                                              refine st_split (t := 153) rfl (fun Q38 => ?_) (fun Q38 => ?_)
                                                              · (try first | replace Q38 := bn_t Q38 | replace Q38 := bn_f Q38)
                                                                (try first | replace Q38 := bx_t Q38 | replace Q38 := bx_f Q38 | replace Q38 := be_t Q38 | replace Q38 := be_f Q38 | replace Q38 := of_decide_eq_true Q38 | replace Q38 := of_decide_eq_false Q38)
                                                                first
                                                                 | (exfalso; first | omega | contradiction | (cases Q38; done))
                                                                 | skip
                                                                   refine st_gno rfl rfl ?_
                                                                   refine st_gno rfl rfl ?_
                                                                   refine st_gno rfl rfl ?_
                                                                   refine st_val (ro_pickT (v := .bool _) rfl rfl) ?_
                                                                   refine st_val (ro_move (v := .bool _) rfl) ?_
                                                                   refine st_gno rfl rfl ?_
                                                                   refine st_gno rfl rfl ?_
                                                                   refine st_gno rfl rfl ?_
                                                                   refine st_val (ro_pickT (v := .bool _) rfl rfl) ?_
                                                                   refine st_nil ?_
                                                                   refine nx_then ?_
                                                                   refine cd_condT rfl ?_
                                                                   refine cd_seq ?_
                                                                   refine cd_region ?_
                                                                   refine st_val (ro_assign (v := .bool _) rfl) ?_
                                                                   refine st_nil ?_
                                                                   refine nx_then ?_
                                                                   refine cd_ret ?_
                                                                   refine rt_block ?_
                                                                   refine rt_then ?_
                                                                   refine rt_then ?_
                                                                   refine rt_block ?_
                                                                   refine rt_block ?_
                                                                   refine rt_then ?_
                                                                   refine rt_then ?_
                                                                   refine rt_block ?_
                                                                   refine rt_then ?_
                                                                   refine res1 (v := .bool _) rfl rfl ?_
                                                                   exact ⟨rfl, ((hB.next E122).next E137)⟩
                                                              · (try first | replace Q38 := bn_t Q38 | replace Q38 := bn_f Q38)
                                                                (try first | replace Q38 := bx_t Q38 | replace Q38 := bx_f Q38 | replace Q38 := be_t Q38 | replace Q38 := be_f Q38 | replace Q38 := of_decide_eq_true Q38 | replace Q38 := of_decide_eq_false Q38)
                                                                first
                                                                 | (exfalso; first | omega | contradiction | (cases Q38; done))
                                                                 | skip
                                                                   refine st_unguard rfl ?_
                                                                   refine st_val (ro_move (v := .int _ _) rfl) ?_
                                                                   refine st_unguard rfl ?_
                                                                   refine st_val (ro_move (v := .int _ _) rfl) ?_
                                                                   refine st_unguard rfl ?_
                                                                   refine st_val (ro_neq rfl rfl) ?_
                                                                   refine st_val (ro_pickF (v := .bool _) rfl rfl) ?_
                                                                   refine st_val (ro_move (v := .bool _) rfl) ?_
                                                                   refine st_split (t := 158) rfl (fun Q39 => ?_) (fun Q39 => ?_)
                                                                   · (try first | replace Q39 := bn_t Q39 | replace Q39 := bn_f Q39)
                                                                     (try first | replace Q39 := bx_t Q39 | replace Q39 := bx_f Q39 | replace Q39 := be_t Q39 | replace Q39 := be_f Q39 | replace Q39 := of_decide_eq_true Q39 | replace Q39 := of_decide_eq_false Q39)
                                                                     first
                                                                      | (exfalso; first | omega | contradiction | (cases Q39; done))
                                                                      | skip
                                                                        refine st_gno rfl rfl ?_
                                                                        refine st_gno rfl rfl ?_
                                                                        refine st_gno rfl rfl ?_
                                                                        refine st_val (ro_pickT (v := .bool _) rfl rfl) ?_
                                                                        refine st_nil ?_
                                                                        refine nx_then ?_
                                                                        refine cd_condT rfl ?_
                                                                        refine cd_seq ?_
                                                                        refine cd_region ?_
                                                                        refine st_val (ro_assign (v := .bool _) rfl) ?_
                                                                        refine st_nil ?_
                                                                        refine nx_then ?_
                                                                        refine cd_ret ?_
                                                                        refine rt_block ?_
                                                                        refine rt_then ?_
                                                                        refine rt_then ?_
                                                                        refine rt_block ?_
                                                                        refine rt_block ?_
                                                                        refine rt_then ?_
                                                                        refine rt_then ?_
                                                                        refine rt_block ?_
                                                                        refine rt_then ?_
                                                                        refine res1 (v := .bool _) rfl rfl ?_
                                                                        exact ⟨rfl, ((hB.next E122).next E137)⟩
                                                                   · (try first | replace Q39 := bn_t Q39 | replace Q39 := bn_f Q39)
                                                                     (try first | replace Q39 := bx_t Q39 | replace Q39 := bx_f Q39 | replace Q39 := be_t Q39 | replace Q39 := be_f Q39 | replace Q39 := of_decide_eq_true Q39 | replace Q39 := of_decide_eq_false Q39)
                                                                     first
                                                                      | (exfalso; first | omega | contradiction | (cases Q39; done))
                                                                      | skip
                                                                        refine st_unguard rfl ?_
                                                                        refine st_val (ro_move (v := .int _ _) rfl) ?_
                                                                        refine st_unguard rfl ?_
                                                                        refine st_call WavOne_k13 (num_any _ _) ?_
                                                                        rintro v160 w40 ⟨rfl, rfl⟩
                                                                        refine st_unguard rfl ?_
                                                                        refine st_val (ro_neq rfl rfl) ?_
                                                                        refine st_val (ro_pickF (v := .bool _) rfl rfl) ?_
                                                                        refine st_nil ?_
                                                                        refine nx_then ?_
                                                                        refine cd_cond rfl (fun Q41 => ?_) (fun Q41 => ?_)
                                                                        · (try first | replace Q41 := bn_t Q41 | replace Q41 := bn_f Q41)
                                                                          (try first | replace Q41 := bx_t Q41 | replace Q41 := bx_f Q41 | replace Q41 := be_t Q41 | replace Q41 := be_f Q41 | replace Q41 := of_decide_eq_true Q41 | replace Q41 := of_decide_eq_false Q41)
                                                                          first
                                                                           | (exfalso; first | omega | contradiction | (cases Q41; done))
                                                                           | skip
                                                                             refine cd_seq ?_
                                                                             refine cd_region ?_
                                                                             refine st_val (ro_assign (v := .bool _) rfl) ?_
                                                                             refine st_nil ?_
                                                                             refine nx_then ?_
                                                                             refine cd_ret ?_
                                                                             refine rt_block ?_
                                                                             refine rt_then ?_
                                                                             refine rt_then ?_
                                                                             refine rt_block ?_
                                                                             refine rt_block ?_
                                                                             refine rt_then ?_
                                                                             refine rt_then ?_
                                                                             refine rt_block ?_
                                                                             refine rt_then ?_
                                                                             refine res1 (v := .bool _) rfl rfl ?_
                                                                             exact ⟨rfl, ((hB.next E122).next E137)⟩
                                                                        · (try first | replace Q41 := bn_t Q41 | replace Q41 := bn_f Q41)
                                                                          (try first | replace Q41 := bx_t Q41 | replace Q41 := bx_f Q41 | replace Q41 := be_t Q41 | replace Q41 := be_f Q41 | replace Q41 := of_decide_eq_true Q41 | replace Q41 := of_decide_eq_false Q41)
                                                                          first
                                                                           | (exfalso; first | omega | contradiction | (cases Q41; done))
                                                                           | skip
                                                                             refine cd_skip ?_
                                                                             refine nx_block ?_
                                                                             refine nx_then ?_
                                                                             refine cd_region ?_
                                                                             refine st_val (ro_move (v := .int _ _) rfl) ?_
                                                                             refine st_val (ro_addN (b := 1) rfl rfl (by omega)) ?_
                                                                             refine st_val (ro_assign (v := .int _ _) rfl) ?_
                                                                             refine st_nil ?_
                                                                             refine nx_cut (j + 1) ⟨(by first | rfl | (refine int_eq ?_; omega)), trivial⟩ (by (iterate 123 refine agr_cons rfl ?_); exact agr_rfl) ⟨?_, ?_⟩
                                                                             · exact ⟨by omega, hv.from_ ((From.rfl_.next E122).next E137), hoe.kept_from ((From.rfl_.next E122).next E137), hP1.from_ ((From.rfl_.next E122).next E137), ((hB.next E122).next E137)⟩
                                                                             · omega
                                               · (try first | replace Q30 := bn_t Q30 | replace Q30 := bn_f Q30)
                                                 (try first | replace Q30 := bx_t Q30 | replace Q30 := bx_f Q30 | replace Q30 := be_t Q30 | replace Q30 := be_f Q30 | replace Q30 := of_decide_eq_true Q30 | replace Q30 := of_decide_eq_false Q30)
                                                 first
                                                  | (exfalso; first | omega | contradiction | (cases Q30; done))
                                                  | skip
                                                    refine cd_exit ?_
                                                    refine ex_then ?_
                                                    refine ex_then ?_
                                                    refine ex_block ?_
                                                    refine nx_block ?_
                                                    refine nx_then ?_
                                                    refine cd_region ?_
                                                    refine st_val (ro_move (v := .int _ _) rfl) ?_
                                                    refine st_val (ro_addN (b := 1) rfl rfl (by omega)) ?_
                                                    refine st_val (ro_move (v := .int _ _) rfl) ?_
                                                    refine st_val (ro_quoN (b := 4) rfl rfl (by omega)) ?_
                                                    refine st_val (ro_addN rfl rfl (by omega)) ?_
                                                    refine st_val (ro_assign (v := .int _ _) rfl) ?_
                                                    refine st_nil ?_
                                                    refine nx_cut (n + 1 + n / 4) ⟨(by first | rfl | (refine int_eq ?_; omega)), trivial⟩ (by (iterate 340 refine agr_cons rfl ?_); exact agr_rfl) ⟨?_, ?_⟩
                                                    · exact ⟨sizes_step n hnS, hP1.from_ From.rfl_, hB⟩
                                                    · omega
  · (try first | replace Q3 := bn_t Q3 | replace Q3 := bn_f Q3)
    (try first | replace Q3 := bx_t Q3 | replace Q3 := bx_f Q3 | replace Q3 := be_t Q3 | replace Q3 := be_f Q3 | replace Q3 := of_decide_eq_true Q3 | replace Q3 := of_decide_eq_false Q3)
    first
     | (exfalso; first | omega | contradiction | (cases Q3; done))
     | skip
       refine cd_exit ?_
       refine ex_then ?_
       refine ex_then ?_
       refine ex_block ?_
       refine nx_then ?_
       refine cd_seq ?_
       refine cd_region ?_
       refine st_val (ro_fieldAddr WavOne_f24_1 rfl) ?_
       refine st_val (ro_load WavOne_g22 rfl (by first | (first | exact (hP1.from_ From.rfl_).rd 1 rfl | exact (hk1.from_ From.rfl_).rd 1 rfl))) ?_
       refine st_val (ro_len WavOne_l22 rfl) ?_
       refine st_val (ro_geq rfl rfl) ?_
       refine st_val (ro_move (v := .bool _) rfl) ?_
       refine st_split (t := 167) rfl (fun Q42 => ?_) (fun Q42 => ?_)
       · (try first | replace Q42 := bn_t Q42 | replace Q42 := bn_f Q42)
         (try first | replace Q42 := bx_t Q42 | replace Q42 := bx_f Q42 | replace Q42 := be_t Q42 | replace Q42 := be_f Q42 | replace Q42 := of_decide_eq_true Q42 | replace Q42 := of_decide_eq_false Q42)
         first
          | (exfalso; first | omega | contradiction | (cases Q42; done))
          | skip
            refine st_unguard rfl ?_
            refine st_call WavOne_k8 (wakes_any _) ?_
            rintro v168 w43 ⟨rfl, E168⟩
            refine st_val (ro_pickT (v := .bool _) rfl rfl) ?_
            refine st_val (ro_assign (v := .bool _) rfl) ?_
            refine st_nil ?_
            refine nx_then ?_
            refine cd_ret ?_
            refine res1 (v := .bool _) rfl rfl ?_
            exact ⟨rfl, (hB.next E168)⟩
       · (try first | replace Q42 := bn_t Q42 | replace Q42 := bn_f Q42)
         (try first | replace Q42 := bx_t Q42 | replace Q42 := bx_f Q42 | replace Q42 := be_t Q42 | replace Q42 := be_f Q42 | replace Q42 := of_decide_eq_true Q42 | replace Q42 := of_decide_eq_false Q42)
         first
          | (exfalso; first | omega | contradiction | (cases Q42; done))
          | skip
            refine st_gno rfl rfl ?_
            refine st_val (ro_pickF (v := .bool _) rfl rfl) ?_
            refine st_val (ro_assign (v := .bool _) rfl) ?_
            refine st_nil ?_
            refine nx_then ?_
            refine cd_ret ?_
            refine res1 (v := .bool _) rfl rfl ?_
            exact ⟨rfl, hB⟩
theorem one_arg (cs : Array Value) (x : (Ty.pr (.int .i64) (.pr (.sl (.int .i64)) (.pr (.sl (.int .i64)) .unit))).den) (w : World) (hs : cs.size = 3) (h : (Ty.pr (.int .i64) (.pr (.sl (.int .i64)) (.pr (.sl (.int .i64)) .unit))).At w (fun j => cs[j]?) x) (hT : TZ w) :
    Rt Tryd.prog 5 [.agg cs] w fun v w' => v = .bool true ∧ From w w' := by
  obtain ⟨k, A, ca, xs, B, cb, is, rfl, h1, h2, h3, h4, h5⟩ := ask_of hs h
  exact one_law k A B ca cb xs is w h1 h2 h3 h4  hT
/-- A WORLD FOR THE WITNESS: the settled one, the variables holding what their initialisers lay. -/
noncomputable def WaveletOne_world (os : Os) : World :=
  { World.holding Tryd.prog os ⟨#[], #[], []⟩ with heap := (World.holding Tryd.prog os ⟨#[], #[], []⟩).heap.modify 0 fun | .cells _ t frozen => .cells #[.int .u8 0, .int .u8 1, .int .u8 56, .int .u8 2, .int .u8 57, .int .u8 49, .int .u8 28, .int .u8 3, .int .u8 61, .int .u8 58, .int .u8 42, .int .u8 50, .int .u8 38, .int .u8 29, .int .u8 17, .int .u8 4, .int .u8 62, .int .u8 47, .int .u8 59, .int .u8 36, .int .u8 45, .int .u8 43, .int .u8 51, .int .u8 22, .int .u8 53, .int .u8 39, .int .u8 33, .int .u8 30, .int .u8 24, .int .u8 18, .int .u8 12, .int .u8 5, .int .u8 63, .int .u8 55, .int .u8 48, .int .u8 27, .int .u8 60, .int .u8 41, .int .u8 37, .int .u8 16, .int .u8 46, .int .u8 35, .int .u8 44, .int .u8 21, .int .u8 52, .int .u8 32, .int .u8 23, .int .u8 11, .int .u8 54, .int .u8 26, .int .u8 40, .int .u8 15, .int .u8 34, .int .u8 20, .int .u8 31, .int .u8 10, .int .u8 25, .int .u8 14, .int .u8 19, .int .u8 9, .int .u8 13, .int .u8 8, .int .u8 7, .int .u8 6] t frozen | o => o }
theorem WaveletOne_met (os : Os) : laidMet Tryd.prog Rows.waveletOneRow.laid ((WaveletOne_world os).forCall (fun _ _ => 0) ⟨#[], #[.agg #[.int .i64 0, .slice none 0 0, .slice none 0 0]], []⟩).memory :=
  laidMet_of_run' 8 (by kernel_rfl) (by kernel_rfl)
theorem WaveletOne_reads (os : Os) {H : Type} (enc : TypeId × Value → H) : ∃ places, DataW.whole enc Tryd.prog ((WaveletOne_world os).forCall (fun _ _ => 0) ⟨#[], #[.agg #[.int .i64 0, .slice none 0 0, .slice none 0 0]], []⟩).memory Tryd.f5.params.toList Rows.waveletOneSpec.vars false #[(.agg #[.int .i64 0, .slice none 0 0, .slice none 0 0] : Value)].toList 8 = some ([.agg [.lit (.int .i64 0), .nil, .nil]], [], places) :=
  ⟨[], by kernel_rfl⟩

set_option maxRecDepth 100000 in
theorem WaveletOne_lifted (os : Os) (started : os.Started) (H : Type) (enc : TypeId × Value → H) (F : Stop.Interp) :
    ReturnsInHanded {} Tryd.checked os 5 .any ((OpenSpec.ofChange Rows.waveletOneSpec).preRow enc Tryd.prog Tryd.f5 Rows.waveletOneRow.domain false Rows.waveletOneRow.laid) (((OpenSpec.ofChange Rows.waveletOneSpec).at F).post enc Tryd.prog Tryd.f5 false true false false) := by
  obtain ⟨places, hx⟩ := WaveletOne_reads os enc
  refine returnsInHanded_of_row (C := Tryd.checked) (s := OpenSpec.ofChange Rows.waveletOneSpec) Tryd.own started (by kernel_rfl) Tryd.func5
    (witness_row_at (enc := enc) (C := Tryd.checked) false (WaveletOne_world os) #[.agg #[.int .i64 0, .slice none 0 0, .slice none 0 0]] rfl (by kernel_rfl) (by kernel_rfl) (by kernel_rfl)
      (OpenSpec.preRow_of_cond 8 hx (by kernel_rfl) (fun k hk => by cases hk) (by kernel_rfl) (WaveletOne_met os))) ?_
  intro W base args ds gs before hval hW _ _ hsz hL hS _
  exact law_step_laid 5 Tryd.f5 24 4 Rows.waveletOneSpec Tryd.params5 (by kernel_rfl) Tryd.underlying4 rfl (fun _ => rfl) (by kernel_rfl) (of_decide_eq_true (by kernel_rfl)) Rows.waveletOneRow.laid (walk_laid (.int .i64) (.pr (.sl (.int .i64)) (.pr (.sl (.int .i64)) .unit)) (by kernel_rfl) Rows.waveletOneRow.laid (fun _ h => table_of h) one_arg) W base args ds gs before hval hW hsz hL hS

theorem WaveletOne_said : Rows.WaveletOneSaid :=
  OpenClaim.holds_of_cond 5 Tryd.f5 rfl rfl rfl rfl rfl rfl rfl ⟨rfl, rfl, rfl, rfl, rfl⟩ rfl rfl rfl rfl rfl (by kernel_rfl) Tryd.func5 (by kernel_rfl)
    (of_decide_eq_true (by kernel_rfl)) (by unfold Func.isWrapper; first | (rw [if_pos (by decide +kernel)]; kernel_rfl) | (rw [if_neg (by decide +kernel)]; exact ⟨rfl, rfl⟩))
    (fun os started H enc _ F => by rw [OpenClaim.pre_eq_preRow]; exact WaveletOne_lifted os started H enc F)

theorem WaveletOne_plain (f : FuncId) (fn : Func) (hf : Tryd.pinned.checked.prog.funcNamed "lectern/lecternlaw3.WaveletOne" = some f) (hfn : Tryd.pinned.checked.prog.funcs[f]? = some fn) :
    false = Tryd.pinned.checked.prog.looks [] ∧ ∀ (j : Nat) t, fn.params[j]? = some t → Tryd.pinned.checked.prog.wantsStandIn t = false := by
  obtain rfl : f = 5 := Option.some.inj ((show Tryd.prog.funcNamed "lectern/lecternlaw3.WaveletOne" = some 5 by kernel_rfl).symm.trans hf) |>.symm
  obtain rfl : fn = Tryd.f5 := (Option.some.inj (Tryd.func5.symm.trans hfn)).symm
  refine ⟨by kernel_rfl, fun j t ht => ?_⟩
  rw [(Tryd.params5)] at ht
  obtain rfl : t = 24 := by simpa using Array.mem_of_getElem? ht
  exact (show Tryd.prog.wantsStandIn 24 = false by kernel_rfl)

theorem WaveletOne_holds : Rows.WaveletOneCardSaid :=
  Claim7.holds_tied_plain_at .later [] _ _ _ _ WaveletOne_said (fun _ h => by cases h) (by kernel_rfl) (fun _ h => by cases h) waveletOne_row_tie rfl ⟨rfl, rfl⟩ (by kernel_rfl) rfl WaveletOne_plain (by kernel_rfl)
#print axioms WaveletOne_holds

end Go.Proofs.YtmiclfhpenjjfaaDoor
