/- The law WaveletSelects. -/
import Derived.Test.YtmiclfhpenjjfaaDoorWavHelp
import Derived.Test.YtmiclfhpenjjfaaDoorWavSelW
namespace Go.Proofs.YtmiclfhpenjjfaaDoor
open Go.RowKit
open Go.ChangeShapes Go.WideShapes Go.ChangeAt
theorem WavSelects_l22 : (elemQ Tryd.prog 22).isSome = true := by kernel_rfl
theorem WavSelects_e22 : elemQ Tryd.prog 22 = some (3, 1) := by kernel_rfl
theorem WavSelects_g3 : aggQ Tryd.prog 3 = some false := by kernel_rfl
theorem WavSelects_g22 : aggQ Tryd.prog 22 = some false := by kernel_rfl
theorem WavSelects_g24 : aggQ Tryd.prog 24 = some true := by kernel_rfl
theorem WavSelects_z24 : sizeQ Tryd.prog 24 = some 3 := by kernel_rfl
theorem WavSelects_k6 : callable Tryd.prog 6 = true := by kernel_rfl
theorem WavSelects_k7 : callable Tryd.prog 7 = true := by kernel_rfl
theorem WavSelects_p26 : Tryd.prog.underlying 26 = some (.pointer (Tryd.prog.pointee 26)) := by kernel_rfl
theorem WavSelects_k8 : callable Tryd.prog 8 = true := by kernel_rfl
theorem WavSelects_f24_2 : fieldQ Tryd.prog 24 2 = some 2 := by kernel_rfl
theorem WavSelects_f24_0 : fieldQ Tryd.prog 24 0 = some 0 := by kernel_rfl
theorem WavSelects_f24_1 : fieldQ Tryd.prog 24 1 = some 1 := by kernel_rfl
theorem WavSelects_k9 : callable Tryd.prog 9 = true := by kernel_rfl
theorem WavSelects_k10 : callable Tryd.prog 10 = true := by kernel_rfl
theorem WavSelects_k11 : callable Tryd.prog 11 = true := by kernel_rfl
theorem sl_in {K : Nat} {L : List Nat} {c j : Int} (h : 0 ≤ c ∧ c < (K : Nat)) (ho : selO (cb L c.toNat) false j = true) : ((0 : Int) ≠ 0 → slE K L c j = 0 ∧ slV K L c j = 0) ∧ ((0 : Int) = 0 → slE K L c j = 0 ∧ slV K L c j = selP (cb L c.toNat) false j) := by
  unfold slE slV selE
  rw [if_pos h, if_pos h, if_pos ho]
  exact ⟨fun h => absurd rfl h, fun _ => ⟨rfl, rfl⟩⟩
theorem sl_none {K : Nat} {L : List Nat} {c j : Int} (h : 0 ≤ c ∧ c < (K : Nat)) (ho : selO (cb L c.toNat) false j = false) : ((3 : Int) ≠ 0 → slE K L c j = 3 ∧ slV K L c j = 0) ∧ ((3 : Int) = 0 → slE K L c j = 0 ∧ slV K L c j = 0) := by
  unfold slE slV
  rw [if_pos h, if_pos h, selP_no ho]
  unfold selE
  rw [if_neg (by rw [ho]; decide)]
  exact ⟨fun _ => ⟨rfl, rfl⟩, fun h => by omega⟩
theorem sl_out {K : Nat} {L : List Nat} {c j : Int} (h : ¬ (0 ≤ c ∧ c < (K : Nat))) : ((1 : Int) ≠ 0 → slE K L c j = 1 ∧ slV K L c j = 0) ∧ ((1 : Int) = 0 → slE K L c j = 0 ∧ slV K L c j = 0) := by
  unfold slE slV
  rw [if_neg h, if_neg h]
  exact ⟨fun _ => ⟨rfl, rfl⟩, fun h => by omega⟩
/-- what the document's own Select answers -/
def refS (L : List Nat) (c : Nat) (j : Int) : Int := if selO (cb L c) false j = true then selP (cb L c) false j else -1
set_option maxRecDepth 100000 in
set_option maxHeartbeats 400000 in
theorem refSel_n (A : Option Addr) (ca cc : Nat) (j : Int) (L : List Nat) (xs : List Int) (w : World) (hx : xs = L.map fun x : Nat => (x : Int)) (hr : RowOf iV w A xs) (hl : xs.length ≤ 1000000000000) (hj : j ≤ 9223372036854775807) :
    Rt Tryd.prog 9 [.slice A xs.length ca, .int .i64 (cc : Nat), .int .i64 j] w (fun v w' => v = .int .i64 (refS L cc j) ∧ w = w') := by
  have hxl : xs.length = L.length := by rw [hx, List.length_map]
  have hcl : cntC L cc L.length ≤ L.length := Nat.le_trans List.countP_le_length (List.length_take_le _ _)
  have hc00 : cntC L cc 0 = 0 := by simp [cntC]
  refine enter (n := 29) Tryd.func9 rfl rfl rfl ?_
  refine cd_seq ?_
  refine cd_region ?_
  refine st_val (ro_assign (v := .int _ _) rfl) ?_
  refine st_nil ?_
  refine nx_then ?_
  refine cd_seq ?_
  refine cd_seq ?_
  refine cd_region ?_
  refine st_val (ro_assign (v := .int _ _) rfl) ?_
  refine st_nil ?_
  refine nx_then ?_
  refine cd_block ?_
  refine cd_loop (G := Nat) [6, 8, 9, 10, 11, 12, 13, 14, 15, 16, 17, 18, 19, 20, 21, 22, 23, 24, 25, 26, 27, 28] (fun i => [(2, .int .i64 (j - (cntC L cc i : Nat))), (7, .int .i64 (i : Nat))]) (fun i w' => i ≤ xs.length ∧ ((cntC L cc i : Int) ≤ j ∨ i = 0) ∧ w = w') (fun i => xs.length - i) (0) ⟨(int_eq (by omega)), rfl, trivial⟩ ?_ ?_
  · exact ⟨Nat.zero_le _, .inr rfl, rfl⟩
  rintro i ρ1 w1 ⟨hi, hc, rfl⟩
  refine cd_seq ?_
  refine cd_seq ?_
  refine cd_region ?_
  refine st_val (ro_move (v := .int _ _) rfl) ?_
  refine st_val (ro_move (v := .slice _ _ _) rfl) ?_
  refine st_val (ro_len WavSelects_l22 rfl) ?_
  refine st_val (ro_lss rfl rfl) ?_
  refine st_val (ro_move (v := .bool _) rfl) ?_
  refine st_split (t := 12) rfl (fun Q2 => ?_) (fun Q2 => ?_)
  · (try first | replace Q2 := bn_t Q2 | replace Q2 := bn_f Q2)
    (try first | replace Q2 := bx_t Q2 | replace Q2 := bx_f Q2 | replace Q2 := be_t Q2 | replace Q2 := be_f Q2 | replace Q2 := of_decide_eq_true Q2 | replace Q2 := of_decide_eq_false Q2)
    first
     | (exfalso; first | omega | contradiction | (cases Q2; done))
     | skip
       refine st_unguard rfl ?_
       refine st_val (ro_move (v := .int _ _) rfl) ?_
       refine st_unguard rfl ?_
       refine st_val (ro_geq rfl rfl) ?_
       refine st_val (ro_pickT (v := .bool _) rfl rfl) ?_
       refine st_nil ?_
       refine nx_then ?_
       refine cd_cond rfl (fun Q3 => ?_) (fun Q3 => ?_)
       · (try first | replace Q3 := bn_t Q3 | replace Q3 := bn_f Q3)
         (try first | replace Q3 := bx_t Q3 | replace Q3 := bx_f Q3 | replace Q3 := be_t Q3 | replace Q3 := be_f Q3 | replace Q3 := of_decide_eq_true Q3 | replace Q3 := of_decide_eq_false Q3)
         have hiL : i < xs.length := by omega
         have hi2 : i < L.length := by omega
         have hxi : xs[i] = (L[i] : Nat) := by simp only [hx, List.getElem_map]
         have hcs : cntC L cc (i + 1) = cntC L cc i + if L[i] = cc then 1 else 0 := by
           unfold cntC
           rw [List.take_succ_eq_append_getElem hi2, List.countP_append, List.countP_cons]
           simp
         obtain ⟨ba, oa, hA, hca⟩ := hr (by omega)
         subst hA
         have hji : (cntC L cc i : Int) ≤ j := by omega
         first
          | (exfalso; first | omega | contradiction | (cases Q3; done))
          | skip
            refine cd_skip ?_
            refine nx_then ?_
            refine cd_seq ?_
            refine cd_block ?_
            refine cd_seq ?_
            refine cd_seq ?_
            refine cd_region ?_
            refine st_val (ro_move (v := .slice _ _ _) rfl) ?_
            refine st_val (ro_move (v := .int _ _) rfl) ?_
            refine st_val (ro_indexAddr1 WavSelects_e22 rfl rfl (by omega)) ?_
            refine st_val (ro_load WavSelects_g3 rfl (by exact hca i hiL)) ?_
            refine st_val (ro_move (v := .int _ _) rfl) ?_
            refine st_val (ro_neq rfl rfl) ?_
            refine st_nil ?_
            refine nx_then ?_
            refine cd_cond rfl (fun Q4 => ?_) (fun Q4 => ?_)
            · (try first | replace Q4 := bn_t Q4 | replace Q4 := bn_f Q4)
              (try first | replace Q4 := bx_t Q4 | replace Q4 := bx_f Q4 | replace Q4 := be_t Q4 | replace Q4 := be_f Q4 | replace Q4 := of_decide_eq_true Q4 | replace Q4 := of_decide_eq_false Q4)
              rw [if_neg (by omega), Nat.add_zero] at hcs
              first
               | (exfalso; first | omega | contradiction | (cases Q4; done))
               | skip
                 refine cd_exit ?_
                 refine ex_then ?_
                 refine ex_block ?_
                 refine nx_then ?_
                 refine cd_region ?_
                 refine st_val (ro_move (v := .int _ _) rfl) ?_
                 refine st_val (ro_addN (b := 1) rfl rfl (by omega)) ?_
                 refine st_val (ro_assign (v := .int _ _) rfl) ?_
                 refine st_nil ?_
                 refine nx_cut (i + 1) ⟨(int_eq (by omega)), rfl, trivial⟩ (by (iterate 42 refine agr_cons rfl ?_); exact agr_rfl) ⟨?_, ?_⟩
                 · exact ⟨by omega, by omega, rfl⟩
                 · omega
            · (try first | replace Q4 := bn_t Q4 | replace Q4 := bn_f Q4)
              (try first | replace Q4 := bx_t Q4 | replace Q4 := bx_f Q4 | replace Q4 := be_t Q4 | replace Q4 := be_f Q4 | replace Q4 := of_decide_eq_true Q4 | replace Q4 := of_decide_eq_false Q4)
              have hxc : L[i] = cc := by omega
              rw [if_pos hxc] at hcs
              first
               | (exfalso; first | omega | contradiction | (cases Q4; done))
               | skip
                 refine cd_skip ?_
                 refine nx_then ?_
                 refine cd_seq ?_
                 refine cd_seq ?_
                 refine cd_region ?_
                 refine st_val (ro_move (v := .int _ _) rfl) ?_
                 refine st_val (ro_eql rfl rfl) ?_
                 refine st_nil ?_
                 refine nx_then ?_
                 refine cd_cond rfl (fun Q5 => ?_) (fun Q5 => ?_)
                 · (try first | replace Q5 := bn_t Q5 | replace Q5 := bn_f Q5)
                   (try first | replace Q5 := bx_t Q5 | replace Q5 := bx_f Q5 | replace Q5 := be_t Q5 | replace Q5 := be_f Q5 | replace Q5 := of_decide_eq_true Q5 | replace Q5 := of_decide_eq_false Q5)
                   first
                    | (exfalso; first | omega | contradiction | (cases Q5; done))
                    | skip
                      refine cd_seq ?_
                      refine cd_region ?_
                      refine st_val (ro_move (v := .int _ _) rfl) ?_
                      refine st_val (ro_assign (v := .int _ _) rfl) ?_
                      refine st_nil ?_
                      refine nx_then ?_
                      refine cd_ret ?_
                      refine rt_then ?_
                      refine rt_block ?_
                      refine rt_then ?_
                      refine rt_then ?_
                      refine rt_block ?_
                      refine rt_then ?_
                      refine res1 (v := .int _ _) rfl rfl ?_
                      refine ⟨int_eq ?_, rfl⟩
                      have e : j = (cntC L cc i : Nat) := by omega
                      have h1 : i < (cb L cc).length := by rw [cb_len]; exact hi2
                      have h2 : fl (cb L cc) false i = true := by rw [cb_fl hi2]; exact decide_eq_true hxc
                      unfold refS
                      rw [e, if_pos (selO_at h1 h2 (cb_cnt (Nat.le_of_lt hi2))), selP_at h1 h2 (cb_cnt (Nat.le_of_lt hi2))]
                 · (try first | replace Q5 := bn_t Q5 | replace Q5 := bn_f Q5)
                   (try first | replace Q5 := bx_t Q5 | replace Q5 := bx_f Q5 | replace Q5 := be_t Q5 | replace Q5 := be_f Q5 | replace Q5 := of_decide_eq_true Q5 | replace Q5 := of_decide_eq_false Q5)
                   first
                    | (exfalso; first | omega | contradiction | (cases Q5; done))
                    | skip
                      refine cd_skip ?_
                      refine nx_then ?_
                      refine cd_region ?_
                      refine st_val (ro_move (v := .int _ _) rfl) ?_
                      refine st_val (ro_sub64 rfl rfl (by omega)) ?_
                      refine st_val (ro_assign (v := .int _ _) rfl) ?_
                      refine st_nil ?_
                      refine nx_block ?_
                      refine nx_then ?_
                      refine cd_region ?_
                      refine st_val (ro_move (v := .int _ _) rfl) ?_
                      refine st_val (ro_addN (b := 1) rfl rfl (by omega)) ?_
                      refine st_val (ro_assign (v := .int _ _) rfl) ?_
                      refine st_nil ?_
                      refine nx_cut (i + 1) ⟨(int_eq (by omega)), rfl, trivial⟩ (by (iterate 47 refine agr_cons rfl ?_); exact agr_rfl) ⟨?_, ?_⟩
                      · exact ⟨by omega, by omega, rfl⟩
                      · omega
       · (try first | replace Q3 := bn_t Q3 | replace Q3 := bn_f Q3)
         (try first | replace Q3 := bx_t Q3 | replace Q3 := bx_f Q3 | replace Q3 := be_t Q3 | replace Q3 := be_f Q3 | replace Q3 := of_decide_eq_true Q3 | replace Q3 := of_decide_eq_false Q3)
         first
          | (exfalso; first | omega | contradiction | (cases Q3; done))
          | skip
            refine cd_exit ?_
            refine ex_then ?_
            refine ex_then ?_
            refine ex_block ?_
            refine nx_then ?_
            refine cd_seq ?_
            refine cd_region ?_
            refine st_val (ro_assign (v := .int _ _) rfl) ?_
            refine st_nil ?_
            refine nx_then ?_
            refine cd_ret ?_
            refine res1 (v := .int _ _) rfl rfl ?_
            refine ⟨int_eq ?_, rfl⟩
            have h9 : ¬ (0 ≤ j ∧ j < (cntC L cc L.length : Nat)) := by
              rcases Nat.lt_or_ge i L.length with a | a
              · rcases hc with h | h
                · omega
                · subst h; omega
              · obtain rfl : i = L.length := by omega
                omega
            unfold refS
            rw [occ_out h9]
            rfl
  · (try first | replace Q2 := bn_t Q2 | replace Q2 := bn_f Q2)
    (try first | replace Q2 := bx_t Q2 | replace Q2 := bx_f Q2 | replace Q2 := be_t Q2 | replace Q2 := be_f Q2 | replace Q2 := of_decide_eq_true Q2 | replace Q2 := of_decide_eq_false Q2)
    first
     | (exfalso; first | omega | contradiction | (cases Q2; done))
     | skip
       refine st_gno rfl rfl ?_
       refine st_gno rfl rfl ?_
       refine st_val (ro_pickF (v := .bool _) rfl rfl) ?_
       refine st_nil ?_
       refine nx_then ?_
       refine cd_condF rfl ?_
       refine cd_exit ?_
       refine ex_then ?_
       refine ex_then ?_
       refine ex_block ?_
       refine nx_then ?_
       refine cd_seq ?_
       refine cd_region ?_
       refine st_val (ro_assign (v := .int _ _) rfl) ?_
       refine st_nil ?_
       refine nx_then ?_
       refine cd_ret ?_
       refine res1 (v := .int _ _) rfl rfl ?_
       refine ⟨int_eq ?_, rfl⟩
       have h9 : ¬ (0 ≤ j ∧ j < (cntC L cc L.length : Nat)) := by
         rcases Nat.lt_or_ge i L.length with a | a
         · rcases hc with h | h
           · omega
           · subst h; omega
         · obtain rfl : i = L.length := by omega
           omega
       unfold refS
       rw [occ_out h9]
       rfl
theorem refSel_any (A : Option Addr) (ca : Nat) (c j : Int) (L : List Nat) (xs : List Int) (w : World) (hx : xs = L.map fun x : Nat => (x : Int)) (hr : RowOf iV w A xs) (hl : xs.length ≤ 1000000000000) (hj : j ≤ 9223372036854775807) (hc : 0 ≤ c) :
    Rt Tryd.prog 9 [.slice A xs.length ca, .int .i64 c, .int .i64 j] w fun v w' => v = .int .i64 (refS L c.toNat j) ∧ w = w' := by
  obtain ⟨cc, rfl⟩ : ∃ cc : Nat, c = (cc : Int) := ⟨c.toNat, by omega⟩
  rw [Int.toNat_natCast]
  exact refSel_n A ca cc j L xs w hx hr hl hj
theorem selP_nn (l : List Bool) (z : Bool) (k : Int) : 0 ≤ selP l z k := by unfold selP; split <;> omega
theorem sl_neg {K : Nat} {L : List Nat} {c j : Int} (h : 0 ≤ c ∧ c < (K : Nat)) (hr : refS L c.toNat j < 0) : 0 = slV K L c j ∧ 3 = slE K L c j := by
  have ho : selO (cb L c.toNat) false j = false := by
    cases hb : selO (cb L c.toNat) false j with
    | false => rfl
    | true =>
      unfold refS at hr
      rw [if_pos hb] at hr
      have := selP_nn (cb L c.toNat) false j
      omega
  have := sl_none h ho
  exact ⟨((this.1 (by decide)).2).symm, ((this.1 (by decide)).1).symm⟩
theorem sl_pos {K : Nat} {L : List Nat} {c j : Int} (h : 0 ≤ c ∧ c < (K : Nat)) (hr : ¬ refS L c.toNat j < 0) : refS L c.toNat j = slV K L c j ∧ 0 = slE K L c j := by
  have ho : selO (cb L c.toNat) false j = true := by
    cases hb : selO (cb L c.toNat) false j with
    | true => rfl
    | false =>
      unfold refS at hr
      rw [if_neg (by rw [hb]; decide)] at hr
      omega
  have := sl_in h ho
  unfold refS
  rw [if_pos ho]
  exact ⟨((this.2 rfl).2).symm, ((this.2 rfl).1).symm⟩
theorem sl_unk {K : Nat} {L : List Nat} {c j : Int} (h : ¬ (0 ≤ c ∧ c < (K : Nat))) : 0 = slV K L c j ∧ 1 = slE K L c j := by
  have := sl_out (L := L) (j := j) h
  exact ⟨((this.1 (by decide)).2).symm, ((this.1 (by decide)).1).symm⟩
theorem sl_told {K : Nat} {L : List Nat} {c j : Int} : (slE K L c j ≠ 0 → slE K L c j = slE K L c j ∧ slV K L c j = 0) ∧ (slE K L c j = 0 → slE K L c j = 0 ∧ slV K L c j = slV K L c j) := by
  refine ⟨fun h => ⟨rfl, ?_⟩, fun h => ⟨h, rfl⟩⟩
  unfold slE at h
  unfold slV
  split
  · rename_i hk
    rw [if_pos hk] at h
    unfold selE at h
    apply selP_no
    cases hb : selO (cb L c.toNat) false j with
    | false => rfl
    | true => rw [if_pos hb] at h; exact absurd rfl h
  · rfl
set_option maxRecDepth 100000 in
set_option maxHeartbeats 3000000 in
theorem selects_law (k : Int) (A B : Option Addr) (ca cb : Nat) (xs is : List Int) (w : World) (hr : RowOf iV w A xs) (hb64 : ∀ x ∈ xs, -9223372036854775808 ≤ x ∧ x ≤ 9223372036854775807) (hrB : RowOf iV w B is) (hB64 : ∀ x ∈ is, -9223372036854775808 ≤ x ∧ x ≤ 9223372036854775807) (hTZ : TZ w) :
    Rt Tryd.prog 3 [.agg #[.int .i64 k, .slice A xs.length ca, .slice B is.length cb]] w (fun v w' => v = .bool true ∧ From w w') := by
  refine enter (n := 82) Tryd.func3 rfl rfl rfl ?_
  refine cd_seq ?_
  refine cd_region ?_
  refine st_box (v := .agg _) rfl ?_
  intro b1 w1 E1 hb1 hk1
  refine st_val (ro_assign (v := .bool _) rfl) ?_
  refine st_nil ?_
  refine nx_then ?_
  refine cd_seq ?_
  refine cd_seq ?_
  refine cd_region ?_
  refine st_val (ro_loadA (cs := [_, _, _]) WavSelects_g24 WavSelects_z24 rfl (by first | (first | exact (hP1.from_ From.rfl_).whole | exact (hP1.from_ From.rfl_).rd 0 rfl | exact (hP1.from_ From.rfl_).rd 1 rfl | exact (hP1.from_ From.rfl_).rd 2 rfl) | (first | exact (hk1.from_ From.rfl_).whole | exact (hk1.from_ From.rfl_).rd 0 rfl | exact (hk1.from_ From.rfl_).rd 1 rfl | exact (hk1.from_ From.rfl_).rd 2 rfl))) ?_
  refine st_call WavSelects_k6 (heavy_any k A B _ ca _ cb _) ?_
  rintro v13 w2 ⟨rfl, E13⟩
  refine st_nil ?_
  refine nx_then ?_
  refine cd_cond rfl (fun Q3 => ?_) (fun Q3 => ?_)
  · (try first | replace Q3 := bn_t Q3 | replace Q3 := bn_f Q3)
    (try first | replace Q3 := bx_t Q3 | replace Q3 := bx_f Q3 | replace Q3 := be_t Q3 | replace Q3 := be_f Q3 | replace Q3 := of_decide_eq_true Q3 | replace Q3 := of_decide_eq_false Q3)
    first
     | (exfalso; first | omega | (simp only [hne] at *; done) | (simp_all; done) | contradiction | (cases Q3; done))
     | skip
       refine cd_seq ?_
       refine cd_region ?_
       refine st_val (ro_assign (v := .bool _) rfl) ?_
       refine st_nil ?_
       refine nx_then ?_
       refine cd_ret ?_
       refine rt_then ?_
       refine res1 (v := .bool _) rfl rfl ?_
       exact ⟨rfl, ((From.rfl_.next E1).next E13)⟩
  · (try first | replace Q3 := bn_t Q3 | replace Q3 := bn_f Q3)
    (try first | replace Q3 := bx_t Q3 | replace Q3 := bx_f Q3 | replace Q3 := be_t Q3 | replace Q3 := be_f Q3 | replace Q3 := of_decide_eq_true Q3 | replace Q3 := of_decide_eq_false Q3)
    first
     | (exfalso; first | omega | (simp only [hne] at *; done) | (simp_all; done) | contradiction | (cases Q3; done))
     | skip
       refine cd_skip ?_
       refine nx_then ?_
       refine cd_seq ?_
       refine cd_region ?_
       refine st_val (ro_loadA (cs := [_, _, _]) WavSelects_g24 WavSelects_z24 rfl (by first | (first | exact (hP1.from_ (From.rfl_.next E13)).whole | exact (hP1.from_ (From.rfl_.next E13)).rd 0 rfl | exact (hP1.from_ (From.rfl_.next E13)).rd 1 rfl | exact (hP1.from_ (From.rfl_.next E13)).rd 2 rfl) | (first | exact (hk1.from_ (From.rfl_.next E13)).whole | exact (hk1.from_ (From.rfl_.next E13)).rd 0 rfl | exact (hk1.from_ (From.rfl_.next E13)).rd 1 rfl | exact (hk1.from_ (From.rfl_.next E13)).rd 2 rfl))) ?_
       have hz16 := (((From.rfl_.next E1).next E13)).size
       refine st_call WavSelects_k7 (made_rt k A B ca _ cb xs _ (hr.from_ ((From.rfl_.next E1).next E13)) (by omega)) ?_
       rintro v16 w4 ⟨hn16, E16⟩
       replace hk1 := hk1.from_ ((From.rfl_.next E13).next E16)
       rcases hn16 with ⟨hne, rfl⟩ | ⟨K, L, b, rfl, hx, rfl, hv⟩
       · refine st_val (ro_move (v := .tuple _) rfl) ?_
         refine st_val (ro_extract rfl rfl) ?_
         refine st_val (ro_extract rfl rfl) ?_
         refine st_val (ro_assign (v := .pointer _) rfl) ?_
         refine st_val (ro_assign (v := .int _ _) rfl) ?_
         refine st_nil ?_
         refine nx_then ?_
         refine cd_seq ?_
         refine cd_seq ?_
         refine cd_region ?_
         refine st_val (ro_move (v := .pointer _) rfl) ?_
         refine st_val (ro_eqlNil WavSelects_p26 rfl rfl) ?_
         refine st_nil ?_
         refine nx_then ?_
         refine cd_cond rfl (fun Q5 => ?_) (fun Q5 => ?_)
         · (try first | replace Q5 := bn_t Q5 | replace Q5 := bn_f Q5)
           (try first | replace Q5 := bx_t Q5 | replace Q5 := bx_f Q5 | replace Q5 := be_t Q5 | replace Q5 := be_f Q5 | replace Q5 := of_decide_eq_true Q5 | replace Q5 := of_decide_eq_false Q5)
           first
            | (exfalso; first | omega | (simp only [hne] at *; done) | (simp_all; done) | contradiction | (cases Q5; done))
            | skip
              refine cd_seq ?_
              refine cd_region ?_
              refine st_val (ro_move (v := .int _ _) rfl) ?_
              refine st_val (ro_neq rfl rfl) ?_
              refine st_val (ro_move (v := .bool _) rfl) ?_
              refine st_split (t := 23) rfl (fun Q6 => ?_) (fun Q6 => ?_)
              · (try first | replace Q6 := bn_t Q6 | replace Q6 := bn_f Q6)
                (try first | replace Q6 := bx_t Q6 | replace Q6 := bx_f Q6 | replace Q6 := be_t Q6 | replace Q6 := be_f Q6 | replace Q6 := of_decide_eq_true Q6 | replace Q6 := of_decide_eq_false Q6)
                first
                 | (exfalso; first | omega | (simp only [hne] at *; done) | (simp_all; done) | contradiction | (cases Q6; done))
                 | skip
                   refine st_unguard rfl ?_
                   refine st_call WavSelects_k8 (wakes_any _) ?_
                   rintro v24 w7 ⟨rfl, E24⟩
                   refine st_val (ro_pickT (v := .bool _) rfl rfl) ?_
                   refine st_val (ro_assign (v := .bool _) rfl) ?_
                   refine st_nil ?_
                   refine nx_then ?_
                   refine cd_ret ?_
                   refine rt_then ?_
                   refine res1 (v := .bool _) rfl rfl ?_
                   exact ⟨rfl, ((((From.rfl_.next E1).next E13).next E16).next E24)⟩
              · (try first | replace Q6 := bn_t Q6 | replace Q6 := bn_f Q6)
                (try first | replace Q6 := bx_t Q6 | replace Q6 := bx_f Q6 | replace Q6 := be_t Q6 | replace Q6 := be_f Q6 | replace Q6 := of_decide_eq_true Q6 | replace Q6 := of_decide_eq_false Q6)
                first
                 | (exfalso; first | omega | (simp only [hne] at *; done) | (simp_all; done) | contradiction | (cases Q6; done))
                 | skip
                   refine st_gno rfl rfl ?_
                   refine st_val (ro_pickF (v := .bool _) rfl rfl) ?_
                   refine st_val (ro_assign (v := .bool _) rfl) ?_
                   refine st_nil ?_
                   refine nx_then ?_
                   refine cd_ret ?_
                   refine rt_then ?_
                   refine res1 (v := .bool _) rfl rfl ?_
                   exact ⟨rfl, (((From.rfl_.next E1).next E13).next E16)⟩
         · (try first | replace Q5 := bn_t Q5 | replace Q5 := bn_f Q5)
           (try first | replace Q5 := bx_t Q5 | replace Q5 := bx_f Q5 | replace Q5 := be_t Q5 | replace Q5 := be_f Q5 | replace Q5 := of_decide_eq_true Q5 | replace Q5 := of_decide_eq_false Q5)
           first
            | (exfalso; first | omega | (simp only [hne] at *; done) | (simp_all; done) | contradiction | (cases Q5; done))
            | skip
              refine cd_skip ?_
              refine nx_then ?_
              refine cd_seq ?_
              refine cd_seq ?_
              refine cd_region ?_
              refine st_val (ro_assign (v := .int _ _) rfl) ?_
              refine st_nil ?_
              refine nx_then ?_
              refine cd_block ?_
              refine cd_loop (G := Nat) [2, 6, 7, 8, 9, 10, 11, 26, 27, 28, 29, 30, 31, 32, 33, 34, 35, 36, 37, 38, 39, 40, 41, 42, 43, 44, 45, 46, 47, 48, 49, 50, 51, 52, 53, 54, 55, 56, 57, 58, 59, 60, 61, 62, 63, 64, 65, 66, 67, 68, 69, 70, 71, 72, 73, 74, 75, 76, 77, 78, 79, 80] (fun i => [(5, .int .i64 (i : Nat))]) (fun i w' => i ≤ is.length ∧ TreeAt w' w.heap.size b K L ∧ Blk w' b1 24 #[.int .i64 (K : Nat), .slice A xs.length ca, .slice B is.length cb] ∧ From w w') (fun i => is.length - i) (0) ⟨rfl, trivial⟩ ?_ ?_
              · exact ⟨Nat.zero_le _, hv.from_ From.rfl_, hk1.from_ From.rfl_, (((From.rfl_.next E1).next E13).next E16)⟩
              rintro i ρ8 w8 ⟨hi, hv, hP1, hB⟩
              refine cd_seq ?_
              refine cd_seq ?_
              refine cd_region ?_
              refine st_val (ro_move (v := .int _ _) rfl) ?_
              refine st_val (ro_fieldAddr WavSelects_f24_2 rfl) ?_
              refine st_val (ro_load WavSelects_g22 rfl (by first | (first | exact (hP1.from_ From.rfl_).whole | exact (hP1.from_ From.rfl_).rd 0 rfl | exact (hP1.from_ From.rfl_).rd 1 rfl | exact (hP1.from_ From.rfl_).rd 2 rfl) | (first | exact (hk1.from_ From.rfl_).whole | exact (hk1.from_ From.rfl_).rd 0 rfl | exact (hk1.from_ From.rfl_).rd 1 rfl | exact (hk1.from_ From.rfl_).rd 2 rfl))) ?_
              refine st_val (ro_len WavSelects_l22 rfl) ?_
              refine st_val (ro_lss rfl rfl) ?_
              refine st_nil ?_
              refine nx_then ?_
              refine cd_cond rfl (fun Q9 => ?_) (fun Q9 => ?_)
              · (try first | replace Q9 := bn_t Q9 | replace Q9 := bn_f Q9)
                (try first | replace Q9 := bx_t Q9 | replace Q9 := bx_f Q9 | replace Q9 := be_t Q9 | replace Q9 := be_f Q9 | replace Q9 := of_decide_eq_true Q9 | replace Q9 := of_decide_eq_false Q9)
                have hil : i < is.length := by omega
                obtain ⟨bb, ob, hB0, hcb⟩ := hrB (by omega)
                subst hB0
                first
                 | (exfalso; first | omega | (simp only [hne] at *; done) | (simp_all; done) | contradiction | (cases Q9; done))
                 | skip
                   refine cd_skip ?_
                   refine nx_then ?_
                   refine cd_seq ?_
                   refine cd_block ?_
                   refine cd_seq ?_
                   refine cd_region ?_
                   refine st_val (ro_assign (v := .int _ _) rfl) ?_
                   refine st_nil ?_
                   refine nx_then ?_
                   refine cd_block ?_
                   refine cd_loop (G := Nat) [2, 7, 8, 9, 10, 11, 33, 34, 35, 36, 37, 38, 39, 40, 41, 42, 43, 44, 45, 46, 47, 48, 49, 50, 51, 52, 53, 54, 55, 56, 57, 58, 59, 60, 61, 62, 63, 64, 65, 66, 67, 68, 69, 70, 71, 72, 73, 74, 75, 76, 77, 78, 79, 80] (fun l => [(6, .int .i64 (l : Nat))]) (fun l w' => l ≤ is.length ∧ TreeAt w' w.heap.size b K L ∧ Blk w' b1 24 #[.int .i64 (K : Nat), .slice A xs.length ca, .slice (some ⟨bb, ob, none⟩) is.length cb] ∧ From w w') (fun l => is.length - l) (0) ⟨rfl, trivial⟩ ?_ ?_
                   · exact ⟨Nat.zero_le _, hv.from_ From.rfl_, hP1.from_ From.rfl_, hB⟩
                   rintro l ρ10 w10 ⟨hl, hv, hP1, hB⟩
                   refine cd_seq ?_
                   refine cd_seq ?_
                   refine cd_region ?_
                   refine st_val (ro_move (v := .int _ _) rfl) ?_
                   refine st_val (ro_fieldAddr WavSelects_f24_2 rfl) ?_
                   refine st_val (ro_load WavSelects_g22 rfl (by first | (first | exact (hP1.from_ From.rfl_).whole | exact (hP1.from_ From.rfl_).rd 0 rfl | exact (hP1.from_ From.rfl_).rd 1 rfl | exact (hP1.from_ From.rfl_).rd 2 rfl) | (first | exact (hk1.from_ From.rfl_).whole | exact (hk1.from_ From.rfl_).rd 0 rfl | exact (hk1.from_ From.rfl_).rd 1 rfl | exact (hk1.from_ From.rfl_).rd 2 rfl))) ?_
                   refine st_val (ro_len WavSelects_l22 rfl) ?_
                   refine st_val (ro_lss rfl rfl) ?_
                   refine st_nil ?_
                   refine nx_then ?_
                   refine cd_cond rfl (fun Q11 => ?_) (fun Q11 => ?_)
                   · (try first | replace Q11 := bn_t Q11 | replace Q11 := bn_f Q11)
                     (try first | replace Q11 := bx_t Q11 | replace Q11 := bx_f Q11 | replace Q11 := be_t Q11 | replace Q11 := be_f Q11 | replace Q11 := of_decide_eq_true Q11 | replace Q11 := of_decide_eq_false Q11)
                     have hll : l < is.length := by omega
                     first
                      | (exfalso; first | omega | (simp only [hne] at *; done) | (simp_all; done) | contradiction | (cases Q11; done))
                      | skip
                        refine cd_skip ?_
                        refine nx_then ?_
                        refine cd_seq ?_
                        refine cd_block ?_
                        refine cd_seq ?_
                        refine cd_region ?_
                        refine st_val (ro_fieldAddr WavSelects_f24_2 rfl) ?_
                        refine st_val (ro_load WavSelects_g22 rfl (by first | (first | exact (hP1.from_ From.rfl_).whole | exact (hP1.from_ From.rfl_).rd 0 rfl | exact (hP1.from_ From.rfl_).rd 1 rfl | exact (hP1.from_ From.rfl_).rd 2 rfl) | (first | exact (hk1.from_ From.rfl_).whole | exact (hk1.from_ From.rfl_).rd 0 rfl | exact (hk1.from_ From.rfl_).rd 1 rfl | exact (hk1.from_ From.rfl_).rd 2 rfl))) ?_
                        refine st_val (ro_move (v := .int _ _) rfl) ?_
                        refine st_val (ro_indexAddr1 WavSelects_e22 rfl rfl (by omega)) ?_
                        refine st_val (ro_load WavSelects_g3 rfl (by exact cellF hB (hcb i hil))) ?_
                        refine st_val (ro_assign (v := .int _ _) rfl) ?_
                        refine st_nil ?_
                        refine nx_then ?_
                        refine cd_seq ?_
                        refine cd_region ?_
                        refine st_val (ro_assign (v := .int _ _) rfl) ?_
                        refine st_val (ro_assign (v := .int _ _) rfl) ?_
                        refine st_nil ?_
                        refine nx_then ?_
                        refine cd_cut (G := Unit) [45, 46, 47, 48, 49, 50, 51, 52, 53, 54, 55, 56, 57, 58, 59, 60, 61, 62, 63] (fun _ => [(8, .int .i64 (slV K L is[i] is[l])), (9, .int .i64 (slE K L is[i] is[l]))]) (fun _ w' => TreeAt w' w.heap.size b K L ∧ Blk w' b1 24 #[.int .i64 (K : Nat), .slice A xs.length ca, .slice (some ⟨bb, ob, none⟩) is.length cb] ∧ From w w') ?_ ?_
                        · refine cd_seq ?_
                          refine cd_region ?_
                          refine st_val (ro_move (v := .int _ _) rfl) ?_
                          refine st_val (ro_lss rfl rfl) ?_
                          refine st_val (ro_move (v := .bool _) rfl) ?_
                          refine st_split (t := 47) rfl (fun Q12 => ?_) (fun Q12 => ?_)
                          · (try first | replace Q12 := bn_t Q12 | replace Q12 := bn_f Q12)
                            (try first | replace Q12 := bx_t Q12 | replace Q12 := bx_f Q12 | replace Q12 := be_t Q12 | replace Q12 := be_f Q12 | replace Q12 := of_decide_eq_true Q12 | replace Q12 := of_decide_eq_false Q12)
                            first
                             | (exfalso; first | omega | (simp only [hne] at *; done) | (simp_all; done) | contradiction | (cases Q12; done))
                             | skip
                               refine st_gno rfl rfl ?_
                               refine st_gno rfl rfl ?_
                               refine st_gno rfl rfl ?_
                               refine st_gno rfl rfl ?_
                               refine st_val (ro_pickT (v := .bool _) rfl rfl) ?_
                               refine st_nil ?_
                               refine nx_then ?_
                               refine cd_condT rfl ?_
                               refine cd_region ?_
                               refine st_val (ro_assign (v := .int _ _) rfl) ?_
                               refine st_nil ?_
                               refine nx_cut (()) ⟨(int_eq (sl_unk (by omega)).1), (int_eq (sl_unk (by omega)).2), trivial⟩ (by (iterate 10 refine agr_cons rfl ?_); exact agr_rfl) ?_
                               exact ⟨hv.from_ From.rfl_, hP1.from_ From.rfl_, hB⟩
                          · (try first | replace Q12 := bn_t Q12 | replace Q12 := bn_f Q12)
                            (try first | replace Q12 := bx_t Q12 | replace Q12 := bx_f Q12 | replace Q12 := be_t Q12 | replace Q12 := be_f Q12 | replace Q12 := of_decide_eq_true Q12 | replace Q12 := of_decide_eq_false Q12)
                            first
                             | (exfalso; first | omega | (simp only [hne] at *; done) | (simp_all; done) | contradiction | (cases Q12; done))
                             | skip
                               refine st_unguard rfl ?_
                               refine st_val (ro_move (v := .int _ _) rfl) ?_
                               refine st_unguard rfl ?_
                               refine st_val (ro_fieldAddr WavSelects_f24_0 rfl) ?_
                               refine st_unguard rfl ?_
                               refine st_val (ro_load WavSelects_g3 rfl (by first | (first | exact (hP1.from_ From.rfl_).whole | exact (hP1.from_ From.rfl_).rd 0 rfl | exact (hP1.from_ From.rfl_).rd 1 rfl | exact (hP1.from_ From.rfl_).rd 2 rfl) | (first | exact (hk1.from_ From.rfl_).whole | exact (hk1.from_ From.rfl_).rd 0 rfl | exact (hk1.from_ From.rfl_).rd 1 rfl | exact (hk1.from_ From.rfl_).rd 2 rfl))) ?_
                               refine st_unguard rfl ?_
                               refine st_val (ro_geq rfl rfl) ?_
                               refine st_val (ro_pickF (v := .bool _) rfl rfl) ?_
                               refine st_nil ?_
                               refine nx_then ?_
                               refine cd_cond rfl (fun Q13 => ?_) (fun Q13 => ?_)
                               · (try first | replace Q13 := bn_t Q13 | replace Q13 := bn_f Q13)
                                 (try first | replace Q13 := bx_t Q13 | replace Q13 := bx_f Q13 | replace Q13 := be_t Q13 | replace Q13 := be_f Q13 | replace Q13 := of_decide_eq_true Q13 | replace Q13 := of_decide_eq_false Q13)
                                 first
                                  | (exfalso; first | omega | (simp only [hne] at *; done) | (simp_all; done) | contradiction | (cases Q13; done))
                                  | skip
                                    refine cd_region ?_
                                    refine st_val (ro_assign (v := .int _ _) rfl) ?_
                                    refine st_nil ?_
                                    refine nx_cut (()) ⟨(int_eq (sl_unk (by omega)).1), (int_eq (sl_unk (by omega)).2), trivial⟩ (by (iterate 10 refine agr_cons rfl ?_); exact agr_rfl) ?_
                                    exact ⟨hv.from_ From.rfl_, hP1.from_ From.rfl_, hB⟩
                               · (try first | replace Q13 := bn_t Q13 | replace Q13 := bn_f Q13)
                                 (try first | replace Q13 := bx_t Q13 | replace Q13 := bx_f Q13 | replace Q13 := be_t Q13 | replace Q13 := be_f Q13 | replace Q13 := of_decide_eq_true Q13 | replace Q13 := of_decide_eq_false Q13)
                                 first
                                  | (exfalso; first | omega | (simp only [hne] at *; done) | (simp_all; done) | contradiction | (cases Q13; done))
                                  | skip
                                    refine cd_seq ?_
                                    apply cd_drawnD 10 [(53, eqp _), (54, eqp (.slice A xs.length ca)), (55, eqp _), (56, eqp _), (57, eqp (.slice (some ⟨bb, ob, none⟩) is.length cb)), (58, eqp _), (59, eqp _), (60, eqp (iV (is[l]'hll))), (61, eqp _), (8, eqp _)] (by repeat first | exact pq_body | refine pq_then ?_ | refine pq_block ?_) (by kernel_rfl) (by kernel_rfl) ⟨eqp_mono _, eqp_mono _, eqp_mono _, eqp_mono _, eqp_mono _, eqp_mono _, eqp_mono _, eqp_mono _, eqp_mono _, eqp_mono _, trivial⟩
                                    case hop =>
                                     refine ⟨?_, ?_⟩
                                     · rintro - w15 D15
                                       show OpOK _ _ _ _ _ _ _
                                       exact ok_pure (ro_fieldAddr WavSelects_f24_1 rfl) rfl
                                     refine ⟨?_, ?_⟩
                                     · rintro - w16 D16
                                       rintro _ rfl
                                       show OpOK _ _ _ _ _ _ _
                                       exact ok_pure (ro_load WavSelects_g22 rfl ((hP1.from_ D16).rd 1 rfl)) rfl
                                     refine ⟨?_, ?_⟩
                                     · rintro - w17 D17
                                       show OpOK _ _ _ _ _ _ _
                                       exact ok_pure (ro_move (v := .int _ _) rfl) rfl
                                     refine ⟨?_, ?_⟩
                                     · rintro - w18 D18
                                       show OpOK _ _ _ _ _ _ _
                                       exact ok_pure (ro_fieldAddr WavSelects_f24_2 rfl) rfl
                                     refine ⟨?_, ?_⟩
                                     · rintro - w19 D19
                                       rintro _ rfl
                                       show OpOK _ _ _ _ _ _ _
                                       exact ok_pure (ro_load WavSelects_g22 rfl ((hP1.from_ D19).rd 2 rfl)) rfl
                                     refine ⟨?_, ?_⟩
                                     · rintro - w20 D20
                                       show OpOK _ _ _ _ _ _ _
                                       exact ok_pure (ro_move (v := .int _ _) rfl) rfl
                                     refine ⟨?_, ?_⟩
                                     · rintro - w21 D21
                                       rintro v21_57 rfl _ rfl
                                       show OpOK _ _ _ _ _ _ _
                                       exact ok_pure (ro_indexAddr1 WavSelects_e22 rfl rfl (by omega)) rfl
                                     refine ⟨?_, ?_⟩
                                     · rintro - w22 D22
                                       rintro _ rfl
                                       show OpOK _ _ _ _ _ _ _
                                       exact ok_pure (ro_load (v := iV (is[l]'hll)) WavSelects_g3 rfl (cellF (hB.next D22) (hcb l hll))) rfl
                                     refine ⟨?_, ?_⟩
                                     · rintro - w23 D23
                                       rintro v23_54 rfl _ rfl v23_60 rfl
                                       show OpOK _ _ _ _ _ _ _
                                       refine ok_call WavSelects_k9 ((refSel_any A ca is[i] is[l] L xs _ hx (hr.from_ (hB.next D23)) (by omega) (hB64 _ (List.getElem_mem hll)).2 (by omega)).mono ?_)
                                       rintro v _ ⟨rfl, rfl⟩; exact ⟨From.rfl_, rfl⟩
                                     refine ⟨?_, ?_⟩
                                     · rintro - w24 D24
                                       rintro _ rfl
                                       show OpOK _ _ _ _ _ _ _
                                       exact ok_pure (ro_assign (v := .int _ _) rfl) rfl
                                     exact trivial
                                    case hend =>
                                     intro w25 D25
                                     rintro _ rfl v54 rfl _ rfl _ rfl v57 rfl _ rfl _ rfl v60 rfl _ rfl _ rfl
                                     show St _ _ _ _ _ _ _
                                     refine st_nil ?_
                                     refine nx_then ?_
                                     refine cd_seq ?_
                                     refine cd_region ?_
                                     refine st_val (ro_move (v := .int _ _) rfl) ?_
                                     refine st_val (ro_lss rfl rfl) ?_
                                     refine st_nil ?_
                                     refine nx_then ?_
                                     refine cd_cond rfl (fun Q26 => ?_) (fun Q26 => ?_)
                                     · (try first | replace Q26 := bn_t Q26 | replace Q26 := bn_f Q26)
                                       (try first | replace Q26 := bx_t Q26 | replace Q26 := bx_f Q26 | replace Q26 := be_t Q26 | replace Q26 := be_f Q26 | replace Q26 := of_decide_eq_true Q26 | replace Q26 := of_decide_eq_false Q26)
                                       have hn8 := sl_neg (K := K) (L := L) (c := is[i]) (j := is[l]) (by omega) (by omega)
                                       first
                                        | (exfalso; first | omega | (simp only [hne] at *; done) | (simp_all; done) | contradiction | (cases Q26; done))
                                        | skip
                                          refine cd_region ?_
                                          refine st_val (ro_assign (v := .int _ _) rfl) ?_
                                          refine st_val (ro_assign (v := .int _ _) rfl) ?_
                                          refine st_nil ?_
                                          refine nx_cut (()) ⟨(int_eq hn8.1), (int_eq hn8.2), trivial⟩ (by (iterate 23 refine agr_cons rfl ?_); exact agr_rfl) ?_
                                          exact ⟨hv.from_ (From.rfl_.next D25), hP1.from_ (From.rfl_.next D25), (hB.next D25)⟩
                                     · (try first | replace Q26 := bn_t Q26 | replace Q26 := bn_f Q26)
                                       (try first | replace Q26 := bx_t Q26 | replace Q26 := bx_f Q26 | replace Q26 := be_t Q26 | replace Q26 := be_f Q26 | replace Q26 := of_decide_eq_true Q26 | replace Q26 := of_decide_eq_false Q26)
                                       have hn8 := sl_pos (K := K) (L := L) (c := is[i]) (j := is[l]) (by omega) (by omega)
                                       first
                                        | (exfalso; first | omega | (simp only [hne] at *; done) | (simp_all; done) | contradiction | (cases Q26; done))
                                        | skip
                                          refine cd_skip ?_
                                          refine nx_cut (()) ⟨(int_eq hn8.1), (int_eq hn8.2), trivial⟩ (by (iterate 21 refine agr_cons rfl ?_); exact agr_rfl) ?_
                                          exact ⟨hv.from_ (From.rfl_.next D25), hP1.from_ (From.rfl_.next D25), (hB.next D25)⟩
                        · rintro ⟨⟩ ρ27 w27 ⟨hv, hP1, hB⟩
                          refine cd_seq ?_
                          refine cd_region ?_
                          refine st_val (ro_move (v := .pointer _) rfl) ?_
                          refine st_val (ro_move (v := .int _ _) rfl) ?_
                          refine st_val (ro_fieldAddr WavSelects_f24_2 rfl) ?_
                          refine st_val (ro_load WavSelects_g22 rfl (by first | (first | exact (hP1.from_ From.rfl_).whole | exact (hP1.from_ From.rfl_).rd 0 rfl | exact (hP1.from_ From.rfl_).rd 1 rfl | exact (hP1.from_ From.rfl_).rd 2 rfl) | (first | exact (hk1.from_ From.rfl_).whole | exact (hk1.from_ From.rfl_).rd 0 rfl | exact (hk1.from_ From.rfl_).rd 1 rfl | exact (hk1.from_ From.rfl_).rd 2 rfl))) ?_
                          refine st_val (ro_move (v := .int _ _) rfl) ?_
                          refine st_val (ro_indexAddr1 WavSelects_e22 rfl rfl (by omega)) ?_
                          refine st_val (ro_load WavSelects_g3 rfl (by exact cellF hB (hcb l hll))) ?_
                          refine st_call WavSelects_k10 (selectT _ b K L _ (hv.from_ From.rfl_) (hTZ.from_ hB) is[i] is[l]) ?_
                          rintro v72 w28 ⟨rfl, E72⟩
                          refine st_val (ro_move (v := .tuple _) rfl) ?_
                          refine st_val (ro_extract rfl rfl) ?_
                          refine st_val (ro_extract rfl rfl) ?_
                          refine st_val (ro_assign (v := .int _ _) rfl) ?_
                          refine st_val (ro_assign (v := .int _ _) rfl) ?_
                          refine st_nil ?_
                          refine nx_then ?_
                          refine cd_seq ?_
                          refine cd_region ?_
                          refine st_val (ro_move (v := .int _ _) rfl) ?_
                          refine st_val (ro_move (v := .int _ _) rfl) ?_
                          refine st_val (ro_move (v := .int _ _) rfl) ?_
                          refine st_val (ro_move (v := .int _ _) rfl) ?_
                          refine st_call WavSelects_k11 (told_any _ _ _ _ _ sl_told) ?_
                          rintro v79 w29 ⟨rfl, rfl⟩
                          refine st_val (ro_not rfl) ?_
                          refine st_nil ?_
                          refine nx_then ?_
                          refine cd_cond rfl (fun Q30 => ?_) (fun Q30 => ?_)
                          · (try first | replace Q30 := bn_t Q30 | replace Q30 := bn_f Q30)
                            (try first | replace Q30 := bx_t Q30 | replace Q30 := bx_f Q30 | replace Q30 := be_t Q30 | replace Q30 := be_f Q30 | replace Q30 := of_decide_eq_true Q30 | replace Q30 := of_decide_eq_false Q30)
                            first
                             | (exfalso; first | omega | (simp only [hne] at *; done) | (simp_all; done) | contradiction | (cases Q30; done))
                             | skip
                               refine cd_seq ?_
                               refine cd_region ?_
                               refine st_val (ro_assign (v := .bool _) rfl) ?_
                               refine st_nil ?_
                               refine nx_then ?_
                               refine cd_ret ?_
                               refine rt_block ?_
                               refine rt_then ?_
                               refine rt_then ?_
                               refine rt_block ?_
                               refine rt_block ?_
                               refine rt_then ?_
                               refine rt_then ?_
                               refine rt_block ?_
                               refine rt_then ?_
                               refine res1 (v := .bool _) rfl rfl ?_
                               exact ⟨rfl, (hB.next E72)⟩
                          · (try first | replace Q30 := bn_t Q30 | replace Q30 := bn_f Q30)
                            (try first | replace Q30 := bx_t Q30 | replace Q30 := bx_f Q30 | replace Q30 := be_t Q30 | replace Q30 := be_f Q30 | replace Q30 := of_decide_eq_true Q30 | replace Q30 := of_decide_eq_false Q30)
                            first
                             | (exfalso; first | omega | (simp only [hne] at *; done) | (simp_all; done) | contradiction | (cases Q30; done))
                             | skip
                               refine cd_skip ?_
                               refine nx_block ?_
                               refine nx_then ?_
                               refine cd_region ?_
                               refine st_val (ro_move (v := .int _ _) rfl) ?_
                               refine st_val (ro_addN (b := 1) rfl rfl (by omega)) ?_
                               refine st_val (ro_assign (v := .int _ _) rfl) ?_
                               refine st_nil ?_
                               refine nx_cut (l + 1) ⟨(by first | rfl | (refine int_eq ?_; omega)), trivial⟩ (by (iterate 111 refine agr_cons rfl ?_); exact agr_rfl) ⟨?_, ?_⟩
                               · exact ⟨by omega, hv.from_ (From.rfl_.next E72), hP1.from_ (From.rfl_.next E72), (hB.next E72)⟩
                               · omega
                   · (try first | replace Q11 := bn_t Q11 | replace Q11 := bn_f Q11)
                     (try first | replace Q11 := bx_t Q11 | replace Q11 := bx_f Q11 | replace Q11 := be_t Q11 | replace Q11 := be_f Q11 | replace Q11 := of_decide_eq_true Q11 | replace Q11 := of_decide_eq_false Q11)
                     first
                      | (exfalso; first | omega | (simp only [hne] at *; done) | (simp_all; done) | contradiction | (cases Q11; done))
                      | skip
                        refine cd_exit ?_
                        refine ex_then ?_
                        refine ex_then ?_
                        refine ex_block ?_
                        refine nx_block ?_
                        refine nx_then ?_
                        refine cd_region ?_
                        refine st_val (ro_move (v := .int _ _) rfl) ?_
                        refine st_val (ro_addN (b := 1) rfl rfl (by omega)) ?_
                        refine st_val (ro_assign (v := .int _ _) rfl) ?_
                        refine st_nil ?_
                        refine nx_cut (i + 1) ⟨(by first | rfl | (refine int_eq ?_; omega)), trivial⟩ (by (iterate 132 refine agr_cons rfl ?_); exact agr_rfl) ⟨?_, ?_⟩
                        · exact ⟨by omega, hv.from_ From.rfl_, hP1.from_ From.rfl_, hB⟩
                        · omega
              · (try first | replace Q9 := bn_t Q9 | replace Q9 := bn_f Q9)
                (try first | replace Q9 := bx_t Q9 | replace Q9 := bx_f Q9 | replace Q9 := be_t Q9 | replace Q9 := be_f Q9 | replace Q9 := of_decide_eq_true Q9 | replace Q9 := of_decide_eq_false Q9)
                first
                 | (exfalso; first | omega | (simp only [hne] at *; done) | (simp_all; done) | contradiction | (cases Q9; done))
                 | skip
                   refine cd_exit ?_
                   refine ex_then ?_
                   refine ex_then ?_
                   refine ex_block ?_
                   refine nx_then ?_
                   refine cd_seq ?_
                   refine cd_region ?_
                   refine st_call WavSelects_k8 (wakes_any _) ?_
                   rintro v81 w31 ⟨rfl, E81⟩
                   refine st_val (ro_assign (v := .bool _) rfl) ?_
                   refine st_nil ?_
                   refine nx_then ?_
                   refine cd_ret ?_
                   refine res1 (v := .bool _) rfl rfl ?_
                   exact ⟨rfl, (hB.next E81)⟩
       · replace hv := hv.le hz16
         have hxl : xs.length = L.length := by rw [hx, List.length_map]
         obtain ⟨_, _, _, _, _, _, _, _, _, _, hK1, hK2, hlt, hLl⟩ := id hv
         refine st_val (ro_move (v := .tuple _) rfl) ?_
         refine st_val (ro_extract rfl rfl) ?_
         refine st_val (ro_extract rfl rfl) ?_
         refine st_val (ro_assign (v := .pointer _) rfl) ?_
         refine st_val (ro_assign (v := .int _ _) rfl) ?_
         refine st_nil ?_
         refine nx_then ?_
         refine cd_seq ?_
         refine cd_seq ?_
         refine cd_region ?_
         refine st_val (ro_move (v := .pointer _) rfl) ?_
         refine st_val (ro_eqlNil WavSelects_p26 rfl rfl) ?_
         refine st_nil ?_
         refine nx_then ?_
         refine cd_cond rfl (fun Q32 => ?_) (fun Q32 => ?_)
         · (try first | replace Q32 := bn_t Q32 | replace Q32 := bn_f Q32)
           (try first | replace Q32 := bx_t Q32 | replace Q32 := bx_f Q32 | replace Q32 := be_t Q32 | replace Q32 := be_f Q32 | replace Q32 := of_decide_eq_true Q32 | replace Q32 := of_decide_eq_false Q32)
           first
            | (exfalso; first | omega | (simp only [hne] at *; done) | (simp_all; done) | contradiction | (cases Q32; done))
            | skip
              refine cd_seq ?_
              refine cd_region ?_
              refine st_val (ro_move (v := .int _ _) rfl) ?_
              refine st_val (ro_neq rfl rfl) ?_
              refine st_val (ro_move (v := .bool _) rfl) ?_
              refine st_split (t := 23) rfl (fun Q33 => ?_) (fun Q33 => ?_)
              · (try first | replace Q33 := bn_t Q33 | replace Q33 := bn_f Q33)
                (try first | replace Q33 := bx_t Q33 | replace Q33 := bx_f Q33 | replace Q33 := be_t Q33 | replace Q33 := be_f Q33 | replace Q33 := of_decide_eq_true Q33 | replace Q33 := of_decide_eq_false Q33)
                first
                 | (exfalso; first | omega | (simp only [hne] at *; done) | (simp_all; done) | contradiction | (cases Q33; done))
                 | skip
                   refine st_unguard rfl ?_
                   refine st_call WavSelects_k8 (wakes_any _) ?_
                   rintro v24 w34 ⟨rfl, E24⟩
                   refine st_val (ro_pickT (v := .bool _) rfl rfl) ?_
                   refine st_val (ro_assign (v := .bool _) rfl) ?_
                   refine st_nil ?_
                   refine nx_then ?_
                   refine cd_ret ?_
                   refine rt_then ?_
                   refine res1 (v := .bool _) rfl rfl ?_
                   exact ⟨rfl, ((((From.rfl_.next E1).next E13).next E16).next E24)⟩
              · (try first | replace Q33 := bn_t Q33 | replace Q33 := bn_f Q33)
                (try first | replace Q33 := bx_t Q33 | replace Q33 := bx_f Q33 | replace Q33 := be_t Q33 | replace Q33 := be_f Q33 | replace Q33 := of_decide_eq_true Q33 | replace Q33 := of_decide_eq_false Q33)
                first
                 | (exfalso; first | omega | (simp only [hne] at *; done) | (simp_all; done) | contradiction | (cases Q33; done))
                 | skip
                   refine st_gno rfl rfl ?_
                   refine st_val (ro_pickF (v := .bool _) rfl rfl) ?_
                   refine st_val (ro_assign (v := .bool _) rfl) ?_
                   refine st_nil ?_
                   refine nx_then ?_
                   refine cd_ret ?_
                   refine rt_then ?_
                   refine res1 (v := .bool _) rfl rfl ?_
                   exact ⟨rfl, (((From.rfl_.next E1).next E13).next E16)⟩
         · (try first | replace Q32 := bn_t Q32 | replace Q32 := bn_f Q32)
           (try first | replace Q32 := bx_t Q32 | replace Q32 := bx_f Q32 | replace Q32 := be_t Q32 | replace Q32 := be_f Q32 | replace Q32 := of_decide_eq_true Q32 | replace Q32 := of_decide_eq_false Q32)
           first
            | (exfalso; first | omega | (simp only [hne] at *; done) | (simp_all; done) | contradiction | (cases Q32; done))
            | skip
              refine cd_skip ?_
              refine nx_then ?_
              refine cd_seq ?_
              refine cd_seq ?_
              refine cd_region ?_
              refine st_val (ro_assign (v := .int _ _) rfl) ?_
              refine st_nil ?_
              refine nx_then ?_
              refine cd_block ?_
              refine cd_loop (G := Nat) [2, 6, 7, 8, 9, 10, 11, 26, 27, 28, 29, 30, 31, 32, 33, 34, 35, 36, 37, 38, 39, 40, 41, 42, 43, 44, 45, 46, 47, 48, 49, 50, 51, 52, 53, 54, 55, 56, 57, 58, 59, 60, 61, 62, 63, 64, 65, 66, 67, 68, 69, 70, 71, 72, 73, 74, 75, 76, 77, 78, 79, 80] (fun i => [(5, .int .i64 (i : Nat))]) (fun i w' => i ≤ is.length ∧ TreeAt w' w.heap.size b K L ∧ Blk w' b1 24 #[.int .i64 (K : Nat), .slice A xs.length ca, .slice B is.length cb] ∧ From w w') (fun i => is.length - i) (0) ⟨rfl, trivial⟩ ?_ ?_
              · exact ⟨Nat.zero_le _, hv.from_ From.rfl_, hk1.from_ From.rfl_, (((From.rfl_.next E1).next E13).next E16)⟩
              rintro i ρ35 w35 ⟨hi, hv, hP1, hB⟩
              refine cd_seq ?_
              refine cd_seq ?_
              refine cd_region ?_
              refine st_val (ro_move (v := .int _ _) rfl) ?_
              refine st_val (ro_fieldAddr WavSelects_f24_2 rfl) ?_
              refine st_val (ro_load WavSelects_g22 rfl (by first | (first | exact (hP1.from_ From.rfl_).whole | exact (hP1.from_ From.rfl_).rd 0 rfl | exact (hP1.from_ From.rfl_).rd 1 rfl | exact (hP1.from_ From.rfl_).rd 2 rfl) | (first | exact (hk1.from_ From.rfl_).whole | exact (hk1.from_ From.rfl_).rd 0 rfl | exact (hk1.from_ From.rfl_).rd 1 rfl | exact (hk1.from_ From.rfl_).rd 2 rfl))) ?_
              refine st_val (ro_len WavSelects_l22 rfl) ?_
              refine st_val (ro_lss rfl rfl) ?_
              refine st_nil ?_
              refine nx_then ?_
              refine cd_cond rfl (fun Q36 => ?_) (fun Q36 => ?_)
              · (try first | replace Q36 := bn_t Q36 | replace Q36 := bn_f Q36)
                (try first | replace Q36 := bx_t Q36 | replace Q36 := bx_f Q36 | replace Q36 := be_t Q36 | replace Q36 := be_f Q36 | replace Q36 := of_decide_eq_true Q36 | replace Q36 := of_decide_eq_false Q36)
                have hil : i < is.length := by omega
                obtain ⟨bb, ob, hB0, hcb⟩ := hrB (by omega)
                subst hB0
                first
                 | (exfalso; first | omega | (simp only [hne] at *; done) | (simp_all; done) | contradiction | (cases Q36; done))
                 | skip
                   refine cd_skip ?_
                   refine nx_then ?_
                   refine cd_seq ?_
                   refine cd_block ?_
                   refine cd_seq ?_
                   refine cd_region ?_
                   refine st_val (ro_assign (v := .int _ _) rfl) ?_
                   refine st_nil ?_
                   refine nx_then ?_
                   refine cd_block ?_
                   refine cd_loop (G := Nat) [2, 7, 8, 9, 10, 11, 33, 34, 35, 36, 37, 38, 39, 40, 41, 42, 43, 44, 45, 46, 47, 48, 49, 50, 51, 52, 53, 54, 55, 56, 57, 58, 59, 60, 61, 62, 63, 64, 65, 66, 67, 68, 69, 70, 71, 72, 73, 74, 75, 76, 77, 78, 79, 80] (fun l => [(6, .int .i64 (l : Nat))]) (fun l w' => l ≤ is.length ∧ TreeAt w' w.heap.size b K L ∧ Blk w' b1 24 #[.int .i64 (K : Nat), .slice A xs.length ca, .slice (some ⟨bb, ob, none⟩) is.length cb] ∧ From w w') (fun l => is.length - l) (0) ⟨rfl, trivial⟩ ?_ ?_
                   · exact ⟨Nat.zero_le _, hv.from_ From.rfl_, hP1.from_ From.rfl_, hB⟩
                   rintro l ρ37 w37 ⟨hl, hv, hP1, hB⟩
                   refine cd_seq ?_
                   refine cd_seq ?_
                   refine cd_region ?_
                   refine st_val (ro_move (v := .int _ _) rfl) ?_
                   refine st_val (ro_fieldAddr WavSelects_f24_2 rfl) ?_
                   refine st_val (ro_load WavSelects_g22 rfl (by first | (first | exact (hP1.from_ From.rfl_).whole | exact (hP1.from_ From.rfl_).rd 0 rfl | exact (hP1.from_ From.rfl_).rd 1 rfl | exact (hP1.from_ From.rfl_).rd 2 rfl) | (first | exact (hk1.from_ From.rfl_).whole | exact (hk1.from_ From.rfl_).rd 0 rfl | exact (hk1.from_ From.rfl_).rd 1 rfl | exact (hk1.from_ From.rfl_).rd 2 rfl))) ?_
                   refine st_val (ro_len WavSelects_l22 rfl) ?_
                   refine st_val (ro_lss rfl rfl) ?_
                   refine st_nil ?_
                   refine nx_then ?_
                   refine cd_cond rfl (fun Q38 => ?_) (fun Q38 => ?_)
                   · (try first | replace Q38 := bn_t Q38 | replace Q38 := bn_f Q38)
                     (try first | replace Q38 := bx_t Q38 | replace Q38 := bx_f Q38 | replace Q38 := be_t Q38 | replace Q38 := be_f Q38 | replace Q38 := of_decide_eq_true Q38 | replace Q38 := of_decide_eq_false Q38)
                     have hll : l < is.length := by omega
                     first
                      | (exfalso; first | omega | (simp only [hne] at *; done) | (simp_all; done) | contradiction | (cases Q38; done))
                      | skip
                        refine cd_skip ?_
                        refine nx_then ?_
                        refine cd_seq ?_
                        refine cd_block ?_
                        refine cd_seq ?_
                        refine cd_region ?_
                        refine st_val (ro_fieldAddr WavSelects_f24_2 rfl) ?_
                        refine st_val (ro_load WavSelects_g22 rfl (by first | (first | exact (hP1.from_ From.rfl_).whole | exact (hP1.from_ From.rfl_).rd 0 rfl | exact (hP1.from_ From.rfl_).rd 1 rfl | exact (hP1.from_ From.rfl_).rd 2 rfl) | (first | exact (hk1.from_ From.rfl_).whole | exact (hk1.from_ From.rfl_).rd 0 rfl | exact (hk1.from_ From.rfl_).rd 1 rfl | exact (hk1.from_ From.rfl_).rd 2 rfl))) ?_
                        refine st_val (ro_move (v := .int _ _) rfl) ?_
                        refine st_val (ro_indexAddr1 WavSelects_e22 rfl rfl (by omega)) ?_
                        refine st_val (ro_load WavSelects_g3 rfl (by exact cellF hB (hcb i hil))) ?_
                        refine st_val (ro_assign (v := .int _ _) rfl) ?_
                        refine st_nil ?_
                        refine nx_then ?_
                        refine cd_seq ?_
                        refine cd_region ?_
                        refine st_val (ro_assign (v := .int _ _) rfl) ?_
                        refine st_val (ro_assign (v := .int _ _) rfl) ?_
                        refine st_nil ?_
                        refine nx_then ?_
                        refine cd_cut (G := Unit) [45, 46, 47, 48, 49, 50, 51, 52, 53, 54, 55, 56, 57, 58, 59, 60, 61, 62, 63] (fun _ => [(8, .int .i64 (slV K L is[i] is[l])), (9, .int .i64 (slE K L is[i] is[l]))]) (fun _ w' => TreeAt w' w.heap.size b K L ∧ Blk w' b1 24 #[.int .i64 (K : Nat), .slice A xs.length ca, .slice (some ⟨bb, ob, none⟩) is.length cb] ∧ From w w') ?_ ?_
                        · refine cd_seq ?_
                          refine cd_region ?_
                          refine st_val (ro_move (v := .int _ _) rfl) ?_
                          refine st_val (ro_lss rfl rfl) ?_
                          refine st_val (ro_move (v := .bool _) rfl) ?_
                          refine st_split (t := 47) rfl (fun Q39 => ?_) (fun Q39 => ?_)
                          · (try first | replace Q39 := bn_t Q39 | replace Q39 := bn_f Q39)
                            (try first | replace Q39 := bx_t Q39 | replace Q39 := bx_f Q39 | replace Q39 := be_t Q39 | replace Q39 := be_f Q39 | replace Q39 := of_decide_eq_true Q39 | replace Q39 := of_decide_eq_false Q39)
                            first
                             | (exfalso; first | omega | (simp only [hne] at *; done) | (simp_all; done) | contradiction | (cases Q39; done))
                             | skip
                               refine st_gno rfl rfl ?_
                               refine st_gno rfl rfl ?_
                               refine st_gno rfl rfl ?_
                               refine st_gno rfl rfl ?_
                               refine st_val (ro_pickT (v := .bool _) rfl rfl) ?_
                               refine st_nil ?_
                               refine nx_then ?_
                               refine cd_condT rfl ?_
                               refine cd_region ?_
                               refine st_val (ro_assign (v := .int _ _) rfl) ?_
                               refine st_nil ?_
                               refine nx_cut (()) ⟨(int_eq (sl_unk (by omega)).1), (int_eq (sl_unk (by omega)).2), trivial⟩ (by (iterate 10 refine agr_cons rfl ?_); exact agr_rfl) ?_
                               exact ⟨hv.from_ From.rfl_, hP1.from_ From.rfl_, hB⟩
                          · (try first | replace Q39 := bn_t Q39 | replace Q39 := bn_f Q39)
                            (try first | replace Q39 := bx_t Q39 | replace Q39 := bx_f Q39 | replace Q39 := be_t Q39 | replace Q39 := be_f Q39 | replace Q39 := of_decide_eq_true Q39 | replace Q39 := of_decide_eq_false Q39)
                            first
                             | (exfalso; first | omega | (simp only [hne] at *; done) | (simp_all; done) | contradiction | (cases Q39; done))
                             | skip
                               refine st_unguard rfl ?_
                               refine st_val (ro_move (v := .int _ _) rfl) ?_
                               refine st_unguard rfl ?_
                               refine st_val (ro_fieldAddr WavSelects_f24_0 rfl) ?_
                               refine st_unguard rfl ?_
                               refine st_val (ro_load WavSelects_g3 rfl (by first | (first | exact (hP1.from_ From.rfl_).whole | exact (hP1.from_ From.rfl_).rd 0 rfl | exact (hP1.from_ From.rfl_).rd 1 rfl | exact (hP1.from_ From.rfl_).rd 2 rfl) | (first | exact (hk1.from_ From.rfl_).whole | exact (hk1.from_ From.rfl_).rd 0 rfl | exact (hk1.from_ From.rfl_).rd 1 rfl | exact (hk1.from_ From.rfl_).rd 2 rfl))) ?_
                               refine st_unguard rfl ?_
                               refine st_val (ro_geq rfl rfl) ?_
                               refine st_val (ro_pickF (v := .bool _) rfl rfl) ?_
                               refine st_nil ?_
                               refine nx_then ?_
                               refine cd_cond rfl (fun Q40 => ?_) (fun Q40 => ?_)
                               · (try first | replace Q40 := bn_t Q40 | replace Q40 := bn_f Q40)
                                 (try first | replace Q40 := bx_t Q40 | replace Q40 := bx_f Q40 | replace Q40 := be_t Q40 | replace Q40 := be_f Q40 | replace Q40 := of_decide_eq_true Q40 | replace Q40 := of_decide_eq_false Q40)
                                 first
                                  | (exfalso; first | omega | (simp only [hne] at *; done) | (simp_all; done) | contradiction | (cases Q40; done))
                                  | skip
                                    refine cd_region ?_
                                    refine st_val (ro_assign (v := .int _ _) rfl) ?_
                                    refine st_nil ?_
                                    refine nx_cut (()) ⟨(int_eq (sl_unk (by omega)).1), (int_eq (sl_unk (by omega)).2), trivial⟩ (by (iterate 10 refine agr_cons rfl ?_); exact agr_rfl) ?_
                                    exact ⟨hv.from_ From.rfl_, hP1.from_ From.rfl_, hB⟩
                               · (try first | replace Q40 := bn_t Q40 | replace Q40 := bn_f Q40)
                                 (try first | replace Q40 := bx_t Q40 | replace Q40 := bx_f Q40 | replace Q40 := be_t Q40 | replace Q40 := be_f Q40 | replace Q40 := of_decide_eq_true Q40 | replace Q40 := of_decide_eq_false Q40)
                                 first
                                  | (exfalso; first | omega | (simp only [hne] at *; done) | (simp_all; done) | contradiction | (cases Q40; done))
                                  | skip
                                    refine cd_seq ?_
                                    apply cd_drawnD 10 [(53, eqp _), (54, eqp (.slice A xs.length ca)), (55, eqp _), (56, eqp _), (57, eqp (.slice (some ⟨bb, ob, none⟩) is.length cb)), (58, eqp _), (59, eqp _), (60, eqp (iV (is[l]'hll))), (61, eqp _), (8, eqp _)] (by repeat first | exact pq_body | refine pq_then ?_ | refine pq_block ?_) (by kernel_rfl) (by kernel_rfl) ⟨eqp_mono _, eqp_mono _, eqp_mono _, eqp_mono _, eqp_mono _, eqp_mono _, eqp_mono _, eqp_mono _, eqp_mono _, eqp_mono _, trivial⟩
                                    case hop =>
                                     refine ⟨?_, ?_⟩
                                     · rintro - w42 D42
                                       show OpOK _ _ _ _ _ _ _
                                       exact ok_pure (ro_fieldAddr WavSelects_f24_1 rfl) rfl
                                     refine ⟨?_, ?_⟩
                                     · rintro - w43 D43
                                       rintro _ rfl
                                       show OpOK _ _ _ _ _ _ _
                                       exact ok_pure (ro_load WavSelects_g22 rfl ((hP1.from_ D43).rd 1 rfl)) rfl
                                     refine ⟨?_, ?_⟩
                                     · rintro - w44 D44
                                       show OpOK _ _ _ _ _ _ _
                                       exact ok_pure (ro_move (v := .int _ _) rfl) rfl
                                     refine ⟨?_, ?_⟩
                                     · rintro - w45 D45
                                       show OpOK _ _ _ _ _ _ _
                                       exact ok_pure (ro_fieldAddr WavSelects_f24_2 rfl) rfl
                                     refine ⟨?_, ?_⟩
                                     · rintro - w46 D46
                                       rintro _ rfl
                                       show OpOK _ _ _ _ _ _ _
                                       exact ok_pure (ro_load WavSelects_g22 rfl ((hP1.from_ D46).rd 2 rfl)) rfl
                                     refine ⟨?_, ?_⟩
                                     · rintro - w47 D47
                                       show OpOK _ _ _ _ _ _ _
                                       exact ok_pure (ro_move (v := .int _ _) rfl) rfl
                                     refine ⟨?_, ?_⟩
                                     · rintro - w48 D48
                                       rintro v48_57 rfl _ rfl
                                       show OpOK _ _ _ _ _ _ _
                                       exact ok_pure (ro_indexAddr1 WavSelects_e22 rfl rfl (by omega)) rfl
                                     refine ⟨?_, ?_⟩
                                     · rintro - w49 D49
                                       rintro _ rfl
                                       show OpOK _ _ _ _ _ _ _
                                       exact ok_pure (ro_load (v := iV (is[l]'hll)) WavSelects_g3 rfl (cellF (hB.next D49) (hcb l hll))) rfl
                                     refine ⟨?_, ?_⟩
                                     · rintro - w50 D50
                                       rintro v50_54 rfl _ rfl v50_60 rfl
                                       show OpOK _ _ _ _ _ _ _
                                       refine ok_call WavSelects_k9 ((refSel_any A ca is[i] is[l] L xs _ hx (hr.from_ (hB.next D50)) (by omega) (hB64 _ (List.getElem_mem hll)).2 (by omega)).mono ?_)
                                       rintro v _ ⟨rfl, rfl⟩; exact ⟨From.rfl_, rfl⟩
                                     refine ⟨?_, ?_⟩
                                     · rintro - w51 D51
                                       rintro _ rfl
                                       show OpOK _ _ _ _ _ _ _
                                       exact ok_pure (ro_assign (v := .int _ _) rfl) rfl
                                     exact trivial
                                    case hend =>
                                     intro w52 D52
                                     rintro _ rfl v54 rfl _ rfl _ rfl v57 rfl _ rfl _ rfl v60 rfl _ rfl _ rfl
                                     show St _ _ _ _ _ _ _
                                     refine st_nil ?_
                                     refine nx_then ?_
                                     refine cd_seq ?_
                                     refine cd_region ?_
                                     refine st_val (ro_move (v := .int _ _) rfl) ?_
                                     refine st_val (ro_lss rfl rfl) ?_
                                     refine st_nil ?_
                                     refine nx_then ?_
                                     refine cd_cond rfl (fun Q53 => ?_) (fun Q53 => ?_)
                                     · (try first | replace Q53 := bn_t Q53 | replace Q53 := bn_f Q53)
                                       (try first | replace Q53 := bx_t Q53 | replace Q53 := bx_f Q53 | replace Q53 := be_t Q53 | replace Q53 := be_f Q53 | replace Q53 := of_decide_eq_true Q53 | replace Q53 := of_decide_eq_false Q53)
                                       have hn8 := sl_neg (K := K) (L := L) (c := is[i]) (j := is[l]) (by omega) (by omega)
                                       first
                                        | (exfalso; first | omega | (simp only [hne] at *; done) | (simp_all; done) | contradiction | (cases Q53; done))
                                        | skip
                                          refine cd_region ?_
                                          refine st_val (ro_assign (v := .int _ _) rfl) ?_
                                          refine st_val (ro_assign (v := .int _ _) rfl) ?_
                                          refine st_nil ?_
                                          refine nx_cut (()) ⟨(int_eq hn8.1), (int_eq hn8.2), trivial⟩ (by (iterate 23 refine agr_cons rfl ?_); exact agr_rfl) ?_
                                          exact ⟨hv.from_ (From.rfl_.next D52), hP1.from_ (From.rfl_.next D52), (hB.next D52)⟩
                                     · (try first | replace Q53 := bn_t Q53 | replace Q53 := bn_f Q53)
                                       (try first | replace Q53 := bx_t Q53 | replace Q53 := bx_f Q53 | replace Q53 := be_t Q53 | replace Q53 := be_f Q53 | replace Q53 := of_decide_eq_true Q53 | replace Q53 := of_decide_eq_false Q53)
                                       have hn8 := sl_pos (K := K) (L := L) (c := is[i]) (j := is[l]) (by omega) (by omega)
                                       first
                                        | (exfalso; first | omega | (simp only [hne] at *; done) | (simp_all; done) | contradiction | (cases Q53; done))
                                        | skip
                                          refine cd_skip ?_
                                          refine nx_cut (()) ⟨(int_eq hn8.1), (int_eq hn8.2), trivial⟩ (by (iterate 21 refine agr_cons rfl ?_); exact agr_rfl) ?_
                                          exact ⟨hv.from_ (From.rfl_.next D52), hP1.from_ (From.rfl_.next D52), (hB.next D52)⟩
                        · rintro ⟨⟩ ρ54 w54 ⟨hv, hP1, hB⟩
                          refine cd_seq ?_
                          refine cd_region ?_
                          refine st_val (ro_move (v := .pointer _) rfl) ?_
                          refine st_val (ro_move (v := .int _ _) rfl) ?_
                          refine st_val (ro_fieldAddr WavSelects_f24_2 rfl) ?_
                          refine st_val (ro_load WavSelects_g22 rfl (by first | (first | exact (hP1.from_ From.rfl_).whole | exact (hP1.from_ From.rfl_).rd 0 rfl | exact (hP1.from_ From.rfl_).rd 1 rfl | exact (hP1.from_ From.rfl_).rd 2 rfl) | (first | exact (hk1.from_ From.rfl_).whole | exact (hk1.from_ From.rfl_).rd 0 rfl | exact (hk1.from_ From.rfl_).rd 1 rfl | exact (hk1.from_ From.rfl_).rd 2 rfl))) ?_
                          refine st_val (ro_move (v := .int _ _) rfl) ?_
                          refine st_val (ro_indexAddr1 WavSelects_e22 rfl rfl (by omega)) ?_
                          refine st_val (ro_load WavSelects_g3 rfl (by exact cellF hB (hcb l hll))) ?_
                          refine st_call WavSelects_k10 (selectT _ b K L _ (hv.from_ From.rfl_) (hTZ.from_ hB) is[i] is[l]) ?_
                          rintro v72 w55 ⟨rfl, E72⟩
                          refine st_val (ro_move (v := .tuple _) rfl) ?_
                          refine st_val (ro_extract rfl rfl) ?_
                          refine st_val (ro_extract rfl rfl) ?_
                          refine st_val (ro_assign (v := .int _ _) rfl) ?_
                          refine st_val (ro_assign (v := .int _ _) rfl) ?_
                          refine st_nil ?_
                          refine nx_then ?_
                          refine cd_seq ?_
                          refine cd_region ?_
                          refine st_val (ro_move (v := .int _ _) rfl) ?_
                          refine st_val (ro_move (v := .int _ _) rfl) ?_
                          refine st_val (ro_move (v := .int _ _) rfl) ?_
                          refine st_val (ro_move (v := .int _ _) rfl) ?_
                          refine st_call WavSelects_k11 (told_any _ _ _ _ _ sl_told) ?_
                          rintro v79 w56 ⟨rfl, rfl⟩
                          refine st_val (ro_not rfl) ?_
                          refine st_nil ?_
                          refine nx_then ?_
                          refine cd_cond rfl (fun Q57 => ?_) (fun Q57 => ?_)
                          · (try first | replace Q57 := bn_t Q57 | replace Q57 := bn_f Q57)
                            (try first | replace Q57 := bx_t Q57 | replace Q57 := bx_f Q57 | replace Q57 := be_t Q57 | replace Q57 := be_f Q57 | replace Q57 := of_decide_eq_true Q57 | replace Q57 := of_decide_eq_false Q57)
                            first
                             | (exfalso; first | omega | (simp only [hne] at *; done) | (simp_all; done) | contradiction | (cases Q57; done))
                             | skip
                               refine cd_seq ?_
                               refine cd_region ?_
                               refine st_val (ro_assign (v := .bool _) rfl) ?_
                               refine st_nil ?_
                               refine nx_then ?_
                               refine cd_ret ?_
                               refine rt_block ?_
                               refine rt_then ?_
                               refine rt_then ?_
                               refine rt_block ?_
                               refine rt_block ?_
                               refine rt_then ?_
                               refine rt_then ?_
                               refine rt_block ?_
                               refine rt_then ?_
                               refine res1 (v := .bool _) rfl rfl ?_
                               exact ⟨rfl, (hB.next E72)⟩
                          · (try first | replace Q57 := bn_t Q57 | replace Q57 := bn_f Q57)
                            (try first | replace Q57 := bx_t Q57 | replace Q57 := bx_f Q57 | replace Q57 := be_t Q57 | replace Q57 := be_f Q57 | replace Q57 := of_decide_eq_true Q57 | replace Q57 := of_decide_eq_false Q57)
                            first
                             | (exfalso; first | omega | (simp only [hne] at *; done) | (simp_all; done) | contradiction | (cases Q57; done))
                             | skip
                               refine cd_skip ?_
                               refine nx_block ?_
                               refine nx_then ?_
                               refine cd_region ?_
                               refine st_val (ro_move (v := .int _ _) rfl) ?_
                               refine st_val (ro_addN (b := 1) rfl rfl (by omega)) ?_
                               refine st_val (ro_assign (v := .int _ _) rfl) ?_
                               refine st_nil ?_
                               refine nx_cut (l + 1) ⟨(by first | rfl | (refine int_eq ?_; omega)), trivial⟩ (by (iterate 111 refine agr_cons rfl ?_); exact agr_rfl) ⟨?_, ?_⟩
                               · exact ⟨by omega, hv.from_ (From.rfl_.next E72), hP1.from_ (From.rfl_.next E72), (hB.next E72)⟩
                               · omega
                   · (try first | replace Q38 := bn_t Q38 | replace Q38 := bn_f Q38)
                     (try first | replace Q38 := bx_t Q38 | replace Q38 := bx_f Q38 | replace Q38 := be_t Q38 | replace Q38 := be_f Q38 | replace Q38 := of_decide_eq_true Q38 | replace Q38 := of_decide_eq_false Q38)
                     first
                      | (exfalso; first | omega | (simp only [hne] at *; done) | (simp_all; done) | contradiction | (cases Q38; done))
                      | skip
                        refine cd_exit ?_
                        refine ex_then ?_
                        refine ex_then ?_
                        refine ex_block ?_
                        refine nx_block ?_
                        refine nx_then ?_
                        refine cd_region ?_
                        refine st_val (ro_move (v := .int _ _) rfl) ?_
                        refine st_val (ro_addN (b := 1) rfl rfl (by omega)) ?_
                        refine st_val (ro_assign (v := .int _ _) rfl) ?_
                        refine st_nil ?_
                        refine nx_cut (i + 1) ⟨(by first | rfl | (refine int_eq ?_; omega)), trivial⟩ (by (iterate 132 refine agr_cons rfl ?_); exact agr_rfl) ⟨?_, ?_⟩
                        · exact ⟨by omega, hv.from_ From.rfl_, hP1.from_ From.rfl_, hB⟩
                        · omega
              · (try first | replace Q36 := bn_t Q36 | replace Q36 := bn_f Q36)
                (try first | replace Q36 := bx_t Q36 | replace Q36 := bx_f Q36 | replace Q36 := be_t Q36 | replace Q36 := be_f Q36 | replace Q36 := of_decide_eq_true Q36 | replace Q36 := of_decide_eq_false Q36)
                first
                 | (exfalso; first | omega | (simp only [hne] at *; done) | (simp_all; done) | contradiction | (cases Q36; done))
                 | skip
                   refine cd_exit ?_
                   refine ex_then ?_
                   refine ex_then ?_
                   refine ex_block ?_
                   refine nx_then ?_
                   refine cd_seq ?_
                   refine cd_region ?_
                   refine st_call WavSelects_k8 (wakes_any _) ?_
                   rintro v81 w58 ⟨rfl, E81⟩
                   refine st_val (ro_assign (v := .bool _) rfl) ?_
                   refine st_nil ?_
                   refine nx_then ?_
                   refine cd_ret ?_
                   refine res1 (v := .bool _) rfl rfl ?_
                   exact ⟨rfl, (hB.next E81)⟩
theorem selects_arg (cs : Array Value) (x : (Ty.pr (.int .i64) (.pr (.sl (.int .i64)) (.pr (.sl (.int .i64)) .unit))).den) (w : World) (hs : cs.size = 3) (h : (Ty.pr (.int .i64) (.pr (.sl (.int .i64)) (.pr (.sl (.int .i64)) .unit))).At w (fun j => cs[j]?) x) (hT : TZ w) :
    Rt Tryd.prog 3 [.agg cs] w fun v w' => v = .bool true ∧ From w w' := by
  obtain ⟨k, A, ca, xs, B, cb, is, rfl, h1, h2, h3, h4, h5, h6⟩ := ask_of hs h
  exact selects_law k A B ca cb xs is w h1 h2 h3 h4  hT
/-- A WORLD FOR THE WITNESS: the settled one, the variables holding what their initialisers lay. -/
noncomputable def WaveletSelects_world (os : Os) : World :=
  { World.holding Tryd.prog os ⟨#[], #[], []⟩ with heap := (World.holding Tryd.prog os ⟨#[], #[], []⟩).heap.modify 0 fun | .cells _ t frozen => .cells #[.int .u8 0, .int .u8 1, .int .u8 56, .int .u8 2, .int .u8 57, .int .u8 49, .int .u8 28, .int .u8 3, .int .u8 61, .int .u8 58, .int .u8 42, .int .u8 50, .int .u8 38, .int .u8 29, .int .u8 17, .int .u8 4, .int .u8 62, .int .u8 47, .int .u8 59, .int .u8 36, .int .u8 45, .int .u8 43, .int .u8 51, .int .u8 22, .int .u8 53, .int .u8 39, .int .u8 33, .int .u8 30, .int .u8 24, .int .u8 18, .int .u8 12, .int .u8 5, .int .u8 63, .int .u8 55, .int .u8 48, .int .u8 27, .int .u8 60, .int .u8 41, .int .u8 37, .int .u8 16, .int .u8 46, .int .u8 35, .int .u8 44, .int .u8 21, .int .u8 52, .int .u8 32, .int .u8 23, .int .u8 11, .int .u8 54, .int .u8 26, .int .u8 40, .int .u8 15, .int .u8 34, .int .u8 20, .int .u8 31, .int .u8 10, .int .u8 25, .int .u8 14, .int .u8 19, .int .u8 9, .int .u8 13, .int .u8 8, .int .u8 7, .int .u8 6] t frozen | o => o }
theorem WaveletSelects_met (os : Os) : laidMet Tryd.prog Rows.waveletSelectsRow.laid ((WaveletSelects_world os).forCall (fun _ _ => 0) ⟨#[], #[.agg #[.int .i64 0, .slice none 0 0, .slice none 0 0]], []⟩).memory :=
  laidMet_of_run' 8 (by kernel_rfl) (by kernel_rfl)
theorem WaveletSelects_reads (os : Os) {H : Type} (enc : TypeId × Value → H) : ∃ places, DataW.whole enc Tryd.prog ((WaveletSelects_world os).forCall (fun _ _ => 0) ⟨#[], #[.agg #[.int .i64 0, .slice none 0 0, .slice none 0 0]], []⟩).memory Tryd.f3.params.toList Rows.waveletSelectsSpec.vars false #[(.agg #[.int .i64 0, .slice none 0 0, .slice none 0 0] : Value)].toList 8 = some ([.agg [.lit (.int .i64 0), .nil, .nil]], [], places) :=
  ⟨[], by kernel_rfl⟩

set_option maxRecDepth 100000 in
theorem WaveletSelects_lifted (os : Os) (started : os.Started) (H : Type) (enc : TypeId × Value → H) (F : Stop.Interp) :
    ReturnsInHanded {} Tryd.checked os 3 .any ((OpenSpec.ofChange Rows.waveletSelectsSpec).preRow enc Tryd.prog Tryd.f3 Rows.waveletSelectsRow.domain false Rows.waveletSelectsRow.laid) (((OpenSpec.ofChange Rows.waveletSelectsSpec).at F).post enc Tryd.prog Tryd.f3 false true false false) := by
  obtain ⟨places, hx⟩ := WaveletSelects_reads os enc
  refine returnsInHanded_of_row (C := Tryd.checked) (s := OpenSpec.ofChange Rows.waveletSelectsSpec) Tryd.own started (by kernel_rfl) Tryd.func3
    (witness_row_at (enc := enc) (C := Tryd.checked) false (WaveletSelects_world os) #[.agg #[.int .i64 0, .slice none 0 0, .slice none 0 0]] rfl (by kernel_rfl) (by kernel_rfl) (by kernel_rfl)
      (OpenSpec.preRow_of_cond 8 hx (by kernel_rfl) (fun k hk => by cases hk) (by kernel_rfl) (WaveletSelects_met os))) ?_
  intro W base args ds gs before hval hW _ _ hsz hL hS _
  exact law_step_laid 3 Tryd.f3 24 4 Rows.waveletSelectsSpec Tryd.params3 (by kernel_rfl) Tryd.underlying4 rfl (fun _ => rfl) (by kernel_rfl) (of_decide_eq_true (by kernel_rfl)) Rows.waveletSelectsRow.laid (walk_laid (.int .i64) (.pr (.sl (.int .i64)) (.pr (.sl (.int .i64)) .unit)) (by kernel_rfl) Rows.waveletSelectsRow.laid (fun _ h => table_of h) selects_arg) W base args ds gs before hval hW hsz hL hS

theorem WaveletSelects_said : Rows.WaveletSelectsSaid :=
  OpenClaim.holds_of_cond 3 Tryd.f3 rfl rfl rfl rfl rfl rfl rfl ⟨rfl, rfl, rfl, rfl, rfl⟩ rfl rfl rfl rfl rfl (by kernel_rfl) Tryd.func3 (by kernel_rfl)
    (of_decide_eq_true (by kernel_rfl)) (by unfold Func.isWrapper; first | (rw [if_pos (by decide +kernel)]; kernel_rfl) | (rw [if_neg (by decide +kernel)]; exact ⟨rfl, rfl⟩))
    (fun os started H enc _ F => by rw [OpenClaim.pre_eq_preRow]; exact WaveletSelects_lifted os started H enc F)

theorem WaveletSelects_plain (f : FuncId) (fn : Func) (hf : Tryd.pinned.checked.prog.funcNamed "lectern/lecternlaw3.WaveletSelects" = some f) (hfn : Tryd.pinned.checked.prog.funcs[f]? = some fn) :
    false = Tryd.pinned.checked.prog.looks [] ∧ ∀ (j : Nat) t, fn.params[j]? = some t → Tryd.pinned.checked.prog.wantsStandIn t = false := by
  obtain rfl : f = 3 := Option.some.inj ((show Tryd.prog.funcNamed "lectern/lecternlaw3.WaveletSelects" = some 3 by kernel_rfl).symm.trans hf) |>.symm
  obtain rfl : fn = Tryd.f3 := (Option.some.inj (Tryd.func3.symm.trans hfn)).symm
  refine ⟨by kernel_rfl, fun j t ht => ?_⟩
  rw [(Tryd.params3)] at ht
  obtain rfl : t = 24 := by simpa using Array.mem_of_getElem? ht
  exact (show Tryd.prog.wantsStandIn 24 = false by kernel_rfl)

theorem WaveletSelects_holds : Rows.WaveletSelectsCardSaid :=
  Claim7.holds_tied_plain_at .later [] _ _ _ _ WaveletSelects_said (fun _ h => by cases h) (by kernel_rfl) (fun _ h => by cases h) waveletSelects_row_tie rfl ⟨rfl, rfl⟩ (by kernel_rfl) rfl WaveletSelects_plain (by kernel_rfl)
#print axioms WaveletSelects_holds

end Go.Proofs.YtmiclfhpenjjfaaDoor
