/- bwt: Back. -/
import Derived.Test.YtpafbgdbjambgaaBwtAhead
namespace Go.Proofs.Ytpafbgdbjambgaa
open Go.RowKit
open Go.ChangeShapes Go.WideShapes Go.ChangeAt
open Go.Proofs.Ytpafbgdbjambgaa.SA
theorem BwtBack_e24 : elemQ Try.prog 24 = some (3, 1) := by kernel_rfl
theorem BwtBack_m24 : makeQ Try.prog 24 = some (3, 8, (.int .i64 0)) := by kernel_rfl
theorem BwtBack_q24 : litQ Try.prog 24 = some (3, 1, 8, (.int .i64 0)) := by kernel_rfl
theorem BwtBack_k21 : callable Try.prog 21 = true := by kernel_rfl
theorem BwtBack_k22 : callable Try.prog 22 = true := by kernel_rfl
theorem BwtBack_l24 : (elemQ Try.prog 24).isSome = true := by kernel_rfl
theorem BwtBack_k23 : callable Try.prog 23 = true := by kernel_rfl
theorem BwtBack_z3 : sizeQ Try.prog 3 = some 1 := by kernel_rfl
theorem BwtBack_g3 : aggQ Try.prog 3 = some false := by kernel_rfl
/-- no list has these symbols with this row -/
def Bad (n : Nat) (at_ : Int) (xs : List Int) : Prop := ∀ (B : List Nat) (a : Nat), xs = cI B → (∀ x ∈ B, x < 512) → at_ = (a : Nat) → a ≤ n → ¬ Circ n (fun i => B.getD i 0) a
/-- what Back tells -/
def BackA (w' : World) (base n : Nat) (at_ : Int) (xs : List Int) (v : Value) : Prop :=
  (∃ B a A', xs = cI B ∧ (∀ x ∈ B, x < 512) ∧ at_ = (a : Nat) ∧ a ≤ n ∧ Circ n (fun i => B.getD i 0) a ∧ v = .tuple #[.slice A' n n, .int .i64 0] ∧ w'.ownsRow base 3 1 (.slice A' n n) n ((wl n (fun i => B.getD i 0) a).map fun x : Nat => iV (x : Nat))) ∨
  (Bad n at_ xs ∧ v = .tuple #[.slice none 0 0, .int .i64 1])
theorem bad_at {n : Nat} {at_ : Int} {xs : List Int} (h : (decide (0 ≤ at_ ∧ at_ ≤ n ∧ n ≤ 131072) && xs.all (okS 512)) = false) (hl : n ≤ 131072) : Bad n at_ xs := fun B a e1 e2 e3 e4 => by
  rw [decide_eq_true (by omega), Bool.true_and, e1, cI, all_nat e2] at h
  cases h
theorem wl_end {n m : Nat} {b : Nat → Nat} {a : Nat} (h : 0 < m) (hm : m ≤ n) : (wl n b a).getD (m - 1) 0 = b (sy a (wk n b a (n - m))) := by
  rw [wl_get (by omega), show n - 1 - (m - 1) = n - m by omega]
theorem wl_put {n m : Nat} {b : Nat → Nat} {a : Nat} {fl : Nat → Int} (h : ∀ i, m ≤ i → i < n → fl i = (((wl n b a).getD i 0 : Nat) : Int)) (h0 : 0 < m) (hm : m ≤ n) {v : Nat} (hv : v = b (sy a (wk n b a (n - m)))) : ∀ i, m - 1 ≤ i → i < n → upd fl (m - 1) ((v : Nat) : Int) i = (((wl n b a).getD i 0 : Nat) : Int) := fun i hi hn => by
  by_cases e : i = m - 1
  · rw [e, upd_same, hv, wl_end h0 hm]
  · rw [upd_ne _ _ e]; exact h i (by omega) hn
theorem wk_pred {n m : Nat} {b : Nat → Nat} {a : Nat} (h0 : 0 < m) (hm : m ≤ n) : wk n b a (n - (m - 1)) = lf n b a (wk n b a (n - m)) := by rw [show n - (m - 1) = n - m + 1 by omega, wk_succ]
set_option maxRecDepth 100000 in
set_option maxHeartbeats 4000000 in
theorem back_rt (at_ : Int) (A : Option Addr) (c n : Nat) (xs : List Int) (w : World) (hr : RowOf iV w A xs) (hn : n = xs.length) (hl : n ≤ 131072) :
    Rt Try.prog 16 [.int .i64 at_, .slice A n c] w (fun v w' => BackA w' w.heap.size n at_ xs v ∧ From w w') := by
  refine enter (n := 45) Try.func16 rfl rfl rfl ?_
  refine cd_seq ?_
  refine cd_region ?_
  refine st_val (ro_assign (v := .slice _ _ _) rfl) ?_
  refine st_val (ro_assign (v := .int _ _) rfl) ?_
  refine st_nil ?_
  refine nx_then ?_
  refine cd_seq ?_
  refine cd_seq ?_
  refine cd_region ?_
  refine st_val (ro_move (v := .int _ _) rfl) ?_
  refine st_val (ro_move (v := .slice _ _ _) rfl) ?_
  refine st_call BwtBack_k21 (valid_rt at_ A c n xs _ (hr.from_ From.rfl_) hn (by omega)) ?_
  rintro v12 w1 ⟨rfl, E12⟩
  refine st_val (ro_not rfl) ?_
  refine st_nil ?_
  refine nx_then ?_
  refine cd_cond rfl (fun Q2 => ?_) (fun Q2 => ?_)
  · (try with_reducible first | replace Q2 := of_decide_eq_true Q2 | replace Q2 := of_decide_eq_false Q2 | replace Q2 := bn_t Q2 | replace Q2 := bn_f Q2)
    (try with_reducible first | replace Q2 := of_decide_eq_true Q2 | replace Q2 := of_decide_eq_false Q2 | replace Q2 := bx_t Q2 | replace Q2 := bx_f Q2 | replace Q2 := be_t Q2 | replace Q2 := be_f Q2)
    have hbad : Bad n at_ xs := bad_at (by simpa using Q2) hl
    first
     | (exfalso; first | omega | contradiction | (cases Q2; done))
     | skip
       refine cd_seq ?_
       refine cd_region ?_
       refine st_val (ro_assign (v := .slice _ _ _) rfl) ?_
       refine st_val (ro_assign (v := .int _ _) rfl) ?_
       refine st_nil ?_
       refine nx_then ?_
       refine cd_ret ?_
       refine rt_then ?_
       refine res2 (v := .slice _ _ _) (v' := .int _ _) rfl rfl rfl ?_
       exact ⟨.inr ⟨hbad, rfl⟩, (From.rfl_.next E12)⟩
  (try with_reducible first | replace Q2 := of_decide_eq_true Q2 | replace Q2 := of_decide_eq_false Q2 | replace Q2 := bn_t Q2 | replace Q2 := bn_f Q2)
  (try with_reducible first | replace Q2 := of_decide_eq_true Q2 | replace Q2 := of_decide_eq_false Q2 | replace Q2 := bx_t Q2 | replace Q2 := bx_f Q2 | replace Q2 := be_t Q2 | replace Q2 := be_f Q2)
  have hgood : (decide (0 ≤ at_ ∧ at_ ≤ n ∧ n ≤ 131072) && xs.all (okS 512)) = true := by simpa using Q2
  rw [Bool.and_eq_true] at hgood
  have hd := of_decide_eq_true hgood.1
  obtain ⟨B, hxs, hx⟩ := nat_list hgood.2
  obtain ⟨a, rfl⟩ : ∃ a : Nat, at_ = (a : Nat) := ⟨at_.toNat, by omega⟩
  have ha : a ≤ n := by omega
  have hrB : RowOf iV w A (cI B) := by rw [cI, ← hxs]; exact hr
  have hBl : n = B.length := by rw [hn, hxs, List.length_map]
  first
   | (exfalso; first | omega | contradiction | (cases Q2; done))
   | skip
     refine cd_skip ?_
     refine nx_then ?_
     refine cd_seq ?_
     refine cd_region ?_
     refine st_val (ro_move (v := .int _ _) rfl) ?_
     refine st_val (ro_move (v := .slice _ _ _) rfl) ?_
     have hz16 := ((From.rfl_.next E12)).size
     refine st_call BwtBack_k22 (ahead_rt a A c n B _ (hrB.from_ (From.rfl_.next E12)) hBl ha hl hx) ?_
     rintro v16 w3 ⟨⟨g16, rfl, hg16, hN⟩, E16⟩
     have hg16b : w.heap.size ≤ g16 := Nat.le_trans hz16 hg16
     refine st_val (ro_assign (v := .slice _ _ _) rfl) ?_
     refine st_nil ?_
     refine nx_then ?_
     refine cd_seq ?_
     refine cd_region ?_
     refine st_val (ro_move (v := .slice _ _ _) rfl) ?_
     refine st_val (ro_len BwtBack_l24 rfl) ?_
     refine st_make BwtBack_m24 rfl rfl rfl (by omega) (by omega) ?_
     intro b19 w4 E19 hb19 hk19
     have hg19 : w.heap.size ≤ b19 := by rw [hb19]; exact (((From.rfl_.next E12).next E16)).size
     have h1619 : g16 < b19 := by rw [hb19]; exact hN.lt
     refine st_val (ro_assign (v := .slice _ _ _) rfl) ?_
     refine st_nil ?_
     refine nx_then ?_
     refine cd_seq ?_
     refine cd_region ?_
     refine st_val (ro_assign (v := .int _ _) rfl) ?_
     refine st_nil ?_
     refine nx_then ?_
     refine cd_seq ?_
     refine cd_seq ?_
     refine cd_region ?_
     refine st_val (ro_move (v := .slice _ _ _) rfl) ?_
     refine st_val (ro_len BwtBack_l24 rfl) ?_
     refine st_val (ro_sub64 rfl rfl (by omega)) ?_
     refine st_val (ro_assign (v := .int _ _) rfl) ?_
     refine st_nil ?_
     refine nx_then ?_
     refine cd_block ?_
     refine cd_loop (G := Nat × (Nat → Int)) [4, 5, 23, 24, 25, 26, 27, 28, 29, 30, 31, 32, 33, 34, 35, 36, 37, 38, 39, 40] (fun (m, _) => [(8, .int .i64 ((wk n (fun i => B.getD i 0) a (n - m) : Nat) : Int)), (9, .int .i64 (((m : Nat) : Int) - 1))]) (fun (m, fl) w' => m ≤ n ∧ (∀ j, j < n - m → wk n (fun i => B.getD i 0) a j ≠ a) ∧ (∀ i, m ≤ i → i < n → fl i = (((wl n (fun i => B.getD i 0) a).getD i 0 : Nat) : Int)) ∧ Blk w' b19 3 (tabI n fl) ∧ Blk w' g16 3 (tabI (n + 1) fun r => ((lf n (fun i => B.getD i 0) a r : Nat) : Int)) ∧ From w w') (fun (m, _) => m) ((n, fun _ => 0)) ⟨(int_eq (by rw [Nat.sub_self]; rfl)), rfl, trivial⟩ ?_ ?_
     · exact ⟨Nat.le_refl _, fun j h => absurd h (by omega), fun i h1 h2 => absurd h2 (by omega), by rw [← tabI_zero]; exact hk19, hN.from_ (From.rfl_.next E19), (((From.rfl_.next E12).next E16).next E19)⟩
     rintro ⟨m, fl⟩ ρ5 w5 ⟨hm, hne, hfl, hT, hN, hB⟩
     refine cd_seq ?_
     refine cd_seq ?_
     refine cd_region ?_
     refine st_val (ro_move (v := .int _ _) rfl) ?_
     refine st_val (ro_geq rfl rfl) ?_
     refine st_nil ?_
     refine nx_then ?_
     refine cd_cond rfl (fun Q6 => ?_) (fun Q6 => ?_)
     · (try with_reducible first | replace Q6 := of_decide_eq_true Q6 | replace Q6 := of_decide_eq_false Q6 | replace Q6 := bn_t Q6 | replace Q6 := bn_f Q6)
       (try with_reducible first | replace Q6 := of_decide_eq_true Q6 | replace Q6 := of_decide_eq_false Q6 | replace Q6 := bx_t Q6 | replace Q6 := bx_f Q6 | replace Q6 := be_t Q6 | replace Q6 := be_f Q6)
       have h0m : 0 < m := by omega
       have hwl := wk_le (n := n) (b := (fun i => B.getD i 0)) ha (n - m)
       first
        | (exfalso; first | omega | contradiction | (cases Q6; done))
        | skip
          refine cd_skip ?_
          refine nx_then ?_
          refine cd_seq ?_
          refine cd_block ?_
          refine cd_seq ?_
          refine cd_seq ?_
          refine cd_region ?_
          refine st_val (ro_move (v := .int _ _) rfl) ?_
          refine st_val (ro_move (v := .int _ _) rfl) ?_
          refine st_val (ro_eql rfl rfl) ?_
          refine st_nil ?_
          refine nx_then ?_
          refine cd_cond rfl (fun Q7 => ?_) (fun Q7 => ?_)
          · (try with_reducible first | replace Q7 := of_decide_eq_true Q7 | replace Q7 := of_decide_eq_false Q7 | replace Q7 := bn_t Q7 | replace Q7 := bn_f Q7)
            (try with_reducible first | replace Q7 := of_decide_eq_true Q7 | replace Q7 := of_decide_eq_false Q7 | replace Q7 := bx_t Q7 | replace Q7 := bx_f Q7 | replace Q7 := be_t Q7 | replace Q7 := be_f Q7)
            have hbad : Bad n (a : Int) xs := fun B2 a2 e1 e2 e3 e4 hc => by
              obtain rfl := cI_inj (hxs.symm.trans e1)
              obtain rfl : a = a2 := by omega
              exact hc.1 (n - m) (by omega) (by omega)
            first
             | (exfalso; first | omega | contradiction | (cases Q7; done))
             | skip
               refine cd_seq ?_
               refine cd_region ?_
               refine st_val (ro_assign (v := .slice _ _ _) rfl) ?_
               refine st_val (ro_assign (v := .int _ _) rfl) ?_
               refine st_nil ?_
               refine nx_then ?_
               refine cd_ret ?_
               refine rt_then ?_
               refine rt_block ?_
               refine rt_then ?_
               refine rt_then ?_
               refine rt_block ?_
               refine rt_then ?_
               refine res2 (v := .slice _ _ _) (v' := .int _ _) rfl rfl rfl ?_
               exact ⟨.inr ⟨hbad, rfl⟩, hB⟩
          (try with_reducible first | replace Q7 := of_decide_eq_true Q7 | replace Q7 := of_decide_eq_false Q7 | replace Q7 := bn_t Q7 | replace Q7 := bn_f Q7)
          (try with_reducible first | replace Q7 := of_decide_eq_true Q7 | replace Q7 := of_decide_eq_false Q7 | replace Q7 := bx_t Q7 | replace Q7 := bx_f Q7 | replace Q7 := be_t Q7 | replace Q7 := be_f Q7)
          have hwa : wk n (fun i => B.getD i 0) a (n - m) ≠ a := by omega
          first
           | (exfalso; first | omega | contradiction | (cases Q7; done))
           | skip
             refine cd_skip ?_
             refine nx_then ?_
             refine cd_seq ?_
             refine cd_region ?_
             refine st_val (ro_move (v := .slice _ _ _) rfl) ?_
             refine st_val (ro_move (v := .int _ _) rfl) ?_
             refine st_spell (t := 31) (v := .int _ _) (v' := .int .i64 ((m - 1 : Nat) : Int)) rfl (by exact int_eq (by omega)) ?_
             refine st_val (ro_move (v := .int _ _) rfl) ?_
             refine st_val (ro_move (v := .slice _ _ _) rfl) ?_
             refine st_val (ro_move (v := .int _ _) rfl) ?_
             refine st_call BwtBack_k23 (symbol_rt a A c n B (wk n (fun i => B.getD i 0) a (n - m)) _ (hrB.from_ hB) hBl ha hwl hwa (by omega)) ?_
             rintro v35 w8 ⟨rfl, E35⟩
             refine st_val (ro_indexAddr0 BwtBack_e24 rfl rfl (by omega)) ?_
             refine st_put (v := .int _ _) BwtBack_z3 rfl rfl rfl ((hT.from_ (From.rfl_.next E35))) (by rw [tabI_size]; omega) ?_
             intro w9 O11 P11
             have hN11 := (hN.from_ E35).only O11 (by omega)
             have P11b : Blk w9 b19 3 (tabI n (upd fl (m - 1) ((B.getD (sy a (wk n (fun i => B.getD i 0) a (n - m))) 0 : Nat) : Int))) := by rw [← tabI_set]; exact P11
             refine st_nil ?_
             refine nx_then ?_
             refine cd_region ?_
             refine st_val (ro_move (v := .slice _ _ _) rfl) ?_
             refine st_val (ro_move (v := .int _ _) rfl) ?_
             refine st_val (ro_indexAddr0 BwtBack_e24 rfl rfl (by omega)) ?_
             refine st_val (ro_load BwtBack_g3 rfl (by exact hN11.rd _ (tabI_at (by omega)))) ?_
             refine st_val (ro_assign (v := .int _ _) rfl) ?_
             refine st_nil ?_
             refine nx_block ?_
             refine nx_then ?_
             refine cd_region ?_
             refine st_val (ro_move (v := .int _ _) rfl) ?_
             refine st_val (ro_sub64 rfl rfl (by omega)) ?_
             refine st_val (ro_assign (v := .int _ _) rfl) ?_
             refine st_nil ?_
             refine nx_cut ((m - 1, upd fl (m - 1) ((B.getD (sy a (wk n (fun i => B.getD i 0) a (n - m))) 0 : Nat) : Int))) ⟨(int_eq (by rw [wk_pred h0m hm])), (int_eq (by omega)), trivial⟩ (by (iterate 43 refine agr_cons rfl ?_); exact agr_rfl) ⟨?_, ?_⟩
             · exact ⟨by omega, fun j hj => by rcases Nat.eq_or_lt_of_le (show j ≤ n - m by omega) with e | e; (rw [e]; exact hwa); exact hne j e, wl_put hfl h0m hm rfl, P11b.from_ From.rfl_, hN11.from_ From.rfl_, ((hB.next E35).only O11 (hg19))⟩
             · show m - 1 < m; omega
     (try with_reducible first | replace Q6 := of_decide_eq_true Q6 | replace Q6 := of_decide_eq_false Q6 | replace Q6 := bn_t Q6 | replace Q6 := bn_f Q6)
     (try with_reducible first | replace Q6 := of_decide_eq_true Q6 | replace Q6 := of_decide_eq_false Q6 | replace Q6 := bx_t Q6 | replace Q6 := bx_f Q6 | replace Q6 := be_t Q6 | replace Q6 := be_f Q6)
     obtain rfl : m = 0 := by omega
     first
      | (exfalso; first | omega | contradiction | (cases Q6; done))
      | skip
        refine cd_exit ?_
        refine ex_then ?_
        refine ex_then ?_
        refine ex_block ?_
        refine nx_then ?_
        refine cd_seq ?_
        refine cd_seq ?_
        refine cd_region ?_
        refine st_val (ro_move (v := .int _ _) rfl) ?_
        refine st_val (ro_move (v := .int _ _) rfl) ?_
        refine st_val (ro_neq rfl rfl) ?_
        refine st_nil ?_
        refine nx_then ?_
        refine cd_cond rfl (fun Q10 => ?_) (fun Q10 => ?_)
        · (try with_reducible first | replace Q10 := of_decide_eq_true Q10 | replace Q10 := of_decide_eq_false Q10 | replace Q10 := bn_t Q10 | replace Q10 := bn_f Q10)
          (try with_reducible first | replace Q10 := of_decide_eq_true Q10 | replace Q10 := of_decide_eq_false Q10 | replace Q10 := bx_t Q10 | replace Q10 := bx_f Q10 | replace Q10 := be_t Q10 | replace Q10 := be_f Q10)
          have hbad : Bad n (a : Int) xs := fun B2 a2 e1 e2 e3 e4 hc => by
            obtain rfl := cI_inj (hxs.symm.trans e1)
            obtain rfl : a = a2 := by omega
            have := hc.2
            simp only [Nat.sub_zero] at *
            omega
          first
           | (exfalso; first | omega | contradiction | (cases Q10; done))
           | skip
             refine cd_seq ?_
             refine cd_region ?_
             refine st_val (ro_assign (v := .slice _ _ _) rfl) ?_
             refine st_val (ro_assign (v := .int _ _) rfl) ?_
             refine st_nil ?_
             refine nx_then ?_
             refine cd_ret ?_
             refine rt_then ?_
             refine res2 (v := .slice _ _ _) (v' := .int _ _) rfl rfl rfl ?_
             exact ⟨.inr ⟨hbad, rfl⟩, hB⟩
        (try with_reducible first | replace Q10 := of_decide_eq_true Q10 | replace Q10 := of_decide_eq_false Q10 | replace Q10 := bn_t Q10 | replace Q10 := bn_f Q10)
        (try with_reducible first | replace Q10 := of_decide_eq_true Q10 | replace Q10 := of_decide_eq_false Q10 | replace Q10 := bx_t Q10 | replace Q10 := bx_f Q10 | replace Q10 := be_t Q10 | replace Q10 := be_f Q10)
        have hci : Circ n (fun i => B.getD i 0) a := ⟨fun j hj => hne j (by omega), by simp only [Nat.sub_zero] at *; omega⟩
        first
         | (exfalso; first | omega | contradiction | (cases Q10; done))
         | skip
           refine cd_skip ?_
           refine nx_then ?_
           refine cd_seq ?_
           refine cd_region ?_
           refine st_val (ro_move (v := .slice _ _ _) rfl) ?_
           refine st_val (ro_assign (v := .slice _ _ _) rfl) ?_
           refine st_val (ro_assign (v := .int _ _) rfl) ?_
           refine st_nil ?_
           refine nx_then ?_
           refine cd_ret ?_
           refine res2 (v := .slice _ _ _) (v' := .int _ _) rfl rfl rfl ?_
           refine ⟨.inl ⟨B, a, _, hxs, hx, rfl, ha, hci, rfl, ?_⟩, hB⟩
           refine own_of (cur := (List.range n).map fun i => iV (fl i)) hg19 (hT.from_ From.rfl_) (Nat.le_refl _) (by unfold maxLen; omega) (by simp) ?_
           rw [Nat.mul_one, List.take_of_length_le (by simp)]
           apply List.ext_getElem (by simp [wl_len])
           intro r h1 h2
           have hr9 : r < n := by simpa using h1
           have h3 : r < (wl n (fun i => B.getD i 0) a).length := by rw [wl_len]; exact hr9
           rw [List.getElem_map, List.getElem_range, List.getElem_map, hfl r (by omega) hr9, List.getD_eq_getElem?_getD, List.getElem?_eq_getElem h3]
           rfl
end Go.Proofs.Ytpafbgdbjambgaa
