/- the reference: Sort; helpers of the laws; wakes. -/
import Derived.Test.YtpafbgdbjambgaaSufRef
namespace Go.Proofs.Ytpafbgdbjambgaa
open Go.RowKit
open Go.ChangeShapes Go.WideShapes Go.ChangeAt
open Go.Proofs.Ytpafbgdbjambgaa.SA
theorem SufWake_e24 : elemQ Try.prog 24 = some (3, 1) := by kernel_rfl
theorem SufWake_l24 : (elemQ Try.prog 24).isSome = true := by kernel_rfl
theorem SufWake_g3 : aggQ Try.prog 3 = some false := by kernel_rfl
theorem SufWake_m24 : makeQ Try.prog 24 = some (3, 8, (.int .i64 0)) := by kernel_rfl
theorem SufWake_z3 : sizeQ Try.prog 3 = some 1 := by kernel_rfl
theorem SufWake_k32 : callable Try.prog 32 = true := by kernel_rfl
set_option maxRecDepth 100000 in
set_option maxHeartbeats 400000 in
theorem eqNums_any (A B : Option Addr) (ca cb : Nat) (a b : List Int) (w : World) (ha : RowOf iV w A a) (hb : RowOf iV w B b) (hla : a.length * 8 ≤ 140737488351232) :
    Rt Try.prog 13 [.slice A a.length ca, .slice B b.length cb] w (fun v w' => v = .bool (decide (a = b)) ∧ From w w') := by
  refine enter (n := 26) Try.func13 rfl rfl rfl ?_
  refine cd_seq ?_
  refine cd_region ?_
  refine st_val (ro_assign (v := .bool _) rfl) ?_
  refine st_nil ?_
  refine nx_then ?_
  refine cd_seq ?_
  refine cd_seq ?_
  refine cd_region ?_
  refine st_val (ro_move (v := .slice _ _ _) rfl) ?_
  refine st_val (ro_len SufWake_l24 rfl) ?_
  refine st_val (ro_move (v := .slice _ _ _) rfl) ?_
  refine st_val (ro_len SufWake_l24 rfl) ?_
  refine st_val (ro_neq rfl rfl) ?_
  refine st_nil ?_
  refine nx_then ?_
  refine cd_cond rfl (fun Q1 => ?_) (fun Q1 => ?_)
  · (try first | replace Q1 := bn_t Q1 | replace Q1 := bn_f Q1)
    (try first | replace Q1 := bx_t Q1 | replace Q1 := bx_f Q1 | replace Q1 := be_t Q1 | replace Q1 := be_f Q1 | replace Q1 := of_decide_eq_true Q1 | replace Q1 := of_decide_eq_false Q1)
    first
     | (exfalso; first | omega | contradiction | (cases Q1; done))
     | skip
       refine cd_seq ?_
       refine cd_region ?_
       refine st_val (ro_assign (v := .bool _) rfl) ?_
       refine st_nil ?_
       refine nx_then ?_
       refine cd_ret ?_
       refine rt_then ?_
       refine res1 (v := .bool _) rfl rfl ?_
       exact ⟨by rw [decide_eq_false]; rintro rfl; omega, From.rfl_⟩
  · (try first | replace Q1 := bn_t Q1 | replace Q1 := bn_f Q1)
    (try first | replace Q1 := bx_t Q1 | replace Q1 := bx_f Q1 | replace Q1 := be_t Q1 | replace Q1 := be_f Q1 | replace Q1 := of_decide_eq_true Q1 | replace Q1 := of_decide_eq_false Q1)
    first
     | (exfalso; first | omega | contradiction | (cases Q1; done))
     | skip
       refine cd_skip ?_
       refine nx_then ?_
       refine cd_seq ?_
       refine cd_seq ?_
       refine cd_region ?_
       refine st_val (ro_assign (v := .int _ _) rfl) ?_
       refine st_nil ?_
       refine nx_then ?_
       refine cd_block ?_
       refine cd_loop (G := Nat) [4, 11, 12, 13, 14, 15, 16, 17, 18, 19, 20, 21, 22, 23, 24, 25] (fun k => [(5, .int .i64 (k : Nat))]) (fun k w' => k ≤ a.length ∧ a.take k = b.take k ∧ From w w') (fun k => a.length - k) (0) ⟨rfl, trivial⟩ ?_ ?_
       · exact ⟨Nat.zero_le _, rfl, From.rfl_⟩
       rintro k ρ2 w2 ⟨hk, ht, hB⟩
       refine cd_seq ?_
       refine cd_seq ?_
       refine cd_region ?_
       refine st_val (ro_move (v := .int _ _) rfl) ?_
       refine st_val (ro_move (v := .slice _ _ _) rfl) ?_
       refine st_val (ro_len SufWake_l24 rfl) ?_
       refine st_val (ro_lss rfl rfl) ?_
       refine st_nil ?_
       refine nx_then ?_
       refine cd_cond rfl (fun Q3 => ?_) (fun Q3 => ?_)
       · (try first | replace Q3 := bn_t Q3 | replace Q3 := bn_f Q3)
         (try first | replace Q3 := bx_t Q3 | replace Q3 := bx_f Q3 | replace Q3 := be_t Q3 | replace Q3 := be_f Q3 | replace Q3 := of_decide_eq_true Q3 | replace Q3 := of_decide_eq_false Q3)
         obtain ⟨ba, oa, rfl, ca⟩ := ha (by omega)
         obtain ⟨bb, ob, rfl, cb⟩ := hb (by omega)
         first
          | (exfalso; first | omega | contradiction | (cases Q3; done))
          | skip
            refine cd_skip ?_
            refine nx_then ?_
            refine cd_seq ?_
            refine cd_block ?_
            refine cd_seq ?_
            apply cd_drawn 9 [(17, eqp _), (18, eqp _), (19, eqp _), (20, eqp _), (21, eqp _), (22, eqp _), (23, eqp _), (24, eqp _), (25, eqp _)] (by kernel_rfl) (by kernel_rfl) ⟨eqp_mono _, eqp_mono _, eqp_mono _, eqp_mono _, eqp_mono _, eqp_mono _, eqp_mono _, eqp_mono _, eqp_mono _, trivial⟩
            case hop =>
             refine ⟨?_, ?_⟩
             · intro w5 D5
               show OpOK _ _ _ _ _ _ _
               exact ok_pure (ro_move (v := .slice _ _ _) rfl) rfl
             refine ⟨?_, ?_⟩
             · intro w6 D6
               show OpOK _ _ _ _ _ _ _
               exact ok_pure (ro_move (v := .int _ _) rfl) rfl
             refine ⟨?_, ?_⟩
             · intro w7 D7
               rintro _ rfl _ rfl
               show OpOK _ _ _ _ _ _ _
               exact ok_pure (ro_indexAddr1 SufWake_e24 rfl rfl (by omega)) rfl
             refine ⟨?_, ?_⟩
             · intro w8 D8
               rintro _ rfl
               show OpOK _ _ _ _ _ _ _
               exact ok_pure (ro_load SufWake_g3 rfl (by first | (exact cellF (hB.next D8) (ca k (by omega))) | (exact cellF (hB.next D8) (cb k (by omega))))) rfl
             refine ⟨?_, ?_⟩
             · intro w9 D9
               show OpOK _ _ _ _ _ _ _
               exact ok_pure (ro_move (v := .slice _ _ _) rfl) rfl
             refine ⟨?_, ?_⟩
             · intro w10 D10
               show OpOK _ _ _ _ _ _ _
               exact ok_pure (ro_move (v := .int _ _) rfl) rfl
             refine ⟨?_, ?_⟩
             · intro w11 D11
               rintro _ rfl _ rfl
               show OpOK _ _ _ _ _ _ _
               exact ok_pure (ro_indexAddr1 SufWake_e24 rfl rfl (by omega)) rfl
             refine ⟨?_, ?_⟩
             · intro w12 D12
               rintro _ rfl
               show OpOK _ _ _ _ _ _ _
               exact ok_pure (ro_load SufWake_g3 rfl (by first | (exact cellF (hB.next D12) (ca k (by omega))) | (exact cellF (hB.next D12) (cb k (by omega))))) rfl
             refine ⟨?_, ?_⟩
             · intro w13 D13
               rintro _ rfl _ rfl
               show OpOK _ _ _ _ _ _ _
               exact ok_pure (ro_neq rfl rfl) rfl
             exact trivial
            case hend =>
             intro w14 D14
             rintro _ rfl _ rfl _ rfl _ rfl _ rfl _ rfl _ rfl _ rfl _ rfl
             show St _ _ _ _ _ _ _
             refine st_nil ?_
             refine nx_then ?_
             refine cd_cond rfl (fun Q15 => ?_) (fun Q15 => ?_)
             · (try first | replace Q15 := bn_t Q15 | replace Q15 := bn_f Q15)
               (try first | replace Q15 := bx_t Q15 | replace Q15 := bx_f Q15 | replace Q15 := be_t Q15 | replace Q15 := be_f Q15 | replace Q15 := of_decide_eq_true Q15 | replace Q15 := of_decide_eq_false Q15)
               first
                | (exfalso; first | omega | contradiction | (cases Q15; done))
                | skip
                  refine cd_seq ?_
                  refine cd_region ?_
                  refine st_val (ro_assign (v := .bool _) rfl) ?_
                  refine st_nil ?_
                  refine nx_then ?_
                  refine cd_ret ?_
                  refine rt_block ?_
                  refine rt_then ?_
                  refine rt_then ?_
                  refine rt_block ?_
                  refine rt_then ?_
                  refine res1 (v := .bool _) rfl rfl ?_
                  exact ⟨by rw [decide_eq_false]; rintro rfl; exact absurd rfl (by assumption), (hB.next D14)⟩
             · (try first | replace Q15 := bn_t Q15 | replace Q15 := bn_f Q15)
               (try first | replace Q15 := bx_t Q15 | replace Q15 := bx_f Q15 | replace Q15 := be_t Q15 | replace Q15 := be_f Q15 | replace Q15 := of_decide_eq_true Q15 | replace Q15 := of_decide_eq_false Q15)
               first
                | (exfalso; first | omega | contradiction | (cases Q15; done))
                | skip
                  refine cd_skip ?_
                  refine nx_block ?_
                  refine nx_then ?_
                  refine cd_region ?_
                  refine st_val (ro_move (v := .int _ _) rfl) ?_
                  refine st_val (ro_add64 rfl rfl (by omega)) ?_
                  refine st_val (ro_assign (v := .int _ _) rfl) ?_
                  refine st_nil ?_
                  refine nx_cut (k + 1) ⟨(by first | rfl | (refine int_eq ?_; omega)), trivial⟩ (by (iterate 33 refine agr_cons rfl ?_); exact agr_rfl) ⟨?_, ?_⟩
                  · exact ⟨by omega, take_eq (by omega) (by omega) ht (by omega), (hB.next D14)⟩
                  · omega
       · (try first | replace Q3 := bn_t Q3 | replace Q3 := bn_f Q3)
         (try first | replace Q3 := bx_t Q3 | replace Q3 := bx_f Q3 | replace Q3 := be_t Q3 | replace Q3 := be_f Q3 | replace Q3 := of_decide_eq_true Q3 | replace Q3 := of_decide_eq_false Q3)
         first
          | (exfalso; first | omega | contradiction | (cases Q3; done))
          | skip
            refine cd_exit ?_
            refine ex_then ?_
            refine ex_then ?_
            refine ex_block ?_
            refine nx_then ?_
            refine cd_seq ?_
            refine cd_region ?_
            refine st_val (ro_assign (v := .bool _) rfl) ?_
            refine st_nil ?_
            refine nx_then ?_
            refine cd_ret ?_
            refine res1 (v := .bool _) rfl rfl ?_
            exact ⟨by rw [decide_eq_true (eq_ge (by omega) (by omega) ht)], hB⟩
theorem eq_n (A B : Option Addr) (ca cb n m : Nat) (a b : List Int) (w : World) (ha : RowOf iV w A a) (hb : RowOf iV w B b) (hn : n = a.length) (hm : m = b.length) (hl : n ≤ 1000000) : Rt Try.prog 13 [.slice A n ca, .slice B m cb] w fun v w' => v = .bool (decide (a = b)) ∧ From w w' := by
  subst hn
  subst hm
  exact eqNums_any A B ca cb a b w ha hb (by omega)
theorem got_tab {w : World} {g n : Nat} {ys : Nat → Int} (h : Blk w g 3 (tabI n ys)) (hy : ∀ i, i < n → ys i = (i : Nat)) : Got w (some ⟨g, 0, none⟩) n n (List.range n) := by
  refine ⟨by simp, fun h0 => ⟨g, 0, rfl, fun i hi => ?_⟩, fun e => (by cases e), Nat.le_refl _⟩
  have hi2 : i < n := by simpa using hi
  have := h.rd i (tabI_at hi2)
  rw [hy i hi2] at this
  simpa using this
theorem cI_inj {a b : List Nat} (h : cI a = cI b) : a = b := by
  have := congrArg (List.map Int.toNat) h
  simpa [cI, List.map_map, Function.comp_def] using this
theorem row_two {w : World} {g : Nat} {x y : Int} (h : Blk w g 3 #[.int .i64 x, .int .i64 y]) : RowOf iV w (some ⟨g, 0, none⟩) [x, y] := fun _ => ⟨g, 0, rfl, fun i hi => by
  match i, hi with
  | 0, _ => exact h.rd 0 rfl
  | 1, _ => exact h.rd 1 rfl⟩
theorem isSA_10 {F : List Nat} (h : IsSA [1, 0] F) : F = [1, 0] := h.uniq (isSA_of rfl (by simp) (by
  refine List.pairwise_cons.2 ⟨fun z hz => ?_, List.pairwise_singleton ..⟩
  rw [List.mem_singleton] at hz
  subst hz
  exact ⟨0, fun m hm => absurd hm (by omega), by decide, by decide, by simp [endT]⟩))
theorem sortA_own {w' : World} {base n c : Nat} {A' : Option Addr} {F : List Nat} (h : w'.ownsRow base 3 1 (.slice A' n c) n (F.map fun x : Nat => iV (x : Nat))) : n = F.length ∧ RowOf iV w' A' (cI F) := by
  have e : (F.map fun x : Nat => iV (x : Nat)) = (cI F).map iV := by simp [cI]
  rw [e] at h
  obtain ⟨a, b⟩ := RowOf.own h
  exact ⟨by simpa using a, b⟩
set_option maxRecDepth 100000 in
set_option maxHeartbeats 400000 in
theorem refSort_rt (L : List Nat) (A : Option Addr) (c n : Nat) (w : World) (hr : RowOf iV w A (cI L)) (hn : n = L.length) (hl : n ≤ 131072) :
    Rt Try.prog 26 [.slice A n c] w (fun v w' => (∃ B cB F, v = .slice B n cB ∧ Got w' B n cB F ∧ IsSA L F) ∧ From w w') := by
  refine enter (n := 21) Try.func26 rfl rfl rfl ?_
  refine cd_seq ?_
  refine cd_region ?_
  refine st_val (ro_assign (v := .slice _ _ _) rfl) ?_
  refine st_nil ?_
  refine nx_then ?_
  refine cd_seq ?_
  refine cd_region ?_
  refine st_val (ro_move (v := .slice _ _ _) rfl) ?_
  refine st_val (ro_len SufWake_l24 rfl) ?_
  refine st_make SufWake_m24 rfl rfl rfl (by omega) (by omega) ?_
  intro b7 w1 E7 hb7 hk7
  have hg7 : w.heap.size ≤ b7 := Nat.le_of_eq hb7.symm
  refine st_val (ro_assign (v := .slice _ _ _) rfl) ?_
  refine st_nil ?_
  refine nx_then ?_
  refine cd_seq ?_
  refine cd_seq ?_
  refine cd_region ?_
  refine st_val (ro_assign (v := .int _ _) rfl) ?_
  refine st_nil ?_
  refine nx_then ?_
  refine cd_block ?_
  refine cd_loop (G := Nat × (Nat → Int)) [8, 9, 10, 11, 12, 13, 14, 15, 16, 17] (fun (k, _) => [(4, .int .i64 (k : Nat))]) (fun (k, ys) w' => k ≤ n ∧ (∀ i, i < k → ys i = (i : Nat)) ∧ Blk w' b7 3 (tabI n ys) ∧ From w w') (fun (k, _) => n - k) ((0, fun _ => 0)) ⟨rfl, trivial⟩ ?_ ?_
  · exact ⟨Nat.zero_le _, fun i h => absurd h (by omega), by rw [← tabI_zero]; exact hk7, (From.rfl_.next E7)⟩
  rintro ⟨k, ys⟩ ρ2 w2 ⟨hk, hy, hT, hB⟩
  refine cd_seq ?_
  refine cd_seq ?_
  refine cd_region ?_
  refine st_val (ro_move (v := .int _ _) rfl) ?_
  refine st_val (ro_move (v := .slice _ _ _) rfl) ?_
  refine st_val (ro_len SufWake_l24 rfl) ?_
  refine st_val (ro_lss rfl rfl) ?_
  refine st_nil ?_
  refine nx_then ?_
  refine cd_cond rfl (fun Q3 => ?_) (fun Q3 => ?_)
  · (try with_reducible first | replace Q3 := of_decide_eq_true Q3 | replace Q3 := of_decide_eq_false Q3 | replace Q3 := bn_t Q3 | replace Q3 := bn_f Q3)
    (try with_reducible first | replace Q3 := of_decide_eq_true Q3 | replace Q3 := of_decide_eq_false Q3 | replace Q3 := bx_t Q3 | replace Q3 := bx_f Q3 | replace Q3 := be_t Q3 | replace Q3 := be_f Q3)
    have hkn : k < n := by omega
    refine cd_skip ?_
    refine nx_then ?_
    refine cd_seq ?_
    refine cd_block ?_
    refine cd_region ?_
    refine st_val (ro_move (v := .slice _ _ _) rfl) ?_
    refine st_val (ro_move (v := .int _ _) rfl) ?_
    refine st_val (ro_move (v := .int _ _) rfl) ?_
    refine st_val (ro_indexAddr0 SufWake_e24 rfl rfl (by exact hkn)) ?_
    refine st_put (v := .int _ _) SufWake_z3 rfl rfl rfl (hT) (by rw [tabI_size]; exact hkn) ?_
    intro w4 O5 P5
    have P5b : Blk w4 b7 3 (tabI n (upd ys k ((k : Nat) : Int))) := by rw [← tabI_set]; exact P5
    refine st_nil ?_
    refine nx_block ?_
    refine nx_then ?_
    refine cd_region ?_
    refine st_val (ro_move (v := .int _ _) rfl) ?_
    refine st_val (ro_addN (b := 1) rfl rfl (by omega)) ?_
    refine st_val (ro_assign (v := .int _ _) rfl) ?_
    refine st_nil ?_
    refine nx_cut ((k + 1, upd ys k ((k : Nat) : Int))) ⟨(by first | rfl | (refine int_eq ?_; omega)), trivial⟩ (by (iterate 22 refine agr_cons rfl ?_); exact agr_rfl) ⟨?_, ?_⟩
    · refine ⟨by omega, fun i hi => ?_, P5b, (hB.only O5 (hg7))⟩
      unfold upd
      split
      · rename_i e; rw [e]
      · exact hy i (by omega)
    · show n - (k + 1) < n - k; omega
  · (try with_reducible first | replace Q3 := of_decide_eq_true Q3 | replace Q3 := of_decide_eq_false Q3 | replace Q3 := bn_t Q3 | replace Q3 := bn_f Q3)
    (try with_reducible first | replace Q3 := of_decide_eq_true Q3 | replace Q3 := of_decide_eq_false Q3 | replace Q3 := bx_t Q3 | replace Q3 := bx_f Q3 | replace Q3 := be_t Q3 | replace Q3 := be_f Q3)
    refine cd_exit ?_
    refine ex_then ?_
    refine ex_then ?_
    refine ex_block ?_
    refine nx_then ?_
    refine cd_seq ?_
    refine cd_region ?_
    refine st_val (ro_move (v := .slice _ _ _) rfl) ?_
    refine st_val (ro_move (v := .slice _ _ _) rfl) ?_
    refine st_call SufWake_k32 (rsorted_rt L (by omega) n A _ c n n (List.range n) _ (hr.from_ hB) hn (got_tab hT (fun i hi => hy i (by omega))) (fun x hx => by have := List.mem_range.1 hx; omega) List.nodup_range hl) ?_
    rintro v20 w5 ⟨B20, c20, F20, rfl, hg20, hm20, hp20, E20⟩
    refine st_val (ro_assign (v := .slice _ _ _) rfl) ?_
    refine st_nil ?_
    refine nx_then ?_
    refine cd_ret ?_
    refine res1 (v := .slice _ _ _) rfl rfl ?_
    refine ⟨⟨B20, c20, F20, by rw [List.length_range], by rw [List.length_range] at hg20; exact hg20, isSA_of ?_ ?_ hp20⟩, (hB.next E20)⟩
    · rw [← hg20.len, List.length_range, hn]
    · intro x hx
      have := List.mem_range.1 ((hm20 x).1 hx)
      omega
theorem sort_10 (g : Nat) (w : World) (h : Blk w g 3 #[.int .i64 1, .int .i64 0]) : Rt Try.prog 19 [.slice (some ⟨g, 0, none⟩) 2 2] w fun v w' => (∃ A', v = .tuple #[.slice A' 2 2, .int .i64 0] ∧ RowOf iV w' A' [1, 0]) ∧ From w w' := by
  refine (sort_rt (some ⟨g, 0, none⟩) 2 2 [1, 0] w (row_two h) rfl (by omega)).mono fun v w' hv => ?_
  obtain ⟨hs, hF⟩ := hv
  rcases hs with ⟨h0, _⟩ | ⟨L, F, A', hL, _, hSA, rfl, ho⟩
  · exact absurd h0 (by decide)
  · obtain rfl : L = [1, 0] := cI_inj hL.symm
    obtain rfl := isSA_10 hSA
    exact ⟨⟨A', rfl, (sortA_own ho).2⟩, hF⟩
end Go.Proofs.Ytpafbgdbjambgaa
