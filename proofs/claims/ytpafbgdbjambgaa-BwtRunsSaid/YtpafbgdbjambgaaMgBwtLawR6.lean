/- the reference: Rows, Make. -/
import Derived.Test.YtpafbgdbjambgaaMgBwtLawR5
import Derived.Test.YtpafbgdbjambgaaMgBwtLawR3
namespace Go.Proofs.Ytpafbgdbjambgaa
open Go.RowKit
open Go.ChangeShapes Go.WideShapes Go.ChangeAt
open Go.Proofs.Ytpafbgdbjambgaa.SA
theorem SufWake_e24 : elemQ Try.prog 24 = some (3, 1) := by kernel_rfl
theorem SufWake_l24 : (elemQ Try.prog 24).isSome = true := by kernel_rfl
theorem SufWake_g3 : aggQ Try.prog 3 = some false := by kernel_rfl
theorem SufWake_m24 : makeQ Try.prog 24 = some (3, 8, (.int .i64 0)) := by kernel_rfl
theorem SufWake_z3 : sizeQ Try.prog 3 = some 1 := by kernel_rfl
theorem SufWake_k32 : callable Try.prog 32 = true := by kernel_rfl
set_option maxRecDepth 100000 in
set_option maxHeartbeats 400000 in
theorem eqNums_any (A B : Option Addr) (ca cb : Nat) (a b : List Int) (w : World) (ha : RowOf iV w A a) (hb : RowOf iV w B b) (hla : a.length * 8 ≤ 140737488351232) :
    Rt Try.prog 13 [.slice A a.length ca, .slice B b.length cb] w (fun v w' => v = .bool (decide (a = b)) ∧ From w w') := by
  refine enter (n := 26) Try.func13 rfl rfl rfl ?_
  refine cd_seq ?_
  refine cd_region ?_
  refine st_val (ro_assign (v := .bool _) rfl) ?_
  refine st_nil ?_
  refine nx_then ?_
  refine cd_seq ?_
  refine cd_seq ?_
  refine cd_region ?_
  refine st_val (ro_move (v := .slice _ _ _) rfl) ?_
  refine st_val (ro_len SufWake_l24 rfl) ?_
  refine st_val (ro_move (v := .slice _ _ _) rfl) ?_
  refine st_val (ro_len SufWake_l24 rfl) ?_
  refine st_val (ro_neq rfl rfl) ?_
  refine st_nil ?_
  refine nx_then ?_
  refine cd_cond rfl (fun Q1 => ?_) (fun Q1 => ?_)
  · (try first | replace Q1 := bn_t Q1 | replace Q1 := bn_f Q1)
    (try first | replace Q1 := bx_t Q1 | replace Q1 := bx_f Q1 | replace Q1 := be_t Q1 | replace Q1 := be_f Q1 | replace Q1 := of_decide_eq_true Q1 | replace Q1 := of_decide_eq_false Q1)
    first
     | (exfalso; first | omega | contradiction | (cases Q1; done))
     | skip
       refine cd_seq ?_
       refine cd_region ?_
       refine st_val (ro_assign (v := .bool _) rfl) ?_
       refine st_nil ?_
       refine nx_then ?_
       refine cd_ret ?_
       refine rt_then ?_
       refine res1 (v := .bool _) rfl rfl ?_
       exact ⟨by rw [decide_eq_false]; rintro rfl; omega, From.rfl_⟩
  · (try first | replace Q1 := bn_t Q1 | replace Q1 := bn_f Q1)
    (try first | replace Q1 := bx_t Q1 | replace Q1 := bx_f Q1 | replace Q1 := be_t Q1 | replace Q1 := be_f Q1 | replace Q1 := of_decide_eq_true Q1 | replace Q1 := of_decide_eq_false Q1)
    first
     | (exfalso; first | omega | contradiction | (cases Q1; done))
     | skip
       refine cd_skip ?_
       refine nx_then ?_
       refine cd_seq ?_
       refine cd_seq ?_
       refine cd_region ?_
       refine st_val (ro_assign (v := .int _ _) rfl) ?_
       refine st_nil ?_
       refine nx_then ?_
       refine cd_block ?_
       refine cd_loop (G := Nat) [4, 11, 12, 13, 14, 15, 16, 17, 18, 19, 20, 21, 22, 23, 24, 25] (fun k => [(5, .int .i64 (k : Nat))]) (fun k w' => k ≤ a.length ∧ a.take k = b.take k ∧ From w w') (fun k => a.length - k) (0) ⟨rfl, trivial⟩ ?_ ?_
       · exact ⟨Nat.zero_le _, rfl, From.rfl_⟩
       rintro k ρ2 w2 ⟨hk, ht, hB⟩
       refine cd_seq ?_
       refine cd_seq ?_
       refine cd_region ?_
       refine st_val (ro_move (v := .int _ _) rfl) ?_
       refine st_val (ro_move (v := .slice _ _ _) rfl) ?_
       refine st_val (ro_len SufWake_l24 rfl) ?_
       refine st_val (ro_lss rfl rfl) ?_
       refine st_nil ?_
       refine nx_then ?_
       refine cd_cond rfl (fun Q3 => ?_) (fun Q3 => ?_)
       · (try first | replace Q3 := bn_t Q3 | replace Q3 := bn_f Q3)
         (try first | replace Q3 := bx_t Q3 | replace Q3 := bx_f Q3 | replace Q3 := be_t Q3 | replace Q3 := be_f Q3 | replace Q3 := of_decide_eq_true Q3 | replace Q3 := of_decide_eq_false Q3)
         obtain ⟨ba, oa, rfl, ca⟩ := ha (by omega)
         obtain ⟨bb, ob, rfl, cb⟩ := hb (by omega)
         first
          | (exfalso; first | omega | contradiction | (cases Q3; done))
          | skip
            refine cd_skip ?_
            refine nx_then ?_
            refine cd_seq ?_
            refine cd_block ?_
            refine cd_seq ?_
            apply cd_drawn 9 [(17, eqp _), (18, eqp _), (19, eqp _), (20, eqp _), (21, eqp _), (22, eqp _), (23, eqp _), (24, eqp _), (25, eqp _)] (by kernel_rfl) (by kernel_rfl) ⟨eqp_mono _, eqp_mono _, eqp_mono _, eqp_mono _, eqp_mono _, eqp_mono _, eqp_mono _, eqp_mono _, eqp_mono _, trivial⟩
            case hop =>
             refine ⟨?_, ?_⟩
             · intro w5 D5
               show OpOK _ _ _ _ _ _ _
               exact ok_pure (ro_move (v := .slice _ _ _) rfl) rfl
             refine ⟨?_, ?_⟩
             · intro w6 D6
               show OpOK _ _ _ _ _ _ _
               exact ok_pure (ro_move (v := .int _ _) rfl) rfl
             refine ⟨?_, ?_⟩
             · intro w7 D7
               rintro _ rfl _ rfl
               show OpOK _ _ _ _ _ _ _
               exact ok_pure (ro_indexAddr1 SufWake_e24 rfl rfl (by omega)) rfl
             refine ⟨?_, ?_⟩
             · intro w8 D8
               rintro _ rfl
               show OpOK _ _ _ _ _ _ _
               exact ok_pure (ro_load SufWake_g3 rfl (by first | (exact cellF (hB.next D8) (ca k (by omega))) | (exact cellF (hB.next D8) (cb k (by omega))))) rfl
             refine ⟨?_, ?_⟩
             · intro w9 D9
               show OpOK _ _ _ _ _ _ _
               exact ok_pure (ro_move (v := .slice _ _ _) rfl) rfl
             refine ⟨?_, ?_⟩
             · intro w10 D10
               show OpOK _ _ _ _ _ _ _
               exact ok_pure (ro_move (v := .int _ _) rfl) rfl
             refine ⟨?_, ?_⟩
             · intro w11 D11
               rintro _ rfl _ rfl
               show OpOK _ _ _ _ _ _ _
               exact ok_pure (ro_indexAddr1 SufWake_e24 rfl rfl (by omega)) rfl
             refine ⟨?_, ?_⟩
             · intro w12 D12
               rintro _ rfl
               show OpOK _ _ _ _ _ _ _
               exact ok_pure (ro_load SufWake_g3 rfl (by first | (exact cellF (hB.next D12) (ca k (by omega))) | (exact cellF (hB.next D12) (cb k (by omega))))) rfl
             refine ⟨?_, ?_⟩
             · intro w13 D13
               rintro _ rfl _ rfl
               show OpOK _ _ _ _ _ _ _
               exact ok_pure (ro_neq rfl rfl) rfl
             exact trivial
            case hend =>
             intro w14 D14
             rintro _ rfl _ rfl _ rfl _ rfl _ rfl _ rfl _ rfl _ rfl _ rfl
             show St _ _ _ _ _ _ _
             refine st_nil ?_
             refine nx_then ?_
             refine cd_cond rfl (fun Q15 => ?_) (fun Q15 => ?_)
             · (try first | replace Q15 := bn_t Q15 | replace Q15 := bn_f Q15)
               (try first | replace Q15 := bx_t Q15 | replace Q15 := bx_f Q15 | replace Q15 := be_t Q15 | replace Q15 := be_f Q15 | replace Q15 := of_decide_eq_true Q15 | replace Q15 := of_decide_eq_false Q15)
               first
                | (exfalso; first | omega | contradiction | (cases Q15; done))
                | skip
                  refine cd_seq ?_
                  refine cd_region ?_
                  refine st_val (ro_assign (v := .bool _) rfl) ?_
                  refine st_nil ?_
                  refine nx_then ?_
                  refine cd_ret ?_
                  refine rt_block ?_
                  refine rt_then ?_
                  refine rt_then ?_
                  refine rt_block ?_
                  refine rt_then ?_
                  refine res1 (v := .bool _) rfl rfl ?_
                  exact ⟨by rw [decide_eq_false]; rintro rfl; exact absurd rfl (by assumption), (hB.next D14)⟩
             · (try first | replace Q15 := bn_t Q15 | replace Q15 := bn_f Q15)
               (try first | replace Q15 := bx_t Q15 | replace Q15 := bx_f Q15 | replace Q15 := be_t Q15 | replace Q15 := be_f Q15 | replace Q15 := of_decide_eq_true Q15 | replace Q15 := of_decide_eq_false Q15)
               first
                | (exfalso; first | omega | contradiction | (cases Q15; done))
                | skip
                  refine cd_skip ?_
                  refine nx_block ?_
                  refine nx_then ?_
                  refine cd_region ?_
                  refine st_val (ro_move (v := .int _ _) rfl) ?_
                  refine st_val (ro_add64 rfl rfl (by omega)) ?_
                  refine st_val (ro_assign (v := .int _ _) rfl) ?_
                  refine st_nil ?_
                  refine nx_cut (k + 1) ⟨(by first | rfl | (refine int_eq ?_; omega)), trivial⟩ (by (iterate 33 refine agr_cons rfl ?_); exact agr_rfl) ⟨?_, ?_⟩
                  · exact ⟨by omega, take_eq (by omega) (by omega) ht (by omega), (hB.next D14)⟩
                  · omega
       · (try first | replace Q3 := bn_t Q3 | replace Q3 := bn_f Q3)
         (try first | replace Q3 := bx_t Q3 | replace Q3 := bx_f Q3 | replace Q3 := be_t Q3 | replace Q3 := be_f Q3 | replace Q3 := of_decide_eq_true Q3 | replace Q3 := of_decide_eq_false Q3)
         first
          | (exfalso; first | omega | contradiction | (cases Q3; done))
          | skip
            refine cd_exit ?_
            refine ex_then ?_
            refine ex_then ?_
            refine ex_block ?_
            refine nx_then ?_
            refine cd_seq ?_
            refine cd_region ?_
            refine st_val (ro_assign (v := .bool _) rfl) ?_
            refine st_nil ?_
            refine nx_then ?_
            refine cd_ret ?_
            refine res1 (v := .bool _) rfl rfl ?_
            exact ⟨by rw [decide_eq_true (eq_ge (by omega) (by omega) ht)], hB⟩
theorem eq_n (A B : Option Addr) (ca cb n m : Nat) (a b : List Int) (w : World) (ha : RowOf iV w A a) (hb : RowOf iV w B b) (hn : n = a.length) (hm : m = b.length) (hl : n ≤ 1000000) : Rt Try.prog 13 [.slice A n ca, .slice B m cb] w fun v w' => v = .bool (decide (a = b)) ∧ From w w' := by
  subst hn
  subst hm
  exact eqNums_any A B ca cb a b w ha hb (by omega)
theorem got_tab {w : World} {g n : Nat} {ys : Nat → Int} (h : Blk w g 3 (tabI n ys)) (hy : ∀ i, i < n → ys i = (i : Nat)) : Got w (some ⟨g, 0, none⟩) n n (List.range n) := by
  refine ⟨by simp, fun h0 => ⟨g, 0, rfl, fun i hi => ?_⟩, fun e => (by cases e), Nat.le_refl _⟩
  have hi2 : i < n := by simpa using hi
  have := h.rd i (tabI_at hi2)
  rw [hy i hi2] at this
  simpa using this
theorem cI_inj {a b : List Nat} (h : cI a = cI b) : a = b := by
  have := congrArg (List.map Int.toNat) h
  simpa [cI, List.map_map, Function.comp_def] using this
theorem row_two {w : World} {g : Nat} {x y : Int} (h : Blk w g 3 #[.int .i64 x, .int .i64 y]) : RowOf iV w (some ⟨g, 0, none⟩) [x, y] := fun _ => ⟨g, 0, rfl, fun i hi => by
  match i, hi with
  | 0, _ => exact h.rd 0 rfl
  | 1, _ => exact h.rd 1 rfl⟩
theorem isSA_10 {F : List Nat} (h : IsSA [1, 0] F) : F = [1, 0] := h.uniq (isSA_of rfl (by simp) (by
  refine List.pairwise_cons.2 ⟨fun z hz => ?_, List.pairwise_singleton ..⟩
  rw [List.mem_singleton] at hz
  subst hz
  exact ⟨0, fun m hm => absurd hm (by omega), by decide, by decide, by simp [endT]⟩))
theorem sortA_own {w' : World} {base n c : Nat} {A' : Option Addr} {F : List Nat} (h : w'.ownsRow base 3 1 (.slice A' n c) n (F.map fun x : Nat => iV (x : Nat))) : n = F.length ∧ RowOf iV w' A' (cI F) := by
  have e : (F.map fun x : Nat => iV (x : Nat)) = (cI F).map iV := by simp [cI]
  rw [e] at h
  obtain ⟨a, b⟩ := RowOf.own h
  exact ⟨by simpa using a, b⟩
set_option maxRecDepth 100000 in
set_option maxHeartbeats 400000 in
theorem refSort_rt (L : List Nat) (A : Option Addr) (c n : Nat) (w : World) (hr : RowOf iV w A (cI L)) (hn : n = L.length) (hl : n ≤ 131072) :
    Rt Try.prog 26 [.slice A n c] w (fun v w' => (∃ B cB F, v = .slice B n cB ∧ Got w' B n cB F ∧ IsSA L F) ∧ From w w') := by
  refine enter (n := 21) Try.func26 rfl rfl rfl ?_
  refine cd_seq ?_
  refine cd_region ?_
  refine st_val (ro_assign (v := .slice _ _ _) rfl) ?_
  refine st_nil ?_
  refine nx_then ?_
  refine cd_seq ?_
  refine cd_region ?_
  refine st_val (ro_move (v := .slice _ _ _) rfl) ?_
  refine st_val (ro_len SufWake_l24 rfl) ?_
  refine st_make SufWake_m24 rfl rfl rfl (by omega) (by omega) ?_
  intro b7 w1 E7 hb7 hk7
  have hg7 : w.heap.size ≤ b7 := Nat.le_of_eq hb7.symm
  refine st_val (ro_assign (v := .slice _ _ _) rfl) ?_
  refine st_nil ?_
  refine nx_then ?_
  refine cd_seq ?_
  refine cd_seq ?_
  refine cd_region ?_
  refine st_val (ro_assign (v := .int _ _) rfl) ?_
  refine st_nil ?_
  refine nx_then ?_
  refine cd_block ?_
  refine cd_loop (G := Nat × (Nat → Int)) [8, 9, 10, 11, 12, 13, 14, 15, 16, 17] (fun (k, _) => [(4, .int .i64 (k : Nat))]) (fun (k, ys) w' => k ≤ n ∧ (∀ i, i < k → ys i = (i : Nat)) ∧ Blk w' b7 3 (tabI n ys) ∧ From w w') (fun (k, _) => n - k) ((0, fun _ => 0)) ⟨rfl, trivial⟩ ?_ ?_
  · exact ⟨Nat.zero_le _, fun i h => absurd h (by omega), by rw [← tabI_zero]; exact hk7, (From.rfl_.next E7)⟩
  rintro ⟨k, ys⟩ ρ2 w2 ⟨hk, hy, hT, hB⟩
  refine cd_seq ?_
  refine cd_seq ?_
  refine cd_region ?_
  refine st_val (ro_move (v := .int _ _) rfl) ?_
  refine st_val (ro_move (v := .slice _ _ _) rfl) ?_
  refine st_val (ro_len SufWake_l24 rfl) ?_
  refine st_val (ro_lss rfl rfl) ?_
  refine st_nil ?_
  refine nx_then ?_
  refine cd_cond rfl (fun Q3 => ?_) (fun Q3 => ?_)
  · (try with_reducible first | replace Q3 := of_decide_eq_true Q3 | replace Q3 := of_decide_eq_false Q3 | replace Q3 := bn_t Q3 | replace Q3 := bn_f Q3)
    (try with_reducible first | replace Q3 := of_decide_eq_true Q3 | replace Q3 := of_decide_eq_false Q3 | replace Q3 := bx_t Q3 | replace Q3 := bx_f Q3 | replace Q3 := be_t Q3 | replace Q3 := be_f Q3)
    have hkn : k < n := by omega
    refine cd_skip ?_
    refine nx_then ?_
    refine cd_seq ?_
    refine cd_block ?_
    refine cd_region ?_
    refine st_val (ro_move (v := .slice _ _ _) rfl) ?_
    refine st_val (ro_move (v := .int _ _) rfl) ?_
    refine st_val (ro_move (v := .int _ _) rfl) ?_
    refine st_val (ro_indexAddr0 SufWake_e24 rfl rfl (by exact hkn)) ?_
    refine st_put (v := .int _ _) SufWake_z3 rfl rfl rfl (hT) (by rw [tabI_size]; exact hkn) ?_
    intro w4 O5 P5
    have P5b : Blk w4 b7 3 (tabI n (upd ys k ((k : Nat) : Int))) := by rw [← tabI_set]; exact P5
    refine st_nil ?_
    refine nx_block ?_
    refine nx_then ?_
    refine cd_region ?_
    refine st_val (ro_move (v := .int _ _) rfl) ?_
    refine st_val (ro_addN (b := 1) rfl rfl (by omega)) ?_
    refine st_val (ro_assign (v := .int _ _) rfl) ?_
    refine st_nil ?_
    refine nx_cut ((k + 1, upd ys k ((k : Nat) : Int))) ⟨(by first | rfl | (refine int_eq ?_; omega)), trivial⟩ (by (iterate 22 refine agr_cons rfl ?_); exact agr_rfl) ⟨?_, ?_⟩
    · refine ⟨by omega, fun i hi => ?_, P5b, (hB.only O5 (hg7))⟩
      unfold upd
      split
      · rename_i e; rw [e]
      · exact hy i (by omega)
    · show n - (k + 1) < n - k; omega
  · (try with_reducible first | replace Q3 := of_decide_eq_true Q3 | replace Q3 := of_decide_eq_false Q3 | replace Q3 := bn_t Q3 | replace Q3 := bn_f Q3)
    (try with_reducible first | replace Q3 := of_decide_eq_true Q3 | replace Q3 := of_decide_eq_false Q3 | replace Q3 := bx_t Q3 | replace Q3 := bx_f Q3 | replace Q3 := be_t Q3 | replace Q3 := be_f Q3)
    refine cd_exit ?_
    refine ex_then ?_
    refine ex_then ?_
    refine ex_block ?_
    refine nx_then ?_
    refine cd_seq ?_
    refine cd_region ?_
    refine st_val (ro_move (v := .slice _ _ _) rfl) ?_
    refine st_val (ro_move (v := .slice _ _ _) rfl) ?_
    refine st_call SufWake_k32 (rsorted_rt L (by omega) n A _ c n n (List.range n) _ (hr.from_ hB) hn (got_tab hT (fun i hi => hy i (by omega))) (fun x hx => by have := List.mem_range.1 hx; omega) List.nodup_range hl) ?_
    rintro v20 w5 ⟨B20, c20, F20, rfl, hg20, hm20, hp20, E20⟩
    refine st_val (ro_assign (v := .slice _ _ _) rfl) ?_
    refine st_nil ?_
    refine nx_then ?_
    refine cd_ret ?_
    refine res1 (v := .slice _ _ _) rfl rfl ?_
    refine ⟨⟨B20, c20, F20, by rw [List.length_range], by rw [List.length_range] at hg20; exact hg20, isSA_of ?_ ?_ hp20⟩, (hB.next E20)⟩
    · rw [← hg20.len, List.length_range, hn]
    · intro x hx
      have := List.mem_range.1 ((hm20 x).1 hx)
      omega
theorem sort_10 (g : Nat) (w : World) (h : Blk w g 3 #[.int .i64 1, .int .i64 0]) : Rt Try.prog 19 [.slice (some ⟨g, 0, none⟩) 2 2] w fun v w' => (∃ A', v = .tuple #[.slice A' 2 2, .int .i64 0] ∧ RowOf iV w' A' [1, 0]) ∧ From w w' := by
  refine (sort_rt (some ⟨g, 0, none⟩) 2 2 [1, 0] w (row_two h) rfl (by omega)).mono fun v w' hv => ?_
  obtain ⟨hs, hF⟩ := hv
  rcases hs with ⟨h0, _⟩ | ⟨L, F, A', hL, _, hSA, rfl, ho⟩
  · exact absurd h0 (by decide)
  · obtain rfl : L = [1, 0] := cI_inj hL.symm
    obtain rfl := isSA_10 hSA
    exact ⟨⟨A', rfl, (sortA_own ho).2⟩, hF⟩
end Go.Proofs.Ytpafbgdbjambgaa

namespace Go.Proofs.Ytpafbgdbjambgaa
open Go.RowKit
open Go.ChangeShapes Go.WideShapes Go.ChangeAt
open Go.Proofs.Ytpafbgdbjambgaa.SA
theorem SufHelp_q24 : litQ Try.prog 24 = some (3, 1, 8, (.int .i64 0)) := by kernel_rfl
theorem SufHelp_l24 : (elemQ Try.prog 24).isSome = true := by kernel_rfl
theorem SufHelp_e24 : elemQ Try.prog 24 = some (3, 1) := by kernel_rfl
theorem SufHelp_z3 : sizeQ Try.prog 3 = some 1 := by kernel_rfl
abbrev askT : Ty := .pr (.sl (.int .i64)) (.pr (.sl (.int .i64)) .unit)
structure AskAt (w : World) (b a : Nat) (A : Option Addr) (ca : Nat) (L : List Int) (B : Option Addr) (cb : Nat) (M : List Int) : Prop where
  cells : w.rangeAt b a [.slice A L.length ca, .slice B M.length cb]
  rowL : RowOf iV w A L
  rowM : RowOf iV w B M
  lenL : L.length * 8 ≤ 140737488351232
  lenM : M.length * 8 ≤ 140737488351232
theorem range2 {w : World} {b a : Nat} {v0 v1 : Value} (h0 : w.cell? ⟨b, a, none⟩ = some v0) (h1 : w.cell? ⟨b, a + 1, none⟩ = some v1) : w.rangeAt b a [v0, v1] := fun j v hv => by
  match j, hv with
  | 0, hv => simp at hv; subst hv; exact h0
  | 1, hv => simp at hv; subst hv; exact h1
  | j + 2, hv => simp at hv
theorem ask_at {w : World} {b a : Nat} {x : askT.den} (h : askT.At w (fun j => w.cell? ⟨b, a + j, none⟩) x) : ∃ A ca L B cb M, AskAt w b a A ca L B cb M := by
  obtain ⟨h1, h2, _⟩ := h
  obtain ⟨A, ca, c1, r1, _, l1, _⟩ := at_nums h1
  obtain ⟨B, cb, c2, r2, _, l2, _⟩ := at_nums h2
  exact ⟨A, ca, _, B, cb, _, range2 c1 c2, r1, r2, l1, l2⟩
theorem may_is (b : Bool) (k0 : Int) (A : Option Addr) (c n : Nat) (xs : List Int) (w : World) (hb : xs.all (okS k0) = b) (hr : RowOf iV w A xs) (hn : n = xs.length) (hl : n ≤ 1000000000000) : Rt Try.prog 10 [.int .i64 k0, .slice A n c] w fun v w' => v = .bool b ∧ From w w' := by
  subst hb
  exact may_rt k0 A c n xs w hr hn hl
theorem eq_same (A B : Option Addr) (ca cb n m : Nat) (a : List Int) (w : World) (ha : RowOf iV w A a) (hb : RowOf iV w B a) (hn : n = a.length) (hm : m = a.length) (hl : n ≤ 1000000) : Rt Try.prog 13 [.slice A n ca, .slice B m cb] w fun v w' => v = .bool true ∧ From w w' :=
  (eq_n A B ca cb n m a a w ha hb hn hm hl).mono fun v w' h => ⟨by rw [h.1, decide_eq_true rfl], h.2⟩
set_option maxRecDepth 100000 in
set_option maxHeartbeats 400000 in
theorem spoilNums_any (base : Nat) (A : Option Addr) (c : Nat) (l : List Int) (w : World) (ho : w.ownsRow base 3 1 (.slice A l.length c) l.length (l.map iV)) (hn : l.length * 8 ≤ 140737488351232) (hbs : base ≤ w.heap.size) :
    Rt Try.prog 14 [.slice A l.length c] w (fun _ w' => w.grownBy w' (A.map (·.block))) := by
  refine enter (n := 15) Try.func14 rfl rfl rfl ?_
  refine cd_seq ?_
  refine cd_seq ?_
  refine cd_region ?_
  refine st_val (ro_assign (v := .int _ _) rfl) ?_
  refine st_nil ?_
  refine nx_then ?_
  refine cd_block ?_
  refine cd_loop (G := List Int × Nat) [3, 4, 5, 6, 7, 8, 9, 10, 11] (fun (_, k) => [(2, .int .i64 (k : Nat))]) (fun (l1, k) w' => k ≤ l.length ∧ l1.length = l.length ∧ w'.ownsRow base 3 1 (.slice A l.length c) l.length (l1.map iV) ∧ w.grownBy w' (A.map (·.block))) (fun (_, k) => l.length - k) ((l, 0)) ⟨rfl, trivial⟩ ?_ ?_
  · exact ⟨Nat.zero_le _, rfl, ho, (From.rfl_ (a := w)).grown _⟩
  rintro ⟨l1, k⟩ ρ1 w1 ⟨hk, hlen, ho1, hG⟩
  refine cd_seq ?_
  refine cd_seq ?_
  refine cd_region ?_
  refine st_val (ro_move (v := .int _ _) rfl) ?_
  refine st_val (ro_move (v := .slice _ _ _) rfl) ?_
  refine st_val (ro_len SufHelp_l24 rfl) ?_
  refine st_val (ro_lss rfl rfl) ?_
  refine st_nil ?_
  refine nx_then ?_
  refine cd_cond rfl (fun Q2 => ?_) (fun Q2 => ?_)
  · (try first | replace Q2 := bn_t Q2 | replace Q2 := bn_f Q2)
    (try first | replace Q2 := bx_t Q2 | replace Q2 := bx_f Q2 | replace Q2 := be_t Q2 | replace Q2 := be_f Q2 | replace Q2 := of_decide_eq_true Q2 | replace Q2 := of_decide_eq_false Q2)
    obtain ⟨g, rfl⟩ := own_some ho (by omega)
    first
     | (exfalso; first | omega | contradiction | (cases Q2; done))
     | skip
       refine cd_skip ?_
       refine nx_then ?_
       refine cd_seq ?_
       refine cd_block ?_
       refine cd_region ?_
       refine st_val (ro_move (v := .slice _ _ _) rfl) ?_
       refine st_val (ro_move (v := .int _ _) rfl) ?_
       refine st_val (ro_indexAddr0 SufHelp_e24 rfl rfl (by omega)) ?_
       refine st_putOwn (v := .int _ _) SufHelp_z3 rfl rfl rfl (ho1) (by omega) ?_
       intro w3 O3 P3
       refine st_nil ?_
       refine nx_block ?_
       refine nx_then ?_
       refine cd_region ?_
       refine st_val (ro_move (v := .int _ _) rfl) ?_
       refine st_val (ro_addN (b := 1) rfl rfl (by omega)) ?_
       refine st_val (ro_assign (v := .int _ _) rfl) ?_
       refine st_nil ?_
       refine nx_cut ((l1.set k (-99), k + 1)) ⟨(by first | rfl | (refine int_eq ?_; omega)), trivial⟩ (by (iterate 20 refine agr_cons rfl ?_); exact agr_rfl) ⟨?_, ?_⟩
       · exact ⟨by omega, (List.length_set ..).trans hlen, by rw [List.map_set]; exact P3, grown_trans hG O3.grown⟩
       · show _ - _ < _ - _; omega
  · (try first | replace Q2 := bn_t Q2 | replace Q2 := bn_f Q2)
    (try first | replace Q2 := bx_t Q2 | replace Q2 := bx_f Q2 | replace Q2 := be_t Q2 | replace Q2 := be_f Q2 | replace Q2 := of_decide_eq_true Q2 | replace Q2 := of_decide_eq_false Q2)
    first
     | (exfalso; first | omega | contradiction | (cases Q2; done))
     | skip
       refine cd_exit ?_
       refine ex_then ?_
       refine ex_then ?_
       refine ex_block ?_
       refine nx_then ?_
       refine cd_region ?_
       refine st_val (ro_move (v := .slice _ _ _) rfl) ?_
       refine st_lit1 (v := .int _ _) SufHelp_q24 rfl rfl rfl ?_
       intro b13 w4 E13 hb13 hk13
       refine st_appendB (base := base) SufHelp_q24 rfl (by decide) rfl (A := A) (xs := l1.map iV) (news := [.int .i64 5]) (ho1.kept_from E13) (by have := hG.size; have := E13.size; omega) rfl rfl (fun _ => ⟨b13, 0, rfl, hk13.range 0 _ (fun j v h => by simpa using h)⟩) (fun h => by cases h) (by simp [Value.oneCell']) (by omega) (by omega) ?_
       intro A14 c14 w5 ho14 hg14
       refine st_val (ro_assign (v := .slice _ _ _) rfl) ?_
       refine st_nil ?_
       refine end_ret ?_
       refine res0 rfl ?_
       exact grown_trans hG (grown_trans (E13.grown _) hg14)
theorem spoil_n (base : Nat) (A : Option Addr) (c n : Nat) (F : List Nat) (w : World) (ho : w.ownsRow base 3 1 (.slice A n c) n (F.map fun x : Nat => iV (x : Nat))) (hl : n ≤ 1000000) (hbs : base ≤ w.heap.size) : Rt Try.prog 14 [.slice A n c] w fun _ w' => w.grownBy w' (A.map (·.block)) := by
  have hn := (sortA_own ho).1
  have e : (F.map fun x : Nat => iV (x : Nat)) = (cI F).map iV := by simp [cI]
  have e2 : n = (cI F).length := by simpa using hn
  rw [e, e2] at ho
  rw [e2] at hl ⊢
  exact spoilNums_any base A c (cI F) w ho (by omega) hbs
end Go.Proofs.Ytpafbgdbjambgaa

namespace Go.Proofs.Ytpafbgdbjambgaa
open Go.RowKit
open Go.ChangeShapes Go.WideShapes Go.ChangeAt
open Go.Proofs.Ytpafbgdbjambgaa.SA
theorem SufRefCom_e24 : elemQ Try.prog 24 = some (3, 1) := by kernel_rfl
theorem SufRefCom_q24 : litQ Try.prog 24 = some (3, 1, 8, (.int .i64 0)) := by kernel_rfl
/-- h symbols in common -/
def agr (L : List Nat) (i j h : Nat) : Prop := i + h ≤ L.length ∧ j + h ≤ L.length ∧ ∀ m, m < h → L.getD (i + m) 0 = L.getD (j + m) 0
/-- and no more -/
def stop (L : List Nat) (i j h : Nat) : Prop := ¬ (i + h < L.length ∧ j + h < L.length ∧ L.getD (i + h) 0 = L.getD (j + h) 0)
theorem lcp_uniq {L : List Nat} {i j h h2 : Nat} (a : agr L i j h) (b : stop L i j h) (c : agr L i j h2) (d : stop L i j h2) : h = h2 := by
  rcases Nat.lt_trichotomy h h2 with x | x | x
  · exact absurd ⟨by have := c.1; omega, by have := c.2.1; omega, c.2.2 h x⟩ b
  · exact x
  · exact absurd ⟨by have := a.1; omega, by have := a.2.1; omega, a.2.2 h2 x⟩ d
theorem agr_succ {L : List Nat} {i j h : Nat} (a : agr L i j h) (h1 : i + h < L.length) (h2 : j + h < L.length) (h3 : L.getD (i + h) 0 = L.getD (j + h) 0) : agr L i j (h + 1) :=
  ⟨by omega, by omega, fun m hm => by
    rcases Nat.eq_or_lt_of_le (Nat.le_of_lt_succ hm) with e | e
    · subst e; exact h3
    · exact a.2.2 m e⟩
/-- what neighbours have in common -/
structure IsCm (L F C : List Nat) : Prop where
  len : C.length = F.length
  at0 : 0 < C.length → C.getD 0 0 = 0
  at_ : ∀ k, 0 < k → k < C.length → agr L (F.getD k 0) (F.getD (k - 1) 0) (C.getD k 0) ∧ stop L (F.getD k 0) (F.getD (k - 1) 0) (C.getD k 0)
theorem IsCm.uniq {L F C D : List Nat} (h : IsCm L F C) (k : IsCm L F D) : C = D := by
  apply List.ext_getElem (by rw [h.len, k.len])
  intro r h1 h2
  have e : C.getD r 0 = D.getD r 0 := by
    rcases Nat.eq_zero_or_pos r with e | e
    · subst e; rw [h.at0 h1, k.at0 h2]
    · exact lcp_uniq (h.at_ r e h1).1 (h.at_ r e h1).2 (k.at_ r e h2).1 (k.at_ r e h2).2
  rw [List.getD_eq_getElem?_getD, List.getD_eq_getElem?_getD, List.getElem?_eq_getElem h1, List.getElem?_eq_getElem h2] at e
  exact e
theorem rowD {w : World} {A : Option Addr} {L : List Nat} (h : RowOf iV w A (cI L)) (h0 : 0 < L.length) : ∃ b o, A = some ⟨b, o, none⟩ ∧ ∀ i, i < L.length → w.cell? ⟨b, o + i, none⟩ = some (.int .i64 ((L.getD i 0 : Nat) : Int)) := by
  obtain ⟨b, o, rfl, hc⟩ := rowL h h0
  refine ⟨b, o, rfl, fun i hi => ?_⟩
  rw [hc i hi, List.getD_eq_getElem?_getD, List.getElem?_eq_getElem hi]
  rfl
theorem getD_app {C : List Nat} {x k : Nat} : (C ++ [x]).getD k 0 = if k < C.length then C.getD k 0 else if k = C.length then x else 0 := by
  rw [List.getD_eq_getElem?_getD, List.getD_eq_getElem?_getD, List.getElem?_append]
  split
  · rfl
  · split
    · rename_i e; subst e; simp
    · rw [List.getElem?_eq_none (by simp; omega)]; rfl
/-- as far as it is told -/
structure CmTo (L F C : List Nat) (k : Nat) : Prop where
  len : C.length = k
  at0 : 0 < k → C.getD 0 0 = 0
  at_ : ∀ q, 0 < q → q < k → agr L (F.getD q 0) (F.getD (q - 1) 0) (C.getD q 0) ∧ stop L (F.getD q 0) (F.getD (q - 1) 0) (C.getD q 0)
theorem CmTo.push {L F C : List Nat} {k h : Nat} (a : CmTo L F C k) (h0 : k = 0 → h = 0) (h1 : 0 < k → agr L (F.getD k 0) (F.getD (k - 1) 0) h ∧ stop L (F.getD k 0) (F.getD (k - 1) 0) h) : CmTo L F (C ++ [h]) (k + 1) := by
  have hl := a.len
  refine ⟨by simp [hl], fun _ => ?_, fun q hq hk => ?_⟩
  · rw [getD_app, hl]
    split
    · exact a.at0 (by omega)
    · rw [if_pos (by omega)]; exact h0 (by omega)
  · rw [getD_app, hl]
    by_cases e : q < k
    · rw [if_pos e]; exact a.at_ q hq e
    · obtain rfl : q = k := by omega
      rw [if_neg e, if_pos rfl]
      exact h1 hq
end Go.Proofs.Ytpafbgdbjambgaa

namespace Go.Proofs.Ytpafbgdbjambgaa.SA
section
variable {n : Nat} {t : Nat → Nat}
/-- what lies between two that agree agrees with them -/
theorem sandwich {a b c h : Nat} (he : ∀ m, m < h → t (a + m) = t (c + m)) (hab : a = b ∨ sl n t a b) (hbc : sl n t b c) : ∀ m, m < h → t (b + m) = t (c + m) := by
  rcases hab with rfl | hab
  · exact he
  · obtain ⟨k, k1, k2, k3, k4⟩ := hbc
    obtain ⟨q, q1, q2, q3, q4⟩ := hab
    intro m hm
    rcases Nat.lt_or_ge m k with x | x
    · exact k1 m x
    · exfalso
      have e1 := he k (by omega)
      rcases Nat.lt_trichotomy q k with y | y | y
      · have a1 := k1 q y
        have a2 := he q (by omega)
        omega
      · subst y
        omega
      · have a1 := q1 k y
        omega
theorem sl_tail {a c h : Nat} (he : ∀ m, m < h → t (a + m) = t (c + m)) (h0 : 0 < h) (hs : sl n t a c) : sl n t (a + 1) (c + 1) := by
  have e := he 0 h0
  rw [Nat.add_zero, Nat.add_zero] at e
  rcases sl_iff.1 hs with ⟨_, _, x⟩ | ⟨_, x⟩
  · omega
  · exact x
/-- the next suffix has with the one ahead of it at most one symbol less in common -/
theorem kasai {i j k h : Nat} (he : ∀ m, m < h → t (j + m) = t (i + m)) (hj : sl n t j i) (hk : sl n t k (i + 1)) (hp : ∀ x, sl n t x (i + 1) → x = k ∨ sl n t x k) : ∀ m, m < h - 1 → t (k + m) = t (i + 1 + m) := by
  intro m hm
  have hs := sl_tail he (by omega) hj
  refine sandwich (a := j + 1) (h := h - 1) (fun q hq => ?_) ?_ hk m hm
  · have := he (q + 1) (by omega)
    rw [show j + 1 + q = j + (q + 1) by omega, show i + 1 + q = i + (q + 1) by omega]
    exact this
  · exact hp _ hs
end
end Go.Proofs.Ytpafbgdbjambgaa.SA

namespace Go.Proofs.Ytpafbgdbjambgaa
open Go.RowKit
open Go.ChangeShapes Go.WideShapes Go.ChangeAt
open Go.Proofs.Ytpafbgdbjambgaa.SA
theorem SufCommon_e24 : elemQ Try.prog 24 = some (3, 1) := by kernel_rfl
theorem SufCommon_m24 : makeQ Try.prog 24 = some (3, 8, (.int .i64 0)) := by kernel_rfl
theorem endT_getD {L : List Nat} {i : Nat} (h : i < L.length) : endT L i = L.getD i 0 + 1 := by
  rw [endT_at h, List.getD_eq_getElem?_getD, List.getElem?_eq_getElem h]
  rfl
theorem agr_endT {L : List Nat} {i j h : Nat} (a : agr L i j h) : ∀ m, m < h → endT L (j + m) = endT L (i + m) := fun m hm => by
  obtain ⟨a1, a2, a3⟩ := a
  rw [endT_getD (show j + m < L.length by omega), endT_getD (show i + m < L.length by omega), a3 m hm]
theorem isSA_getD {L F : List Nat} (h : IsSA L F) {r : Nat} (hr : r < L.length) : F.getD r 0 < L.length ∧ rank (L.length + 1) (endT L) (F.getD r 0) = r + 1 := by
  have hr2 : r < F.length := by rw [h.len]; exact hr
  rw [List.getD_eq_getElem?_getD, List.getElem?_eq_getElem hr2]
  exact h.at_ r hr2
theorem isSA_inv {L F : List Nat} (h : IsSA L F) {i : Nat} (hi : i < L.length) : 0 < rank (L.length + 1) (endT L) i ∧ rank (L.length + 1) (endT L) i - 1 < L.length ∧ F.getD (rank (L.length + 1) (endT L) i - 1) 0 = i := by
  have ht := endT_txt L
  have h0 : 0 < rank (L.length + 1) (endT L) i := by
    rcases Nat.eq_zero_or_pos (rank (L.length + 1) (endT L) i) with e | e
    · have := rank_inj ht (show i < L.length + 1 by omega) (show L.length + 1 - 1 < L.length + 1 by omega) (by rw [e, rank_last ht])
      omega
    · exact e
  have hl := rank_lt (n := L.length + 1) (t := endT L) (show i < L.length + 1 by omega)
  have h1 : rank (L.length + 1) (endT L) i - 1 < L.length := by omega
  obtain ⟨a, b⟩ := isSA_getD h h1
  exact ⟨h0, h1, rank_inj ht (by omega) (by omega) (by rw [b]; omega)⟩
/-- the step of Kasai's walk -/
theorem kasai_step {L F : List Nat} (hS : IsSA L F) {i r h r2 : Nat} (hi : i + 1 < L.length) (hr : rank (L.length + 1) (endT L) i = r + 1) (h0 : 0 < r) (hag : agr L i (F.getD (r - 1) 0) h) (hr2 : rank (L.length + 1) (endT L) (i + 1) = r2 + 1) (h2 : 0 < r2) : agr L (i + 1) (F.getD (r2 - 1) 0) (h - 1) := by
  have ht := endT_txt L
  have hl1 := rank_lt (n := L.length + 1) (t := endT L) (show i < L.length + 1 by omega)
  have hl2 := rank_lt (n := L.length + 1) (t := endT L) (show i + 1 < L.length + 1 by omega)
  obtain ⟨a1, a2⟩ := isSA_getD hS (show r - 1 < L.length by omega)
  obtain ⟨b1, b2⟩ := isSA_getD hS (show r2 - 1 < L.length by omega)
  have hj : sl (L.length + 1) (endT L) (F.getD (r - 1) 0) i := (rank_iff ht (by omega) (by omega)).1 (by omega)
  have hk : sl (L.length + 1) (endT L) (F.getD (r2 - 1) 0) (i + 1) := (rank_iff ht (by omega) (by omega)).1 (by omega)
  have key := kasai (agr_endT hag) hj hk (fun x hx => by
    have hxl := (sl_lt hx).1
    have := rank_mono hx
    rcases Nat.lt_or_ge (rank (L.length + 1) (endT L) x) (r2 - 1 + 1) with c | c
    · exact .inr ((rank_iff ht hxl (by omega)).1 (by omega))
    · exact .inl (rank_inj ht hxl (by omega) (by omega)))
  obtain ⟨g1, g2, g3⟩ := hag
  have hb : ∀ q, q < h - 1 → F.getD (r2 - 1) 0 + q < L.length := by
    intro q hq
    rcases Nat.lt_or_ge (F.getD (r2 - 1) 0 + q) L.length with c | c
    · exact c
    · exfalso
      have e := key (L.length - F.getD (r2 - 1) 0) (by omega)
      rw [show F.getD (r2 - 1) 0 + (L.length - F.getD (r2 - 1) 0) = L.length by omega, endT_end, endT_getD (by omega)] at e
      omega
  refine ⟨by omega, ?_, fun q hq => ?_⟩
  · rcases Nat.eq_zero_or_pos (h - 1) with e | e
    · omega
    · have := hb (h - 1 - 1) (by omega); omega
  · have e := key q hq
    have := hb q hq
    rw [endT_getD this, endT_getD (show i + 1 + q < L.length by omega)] at e
    omega
end Go.Proofs.Ytpafbgdbjambgaa

namespace Go.Proofs.Ytpafbgdbjambgaa.SA
open Classical
theorem inc_id {N : Nat} {h : Nat → Nat} (hl : ∀ i, i < N → h i < N) (hm : ∀ i j, i < j → j < N → h i < h j) : ∀ i, i < N → h i = i := by
  have lo : ∀ i, i < N → i ≤ h i := by
    intro i
    induction i with
    | zero => intro _; exact Nat.zero_le _
    | succ i ih => intro hi; have := ih (by omega); have := hm i (i + 1) (by omega) hi; omega
  have hi : ∀ d i, i < N → N = i + 1 + d → h i ≤ i := by
    intro d
    induction d with
    | zero => intro i hi hd; have := hl i hi; omega
    | succ d ih => intro i hi hd; have := ih (i + 1) (by omega) (by omega); have := hm i (i + 1) (by omega) (by omega); omega
  intro i hi'
  have := lo i hi'
  have := hi (N - (i + 1)) i hi' (by omega)
  omega
/-- two ways to number that keep one order are one -/
theorem mono_uniq {N : Nat} {R : Nat → Nat → Prop} {f h : Nat → Nat} (hf : ∀ i, i < N → f i < N) (hh : ∀ i, i < N → h i < N) (tot : ∀ i j, i < N → j < N → i ≠ j → R i j ∨ R j i) (mf : ∀ i j, i < N → j < N → R i j → f i < f j) (mh : ∀ i j, i < N → j < N → R i j → h i < h j) : ∀ i, i < N → f i = h i := by
  have inj : ∀ i j, i < N → j < N → f i = f j → i = j := fun i j hi hj e => by
    by_cases x : i = j
    · exact x
    · rcases tot i j hi hj x with r | r
      · have := mf i j hi hj r; omega
      · have := mf j i hj hi r; omega
  have sf := surj hf inj
  have : ∀ r, ∃ v, r < N → ∃ i, i < N ∧ f i = r ∧ h i = v := fun r => by
    by_cases hr : r < N
    · obtain ⟨i, hi, e⟩ := sf r hr
      exact ⟨h i, fun _ => ⟨i, hi, e, rfl⟩⟩
    · exact ⟨0, fun x => absurd x hr⟩
  obtain ⟨g, hg⟩ := Classical.axiomOfChoice this
  have key := inc_id (N := N) (h := g) (fun r hr => by obtain ⟨i, hi, _, e⟩ := hg r hr; rw [← e]; exact hh i hi) (fun r s hrs hs => by
    obtain ⟨i, hi, ei, e⟩ := hg r (by omega)
    obtain ⟨j, hj, ej, e2⟩ := hg s hs
    rw [← e, ← e2]
    rcases tot i j hi hj (fun x => by subst x; omega) with r | r
    · exact mh i j hi hj r
    · have := mf j i hj hi r; omega)
  intro i hi
  obtain ⟨j, hj, ej, e⟩ := hg (f i) (hf i hi)
  have := inj j i hj hi ej
  subst this
  rw [e, key _ (hf j hi)]
section
variable {n : Nat} {b : Nat → Nat} {at_ : Nat}
/-- which symbol stands ahead of a row -/
def sy (at_ r : Nat) : Nat := if at_ < r then r - 1 else r
theorem sy_lt (h : at_ ≤ n) {r : Nat} (hr : r ≤ n) (hne : r ≠ at_) : sy at_ r < n := by unfold sy; split <;> omega
theorem sy_mono {r s : Nat} (hr : r ≠ at_) (hs : s ≠ at_) (h : r < s) : sy at_ r < sy at_ s := by unfold sy; split <;> split <;> omega
theorem sy_inj {r s : Nat} (hr : r ≠ at_) (hs : s ≠ at_) (h : sy at_ r = sy at_ s) : r = s := by
  rcases Nat.lt_trichotomy r s with x | x | x
  · have := sy_mono hr hs x; omega
  · exact x
  · have := sy_mono hs hr x; omega
/-- the order of symbols, by places where they are the same -/
def ahd (b : Nat → Nat) (i j : Nat) : Prop := b i < b j ∨ (b i = b j ∧ i < j)
theorem ahd_trans {i j k : Nat} (h : ahd b i j) (g : ahd b j k) : ahd b i k := by unfold ahd at *; omega
theorem ahd_irr (i : Nat) : ¬ ahd b i i := by unfold ahd; omega
theorem ahd_tot {i j : Nat} (h : i ≠ j) : ahd b i j ∨ ahd b j i := by unfold ahd; omega
/-- the row of the suffix that is one symbol longer -/
noncomputable def lf (n : Nat) (b : Nat → Nat) (at_ r : Nat) : Nat := if r = at_ then 0 else 1 + cnt n (fun j => ahd b j (sy at_ r))
theorem lf_at : lf n b at_ at_ = 0 := by unfold lf; rw [if_pos rfl]
theorem lf_ne {r : Nat} (h : r ≠ at_) : lf n b at_ r = 1 + cnt n (fun j => ahd b j (sy at_ r)) := by unfold lf; rw [if_neg h]
theorem lf_le (h : at_ ≤ n) {r : Nat} (hr : r ≤ n) : lf n b at_ r < n + 1 := by
  by_cases e : r = at_
  · rw [e, lf_at]; omega
  · rw [lf_ne e]
    have h1 := cnt_lt (n := n) (p := fun j => ahd b j (sy at_ r)) (q := fun _ => True) (fun _ _ _ => trivial) (sy_lt h hr e) (ahd_irr _) trivial
    have := cnt_le_n n (fun _ => True)
    omega
/-- the order of the rows by what stands ahead of them -/
def ro (b : Nat → Nat) (at_ r s : Nat) : Prop := (r = at_ ∧ s ≠ at_) ∨ (r ≠ at_ ∧ s ≠ at_ ∧ ahd b (sy at_ r) (sy at_ s))
theorem ro_tot {r s : Nat} (h : r ≠ s) : ro b at_ r s ∨ ro b at_ s r := by
  unfold ro
  by_cases e : r = at_
  · exact .inl (.inl ⟨e, fun x => h (e.trans x.symm)⟩)
  · by_cases e2 : s = at_
    · exact .inr (.inl ⟨e2, e⟩)
    · rcases ahd_tot (b := b) (i := sy at_ r) (j := sy at_ s) (fun x => h (sy_inj e e2 x)) with a | a
      · exact .inl (.inr ⟨e, e2, a⟩)
      · exact .inr (.inr ⟨e2, e, a⟩)
theorem lf_mono (h : at_ ≤ n) {r s : Nat} (hr : r ≤ n) (hs : s ≤ n) (ho : ro b at_ r s) : lf n b at_ r < lf n b at_ s := by
  rcases ho with ⟨e, e2⟩ | ⟨e, e2, a⟩
  · rw [e, lf_at, lf_ne e2]; omega
  · rw [lf_ne e, lf_ne e2]
    have := cnt_lt (n := n) (p := fun j => ahd b j (sy at_ r)) (q := fun j => ahd b j (sy at_ s)) (fun _ _ x => ahd_trans x a) (sy_lt h hr e) (ahd_irr _) a
    omega
/-- the walk back -/
noncomputable def wk (n : Nat) (b : Nat → Nat) (at_ : Nat) : Nat → Nat
  | 0 => 0
  | j + 1 => lf n b at_ (wk n b at_ j)
theorem wk_le (h : at_ ≤ n) (j : Nat) : wk n b at_ j ≤ n := by
  induction j with
  | zero => exact Nat.zero_le _
  | succ j ih => exact Nat.le_of_lt_succ (lf_le h ih)
/-- it is one circle -/
def Circ (n : Nat) (b : Nat → Nat) (at_ : Nat) : Prop := (∀ j, j < n → wk n b at_ j ≠ at_) ∧ wk n b at_ n = at_
end
/-- what is made of a list -/
structure IsBw (L B : List Nat) (at_ : Nat) : Prop where
  len : B.length = L.length
  at0 : at_ = rank (L.length + 1) (endT L) 0
  sym : ∀ i, 0 < i → i ≤ L.length → B.getD (sy at_ (rank (L.length + 1) (endT L) i)) 0 = L.getD (i - 1) 0
theorem rank_le {L : List Nat} {i : Nat} (h : i ≤ L.length) : rank (L.length + 1) (endT L) i ≤ L.length := Nat.le_of_lt_succ (rank_lt (by omega))
theorem rank_ne {L : List Nat} {i j : Nat} (hi : i ≤ L.length) (hj : j ≤ L.length) (h : i ≠ j) : rank (L.length + 1) (endT L) i ≠ rank (L.length + 1) (endT L) j := fun e => h (rank_inj (endT_txt L) (by omega) (by omega) e)
theorem rank_sur {L : List Nat} {r : Nat} (hr : r ≤ L.length) : ∃ i, i ≤ L.length ∧ rank (L.length + 1) (endT L) i = r := by
  obtain ⟨i, hi, e⟩ := surj (n := L.length + 1) (f := rank (L.length + 1) (endT L)) (fun i hi => rank_lt hi) (fun i j hi hj e => rank_inj (endT_txt L) hi hj e) r (by omega)
  exact ⟨i, by omega, e⟩
theorem rank_n (L : List Nat) : rank (L.length + 1) (endT L) L.length = 0 := rank_last (endT_txt L)
theorem rank_pos {L : List Nat} {i : Nat} (h : i < L.length) : 0 < rank (L.length + 1) (endT L) i := by
  have := rank_ne (L := L) (i := i) (j := L.length) (by omega) (by omega) (by omega)
  rw [rank_n] at this
  omega
theorem IsBw.uniq {L B B2 : List Nat} {a a2 : Nat} (h : IsBw L B a) (k : IsBw L B2 a2) : B = B2 ∧ a = a2 := by
  obtain rfl : a = a2 := h.at0.trans k.at0.symm
  refine ⟨?_, rfl⟩
  apply List.ext_getElem (by rw [h.len, k.len])
  intro q h1 h2
  have hl := h.len
  have hq : q < L.length := by omega
  have ha : a ≤ L.length := by rw [h.at0]; exact rank_le (by omega)
  obtain ⟨i, hi, e⟩ := rank_sur (L := L) (r := if q < a then q else q + 1) (by split <;> omega)
  have hne : rank (L.length + 1) (endT L) i ≠ a := by rw [e]; split <;> omega
  have hi0 : 0 < i := by
    rcases Nat.eq_zero_or_pos i with x | x
    · subst x; exact absurd h.at0.symm hne
    · exact x
  have hs : sy a (rank (L.length + 1) (endT L) i) = q := by rw [e]; unfold sy; split <;> split <;> omega
  have e1 := h.sym i hi0 hi
  have e2 := k.sym i hi0 hi
  rw [hs, List.getD_eq_getElem?_getD, List.getElem?_eq_getElem h1] at e1
  rw [hs, List.getD_eq_getElem?_getD, List.getElem?_eq_getElem h2] at e2
  exact e1.trans e2.symm
theorem endT_n {L : List Nat} : endT L L.length = 0 := endT_end
/-- what is made of a list is a circle, and reads back -/
theorem circ_of {L B : List Nat} {a : Nat} (h : IsBw L B a) : ∀ j, j ≤ L.length → wk L.length (fun i => B.getD i 0) a j = rank (L.length + 1) (endT L) (L.length - j) := by
  have ht := endT_txt L
  have ha : a ≤ L.length := by rw [h.at0]; exact rank_le (by omega)
  have key := mono_uniq (N := L.length + 1) (R := fun i j => ro (fun i => B.getD i 0) a (rank (L.length + 1) (endT L) i) (rank (L.length + 1) (endT L) j)) (f := fun i => lf L.length (fun i => B.getD i 0) a (rank (L.length + 1) (endT L) i)) (h := fun i => if i = 0 then 0 else rank (L.length + 1) (endT L) (i - 1))
    (fun i hi => lf_le ha (rank_le (by omega))) (fun i hi => by show (if _ then _ else _) < _; split; omega; exact rank_lt (by omega))
    (fun i j hi hj e => ro_tot (rank_ne (by omega) (by omega) e)) (fun i j hi hj r => lf_mono ha (rank_le (by omega)) (rank_le (by omega)) r) (fun i j hi hj r => by
      show (if _ then _ else _) < (if _ then _ else _)
      rcases r with ⟨e, e2⟩ | ⟨e, e2, r⟩
      · have i0 : i = 0 := rank_inj ht hi (by omega) (by rw [e]; exact h.at0)
        have j0 : j ≠ 0 := fun x => by subst x; exact e2 h.at0.symm
        rw [if_pos i0, if_neg j0]
        exact rank_pos (by omega)
      · have i0 : i ≠ 0 := fun x => by subst x; exact e h.at0.symm
        have j0 : j ≠ 0 := fun x => by subst x; exact e2 h.at0.symm
        rw [if_neg i0, if_neg j0]
        have s1 := h.sym i (by omega) (by omega)
        have s2 := h.sym j (by omega) (by omega)
        have t1 := endT_getD (L := L) (i := i - 1) (by omega)
        have t2 := endT_getD (L := L) (i := j - 1) (by omega)
        apply rank_mono
        rw [sl_iff]
        rcases r with r | ⟨r, r2⟩
        · refine .inl ⟨by omega, by omega, ?_⟩
          dsimp only at r
          rw [t1, t2]
          omega
        · refine .inr ⟨?_, ?_⟩
          · dsimp only at r
            rw [t1, t2]
            omega
          · rw [show i - 1 + 1 = i by omega, show j - 1 + 1 = j by omega]
            refine (rank_iff ht hi hj).1 ?_
            rcases Nat.lt_trichotomy (rank (L.length + 1) (endT L) i) (rank (L.length + 1) (endT L) j) with x | x | x
            · exact x
            · rw [x] at r2; omega
            · have := sy_mono e2 e x; omega)
  intro j
  induction j with
  | zero => intro _; rw [Nat.sub_zero, rank_n]; rfl
  | succ j ih =>
    intro hj
    show lf _ _ _ (wk _ _ _ j) = _
    rw [ih (by omega)]
    have := key (L.length - j) (by omega)
    rw [this, if_neg (by omega), show L.length - j - 1 = L.length - (j + 1) by omega]
/-- the list that a walk reads -/
noncomputable def wl (n : Nat) (b : Nat → Nat) (a : Nat) : List Nat := (List.range n).map fun i => b (sy a (wk n b a (n - 1 - i)))
theorem wl_len {n : Nat} {b : Nat → Nat} {a : Nat} : (wl n b a).length = n := by simp [wl]
theorem wl_get {n : Nat} {b : Nat → Nat} {a i : Nat} (h : i < n) : (wl n b a).getD i 0 = b (sy a (wk n b a (n - 1 - i))) := by
  unfold wl
  rw [List.getD_eq_getElem?_getD, List.getElem?_map, List.getElem?_range h]
  rfl
theorem undo {L B : List Nat} {a : Nat} (h : IsBw L B a) : Circ L.length (fun i => B.getD i 0) a ∧ wl L.length (fun i => B.getD i 0) a = L := by
  have hw := circ_of h
  refine ⟨⟨fun j hj e => ?_, ?_⟩, ?_⟩
  · rw [hw j (by omega), h.at0] at e
    exact rank_ne (by omega) (by omega) (by omega) e
  · rw [hw _ (Nat.le_refl _), Nat.sub_self, ← h.at0]
  · apply List.ext_getElem wl_len
    intro i h1 h2
    have e : (wl L.length (fun i => B.getD i 0) a).getD i 0 = L.getD i 0 := by
      rw [wl_get h2, hw _ (by omega), h.sym _ (by omega) (by omega)]
      congr 1
      omega
    rw [List.getD_eq_getElem?_getD, List.getD_eq_getElem?_getD, List.getElem?_eq_getElem h1, List.getElem?_eq_getElem h2] at e
    exact e
/-- a circle is what is made of the list that it reads -/
theorem redo {n : Nat} {B : List Nat} {a : Nat} (hn : B.length = n) (ha : a ≤ n) (hc : Circ n (fun i => B.getD i 0) a) : IsBw (wl n (fun i => B.getD i 0) a) B a := by
  generalize hb : (fun i => B.getD i 0) = b at hc ⊢
  generalize hL : wl n b a = L
  have hl : L.length = n := by rw [← hL, wl_len]
  have hg : ∀ i, i < n → L.getD i 0 = b (sy a (wk n b a (n - 1 - i))) := fun i hi => by rw [← hL]; exact wl_get hi
  have ht := endT_txt L
  have hw := fun j => wk_le (n := n) (b := b) ha j
  have mf : ∀ m i j, m = n - i → sl (n + 1) (endT L) i j → wk n b a (n - i) < wk n b a (n - j) := by
    intro m
    induction m with
    | zero =>
      intro i j hm hs
      have h1 := sl_lt hs
      obtain rfl : i = n := by omega
      have hj : j < i := by
        rcases Nat.lt_or_ge j i with x | x
        · exact x
        · exfalso
          obtain rfl : j = i := by omega
          exact sl_irr _ hs
      rw [Nat.sub_self, show i - j = (i - 1 - j) + 1 by omega]
      show 0 < lf _ _ _ _
      rw [lf_ne (hc.1 _ (by omega))]
      omega
    | succ m ih =>
      intro i j hm hs
      have h1 := sl_lt hs
      have t1 := endT_getD (L := L) (i := i) (by omega)
      have e1 := hg i (by omega)
      have lt : j < n → ro b a (wk n b a (n - 1 - i)) (wk n b a (n - 1 - j)) → wk n b a (n - i) < wk n b a (n - j) := fun hj r => by
        rw [show n - i = (n - 1 - i) + 1 by omega, show n - j = (n - 1 - j) + 1 by omega]
        exact lf_mono ha (hw _) (hw _) r
      rcases sl_iff.1 hs with ⟨_, h2, x⟩ | ⟨x, y⟩
      · have hj : j < n := by
          rcases Nat.lt_or_ge j n with z | z
          · exact z
          · rw [show j = L.length by omega, endT_end] at x; omega
        have t2 := endT_getD (L := L) (i := j) (by omega)
        have e2 := hg j hj
        refine lt hj (.inr ⟨hc.1 _ (by omega), hc.1 _ (by omega), .inl ?_⟩)
        omega
      · have y1 := sl_lt y
        have hj : j < n := by omega
        have t2 := endT_getD (L := L) (i := j) (by omega)
        have e2 := hg j hj
        have := ih (i + 1) (j + 1) (by omega) y
        refine lt hj (.inr ⟨hc.1 _ (by omega), hc.1 _ (by omega), .inr ⟨by omega, sy_mono (hc.1 _ (by omega)) (hc.1 _ (by omega)) ?_⟩⟩)
        rw [show n - 1 - i = n - (i + 1) by omega, show n - 1 - j = n - (j + 1) by omega]
        exact this
  have hr := mono_uniq (N := n + 1) (R := sl (n + 1) (endT L)) (f := fun i => wk n b a (n - i)) (h := rank (n + 1) (endT L)) (fun i hi => Nat.lt_succ_of_le (hw _)) (fun i hi => rank_lt hi) (fun i j hi hj e => sl_tri (by rw [← hl]; exact ht) rfl hi hj e) (fun i j _ _ h => mf _ i j rfl h) (fun i j _ _ h => rank_mono h)
  refine ⟨by omega, ?_, fun i h0 hi => ?_⟩
  · rw [hl, ← hr 0 (by omega)]
    show a = wk n b a (n - 0)
    rw [Nat.sub_zero, hc.2]
  · rw [hl] at hi
    rw [hl, ← hr i (by omega), hg (i - 1) (by omega), show n - 1 - (i - 1) = n - i by omega]
    exact congrFun hb _
/-! ### numbers of the rows, as they are counted -/
section
variable {n : Nat} {b : Nat → Nat} {at_ : Nat}
noncomputable def les (n : Nat) (b : Nat → Nat) (c : Nat) : Nat := cnt n fun j => b j < c
noncomputable def occ (b : Nat → Nat) (i c : Nat) : Nat := cnt i fun j => b j = c
theorem cnt_upto {p : Nat → Prop} {i : Nat} : ∀ {n : Nat}, i ≤ n → cnt n (fun j => p j ∧ j < i) = cnt i p
  | 0, h => by obtain rfl : i = 0 := by omega
               rfl
  | n + 1, h => by
    rcases Nat.eq_or_lt_of_le h with e | e
    · subst e
      exact cnt_congr fun j hj => ⟨fun x => x.1, fun x => ⟨x, hj⟩⟩
    · show cnt n _ + _ = _
      rw [cnt_upto (by omega), if_neg (by omega)]
      rfl
theorem lf_count {r : Nat} (h : at_ ≤ n) (hr : r ≤ n) (hne : r ≠ at_) : lf n b at_ r = 1 + les n b (b (sy at_ r)) + occ b (sy at_ r) (b (sy at_ r)) := by
  have hs := sy_lt h hr hne
  rw [lf_ne hne]
  unfold ahd les occ
  rw [cnt_or (p := fun j => b j < b (sy at_ r)) (q := fun j => b j = b (sy at_ r) ∧ j < sy at_ r) (fun i _ a => by omega), cnt_upto (p := fun j => b j = b (sy at_ r)) (Nat.le_of_lt hs)]
  omega
theorem cnt_yes {p : Nat → Prop} {i : Nat} (h : p i) : cnt (i + 1) p = cnt i p + 1 := by
  show _ + (if p i then 1 else 0) = _
  rw [if_pos h]
theorem cnt_no {p : Nat → Prop} {i : Nat} (h : ¬ p i) : cnt (i + 1) p = cnt i p := by
  show _ + (if p i then 1 else 0) = _
  rw [if_neg h]
  rfl
theorem occ_yes {i c : Nat} (e : b i = c) : occ b (i + 1) c = occ b i c + 1 := cnt_yes (p := fun j => b j = c) e
theorem occ_no {i c : Nat} (e : b i ≠ c) : occ b (i + 1) c = occ b i c := cnt_no (p := fun j => b j = c) e
theorem les_succ (c : Nat) : les n b (c + 1) = les n b c + occ b n c := by
  unfold les occ
  rw [← cnt_or (fun i _ a => by omega)]
  exact cnt_congr fun j _ => by omega
theorem les_zero : les n b 0 = 0 := cnt_none fun j _ => by omega
end
end Go.Proofs.Ytpafbgdbjambgaa.SA

namespace Go.Proofs.Ytpafbgdbjambgaa.SA
open Classical
section
variable {n : Nat} {b : Nat → Nat} {a : Nat}
noncomputable def ctT (b : Nat → Nat) (i x : Nat) : Nat := if x = 0 then 0 else occ b i (x - 1)
noncomputable def smT (o n : Nat) (b : Nat → Nat) (c x : Nat) : Nat := if x ≤ c then o + les n b x else occ b n (x - 1)
noncomputable def frT (o n : Nat) (b : Nat → Nat) (i x : Nat) : Nat := if x < 512 then o + les n b x + occ b i x else o + les n b 512
noncomputable def nxT (n : Nat) (b : Nat → Nat) (a k r : Nat) : Nat := if r < k then lf n b a r else 0
noncomputable def nxR (n : Nat) (b : Nat → Nat) (a i r : Nat) : Nat := if sy a r < i ∧ r ≠ a then lf n b a r else 0
theorem occ_le (i c : Nat) : occ b i c ≤ i := cnt_le_n _ _
theorem les_le (c : Nat) : les n b c ≤ n := cnt_le_n _ _
theorem occ_zero (c : Nat) : occ b 0 c = 0 := rfl
theorem ct_zero (x : Nat) : ctT b 0 x = 0 := by unfold ctT; split; rfl; rfl
theorem ct_le (i x : Nat) : ctT b i x ≤ i := by unfold ctT; split; exact Nat.zero_le _; exact occ_le _ _
theorem ct_step {i c : Nat} (hc : b i = c) (x : Nat) : upd (fun x => ((ctT b i x : Nat) : Int)) (c + 1) ((ctT b i (c + 1) + 1 : Nat) : Int) x = ((ctT b (i + 1) x : Nat) : Int) := by
  unfold upd
  split
  · rename_i e
    subst e
    unfold ctT
    rw [if_neg (by omega), if_neg (by omega), show c + 1 - 1 = c by omega, occ_yes hc]
  · rename_i e
    show ((ctT b i x : Nat) : Int) = _
    unfold ctT
    split
    · rfl
    · rw [occ_no (by omega)]
theorem sm_one (x : Nat) : upd (fun x => ((ctT b n x : Nat) : Int)) 0 1 x = ((smT 1 n b 0 x : Nat) : Int) := by
  unfold upd smT
  split
  · rename_i e; subst e; rw [if_pos (Nat.le_refl _), les_zero]; rfl
  · rename_i e
    rw [if_neg (by omega)]
    show ((ctT b n x : Nat) : Int) = _
    unfold ctT
    rw [if_neg e]
theorem sm_nul (x : Nat) : ((ctT b n x : Nat) : Int) = ((smT 0 n b 0 x : Nat) : Int) := by
  unfold ctT smT
  split
  · rename_i e; subst e; rw [if_pos (Nat.le_refl _), les_zero]
  · rename_i e; rw [if_neg (by omega)]
theorem sm_at {o c : Nat} : smT o n b c c = o + les n b c := by unfold smT; rw [if_pos (Nat.le_refl _)]
theorem sm_nx {o c : Nat} : smT o n b c (c + 1) = occ b n c := by unfold smT; rw [if_neg (by omega)]; rfl
theorem sm_step {o c : Nat} (x : Nat) : upd (fun x => ((smT o n b c x : Nat) : Int)) (c + 1) ((occ b n c + (o + les n b c) : Nat) : Int) x = ((smT o n b (c + 1) x : Nat) : Int) := by
  unfold upd
  split
  · rename_i e
    subst e
    rw [sm_at, les_succ]
    omega
  · rename_i e
    show ((smT o n b c x : Nat) : Int) = _
    unfold smT
    by_cases h : x ≤ c
    · rw [if_pos h, if_pos (by omega)]
    · rw [if_neg h, if_neg (by omega)]
theorem fr_zero {o : Nat} {x : Nat} (hx : x < 513) : ((smT o n b 512 x : Nat) : Int) = ((frT o n b 0 x : Nat) : Int) := by
  unfold smT frT
  rw [if_pos (by omega)]
  split
  · rw [occ_zero]; rfl
  · rw [show x = 512 by omega]
theorem fr_at {o i c : Nat} (h : c < 512) : frT o n b i c = o + les n b c + occ b i c := by unfold frT; rw [if_pos h]
theorem fr_step {o i c : Nat} (hc : b i = c) (h : c < 512) (x : Nat) : upd (fun x => ((frT o n b i x : Nat) : Int)) c ((o + les n b c + occ b i c + 1 : Nat) : Int) x = ((frT o n b (i + 1) x : Nat) : Int) := by
  unfold upd
  split
  · rename_i e
    subst e
    rw [fr_at h, occ_yes hc]
    omega
  · rename_i e
    show ((frT o n b i x : Nat) : Int) = _
    unfold frT
    rw [occ_no (b := b) (i := i) (c := x) (by omega)]
theorem nx_zero (r : Nat) : nxT n b a 0 r = 0 := by unfold nxT; rw [if_neg (by omega)]
theorem nx_skip {r : Nat} : nxT n b a (a + 1) r = nxT n b a a r := by
  unfold nxT
  by_cases h : r < a
  · rw [if_pos h, if_pos (by omega)]
  · rw [if_neg h]
    by_cases e : r = a
    · rw [if_pos (by omega), e, lf_at]
    · rw [if_neg (by omega)]
theorem nx_step {k v : Nat} (h : v = lf n b a k) (x : Nat) : upd (fun r => ((nxT n b a k r : Nat) : Int)) k ((v : Nat) : Int) x = ((nxT n b a (k + 1) x : Nat) : Int) := by
  unfold upd
  split
  · rename_i e
    subst e
    unfold nxT
    rw [if_pos (by omega), h]
  · rename_i e
    show ((nxT n b a k x : Nat) : Int) = _
    unfold nxT
    by_cases h : x < k
    · rw [if_pos h, if_pos (by omega)]
    · rw [if_neg h, if_neg (by omega)]
theorem nx_all {r : Nat} (h : r < n + 1) : nxT n b a (n + 1) r = lf n b a r := by unfold nxT; rw [if_pos h]
theorem nxR_zero (r : Nat) : nxR n b a 0 r = 0 := by unfold nxR; rw [if_neg (by omega)]
theorem nxR_step {i k v : Nat} (hk : sy a k = i) (hka : k ≠ a) (h : v = lf n b a k) (x : Nat) : upd (fun r => ((nxR n b a i r : Nat) : Int)) k ((v : Nat) : Int) x = ((nxR n b a (i + 1) x : Nat) : Int) := by
  unfold upd
  split
  · rename_i e
    subst e
    unfold nxR
    rw [if_pos ⟨by omega, hka⟩, h]
  · rename_i e
    show ((nxR n b a i x : Nat) : Int) = _
    unfold nxR
    by_cases h : sy a x < i ∧ x ≠ a
    · rw [if_pos h, if_pos ⟨by omega, h.2⟩]
    · rw [if_neg h, if_neg (fun y => h ⟨by
        rcases Nat.lt_or_ge (sy a x) i with z | z
        · exact z
        · exact absurd (sy_inj y.2 hka (by omega)) e, y.2⟩)]
theorem nxR_all (ha : a ≤ n) {r : Nat} (h : r ≤ n) : nxR n b a n r = lf n b a r := by
  unfold nxR
  by_cases e : r = a
  · rw [if_neg (fun x => x.2 e), e, lf_at]
  · rw [if_pos ⟨sy_lt ha h e, e⟩]
/-- of each row which one its symbol leads to -/
theorem lf_val {k c : Nat} (ha : a ≤ n) (hk : k ≤ n) (hka : k ≠ a) (hc : b (sy a k) = c) : 1 + les n b c + occ b (sy a k) c = lf n b a k := by rw [lf_count ha hk hka, hc]
theorem sy_self : sy a a = a := by unfold sy; rw [if_neg (by omega)]
theorem sy_next : sy a (a + 1) = a := by unfold sy; rw [if_pos (by omega)]; rfl
theorem sy_succ {k : Nat} (h : k ≠ a) : sy a (k + 1) = sy a k + 1 := by unfold sy; split <;> split <;> omega
theorem sy_zero : sy a 0 = 0 := by unfold sy; split <;> rfl
theorem sy_gt {k : Nat} (h : a < k) : sy a k = k - 1 := by unfold sy; rw [if_pos h]
theorem sy_le {k : Nat} (h : k ≤ a) : sy a k = k := by unfold sy; rw [if_neg (by omega)]
theorem wk_zero : wk n b a 0 = 0 := rfl
theorem wk_succ (j : Nat) : wk n b a (j + 1) = lf n b a (wk n b a j) := rfl
end
/-- the suffix of a row -/
def rowS (L F : List Nat) (r : Nat) : Nat := if r = 0 then L.length else F.getD (r - 1) 0
theorem rowS_zero {L F : List Nat} : rowS L F 0 = L.length := rfl
theorem rowS_succ {L F : List Nat} (k : Nat) : rowS L F (k + 1) = F.getD k 0 := by unfold rowS; rw [if_neg (by omega)]; rfl
theorem rowS_rank {L F : List Nat} (hS : IsSA L F) {i : Nat} (hi : i ≤ L.length) : rowS L F (rank (L.length + 1) (endT L) i) = i := by
  rcases Nat.eq_or_lt_of_le hi with e | e
  · rw [e, rank_n]; rfl
  · obtain ⟨a, b, c⟩ := isSA_inv hS e
    unfold rowS
    rw [if_neg (by omega)]
    exact c
theorem rank_rowS {L F : List Nat} (hS : IsSA L F) {r : Nat} (hr : r ≤ L.length) : rowS L F r ≤ L.length ∧ rank (L.length + 1) (endT L) (rowS L F r) = r := by
  unfold rowS
  split
  · rename_i e; rw [e]; exact ⟨Nat.le_refl _, rank_n L⟩
  · obtain ⟨a, b⟩ := isSA_getD hS (show r - 1 < L.length by omega)
    exact ⟨Nat.le_of_lt a, by omega⟩
/-- what is made of the first m rows -/
structure BwT (L F : List Nat) (m : Nat) (B : List Nat) (a : Nat) : Prop where
  nil : L = [] → B = [] ∧ a = 0
  no : L ≠ [] → a = 0 → B.length = m ∧ (∀ r, r < m → rowS L F r ≠ 0) ∧ ∀ r, r < m → B.getD r 0 = L.getD (rowS L F r - 1) 0
  yes : L ≠ [] → 0 < a → a < m ∧ rowS L F a = 0 ∧ B.length + 1 = m ∧ ∀ r, r < m → r ≠ a → B.getD (sy a r) 0 = L.getD (rowS L F r - 1) 0
theorem BwT.zero {L F : List Nat} : BwT L F 0 [] 0 := ⟨fun _ => ⟨rfl, rfl⟩, fun _ _ => ⟨rfl, fun r h => absurd h (by omega), fun r h => absurd h (by omega)⟩, fun _ h => absurd h (by omega)⟩
theorem BwT.push {L F B : List Nat} {m a : Nat} (h : BwT L F m B a) (hS : IsSA L F) (hm : m ≤ L.length) (hne : rowS L F m ≠ 0) : BwT L F (m + 1) (B ++ [L.getD (rowS L F m - 1) 0]) a := by
  have h0 : L ≠ [] := fun e => by
    subst e
    have := (rank_rowS hS hm).1
    simp at this
    exact hne this
  refine ⟨fun e => absurd e h0, fun _ ha => ?_, fun _ ha => ?_⟩
  · obtain ⟨h1, h2, h3⟩ := h.no h0 ha
    refine ⟨by simp [h1], fun r hr => ?_, fun r hr => ?_⟩
    · rcases Nat.eq_or_lt_of_le (Nat.le_of_lt_succ hr) with e | e
      · subst e; exact hne
      · exact h2 r e
    · rw [getD_app, h1]
      rcases Nat.eq_or_lt_of_le (Nat.le_of_lt_succ hr) with e | e
      · subst e; rw [if_neg (by omega), if_pos rfl]
      · rw [if_pos e]; exact h3 r e
  · obtain ⟨h1, h2, h3, h4⟩ := h.yes h0 ha
    refine ⟨by omega, h2, by simp [h3], fun r hr hra => ?_⟩
    rw [getD_app]
    rcases Nat.eq_or_lt_of_le (Nat.le_of_lt_succ hr) with e | e
    · subst e
      rw [sy_gt h1, if_neg (by omega), if_pos (by omega)]
    · have := sy_lt (n := m - 1) (at_ := a) (by omega) (r := r) (by omega) hra
      rw [if_pos (by omega)]; exact h4 r e hra
theorem BwT.skip {L F B : List Nat} {m a : Nat} (h : BwT L F m B a) (hS : IsSA L F) (hm : m ≤ L.length) (hz : rowS L F m = 0) : BwT L F (m + 1) B m := by
  refine ⟨fun e => ⟨(h.nil e).1, by subst e; simpa using hm⟩, fun h0 ha => ?_, fun h0 ha => ?_⟩
  · subst ha
    rw [rowS_zero] at hz
    exact absurd (List.eq_nil_of_length_eq_zero hz) h0
  · rcases Nat.eq_zero_or_pos a with e | e
    · obtain ⟨h1, h2, h3⟩ := h.no h0 e
      refine ⟨by omega, hz, by omega, fun r hr hra => ?_⟩
      rw [sy_le (by omega)]
      exact h3 r (by omega)
    · obtain ⟨h1, h2, h3, h4⟩ := h.yes h0 e
      have a1 := (rank_rowS hS (show a ≤ L.length by omega)).2
      have a2 := (rank_rowS hS hm).2
      rw [h2] at a1
      rw [hz] at a2
      omega
theorem BwT.fin {L F B : List Nat} {a : Nat} (h : BwT L F (L.length + 1) B a) (hS : IsSA L F) : IsBw L B a := by
  by_cases h0 : L = []
  · obtain ⟨e1, e2⟩ := h.nil h0
    subst e1
    subst e2
    subst h0
    refine ⟨rfl, (rank_n []).symm, fun i hi hi2 => absurd hi2 (by simp; omega)⟩
  · have hp : 0 < L.length := List.length_pos_iff.2 h0
    have hr := rowS_rank hS (Nat.zero_le L.length)
    have hl := rank_le (L := L) (Nat.zero_le _)
    have ha : 0 < a := by
      rcases Nat.eq_zero_or_pos a with e | e
      · exact absurd hr ((h.no h0 e).2.1 _ (by omega))
      · exact e
    obtain ⟨h1, h2, h3, h4⟩ := h.yes h0 ha
    have a1 := (rank_rowS hS (show a ≤ L.length by omega)).2
    rw [h2] at a1
    refine ⟨by omega, a1.symm, fun i hi hi2 => ?_⟩
    have hne := rank_ne (L := L) (i := i) (j := 0) hi2 (by omega) (by omega)
    have := h4 _ (Nat.lt_succ_of_le (rank_le hi2)) (by rw [← a1]; exact hne)
    rw [rowS_rank hS hi2] at this
    exact this
theorem IsBw.le {L B : List Nat} {a : Nat} (h : IsBw L B a) : a ≤ L.length := by rw [h.at0]; exact rank_le (Nat.zero_le _)
theorem IsBw.symb {L B : List Nat} {a : Nat} (h : IsBw L B a) (hx : ∀ x ∈ L, x < 512) : ∀ x ∈ B, x < 512 := fun x hx2 => by
  obtain ⟨q, hq, rfl⟩ := List.getElem_of_mem hx2
  have hl := h.len
  have ha := h.le
  obtain ⟨i, hi, e⟩ := rank_sur (L := L) (r := if q < a then q else q + 1) (by split <;> omega)
  have hne : rank (L.length + 1) (endT L) i ≠ a := by rw [e]; split <;> omega
  have hi0 : 0 < i := by
    rcases Nat.eq_zero_or_pos i with x | x
    · subst x; exact absurd h.at0.symm hne
    · exact x
  have hs : sy a (rank (L.length + 1) (endT L) i) = q := by rw [e]; unfold sy; split <;> split <;> omega
  have e1 := h.sym i hi0 hi
  rw [hs, List.getD_eq_getElem?_getD, List.getElem?_eq_getElem hq, List.getD_eq_getElem?_getD, List.getElem?_eq_getElem (by omega)] at e1
  simp only [Option.getD_some] at e1
  rw [e1]
  exact hx _ (List.getElem_mem _)
theorem wl_symb {n : Nat} {B : List Nat} {a : Nat} (hx : ∀ x ∈ B, x < 512) : ∀ x ∈ wl n (fun i => B.getD i 0) a, x < 512 := fun x hx2 => by
  obtain ⟨i, _, rfl⟩ := List.mem_map.1 hx2
  dsimp only
  rw [List.getD_eq_getElem?_getD]
  rcases e : B[sy a (wk n (fun i => B.getD i 0) a (n - 1 - i))]? with _ | y
  · simp
  · exact hx y (List.mem_of_getElem? e)
end Go.Proofs.Ytpafbgdbjambgaa.SA

namespace Go.Proofs.Ytpafbgdbjambgaa
open Go.RowKit
open Go.ChangeShapes Go.WideShapes Go.ChangeAt
open Go.Proofs.Ytpafbgdbjambgaa.SA
theorem BwtAhead_e24 : elemQ Try.prog 24 = some (3, 1) := by kernel_rfl
theorem BwtAhead_m24 : makeQ Try.prog 24 = some (3, 8, (.int .i64 0)) := by kernel_rfl
theorem BwtAhead_q24 : litQ Try.prog 24 = some (3, 1, 8, (.int .i64 0)) := by kernel_rfl
theorem BwtAhead_a47 : arrQ Try.prog 47 = some (513, 1) := by kernel_rfl
theorem BwtAhead_za47 : zeroQ Try.prog 47 = some (.agg (List.replicate 513 (Value.int .i64 0)).toArray) := by kernel_rfl
theorem BwtAhead_zc : (Value.agg (List.replicate 513 (Value.int .i64 0)).toArray).cells = (List.replicate 513 (Value.int .i64 0)).toArray := by kernel_rfl
theorem BwtAhead_l24 : (elemQ Try.prog 24).isSome = true := by kernel_rfl
theorem BwtAhead_g3 : aggQ Try.prog 3 = some false := by kernel_rfl
theorem BwtAhead_z3 : sizeQ Try.prog 3 = some 1 := by kernel_rfl
theorem BwtAhead_k23 : callable Try.prog 23 = true := by kernel_rfl
theorem ro_arr {P : Program} {ρ : Operand → Value} {w : World} {t : TypeId} {x y : Operand} {m b i : Nat} {k : IntKind} (ht : arrQ P t = some (m, 1)) (hx : ρ x = .pointer (some ⟨b, 0, none⟩)) (hy : ρ y = .int k (i : Nat)) (h : i < m) : RO P ρ (.indexAddr t x y) w (.pointer (some ⟨b, i, none⟩)) w := by
  have := ro_indexAddrA (P := P) (ρ := ρ) (w := w) ht hx hy ⟨by omega, by omega⟩
  simpa using this
theorem ro_arr0 {P : Program} {ρ : Operand → Value} {w : World} {t : TypeId} {x y : Operand} {m b : Nat} {k : IntKind} (ht : arrQ P t = some (m, 1)) (hx : ρ x = .pointer (some ⟨b, 0, none⟩)) (hy : ρ y = .int k 0) (h : 0 < m) : RO P ρ (.indexAddr t x y) w (.pointer (some ⟨b, 0, none⟩)) w := ro_arr (i := 0) ht hx hy h
theorem cI_get {B : List Nat} {i : Nat} (h : i < B.length) : (cI B)[i]? = some ((B.getD i 0 : Nat) : Int) := by
  simp [cI, List.getD_eq_getElem?_getD, List.getElem?_eq_getElem h]
theorem symb_get {B : List Nat} (hx : ∀ x ∈ B, x < 512) (i : Nat) : B.getD i 0 < 512 := by
  rw [List.getD_eq_getElem?_getD]
  rcases e : B[i]? with _ | y
  · simp
  · exact hx y (List.mem_of_getElem? e)
set_option maxRecDepth 100000 in
set_option maxHeartbeats 1000000 in
theorem valid_rt (at_ : Int) (A : Option Addr) (c n : Nat) (xs : List Int) (w : World) (hr : RowOf iV w A xs) (hn : n = xs.length) (hl : n ≤ 1000000) :
    Rt Try.prog 21 [.int .i64 at_, .slice A n c] w (fun v w' => v = .bool (decide (0 ≤ at_ ∧ at_ ≤ n ∧ n ≤ 131072) && xs.all (okS 512)) ∧ From w w') := by
  refine enter (n := 33) Try.func21 rfl rfl rfl ?_
  refine cd_seq ?_
  refine cd_region ?_
  refine st_val (ro_assign (v := .bool _) rfl) ?_
  refine st_nil ?_
  refine nx_then ?_
  refine cd_seq ?_
  refine cd_seq ?_
  refine cd_region ?_
  refine st_val (ro_move (v := .int _ _) rfl) ?_
  refine st_val (ro_lss rfl rfl) ?_
  refine st_val (ro_move (v := .bool _) rfl) ?_
  refine st_split (t := 9) rfl (fun Q1 => ?_) (fun Q1 => ?_)
  · (try with_reducible first | replace Q1 := of_decide_eq_true Q1 | replace Q1 := of_decide_eq_false Q1 | replace Q1 := bn_t Q1 | replace Q1 := bn_f Q1)
    (try with_reducible first | replace Q1 := of_decide_eq_true Q1 | replace Q1 := of_decide_eq_false Q1 | replace Q1 := bx_t Q1 | replace Q1 := bx_f Q1 | replace Q1 := be_t Q1 | replace Q1 := be_f Q1)
    first
     | (exfalso; first | omega | contradiction | (cases Q1; done))
     | skip
       refine st_gno rfl rfl ?_
       refine st_gno rfl rfl ?_
       refine st_gno rfl rfl ?_
       refine st_gno rfl rfl ?_
       refine st_val (ro_pickT (v := .bool _) rfl rfl) ?_
       refine st_val (ro_move (v := .bool _) rfl) ?_
       refine st_gno rfl rfl ?_
       refine st_gno rfl rfl ?_
       refine st_gno rfl rfl ?_
       refine st_val (ro_pickT (v := .bool _) rfl rfl) ?_
       refine st_nil ?_
       refine nx_then ?_
       refine cd_condT rfl ?_
       refine cd_seq ?_
       refine cd_region ?_
       refine st_val (ro_assign (v := .bool _) rfl) ?_
       refine st_nil ?_
       refine nx_then ?_
       refine cd_ret ?_
       refine rt_then ?_
       refine res1 (v := .bool _) rfl rfl ?_
       refine ⟨congrArg Value.bool ?_, From.rfl_⟩
       rw [decide_eq_false (by omega)]; rfl
  · (try with_reducible first | replace Q1 := of_decide_eq_true Q1 | replace Q1 := of_decide_eq_false Q1 | replace Q1 := bn_t Q1 | replace Q1 := bn_f Q1)
    (try with_reducible first | replace Q1 := of_decide_eq_true Q1 | replace Q1 := of_decide_eq_false Q1 | replace Q1 := bx_t Q1 | replace Q1 := bx_f Q1 | replace Q1 := be_t Q1 | replace Q1 := be_f Q1)
    first
     | (exfalso; first | omega | contradiction | (cases Q1; done))
     | skip
       refine st_unguard rfl ?_
       refine st_val (ro_move (v := .int _ _) rfl) ?_
       refine st_unguard rfl ?_
       refine st_val (ro_move (v := .slice _ _ _) rfl) ?_
       refine st_unguard rfl ?_
       refine st_val (ro_len BwtAhead_l24 rfl) ?_
       refine st_unguard rfl ?_
       refine st_val (ro_gtr rfl rfl) ?_
       refine st_val (ro_pickF (v := .bool _) rfl rfl) ?_
       refine st_val (ro_move (v := .bool _) rfl) ?_
       refine st_split (t := 15) rfl (fun Q2 => ?_) (fun Q2 => ?_)
       · (try with_reducible first | replace Q2 := of_decide_eq_true Q2 | replace Q2 := of_decide_eq_false Q2 | replace Q2 := bn_t Q2 | replace Q2 := bn_f Q2)
         (try with_reducible first | replace Q2 := of_decide_eq_true Q2 | replace Q2 := of_decide_eq_false Q2 | replace Q2 := bx_t Q2 | replace Q2 := bx_f Q2 | replace Q2 := be_t Q2 | replace Q2 := be_f Q2)
         first
          | (exfalso; first | omega | contradiction | (cases Q2; done))
          | skip
            refine st_gno rfl rfl ?_
            refine st_gno rfl rfl ?_
            refine st_gno rfl rfl ?_
            refine st_val (ro_pickT (v := .bool _) rfl rfl) ?_
            refine st_nil ?_
            refine nx_then ?_
            refine cd_condT rfl ?_
            refine cd_seq ?_
            refine cd_region ?_
            refine st_val (ro_assign (v := .bool _) rfl) ?_
            refine st_nil ?_
            refine nx_then ?_
            refine cd_ret ?_
            refine rt_then ?_
            refine res1 (v := .bool _) rfl rfl ?_
            refine ⟨congrArg Value.bool ?_, From.rfl_⟩
            rw [decide_eq_false (by omega)]; rfl
       · (try with_reducible first | replace Q2 := of_decide_eq_true Q2 | replace Q2 := of_decide_eq_false Q2 | replace Q2 := bn_t Q2 | replace Q2 := bn_f Q2)
         (try with_reducible first | replace Q2 := of_decide_eq_true Q2 | replace Q2 := of_decide_eq_false Q2 | replace Q2 := bx_t Q2 | replace Q2 := bx_f Q2 | replace Q2 := be_t Q2 | replace Q2 := be_f Q2)
         first
          | (exfalso; first | omega | contradiction | (cases Q2; done))
          | skip
            refine st_unguard rfl ?_
            refine st_val (ro_move (v := .slice _ _ _) rfl) ?_
            refine st_unguard rfl ?_
            refine st_val (ro_len BwtAhead_l24 rfl) ?_
            refine st_unguard rfl ?_
            refine st_val (ro_gtr rfl rfl) ?_
            refine st_val (ro_pickF (v := .bool _) rfl rfl) ?_
            refine st_nil ?_
            refine nx_then ?_
            refine cd_cond rfl (fun Q3 => ?_) (fun Q3 => ?_)
            · (try with_reducible first | replace Q3 := of_decide_eq_true Q3 | replace Q3 := of_decide_eq_false Q3 | replace Q3 := bn_t Q3 | replace Q3 := bn_f Q3)
              (try with_reducible first | replace Q3 := of_decide_eq_true Q3 | replace Q3 := of_decide_eq_false Q3 | replace Q3 := bx_t Q3 | replace Q3 := bx_f Q3 | replace Q3 := be_t Q3 | replace Q3 := be_f Q3)
              first
               | (exfalso; first | omega | contradiction | (cases Q3; done))
               | skip
                 refine cd_seq ?_
                 refine cd_region ?_
                 refine st_val (ro_assign (v := .bool _) rfl) ?_
                 refine st_nil ?_
                 refine nx_then ?_
                 refine cd_ret ?_
                 refine rt_then ?_
                 refine res1 (v := .bool _) rfl rfl ?_
                 refine ⟨congrArg Value.bool ?_, From.rfl_⟩
                 rw [decide_eq_false (by omega)]; rfl
            (try with_reducible first | replace Q3 := of_decide_eq_true Q3 | replace Q3 := of_decide_eq_false Q3 | replace Q3 := bn_t Q3 | replace Q3 := bn_f Q3)
            (try with_reducible first | replace Q3 := of_decide_eq_true Q3 | replace Q3 := of_decide_eq_false Q3 | replace Q3 := bx_t Q3 | replace Q3 := bx_f Q3 | replace Q3 := be_t Q3 | replace Q3 := be_f Q3)
            first
             | (exfalso; first | omega | contradiction | (cases Q3; done))
             | skip
               refine cd_skip ?_
               refine nx_then ?_
               refine cd_seq ?_
               refine cd_seq ?_
               refine cd_region ?_
               refine st_val (ro_move (v := .slice _ _ _) rfl) ?_
               refine st_val (ro_len BwtAhead_l24 rfl) ?_
               refine st_val (ro_move (v := .int _ _) rfl) ?_
               refine st_nil ?_
               refine nx_then ?_
               refine cd_block ?_
               refine cd_loop (G := Nat) [4, 6, 23, 24, 25, 26, 27, 28, 29, 30, 31, 32] (fun k => [(22, .int .i64 (k : Nat))]) (fun k w' => k ≤ n ∧ (xs.take k).all (okS 512) = true ∧ From w w') (fun k => n - k) (0) ⟨rfl, trivial⟩ ?_ ?_
               · exact ⟨Nat.zero_le _, rfl, From.rfl_⟩
               rintro k ρ4 w4 ⟨hk, hall, hB⟩
               refine cd_seq ?_
               refine cd_region ?_
               refine st_val (ro_lss rfl rfl) ?_
               refine st_nil ?_
               refine nx_then ?_
               refine cd_seq ?_
               refine cd_cond rfl (fun Q5 => ?_) (fun Q5 => ?_)
               · (try with_reducible first | replace Q5 := of_decide_eq_true Q5 | replace Q5 := of_decide_eq_false Q5 | replace Q5 := bn_t Q5 | replace Q5 := bn_f Q5)
                 (try with_reducible first | replace Q5 := of_decide_eq_true Q5 | replace Q5 := of_decide_eq_false Q5 | replace Q5 := bx_t Q5 | replace Q5 := bx_f Q5 | replace Q5 := be_t Q5 | replace Q5 := be_f Q5)
                 have hkx : k < xs.length := by omega
                 obtain ⟨b, o, rfl, hc⟩ := hr (by omega)
                 have hck := hc k hkx
                 first
                  | (exfalso; first | omega | contradiction | (cases Q5; done))
                  | skip
                    refine cd_skip ?_
                    refine nx_then ?_
                    refine cd_seq ?_
                    refine cd_block ?_
                    refine cd_seq ?_
                    refine cd_region ?_
                    refine st_val (ro_indexAddr1 BwtAhead_e24 rfl rfl (by omega)) ?_
                    refine st_val (ro_load BwtAhead_g3 rfl (by exact cellF hB hck)) ?_
                    refine st_val (ro_assign (v := .int _ _) rfl) ?_
                    refine st_nil ?_
                    refine nx_then ?_
                    refine cd_seq ?_
                    refine cd_region ?_
                    refine st_val (ro_move (v := .int _ _) rfl) ?_
                    refine st_val (ro_lss rfl rfl) ?_
                    refine st_val (ro_move (v := .bool _) rfl) ?_
                    refine st_split (t := 28) rfl (fun Q6 => ?_) (fun Q6 => ?_)
                    · (try with_reducible first | replace Q6 := of_decide_eq_true Q6 | replace Q6 := of_decide_eq_false Q6 | replace Q6 := bn_t Q6 | replace Q6 := bn_f Q6)
                      (try with_reducible first | replace Q6 := of_decide_eq_true Q6 | replace Q6 := of_decide_eq_false Q6 | replace Q6 := bx_t Q6 | replace Q6 := bx_f Q6 | replace Q6 := be_t Q6 | replace Q6 := be_f Q6)
                      first
                       | (exfalso; first | omega | contradiction | (cases Q6; done))
                       | skip
                         refine st_gno rfl rfl ?_
                         refine st_gno rfl rfl ?_
                         refine st_val (ro_pickT (v := .bool _) rfl rfl) ?_
                         refine st_nil ?_
                         refine nx_then ?_
                         refine cd_condT rfl ?_
                         refine cd_seq ?_
                         refine cd_region ?_
                         refine st_val (ro_assign (v := .bool _) rfl) ?_
                         refine st_nil ?_
                         refine nx_then ?_
                         refine cd_ret ?_
                         refine rt_block ?_
                         refine rt_then ?_
                         refine rt_then ?_
                         refine rt_block ?_
                         refine rt_then ?_
                         refine res1 (v := .bool _) rfl rfl ?_
                         refine ⟨congrArg Value.bool ?_, hB⟩
                         rw [all_no hkx (okS_no (by omega)), Bool.and_false]
                    · (try with_reducible first | replace Q6 := of_decide_eq_true Q6 | replace Q6 := of_decide_eq_false Q6 | replace Q6 := bn_t Q6 | replace Q6 := bn_f Q6)
                      (try with_reducible first | replace Q6 := of_decide_eq_true Q6 | replace Q6 := of_decide_eq_false Q6 | replace Q6 := bx_t Q6 | replace Q6 := bx_f Q6 | replace Q6 := be_t Q6 | replace Q6 := be_f Q6)
                      first
                       | (exfalso; first | omega | contradiction | (cases Q6; done))
                       | skip
                         refine st_unguard rfl ?_
                         refine st_val (ro_move (v := .int _ _) rfl) ?_
                         refine st_unguard rfl ?_
                         refine st_val (ro_geq rfl rfl) ?_
                         refine st_val (ro_pickF (v := .bool _) rfl rfl) ?_
                         refine st_nil ?_
                         refine nx_then ?_
                         refine cd_cond rfl (fun Q7 => ?_) (fun Q7 => ?_)
                         · (try with_reducible first | replace Q7 := of_decide_eq_true Q7 | replace Q7 := of_decide_eq_false Q7 | replace Q7 := bn_t Q7 | replace Q7 := bn_f Q7)
                           (try with_reducible first | replace Q7 := of_decide_eq_true Q7 | replace Q7 := of_decide_eq_false Q7 | replace Q7 := bx_t Q7 | replace Q7 := bx_f Q7 | replace Q7 := be_t Q7 | replace Q7 := be_f Q7)
                           first
                            | (exfalso; first | omega | contradiction | (cases Q7; done))
                            | skip
                              refine cd_seq ?_
                              refine cd_region ?_
                              refine st_val (ro_assign (v := .bool _) rfl) ?_
                              refine st_nil ?_
                              refine nx_then ?_
                              refine cd_ret ?_
                              refine rt_block ?_
                              refine rt_then ?_
                              refine rt_then ?_
                              refine rt_block ?_
                              refine rt_then ?_
                              refine res1 (v := .bool _) rfl rfl ?_
                              refine ⟨congrArg Value.bool ?_, hB⟩
                              rw [all_no hkx (okS_no (by omega)), Bool.and_false]
                         (try with_reducible first | replace Q7 := of_decide_eq_true Q7 | replace Q7 := of_decide_eq_false Q7 | replace Q7 := bn_t Q7 | replace Q7 := bn_f Q7)
                         (try with_reducible first | replace Q7 := of_decide_eq_true Q7 | replace Q7 := of_decide_eq_false Q7 | replace Q7 := bx_t Q7 | replace Q7 := bx_f Q7 | replace Q7 := be_t Q7 | replace Q7 := be_f Q7)
                         first
                          | (exfalso; first | omega | contradiction | (cases Q7; done))
                          | skip
                            refine cd_skip ?_
                            refine nx_block ?_
                            refine nx_then ?_
                            refine cd_region ?_
                            refine st_val (ro_add64 rfl rfl (by omega)) ?_
                            refine st_val (ro_move (v := .int _ _) rfl) ?_
                            refine st_nil ?_
                            refine nx_cut (k + 1) ⟨(by first | rfl | (refine int_eq ?_; omega)), trivial⟩ (by (iterate 26 refine agr_cons rfl ?_); exact agr_rfl) ⟨?_, ?_⟩
                            · exact ⟨by omega, all_take hkx hall (okS_yes (by omega) (by omega)), hB⟩
                            · show n - (k + 1) < n - k; omega
               (try with_reducible first | replace Q5 := of_decide_eq_true Q5 | replace Q5 := of_decide_eq_false Q5 | replace Q5 := bn_t Q5 | replace Q5 := bn_f Q5)
               (try with_reducible first | replace Q5 := of_decide_eq_true Q5 | replace Q5 := of_decide_eq_false Q5 | replace Q5 := bx_t Q5 | replace Q5 := bx_f Q5 | replace Q5 := be_t Q5 | replace Q5 := be_f Q5)
               first
                | (exfalso; first | omega | contradiction | (cases Q5; done))
                | skip
                  refine cd_exit ?_
                  refine ex_then ?_
                  refine ex_then ?_
                  refine ex_block ?_
                  refine nx_then ?_
                  refine cd_seq ?_
                  refine cd_region ?_
                  refine st_val (ro_assign (v := .bool _) rfl) ?_
                  refine st_nil ?_
                  refine nx_then ?_
                  refine cd_ret ?_
                  refine res1 (v := .bool _) rfl rfl ?_
                  refine ⟨congrArg Value.bool ?_, hB⟩
                  have h1 : k = xs.length := by omega
                  rw [decide_eq_true (by omega), Bool.true_and]
                  rw [h1, List.take_length] at hall
                  exact hall.symm
set_option maxRecDepth 100000 in
set_option maxHeartbeats 400000 in
theorem symbol_rt (a : Nat) (A : Option Addr) (c n : Nat) (B : List Nat) (r : Nat) (w : World) (hr : RowOf iV w A (cI B)) (hn : n = B.length) (ha : a ≤ n) (hrn : r ≤ n) (hra : r ≠ a) (hl : n ≤ 1000000) :
    Rt Try.prog 23 [.int .i64 (a : Nat), .slice A n c, .int .i64 (r : Nat)] w (fun v w' => v = .int .i64 ((B.getD (sy a r) 0 : Nat) : Int) ∧ From w w') := by
  obtain ⟨b, o, rfl, hc⟩ := rowD hr (by omega)
  refine enter (n := 19) Try.func23 rfl rfl rfl ?_
  refine cd_seq ?_
  refine cd_region ?_
  refine st_val (ro_assign (v := .int _ _) rfl) ?_
  refine st_nil ?_
  refine nx_then ?_
  refine cd_seq ?_
  refine cd_seq ?_
  refine cd_region ?_
  refine st_val (ro_move (v := .int _ _) rfl) ?_
  refine st_val (ro_move (v := .int _ _) rfl) ?_
  refine st_val (ro_gtr rfl rfl) ?_
  refine st_nil ?_
  refine nx_then ?_
  refine cd_cond rfl (fun Q1 => ?_) (fun Q1 => ?_)
  · (try first | replace Q1 := bn_t Q1 | replace Q1 := bn_f Q1)
    (try first | replace Q1 := bx_t Q1 | replace Q1 := bx_f Q1 | replace Q1 := be_t Q1 | replace Q1 := be_f Q1 | replace Q1 := of_decide_eq_true Q1 | replace Q1 := of_decide_eq_false Q1)
    first
     | (exfalso; first | omega | contradiction | (cases Q1; done))
     | skip
       refine cd_seq ?_
       refine cd_region ?_
       refine st_val (ro_move (v := .slice _ _ _) rfl) ?_
       refine st_val (ro_move (v := .int _ _) rfl) ?_
       refine st_val (ro_subN (b := 1) rfl rfl (by omega)) ?_
       refine st_val (ro_indexAddr1 BwtAhead_e24 rfl rfl (by omega)) ?_
       refine st_val (ro_load BwtAhead_g3 rfl (by exact cellF From.rfl_ (hc (r - 1) (by omega)))) ?_
       refine st_val (ro_assign (v := .int _ _) rfl) ?_
       refine st_nil ?_
       refine nx_then ?_
       refine cd_ret ?_
       refine rt_then ?_
       refine res1 (v := .int _ _) rfl rfl ?_
       exact ⟨by rw [sy_gt (by omega)], From.rfl_⟩
  (try first | replace Q1 := bn_t Q1 | replace Q1 := bn_f Q1)
  (try first | replace Q1 := bx_t Q1 | replace Q1 := bx_f Q1 | replace Q1 := be_t Q1 | replace Q1 := be_f Q1 | replace Q1 := of_decide_eq_true Q1 | replace Q1 := of_decide_eq_false Q1)
  first
   | (exfalso; first | omega | contradiction | (cases Q1; done))
   | skip
     refine cd_skip ?_
     refine nx_then ?_
     refine cd_seq ?_
     refine cd_region ?_
     refine st_val (ro_move (v := .slice _ _ _) rfl) ?_
     refine st_val (ro_move (v := .int _ _) rfl) ?_
     refine st_val (ro_indexAddr1 BwtAhead_e24 rfl rfl (by omega)) ?_
     refine st_val (ro_load BwtAhead_g3 rfl (by exact cellF From.rfl_ (hc r (by omega)))) ?_
     refine st_val (ro_assign (v := .int _ _) rfl) ?_
     refine st_nil ?_
     refine nx_then ?_
     refine cd_ret ?_
     refine res1 (v := .int _ _) rfl rfl ?_
     exact ⟨by rw [sy_le (by omega)], From.rfl_⟩
set_option maxRecDepth 100000 in
set_option maxHeartbeats 4000000 in
theorem ahead_rt (a : Nat) (A : Option Addr) (c n : Nat) (B : List Nat) (w : World) (hr : RowOf iV w A (cI B)) (hn : n = B.length) (ha : a ≤ n) (hl : n ≤ 131072) (hx : ∀ x ∈ B, x < 512) :
    Rt Try.prog 22 [.int .i64 (a : Nat), .slice A n c] w (fun v w' => (∃ g, v = .slice (some ⟨g, 0, none⟩) (n + 1) (n + 1) ∧ w.heap.size ≤ g ∧ Blk w' g 3 (tabI (n + 1) fun r => ((lf n (fun i => B.getD i 0) a r : Nat) : Int))) ∧ From w w') := by
  refine enter (n := 68) Try.func22 rfl rfl rfl ?_
  refine cd_seq ?_
  refine cd_region ?_
  refine st_val (ro_assign (v := .slice _ _ _) rfl) ?_
  refine st_nil ?_
  refine nx_then ?_
  refine cd_seq ?_
  refine cd_region ?_
  refine st_alloc BwtAhead_za47 ?_
  intro b5 w1 E5 hb5 hk5
  rw [BwtAhead_zc] at hk5
  have hg5 : w.heap.size ≤ b5 := by rw [hb5]; exact (From.rfl_).size
  refine st_nil ?_
  refine nx_then ?_
  refine cd_seq ?_
  refine cd_seq ?_
  refine cd_region ?_
  refine st_val (ro_move (v := .slice _ _ _) rfl) ?_
  refine st_val (ro_len BwtAhead_l24 rfl) ?_
  refine st_val (ro_move (v := .int _ _) rfl) ?_
  refine st_nil ?_
  refine nx_then ?_
  refine cd_block ?_
  refine cd_loop (G := Nat) [7, 15, 16, 17, 18, 19, 20, 21, 22, 23, 24] (fun i => [(14, .int .i64 (i : Nat))]) (fun i w' => i ≤ n ∧ Blk w' b5 47 (tabI 513 fun x => ((ctT (fun i => B.getD i 0) i x : Nat) : Int)) ∧ From w w') (fun i => n - i) (0) ⟨rfl, trivial⟩ ?_ ?_
  · exact ⟨Nat.zero_le _, by rw [tabI_congr (g := fun _ => 0) (fun x _ => by rw [ct_zero]; rfl), ← tabI_zero]; exact hk5, (From.rfl_.next E5)⟩
  rintro i ρ2 w2 ⟨hi, hT, hB⟩
  refine cd_seq ?_
  refine cd_region ?_
  refine st_val (ro_lss rfl rfl) ?_
  refine st_nil ?_
  refine nx_then ?_
  refine cd_seq ?_
  refine cd_cond rfl (fun Q3 => ?_) (fun Q3 => ?_)
  · (try with_reducible first | replace Q3 := of_decide_eq_true Q3 | replace Q3 := of_decide_eq_false Q3 | replace Q3 := bn_t Q3 | replace Q3 := bn_f Q3)
    (try with_reducible first | replace Q3 := of_decide_eq_true Q3 | replace Q3 := of_decide_eq_false Q3 | replace Q3 := bx_t Q3 | replace Q3 := bx_f Q3 | replace Q3 := be_t Q3 | replace Q3 := be_f Q3)
    obtain ⟨b, o, rfl, hc⟩ := rowD hr (by omega)
    have hs1 := symb_get hx i
    have hct := ct_le (b := fun i => B.getD i 0) i (B.getD i 0 + 1)
    first
     | (exfalso; first | omega | contradiction | (cases Q3; done))
     | skip
       refine cd_skip ?_
       refine nx_then ?_
       refine cd_seq ?_
       refine cd_block ?_
       refine cd_seq ?_
       refine cd_region ?_
       refine st_val (ro_indexAddr1 BwtAhead_e24 rfl rfl (by omega)) ?_
       refine st_val (ro_load BwtAhead_g3 rfl (by exact cellF hB (hc i (by omega)))) ?_
       refine st_val (ro_assign (v := .int _ _) rfl) ?_
       refine st_nil ?_
       refine nx_then ?_
       refine cd_region ?_
       refine st_val (ro_move (v := .int _ _) rfl) ?_
       refine st_val (ro_addN (b := 1) rfl rfl (by omega)) ?_
       refine st_val (ro_arr (i := B.getD i 0 + 1) BwtAhead_a47 rfl rfl (by omega)) ?_
       refine st_val (ro_load BwtAhead_g3 rfl (by exact hT.rd _ (tabI_at (by omega)))) ?_
       refine st_val (ro_addN (b := 1) rfl rfl (by omega)) ?_
       refine st_val (ro_arr (i := B.getD i 0 + 1) BwtAhead_a47 rfl rfl (by omega)) ?_
       refine st_put (v := .int _ _) BwtAhead_z3 rfl rfl rfl (hT) (by rw [tabI_size]; omega) ?_
       intro w4 O5 P5
       have P5b : Blk w4 b5 47 (tabI 513 fun x => ((ctT (fun i => B.getD i 0) (i + 1) x : Nat) : Int)) := by rw [← tabI_congr (fun x _ => ct_step rfl x), ← tabI_set]; exact P5
       refine st_nil ?_
       refine nx_block ?_
       refine nx_then ?_
       refine cd_region ?_
       refine st_val (ro_add64 rfl rfl (by omega)) ?_
       refine st_val (ro_move (v := .int _ _) rfl) ?_
       refine st_nil ?_
       refine nx_cut (i + 1) ⟨(by first | rfl | (refine int_eq ?_; omega)), trivial⟩ (by (iterate 24 refine agr_cons rfl ?_); exact agr_rfl) ⟨?_, ?_⟩
       · exact ⟨by omega, P5b.from_ From.rfl_, (hB.only O5 (hg5))⟩
       · show n - (i + 1) < n - i; omega
  (try with_reducible first | replace Q3 := of_decide_eq_true Q3 | replace Q3 := of_decide_eq_false Q3 | replace Q3 := bn_t Q3 | replace Q3 := bn_f Q3)
  (try with_reducible first | replace Q3 := of_decide_eq_true Q3 | replace Q3 := of_decide_eq_false Q3 | replace Q3 := bx_t Q3 | replace Q3 := bx_f Q3 | replace Q3 := be_t Q3 | replace Q3 := be_f Q3)
  obtain rfl : n = i := by omega
  first
   | (exfalso; first | omega | contradiction | (cases Q3; done))
   | skip
     refine cd_exit ?_
     refine ex_then ?_
     refine ex_then ?_
     refine ex_block ?_
     refine nx_then ?_
     refine cd_seq ?_
     refine cd_region ?_
     refine st_val (ro_arr0 BwtAhead_a47 rfl rfl (by omega)) ?_
     refine st_put (v := .int _ _) BwtAhead_z3 rfl rfl rfl (hT) (by rw [tabI_size]; omega) ?_
     intro w5 O7 P7
     have P7b : Blk w5 b5 47 (tabI 513 fun x => ((smT 1 n (fun i => B.getD i 0) 0 x : Nat) : Int)) := by rw [← tabI_congr (fun x _ => sm_one x), ← tabI_set]; exact P7
     refine st_nil ?_
     refine nx_then ?_
     refine cd_seq ?_
     refine cd_seq ?_
     refine cd_region ?_
     refine st_val (ro_move (v := .int _ _) rfl) ?_
     refine st_nil ?_
     refine nx_then ?_
     refine cd_block ?_
     refine cd_loop (G := Nat) [8, 27, 28, 29, 30, 31, 32, 33, 34, 35, 36, 37, 38] (fun c => [(26, .int .i64 (c : Nat))]) (fun c w' => c ≤ 512 ∧ Blk w' b5 47 (tabI 513 fun x => ((smT 1 n (fun i => B.getD i 0) c x : Nat) : Int)) ∧ From w w') (fun c => 512 - c) (0) ⟨rfl, trivial⟩ ?_ ?_
     · exact ⟨Nat.zero_le _, P7b.from_ From.rfl_, (hB.only O7 (hg5))⟩
     rintro k ρ6 w6 ⟨hk, hT, hB⟩
     refine cd_seq ?_
     refine cd_region ?_
     refine st_val (ro_lss rfl rfl) ?_
     refine st_nil ?_
     refine nx_then ?_
     refine cd_seq ?_
     refine cd_cond rfl (fun Q7 => ?_) (fun Q7 => ?_)
     · (try with_reducible first | replace Q7 := of_decide_eq_true Q7 | replace Q7 := of_decide_eq_false Q7 | replace Q7 := bn_t Q7 | replace Q7 := bn_f Q7)
       (try with_reducible first | replace Q7 := of_decide_eq_true Q7 | replace Q7 := of_decide_eq_false Q7 | replace Q7 := bx_t Q7 | replace Q7 := bx_f Q7 | replace Q7 := be_t Q7 | replace Q7 := be_f Q7)
       have ho1 := occ_le (b := fun i => B.getD i 0) n k
       have hl1 := les_le (n := n) (b := fun i => B.getD i 0) k
       first
        | (exfalso; first | omega | contradiction | (cases Q7; done))
        | skip
          refine cd_skip ?_
          refine nx_then ?_
          refine cd_seq ?_
          refine cd_block ?_
          refine cd_seq ?_
          refine cd_region ?_
          refine st_val (ro_move (v := .int _ _) rfl) ?_
          refine st_val (ro_assign (v := .int _ _) rfl) ?_
          refine st_nil ?_
          refine nx_then ?_
          apply cd_drawn 9 [(29, eqp _), (30, eqp _), (31, eqp _), (32, eqp _), (33, eqp _), (34, eqp _), (35, eqp _), (36, eqp _), (37, eqp _)] (by kernel_rfl) (by kernel_rfl) ⟨eqp_mono _, eqp_mono _, eqp_mono _, eqp_mono _, eqp_mono _, eqp_mono _, eqp_mono _, eqp_mono _, eqp_mono _, trivial⟩
          case hop =>
           refine ⟨?_, ?_⟩
           · intro w9 D9
             show OpOK _ _ _ _ _ _ _
             exact ok_pure (ro_move (v := .int _ _) rfl) rfl
           refine ⟨?_, ?_⟩
           · intro w10 D10
             rintro _ rfl
             show OpOK _ _ _ _ _ _ _
             exact ok_pure (ro_addN (b := 1) rfl rfl (by omega)) rfl
           refine ⟨?_, ?_⟩
           · intro w11 D11
             rintro _ rfl
             show OpOK _ _ _ _ _ _ _
             exact ok_pure (ro_arr (i := k + 1) BwtAhead_a47 rfl rfl (by omega)) rfl
           refine ⟨?_, ?_⟩
           · intro w12 D12
             rintro _ rfl
             show OpOK _ _ _ _ _ _ _
             exact ok_pure (ro_load BwtAhead_g3 rfl (by exact (hT.from_ (From.rfl_.next D12)).rd _ (by rw [tabI_at (by omega), sm_nx]))) rfl
           refine ⟨?_, ?_⟩
           · intro w13 D13
             show OpOK _ _ _ _ _ _ _
             exact ok_pure (ro_move (v := .int _ _) rfl) rfl
           refine ⟨?_, ?_⟩
           · intro w14 D14
             rintro _ rfl
             show OpOK _ _ _ _ _ _ _
             exact ok_pure (ro_arr (i := k) BwtAhead_a47 rfl rfl (by omega)) rfl
           refine ⟨?_, ?_⟩
           · intro w15 D15
             rintro _ rfl
             show OpOK _ _ _ _ _ _ _
             exact ok_pure (ro_load BwtAhead_g3 rfl (by exact (hT.from_ (From.rfl_.next D15)).rd _ (by rw [tabI_at (by omega), sm_at]))) rfl
           refine ⟨?_, ?_⟩
           · intro w16 D16
             rintro _ rfl _ rfl
             show OpOK _ _ _ _ _ _ _
             exact ok_pure (ro_addN rfl rfl (by omega)) rfl
           refine ⟨?_, ?_⟩
           · intro w17 D17
             rintro _ rfl
             show OpOK _ _ _ _ _ _ _
             exact ok_pure (ro_arr (i := k + 1) BwtAhead_a47 rfl rfl (by omega)) rfl
           exact trivial
          case hend =>
           intro w18 D18
           rintro _ rfl _ rfl _ rfl _ rfl _ rfl _ rfl _ rfl _ rfl _ rfl
           show St _ _ _ _ _ _ _
           refine st_put (v := .int _ _) BwtAhead_z3 rfl rfl rfl ((hT.from_ (From.rfl_.next D18))) (by rw [tabI_size]; omega) ?_
           intro w19 O11 P11
           have P11b : Blk w19 b5 47 (tabI 513 fun x => ((smT 1 n (fun i => B.getD i 0) (k + 1) x : Nat) : Int)) := by rw [← tabI_congr (fun x _ => sm_step x), ← tabI_set]; exact P11
           refine st_nil ?_
           refine nx_block ?_
           refine nx_then ?_
           refine cd_region ?_
           refine st_val (ro_add64 rfl rfl (by omega)) ?_
           refine st_val (ro_move (v := .int _ _) rfl) ?_
           refine st_nil ?_
           refine nx_cut (k + 1) ⟨(by first | rfl | (refine int_eq ?_; omega)), trivial⟩ (by (iterate 28 refine agr_cons rfl ?_); exact agr_rfl) ⟨?_, ?_⟩
           · exact ⟨by omega, P11b.from_ From.rfl_, ((hB.next D18).only O11 (hg5))⟩
           · show 512 - (k + 1) < 512 - k; omega
     (try with_reducible first | replace Q7 := of_decide_eq_true Q7 | replace Q7 := of_decide_eq_false Q7 | replace Q7 := bn_t Q7 | replace Q7 := bn_f Q7)
     (try with_reducible first | replace Q7 := of_decide_eq_true Q7 | replace Q7 := of_decide_eq_false Q7 | replace Q7 := bx_t Q7 | replace Q7 := bx_f Q7 | replace Q7 := be_t Q7 | replace Q7 := be_f Q7)
     have hT512 : Blk w6 b5 47 (tabI 513 fun x => ((smT 1 n (fun i => B.getD i 0) 512 x : Nat) : Int)) := by rw [show k = 512 by omega] at hT; exact hT
     first
      | (exfalso; first | omega | contradiction | (cases Q7; done))
      | skip
        refine cd_exit ?_
        refine ex_then ?_
        refine ex_then ?_
        refine ex_block ?_
        refine nx_then ?_
        refine cd_seq ?_
        refine cd_region ?_
        refine st_val (ro_move (v := .slice _ _ _) rfl) ?_
        refine st_val (ro_len BwtAhead_l24 rfl) ?_
        refine st_val (ro_addN (b := 1) rfl rfl (by omega)) ?_
        refine st_make BwtAhead_m24 rfl rfl rfl (by omega) (by omega) ?_
        intro b42 w20 E42 hb42 hk42
        have hg42 : w.heap.size ≤ b42 := by rw [hb42]; exact (hB).size
        have h542 : b5 < b42 := by rw [hb42]; exact hT512.lt
        refine st_val (ro_assign (v := .slice _ _ _) rfl) ?_
        refine st_nil ?_
        refine nx_then ?_
        refine cd_seq ?_
        refine cd_seq ?_
        refine cd_region ?_
        refine st_val (ro_move (v := .slice _ _ _) rfl) ?_
        refine st_val (ro_len BwtAhead_l24 rfl) ?_
        refine st_val (ro_move (v := .int _ _) rfl) ?_
        refine st_nil ?_
        refine nx_then ?_
        refine cd_block ?_
        refine cd_loop (G := Nat) [10, 11, 46, 47, 48, 49, 50, 51, 52, 53, 54, 55, 56, 57, 58, 59, 60, 61, 62, 63, 64, 65, 66] (fun k => [(45, .int .i64 (k : Nat))]) (fun k w' => k ≤ n + 1 ∧ Blk w' b5 47 (tabI 513 fun x => ((frT 1 n (fun i => B.getD i 0) (sy a k) x : Nat) : Int)) ∧ Blk w' b42 3 (tabI (n + 1) fun r => ((nxT n (fun i => B.getD i 0) a k r : Nat) : Int)) ∧ From w w') (fun k => n + 1 - k) (0) ⟨rfl, trivial⟩ ?_ ?_
        · exact ⟨Nat.zero_le _, by rw [sy_zero, ← tabI_congr (fun x hx => fr_zero hx)]; exact hT512.from_ (From.rfl_.next E42), by rw [tabI_congr (g := fun _ => 0) (fun x _ => by rw [nx_zero]; rfl), ← tabI_zero]; exact hk42, (hB.next E42)⟩
        rintro k ρ21 w21 ⟨hk, hT, hN, hB⟩
        refine cd_seq ?_
        refine cd_region ?_
        refine st_val (ro_lss rfl rfl) ?_
        refine st_nil ?_
        refine nx_then ?_
        refine cd_seq ?_
        refine cd_cond rfl (fun Q22 => ?_) (fun Q22 => ?_)
        · (try with_reducible first | replace Q22 := of_decide_eq_true Q22 | replace Q22 := of_decide_eq_false Q22 | replace Q22 := bn_t Q22 | replace Q22 := bn_f Q22)
          (try with_reducible first | replace Q22 := of_decide_eq_true Q22 | replace Q22 := of_decide_eq_false Q22 | replace Q22 := bx_t Q22 | replace Q22 := bx_f Q22 | replace Q22 := be_t Q22 | replace Q22 := be_f Q22)
          first
           | (exfalso; first | omega | contradiction | (cases Q22; done))
           | skip
             refine cd_skip ?_
             refine nx_then ?_
             refine cd_cut (G := Unit) [10, 11, 47, 48, 49, 50, 51, 52, 53, 54, 55, 56, 57, 58, 59, 60, 61, 62, 63, 64, 65] (fun _ => []) (fun _ w' => Blk w' b5 47 (tabI 513 fun x => ((frT 1 n (fun i => B.getD i 0) (sy a (k + 1)) x : Nat) : Int)) ∧ Blk w' b42 3 (tabI (n + 1) fun r => ((nxT n (fun i => B.getD i 0) a (k + 1) r : Nat) : Int)) ∧ From w w') ?_ ?_
             · refine cd_block ?_
               refine cd_seq ?_
               refine cd_region ?_
               refine st_val (ro_move (v := .int _ _) rfl) ?_
               refine st_val (ro_assign (v := .int _ _) rfl) ?_
               refine st_nil ?_
               refine nx_then ?_
               refine cd_seq ?_
               refine cd_seq ?_
               refine cd_region ?_
               refine st_val (ro_move (v := .int _ _) rfl) ?_
               refine st_val (ro_move (v := .int _ _) rfl) ?_
               refine st_val (ro_eql rfl rfl) ?_
               refine st_nil ?_
               refine nx_then ?_
               refine cd_cond rfl (fun Q23 => ?_) (fun Q23 => ?_)
               · (try with_reducible first | replace Q23 := of_decide_eq_true Q23 | replace Q23 := of_decide_eq_false Q23 | replace Q23 := bn_t Q23 | replace Q23 := bn_f Q23)
                 (try with_reducible first | replace Q23 := of_decide_eq_true Q23 | replace Q23 := of_decide_eq_false Q23 | replace Q23 := bx_t Q23 | replace Q23 := bx_f Q23 | replace Q23 := be_t Q23 | replace Q23 := be_f Q23)
                 first
                  | (exfalso; first | omega | contradiction | (cases Q23; done))
                  | skip
                    refine cd_exit ?_
                    refine ex_then ?_
                    refine ex_block ?_
                    refine nx_cut (()) trivial (by (iterate 5 refine agr_cons rfl ?_); exact agr_rfl) ?_
                    exact ⟨by rw [show k = a by omega, sy_next]; rw [show k = a by omega, sy_self] at hT; exact hT.from_ From.rfl_, by rw [show k = a by omega, tabI_congr (fun x _ => by rw [nx_skip])]; rw [show k = a by omega] at hN; exact hN.from_ From.rfl_, hB⟩
               (try with_reducible first | replace Q23 := of_decide_eq_true Q23 | replace Q23 := of_decide_eq_false Q23 | replace Q23 := bn_t Q23 | replace Q23 := bn_f Q23)
               (try with_reducible first | replace Q23 := of_decide_eq_true Q23 | replace Q23 := of_decide_eq_false Q23 | replace Q23 := bx_t Q23 | replace Q23 := bx_f Q23 | replace Q23 := be_t Q23 | replace Q23 := be_f Q23)
               have hka : k ≠ a := by omega
               have hs1 := symb_get hx (sy a k)
               have hv := lf_val (n := n) (b := fun i => B.getD i 0) ha (show k ≤ n by omega) hka rfl
               have ho1 := occ_le (b := fun i => B.getD i 0) (sy a k) (B.getD (sy a k) 0)
               have hl1 := les_le (n := n) (b := fun i => B.getD i 0) (B.getD (sy a k) 0)
               have hsl := sy_lt (n := n) ha (show k ≤ n by omega) hka
               first
                | (exfalso; first | omega | contradiction | (cases Q23; done))
                | skip
                  refine cd_skip ?_
                  refine nx_then ?_
                  refine cd_seq ?_
                  refine cd_region ?_
                  refine st_val (ro_move (v := .int _ _) rfl) ?_
                  refine st_val (ro_move (v := .slice _ _ _) rfl) ?_
                  refine st_val (ro_move (v := .int _ _) rfl) ?_
                  refine st_call BwtAhead_k23 (symbol_rt a A c n B k _ (hr.from_ hB) hn ha (by omega) hka (by omega)) ?_
                  rintro v54 w24 ⟨rfl, E54⟩
                  refine st_val (ro_assign (v := .int _ _) rfl) ?_
                  refine st_nil ?_
                  refine nx_then ?_
                  refine cd_seq ?_
                  refine cd_region ?_
                  refine st_val (ro_move (v := .slice _ _ _) rfl) ?_
                  refine st_val (ro_move (v := .int _ _) rfl) ?_
                  refine st_val (ro_move (v := .int _ _) rfl) ?_
                  refine st_val (ro_arr (i := B.getD (sy a k) 0) BwtAhead_a47 rfl rfl (by omega)) ?_
                  refine st_val (ro_load BwtAhead_g3 rfl (by exact (hT.from_ (From.rfl_.next E54)).rd _ (by rw [tabI_at (by omega), fr_at hs1]))) ?_
                  refine st_val (ro_indexAddr0 BwtAhead_e24 rfl rfl (by omega)) ?_
                  refine st_put (v := .int _ _) BwtAhead_z3 rfl rfl rfl ((hN.from_ (From.rfl_.next E54))) (by rw [tabI_size]; omega) ?_
                  intro w25 O19 P19
                  have hT19 := (hT.from_ E54).only O19 (by omega)
                  have N19 : Blk w25 b42 3 (tabI (n + 1) fun r => ((nxT n (fun i => B.getD i 0) a (k + 1) r : Nat) : Int)) := by rw [← tabI_congr (fun x _ => nx_step hv x), ← tabI_set]; exact P19
                  refine st_nil ?_
                  refine nx_then ?_
                  refine cd_region ?_
                  refine st_val (ro_move (v := .int _ _) rfl) ?_
                  refine st_val (ro_arr (i := B.getD (sy a k) 0) BwtAhead_a47 rfl rfl (by omega)) ?_
                  refine st_val (ro_load BwtAhead_g3 rfl (by exact (hT19.from_ From.rfl_).rd _ (by rw [tabI_at (by omega), fr_at hs1]))) ?_
                  refine st_val (ro_addN (b := 1) rfl rfl (by omega)) ?_
                  refine st_val (ro_arr (i := B.getD (sy a k) 0) BwtAhead_a47 rfl rfl (by omega)) ?_
                  refine st_put (v := .int _ _) BwtAhead_z3 rfl rfl rfl (hT19) (by rw [tabI_size]; omega) ?_
                  intro w26 O20 P20
                  have P20b : Blk w26 b5 47 (tabI 513 fun x => ((frT 1 n (fun i => B.getD i 0) (sy a k + 1) x : Nat) : Int)) := by rw [← tabI_congr (fun x _ => fr_step (o := 1) (n := n) (b := fun i => B.getD i 0) (i := sy a k) rfl hs1 x), ← tabI_set]; exact P20
                  have N20 := N19.only O20 (by omega)
                  refine st_nil ?_
                  refine nx_block ?_
                  refine nx_cut (()) trivial (by (iterate 21 refine agr_cons rfl ?_); exact agr_rfl) ?_
                  exact ⟨by rw [sy_succ hka]; exact P20b.from_ From.rfl_, N20.from_ From.rfl_, (((hB.next E54).only O19 (hg42)).only O20 (hg5))⟩
             rintro ⟨⟩ ρ27 w27 ⟨hT', hN', hB⟩
             refine cd_region ?_
             refine st_val (ro_add64 rfl rfl (by omega)) ?_
             refine st_val (ro_move (v := .int _ _) rfl) ?_
             refine st_nil ?_
             refine nx_cut (k + 1) ⟨(by first | rfl | (refine int_eq ?_; omega)), trivial⟩ (by (iterate 48 refine agr_cons rfl ?_); exact agr_rfl) ⟨?_, ?_⟩
             · exact ⟨by omega, hT'.from_ From.rfl_, hN'.from_ From.rfl_, hB⟩
             · show n + 1 - (k + 1) < n + 1 - k; omega
        (try with_reducible first | replace Q22 := of_decide_eq_true Q22 | replace Q22 := of_decide_eq_false Q22 | replace Q22 := bn_t Q22 | replace Q22 := bn_f Q22)
        (try with_reducible first | replace Q22 := of_decide_eq_true Q22 | replace Q22 := of_decide_eq_false Q22 | replace Q22 := bx_t Q22 | replace Q22 := bx_f Q22 | replace Q22 := be_t Q22 | replace Q22 := be_f Q22)
        first
         | (exfalso; first | omega | contradiction | (cases Q22; done))
         | skip
           refine cd_exit ?_
           refine ex_then ?_
           refine ex_then ?_
           refine ex_block ?_
           refine nx_then ?_
           refine cd_seq ?_
           refine cd_region ?_
           refine st_val (ro_move (v := .slice _ _ _) rfl) ?_
           refine st_val (ro_assign (v := .slice _ _ _) rfl) ?_
           refine st_nil ?_
           refine nx_then ?_
           refine cd_ret ?_
           refine res1 (v := .slice _ _ _) rfl rfl ?_
           obtain rfl : k = n + 1 := by omega
           refine ⟨⟨b42, rfl, hg42, ?_⟩, hB⟩
           rw [tabI_congr (g := fun r => ((nxT n (fun i => B.getD i 0) a (n + 1) r : Nat) : Int)) (fun x hx => by rw [nx_all hx])]
           exact hN.from_ From.rfl_
end Go.Proofs.Ytpafbgdbjambgaa

namespace Go.Proofs.Ytpafbgdbjambgaa
open Go.RowKit
open Go.ChangeShapes Go.WideShapes Go.ChangeAt
open Go.Proofs.Ytpafbgdbjambgaa.SA
theorem BwtMake_e24 : elemQ Try.prog 24 = some (3, 1) := by kernel_rfl
theorem BwtMake_m24 : makeQ Try.prog 24 = some (3, 8, (.int .i64 0)) := by kernel_rfl
theorem BwtMake_q24 : litQ Try.prog 24 = some (3, 1, 8, (.int .i64 0)) := by kernel_rfl
theorem BwtMake_k19 : callable Try.prog 19 = true := by kernel_rfl
theorem BwtMake_l24 : (elemQ Try.prog 24).isSome = true := by kernel_rfl
theorem BwtMake_g3 : aggQ Try.prog 3 = some false := by kernel_rfl
section
variable {P : Program} {ρ : Operand → Value} {w : World} {t : TypeId} {x y : Operand}
/-- room for later -/
theorem ro_make0 {e by_ m : Nat} {z : Value} {kl kc : IntKind} (ht : makeQ P t = some (e, by_, z)) (hz : z.cells = #[z]) (hx : ρ x = .int kl 0) (hy : ρ y = .int kc (m : Nat)) (hm : m ≤ 9223372036854775807) (hb : by_ * m ≤ 281474976710656) :
    ∃ cs : Array Value, cs.size = m ∧ RO P ρ (.makeSlice t x y) w (.slice (some ⟨w.heap.size, 0, none⟩) 0 m) (w.alloc (.cells cs e)) := by
  unfold makeQ at ht
  split at ht
  · rename_i e' hu
    cases hi : P.info? e' with
    | none => simp [hi] at ht
    | some i =>
      rw [hi] at ht
      simp only [Option.bind_some] at ht
      split at ht
      · rename_i hs
        cases hzz : i.zero with
        | none => simp [hzz] at ht
        | some z' =>
          simp only [hzz, Option.map_some, Option.some.injEq, Prod.mk.injEq] at ht
          obtain ⟨rfl, rfl, rfl⟩ := ht
          have hr := run_make (P := P) w t e' i z' hu hi hzz kl kc 0 (m : Int) (by omega) (by omega) (by
            have : ((i.bytes * m : Nat) : Int) ≤ 281474976710656 := by omega
            rwa [Int.natCast_mul] at this) (by omega)
          rw [Int.toNat_natCast] at hr
          exact ⟨madeCells z'.cells (m * i.size), by simp [madeCells, hs], fun _ _ _ _ _ => by simp [execOp, hx, hy, hr]⟩
      · cases ht
  · cases ht
end
theorem ok_make0 {P : Program} {ρ : Operand → Value} {w : World} {t : TypeId} {x y : Operand} {e by_ m base : Nat} {z : Value} {kl kc : IntKind} (ht : makeQ P t = some (e, by_, z)) (hz : z.cells = #[z]) (hx : ρ x = .int kl 0) (hy : ρ y = .int kc (m : Nat)) (hm : m ≤ 9007199254740992) (hb : by_ * m ≤ 281474976710656) (hbs : base ≤ w.heap.size) :
    ∃ v w', RO P ρ (.makeSlice t x y) w v w' ∧ From w w' ∧ ∃ g, v = .slice (some ⟨g, 0, none⟩) 0 m ∧ w'.ownsRow base e 1 (.slice (some ⟨g, 0, none⟩) 0 m) 0 [] := by
  obtain ⟨cs, h1, h2⟩ := ro_make0 (w := w) ht hz hx hy (by omega) hb
  exact ⟨_, _, h2, From.rfl_.new _, _, rfl, by simp, .inr ⟨_, m, cs, rfl, hbs, heap_alloc_new _ _, Nat.zero_le _, by unfold maxLen; omega, by simpa using h1, by simp⟩⟩
theorem ok_ex {P : Program} {ops : Array Oper} {n : Fr} {L : List (Nat × Value)} {w : World} {d : Nat} {op : Op} {ty : TypeId} {pos : String} {after : Array Edge} {R : Value → World → Prop} (h : ∃ v w', RO P (ev n L) op w v w' ∧ From w w' ∧ R v w') : OpOK P ops n L ⟨d, op, ty, pos, after, none⟩ w R := by
  obtain ⟨v, w', a, b, c⟩ := h
  exact ok_val a b c
/-- what Make tells -/
def MakeA (w' : World) (base : Nat) (xs : List Int) (v : Value) : Prop :=
  (xs.all (okS 512) = false ∧ v = .tuple #[.slice none 0 0, .int .i64 0, .int .i64 1]) ∨
  (∃ L B a A' c', xs = cI L ∧ (∀ x ∈ L, x < 512) ∧ IsBw L B a ∧ v = .tuple #[.slice A' B.length c', .int .i64 (a : Nat), .int .i64 0] ∧ w'.ownsRow base 3 1 (.slice A' B.length c') B.length ((cI B).map iV))
theorem bw_nil : IsBw [] [] 0 := ⟨rfl, (rank_n []).symm, fun i hi hi2 => absurd hi2 (by simp; omega)⟩
theorem cI_push {B : List Nat} {x : Nat} : (cI (B ++ [x])).map iV = (cI B).map iV ++ [iV ((x : Nat) : Int)] := by simp [cI]
theorem rowS_cons {L F : List Nat} (i : Nat) : (L.length :: F).getD i 0 = rowS L F i := by
  cases i with
  | zero => rfl
  | succ i => rw [rowS_succ]; rfl
theorem SA.BwT.len_le {L F B : List Nat} {m a : Nat} (h : BwT L F m B a) : B.length ≤ m := by
  by_cases h0 : L = []
  · rw [(h.nil h0).1]; exact Nat.zero_le _
  · rcases Nat.eq_zero_or_pos a with e | e
    · rw [(h.no h0 e).1]; exact Nat.le_refl _
    · have := (h.yes h0 e).2.2.1; omega
set_option maxRecDepth 100000 in
set_option maxHeartbeats 4000000 in
theorem make_rt (A : Option Addr) (c n : Nat) (xs : List Int) (w : World) (hr : RowOf iV w A xs) (hn : n = xs.length) (hl : n ≤ 131072) :
    Rt Try.prog 9 [.slice A n c] w (fun v w' => MakeA w' w.heap.size xs v ∧ From w w') := by
  refine enter (n := 54) Try.func9 rfl rfl rfl ?_
  refine cd_seq ?_
  refine cd_region ?_
  refine st_val (ro_assign (v := .slice _ _ _) rfl) ?_
  refine st_val (ro_assign (v := .int _ _) rfl) ?_
  refine st_val (ro_assign (v := .int _ _) rfl) ?_
  refine st_nil ?_
  refine nx_then ?_
  refine cd_seq ?_
  refine cd_region ?_
  refine st_val (ro_move (v := .slice _ _ _) rfl) ?_
  refine st_call BwtMake_k19 (sort_rt A c n xs _ (hr.from_ From.rfl_) hn hl) ?_
  rintro v10 w1 ⟨hs10, E10⟩
  rcases hs10 with ⟨hbad, rfl⟩ | ⟨Ln, F, A', hLn, hlt, hSA, rfl, ho10⟩
  · refine st_val (ro_move (v := .tuple _) rfl) ?_
    refine st_val (ro_extract rfl rfl) ?_
    refine st_val (ro_extract rfl rfl) ?_
    refine st_val (ro_assign (v := .slice _ _ _) rfl) ?_
    refine st_val (ro_assign (v := .int _ _) rfl) ?_
    refine st_nil ?_
    refine nx_then ?_
    refine cd_seq ?_
    refine cd_seq ?_
    refine cd_region ?_
    refine st_val (ro_move (v := .int _ _) rfl) ?_
    refine st_val (ro_neq rfl rfl) ?_
    refine st_val (ro_move (v := .bool _) rfl) ?_
    refine st_split (t := 15) rfl (fun Q2 => ?_) (fun Q2 => ?_)
    · (try with_reducible first | replace Q2 := of_decide_eq_true Q2 | replace Q2 := of_decide_eq_false Q2 | replace Q2 := bn_t Q2 | replace Q2 := bn_f Q2)
      (try with_reducible first | replace Q2 := of_decide_eq_true Q2 | replace Q2 := of_decide_eq_false Q2 | replace Q2 := bx_t Q2 | replace Q2 := bx_f Q2 | replace Q2 := be_t Q2 | replace Q2 := be_f Q2)
      first
       | (exfalso; first | omega | contradiction | (cases Q2; done))
       | skip
         refine st_gno rfl rfl ?_
         refine st_gno rfl rfl ?_
         refine st_gno rfl rfl ?_
         refine st_val (ro_pickT (v := .bool _) rfl rfl) ?_
         refine st_nil ?_
         refine nx_then ?_
         refine cd_condT rfl ?_
         refine cd_seq ?_
         refine cd_region ?_
         refine st_val (ro_move (v := .int _ _) rfl) ?_
         refine st_val (ro_assign (v := .slice _ _ _) rfl) ?_
         refine st_val (ro_assign (v := .int _ _) rfl) ?_
         refine st_val (ro_assign (v := .int _ _) rfl) ?_
         refine st_nil ?_
         refine nx_then ?_
         refine cd_ret ?_
         refine rt_then ?_
         refine res3 (v := .slice _ _ _) (v' := .int _ _) (v'' := .int _ _) rfl rfl rfl rfl ?_
         first
           | exact ⟨.inl ⟨hbad, rfl⟩, (From.rfl_.next E10)⟩
           | (obtain rfl : Ln = [] := List.eq_nil_of_length_eq_zero (by omega)
              exact ⟨.inr ⟨[], [], 0, none, 0, hLn, hlt, bw_nil, rfl, World.ownsRow_nil _ _ _ _⟩, (From.rfl_.next E10)⟩)
    · (try with_reducible first | replace Q2 := of_decide_eq_true Q2 | replace Q2 := of_decide_eq_false Q2 | replace Q2 := bn_t Q2 | replace Q2 := bn_f Q2)
      (try with_reducible first | replace Q2 := of_decide_eq_true Q2 | replace Q2 := of_decide_eq_false Q2 | replace Q2 := bx_t Q2 | replace Q2 := bx_f Q2 | replace Q2 := be_t Q2 | replace Q2 := be_f Q2)
      first
       | (exfalso; first | omega | contradiction | (cases Q2; done))
       | skip
         refine st_unguard rfl ?_
         refine st_val (ro_move (v := .slice _ _ _) rfl) ?_
         refine st_unguard rfl ?_
         refine st_val (ro_len BwtMake_l24 rfl) ?_
         refine st_unguard rfl ?_
         refine st_val (ro_eql rfl rfl) ?_
         refine st_val (ro_pickF (v := .bool _) rfl rfl) ?_
         refine st_nil ?_
         refine nx_then ?_
         refine cd_cond rfl (fun Q3 => ?_) (fun Q3 => ?_)
         · (try with_reducible first | replace Q3 := of_decide_eq_true Q3 | replace Q3 := of_decide_eq_false Q3 | replace Q3 := bn_t Q3 | replace Q3 := bn_f Q3)
           (try with_reducible first | replace Q3 := of_decide_eq_true Q3 | replace Q3 := of_decide_eq_false Q3 | replace Q3 := bx_t Q3 | replace Q3 := bx_f Q3 | replace Q3 := be_t Q3 | replace Q3 := be_f Q3)
           first
            | (exfalso; first | omega | contradiction | (cases Q3; done))
            | skip
              refine cd_seq ?_
              refine cd_region ?_
              refine st_val (ro_move (v := .int _ _) rfl) ?_
              refine st_val (ro_assign (v := .slice _ _ _) rfl) ?_
              refine st_val (ro_assign (v := .int _ _) rfl) ?_
              refine st_val (ro_assign (v := .int _ _) rfl) ?_
              refine st_nil ?_
              refine nx_then ?_
              refine cd_ret ?_
              refine rt_then ?_
              refine res3 (v := .slice _ _ _) (v' := .int _ _) (v'' := .int _ _) rfl rfl rfl rfl ?_
              first
                | exact ⟨.inl ⟨hbad, rfl⟩, (From.rfl_.next E10)⟩
                | (obtain rfl : Ln = [] := List.eq_nil_of_length_eq_zero (by omega)
                   exact ⟨.inr ⟨[], [], 0, none, 0, hLn, hlt, bw_nil, rfl, World.ownsRow_nil _ _ _ _⟩, (From.rfl_.next E10)⟩)
         (try with_reducible first | replace Q3 := of_decide_eq_true Q3 | replace Q3 := of_decide_eq_false Q3 | replace Q3 := bn_t Q3 | replace Q3 := bn_f Q3)
         (try with_reducible first | replace Q3 := of_decide_eq_true Q3 | replace Q3 := of_decide_eq_false Q3 | replace Q3 := bx_t Q3 | replace Q3 := bx_f Q3 | replace Q3 := be_t Q3 | replace Q3 := be_f Q3)
         obtain ⟨bl, ol, rfl, hcl⟩ := rowD hrL (by omega)
         obtain ⟨bF, oF, rfl, hcF⟩ := rowD hrF (by omega)
         have hfirst : BwT Ln F 1 [Ln.getD (n - 1) 0] 0 := by
           have := BwT.zero.push hSA (Nat.zero_le _) (by rw [rowS_zero]; omega)
           rw [rowS_zero, hLl] at this
           exact this
         have hFz : From w1 w1 := From.rfl_
         have hT : BwT Ln F 0 [] 0 := BwT.zero
         first
          | (exfalso; first | omega | contradiction | (cases Q3; done))
          | skip
            refine cd_skip ?_
            refine nx_then ?_
            refine cd_seq ?_
            apply cd_mu 11 10 [23, 30] [(21, eqp _), (22, eqp _), (23, fun v w' => ∃ g, v = .slice (some ⟨g, 0, none⟩) 0 n ∧ w'.ownsRow w1.heap.size 3 1 (.slice (some ⟨g, 0, none⟩) 0 n) 0 []), (24, eqp _), (25, eqp _), (26, eqp _), (27, eqp _), (28, eqp _), (29, eqp _), (30, fun v w' => ∃ g, v = .slice (some ⟨g, 0, none⟩) 1 1 ∧ Blk w' g 3 #[.int .i64 ((Ln.getD (n - 1) 0 : Nat) : Int)]), (31, fun v w' => ∃ A3 c3, v = .slice A3 1 c3 ∧ w'.ownsRow w1.heap.size 3 1 (.slice A3 1 c3) 1 [iV ((Ln.getD (n - 1) 0 : Nat) : Int)])] (fun w' => From w1 w') (fun w' => From w1 w') (by repeat first | exact pq_body | refine pq_then ?_ | refine pq_block ?_) (by kernel_rfl) (by kernel_rfl) (by kernel_rfl) ⟨eqp_mono _, eqp_mono _, (fun _ _ _ hF ⟨g, h1, h2⟩ => ⟨g, h1, h2.kept_from hF⟩), eqp_mono _, eqp_mono _, eqp_mono _, eqp_mono _, eqp_mono _, eqp_mono _, (fun _ _ _ hF ⟨g, h1, h2⟩ => ⟨g, h1, h2.from_ hF⟩), (fun _ _ _ hF ⟨A2, c2, h1, h2⟩ => ⟨A2, c2, h1, h2.kept_from hF⟩), trivial⟩ (From.rfl_.d1) (From.rfl_.d1) (fun _ _ hF h => h.next hF) (fun _ _ hF h => h.next hF)
            case hop =>
             refine ⟨?_, ?_⟩
             · rintro - w5 D5
               show OpOK _ _ _ _ _ _ _
               exact ok_pure (ro_move (v := .slice _ _ _) rfl) rfl
             refine ⟨?_, ?_⟩
             · rintro - w6 D6
               rintro _ rfl
               show OpOK _ _ _ _ _ _ _
               exact ok_pure (ro_len BwtMake_l24 rfl) rfl
             refine ⟨?_, ?_⟩
             · rintro - w7 D7
               rintro _ rfl
               show OpOK _ _ _ _ _ _ _
               refine ok_ex (ok_make0 (m := n) (base := w1.heap.size) BwtMake_m24 rfl rfl rfl (by omega) (by omega) D7.size)
             refine ⟨?_, ?_⟩
             · rintro - w8 D8
               show OpOK _ _ _ _ _ _ _
               exact ok_pure (ro_move (v := .slice _ _ _) rfl) rfl
             refine ⟨?_, ?_⟩
             · rintro - w9 D9
               show OpOK _ _ _ _ _ _ _
               exact ok_pure (ro_move (v := .slice _ _ _) rfl) rfl
             refine ⟨?_, ?_⟩
             · rintro - w10 D10
               rintro _ rfl
               show OpOK _ _ _ _ _ _ _
               exact ok_pure (ro_len BwtMake_l24 rfl) rfl
             refine ⟨?_, ?_⟩
             · rintro - w11 D11
               rintro _ rfl
               show OpOK _ _ _ _ _ _ _
               exact ok_pure (ro_subN (b := 1) rfl rfl (by omega)) rfl
             refine ⟨?_, ?_⟩
             · rintro - w12 D12
               rintro _ rfl _ rfl
               show OpOK _ _ _ _ _ _ _
               exact ok_pure (ro_indexAddr1 BwtMake_e24 rfl rfl (by omega)) rfl
             refine ⟨?_, ?_⟩
             · rintro - w13 D13
               rintro _ rfl
               show OpOK _ _ _ _ _ _ _
               exact ok_pure (ro_load BwtMake_g3 rfl (by exact cellF (hBz.next D13) (hcl (n - 1) (by omega)))) rfl
             refine ⟨?_, ?_⟩
             · rintro - w14 D14
               rintro _ rfl
               show OpOK _ _ _ _ _ _ _
               exact ok_val (ro_lit1 BwtMake_q24 rfl rfl rfl) (From.rfl_.new _) ⟨_, rfl, Blk.new _ _ _⟩
             refine ⟨?_, ?_⟩
             · intro h; cases h
             exact trivial
            case hmu =>
             rintro w16 D16
             rintro v16_23 ⟨g23, rfl, ho23⟩ v16_30 ⟨b30, rfl, hk30⟩
             show MuOK _ _ _ _ _ _ _
             refine mu_append BwtMake_q24 rfl (by decide) rfl ho23 D16.size rfl rfl ⟨_, _, rfl, hk30.whole⟩ (by simp [Value.oneCell']) (by omega) (by omega) ?_
             intro A3 c3 w3 ho3 hg3
             exact ⟨D16.grew hg3 (fun k hk => (own_at ho23 k hk).1), ⟨A3, c3, rfl, ho3⟩, fun t u ht h => muR_look (by repeat first | exact trivial | refine ⟨.inl rfl, ?_⟩ | refine ⟨.inr (fun _ h => h), ?_⟩) t u ht h⟩
            case hend =>
             rintro w17 D17
             rintro _ rfl _ rfl v23 _ _ rfl _ rfl _ rfl _ rfl _ rfl _ rfl v30 _ v31 ⟨A31, c31, rfl, ho31⟩
             show St _ _ _ _ _ _ _
             have HF31 := D17
             refine st_val (ro_assign (v := .slice _ _ _) rfl) ?_
             refine st_nil ?_
             refine nx_then ?_
             refine cd_seq ?_
             refine cd_seq ?_
             refine cd_region ?_
             refine st_val (ro_move (v := .slice _ _ _) rfl) ?_
             refine st_val (ro_len BwtMake_l24 rfl) ?_
             refine st_val (ro_move (v := .int _ _) rfl) ?_
             refine st_nil ?_
             refine nx_then ?_
             refine cd_block ?_
             refine cd_loop (G := Nat × List Nat × Option Addr × Nat × Nat) [6, 7, 35, 36, 37, 38, 39, 40, 41, 42, 43, 44, 45, 46, 47, 48, 49, 50, 51] (fun (k, Bs, A2, c2, a) => [(2, .slice A2 Bs.length c2), (3, .int .i64 (a : Nat)), (34, .int .i64 (k : Nat))]) (fun (k, Bs, A2, c2, a) w' => k ≤ n ∧ BwT Ln F (k + 1) Bs a ∧ w'.ownsRow w1.heap.size 3 1 (.slice A2 Bs.length c2) Bs.length ((cI Bs).map iV) ∧ From w1 w') (fun (k, _) => n - k) ((0, [Ln.getD (n - 1) 0], A31, c31, 0)) ⟨rfl, rfl, rfl, trivial⟩ ?_ ?_
             · exact ⟨Nat.zero_le _, hfirst, by simpa [cI] using ho31.kept_from From.rfl_, HF31.next From.rfl_⟩
             rintro ⟨k, Bs, A2, c2, a⟩ ρ18 w18 ⟨hk, hT, ho, hFz⟩
             refine cd_seq ?_
             refine cd_region ?_
             refine st_val (ro_lss rfl rfl) ?_
             refine st_nil ?_
             refine nx_then ?_
             refine cd_seq ?_
             refine cd_cond rfl (fun Q19 => ?_) (fun Q19 => ?_)
             · (try with_reducible first | replace Q19 := of_decide_eq_true Q19 | replace Q19 := of_decide_eq_false Q19 | replace Q19 := bn_t Q19 | replace Q19 := bn_f Q19)
               (try with_reducible first | replace Q19 := of_decide_eq_true Q19 | replace Q19 := of_decide_eq_false Q19 | replace Q19 := bx_t Q19 | replace Q19 := bx_f Q19 | replace Q19 := be_t Q19 | replace Q19 := be_f Q19)
               have hfk := (isSA_getD hSA (show k < Ln.length by omega)).1
               first
                | (exfalso; first | omega | contradiction | (cases Q19; done))
                | skip
                  refine cd_skip ?_
                  refine nx_then ?_
                  refine cd_cut (G := List Nat × Option Addr × Nat × Nat) [6, 7, 36, 37, 38, 39, 40, 41, 42, 43, 44, 45, 46, 47, 48, 49, 50] (fun (Bs', A2', c2', a') => [(2, .slice A2' Bs'.length c2'), (3, .int .i64 (a' : Nat))]) (fun (Bs', A2', c2', a') w' => BwT Ln F (k + 1 + 1) Bs' a' ∧ w'.ownsRow w1.heap.size 3 1 (.slice A2' Bs'.length c2') Bs'.length ((cI Bs').map iV) ∧ From w1 w') ?_ ?_
                  · refine cd_block ?_
                    refine cd_seq ?_
                    refine cd_region ?_
                    refine st_val (ro_move (v := .int _ _) rfl) ?_
                    refine st_val (ro_indexAddr1 BwtMake_e24 rfl rfl (by omega)) ?_
                    refine st_val (ro_load BwtMake_g3 rfl (by exact cellF (hFz.next From.rfl_) (hcF k (by omega)))) ?_
                    refine st_val (ro_assign (v := .int _ _) rfl) ?_
                    refine st_val (ro_assign (v := .int _ _) rfl) ?_
                    refine st_nil ?_
                    refine nx_then ?_
                    refine cd_seq ?_
                    refine cd_seq ?_
                    refine cd_region ?_
                    refine st_val (ro_move (v := .int _ _) rfl) ?_
                    refine st_val (ro_eql rfl rfl) ?_
                    refine st_nil ?_
                    refine nx_then ?_
                    refine cd_cond rfl (fun Q20 => ?_) (fun Q20 => ?_)
                    · (try with_reducible first | replace Q20 := of_decide_eq_true Q20 | replace Q20 := of_decide_eq_false Q20 | replace Q20 := bn_t Q20 | replace Q20 := bn_f Q20)
                      (try with_reducible first | replace Q20 := of_decide_eq_true Q20 | replace Q20 := of_decide_eq_false Q20 | replace Q20 := bx_t Q20 | replace Q20 := bx_f Q20 | replace Q20 := be_t Q20 | replace Q20 := be_f Q20)
                      first
                       | (exfalso; first | omega | contradiction | (cases Q20; done))
                       | skip
                         refine cd_seq ?_
                         refine cd_region ?_
                         refine st_val (ro_move (v := .int _ _) rfl) ?_
                         refine st_val (ro_addN (b := 1) rfl rfl (by omega)) ?_
                         refine st_val (ro_assign (v := .int _ _) rfl) ?_
                         refine st_nil ?_
                         refine nx_then ?_
                         refine cd_exit ?_
                         refine ex_then ?_
                         refine ex_block ?_
                         refine nx_cut ((Bs, A2, c2, k + 1)) ⟨rfl, rfl, trivial⟩ (by (iterate 10 refine agr_cons rfl ?_); exact agr_rfl) ?_
                         exact ⟨hT.skip hSA (by omega) (by rw [rowS_succ]; omega), ho.kept_from From.rfl_, hFz.next From.rfl_⟩
                    (try with_reducible first | replace Q20 := of_decide_eq_true Q20 | replace Q20 := of_decide_eq_false Q20 | replace Q20 := bn_t Q20 | replace Q20 := bn_f Q20)
                    (try with_reducible first | replace Q20 := of_decide_eq_true Q20 | replace Q20 := of_decide_eq_false Q20 | replace Q20 := bx_t Q20 | replace Q20 := bx_f Q20 | replace Q20 := be_t Q20 | replace Q20 := be_f Q20)
                    first
                     | (exfalso; first | omega | contradiction | (cases Q20; done))
                     | skip
                       refine cd_skip ?_
                       refine nx_then ?_
                       refine cd_region ?_
                       refine st_val (ro_move (v := .slice _ _ _) rfl) ?_
                       refine st_val (ro_move (v := .slice _ _ _) rfl) ?_
                       refine st_val (ro_move (v := .int _ _) rfl) ?_
                       refine st_val (ro_subN (b := 1) rfl rfl (by omega)) ?_
                       refine st_val (ro_indexAddr1 BwtMake_e24 rfl rfl (by omega)) ?_
                       refine st_val (ro_load BwtMake_g3 rfl (by exact cellF (hBz.next hFz) (hcl (F.getD k 0 - 1) (by omega)))) ?_
                       refine st_lit1 (v := .int _ _) BwtMake_q24 rfl rfl rfl ?_
                       intro b49 w21 E49 hb49 hk49
                       have hap50 := hT.len_le
                       refine st_appendB BwtMake_q24 rfl (by decide) rfl (A := A2) (xs := (cI Bs).map iV) (news := [iV ((Ln.getD (F.getD k 0 - 1) 0 : Nat) : Int)]) (ho.kept_from (From.rfl_.next E49)) ((hFz.next (From.rfl_.next E49)).size) rfl rfl (fun _ => ⟨b49, 0, rfl, hk49.whole⟩) (fun h => by cases h) (by simp [Value.oneCell']) (by omega) (by omega) ?_
                       intro A50 c50 w22 ho50 hg50
                       have HF50 := (hFz.next (From.rfl_.next E49)).grew hg50 (fun k hk => (own_at (ho.kept_from (From.rfl_.next E49)) k hk).1)
                       refine st_val (ro_assign (v := .slice _ _ _) rfl) ?_
                       refine st_nil ?_
                       refine nx_block ?_
                       refine nx_cut ((Bs ++ [Ln.getD (F.getD k 0 - 1) 0], A50, c50, a)) ⟨(by rw [List.length_append]; rfl), rfl, trivial⟩ (by (iterate 16 refine agr_cons rfl ?_); exact agr_rfl) ?_
                       exact ⟨by have := hT.push hSA (by omega) (by rw [rowS_succ]; omega); rw [rowS_succ] at this; exact this, by rw [List.length_append, cI_push]; exact ho50.kept_from From.rfl_, HF50.next From.rfl_⟩
                  rintro ⟨Bs', A2', c2', a'⟩ ρ23 w23 ⟨hT', ho', hFz'⟩
                  refine cd_region ?_
                  refine st_val (ro_add64 rfl rfl (by omega)) ?_
                  refine st_val (ro_move (v := .int _ _) rfl) ?_
                  refine st_nil ?_
                  refine nx_cut ((k + 1, Bs', A2', c2', a')) ⟨(by first | rfl | (refine int_eq ?_; omega)), (by first | rfl | (refine int_eq ?_; omega)), (by first | rfl | (refine int_eq ?_; omega)), trivial⟩ (by (iterate 44 refine agr_cons rfl ?_); exact agr_rfl) ⟨?_, ?_⟩
                  · exact ⟨by omega, hT', ho'.kept_from From.rfl_, hFz'.next From.rfl_⟩
                  · show n - (k + 1) < n - k; omega
             (try with_reducible first | replace Q19 := of_decide_eq_true Q19 | replace Q19 := of_decide_eq_false Q19 | replace Q19 := bn_t Q19 | replace Q19 := bn_f Q19)
             (try with_reducible first | replace Q19 := of_decide_eq_true Q19 | replace Q19 := of_decide_eq_false Q19 | replace Q19 := bx_t Q19 | replace Q19 := bx_f Q19 | replace Q19 := be_t Q19 | replace Q19 := be_f Q19)
             first
              | (exfalso; first | omega | contradiction | (cases Q19; done))
              | skip
                refine cd_exit ?_
                refine ex_then ?_
                refine ex_then ?_
                refine ex_block ?_
                refine nx_then ?_
                refine cd_seq ?_
                refine cd_region ?_
                refine st_val (ro_move (v := .slice _ _ _) rfl) ?_
                refine st_val (ro_move (v := .int _ _) rfl) ?_
                refine st_val (ro_assign (v := .slice _ _ _) rfl) ?_
                refine st_val (ro_assign (v := .int _ _) rfl) ?_
                refine st_val (ro_assign (v := .int _ _) rfl) ?_
                refine st_nil ?_
                refine nx_then ?_
                refine cd_ret ?_
                refine res3 (v := .slice _ _ _) (v' := .int _ _) (v'' := .int _ _) rfl rfl rfl rfl ?_
                obtain rfl : n = k := by omega
                have hb := (show BwT Ln F (Ln.length + 1) Bs a by rw [hLl]; exact hT).fin hSA
                exact ⟨.inr ⟨Ln, Bs, a, A2, c2, hLn, hlt, hb, rfl, own_le (ho.kept_from From.rfl_) hBz.size⟩, (hBz.next hFz)⟩
  · have hLl : Ln.length = n := by rw [hn, hLn, List.length_map]
    have hBz : From w w1 := E10
    have hrF := (sortA_own ho10).2
    have hFl := hSA.len
    have hrL : RowOf iV w A (cI Ln) := by rw [cI, ← hLn]; exact hr
    refine st_val (ro_move (v := .tuple _) rfl) ?_
    refine st_val (ro_extract rfl rfl) ?_
    refine st_val (ro_extract rfl rfl) ?_
    refine st_val (ro_assign (v := .slice _ _ _) rfl) ?_
    refine st_val (ro_assign (v := .int _ _) rfl) ?_
    refine st_nil ?_
    refine nx_then ?_
    refine cd_seq ?_
    refine cd_seq ?_
    refine cd_region ?_
    refine st_val (ro_move (v := .int _ _) rfl) ?_
    refine st_val (ro_neq rfl rfl) ?_
    refine st_val (ro_move (v := .bool _) rfl) ?_
    refine st_split (t := 15) rfl (fun Q24 => ?_) (fun Q24 => ?_)
    · (try with_reducible first | replace Q24 := of_decide_eq_true Q24 | replace Q24 := of_decide_eq_false Q24 | replace Q24 := bn_t Q24 | replace Q24 := bn_f Q24)
      (try with_reducible first | replace Q24 := of_decide_eq_true Q24 | replace Q24 := of_decide_eq_false Q24 | replace Q24 := bx_t Q24 | replace Q24 := bx_f Q24 | replace Q24 := be_t Q24 | replace Q24 := be_f Q24)
      first
       | (exfalso; first | omega | contradiction | (cases Q24; done))
       | skip
         refine st_gno rfl rfl ?_
         refine st_gno rfl rfl ?_
         refine st_gno rfl rfl ?_
         refine st_val (ro_pickT (v := .bool _) rfl rfl) ?_
         refine st_nil ?_
         refine nx_then ?_
         refine cd_condT rfl ?_
         refine cd_seq ?_
         refine cd_region ?_
         refine st_val (ro_move (v := .int _ _) rfl) ?_
         refine st_val (ro_assign (v := .slice _ _ _) rfl) ?_
         refine st_val (ro_assign (v := .int _ _) rfl) ?_
         refine st_val (ro_assign (v := .int _ _) rfl) ?_
         refine st_nil ?_
         refine nx_then ?_
         refine cd_ret ?_
         refine rt_then ?_
         refine res3 (v := .slice _ _ _) (v' := .int _ _) (v'' := .int _ _) rfl rfl rfl rfl ?_
         first
           | exact ⟨.inl ⟨hbad, rfl⟩, (From.rfl_.next E10)⟩
           | (obtain rfl : Ln = [] := List.eq_nil_of_length_eq_zero (by omega)
              exact ⟨.inr ⟨[], [], 0, none, 0, hLn, hlt, bw_nil, rfl, World.ownsRow_nil _ _ _ _⟩, (From.rfl_.next E10)⟩)
    · (try with_reducible first | replace Q24 := of_decide_eq_true Q24 | replace Q24 := of_decide_eq_false Q24 | replace Q24 := bn_t Q24 | replace Q24 := bn_f Q24)
      (try with_reducible first | replace Q24 := of_decide_eq_true Q24 | replace Q24 := of_decide_eq_false Q24 | replace Q24 := bx_t Q24 | replace Q24 := bx_f Q24 | replace Q24 := be_t Q24 | replace Q24 := be_f Q24)
      first
       | (exfalso; first | omega | contradiction | (cases Q24; done))
       | skip
         refine st_unguard rfl ?_
         refine st_val (ro_move (v := .slice _ _ _) rfl) ?_
         refine st_unguard rfl ?_
         refine st_val (ro_len BwtMake_l24 rfl) ?_
         refine st_unguard rfl ?_
         refine st_val (ro_eql rfl rfl) ?_
         refine st_val (ro_pickF (v := .bool _) rfl rfl) ?_
         refine st_nil ?_
         refine nx_then ?_
         refine cd_cond rfl (fun Q25 => ?_) (fun Q25 => ?_)
         · (try with_reducible first | replace Q25 := of_decide_eq_true Q25 | replace Q25 := of_decide_eq_false Q25 | replace Q25 := bn_t Q25 | replace Q25 := bn_f Q25)
           (try with_reducible first | replace Q25 := of_decide_eq_true Q25 | replace Q25 := of_decide_eq_false Q25 | replace Q25 := bx_t Q25 | replace Q25 := bx_f Q25 | replace Q25 := be_t Q25 | replace Q25 := be_f Q25)
           first
            | (exfalso; first | omega | contradiction | (cases Q25; done))
            | skip
              refine cd_seq ?_
              refine cd_region ?_
              refine st_val (ro_move (v := .int _ _) rfl) ?_
              refine st_val (ro_assign (v := .slice _ _ _) rfl) ?_
              refine st_val (ro_assign (v := .int _ _) rfl) ?_
              refine st_val (ro_assign (v := .int _ _) rfl) ?_
              refine st_nil ?_
              refine nx_then ?_
              refine cd_ret ?_
              refine rt_then ?_
              refine res3 (v := .slice _ _ _) (v' := .int _ _) (v'' := .int _ _) rfl rfl rfl rfl ?_
              first
                | exact ⟨.inl ⟨hbad, rfl⟩, (From.rfl_.next E10)⟩
                | (obtain rfl : Ln = [] := List.eq_nil_of_length_eq_zero (by omega)
                   exact ⟨.inr ⟨[], [], 0, none, 0, hLn, hlt, bw_nil, rfl, World.ownsRow_nil _ _ _ _⟩, (From.rfl_.next E10)⟩)
         (try with_reducible first | replace Q25 := of_decide_eq_true Q25 | replace Q25 := of_decide_eq_false Q25 | replace Q25 := bn_t Q25 | replace Q25 := bn_f Q25)
         (try with_reducible first | replace Q25 := of_decide_eq_true Q25 | replace Q25 := of_decide_eq_false Q25 | replace Q25 := bx_t Q25 | replace Q25 := bx_f Q25 | replace Q25 := be_t Q25 | replace Q25 := be_f Q25)
         obtain ⟨bl, ol, rfl, hcl⟩ := rowD hrL (by omega)
         obtain ⟨bF, oF, rfl, hcF⟩ := rowD hrF (by omega)
         have hfirst : BwT Ln F 1 [Ln.getD (n - 1) 0] 0 := by
           have := BwT.zero.push hSA (Nat.zero_le _) (by rw [rowS_zero]; omega)
           rw [rowS_zero, hLl] at this
           exact this
         have hFz : From w1 w1 := From.rfl_
         have hT : BwT Ln F 0 [] 0 := BwT.zero
         first
          | (exfalso; first | omega | contradiction | (cases Q25; done))
          | skip
            refine cd_skip ?_
            refine nx_then ?_
            refine cd_seq ?_
            apply cd_mu 11 10 [23, 30] [(21, eqp _), (22, eqp _), (23, fun v w' => ∃ g, v = .slice (some ⟨g, 0, none⟩) 0 n ∧ w'.ownsRow w1.heap.size 3 1 (.slice (some ⟨g, 0, none⟩) 0 n) 0 []), (24, eqp _), (25, eqp _), (26, eqp _), (27, eqp _), (28, eqp _), (29, eqp _), (30, fun v w' => ∃ g, v = .slice (some ⟨g, 0, none⟩) 1 1 ∧ Blk w' g 3 #[.int .i64 ((Ln.getD (n - 1) 0 : Nat) : Int)]), (31, fun v w' => ∃ A3 c3, v = .slice A3 1 c3 ∧ w'.ownsRow w1.heap.size 3 1 (.slice A3 1 c3) 1 [iV ((Ln.getD (n - 1) 0 : Nat) : Int)])] (fun w' => From w1 w') (fun w' => From w1 w') (by repeat first | exact pq_body | refine pq_then ?_ | refine pq_block ?_) (by kernel_rfl) (by kernel_rfl) (by kernel_rfl) ⟨eqp_mono _, eqp_mono _, (fun _ _ _ hF ⟨g, h1, h2⟩ => ⟨g, h1, h2.kept_from hF⟩), eqp_mono _, eqp_mono _, eqp_mono _, eqp_mono _, eqp_mono _, eqp_mono _, (fun _ _ _ hF ⟨g, h1, h2⟩ => ⟨g, h1, h2.from_ hF⟩), (fun _ _ _ hF ⟨A2, c2, h1, h2⟩ => ⟨A2, c2, h1, h2.kept_from hF⟩), trivial⟩ (From.rfl_.d1) (From.rfl_.d1) (fun _ _ hF h => h.next hF) (fun _ _ hF h => h.next hF)
            case hop =>
             refine ⟨?_, ?_⟩
             · rintro - w27 D27
               show OpOK _ _ _ _ _ _ _
               exact ok_pure (ro_move (v := .slice _ _ _) rfl) rfl
             refine ⟨?_, ?_⟩
             · rintro - w28 D28
               rintro _ rfl
               show OpOK _ _ _ _ _ _ _
               exact ok_pure (ro_len BwtMake_l24 rfl) rfl
             refine ⟨?_, ?_⟩
             · rintro - w29 D29
               rintro _ rfl
               show OpOK _ _ _ _ _ _ _
               refine ok_ex (ok_make0 (m := n) (base := w1.heap.size) BwtMake_m24 rfl rfl rfl (by omega) (by omega) D29.size)
             refine ⟨?_, ?_⟩
             · rintro - w30 D30
               show OpOK _ _ _ _ _ _ _
               exact ok_pure (ro_move (v := .slice _ _ _) rfl) rfl
             refine ⟨?_, ?_⟩
             · rintro - w31 D31
               show OpOK _ _ _ _ _ _ _
               exact ok_pure (ro_move (v := .slice _ _ _) rfl) rfl
             refine ⟨?_, ?_⟩
             · rintro - w32 D32
               rintro _ rfl
               show OpOK _ _ _ _ _ _ _
               exact ok_pure (ro_len BwtMake_l24 rfl) rfl
             refine ⟨?_, ?_⟩
             · rintro - w33 D33
               rintro _ rfl
               show OpOK _ _ _ _ _ _ _
               exact ok_pure (ro_subN (b := 1) rfl rfl (by omega)) rfl
             refine ⟨?_, ?_⟩
             · rintro - w34 D34
               rintro _ rfl _ rfl
               show OpOK _ _ _ _ _ _ _
               exact ok_pure (ro_indexAddr1 BwtMake_e24 rfl rfl (by omega)) rfl
             refine ⟨?_, ?_⟩
             · rintro - w35 D35
               rintro _ rfl
               show OpOK _ _ _ _ _ _ _
               exact ok_pure (ro_load BwtMake_g3 rfl (by exact cellF (hBz.next D35) (hcl (n - 1) (by omega)))) rfl
             refine ⟨?_, ?_⟩
             · rintro - w36 D36
               rintro _ rfl
               show OpOK _ _ _ _ _ _ _
               exact ok_val (ro_lit1 BwtMake_q24 rfl rfl rfl) (From.rfl_.new _) ⟨_, rfl, Blk.new _ _ _⟩
             refine ⟨?_, ?_⟩
             · intro h; cases h
             exact trivial
            case hmu =>
             rintro w38 D38
             rintro v38_23 ⟨g23, rfl, ho23⟩ v38_30 ⟨b30, rfl, hk30⟩
             show MuOK _ _ _ _ _ _ _
             refine mu_append BwtMake_q24 rfl (by decide) rfl ho23 D38.size rfl rfl ⟨_, _, rfl, hk30.whole⟩ (by simp [Value.oneCell']) (by omega) (by omega) ?_
             intro A3 c3 w3 ho3 hg3
             exact ⟨D38.grew hg3 (fun k hk => (own_at ho23 k hk).1), ⟨A3, c3, rfl, ho3⟩, fun t u ht h => muR_look (by repeat first | exact trivial | refine ⟨.inl rfl, ?_⟩ | refine ⟨.inr (fun _ h => h), ?_⟩) t u ht h⟩
            case hend =>
             rintro w39 D39
             rintro _ rfl _ rfl v23 _ _ rfl _ rfl _ rfl _ rfl _ rfl _ rfl v30 _ v31 ⟨A31, c31, rfl, ho31⟩
             show St _ _ _ _ _ _ _
             have HF31 := D39
             refine st_val (ro_assign (v := .slice _ _ _) rfl) ?_
             refine st_nil ?_
             refine nx_then ?_
             refine cd_seq ?_
             refine cd_seq ?_
             refine cd_region ?_
             refine st_val (ro_move (v := .slice _ _ _) rfl) ?_
             refine st_val (ro_len BwtMake_l24 rfl) ?_
             refine st_val (ro_move (v := .int _ _) rfl) ?_
             refine st_nil ?_
             refine nx_then ?_
             refine cd_block ?_
             refine cd_loop (G := Nat × List Nat × Option Addr × Nat × Nat) [6, 7, 35, 36, 37, 38, 39, 40, 41, 42, 43, 44, 45, 46, 47, 48, 49, 50, 51] (fun (k, Bs, A2, c2, a) => [(2, .slice A2 Bs.length c2), (3, .int .i64 (a : Nat)), (34, .int .i64 (k : Nat))]) (fun (k, Bs, A2, c2, a) w' => k ≤ n ∧ BwT Ln F (k + 1) Bs a ∧ w'.ownsRow w1.heap.size 3 1 (.slice A2 Bs.length c2) Bs.length ((cI Bs).map iV) ∧ From w1 w') (fun (k, _) => n - k) ((0, [Ln.getD (n - 1) 0], A31, c31, 0)) ⟨rfl, rfl, rfl, trivial⟩ ?_ ?_
             · exact ⟨Nat.zero_le _, hfirst, by simpa [cI] using ho31.kept_from From.rfl_, HF31.next From.rfl_⟩
             rintro ⟨k, Bs, A2, c2, a⟩ ρ40 w40 ⟨hk, hT, ho, hFz⟩
             refine cd_seq ?_
             refine cd_region ?_
             refine st_val (ro_lss rfl rfl) ?_
             refine st_nil ?_
             refine nx_then ?_
             refine cd_seq ?_
             refine cd_cond rfl (fun Q41 => ?_) (fun Q41 => ?_)
             · (try with_reducible first | replace Q41 := of_decide_eq_true Q41 | replace Q41 := of_decide_eq_false Q41 | replace Q41 := bn_t Q41 | replace Q41 := bn_f Q41)
               (try with_reducible first | replace Q41 := of_decide_eq_true Q41 | replace Q41 := of_decide_eq_false Q41 | replace Q41 := bx_t Q41 | replace Q41 := bx_f Q41 | replace Q41 := be_t Q41 | replace Q41 := be_f Q41)
               have hfk := (isSA_getD hSA (show k < Ln.length by omega)).1
               first
                | (exfalso; first | omega | contradiction | (cases Q41; done))
                | skip
                  refine cd_skip ?_
                  refine nx_then ?_
                  refine cd_cut (G := List Nat × Option Addr × Nat × Nat) [6, 7, 36, 37, 38, 39, 40, 41, 42, 43, 44, 45, 46, 47, 48, 49, 50] (fun (Bs', A2', c2', a') => [(2, .slice A2' Bs'.length c2'), (3, .int .i64 (a' : Nat))]) (fun (Bs', A2', c2', a') w' => BwT Ln F (k + 1 + 1) Bs' a' ∧ w'.ownsRow w1.heap.size 3 1 (.slice A2' Bs'.length c2') Bs'.length ((cI Bs').map iV) ∧ From w1 w') ?_ ?_
                  · refine cd_block ?_
                    refine cd_seq ?_
                    refine cd_region ?_
                    refine st_val (ro_move (v := .int _ _) rfl) ?_
                    refine st_val (ro_indexAddr1 BwtMake_e24 rfl rfl (by omega)) ?_
                    refine st_val (ro_load BwtMake_g3 rfl (by exact cellF (hFz.next From.rfl_) (hcF k (by omega)))) ?_
                    refine st_val (ro_assign (v := .int _ _) rfl) ?_
                    refine st_val (ro_assign (v := .int _ _) rfl) ?_
                    refine st_nil ?_
                    refine nx_then ?_
                    refine cd_seq ?_
                    refine cd_seq ?_
                    refine cd_region ?_
                    refine st_val (ro_move (v := .int _ _) rfl) ?_
                    refine st_val (ro_eql rfl rfl) ?_
                    refine st_nil ?_
                    refine nx_then ?_
                    refine cd_cond rfl (fun Q42 => ?_) (fun Q42 => ?_)
                    · (try with_reducible first | replace Q42 := of_decide_eq_true Q42 | replace Q42 := of_decide_eq_false Q42 | replace Q42 := bn_t Q42 | replace Q42 := bn_f Q42)
                      (try with_reducible first | replace Q42 := of_decide_eq_true Q42 | replace Q42 := of_decide_eq_false Q42 | replace Q42 := bx_t Q42 | replace Q42 := bx_f Q42 | replace Q42 := be_t Q42 | replace Q42 := be_f Q42)
                      first
                       | (exfalso; first | omega | contradiction | (cases Q42; done))
                       | skip
                         refine cd_seq ?_
                         refine cd_region ?_
                         refine st_val (ro_move (v := .int _ _) rfl) ?_
                         refine st_val (ro_addN (b := 1) rfl rfl (by omega)) ?_
                         refine st_val (ro_assign (v := .int _ _) rfl) ?_
                         refine st_nil ?_
                         refine nx_then ?_
                         refine cd_exit ?_
                         refine ex_then ?_
                         refine ex_block ?_
                         refine nx_cut ((Bs, A2, c2, k + 1)) ⟨rfl, rfl, trivial⟩ (by (iterate 10 refine agr_cons rfl ?_); exact agr_rfl) ?_
                         exact ⟨hT.skip hSA (by omega) (by rw [rowS_succ]; omega), ho.kept_from From.rfl_, hFz.next From.rfl_⟩
                    (try with_reducible first | replace Q42 := of_decide_eq_true Q42 | replace Q42 := of_decide_eq_false Q42 | replace Q42 := bn_t Q42 | replace Q42 := bn_f Q42)
                    (try with_reducible first | replace Q42 := of_decide_eq_true Q42 | replace Q42 := of_decide_eq_false Q42 | replace Q42 := bx_t Q42 | replace Q42 := bx_f Q42 | replace Q42 := be_t Q42 | replace Q42 := be_f Q42)
                    first
                     | (exfalso; first | omega | contradiction | (cases Q42; done))
                     | skip
                       refine cd_skip ?_
                       refine nx_then ?_
                       refine cd_region ?_
                       refine st_val (ro_move (v := .slice _ _ _) rfl) ?_
                       refine st_val (ro_move (v := .slice _ _ _) rfl) ?_
                       refine st_val (ro_move (v := .int _ _) rfl) ?_
                       refine st_val (ro_subN (b := 1) rfl rfl (by omega)) ?_
                       refine st_val (ro_indexAddr1 BwtMake_e24 rfl rfl (by omega)) ?_
                       refine st_val (ro_load BwtMake_g3 rfl (by exact cellF (hBz.next hFz) (hcl (F.getD k 0 - 1) (by omega)))) ?_
                       refine st_lit1 (v := .int _ _) BwtMake_q24 rfl rfl rfl ?_
                       intro b49 w43 E49 hb49 hk49
                       have hap50 := hT.len_le
                       refine st_appendB BwtMake_q24 rfl (by decide) rfl (A := A2) (xs := (cI Bs).map iV) (news := [iV ((Ln.getD (F.getD k 0 - 1) 0 : Nat) : Int)]) (ho.kept_from (From.rfl_.next E49)) ((hFz.next (From.rfl_.next E49)).size) rfl rfl (fun _ => ⟨b49, 0, rfl, hk49.whole⟩) (fun h => by cases h) (by simp [Value.oneCell']) (by omega) (by omega) ?_
                       intro A50 c50 w44 ho50 hg50
                       have HF50 := (hFz.next (From.rfl_.next E49)).grew hg50 (fun k hk => (own_at (ho.kept_from (From.rfl_.next E49)) k hk).1)
                       refine st_val (ro_assign (v := .slice _ _ _) rfl) ?_
                       refine st_nil ?_
                       refine nx_block ?_
                       refine nx_cut ((Bs ++ [Ln.getD (F.getD k 0 - 1) 0], A50, c50, a)) ⟨(by rw [List.length_append]; rfl), rfl, trivial⟩ (by (iterate 16 refine agr_cons rfl ?_); exact agr_rfl) ?_
                       exact ⟨by have := hT.push hSA (by omega) (by rw [rowS_succ]; omega); rw [rowS_succ] at this; exact this, by rw [List.length_append, cI_push]; exact ho50.kept_from From.rfl_, HF50.next From.rfl_⟩
                  rintro ⟨Bs', A2', c2', a'⟩ ρ45 w45 ⟨hT', ho', hFz'⟩
                  refine cd_region ?_
                  refine st_val (ro_add64 rfl rfl (by omega)) ?_
                  refine st_val (ro_move (v := .int _ _) rfl) ?_
                  refine st_nil ?_
                  refine nx_cut ((k + 1, Bs', A2', c2', a')) ⟨(by first | rfl | (refine int_eq ?_; omega)), (by first | rfl | (refine int_eq ?_; omega)), (by first | rfl | (refine int_eq ?_; omega)), trivial⟩ (by (iterate 44 refine agr_cons rfl ?_); exact agr_rfl) ⟨?_, ?_⟩
                  · exact ⟨by omega, hT', ho'.kept_from From.rfl_, hFz'.next From.rfl_⟩
                  · show n - (k + 1) < n - k; omega
             (try with_reducible first | replace Q41 := of_decide_eq_true Q41 | replace Q41 := of_decide_eq_false Q41 | replace Q41 := bn_t Q41 | replace Q41 := bn_f Q41)
             (try with_reducible first | replace Q41 := of_decide_eq_true Q41 | replace Q41 := of_decide_eq_false Q41 | replace Q41 := bx_t Q41 | replace Q41 := bx_f Q41 | replace Q41 := be_t Q41 | replace Q41 := be_f Q41)
             first
              | (exfalso; first | omega | contradiction | (cases Q41; done))
              | skip
                refine cd_exit ?_
                refine ex_then ?_
                refine ex_then ?_
                refine ex_block ?_
                refine nx_then ?_
                refine cd_seq ?_
                refine cd_region ?_
                refine st_val (ro_move (v := .slice _ _ _) rfl) ?_
                refine st_val (ro_move (v := .int _ _) rfl) ?_
                refine st_val (ro_assign (v := .slice _ _ _) rfl) ?_
                refine st_val (ro_assign (v := .int _ _) rfl) ?_
                refine st_val (ro_assign (v := .int _ _) rfl) ?_
                refine st_nil ?_
                refine nx_then ?_
                refine cd_ret ?_
                refine res3 (v := .slice _ _ _) (v' := .int _ _) (v'' := .int _ _) rfl rfl rfl rfl ?_
                obtain rfl : n = k := by omega
                have hb := (show BwT Ln F (Ln.length + 1) Bs a by rw [hLl]; exact hT).fin hSA
                exact ⟨.inr ⟨Ln, Bs, a, A2, c2, hLn, hlt, hb, rfl, own_le (ho.kept_from From.rfl_) hBz.size⟩, (hBz.next hFz)⟩
end Go.Proofs.Ytpafbgdbjambgaa

namespace Go.Proofs.Ytpafbgdbjambgaa
open Go.RowKit
open Go.ChangeShapes Go.WideShapes Go.ChangeAt
open Go.Proofs.Ytpafbgdbjambgaa.SA
theorem BwtBack_e24 : elemQ Try.prog 24 = some (3, 1) := by kernel_rfl
theorem BwtBack_m24 : makeQ Try.prog 24 = some (3, 8, (.int .i64 0)) := by kernel_rfl
theorem BwtBack_q24 : litQ Try.prog 24 = some (3, 1, 8, (.int .i64 0)) := by kernel_rfl
theorem BwtBack_k21 : callable Try.prog 21 = true := by kernel_rfl
theorem BwtBack_k22 : callable Try.prog 22 = true := by kernel_rfl
theorem BwtBack_l24 : (elemQ Try.prog 24).isSome = true := by kernel_rfl
theorem BwtBack_k23 : callable Try.prog 23 = true := by kernel_rfl
theorem BwtBack_z3 : sizeQ Try.prog 3 = some 1 := by kernel_rfl
theorem BwtBack_g3 : aggQ Try.prog 3 = some false := by kernel_rfl
/-- no list has these symbols with this row -/
def Bad (n : Nat) (at_ : Int) (xs : List Int) : Prop := ∀ (B : List Nat) (a : Nat), xs = cI B → (∀ x ∈ B, x < 512) → at_ = (a : Nat) → a ≤ n → ¬ Circ n (fun i => B.getD i 0) a
/-- what Back tells -/
def BackA (w' : World) (base n : Nat) (at_ : Int) (xs : List Int) (v : Value) : Prop :=
  (∃ B a A', xs = cI B ∧ (∀ x ∈ B, x < 512) ∧ at_ = (a : Nat) ∧ a ≤ n ∧ Circ n (fun i => B.getD i 0) a ∧ v = .tuple #[.slice A' n n, .int .i64 0] ∧ w'.ownsRow base 3 1 (.slice A' n n) n ((wl n (fun i => B.getD i 0) a).map fun x : Nat => iV (x : Nat))) ∨
  (Bad n at_ xs ∧ v = .tuple #[.slice none 0 0, .int .i64 1])
theorem bad_at {n : Nat} {at_ : Int} {xs : List Int} (h : (decide (0 ≤ at_ ∧ at_ ≤ n ∧ n ≤ 131072) && xs.all (okS 512)) = false) (hl : n ≤ 131072) : Bad n at_ xs := fun B a e1 e2 e3 e4 => by
  rw [decide_eq_true (by omega), Bool.true_and, e1, cI, all_nat e2] at h
  cases h
theorem wl_end {n m : Nat} {b : Nat → Nat} {a : Nat} (h : 0 < m) (hm : m ≤ n) : (wl n b a).getD (m - 1) 0 = b (sy a (wk n b a (n - m))) := by
  rw [wl_get (by omega), show n - 1 - (m - 1) = n - m by omega]
theorem wl_put {n m : Nat} {b : Nat → Nat} {a : Nat} {fl : Nat → Int} (h : ∀ i, m ≤ i → i < n → fl i = (((wl n b a).getD i 0 : Nat) : Int)) (h0 : 0 < m) (hm : m ≤ n) {v : Nat} (hv : v = b (sy a (wk n b a (n - m)))) : ∀ i, m - 1 ≤ i → i < n → upd fl (m - 1) ((v : Nat) : Int) i = (((wl n b a).getD i 0 : Nat) : Int) := fun i hi hn => by
  by_cases e : i = m - 1
  · rw [e, upd_same, hv, wl_end h0 hm]
  · rw [upd_ne _ _ e]; exact h i (by omega) hn
theorem wk_pred {n m : Nat} {b : Nat → Nat} {a : Nat} (h0 : 0 < m) (hm : m ≤ n) : wk n b a (n - (m - 1)) = lf n b a (wk n b a (n - m)) := by rw [show n - (m - 1) = n - m + 1 by omega, wk_succ]
set_option maxRecDepth 100000 in
set_option maxHeartbeats 4000000 in
theorem back_rt (at_ : Int) (A : Option Addr) (c n : Nat) (xs : List Int) (w : World) (hr : RowOf iV w A xs) (hn : n = xs.length) (hl : n ≤ 131072) :
    Rt Try.prog 16 [.int .i64 at_, .slice A n c] w (fun v w' => BackA w' w.heap.size n at_ xs v ∧ From w w') := by
  refine enter (n := 45) Try.func16 rfl rfl rfl ?_
  refine cd_seq ?_
  refine cd_region ?_
  refine st_val (ro_assign (v := .slice _ _ _) rfl) ?_
  refine st_val (ro_assign (v := .int _ _) rfl) ?_
  refine st_nil ?_
  refine nx_then ?_
  refine cd_seq ?_
  refine cd_seq ?_
  refine cd_region ?_
  refine st_val (ro_move (v := .int _ _) rfl) ?_
  refine st_val (ro_move (v := .slice _ _ _) rfl) ?_
  refine st_call BwtBack_k21 (valid_rt at_ A c n xs _ (hr.from_ From.rfl_) hn (by omega)) ?_
  rintro v12 w1 ⟨rfl, E12⟩
  refine st_val (ro_not rfl) ?_
  refine st_nil ?_
  refine nx_then ?_
  refine cd_cond rfl (fun Q2 => ?_) (fun Q2 => ?_)
  · (try with_reducible first | replace Q2 := of_decide_eq_true Q2 | replace Q2 := of_decide_eq_false Q2 | replace Q2 := bn_t Q2 | replace Q2 := bn_f Q2)
    (try with_reducible first | replace Q2 := of_decide_eq_true Q2 | replace Q2 := of_decide_eq_false Q2 | replace Q2 := bx_t Q2 | replace Q2 := bx_f Q2 | replace Q2 := be_t Q2 | replace Q2 := be_f Q2)
    have hbad : Bad n at_ xs := bad_at (by simpa using Q2) hl
    first
     | (exfalso; first | omega | contradiction | (cases Q2; done))
     | skip
       refine cd_seq ?_
       refine cd_region ?_
       refine st_val (ro_assign (v := .slice _ _ _) rfl) ?_
       refine st_val (ro_assign (v := .int _ _) rfl) ?_
       refine st_nil ?_
       refine nx_then ?_
       refine cd_ret ?_
       refine rt_then ?_
       refine res2 (v := .slice _ _ _) (v' := .int _ _) rfl rfl rfl ?_
       exact ⟨.inr ⟨hbad, rfl⟩, (From.rfl_.next E12)⟩
  (try with_reducible first | replace Q2 := of_decide_eq_true Q2 | replace Q2 := of_decide_eq_false Q2 | replace Q2 := bn_t Q2 | replace Q2 := bn_f Q2)
  (try with_reducible first | replace Q2 := of_decide_eq_true Q2 | replace Q2 := of_decide_eq_false Q2 | replace Q2 := bx_t Q2 | replace Q2 := bx_f Q2 | replace Q2 := be_t Q2 | replace Q2 := be_f Q2)
  have hgood : (decide (0 ≤ at_ ∧ at_ ≤ n ∧ n ≤ 131072) && xs.all (okS 512)) = true := by simpa using Q2
  rw [Bool.and_eq_true] at hgood
  have hd := of_decide_eq_true hgood.1
  obtain ⟨B, hxs, hx⟩ := nat_list hgood.2
  obtain ⟨a, rfl⟩ : ∃ a : Nat, at_ = (a : Nat) := ⟨at_.toNat, by omega⟩
  have ha : a ≤ n := by omega
  have hrB : RowOf iV w A (cI B) := by rw [cI, ← hxs]; exact hr
  have hBl : n = B.length := by rw [hn, hxs, List.length_map]
  first
   | (exfalso; first | omega | contradiction | (cases Q2; done))
   | skip
     refine cd_skip ?_
     refine nx_then ?_
     refine cd_seq ?_
     refine cd_region ?_
     refine st_val (ro_move (v := .int _ _) rfl) ?_
     refine st_val (ro_move (v := .slice _ _ _) rfl) ?_
     have hz16 := ((From.rfl_.next E12)).size
     refine st_call BwtBack_k22 (ahead_rt a A c n B _ (hrB.from_ (From.rfl_.next E12)) hBl ha hl hx) ?_
     rintro v16 w3 ⟨⟨g16, rfl, hg16, hN⟩, E16⟩
     have hg16b : w.heap.size ≤ g16 := Nat.le_trans hz16 hg16
     refine st_val (ro_assign (v := .slice _ _ _) rfl) ?_
     refine st_nil ?_
     refine nx_then ?_
     refine cd_seq ?_
     refine cd_region ?_
     refine st_val (ro_move (v := .slice _ _ _) rfl) ?_
     refine st_val (ro_len BwtBack_l24 rfl) ?_
     refine st_make BwtBack_m24 rfl rfl rfl (by omega) (by omega) ?_
     intro b19 w4 E19 hb19 hk19
     have hg19 : w.heap.size ≤ b19 := by rw [hb19]; exact (((From.rfl_.next E12).next E16)).size
     have h1619 : g16 < b19 := by rw [hb19]; exact hN.lt
     refine st_val (ro_assign (v := .slice _ _ _) rfl) ?_
     refine st_nil ?_
     refine nx_then ?_
     refine cd_seq ?_
     refine cd_region ?_
     refine st_val (ro_assign (v := .int _ _) rfl) ?_
     refine st_nil ?_
     refine nx_then ?_
     refine cd_seq ?_
     refine cd_seq ?_
     refine cd_region ?_
     refine st_val (ro_move (v := .slice _ _ _) rfl) ?_
     refine st_val (ro_len BwtBack_l24 rfl) ?_
     refine st_val (ro_sub64 rfl rfl (by omega)) ?_
     refine st_val (ro_assign (v := .int _ _) rfl) ?_
     refine st_nil ?_
     refine nx_then ?_
     refine cd_block ?_
     refine cd_loop (G := Nat × (Nat → Int)) [4, 5, 23, 24, 25, 26, 27, 28, 29, 30, 31, 32, 33, 34, 35, 36, 37, 38, 39, 40] (fun (m, _) => [(8, .int .i64 ((wk n (fun i => B.getD i 0) a (n - m) : Nat) : Int)), (9, .int .i64 (((m : Nat) : Int) - 1))]) (fun (m, fl) w' => m ≤ n ∧ (∀ j, j < n - m → wk n (fun i => B.getD i 0) a j ≠ a) ∧ (∀ i, m ≤ i → i < n → fl i = (((wl n (fun i => B.getD i 0) a).getD i 0 : Nat) : Int)) ∧ Blk w' b19 3 (tabI n fl) ∧ Blk w' g16 3 (tabI (n + 1) fun r => ((lf n (fun i => B.getD i 0) a r : Nat) : Int)) ∧ From w w') (fun (m, _) => m) ((n, fun _ => 0)) ⟨(int_eq (by rw [Nat.sub_self]; rfl)), rfl, trivial⟩ ?_ ?_
     · exact ⟨Nat.le_refl _, fun j h => absurd h (by omega), fun i h1 h2 => absurd h2 (by omega), by rw [← tabI_zero]; exact hk19, hN.from_ (From.rfl_.next E19), (((From.rfl_.next E12).next E16).next E19)⟩
     rintro ⟨m, fl⟩ ρ5 w5 ⟨hm, hne, hfl, hT, hN, hB⟩
     refine cd_seq ?_
     refine cd_seq ?_
     refine cd_region ?_
     refine st_val (ro_move (v := .int _ _) rfl) ?_
     refine st_val (ro_geq rfl rfl) ?_
     refine st_nil ?_
     refine nx_then ?_
     refine cd_cond rfl (fun Q6 => ?_) (fun Q6 => ?_)
     · (try with_reducible first | replace Q6 := of_decide_eq_true Q6 | replace Q6 := of_decide_eq_false Q6 | replace Q6 := bn_t Q6 | replace Q6 := bn_f Q6)
       (try with_reducible first | replace Q6 := of_decide_eq_true Q6 | replace Q6 := of_decide_eq_false Q6 | replace Q6 := bx_t Q6 | replace Q6 := bx_f Q6 | replace Q6 := be_t Q6 | replace Q6 := be_f Q6)
       have h0m : 0 < m := by omega
       have hwl := wk_le (n := n) (b := (fun i => B.getD i 0)) ha (n - m)
       first
        | (exfalso; first | omega | contradiction | (cases Q6; done))
        | skip
          refine cd_skip ?_
          refine nx_then ?_
          refine cd_seq ?_
          refine cd_block ?_
          refine cd_seq ?_
          refine cd_seq ?_
          refine cd_region ?_
          refine st_val (ro_move (v := .int _ _) rfl) ?_
          refine st_val (ro_move (v := .int _ _) rfl) ?_
          refine st_val (ro_eql rfl rfl) ?_
          refine st_nil ?_
          refine nx_then ?_
          refine cd_cond rfl (fun Q7 => ?_) (fun Q7 => ?_)
          · (try with_reducible first | replace Q7 := of_decide_eq_true Q7 | replace Q7 := of_decide_eq_false Q7 | replace Q7 := bn_t Q7 | replace Q7 := bn_f Q7)
            (try with_reducible first | replace Q7 := of_decide_eq_true Q7 | replace Q7 := of_decide_eq_false Q7 | replace Q7 := bx_t Q7 | replace Q7 := bx_f Q7 | replace Q7 := be_t Q7 | replace Q7 := be_f Q7)
            have hbad : Bad n (a : Int) xs := fun B2 a2 e1 e2 e3 e4 hc => by
              obtain rfl := cI_inj (hxs.symm.trans e1)
              obtain rfl : a = a2 := by omega
              exact hc.1 (n - m) (by omega) (by omega)
            first
             | (exfalso; first | omega | contradiction | (cases Q7; done))
             | skip
               refine cd_seq ?_
               refine cd_region ?_
               refine st_val (ro_assign (v := .slice _ _ _) rfl) ?_
               refine st_val (ro_assign (v := .int _ _) rfl) ?_
               refine st_nil ?_
               refine nx_then ?_
               refine cd_ret ?_
               refine rt_then ?_
               refine rt_block ?_
               refine rt_then ?_
               refine rt_then ?_
               refine rt_block ?_
               refine rt_then ?_
               refine res2 (v := .slice _ _ _) (v' := .int _ _) rfl rfl rfl ?_
               exact ⟨.inr ⟨hbad, rfl⟩, hB⟩
          (try with_reducible first | replace Q7 := of_decide_eq_true Q7 | replace Q7 := of_decide_eq_false Q7 | replace Q7 := bn_t Q7 | replace Q7 := bn_f Q7)
          (try with_reducible first | replace Q7 := of_decide_eq_true Q7 | replace Q7 := of_decide_eq_false Q7 | replace Q7 := bx_t Q7 | replace Q7 := bx_f Q7 | replace Q7 := be_t Q7 | replace Q7 := be_f Q7)
          have hwa : wk n (fun i => B.getD i 0) a (n - m) ≠ a := by omega
          first
           | (exfalso; first | omega | contradiction | (cases Q7; done))
           | skip
             refine cd_skip ?_
             refine nx_then ?_
             refine cd_seq ?_
             refine cd_region ?_
             refine st_val (ro_move (v := .slice _ _ _) rfl) ?_
             refine st_val (ro_move (v := .int _ _) rfl) ?_
             refine st_spell (t := 31) (v := .int _ _) (v' := .int .i64 ((m - 1 : Nat) : Int)) rfl (by exact int_eq (by omega)) ?_
             refine st_val (ro_move (v := .int _ _) rfl) ?_
             refine st_val (ro_move (v := .slice _ _ _) rfl) ?_
             refine st_val (ro_move (v := .int _ _) rfl) ?_
             refine st_call BwtBack_k23 (symbol_rt a A c n B (wk n (fun i => B.getD i 0) a (n - m)) _ (hrB.from_ hB) hBl ha hwl hwa (by omega)) ?_
             rintro v35 w8 ⟨rfl, E35⟩
             refine st_val (ro_indexAddr0 BwtBack_e24 rfl rfl (by omega)) ?_
             refine st_put (v := .int _ _) BwtBack_z3 rfl rfl rfl ((hT.from_ (From.rfl_.next E35))) (by rw [tabI_size]; omega) ?_
             intro w9 O11 P11
             have hN11 := (hN.from_ E35).only O11 (by omega)
             have P11b : Blk w9 b19 3 (tabI n (upd fl (m - 1) ((B.getD (sy a (wk n (fun i => B.getD i 0) a (n - m))) 0 : Nat) : Int))) := by rw [← tabI_set]; exact P11
             refine st_nil ?_
             refine nx_then ?_
             refine cd_region ?_
             refine st_val (ro_move (v := .slice _ _ _) rfl) ?_
             refine st_val (ro_move (v := .int _ _) rfl) ?_
             refine st_val (ro_indexAddr0 BwtBack_e24 rfl rfl (by omega)) ?_
             refine st_val (ro_load BwtBack_g3 rfl (by exact hN11.rd _ (tabI_at (by omega)))) ?_
             refine st_val (ro_assign (v := .int _ _) rfl) ?_
             refine st_nil ?_
             refine nx_block ?_
             refine nx_then ?_
             refine cd_region ?_
             refine st_val (ro_move (v := .int _ _) rfl) ?_
             refine st_val (ro_sub64 rfl rfl (by omega)) ?_
             refine st_val (ro_assign (v := .int _ _) rfl) ?_
             refine st_nil ?_
             refine nx_cut ((m - 1, upd fl (m - 1) ((B.getD (sy a (wk n (fun i => B.getD i 0) a (n - m))) 0 : Nat) : Int))) ⟨(int_eq (by rw [wk_pred h0m hm])), (int_eq (by omega)), trivial⟩ (by (iterate 43 refine agr_cons rfl ?_); exact agr_rfl) ⟨?_, ?_⟩
             · exact ⟨by omega, fun j hj => by rcases Nat.eq_or_lt_of_le (show j ≤ n - m by omega) with e | e; (rw [e]; exact hwa); exact hne j e, wl_put hfl h0m hm rfl, P11b.from_ From.rfl_, hN11.from_ From.rfl_, ((hB.next E35).only O11 (hg19))⟩
             · show m - 1 < m; omega
     (try with_reducible first | replace Q6 := of_decide_eq_true Q6 | replace Q6 := of_decide_eq_false Q6 | replace Q6 := bn_t Q6 | replace Q6 := bn_f Q6)
     (try with_reducible first | replace Q6 := of_decide_eq_true Q6 | replace Q6 := of_decide_eq_false Q6 | replace Q6 := bx_t Q6 | replace Q6 := bx_f Q6 | replace Q6 := be_t Q6 | replace Q6 := be_f Q6)
     obtain rfl : m = 0 := by omega
     first
      | (exfalso; first | omega | contradiction | (cases Q6; done))
      | skip
        refine cd_exit ?_
        refine ex_then ?_
        refine ex_then ?_
        refine ex_block ?_
        refine nx_then ?_
        refine cd_seq ?_
        refine cd_seq ?_
        refine cd_region ?_
        refine st_val (ro_move (v := .int _ _) rfl) ?_
        refine st_val (ro_move (v := .int _ _) rfl) ?_
        refine st_val (ro_neq rfl rfl) ?_
        refine st_nil ?_
        refine nx_then ?_
        refine cd_cond rfl (fun Q10 => ?_) (fun Q10 => ?_)
        · (try with_reducible first | replace Q10 := of_decide_eq_true Q10 | replace Q10 := of_decide_eq_false Q10 | replace Q10 := bn_t Q10 | replace Q10 := bn_f Q10)
          (try with_reducible first | replace Q10 := of_decide_eq_true Q10 | replace Q10 := of_decide_eq_false Q10 | replace Q10 := bx_t Q10 | replace Q10 := bx_f Q10 | replace Q10 := be_t Q10 | replace Q10 := be_f Q10)
          have hbad : Bad n (a : Int) xs := fun B2 a2 e1 e2 e3 e4 hc => by
            obtain rfl := cI_inj (hxs.symm.trans e1)
            obtain rfl : a = a2 := by omega
            have := hc.2
            simp only [Nat.sub_zero] at *
            omega
          first
           | (exfalso; first | omega | contradiction | (cases Q10; done))
           | skip
             refine cd_seq ?_
             refine cd_region ?_
             refine st_val (ro_assign (v := .slice _ _ _) rfl) ?_
             refine st_val (ro_assign (v := .int _ _) rfl) ?_
             refine st_nil ?_
             refine nx_then ?_
             refine cd_ret ?_
             refine rt_then ?_
             refine res2 (v := .slice _ _ _) (v' := .int _ _) rfl rfl rfl ?_
             exact ⟨.inr ⟨hbad, rfl⟩, hB⟩
        (try with_reducible first | replace Q10 := of_decide_eq_true Q10 | replace Q10 := of_decide_eq_false Q10 | replace Q10 := bn_t Q10 | replace Q10 := bn_f Q10)
        (try with_reducible first | replace Q10 := of_decide_eq_true Q10 | replace Q10 := of_decide_eq_false Q10 | replace Q10 := bx_t Q10 | replace Q10 := bx_f Q10 | replace Q10 := be_t Q10 | replace Q10 := be_f Q10)
        have hci : Circ n (fun i => B.getD i 0) a := ⟨fun j hj => hne j (by omega), by simp only [Nat.sub_zero] at *; omega⟩
        first
         | (exfalso; first | omega | contradiction | (cases Q10; done))
         | skip
           refine cd_skip ?_
           refine nx_then ?_
           refine cd_seq ?_
           refine cd_region ?_
           refine st_val (ro_move (v := .slice _ _ _) rfl) ?_
           refine st_val (ro_assign (v := .slice _ _ _) rfl) ?_
           refine st_val (ro_assign (v := .int _ _) rfl) ?_
           refine st_nil ?_
           refine nx_then ?_
           refine cd_ret ?_
           refine res2 (v := .slice _ _ _) (v' := .int _ _) rfl rfl rfl ?_
           refine ⟨.inl ⟨B, a, _, hxs, hx, rfl, ha, hci, rfl, ?_⟩, hB⟩
           refine own_of (cur := (List.range n).map fun i => iV (fl i)) hg19 (hT.from_ From.rfl_) (Nat.le_refl _) (by unfold maxLen; omega) (by simp) ?_
           rw [Nat.mul_one, List.take_of_length_le (by simp)]
           apply List.ext_getElem (by simp [wl_len])
           intro r h1 h2
           have hr9 : r < n := by simpa using h1
           have h3 : r < (wl n (fun i => B.getD i 0) a).length := by rw [wl_len]; exact hr9
           rw [List.getElem_map, List.getElem_range, List.getElem_map, hfl r (by omega) hr9, List.getD_eq_getElem?_getD, List.getElem?_eq_getElem h3]
           rfl
end Go.Proofs.Ytpafbgdbjambgaa

namespace Go.Proofs.Ytpafbgdbjambgaa
open Go.RowKit
open Go.ChangeShapes Go.WideShapes Go.ChangeAt
open Go.Proofs.Ytpafbgdbjambgaa.SA
theorem BwtRef_e24 : elemQ Try.prog 24 = some (3, 1) := by kernel_rfl
theorem BwtRef_m24 : makeQ Try.prog 24 = some (3, 8, (.int .i64 0)) := by kernel_rfl
theorem BwtRef_q24 : litQ Try.prog 24 = some (3, 1, 8, (.int .i64 0)) := by kernel_rfl
theorem BwtRef_l24 : (elemQ Try.prog 24).isSome = true := by kernel_rfl
theorem BwtRef_k26 : callable Try.prog 26 = true := by kernel_rfl
theorem BwtRef_k20 : callable Try.prog 20 = true := by kernel_rfl
theorem BwtRef_g3 : aggQ Try.prog 3 = some false := by kernel_rfl
set_option maxRecDepth 100000 in
set_option maxHeartbeats 400000 in
theorem rows_rt (A : Option Addr) (c n : Nat) (L : List Nat) (w : World) (hr : RowOf iV w A (cI L)) (hn : n = L.length) (hl : n ≤ 131072) :
    Rt Try.prog 20 [.slice A n c] w (fun v w' => (∃ A' c' F, v = .slice A' (n + 1) c' ∧ RowOf iV w' A' (cI (L.length :: F)) ∧ IsSA L F) ∧ From w w') := by
  refine enter (n := 9) Try.func20 rfl rfl rfl ?_
  refine cd_seq ?_
  refine cd_region ?_
  refine st_val (ro_assign (v := .slice _ _ _) rfl) ?_
  refine st_nil ?_
  refine nx_then ?_
  refine cd_seq ?_
  refine cd_region ?_
  refine st_val (ro_move (v := .slice _ _ _) rfl) ?_
  refine st_val (ro_len BwtRef_l24 rfl) ?_
  refine st_lit1 (v := .int _ _) BwtRef_q24 rfl rfl rfl ?_
  intro b5 w1 E5 hb5 hk5
  have ho5 : (w1).ownsRow w.heap.size 3 1 (.slice (some ⟨b5, 0, none⟩) 1 1) 1 [iV ((n : Nat) : Int)] := own_of (cur := [iV ((n : Nat) : Int)]) (Nat.le_of_eq hb5.symm) hk5 (Nat.le_refl _) (by unfold maxLen; omega) rfl rfl
  have hF5 : From w w1 := (From.rfl_.next E5)
  refine st_val (ro_move (v := .slice _ _ _) rfl) ?_
  refine st_call BwtRef_k26 (refSort_rt L A c n _ (hr.from_ (From.rfl_.next E5)) hn hl) ?_
  rintro v7 w2 ⟨⟨B7, c7, F, rfl, hg7, hSA⟩, E7⟩
  have hln := hg7.len
  have hsl := hSA.len
  refine st_appendB BwtRef_q24 rfl (by decide) rfl (A := some ⟨b5, 0, none⟩) (xs := [iV ((n : Nat) : Int)]) (news := (cI F).map iV) (ho5.kept_from E7) ((((From.rfl_.next E5).next E7)).size) rfl (by simpa using hln.symm) (fun h0 => hg7.src h0) hg7.nil (by simp [Value.oneCell']) (by omega) (by omega) ?_
  intro A8 c8 w3 ho8 hg8
  have HF8 := (((From.rfl_.next E5).next E7)).grew hg8 (fun k hk => (own_at (ho5.kept_from E7) k hk).1)
  refine st_val (ro_assign (v := .slice _ _ _) rfl) ?_
  refine st_nil ?_
  refine nx_then ?_
  refine cd_ret ?_
  refine res1 (v := .slice _ _ _) rfl rfl ?_
  refine ⟨⟨A8, c8, F, by rw [Nat.add_comm], ?_, hSA⟩, HF8⟩
  have e8 : [iV ((n : Nat) : Int)] ++ (cI F).map iV = (cI (L.length :: F)).map iV := by rw [hn]; simp [cI]
  rw [e8] at ho8
  exact (RowOf.own ho8).2
set_option maxRecDepth 100000 in
set_option maxHeartbeats 4000000 in
theorem refMake_rt (A : Option Addr) (c n : Nat) (L : List Nat) (w : World) (hr : RowOf iV w A (cI L)) (hn : n = L.length) (hl : n ≤ 131072) :
    Rt Try.prog 12 [.slice A n c] w (fun v w' => (∃ Bs a A' c', v = .tuple #[.slice A' Bs.length c', .int .i64 (a : Nat)] ∧ IsBw L Bs a ∧ w'.ownsRow w.heap.size 3 1 (.slice A' Bs.length c') Bs.length ((cI Bs).map iV)) ∧ From w w') := by
  refine enter (n := 35) Try.func12 rfl rfl rfl ?_
  refine cd_seq ?_
  refine cd_region ?_
  refine st_val (ro_assign (v := .slice _ _ _) rfl) ?_
  refine st_val (ro_assign (v := .int _ _) rfl) ?_
  refine st_nil ?_
  refine nx_then ?_
  refine cd_seq ?_
  refine cd_region ?_
  refine st_val (ro_move (v := .slice _ _ _) rfl) ?_
  refine st_call BwtRef_k20 (rows_rt A c n L _ (hr.from_ From.rfl_) hn hl) ?_
  rintro v9 w1 ⟨⟨A9, c9, F, rfl, hr9, hSA⟩, E9⟩
  have hBz : From w w1 := E9
  have hFl := hSA.len
  obtain ⟨b9, o9, rfl, hc9⟩ := rowD hr9 (by simp)
  refine st_val (ro_assign (v := .slice _ _ _) rfl) ?_
  refine st_nil ?_
  refine nx_then ?_
  refine cd_seq ?_
  refine cd_region ?_
  refine st_val (ro_assign (v := .slice _ _ _) rfl) ?_
  refine st_nil ?_
  refine nx_then ?_
  refine cd_seq ?_
  refine cd_region ?_
  refine st_val (ro_assign (v := .int _ _) rfl) ?_
  refine st_nil ?_
  refine nx_then ?_
  refine cd_seq ?_
  refine cd_seq ?_
  refine cd_region ?_
  refine st_val (ro_assign (v := .int _ _) rfl) ?_
  refine st_nil ?_
  refine nx_then ?_
  refine cd_block ?_
  refine cd_loop (G := Nat × List Nat × Option Addr × Nat × Nat) [10, 11, 12, 13, 14, 15, 16, 17, 18, 19, 20, 21, 22, 23, 24, 25, 26, 27, 28, 29, 30, 31, 32] (fun (k, Bs, A2, c2, a) => [(5, .slice A2 Bs.length c2), (6, .int .i64 (a : Nat)), (7, .int .i64 (k : Nat))]) (fun (k, Bs, A2, c2, a) w' => k ≤ n + 1 ∧ BwT L F k Bs a ∧ w'.ownsRow w1.heap.size 3 1 (.slice A2 Bs.length c2) Bs.length ((cI Bs).map iV) ∧ From w1 w') (fun (k, _) => n + 1 - k) ((0, [], none, 0, 0)) ⟨rfl, rfl, rfl, trivial⟩ ?_ ?_
  · exact ⟨Nat.zero_le _, BwT.zero, World.ownsRow_nil _ _ _ _, From.rfl_⟩
  rintro ⟨k, Bs, A2, c2, a⟩ ρ2 w2 ⟨hk, hT, ho, hFz⟩
  refine cd_seq ?_
  refine cd_seq ?_
  refine cd_region ?_
  refine st_val (ro_move (v := .int _ _) rfl) ?_
  refine st_val (ro_move (v := .slice _ _ _) rfl) ?_
  refine st_val (ro_len BwtRef_l24 rfl) ?_
  refine st_val (ro_lss rfl rfl) ?_
  refine st_nil ?_
  refine nx_then ?_
  refine cd_cond rfl (fun Q3 => ?_) (fun Q3 => ?_)
  · (try with_reducible first | replace Q3 := of_decide_eq_true Q3 | replace Q3 := of_decide_eq_false Q3 | replace Q3 := bn_t Q3 | replace Q3 := bn_f Q3)
    (try with_reducible first | replace Q3 := of_decide_eq_true Q3 | replace Q3 := of_decide_eq_false Q3 | replace Q3 := bx_t Q3 | replace Q3 := bx_f Q3 | replace Q3 := be_t Q3 | replace Q3 := be_f Q3)
    have hsk := hc9 k (by simp only [List.length_cons]; omega)
    rw [rowS_cons] at hsk
    have hrk := (rank_rowS hSA (show k ≤ L.length by omega)).1
    first
     | (exfalso; first | omega | contradiction | (cases Q3; done))
     | skip
       refine cd_skip ?_
       refine nx_then ?_
       refine cd_cut (G := List Nat × Option Addr × Nat × Nat) [16, 17, 18, 19, 20, 21, 22, 23, 24, 25, 26, 27, 28, 29, 30, 31, 32] (fun (Bs', A2', c2', a') => [(5, .slice A2' Bs'.length c2'), (6, .int .i64 (a' : Nat))]) (fun (Bs', A2', c2', a') w' => BwT L F (k + 1) Bs' a' ∧ w'.ownsRow w1.heap.size 3 1 (.slice A2' Bs'.length c2') Bs'.length ((cI Bs').map iV) ∧ From w1 w') ?_ ?_
       · refine cd_block ?_
         refine cd_seq ?_
         refine cd_region ?_
         refine st_val (ro_move (v := .slice _ _ _) rfl) ?_
         refine st_val (ro_move (v := .int _ _) rfl) ?_
         refine st_val (ro_indexAddr1 BwtRef_e24 rfl rfl (by omega)) ?_
         refine st_val (ro_load BwtRef_g3 rfl (by exact cellF (hFz.next From.rfl_) hsk)) ?_
         refine st_val (ro_eql rfl rfl) ?_
         refine st_nil ?_
         refine nx_then ?_
         refine cd_cond rfl (fun Q4 => ?_) (fun Q4 => ?_)
         · (try with_reducible first | replace Q4 := of_decide_eq_true Q4 | replace Q4 := of_decide_eq_false Q4 | replace Q4 := bn_t Q4 | replace Q4 := bn_f Q4)
           (try with_reducible first | replace Q4 := of_decide_eq_true Q4 | replace Q4 := of_decide_eq_false Q4 | replace Q4 := bx_t Q4 | replace Q4 := bx_f Q4 | replace Q4 := be_t Q4 | replace Q4 := be_f Q4)
           first
            | (exfalso; first | omega | contradiction | (cases Q4; done))
            | skip
              refine cd_region ?_
              refine st_val (ro_move (v := .int _ _) rfl) ?_
              refine st_val (ro_assign (v := .int _ _) rfl) ?_
              refine st_nil ?_
              refine nx_block ?_
              refine nx_cut ((Bs, A2, c2, k)) ⟨rfl, rfl, trivial⟩ (by (iterate 7 refine agr_cons rfl ?_); exact agr_rfl) ?_
              exact ⟨hT.skip hSA (by omega) (by omega), ho.kept_from From.rfl_, hFz.next From.rfl_⟩
         (try with_reducible first | replace Q4 := of_decide_eq_true Q4 | replace Q4 := of_decide_eq_false Q4 | replace Q4 := bn_t Q4 | replace Q4 := bn_f Q4)
         (try with_reducible first | replace Q4 := of_decide_eq_true Q4 | replace Q4 := of_decide_eq_false Q4 | replace Q4 := bx_t Q4 | replace Q4 := bx_f Q4 | replace Q4 := be_t Q4 | replace Q4 := be_f Q4)
         obtain ⟨bl, ol, rfl, hcl⟩ := rowD hr (by omega)
         first
          | (exfalso; first | omega | contradiction | (cases Q4; done))
          | skip
            refine cd_region ?_
            refine st_val (ro_move (v := .slice _ _ _) rfl) ?_
            refine st_val (ro_move (v := .slice _ _ _) rfl) ?_
            refine st_val (ro_move (v := .slice _ _ _) rfl) ?_
            refine st_val (ro_move (v := .int _ _) rfl) ?_
            refine st_val (ro_indexAddr1 BwtRef_e24 rfl rfl (by omega)) ?_
            refine st_val (ro_load BwtRef_g3 rfl (by exact cellF (hFz.next From.rfl_) hsk)) ?_
            refine st_val (ro_subN (b := 1) rfl rfl (by omega)) ?_
            refine st_val (ro_indexAddr1 BwtRef_e24 rfl rfl (by omega)) ?_
            refine st_val (ro_load BwtRef_g3 rfl (by exact cellF (hBz.next hFz) (hcl (rowS L F k - 1) (by omega)))) ?_
            refine st_lit1 (v := .int _ _) BwtRef_q24 rfl rfl rfl ?_
            intro b31 w5 E31 hb31 hk31
            have hap32 := hT.len_le
            refine st_appendB BwtRef_q24 rfl (by decide) rfl (A := A2) (xs := (cI Bs).map iV) (news := [iV ((L.getD (rowS L F k - 1) 0 : Nat) : Int)]) (ho.kept_from (From.rfl_.next E31)) ((hFz.next (From.rfl_.next E31)).size) rfl rfl (fun _ => ⟨b31, 0, rfl, hk31.whole⟩) (fun h => by cases h) (by simp [Value.oneCell']) (by omega) (by omega) ?_
            intro A32 c32 w6 ho32 hg32
            have HF32 := (hFz.next (From.rfl_.next E31)).grew hg32 (fun k hk => (own_at (ho.kept_from (From.rfl_.next E31)) k hk).1)
            refine st_val (ro_assign (v := .slice _ _ _) rfl) ?_
            refine st_nil ?_
            refine nx_block ?_
            refine nx_cut ((Bs ++ [L.getD (rowS L F k - 1) 0], A32, c32, a)) ⟨(by rw [List.length_append]; rfl), rfl, trivial⟩ (by (iterate 17 refine agr_cons rfl ?_); exact agr_rfl) ?_
            exact ⟨hT.push hSA (by omega) (by omega), by rw [List.length_append, cI_push]; exact ho32.kept_from From.rfl_, HF32.next From.rfl_⟩
       rintro ⟨Bs', A2', c2', a'⟩ ρ7 w7 ⟨hT', ho', hFz'⟩
       refine cd_region ?_
       refine st_val (ro_move (v := .int _ _) rfl) ?_
       refine st_val (ro_addN (b := 1) rfl rfl (by omega)) ?_
       refine st_val (ro_assign (v := .int _ _) rfl) ?_
       refine st_nil ?_
       refine nx_cut ((k + 1, Bs', A2', c2', a')) ⟨(by first | rfl | (refine int_eq ?_; omega)), (by first | rfl | (refine int_eq ?_; omega)), (by first | rfl | (refine int_eq ?_; omega)), trivial⟩ (by (iterate 52 refine agr_cons rfl ?_); exact agr_rfl) ⟨?_, ?_⟩
       · exact ⟨by omega, hT', ho'.kept_from From.rfl_, hFz'.next From.rfl_⟩
       · show n + 1 - (k + 1) < n + 1 - k; omega
  (try with_reducible first | replace Q3 := of_decide_eq_true Q3 | replace Q3 := of_decide_eq_false Q3 | replace Q3 := bn_t Q3 | replace Q3 := bn_f Q3)
  (try with_reducible first | replace Q3 := of_decide_eq_true Q3 | replace Q3 := of_decide_eq_false Q3 | replace Q3 := bx_t Q3 | replace Q3 := bx_f Q3 | replace Q3 := be_t Q3 | replace Q3 := be_f Q3)
  first
   | (exfalso; first | omega | contradiction | (cases Q3; done))
   | skip
     refine cd_exit ?_
     refine ex_then ?_
     refine ex_then ?_
     refine ex_block ?_
     refine nx_then ?_
     refine cd_seq ?_
     refine cd_region ?_
     refine st_val (ro_move (v := .slice _ _ _) rfl) ?_
     refine st_val (ro_move (v := .int _ _) rfl) ?_
     refine st_val (ro_assign (v := .slice _ _ _) rfl) ?_
     refine st_val (ro_assign (v := .int _ _) rfl) ?_
     refine st_nil ?_
     refine nx_then ?_
     refine cd_ret ?_
     refine res2 (v := .slice _ _ _) (v' := .int _ _) rfl rfl rfl ?_
     obtain rfl : k = n + 1 := by omega
     have hb := (show BwT L F (L.length + 1) Bs a by rw [← hn]; exact hT).fin hSA
     exact ⟨⟨Bs, a, A2, c2, rfl, hb, own_le (ho.kept_from From.rfl_) hBz.size⟩, (hBz.next hFz)⟩
end Go.Proofs.Ytpafbgdbjambgaa
