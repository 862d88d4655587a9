/- suffix: slices.Equal, startsAt. -/
import Derived.Test.YtpafbgdbjambgaaSufInduce
namespace Go.Proofs.Ytpafbgdbjambgaa
open Go.RowKit
open Go.ChangeShapes Go.WideShapes Go.ChangeAt
open Go.Proofs.Ytpafbgdbjambgaa.SA
theorem SufEq_e51 : elemQ Try.prog 51 = some (21, 1) := by kernel_rfl
theorem SufEq_m51 : makeQ Try.prog 51 = some (21, 4, (.int .i32 0)) := by kernel_rfl
theorem SufEq_l51 : (elemQ Try.prog 51).isSome = true := by kernel_rfl
theorem SufEq_g21 : aggQ Try.prog 21 = some false := by kernel_rfl
theorem SufEq_f60_3 : fieldQ Try.prog 60 3 = some 3 := by kernel_rfl
theorem SufEq_g51 : aggQ Try.prog 51 = some false := by kernel_rfl
theorem SufEq_z21 : sizeQ Try.prog 21 = some 1 := by kernel_rfl
theorem eq_ge {α : Type} {a b : List α} {k : Nat} (hl : a.length = b.length) (hk : ¬ k < a.length) (h : a.take k = b.take k) : a = b := by
  rw [List.take_of_length_le (by omega), List.take_of_length_le (by omega)] at h
  exact h
theorem take_eq {α : Type} {a b : List α} {k : Nat} (ha : k < a.length) (hb : k < b.length) (h : a.take k = b.take k) (he : a[k] = b[k]) : a.take (k + 1) = b.take (k + 1) := by
  rw [List.take_succ_eq_append_getElem ha, List.take_succ_eq_append_getElem hb, h, he]
set_option maxRecDepth 100000 in
set_option maxHeartbeats 400000 in
theorem equal32_rt (A B : Option Addr) (ca cb n m : Nat) (a b : List Int) (w : World) (ha : RowOf jV w A a) (hb : RowOf jV w B b) (hn : n = a.length) (hm : m = b.length) (hl : n ≤ 1000000000000) :
    Rt Try.prog 38 [.slice A n ca, .slice B m cb] w (fun v w' => v = .bool (decide (a = b)) ∧ From w w') := by
  refine enter (n := 26) Try.func38 rfl rfl rfl ?_
  refine cd_seq ?_
  refine cd_region ?_
  refine st_val (ro_assign (v := .bool _) rfl) ?_
  refine st_nil ?_
  refine nx_then ?_
  refine cd_seq ?_
  refine cd_seq ?_
  refine cd_region ?_
  refine st_val (ro_move (v := .slice _ _ _) rfl) ?_
  refine st_val (ro_len SufEq_l51 rfl) ?_
  refine st_val (ro_move (v := .slice _ _ _) rfl) ?_
  refine st_val (ro_len SufEq_l51 rfl) ?_
  refine st_val (ro_neq rfl rfl) ?_
  refine st_nil ?_
  refine nx_then ?_
  refine cd_cond rfl (fun Q1 => ?_) (fun Q1 => ?_)
  · (try with_reducible first | replace Q1 := of_decide_eq_true Q1 | replace Q1 := of_decide_eq_false Q1 | replace Q1 := bn_t Q1 | replace Q1 := bn_f Q1)
    (try with_reducible first | replace Q1 := of_decide_eq_true Q1 | replace Q1 := of_decide_eq_false Q1 | replace Q1 := bx_t Q1 | replace Q1 := bx_f Q1 | replace Q1 := be_t Q1 | replace Q1 := be_f Q1)
    refine cd_seq ?_
    refine cd_region ?_
    refine st_val (ro_assign (v := .bool _) rfl) ?_
    refine st_nil ?_
    refine nx_then ?_
    refine cd_ret ?_
    refine rt_then ?_
    refine res1 (v := .bool _) rfl rfl ?_
    exact ⟨by rw [decide_eq_false]; rintro rfl; omega, From.rfl_⟩
  · (try with_reducible first | replace Q1 := of_decide_eq_true Q1 | replace Q1 := of_decide_eq_false Q1 | replace Q1 := bn_t Q1 | replace Q1 := bn_f Q1)
    (try with_reducible first | replace Q1 := of_decide_eq_true Q1 | replace Q1 := of_decide_eq_false Q1 | replace Q1 := bx_t Q1 | replace Q1 := bx_f Q1 | replace Q1 := be_t Q1 | replace Q1 := be_f Q1)
    refine cd_skip ?_
    refine nx_then ?_
    refine cd_seq ?_
    refine cd_seq ?_
    refine cd_region ?_
    refine st_val (ro_move (v := .slice _ _ _) rfl) ?_
    refine st_val (ro_len SufEq_l51 rfl) ?_
    refine st_val (ro_move (v := .int _ _) rfl) ?_
    refine st_nil ?_
    refine nx_then ?_
    refine cd_block ?_
    refine cd_loop (G := Nat) [4, 5, 14, 15, 16, 17, 18, 19, 20, 21, 22, 23, 24, 25] (fun k => [(13, .int .i64 (k : Nat))]) (fun k w' => k ≤ n ∧ a.take k = b.take k ∧ From w w') (fun k => n - k) (0) ⟨rfl, trivial⟩ ?_ ?_
    · exact ⟨Nat.zero_le _, rfl, From.rfl_⟩
    rintro k ρ2 w2 ⟨hk, ht, hB⟩
    refine cd_seq ?_
    refine cd_region ?_
    refine st_val (ro_lss rfl rfl) ?_
    refine st_nil ?_
    refine nx_then ?_
    refine cd_seq ?_
    refine cd_cond rfl (fun Q3 => ?_) (fun Q3 => ?_)
    · (try with_reducible first | replace Q3 := of_decide_eq_true Q3 | replace Q3 := of_decide_eq_false Q3 | replace Q3 := bn_t Q3 | replace Q3 := bn_f Q3)
      (try with_reducible first | replace Q3 := of_decide_eq_true Q3 | replace Q3 := of_decide_eq_false Q3 | replace Q3 := bx_t Q3 | replace Q3 := bx_f Q3 | replace Q3 := be_t Q3 | replace Q3 := be_f Q3)
      have hka : k < a.length := by omega
      have hkb : k < b.length := by omega
      obtain ⟨ba, oa, rfl, hca⟩ := ha (by omega)
      obtain ⟨bb, ob, rfl, hcb⟩ := hb (by omega)
      refine cd_skip ?_
      refine nx_then ?_
      refine cd_seq ?_
      refine cd_block ?_
      refine cd_seq ?_
      refine cd_region ?_
      refine st_val (ro_move (v := .int _ _) rfl) ?_
      refine st_val (ro_assign (v := .int _ _) rfl) ?_
      refine st_nil ?_
      refine nx_then ?_
      refine cd_seq ?_
      apply cd_drawn 9 [(16, eqp _), (17, eqp _), (18, eqp _), (19, eqp _), (20, eqp _), (21, eqp _), (22, eqp _), (23, eqp _), (24, eqp _)] (by kernel_rfl) (by kernel_rfl) ⟨eqp_mono _, eqp_mono _, eqp_mono _, eqp_mono _, eqp_mono _, eqp_mono _, eqp_mono _, eqp_mono _, eqp_mono _, trivial⟩
      case hop =>
       refine ⟨?_, ?_⟩
       · intro w5 D5
         show OpOK _ _ _ _ _ _ _
         exact ok_pure (ro_move (v := .slice _ _ _) rfl) rfl
       refine ⟨?_, ?_⟩
       · intro w6 D6
         show OpOK _ _ _ _ _ _ _
         exact ok_pure (ro_move (v := .int _ _) rfl) rfl
       refine ⟨?_, ?_⟩
       · intro w7 D7
         rintro _ rfl _ rfl
         show OpOK _ _ _ _ _ _ _
         exact ok_pure (ro_indexAddr1 SufEq_e51 rfl rfl (by omega)) rfl
       refine ⟨?_, ?_⟩
       · intro w8 D8
         rintro _ rfl
         show OpOK _ _ _ _ _ _ _
         exact ok_pure (ro_load SufEq_g21 rfl (by exact cellF (hB.next D8) (hca k hka))) rfl
       refine ⟨?_, ?_⟩
       · intro w9 D9
         show OpOK _ _ _ _ _ _ _
         exact ok_pure (ro_move (v := .slice _ _ _) rfl) rfl
       refine ⟨?_, ?_⟩
       · intro w10 D10
         show OpOK _ _ _ _ _ _ _
         exact ok_pure (ro_move (v := .int _ _) rfl) rfl
       refine ⟨?_, ?_⟩
       · intro w11 D11
         rintro _ rfl _ rfl
         show OpOK _ _ _ _ _ _ _
         exact ok_pure (ro_indexAddr1 SufEq_e51 rfl rfl (by omega)) rfl
       refine ⟨?_, ?_⟩
       · intro w12 D12
         rintro _ rfl
         show OpOK _ _ _ _ _ _ _
         exact ok_pure (ro_load SufEq_g21 rfl (by exact cellF (hB.next D12) (hcb k hkb))) rfl
       refine ⟨?_, ?_⟩
       · intro w13 D13
         rintro _ rfl _ rfl
         show OpOK _ _ _ _ _ _ _
         exact ok_pure (ro_neq rfl rfl) rfl
       exact trivial
      case hend =>
       intro w14 D14
       rintro _ rfl _ rfl _ rfl _ rfl _ rfl _ rfl _ rfl _ rfl _ rfl
       show St _ _ _ _ _ _ _
       refine st_nil ?_
       refine nx_then ?_
       refine cd_cond rfl (fun Q15 => ?_) (fun Q15 => ?_)
       · (try with_reducible first | replace Q15 := of_decide_eq_true Q15 | replace Q15 := of_decide_eq_false Q15 | replace Q15 := bn_t Q15 | replace Q15 := bn_f Q15)
         (try with_reducible first | replace Q15 := of_decide_eq_true Q15 | replace Q15 := of_decide_eq_false Q15 | replace Q15 := bx_t Q15 | replace Q15 := bx_f Q15 | replace Q15 := be_t Q15 | replace Q15 := be_f Q15)
         refine cd_seq ?_
         refine cd_region ?_
         refine st_val (ro_assign (v := .bool _) rfl) ?_
         refine st_nil ?_
         refine nx_then ?_
         refine cd_ret ?_
         refine rt_block ?_
         refine rt_then ?_
         refine rt_then ?_
         refine rt_block ?_
         refine rt_then ?_
         refine res1 (v := .bool _) rfl rfl ?_
         exact ⟨by rw [decide_eq_false]; rintro rfl; simp_all, (hB.next D14)⟩
       · (try with_reducible first | replace Q15 := of_decide_eq_true Q15 | replace Q15 := of_decide_eq_false Q15 | replace Q15 := bn_t Q15 | replace Q15 := bn_f Q15)
         (try with_reducible first | replace Q15 := of_decide_eq_true Q15 | replace Q15 := of_decide_eq_false Q15 | replace Q15 := bx_t Q15 | replace Q15 := bx_f Q15 | replace Q15 := be_t Q15 | replace Q15 := be_f Q15)
         refine cd_skip ?_
         refine nx_block ?_
         refine nx_then ?_
         refine cd_region ?_
         refine st_val (ro_addN (b := 1) rfl rfl (by omega)) ?_
         refine st_val (ro_move (v := .int _ _) rfl) ?_
         refine st_nil ?_
         refine nx_cut (k + 1) ⟨(by first | rfl | (refine int_eq ?_; omega)), trivial⟩ (by (iterate 29 refine agr_cons rfl ?_); exact agr_rfl) ⟨?_, ?_⟩
         · exact ⟨by omega, take_eq hka hkb ht (by simp_all), (hB.next D14)⟩
         · show n - (k + 1) < n - k; omega
    · (try with_reducible first | replace Q3 := of_decide_eq_true Q3 | replace Q3 := of_decide_eq_false Q3 | replace Q3 := bn_t Q3 | replace Q3 := bn_f Q3)
      (try with_reducible first | replace Q3 := of_decide_eq_true Q3 | replace Q3 := of_decide_eq_false Q3 | replace Q3 := bx_t Q3 | replace Q3 := bx_f Q3 | replace Q3 := be_t Q3 | replace Q3 := be_f Q3)
      refine cd_exit ?_
      refine ex_then ?_
      refine ex_then ?_
      refine ex_block ?_
      refine nx_then ?_
      refine cd_seq ?_
      refine cd_region ?_
      refine st_val (ro_assign (v := .bool _) rfl) ?_
      refine st_nil ?_
      refine nx_then ?_
      refine cd_ret ?_
      refine res1 (v := .bool _) rfl rfl ?_
      exact ⟨by rw [decide_eq_true (eq_ge (k := k) (by omega) (by omega) ht)], hB⟩
theorem text_ss {w : World} {AS : Option Addr} {m : Nat} {ss : Nat → Nat} (h : 0 < m → ∃ g, AS = some ⟨g, 0, none⟩ ∧ VJ w g m (fun k => (ss k : Nat))) (h0 : 0 < m) : ∃ bs os, AS = some ⟨bs, os, none⟩ ∧ ∀ k, k < m → w.cell? ⟨bs, os + k, none⟩ = some (.int .i32 ((ss k : Nat) : Int)) := by
  obtain ⟨g, rfl, hv⟩ := h h0
  exact ⟨g, 0, rfl, fun k hk => by rw [Nat.zero_add]; exact hv.rdN hk⟩
set_option maxRecDepth 100000 in
set_option maxHeartbeats 400000 in
theorem startsAt_rt (b n K m : Nat) (t ss : Nat → Nat) (w : World) (hT : TextAt w b n K t m ss) (h0 : 0 < m) (hm : m ≤ 200000) (g : Nat) (nu : Nat → Nat) (hg : VJ w g m (fun r => (nu r : Nat))) (hnu : ∀ r, r < m → nu r < m) :
    Rt Try.prog 31 [.pointer (some ⟨b, 0, none⟩), .slice (some ⟨g, 0, none⟩) m m] w (fun v w' => (∃ g2, v = .slice (some ⟨g2, 0, none⟩) m m ∧ w.heap.size ≤ g2 ∧ VJ w' g2 m (fun r => ((ss (nu r) : Nat) : Int))) ∧ From w w') := by
  obtain ⟨gl, gr, AS, cs, ge, hb, hl, hr, hss, he⟩ := hT
  obtain ⟨bs, os, rfl, hsc⟩ := text_ss hss h0
  refine enter (n := 30) Try.func31 rfl rfl rfl ?_
  refine cd_seq ?_
  refine cd_region ?_
  refine st_val (ro_assign (v := .slice _ _ _) rfl) ?_
  refine st_nil ?_
  refine nx_then ?_
  refine cd_seq ?_
  refine cd_region ?_
  refine st_val (ro_move (v := .slice _ _ _) rfl) ?_
  refine st_val (ro_len SufEq_l51 rfl) ?_
  refine st_make SufEq_m51 rfl rfl rfl (by omega) (by omega) ?_
  intro b10 w1 E10 hb10 hk10
  have hg10 : w.heap.size ≤ b10 := by rw [hb10]; exact (From.rfl_).size
  refine st_val (ro_assign (v := .slice _ _ _) rfl) ?_
  refine st_nil ?_
  refine nx_then ?_
  refine cd_seq ?_
  refine cd_seq ?_
  refine cd_region ?_
  refine st_val (ro_move (v := .slice _ _ _) rfl) ?_
  refine st_val (ro_len SufEq_l51 rfl) ?_
  refine st_val (ro_move (v := .int _ _) rfl) ?_
  refine st_nil ?_
  refine nx_then ?_
  refine cd_block ?_
  refine cd_loop (G := Nat × (Nat → Int)) [6, 7, 14, 15, 16, 17, 18, 19, 20, 21, 22, 23, 24, 25, 26, 27, 28] (fun (k, _) => [(13, .int .i64 (k : Nat))]) (fun (k, xs) w' => k ≤ m ∧ (∀ i, i < k → xs i = ((ss (nu i) : Nat) : Int)) ∧ VJ w' b10 m xs ∧ From w w') (fun (k, _) => m - k) ((0, fun _ => 0)) ⟨rfl, trivial⟩ ?_ ?_
  · exact ⟨Nat.zero_le _, fun i h => absurd h (by omega), VJ.of_blk (by rw [← tabJ_zero]; exact hk10), (From.rfl_.next E10)⟩
  rintro ⟨k, xs⟩ ρ2 w2 ⟨hk, hx0, hxs, hB⟩
  refine cd_seq ?_
  refine cd_region ?_
  refine st_val (ro_lss rfl rfl) ?_
  refine st_nil ?_
  refine nx_then ?_
  refine cd_seq ?_
  refine cd_cond rfl (fun Q3 => ?_) (fun Q3 => ?_)
  · (try with_reducible first | replace Q3 := of_decide_eq_true Q3 | replace Q3 := of_decide_eq_false Q3 | replace Q3 := bn_t Q3 | replace Q3 := bn_f Q3)
    (try with_reducible first | replace Q3 := of_decide_eq_true Q3 | replace Q3 := of_decide_eq_false Q3 | replace Q3 := bx_t Q3 | replace Q3 := bx_f Q3 | replace Q3 := be_t Q3 | replace Q3 := be_f Q3)
    have hkm : k < m := by omega
    obtain ⟨cu, hcu, hsz, hce⟩ := id hxs
    have hnk := hnu k hkm
    refine cd_skip ?_
    refine nx_then ?_
    refine cd_seq ?_
    refine cd_block ?_
    refine cd_seq ?_
    refine cd_region ?_
    refine st_val (ro_move (v := .int _ _) rfl) ?_
    refine st_val (ro_indexAddr0 SufEq_e51 rfl rfl (by exact hkm)) ?_
    refine st_val (ro_load SufEq_g21 rfl (by exact (hg.from_ hB).rdN hkm)) ?_
    refine st_val (ro_assign (v := .int _ _) rfl) ?_
    refine st_val (ro_assign (v := .int _ _) rfl) ?_
    refine st_nil ?_
    refine nx_then ?_
    refine cd_region ?_
    refine st_val (ro_move (v := .slice _ _ _) rfl) ?_
    refine st_val (ro_move (v := .int _ _) rfl) ?_
    refine st_val (ro_move (v := .pointer _) rfl) ?_
    refine st_val (ro_nilCheck rfl) ?_
    refine st_val (ro_fieldAddr SufEq_f60_3 rfl) ?_
    refine st_val (ro_load SufEq_g51 rfl (by exact cellF hB (hb.rd 3 rfl))) ?_
    refine st_val (ro_move (v := .int _ _) rfl) ?_
    refine st_val (ro_indexAddr1 SufEq_e51 rfl rfl (by exact hnk)) ?_
    refine st_val (ro_load SufEq_g21 rfl (by exact cellF hB (hsc _ hnk))) ?_
    refine st_val (ro_indexAddr0 SufEq_e51 rfl rfl (by exact hkm)) ?_
    refine st_put (v := .int _ _) SufEq_z21 rfl rfl rfl (hcu) (by omega) ?_
    intro w4 O5 P5
    have hxs5 := VJ.put P5 hsz hce hkm
    refine st_nil ?_
    refine nx_block ?_
    refine nx_then ?_
    refine cd_region ?_
    refine st_val (ro_addN (b := 1) rfl rfl (by omega)) ?_
    refine st_val (ro_move (v := .int _ _) rfl) ?_
    refine st_nil ?_
    refine nx_cut ((k + 1, upd xs k ((ss (nu k) : Nat) : Int))) ⟨(by first | rfl | (refine int_eq ?_; omega)), trivial⟩ (by (iterate 36 refine agr_cons rfl ?_); exact agr_rfl) ⟨?_, ?_⟩
    · refine ⟨by omega, fun i hi => ?_, hxs5, (hB.only O5 (hg10))⟩
      unfold upd
      split
      · rename_i e; rw [e]
      · exact hx0 i (by omega)
    · show m - (k + 1) < m - k; omega
  · (try with_reducible first | replace Q3 := of_decide_eq_true Q3 | replace Q3 := of_decide_eq_false Q3 | replace Q3 := bn_t Q3 | replace Q3 := bn_f Q3)
    (try with_reducible first | replace Q3 := of_decide_eq_true Q3 | replace Q3 := of_decide_eq_false Q3 | replace Q3 := bx_t Q3 | replace Q3 := bx_f Q3 | replace Q3 := be_t Q3 | replace Q3 := be_f Q3)
    refine cd_exit ?_
    refine ex_then ?_
    refine ex_then ?_
    refine ex_block ?_
    refine nx_then ?_
    refine cd_seq ?_
    refine cd_region ?_
    refine st_val (ro_move (v := .slice _ _ _) rfl) ?_
    refine st_val (ro_assign (v := .slice _ _ _) rfl) ?_
    refine st_nil ?_
    refine nx_then ?_
    refine cd_ret ?_
    refine res1 (v := .slice _ _ _) rfl rfl ?_
    obtain rfl : m = k := by omega
    exact ⟨⟨b10, rfl, hg10, hxs.congr hx0⟩, hB⟩
end Go.Proofs.Ytpafbgdbjambgaa
