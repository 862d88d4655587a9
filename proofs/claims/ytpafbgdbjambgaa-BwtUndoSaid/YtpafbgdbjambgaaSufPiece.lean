/- suffix: samePiece. -/
import Derived.Test.YtpafbgdbjambgaaSufEq
namespace Go.Proofs.Ytpafbgdbjambgaa
open Go.RowKit
open Go.ChangeShapes Go.WideShapes Go.ChangeAt
open Go.Proofs.Ytpafbgdbjambgaa.SA
theorem SufPiece_e51 : elemQ Try.prog 51 = some (21, 1) := by kernel_rfl
theorem SufPiece_s3 : (Try.prog.underlying 3).isSome = true := by kernel_rfl
theorem SufPiece_i21 : Try.prog.underlying 21 = some (.int .i32) := by kernel_rfl
theorem SufPiece_f60_3 : fieldQ Try.prog 60 3 = some 3 := by kernel_rfl
theorem SufPiece_g51 : aggQ Try.prog 51 = some false := by kernel_rfl
theorem SufPiece_l51 : (elemQ Try.prog 51).isSome = true := by kernel_rfl
theorem SufPiece_f60_0 : fieldQ Try.prog 60 0 = some 0 := by kernel_rfl
theorem SufPiece_g21 : aggQ Try.prog 21 = some false := by kernel_rfl
theorem SufPiece_k38 : callable Try.prog 38 = true := by kernel_rfl
def segL (t : Nat → Nat) (i k : Nat) : List Int := (List.range k).map fun x => (t (i + x) : Int)
theorem segL_len {t : Nat → Nat} {i k : Nat} : (segL t i k).length = k := by simp [segL]
theorem text_seg {w : World} {g n l k : Nat} {t : Nat → Nat} (h : VJ w g n fun i => (t i : Nat)) (hl : l < n) (hk : l + k ≤ n) : RowOf jV w (restOf (some ⟨g, 0, none⟩) n l 1) (segL t l k) := fun h0 => by
  by_cases e : n = l
  · omega
  · refine ⟨g, l, ?_, fun i hi => ?_⟩
    · unfold restOf
      rw [if_neg e]
      simp [Addr.add]
      omega
    · rw [segL_len] at hi
      have := h.rd (i := l + i) (by omega)
      simpa [segL] using this
theorem segL_eq {t : Nat → Nat} {i j k : Nat} {k2 : Nat} : segL t i k = segL t j k2 ↔ k = k2 ∧ ∀ x, x < k → t (i + x) = t (j + x) := by
  constructor
  · intro h
    have e := congrArg List.length h
    rw [segL_len, segL_len] at e
    subst e
    refine ⟨rfl, fun x hx => ?_⟩
    have := congrArg (fun l => l[x]?) h
    simp [segL, hx] at this
    omega
  · rintro ⟨rfl, h⟩
    unfold segL
    exact List.map_congr_left fun x hx => by rw [h x (List.mem_range.1 hx)]
theorem same_last {n m a b : Nat} {t ss : Nat → Nat} (H : Starts n t m ss) (h : Txt n t) (h2 : 2 ≤ n) (ha : a < m) (hb : b < m) (hab : a = m - 1 ∨ b = m - 1) (he : piece n t (ss a) = piece n t (ss b)) : a = b := by
  have hl := H.last h h2
  rcases hab with rfl | rfl
  · rw [hl] at he
    have e := piece_last h (H.is b hb).2.1 he.symm
    exact H.inj ha hb (by rw [hl, e])
  · rw [hl] at he
    have e := piece_last h (H.is a ha).2.1 he
    exact H.inj ha hb (by rw [hl, e])
theorem same_seg {n m a b : Nat} {t ss : Nat → Nat} (H : Starts n t m ss) (h : Txt n t) (ha : a + 1 < m) (hb : b + 1 < m) : segL t (ss a) (ss (a + 1) + 1 - ss a) = segL t (ss b) (ss (b + 1) + 1 - ss b) ↔ piece n t (ss a) = piece n t (ss b) := by
  obtain ⟨a1, a2⟩ := H.next h ha
  obtain ⟨b1, b2⟩ := H.next h hb
  have a3 := H.up a (a + 1) (by omega) ha
  have b3 := H.up b (b + 1) (by omega) hb
  rw [segL_eq, piece_seg h a1 b1, a2, b2]
  exact ⟨fun ⟨x, y⟩ => ⟨by omega, fun k hk => y k (by omega)⟩, fun ⟨x, y⟩ => ⟨by omega, fun k hk => y k (by omega)⟩⟩
set_option maxRecDepth 100000 in
set_option maxHeartbeats 400000 in
theorem same_rt (b n K m : Nat) (t ss : Nat → Nat) (w : World) (hT : TextAt w b n K t m ss) (h0 : 0 < m) (hm : m ≤ 200000) (hn : n ≤ 200000) (H : Starts n t m ss) (h2 : 2 ≤ n) (ht : Txt n t) (x y : Nat) (hx : x < m) (hy : y < m) :
    Rt Try.prog 33 [.pointer (some ⟨b, 0, none⟩), .int .i32 (x : Nat), .int .i32 (y : Nat)] w (fun v w' => (∃ r, v = .bool r ∧ (r = true ↔ piece n t (ss x) = piece n t (ss y))) ∧ From w w') := by
  obtain ⟨gl, gr, AS, cs, ge, hb, hl, hr, hss, he⟩ := hT
  obtain ⟨bs, os, rfl, hsc⟩ := text_ss hss h0
  refine enter (n := 69) Try.func33 rfl rfl rfl ?_
  refine cd_seq ?_
  refine cd_region ?_
  refine st_val (ro_assign (v := .bool _) rfl) ?_
  refine st_nil ?_
  refine nx_then ?_
  refine cd_seq ?_
  refine cd_region ?_
  refine st_val (ro_move (v := .pointer _) rfl) ?_
  refine st_val (ro_nilCheck rfl) ?_
  refine st_val (ro_fieldAddr SufPiece_f60_3 rfl) ?_
  refine st_val (ro_load SufPiece_g51 rfl (by exact cellF From.rfl_ (hb.rd 3 rfl))) ?_
  refine st_val (ro_len SufPiece_l51 rfl) ?_
  refine st_val (ro_conv32 SufPiece_s3 SufPiece_i21 rfl (by omega)) ?_
  refine st_val (ro_sub32 (r := ((m - 1 : Nat) : Int)) rfl rfl (by omega) (by omega)) ?_
  refine st_val (ro_assign (v := .int _ _) rfl) ?_
  refine st_nil ?_
  refine nx_then ?_
  refine cd_seq ?_
  refine cd_seq ?_
  refine cd_region ?_
  refine st_val (ro_move (v := .int _ _) rfl) ?_
  refine st_val (ro_move (v := .int _ _) rfl) ?_
  refine st_val (ro_eql rfl rfl) ?_
  refine st_val (ro_move (v := .bool _) rfl) ?_
  refine st_split (t := 18) rfl (fun Q1 => ?_) (fun Q1 => ?_)
  · (try with_reducible first | replace Q1 := of_decide_eq_true Q1 | replace Q1 := of_decide_eq_false Q1 | replace Q1 := bn_t Q1 | replace Q1 := bn_f Q1)
    (try with_reducible first | replace Q1 := of_decide_eq_true Q1 | replace Q1 := of_decide_eq_false Q1 | replace Q1 := bx_t Q1 | replace Q1 := bx_f Q1 | replace Q1 := be_t Q1 | replace Q1 := be_f Q1)
    refine st_gno rfl rfl ?_
    refine st_gno rfl rfl ?_
    refine st_gno rfl rfl ?_
    refine st_val (ro_pickT (v := .bool _) rfl rfl) ?_
    refine st_nil ?_
    refine nx_then ?_
    refine cd_condT rfl ?_
    refine cd_seq ?_
    refine cd_region ?_
    refine st_val (ro_move (v := .int _ _) rfl) ?_
    refine st_val (ro_move (v := .int _ _) rfl) ?_
    refine st_val (ro_eql rfl rfl) ?_
    refine st_val (ro_assign (v := .bool _) rfl) ?_
    refine st_nil ?_
    refine nx_then ?_
    refine cd_ret ?_
    refine rt_then ?_
    refine res1 (v := .bool _) rfl rfl ?_
    refine ⟨⟨_, rfl, ?_⟩, From.rfl_⟩
    rw [beq_iff_eq]
    constructor
    · intro h
      obtain rfl : x = y := by omega
      rfl
    · intro h
      have := same_last H ht h2 hx hy (by omega) h
      omega
  · (try with_reducible first | replace Q1 := of_decide_eq_true Q1 | replace Q1 := of_decide_eq_false Q1 | replace Q1 := bn_t Q1 | replace Q1 := bn_f Q1)
    (try with_reducible first | replace Q1 := of_decide_eq_true Q1 | replace Q1 := of_decide_eq_false Q1 | replace Q1 := bx_t Q1 | replace Q1 := bx_f Q1 | replace Q1 := be_t Q1 | replace Q1 := be_f Q1)
    refine st_unguard rfl ?_
    refine st_val (ro_move (v := .int _ _) rfl) ?_
    refine st_unguard rfl ?_
    refine st_val (ro_move (v := .int _ _) rfl) ?_
    refine st_unguard rfl ?_
    refine st_val (ro_eql rfl rfl) ?_
    refine st_val (ro_pickF (v := .bool _) rfl rfl) ?_
    refine st_nil ?_
    refine nx_then ?_
    refine cd_cond rfl (fun Q2 => ?_) (fun Q2 => ?_)
    · (try with_reducible first | replace Q2 := of_decide_eq_true Q2 | replace Q2 := of_decide_eq_false Q2 | replace Q2 := bn_t Q2 | replace Q2 := bn_f Q2)
      (try with_reducible first | replace Q2 := of_decide_eq_true Q2 | replace Q2 := of_decide_eq_false Q2 | replace Q2 := bx_t Q2 | replace Q2 := bx_f Q2 | replace Q2 := be_t Q2 | replace Q2 := be_f Q2)
      refine cd_seq ?_
      refine cd_region ?_
      refine st_val (ro_move (v := .int _ _) rfl) ?_
      refine st_val (ro_move (v := .int _ _) rfl) ?_
      refine st_val (ro_eql rfl rfl) ?_
      refine st_val (ro_assign (v := .bool _) rfl) ?_
      refine st_nil ?_
      refine nx_then ?_
      refine cd_ret ?_
      refine rt_then ?_
      refine res1 (v := .bool _) rfl rfl ?_
      refine ⟨⟨_, rfl, ?_⟩, From.rfl_⟩
      rw [beq_iff_eq]
      constructor
      · intro h
        obtain rfl : x = y := by omega
        rfl
      · intro h
        have := same_last H ht h2 hx hy (by omega) h
        omega
    · (try with_reducible first | replace Q2 := of_decide_eq_true Q2 | replace Q2 := of_decide_eq_false Q2 | replace Q2 := bn_t Q2 | replace Q2 := bn_f Q2)
      (try with_reducible first | replace Q2 := of_decide_eq_true Q2 | replace Q2 := of_decide_eq_false Q2 | replace Q2 := bx_t Q2 | replace Q2 := bx_f Q2 | replace Q2 := be_t Q2 | replace Q2 := be_f Q2)
      have hx1 : x + 1 < m := by omega
      have hy1 : y + 1 < m := by omega
      have a1 := (H.is (x + 1) hx1).2.1
      have a2 := H.up x (x + 1) (by omega) hx1
      have b1 := (H.is (y + 1) hy1).2.1
      have b2 := H.up y (y + 1) (by omega) hy1
      refine cd_skip ?_
      refine nx_then ?_
      refine cd_seq ?_
      apply cd_drawn 44 [(26, eqp _), (27, eqp _), (28, eqp _), (29, eqp _), (30, eqp _), (31, eqp _), (32, eqp _), (33, eqp _), (34, eqp _), (35, eqp _), (36, eqp _), (37, eqp _), (38, eqp _), (39, eqp _), (40, eqp _), (41, eqp _), (42, eqp _), (43, eqp _), (44, eqp _), (45, eqp _), (46, eqp _), (47, eqp _), (48, eqp _), (49, eqp _), (50, eqp _), (51, eqp _), (52, eqp _), (53, eqp _), (54, eqp _), (55, eqp _), (56, eqp _), (57, eqp _), (58, eqp _), (59, eqp _), (60, eqp _), (61, eqp _), (62, eqp _), (63, eqp _), (64, eqp _), (65, eqp _), (66, eqp _), (67, eqp _), (68, eqp _), (6, eqp _)] (by kernel_rfl) (by kernel_rfl) ⟨eqp_mono _, eqp_mono _, eqp_mono _, eqp_mono _, eqp_mono _, eqp_mono _, eqp_mono _, eqp_mono _, eqp_mono _, eqp_mono _, eqp_mono _, eqp_mono _, eqp_mono _, eqp_mono _, eqp_mono _, eqp_mono _, eqp_mono _, eqp_mono _, eqp_mono _, eqp_mono _, eqp_mono _, eqp_mono _, eqp_mono _, eqp_mono _, eqp_mono _, eqp_mono _, eqp_mono _, eqp_mono _, eqp_mono _, eqp_mono _, eqp_mono _, eqp_mono _, eqp_mono _, eqp_mono _, eqp_mono _, eqp_mono _, eqp_mono _, eqp_mono _, eqp_mono _, eqp_mono _, eqp_mono _, eqp_mono _, eqp_mono _, eqp_mono _, trivial⟩
      case hop =>
       refine ⟨?_, ?_⟩
       · intro w4 D4
         show OpOK _ _ _ _ _ _ _
         exact ok_pure (ro_move (v := .pointer _) rfl) rfl
       refine ⟨?_, ?_⟩
       · intro w5 D5
         rintro _ rfl
         show OpOK _ _ _ _ _ _ _
         exact ok_pure (ro_nilCheck rfl) rfl
       refine ⟨?_, ?_⟩
       · intro w6 D6
         rintro _ rfl
         show OpOK _ _ _ _ _ _ _
         exact ok_pure (ro_fieldAddr SufPiece_f60_0 rfl) rfl
       refine ⟨?_, ?_⟩
       · intro w7 D7
         rintro _ rfl
         show OpOK _ _ _ _ _ _ _
         exact ok_pure (ro_load SufPiece_g51 rfl (by exact cellF (From.rfl_.next D7) (hb.rd 0 rfl))) rfl
       refine ⟨?_, ?_⟩
       · intro w8 D8
         show OpOK _ _ _ _ _ _ _
         exact ok_pure (ro_move (v := .pointer _) rfl) rfl
       refine ⟨?_, ?_⟩
       · intro w9 D9
         rintro _ rfl
         show OpOK _ _ _ _ _ _ _
         exact ok_pure (ro_nilCheck rfl) rfl
       refine ⟨?_, ?_⟩
       · intro w10 D10
         rintro _ rfl
         show OpOK _ _ _ _ _ _ _
         exact ok_pure (ro_fieldAddr SufPiece_f60_3 rfl) rfl
       refine ⟨?_, ?_⟩
       · intro w11 D11
         rintro _ rfl
         show OpOK _ _ _ _ _ _ _
         exact ok_pure (ro_load SufPiece_g51 rfl (by exact cellF (From.rfl_.next D11) (hb.rd 3 rfl))) rfl
       refine ⟨?_, ?_⟩
       · intro w12 D12
         show OpOK _ _ _ _ _ _ _
         exact ok_pure (ro_move (v := .int _ _) rfl) rfl
       refine ⟨?_, ?_⟩
       · intro w13 D13
         rintro _ rfl _ rfl
         show OpOK _ _ _ _ _ _ _
         exact ok_pure (ro_indexAddr1 SufPiece_e51 rfl rfl (by exact hx)) rfl
       refine ⟨?_, ?_⟩
       · intro w14 D14
         rintro _ rfl
         show OpOK _ _ _ _ _ _ _
         exact ok_pure (ro_load SufPiece_g21 rfl (by exact cellF (From.rfl_.next D14) (hsc x hx))) rfl
       refine ⟨?_, ?_⟩
       · intro w15 D15
         show OpOK _ _ _ _ _ _ _
         exact ok_pure (ro_move (v := .pointer _) rfl) rfl
       refine ⟨?_, ?_⟩
       · intro w16 D16
         rintro _ rfl
         show OpOK _ _ _ _ _ _ _
         exact ok_pure (ro_nilCheck rfl) rfl
       refine ⟨?_, ?_⟩
       · intro w17 D17
         rintro _ rfl
         show OpOK _ _ _ _ _ _ _
         exact ok_pure (ro_fieldAddr SufPiece_f60_3 rfl) rfl
       refine ⟨?_, ?_⟩
       · intro w18 D18
         rintro _ rfl
         show OpOK _ _ _ _ _ _ _
         exact ok_pure (ro_load SufPiece_g51 rfl (by exact cellF (From.rfl_.next D18) (hb.rd 3 rfl))) rfl
       refine ⟨?_, ?_⟩
       · intro w19 D19
         show OpOK _ _ _ _ _ _ _
         exact ok_pure (ro_move (v := .int _ _) rfl) rfl
       refine ⟨?_, ?_⟩
       · intro w20 D20
         rintro _ rfl
         show OpOK _ _ _ _ _ _ _
         exact ok_pure (ro_add32 (r := ((x + 1 : Nat) : Int)) rfl rfl (by omega) (by omega)) rfl
       refine ⟨?_, ?_⟩
       · intro w21 D21
         rintro _ rfl _ rfl
         show OpOK _ _ _ _ _ _ _
         exact ok_pure (ro_indexAddr1 SufPiece_e51 rfl rfl (by exact hx1)) rfl
       refine ⟨?_, ?_⟩
       · intro w22 D22
         rintro _ rfl
         show OpOK _ _ _ _ _ _ _
         exact ok_pure (ro_load SufPiece_g21 rfl (by exact cellF (From.rfl_.next D22) (hsc (x + 1) hx1))) rfl
       refine ⟨?_, ?_⟩
       · intro w23 D23
         rintro _ rfl
         show OpOK _ _ _ _ _ _ _
         exact ok_pure (ro_add32 (r := ((ss (x + 1) + 1 : Nat) : Int)) rfl rfl (by omega) (by omega)) rfl
       refine ⟨?_, ?_⟩
       · intro w24 D24
         rintro _ rfl _ rfl _ rfl
         show OpOK _ _ _ _ _ _ _
         exact ok_pure (ro_sliceO (l := ss x) (h := ss (x + 1) + 1) SufPiece_e51 rfl (.inr ⟨_, _, _, rfl, rfl, rfl⟩) (.inr ⟨_, _, _, rfl, rfl, rfl⟩) (by omega) (by omega)) rfl
       refine ⟨?_, ?_⟩
       · intro w25 D25
         show OpOK _ _ _ _ _ _ _
         exact ok_pure (ro_move (v := .pointer _) rfl) rfl
       refine ⟨?_, ?_⟩
       · intro w26 D26
         rintro _ rfl
         show OpOK _ _ _ _ _ _ _
         exact ok_pure (ro_nilCheck rfl) rfl
       refine ⟨?_, ?_⟩
       · intro w27 D27
         rintro _ rfl
         show OpOK _ _ _ _ _ _ _
         exact ok_pure (ro_fieldAddr SufPiece_f60_0 rfl) rfl
       refine ⟨?_, ?_⟩
       · intro w28 D28
         rintro _ rfl
         show OpOK _ _ _ _ _ _ _
         exact ok_pure (ro_load SufPiece_g51 rfl (by exact cellF (From.rfl_.next D28) (hb.rd 0 rfl))) rfl
       refine ⟨?_, ?_⟩
       · intro w29 D29
         show OpOK _ _ _ _ _ _ _
         exact ok_pure (ro_move (v := .pointer _) rfl) rfl
       refine ⟨?_, ?_⟩
       · intro w30 D30
         rintro _ rfl
         show OpOK _ _ _ _ _ _ _
         exact ok_pure (ro_nilCheck rfl) rfl
       refine ⟨?_, ?_⟩
       · intro w31 D31
         rintro _ rfl
         show OpOK _ _ _ _ _ _ _
         exact ok_pure (ro_fieldAddr SufPiece_f60_3 rfl) rfl
       refine ⟨?_, ?_⟩
       · intro w32 D32
         rintro _ rfl
         show OpOK _ _ _ _ _ _ _
         exact ok_pure (ro_load SufPiece_g51 rfl (by exact cellF (From.rfl_.next D32) (hb.rd 3 rfl))) rfl
       refine ⟨?_, ?_⟩
       · intro w33 D33
         show OpOK _ _ _ _ _ _ _
         exact ok_pure (ro_move (v := .int _ _) rfl) rfl
       refine ⟨?_, ?_⟩
       · intro w34 D34
         rintro _ rfl _ rfl
         show OpOK _ _ _ _ _ _ _
         exact ok_pure (ro_indexAddr1 SufPiece_e51 rfl rfl (by exact hy)) rfl
       refine ⟨?_, ?_⟩
       · intro w35 D35
         rintro _ rfl
         show OpOK _ _ _ _ _ _ _
         exact ok_pure (ro_load SufPiece_g21 rfl (by exact cellF (From.rfl_.next D35) (hsc y hy))) rfl
       refine ⟨?_, ?_⟩
       · intro w36 D36
         show OpOK _ _ _ _ _ _ _
         exact ok_pure (ro_move (v := .pointer _) rfl) rfl
       refine ⟨?_, ?_⟩
       · intro w37 D37
         rintro _ rfl
         show OpOK _ _ _ _ _ _ _
         exact ok_pure (ro_nilCheck rfl) rfl
       refine ⟨?_, ?_⟩
       · intro w38 D38
         rintro _ rfl
         show OpOK _ _ _ _ _ _ _
         exact ok_pure (ro_fieldAddr SufPiece_f60_3 rfl) rfl
       refine ⟨?_, ?_⟩
       · intro w39 D39
         rintro _ rfl
         show OpOK _ _ _ _ _ _ _
         exact ok_pure (ro_load SufPiece_g51 rfl (by exact cellF (From.rfl_.next D39) (hb.rd 3 rfl))) rfl
       refine ⟨?_, ?_⟩
       · intro w40 D40
         show OpOK _ _ _ _ _ _ _
         exact ok_pure (ro_move (v := .int _ _) rfl) rfl
       refine ⟨?_, ?_⟩
       · intro w41 D41
         rintro _ rfl
         show OpOK _ _ _ _ _ _ _
         exact ok_pure (ro_add32 (r := ((y + 1 : Nat) : Int)) rfl rfl (by omega) (by omega)) rfl
       refine ⟨?_, ?_⟩
       · intro w42 D42
         rintro _ rfl _ rfl
         show OpOK _ _ _ _ _ _ _
         exact ok_pure (ro_indexAddr1 SufPiece_e51 rfl rfl (by exact hy1)) rfl
       refine ⟨?_, ?_⟩
       · intro w43 D43
         rintro _ rfl
         show OpOK _ _ _ _ _ _ _
         exact ok_pure (ro_load SufPiece_g21 rfl (by exact cellF (From.rfl_.next D43) (hsc (y + 1) hy1))) rfl
       refine ⟨?_, ?_⟩
       · intro w44 D44
         rintro _ rfl
         show OpOK _ _ _ _ _ _ _
         exact ok_pure (ro_add32 (r := ((ss (y + 1) + 1 : Nat) : Int)) rfl rfl (by omega) (by omega)) rfl
       refine ⟨?_, ?_⟩
       · intro w45 D45
         rintro _ rfl _ rfl _ rfl
         show OpOK _ _ _ _ _ _ _
         exact ok_pure (ro_sliceO (l := ss y) (h := ss (y + 1) + 1) SufPiece_e51 rfl (.inr ⟨_, _, _, rfl, rfl, rfl⟩) (.inr ⟨_, _, _, rfl, rfl, rfl⟩) (by omega) (by omega)) rfl
       refine ⟨?_, ?_⟩
       · intro w46 D46
         rintro _ rfl _ rfl
         show OpOK _ _ _ _ _ _ _
         refine ok_call SufPiece_k38 ((equal32_rt _ _ _ _ _ _ (segL t (ss x) (ss (x + 1) + 1 - ss x)) (segL t (ss y) (ss (y + 1) + 1 - ss y)) _ (text_seg (hl.from_ (From.rfl_.next D46)) (by omega) (by omega)) (text_seg (hl.from_ (From.rfl_.next D46)) (by omega) (by omega)) segL_len.symm segL_len.symm (by omega)).mono ?_)
         rintro v _ ⟨rfl, E46'⟩; exact ⟨E46', rfl⟩
       refine ⟨?_, ?_⟩
       · intro w47 D47
         rintro _ rfl
         show OpOK _ _ _ _ _ _ _
         exact ok_pure (ro_assign (v := .bool _) rfl) rfl
       exact trivial
      case hend =>
       intro w48 D48
       rintro _ rfl _ rfl _ rfl _ rfl _ rfl _ rfl _ rfl _ rfl _ rfl _ rfl _ rfl _ rfl _ rfl _ rfl _ rfl _ rfl _ rfl _ rfl _ rfl _ rfl _ rfl _ rfl _ rfl _ rfl _ rfl _ rfl _ rfl _ rfl _ rfl _ rfl _ rfl _ rfl _ rfl _ rfl _ rfl _ rfl _ rfl _ rfl _ rfl _ rfl _ rfl _ rfl _ rfl _ rfl
       show St _ _ _ _ _ _ _
       refine st_nil ?_
       refine nx_then ?_
       refine cd_ret ?_
       refine res1 (v := .bool _) rfl rfl ?_
       refine ⟨⟨_, rfl, ?_⟩, (From.rfl_.next D48)⟩
       rw [decide_eq_true_iff]
       exact same_seg H ht hx1 hy1
end Go.Proofs.Ytpafbgdbjambgaa
