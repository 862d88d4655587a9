/- net: heavy, Mod, EqNumbers; counts. -/
import Derived.Test.YthakmhdliginoaaNetWakes
namespace Go.Proofs.Ythakmhdliginoaa
open Go.RowKit
open Go.ChangeShapes Go.WideShapes Go.ChangeAt
theorem NetOnce0_l31 : (elemQ Try.prog 31).isSome = true := by kernel_rfl
theorem NetOnce0_e31 : elemQ Try.prog 31 = some (61, 3) := by kernel_rfl
theorem NetOnce0_f61_2 : fieldQ Try.prog 61 2 = some 2 := by kernel_rfl
theorem NetOnce0_g9 : aggQ Try.prog 9 = some false := by kernel_rfl
theorem NetOnce0_k22 : callable Try.prog 22 = true := by kernel_rfl
theorem NetOnce0_gE : aggQ Try.prog 31 = some false := by kernel_rfl
theorem NetOnce0_l22 : (elemQ Try.prog 22).isSome = true := by kernel_rfl
theorem NetOnce0_e22 : elemQ Try.prog 22 = some (35, 16) := by kernel_rfl
theorem NetOnce0_f35_1 : fieldQ Try.prog 35 1 = some 1 := by kernel_rfl
theorem NetOnce0_f33_11 : fieldQ Try.prog 33 11 = some 11 := by kernel_rfl
theorem NetOnce0_f33_9 : fieldQ Try.prog 33 9 = some 9 := by kernel_rfl
theorem NetOnce0_f35_2 : fieldQ Try.prog 35 2 = some 14 := by kernel_rfl
theorem NetOnce0_g3 : aggQ Try.prog 3 = some false := by kernel_rfl
theorem NetOnce0_e28 : elemQ Try.prog 28 = some (3, 1) := by kernel_rfl
theorem NetOnce0_l28 : (elemQ Try.prog 28).isSome = true := by kernel_rfl
def EntOk (w : World) (A : Option Addr) (n : Nat) : Prop := 0 < n → ∃ b o, A = some ⟨b, o, none⟩ ∧ ∀ j, j < n → ∃ s : ByteArray, w.cell? ⟨b, o + j * 3 + 2, none⟩ = some (.string s) ∧ s.size ≤ 140737488351232
theorem EntOk.from_ {w w' : World} {A : Option Addr} {n : Nat} (h : EntOk w A n) (hF : From w w') : EntOk w' A n := fun h0 =>
  let ⟨b, o, hA, hc⟩ := h h0
  ⟨b, o, hA, fun j hj => let ⟨s, h1, h2⟩ := hc j hj; ⟨s, cellF hF h1, h2⟩⟩
structure ActR where
  H : Option Addr
  hl : Nat
  hc : Nat
  d : ByteArray
  nw : Int
  pk : Int
def ActOk (w : World) (b a : Nat) (x : ActR) : Prop := w.cell? ⟨b, a + 10, none⟩ = some (.slice x.H x.hl x.hc) ∧ w.cell? ⟨b, a + 12, none⟩ = some (.string x.d) ∧ w.cell? ⟨b, a + 14, none⟩ = some (.int .i64 x.nw) ∧ w.cell? ⟨b, a + 15, none⟩ = some (.int .i64 x.pk) ∧
  EntOk w x.H x.hl ∧ x.hl ≤ 140737488351232 ∧ x.d.size ≤ 140737488351232 ∧ (-9223372036854775808 ≤ x.pk ∧ x.pk ≤ 9223372036854775807)
theorem ActOk.from_ {w w' : World} {b a : Nat} {x : ActR} (h : ActOk w b a x) (hF : From w w') : ActOk w' b a x :=
  ⟨cellF hF h.1, cellF hF h.2.1, cellF hF h.2.2.1, cellF hF h.2.2.2.1, h.2.2.2.2.1.from_ hF, h.2.2.2.2.2⟩
def RowA (w : World) (A : Option Addr) (n : Nat) (X : Nat → ActR) : Prop := 0 < n → ∃ b o, A = some ⟨b, o, none⟩ ∧ ∀ i, i < n → ActOk w b (o + i * 16) (X i)
theorem RowA.from_ {w w' : World} {A : Option Addr} {n : Nat} {X : Nat → ActR} (h : RowA w A n X) (hF : From w w') : RowA w' A n X := fun h0 =>
  let ⟨b, o, hA, hc⟩ := h h0
  ⟨b, o, hA, fun i hi => (hc i hi).from_ hF⟩
theorem at_ent {w : World} {c : Nat → Option Value} {xs : List entT.den} (h : (Ty.sl entT).At w c xs) : ∃ (A : Option Addr) (cap : Nat), c 0 = some (.slice A xs.length cap) ∧ EntOk w A xs.length ∧ xs.length ≤ 140737488351232 := by
  obtain ⟨A, cap, h0, hb, _, hi⟩ := h
  refine ⟨A, cap, h0, fun hp => ?_, Nat.le_trans (Nat.le_mul_of_pos_right _ (by decide : 0 < entT.bytes)) hb⟩
  obtain ⟨b, o, hA, _, hx⟩ := hi hp
  refine ⟨b, o, hA, fun j hj => ?_⟩
  obtain ⟨_, _, ⟨g2, g3⟩, _⟩ := hx j _ (List.getElem?_eq_getElem hj)
  exact ⟨_, g2, g3⟩
theorem at_act {w : World} {b o : Nat} {x : actT.den} (h : actT.At w (fun j => w.cell? ⟨b, o + j, none⟩) x) : ∃ X : ActR, ActOk w b o X := by
  obtain ⟨_, ⟨_, _, _, _, _, _, _, _, _, gE, _, gd, _, _⟩, gn, gp, _⟩ := h
  obtain ⟨H, hc, e0, e1, e2⟩ := at_ent gE
  exact ⟨⟨H, _, hc, _, _, _⟩, e0, gd.1, gn.1, gp.1, e1, e2, gd.2, wf_i64 gp.2⟩
theorem at_acts {w : World} {A : Option Addr} {xs : List actT.den} (h : 0 < xs.length → ∃ b o, A = some ⟨b, o, none⟩ ∧ ∀ (i : Nat) (hi : i < xs.length), actT.At w (fun j => w.cell? ⟨b, o + i * actT.size + j, none⟩) xs[i]) : ∃ X, RowA w A xs.length X := by
  rcases Nat.eq_zero_or_pos xs.length with hz | hz
  · exact ⟨fun _ => ⟨none, 0, 0, ⟨#[]⟩, 0, 0⟩, fun h0 => by omega⟩
  · obtain ⟨b, o, hA, hx⟩ := h hz
    refine ⟨fun i => if hi : i < xs.length then Classical.choose (at_act (hx i hi)) else ⟨none, 0, 0, ⟨#[]⟩, 0, 0⟩, fun _ => ⟨b, o, hA, fun i hi => ?_⟩⟩
    simp only [dif_pos hi]
    exact Classical.choose_spec (at_act (hx i hi))
set_option maxRecDepth 100000 in
set_option maxHeartbeats 400000 in
theorem logWeight_any (A : Option Addr) (c n : Nat) (w : World) (hr : EntOk w A n) (hl : n ≤ 140737488351232) :
    Rt Try.prog 22 [.slice A n c] w (fun v w' => (∃ m : Nat, v = .int .i64 (m : Nat) ∧ m ≤ 562949953421312) ∧ w = w') := by
  refine enter (n := 26) Try.func22 rfl rfl rfl ?_
  refine cd_seq ?_
  refine cd_region ?_
  refine st_val (ro_assign (v := .int _ _) rfl) ?_
  refine st_nil ?_
  refine nx_then ?_
  refine cd_seq ?_
  refine cd_region ?_
  refine st_val (ro_move (v := .slice _ _ _) rfl) ?_
  refine st_val (ro_len NetOnce0_l31 rfl) ?_
  refine st_val (ro_assign (v := .int _ _) rfl) ?_
  refine st_nil ?_
  refine nx_then ?_
  refine cd_seq ?_
  refine cd_seq ?_
  refine cd_region ?_
  refine st_val (ro_assign (v := .int _ _) rfl) ?_
  refine st_nil ?_
  refine nx_then ?_
  refine cd_block ?_
  refine cd_loop (G := Nat × Nat) [7, 8, 9, 10, 11, 12, 13, 14, 15, 16, 17, 18, 19, 20, 21, 22, 23, 24] (fun (m, k) => [(3, .int .i64 (m : Nat)), (4, .int .i64 (k : Nat))]) (fun (m, k) w' => k ≤ n ∧ m ≤ 562949953421312 ∧ w = w') (fun (_, k) => n - k) ((n, 0)) ⟨rfl, rfl, trivial⟩ ?_ ?_
  · exact ⟨Nat.zero_le _, by omega, rfl⟩
  rintro ⟨m, k⟩ ρ1 w1 ⟨hk, hm, rfl⟩
  refine cd_seq ?_
  refine cd_seq ?_
  refine cd_region ?_
  refine st_val (ro_move (v := .int _ _) rfl) ?_
  refine st_val (ro_move (v := .slice _ _ _) rfl) ?_
  refine st_val (ro_len NetOnce0_l31 rfl) ?_
  refine st_val (ro_lss rfl rfl) ?_
  refine st_val (ro_move (v := .bool _) rfl) ?_
  refine st_split (t := 11) rfl (fun Q2 => ?_) (fun Q2 => ?_)
  · (try with_reducible first | replace Q2 := of_decide_eq_true Q2 | replace Q2 := of_decide_eq_false Q2 | replace Q2 := bn_t Q2 | replace Q2 := bn_f Q2)
    (try with_reducible first | replace Q2 := of_decide_eq_true Q2 | replace Q2 := of_decide_eq_false Q2 | replace Q2 := bx_t Q2 | replace Q2 := bx_f Q2 | replace Q2 := be_t Q2 | replace Q2 := be_f Q2)
    
    refine st_unguard rfl ?_
    refine st_val (ro_move (v := .int _ _) rfl) ?_
    refine st_unguard rfl ?_
    refine st_val (ro_lss rfl rfl) ?_
    refine st_val (ro_pickT (v := .bool _) rfl rfl) ?_
    refine st_nil ?_
    refine nx_then ?_
    refine cd_cond rfl (fun Q3 => ?_) (fun Q3 => ?_)
    · (try with_reducible first | replace Q3 := of_decide_eq_true Q3 | replace Q3 := of_decide_eq_false Q3 | replace Q3 := bn_t Q3 | replace Q3 := bn_f Q3)
      (try with_reducible first | replace Q3 := of_decide_eq_true Q3 | replace Q3 := of_decide_eq_false Q3 | replace Q3 := bx_t Q3 | replace Q3 := bx_f Q3 | replace Q3 := be_t Q3 | replace Q3 := be_f Q3)
      obtain ⟨ba, oa, hA, hcs⟩ := hr (by omega)
      subst hA
      obtain ⟨s, hs1, hs2⟩ := hcs k (by omega)
      refine cd_skip ?_
      refine nx_then ?_
      refine cd_seq ?_
      refine cd_block ?_
      refine cd_region ?_
      refine st_val (ro_move (v := .int _ _) rfl) ?_
      refine st_val (ro_move (v := .slice _ _ _) rfl) ?_
      refine st_val (ro_move (v := .int _ _) rfl) ?_
      refine st_val (ro_indexAddrN NetOnce0_e31 rfl rfl (by omega)) ?_
      refine st_val (ro_fieldAddr NetOnce0_f61_2 rfl) ?_
      refine st_val (ro_load NetOnce0_g9 rfl (by exact hs1)) ?_
      refine st_val (ro_lenS (by kernel_rfl) rfl) ?_
      refine st_val (ro_addN rfl rfl (by omega)) ?_
      refine st_val (ro_assign (v := .int _ _) rfl) ?_
      refine st_nil ?_
      refine nx_block ?_
      refine nx_then ?_
      refine cd_region ?_
      refine st_val (ro_move (v := .int _ _) rfl) ?_
      refine st_val (ro_addN (b := 1) rfl rfl (by omega)) ?_
      refine st_val (ro_assign (v := .int _ _) rfl) ?_
      refine st_nil ?_
      refine nx_cut ((m + s.size, k + 1)) ⟨(by first | rfl | (refine int_eq ?_; omega)), (by first | rfl | (refine int_eq ?_; omega)), trivial⟩ (by (iterate 41 refine agr_cons rfl ?_); exact agr_rfl) ⟨?_, ?_⟩
      · exact ⟨by omega, by omega, rfl⟩
      · show n - (k + 1) < n - k; omega
    · (try with_reducible first | replace Q3 := of_decide_eq_true Q3 | replace Q3 := of_decide_eq_false Q3 | replace Q3 := bn_t Q3 | replace Q3 := bn_f Q3)
      (try with_reducible first | replace Q3 := of_decide_eq_true Q3 | replace Q3 := of_decide_eq_false Q3 | replace Q3 := bx_t Q3 | replace Q3 := bx_f Q3 | replace Q3 := be_t Q3 | replace Q3 := be_f Q3)
      refine cd_exit ?_
      refine ex_then ?_
      refine ex_then ?_
      refine ex_block ?_
      refine nx_then ?_
      refine cd_seq ?_
      refine cd_region ?_
      refine st_val (ro_move (v := .int _ _) rfl) ?_
      refine st_val (ro_assign (v := .int _ _) rfl) ?_
      refine st_nil ?_
      refine nx_then ?_
      refine cd_ret ?_
      refine res1 (v := .int _ _) rfl rfl ?_
      exact ⟨⟨_, rfl, hm⟩, rfl⟩
  · (try with_reducible first | replace Q2 := of_decide_eq_true Q2 | replace Q2 := of_decide_eq_false Q2 | replace Q2 := bn_t Q2 | replace Q2 := bn_f Q2)
    (try with_reducible first | replace Q2 := of_decide_eq_true Q2 | replace Q2 := of_decide_eq_false Q2 | replace Q2 := bx_t Q2 | replace Q2 := bx_f Q2 | replace Q2 := be_t Q2 | replace Q2 := be_f Q2)
    refine st_gno rfl rfl ?_
    refine st_gno rfl rfl ?_
    refine st_val (ro_pickF (v := .bool _) rfl rfl) ?_
    refine st_nil ?_
    refine nx_then ?_
    refine cd_condF rfl ?_
    refine cd_exit ?_
    refine ex_then ?_
    refine ex_then ?_
    refine ex_block ?_
    refine nx_then ?_
    refine cd_seq ?_
    refine cd_region ?_
    refine st_val (ro_move (v := .int _ _) rfl) ?_
    refine st_val (ro_assign (v := .int _ _) rfl) ?_
    refine st_nil ?_
    refine nx_then ?_
    refine cd_ret ?_
    refine res1 (v := .int _ _) rfl rfl ?_
    exact ⟨⟨_, rfl, hm⟩, rfl⟩
set_option maxRecDepth 100000 in
set_option maxHeartbeats 400000 in
theorem heavy_any (A : Option Addr) (c n : Nat) (X : Nat → ActR) (w : World) (hr : RowA w A n X) (hl : n ≤ 140737488351232) :
    Rt Try.prog 6 [.slice A n c] w (fun v w' => (∃ b, v = .bool b) ∧ From w w') := by
  refine enter (n := 48) Try.func6 rfl rfl rfl ?_
  refine cd_seq ?_
  refine cd_region ?_
  refine st_val (ro_assign (v := .bool _) rfl) ?_
  refine st_nil ?_
  refine nx_then ?_
  refine cd_seq ?_
  refine cd_region ?_
  refine st_val (ro_assign (v := .int _ _) rfl) ?_
  refine st_nil ?_
  refine nx_then ?_
  refine cd_seq ?_
  refine cd_seq ?_
  refine cd_region ?_
  refine st_val (ro_assign (v := .int _ _) rfl) ?_
  refine st_nil ?_
  refine nx_then ?_
  refine cd_block ?_
  refine cd_loop (G := Nat × Nat) [2, 5, 6, 7, 8, 9, 10, 11, 12, 13, 14, 15, 16, 17, 18, 19, 20, 21, 22, 23, 24, 25, 26, 27, 28, 29, 30, 31, 32, 33, 34, 35, 36, 37, 38, 39, 40, 41, 42, 43, 44, 45] (fun (m, k) => [(3, .int .i64 (m : Nat)), (4, .int .i64 (k : Nat))]) (fun (m, k) w' => k ≤ n ∧ k ≤ 60 ∧ m ≤ k * 1125899906842624 ∧ From w w') (fun (_, k) => n - k) ((0, 0)) ⟨rfl, rfl, trivial⟩ ?_ ?_
  · exact ⟨Nat.zero_le _, by omega, by omega, From.rfl_⟩
  rintro ⟨m, k⟩ ρ1 w1 ⟨hk, hk6, hm, hB⟩
  refine cd_seq ?_
  refine cd_seq ?_
  refine cd_region ?_
  refine st_val (ro_move (v := .int _ _) rfl) ?_
  refine st_val (ro_move (v := .slice _ _ _) rfl) ?_
  refine st_val (ro_len NetOnce0_l22 rfl) ?_
  refine st_val (ro_lss rfl rfl) ?_
  refine st_val (ro_move (v := .bool _) rfl) ?_
  refine st_split (t := 9) rfl (fun Q2 => ?_) (fun Q2 => ?_)
  · (try with_reducible first | replace Q2 := of_decide_eq_true Q2 | replace Q2 := of_decide_eq_false Q2 | replace Q2 := bn_t Q2 | replace Q2 := bn_f Q2)
    (try with_reducible first | replace Q2 := of_decide_eq_true Q2 | replace Q2 := of_decide_eq_false Q2 | replace Q2 := bx_t Q2 | replace Q2 := bx_f Q2 | replace Q2 := be_t Q2 | replace Q2 := be_f Q2)
    refine st_unguard rfl ?_
    refine st_val (ro_move (v := .int _ _) rfl) ?_
    refine st_unguard rfl ?_
    refine st_val (ro_lss rfl rfl) ?_
    refine st_val (ro_pickT (v := .bool _) rfl rfl) ?_
    refine st_nil ?_
    refine nx_then ?_
    refine cd_cond rfl (fun Q3 => ?_) (fun Q3 => ?_)
    · (try with_reducible first | replace Q3 := of_decide_eq_true Q3 | replace Q3 := of_decide_eq_false Q3 | replace Q3 := bn_t Q3 | replace Q3 := bn_f Q3)
      (try with_reducible first | replace Q3 := of_decide_eq_true Q3 | replace Q3 := of_decide_eq_false Q3 | replace Q3 := bx_t Q3 | replace Q3 := bx_f Q3 | replace Q3 := be_t Q3 | replace Q3 := be_f Q3)
      have hkn : k < n := by omega
      obtain ⟨ba, oa, hA, hcs⟩ := hr (by omega)
      subst hA
      obtain ⟨c10, c12, c14, c15, hen, hel, hdl, hpk⟩ := hcs k hkn
      refine cd_skip ?_
      refine nx_then ?_
      refine cd_seq ?_
      refine cd_block ?_
      refine cd_seq ?_
      apply cd_drawnD 18 [(15, eqp _), (16, eqp _), (17, eqp _), (18, eqp _), (19, eqp _), (20, eqp _), (21, eqp (.string (X k).d)), (22, eqp _), (23, eqp (.int .i64 ((m + (X k).d.size : Nat) : Int))), (24, eqp _), (25, eqp _), (26, eqp _), (27, eqp _), (28, eqp _), (29, eqp (.slice (X k).H (X k).hl (X k).hc)), (30, fun v _ => ∃ q : Nat, v = .int .i64 (q : Nat) ∧ q ≤ 562949953421312), (31, fun v _ => ∃ q : Nat, v = .int .i64 (q : Nat) ∧ q ≤ (k + 1) * 1125899906842624), (3, fun v _ => ∃ q : Nat, v = .int .i64 (q : Nat) ∧ q ≤ (k + 1) * 1125899906842624)] (by repeat first | exact pq_body | refine pq_then ?_ | refine pq_block ?_) (by kernel_rfl) (by kernel_rfl) ⟨eqp_mono _, eqp_mono _, eqp_mono _, eqp_mono _, eqp_mono _, eqp_mono _, eqp_mono _, eqp_mono _, eqp_mono _, eqp_mono _, eqp_mono _, eqp_mono _, eqp_mono _, eqp_mono _, eqp_mono _, (fun _ _ _ _ h => h), (fun _ _ _ _ h => h), (fun _ _ _ _ h => h), trivial⟩
      case hop =>
       refine ⟨?_, ?_⟩
       · rintro - w5 D5
         show OpOK _ _ _ _ _ _ _
         exact ok_pure (ro_move (v := .int _ _) rfl) rfl
       refine ⟨?_, ?_⟩
       · rintro - w6 D6
         show OpOK _ _ _ _ _ _ _
         exact ok_pure (ro_move (v := .slice _ _ _) rfl) rfl
       refine ⟨?_, ?_⟩
       · rintro - w7 D7
         show OpOK _ _ _ _ _ _ _
         exact ok_pure (ro_move (v := .int _ _) rfl) rfl
       refine ⟨?_, ?_⟩
       · rintro - w8 D8
         rintro _ rfl _ rfl
         show OpOK _ _ _ _ _ _ _
         exact ok_pure (ro_indexAddrN NetOnce0_e22 rfl rfl (by omega)) rfl
       refine ⟨?_, ?_⟩
       · rintro - w9 D9
         rintro _ rfl
         show OpOK _ _ _ _ _ _ _
         exact ok_pure (ro_fieldAddr NetOnce0_f35_1 rfl) rfl
       refine ⟨?_, ?_⟩
       · rintro - w10 D10
         rintro _ rfl
         show OpOK _ _ _ _ _ _ _
         exact ok_pure (ro_fieldAddr NetOnce0_f33_11 rfl) rfl
       refine ⟨?_, ?_⟩
       · rintro - w11 D11
         rintro _ rfl
         show OpOK _ _ _ _ _ _ _
         exact ok_pure (ro_load NetOnce0_g9 rfl (cellF (hB.next D11) c12)) rfl
       refine ⟨?_, ?_⟩
       · rintro - w12 D12
         rintro v12_21 rfl
         show OpOK _ _ _ _ _ _ _
         exact ok_pure (ro_lenS (by kernel_rfl) rfl) rfl
       refine ⟨?_, ?_⟩
       · rintro - w13 D13
         rintro _ rfl _ rfl
         show OpOK _ _ _ _ _ _ _
         exact ok_pure (ro_addN rfl rfl (by omega)) rfl
       refine ⟨?_, ?_⟩
       · rintro - w14 D14
         show OpOK _ _ _ _ _ _ _
         exact ok_pure (ro_move (v := .slice _ _ _) rfl) rfl
       refine ⟨?_, ?_⟩
       · rintro - w15 D15
         show OpOK _ _ _ _ _ _ _
         exact ok_pure (ro_move (v := .int _ _) rfl) rfl
       refine ⟨?_, ?_⟩
       · rintro - w16 D16
         rintro _ rfl _ rfl
         show OpOK _ _ _ _ _ _ _
         exact ok_pure (ro_indexAddrN NetOnce0_e22 rfl rfl (by omega)) rfl
       refine ⟨?_, ?_⟩
       · rintro - w17 D17
         rintro _ rfl
         show OpOK _ _ _ _ _ _ _
         exact ok_pure (ro_fieldAddr NetOnce0_f35_1 rfl) rfl
       refine ⟨?_, ?_⟩
       · rintro - w18 D18
         rintro _ rfl
         show OpOK _ _ _ _ _ _ _
         exact ok_pure (ro_fieldAddr NetOnce0_f33_9 rfl) rfl
       refine ⟨?_, ?_⟩
       · rintro - w19 D19
         rintro _ rfl
         show OpOK _ _ _ _ _ _ _
         exact ok_pure (ro_load NetOnce0_gE rfl (cellF (hB.next D19) c10)) rfl
       refine ⟨?_, ?_⟩
       · rintro - w20 D20
         rintro v20_29 rfl
         show OpOK _ _ _ _ _ _ _
         refine ok_call NetOnce0_k22 ((logWeight_any _ _ _ _ (hen.from_ (hB.next D20)) hel).mono ?_)
         rintro v w2 ⟨⟨q, rfl, hq⟩, rfl⟩
         exact ⟨From.rfl_, q, rfl, hq⟩
       refine ⟨?_, ?_⟩
       · rintro - w21 D21
         rintro v21_23 rfl v21_30 ⟨q21, rfl, hq21⟩
         show OpOK _ _ _ _ _ _ _
         exact ok_pure (ro_addN rfl rfl (by omega)) ⟨_, rfl, by omega⟩
       refine ⟨?_, ?_⟩
       · rintro - w22 D22
         rintro v22_31 ⟨q22, rfl, hq22⟩
         show OpOK _ _ _ _ _ _ _
         exact ok_pure (ro_assign rfl) ⟨_, rfl, hq22⟩
       exact trivial
      case hend =>
       intro w23 D23
       rintro _ rfl _ rfl _ rfl _ rfl _ rfl _ rfl v21 rfl _ rfl v23 rfl _ rfl _ rfl _ rfl _ rfl _ rfl v29 rfl v30 ⟨q23, rfl, hq23⟩ v31 ⟨q23, rfl, hq23⟩ v3 ⟨q3, rfl, hq3⟩
       show St _ _ _ _ _ _ _
       refine st_nil ?_
       refine nx_then ?_
       refine cd_seq ?_
       refine cd_region ?_
       refine st_val (ro_move (v := .slice _ _ _) rfl) ?_
       refine st_val (ro_move (v := .int _ _) rfl) ?_
       refine st_val (ro_indexAddrN NetOnce0_e22 rfl rfl (by omega)) ?_
       refine st_val (ro_fieldAddr NetOnce0_f35_2 rfl) ?_
       refine st_val (ro_load NetOnce0_g3 rfl (by exact cellF (hB.next D23) c14)) ?_
       refine st_val (ro_lss rfl rfl) ?_
       refine st_val (ro_move (v := .bool _) rfl) ?_
       refine st_split (t := 38) rfl (fun Q24 => ?_) (fun Q24 => ?_)
       · (try with_reducible first | replace Q24 := of_decide_eq_true Q24 | replace Q24 := of_decide_eq_false Q24 | replace Q24 := bn_t Q24 | replace Q24 := bn_f Q24)
         (try with_reducible first | replace Q24 := of_decide_eq_true Q24 | replace Q24 := of_decide_eq_false Q24 | replace Q24 := bx_t Q24 | replace Q24 := bx_f Q24 | replace Q24 := be_t Q24 | replace Q24 := be_f Q24)
         refine st_gno rfl rfl ?_
         refine st_gno rfl rfl ?_
         refine st_gno rfl rfl ?_
         refine st_gno rfl rfl ?_
         refine st_gno rfl rfl ?_
         refine st_gno rfl rfl ?_
         refine st_val (ro_pickT (v := .bool _) rfl rfl) ?_
         refine st_nil ?_
         refine nx_then ?_
         refine cd_condT rfl ?_
         refine cd_seq ?_
         refine cd_region ?_
         refine st_val (ro_assign (v := .bool _) rfl) ?_
         refine st_nil ?_
         refine nx_then ?_
         refine cd_ret ?_
         refine rt_block ?_
         refine rt_then ?_
         refine rt_then ?_
         refine rt_block ?_
         refine rt_then ?_
         refine res1 (v := .bool _) rfl rfl ?_
         exact ⟨⟨_, rfl⟩, (hB.next D23)⟩
       · (try with_reducible first | replace Q24 := of_decide_eq_true Q24 | replace Q24 := of_decide_eq_false Q24 | replace Q24 := bn_t Q24 | replace Q24 := bn_f Q24)
         (try with_reducible first | replace Q24 := of_decide_eq_true Q24 | replace Q24 := of_decide_eq_false Q24 | replace Q24 := bx_t Q24 | replace Q24 := bx_f Q24 | replace Q24 := be_t Q24 | replace Q24 := be_f Q24)
         refine st_unguard rfl ?_
         refine st_val (ro_move (v := .slice _ _ _) rfl) ?_
         refine st_unguard rfl ?_
         refine st_val (ro_move (v := .int _ _) rfl) ?_
         refine st_unguard rfl ?_
         refine st_val (ro_indexAddrN NetOnce0_e22 rfl rfl (by omega)) ?_
         refine st_unguard rfl ?_
         refine st_val (ro_fieldAddr NetOnce0_f35_2 rfl) ?_
         refine st_unguard rfl ?_
         refine st_val (ro_load NetOnce0_g3 rfl (by exact cellF (hB.next D23) c14)) ?_
         refine st_unguard rfl ?_
         refine st_val (ro_gtr rfl rfl) ?_
         refine st_val (ro_pickF (v := .bool _) rfl rfl) ?_
         refine st_nil ?_
         refine nx_then ?_
         refine cd_cond rfl (fun Q25 => ?_) (fun Q25 => ?_)
         · (try with_reducible first | replace Q25 := of_decide_eq_true Q25 | replace Q25 := of_decide_eq_false Q25 | replace Q25 := bn_t Q25 | replace Q25 := bn_f Q25)
           (try with_reducible first | replace Q25 := of_decide_eq_true Q25 | replace Q25 := of_decide_eq_false Q25 | replace Q25 := bx_t Q25 | replace Q25 := bx_f Q25 | replace Q25 := be_t Q25 | replace Q25 := be_f Q25)
           refine cd_seq ?_
           refine cd_region ?_
           refine st_val (ro_assign (v := .bool _) rfl) ?_
           refine st_nil ?_
           refine nx_then ?_
           refine cd_ret ?_
           refine rt_block ?_
           refine rt_then ?_
           refine rt_then ?_
           refine rt_block ?_
           refine rt_then ?_
           refine res1 (v := .bool _) rfl rfl ?_
           exact ⟨⟨_, rfl⟩, (hB.next D23)⟩
         · (try with_reducible first | replace Q25 := of_decide_eq_true Q25 | replace Q25 := of_decide_eq_false Q25 | replace Q25 := bn_t Q25 | replace Q25 := bn_f Q25)
           (try with_reducible first | replace Q25 := of_decide_eq_true Q25 | replace Q25 := of_decide_eq_false Q25 | replace Q25 := bx_t Q25 | replace Q25 := bx_f Q25 | replace Q25 := be_t Q25 | replace Q25 := be_f Q25)
           refine cd_skip ?_
           refine nx_block ?_
           refine nx_then ?_
           refine cd_region ?_
           refine st_val (ro_move (v := .int _ _) rfl) ?_
           refine st_val (ro_addN (b := 1) rfl rfl (by omega)) ?_
           refine st_val (ro_assign (v := .int _ _) rfl) ?_
           refine st_nil ?_
           refine nx_cut ((q3, k + 1)) ⟨(by first | rfl | (refine int_eq ?_; omega)), (by first | rfl | (refine int_eq ?_; omega)), trivial⟩ (by (iterate 89 refine agr_cons rfl ?_); exact agr_rfl) ⟨?_, ?_⟩
           · exact ⟨by omega, by omega, hq3, (hB.next D23)⟩
           · show n - (k + 1) < n - k; omega
    · (try with_reducible first | replace Q3 := of_decide_eq_true Q3 | replace Q3 := of_decide_eq_false Q3 | replace Q3 := bn_t Q3 | replace Q3 := bn_f Q3)
      (try with_reducible first | replace Q3 := of_decide_eq_true Q3 | replace Q3 := of_decide_eq_false Q3 | replace Q3 := bx_t Q3 | replace Q3 := bx_f Q3 | replace Q3 := be_t Q3 | replace Q3 := be_f Q3)
      refine cd_exit ?_
      refine ex_then ?_
      refine ex_then ?_
      refine ex_block ?_
      refine nx_then ?_
      refine cd_seq ?_
      refine cd_region ?_
      refine st_val (ro_move (v := .int _ _) rfl) ?_
      refine st_val (ro_gtr rfl rfl) ?_
      refine st_val (ro_assign (v := .bool _) rfl) ?_
      refine st_nil ?_
      refine nx_then ?_
      refine cd_ret ?_
      refine res1 (v := .bool _) rfl rfl ?_
      exact ⟨⟨_, rfl⟩, hB⟩
  · (try with_reducible first | replace Q2 := of_decide_eq_true Q2 | replace Q2 := of_decide_eq_false Q2 | replace Q2 := bn_t Q2 | replace Q2 := bn_f Q2)
    (try with_reducible first | replace Q2 := of_decide_eq_true Q2 | replace Q2 := of_decide_eq_false Q2 | replace Q2 := bx_t Q2 | replace Q2 := bx_f Q2 | replace Q2 := be_t Q2 | replace Q2 := be_f Q2)
    refine st_gno rfl rfl ?_
    refine st_gno rfl rfl ?_
    refine st_val (ro_pickF (v := .bool _) rfl rfl) ?_
    refine st_nil ?_
    refine nx_then ?_
    refine cd_condF rfl ?_
    refine cd_exit ?_
    refine ex_then ?_
    refine ex_then ?_
    refine ex_block ?_
    refine nx_then ?_
    refine cd_seq ?_
    refine cd_region ?_
    refine st_val (ro_move (v := .int _ _) rfl) ?_
    refine st_val (ro_gtr rfl rfl) ?_
    refine st_val (ro_assign (v := .bool _) rfl) ?_
    refine st_nil ?_
    refine nx_then ?_
    refine cd_ret ?_
    refine res1 (v := .bool _) rfl rfl ?_
    exact ⟨⟨_, rfl⟩, hB⟩
set_option maxRecDepth 100000 in
set_option maxHeartbeats 400000 in
theorem mod_rt (a b : Int) (w : World) (hb : b = 4 ∨ b = 8) (ha : -9223372036854775808 ≤ a ∧ a ≤ 9223372036854775807) :
    Rt Try.prog 20 [.int .i64 a, .int .i64 b] w (fun v w' => v = .int .i64 (a % b) ∧ w = w') := by
  have hb0 : 0 < b := by omega
  have hab : 0 ≤ a % b ∧ a % b < 8 := by
    rcases hb with rfl | rfl <;> omega
  have hfl := @floorQ a b hb0
  generalize hQ : a.tdiv b = q at *
  generalize hR : a.tmod b = r at *
  generalize hX : a / b = x at *
  generalize hY : a % b = y at *
  refine enter (n := 14) Try.func20 rfl rfl rfl ?_
  refine cd_seq ?_
  refine cd_region ?_
  refine st_val (ro_assign (v := .int _ _) rfl) ?_
  refine st_nil ?_
  refine nx_then ?_
  refine cd_seq ?_
  refine cd_region ?_
  refine st_val (ro_move (v := .int _ _) rfl) ?_
  refine st_val (ro_move (v := .int _ _) rfl) ?_
  refine st_val (ro_eq (ro_rem rfl rfl (by omega)) (by rw [hR])) ?_
  refine st_val (ro_assign (v := .int _ _) rfl) ?_
  refine st_nil ?_
  refine nx_then ?_
  refine cd_seq ?_
  refine cd_seq ?_
  refine cd_region ?_
  refine st_val (ro_move (v := .int _ _) rfl) ?_
  refine st_val (ro_lss rfl rfl) ?_
  refine st_nil ?_
  refine nx_then ?_
  refine cd_cond rfl (fun Q1 => ?_) (fun Q1 => ?_)
  · (try first | replace Q1 := bn_t Q1 | replace Q1 := bn_f Q1)
    (try first | replace Q1 := bx_t Q1 | replace Q1 := bx_f Q1 | replace Q1 := be_t Q1 | replace Q1 := be_f Q1 | replace Q1 := of_decide_eq_true Q1 | replace Q1 := of_decide_eq_false Q1)
    refine cd_region ?_
    refine st_val (ro_move (v := .int _ _) rfl) ?_
    refine st_val (ro_move (v := .int _ _) rfl) ?_
    refine st_val (ro_add64 rfl rfl (by omega)) ?_
    refine st_val (ro_assign (v := .int _ _) rfl) ?_
    refine st_nil ?_
    refine nx_then ?_
    refine cd_seq ?_
    refine cd_region ?_
    refine st_val (ro_move (v := .int _ _) rfl) ?_
    refine st_val (ro_assign (v := .int _ _) rfl) ?_
    refine st_nil ?_
    refine nx_then ?_
    refine cd_ret ?_
    refine res1 (v := .int _ _) rfl rfl ?_
    exact ⟨int_eq (by first | (have h7 := hfl.1 (by omega); omega) | (have h7 := hfl.2 (by omega); omega)), rfl⟩
  · (try first | replace Q1 := bn_t Q1 | replace Q1 := bn_f Q1)
    (try first | replace Q1 := bx_t Q1 | replace Q1 := bx_f Q1 | replace Q1 := be_t Q1 | replace Q1 := be_f Q1 | replace Q1 := of_decide_eq_true Q1 | replace Q1 := of_decide_eq_false Q1)
    refine cd_skip ?_
    refine nx_then ?_
    refine cd_seq ?_
    refine cd_region ?_
    refine st_val (ro_move (v := .int _ _) rfl) ?_
    refine st_val (ro_assign (v := .int _ _) rfl) ?_
    refine st_nil ?_
    refine nx_then ?_
    refine cd_ret ?_
    refine res1 (v := .int _ _) rfl rfl ?_
    exact ⟨int_eq (by first | (have h7 := hfl.1 (by omega); omega) | (have h7 := hfl.2 (by omega); omega)), rfl⟩
theorem take_eq {α : Type} {a b : List α} {k : Nat} (ha : k < a.length) (hb : k < b.length) (h : a.take k = b.take k) (he : a[k] = b[k]) : a.take (k + 1) = b.take (k + 1) := by
  rw [List.take_succ_eq_append_getElem ha, List.take_succ_eq_append_getElem hb, h, he]
theorem eq_ge {α : Type} {a b : List α} {k : Nat} (h1 : a.length ≤ k) (h2 : a.length = b.length) (h : a.take k = b.take k) : a = b := by
  rwa [List.take_of_length_le h1, List.take_of_length_le (by omega)] at h
set_option maxRecDepth 100000 in
set_option maxHeartbeats 400000 in
theorem eqNumbers_any (A B : Option Addr) (ca cb : Nat) (a b : List Int) (w : World) (ha : RowOf iV w A a) (hb : RowOf iV w B b) (hla : a.length * 8 ≤ 140737488351232) :
    Rt Try.prog 21 [.slice A a.length ca, .slice B b.length cb] w (fun v w' => v = .bool (decide (a = b)) ∧ From w w') := by
  refine enter (n := 26) Try.func21 rfl rfl rfl ?_
  refine cd_seq ?_
  refine cd_region ?_
  refine st_val (ro_assign (v := .bool _) rfl) ?_
  refine st_nil ?_
  refine nx_then ?_
  refine cd_seq ?_
  refine cd_seq ?_
  refine cd_region ?_
  refine st_val (ro_move (v := .slice _ _ _) rfl) ?_
  refine st_val (ro_len NetOnce0_l28 rfl) ?_
  refine st_val (ro_move (v := .slice _ _ _) rfl) ?_
  refine st_val (ro_len NetOnce0_l28 rfl) ?_
  refine st_val (ro_neq rfl rfl) ?_
  refine st_nil ?_
  refine nx_then ?_
  refine cd_cond rfl (fun Q1 => ?_) (fun Q1 => ?_)
  · (try first | replace Q1 := bn_t Q1 | replace Q1 := bn_f Q1)
    (try first | replace Q1 := bx_t Q1 | replace Q1 := bx_f Q1 | replace Q1 := be_t Q1 | replace Q1 := be_f Q1 | replace Q1 := of_decide_eq_true Q1 | replace Q1 := of_decide_eq_false Q1)
    first
     | (exfalso; first | omega | contradiction | (cases Q1; done))
     | skip
       refine cd_seq ?_
       refine cd_region ?_
       refine st_val (ro_assign (v := .bool _) rfl) ?_
       refine st_nil ?_
       refine nx_then ?_
       refine cd_ret ?_
       refine rt_then ?_
       refine res1 (v := .bool _) rfl rfl ?_
       exact ⟨by rw [decide_eq_false]; rintro rfl; omega, From.rfl_⟩
  · (try first | replace Q1 := bn_t Q1 | replace Q1 := bn_f Q1)
    (try first | replace Q1 := bx_t Q1 | replace Q1 := bx_f Q1 | replace Q1 := be_t Q1 | replace Q1 := be_f Q1 | replace Q1 := of_decide_eq_true Q1 | replace Q1 := of_decide_eq_false Q1)
    first
     | (exfalso; first | omega | contradiction | (cases Q1; done))
     | skip
       refine cd_skip ?_
       refine nx_then ?_
       refine cd_seq ?_
       refine cd_seq ?_
       refine cd_region ?_
       refine st_val (ro_assign (v := .int _ _) rfl) ?_
       refine st_nil ?_
       refine nx_then ?_
       refine cd_block ?_
       refine cd_loop (G := Nat) [4, 11, 12, 13, 14, 15, 16, 17, 18, 19, 20, 21, 22, 23, 24, 25] (fun k => [(5, .int .i64 (k : Nat))]) (fun k w' => k ≤ a.length ∧ a.take k = b.take k ∧ From w w') (fun k => a.length - k) (0) ⟨rfl, trivial⟩ ?_ ?_
       · exact ⟨Nat.zero_le _, rfl, From.rfl_⟩
       rintro k ρ2 w2 ⟨hk, ht, hB⟩
       refine cd_seq ?_
       refine cd_seq ?_
       refine cd_region ?_
       refine st_val (ro_move (v := .int _ _) rfl) ?_
       refine st_val (ro_move (v := .slice _ _ _) rfl) ?_
       refine st_val (ro_len NetOnce0_l28 rfl) ?_
       refine st_val (ro_lss rfl rfl) ?_
       refine st_nil ?_
       refine nx_then ?_
       refine cd_cond rfl (fun Q3 => ?_) (fun Q3 => ?_)
       · (try first | replace Q3 := bn_t Q3 | replace Q3 := bn_f Q3)
         (try first | replace Q3 := bx_t Q3 | replace Q3 := bx_f Q3 | replace Q3 := be_t Q3 | replace Q3 := be_f Q3 | replace Q3 := of_decide_eq_true Q3 | replace Q3 := of_decide_eq_false Q3)
         obtain ⟨ba, oa, rfl, ca⟩ := ha (by omega)
         obtain ⟨bb, ob, rfl, cb⟩ := hb (by omega)
         first
          | (exfalso; first | omega | contradiction | (cases Q3; done))
          | skip
            refine cd_skip ?_
            refine nx_then ?_
            refine cd_seq ?_
            refine cd_block ?_
            refine cd_seq ?_
            apply cd_drawn 9 [(17, eqp _), (18, eqp _), (19, eqp _), (20, eqp _), (21, eqp _), (22, eqp _), (23, eqp _), (24, eqp _), (25, eqp _)] (by kernel_rfl) (by kernel_rfl) ⟨eqp_mono _, eqp_mono _, eqp_mono _, eqp_mono _, eqp_mono _, eqp_mono _, eqp_mono _, eqp_mono _, eqp_mono _, trivial⟩
            case hop =>
             refine ⟨?_, ?_⟩
             · intro w5 D5
               show OpOK _ _ _ _ _ _ _
               exact ok_pure (ro_move (v := .slice _ _ _) rfl) rfl
             refine ⟨?_, ?_⟩
             · intro w6 D6
               show OpOK _ _ _ _ _ _ _
               exact ok_pure (ro_move (v := .int _ _) rfl) rfl
             refine ⟨?_, ?_⟩
             · intro w7 D7
               rintro _ rfl _ rfl
               show OpOK _ _ _ _ _ _ _
               exact ok_pure (ro_indexAddr1 NetOnce0_e28 rfl rfl (by omega)) rfl
             refine ⟨?_, ?_⟩
             · intro w8 D8
               rintro _ rfl
               show OpOK _ _ _ _ _ _ _
               exact ok_pure (ro_load NetOnce0_g3 rfl (by first | (exact cellF (hB.next D8) (ca k (by omega))) | (exact cellF (hB.next D8) (cb k (by omega))))) rfl
             refine ⟨?_, ?_⟩
             · intro w9 D9
               show OpOK _ _ _ _ _ _ _
               exact ok_pure (ro_move (v := .slice _ _ _) rfl) rfl
             refine ⟨?_, ?_⟩
             · intro w10 D10
               show OpOK _ _ _ _ _ _ _
               exact ok_pure (ro_move (v := .int _ _) rfl) rfl
             refine ⟨?_, ?_⟩
             · intro w11 D11
               rintro _ rfl _ rfl
               show OpOK _ _ _ _ _ _ _
               exact ok_pure (ro_indexAddr1 NetOnce0_e28 rfl rfl (by omega)) rfl
             refine ⟨?_, ?_⟩
             · intro w12 D12
               rintro _ rfl
               show OpOK _ _ _ _ _ _ _
               exact ok_pure (ro_load NetOnce0_g3 rfl (by first | (exact cellF (hB.next D12) (ca k (by omega))) | (exact cellF (hB.next D12) (cb k (by omega))))) rfl
             refine ⟨?_, ?_⟩
             · intro w13 D13
               rintro _ rfl _ rfl
               show OpOK _ _ _ _ _ _ _
               exact ok_pure (ro_neq rfl rfl) rfl
             exact trivial
            case hend =>
             intro w14 D14
             rintro _ rfl _ rfl _ rfl _ rfl _ rfl _ rfl _ rfl _ rfl _ rfl
             show St _ _ _ _ _ _ _
             refine st_nil ?_
             refine nx_then ?_
             refine cd_cond rfl (fun Q15 => ?_) (fun Q15 => ?_)
             · (try first | replace Q15 := bn_t Q15 | replace Q15 := bn_f Q15)
               (try first | replace Q15 := bx_t Q15 | replace Q15 := bx_f Q15 | replace Q15 := be_t Q15 | replace Q15 := be_f Q15 | replace Q15 := of_decide_eq_true Q15 | replace Q15 := of_decide_eq_false Q15)
               first
                | (exfalso; first | omega | contradiction | (cases Q15; done))
                | skip
                  refine cd_seq ?_
                  refine cd_region ?_
                  refine st_val (ro_assign (v := .bool _) rfl) ?_
                  refine st_nil ?_
                  refine nx_then ?_
                  refine cd_ret ?_
                  refine rt_block ?_
                  refine rt_then ?_
                  refine rt_then ?_
                  refine rt_block ?_
                  refine rt_then ?_
                  refine res1 (v := .bool _) rfl rfl ?_
                  exact ⟨by rw [decide_eq_false]; rintro rfl; exact absurd rfl (by assumption), (hB.next D14)⟩
             · (try first | replace Q15 := bn_t Q15 | replace Q15 := bn_f Q15)
               (try first | replace Q15 := bx_t Q15 | replace Q15 := bx_f Q15 | replace Q15 := be_t Q15 | replace Q15 := be_f Q15 | replace Q15 := of_decide_eq_true Q15 | replace Q15 := of_decide_eq_false Q15)
               first
                | (exfalso; first | omega | contradiction | (cases Q15; done))
                | skip
                  refine cd_skip ?_
                  refine nx_block ?_
                  refine nx_then ?_
                  refine cd_region ?_
                  refine st_val (ro_move (v := .int _ _) rfl) ?_
                  refine st_val (ro_add64 rfl rfl (by omega)) ?_
                  refine st_val (ro_assign (v := .int _ _) rfl) ?_
                  refine st_nil ?_
                  refine nx_cut (k + 1) ⟨(by first | rfl | (refine int_eq ?_; omega)), trivial⟩ (by (iterate 33 refine agr_cons rfl ?_); exact agr_rfl) ⟨?_, ?_⟩
                  · exact ⟨by omega, take_eq (by omega) (by omega) ht (by simpa using (by assumption)), (hB.next D14)⟩
                  · omega
       · (try first | replace Q3 := bn_t Q3 | replace Q3 := bn_f Q3)
         (try first | replace Q3 := bx_t Q3 | replace Q3 := bx_f Q3 | replace Q3 := be_t Q3 | replace Q3 := be_f Q3 | replace Q3 := of_decide_eq_true Q3 | replace Q3 := of_decide_eq_false Q3)
         first
          | (exfalso; first | omega | contradiction | (cases Q3; done))
          | skip
            refine cd_exit ?_
            refine ex_then ?_
            refine ex_then ?_
            refine ex_block ?_
            refine nx_then ?_
            refine cd_seq ?_
            refine cd_region ?_
            refine st_val (ro_assign (v := .bool _) rfl) ?_
            refine st_nil ?_
            refine nx_then ?_
            refine cd_ret ?_
            refine res1 (v := .bool _) rfl rfl ?_
            exact ⟨by rw [decide_eq_true (eq_ge (by omega) (by omega) ht)], hB⟩
def numOf (pick : Int) : Int := if pick % 4 = 0 then 1 else if pick % 4 = 2 then 1 else if pick % 4 = 3 then 2 else 0
def cntT (L : Pars) (j : Int) : Int := (L.countP (fun p => decide (p.1.tm = j)) : Nat)
def cntM (L : List Msg) (j : Int) : Int := (L.countP (fun x => decide (x.tm = j)) : Nat)
theorem put1_perm {L : Pars} {p : Msg × Int} (h : L.length ≠ 4096) : (put1 L p).Perm (p :: L) := by
  unfold put1
  rw [if_neg h, List.append_assoc, List.singleton_append]
  refine List.perm_middle.trans ?_
  rw [List.take_append_drop]
theorem put1_cnt {L : Pars} {p : Msg × Int} (h : L.length ≠ 4096) (j : Int) : cntT (put1 L p) j = cntT L j + if p.1.tm = j then 1 else 0 := by
  unfold cntT
  rw [(put1_perm h).countP_eq, List.countP_cons]
  by_cases hj : p.1.tm = j
  · simp [hj]
  · simp [hj]
theorem put1_mem {L : Pars} {p q : Msg × Int} (h : L.length ≠ 4096) (hq : q ∈ put1 L p) : q = p ∨ q ∈ L := by
  have := (put1_perm h).mem_iff.1 hq
  simpa using this
theorem put1_len2 {L : Pars} {p : Msg × Int} (h : L.length ≠ 4096) : (put1 L p).length = L.length + 1 := by
  rw [(put1_perm h).length_eq]; rfl
theorem puts_cnt {x : Msg} {now pick : Int} {L : Pars} (h : L.length ≤ 4000) (j : Int) : cntT (putAll x (timesOf now pick) L) j = cntT L j + if x.tm = j then numOf pick else 0 := by
  unfold timesOf numOf
  by_cases h0 : pick % 4 = 0
  · rw [if_pos h0, if_pos h0]
    exact put1_cnt (p := (x, now + 1)) (by omega) j
  · by_cases h2 : pick % 4 = 2
    · rw [if_neg h0, if_pos h2, if_neg h0, if_pos h2]
      exact put1_cnt (p := (x, _)) (by omega) j
    · by_cases h3 : pick % 4 = 3
      · rw [if_neg h0, if_neg h2, if_pos h3, if_neg h0, if_neg h2, if_pos h3]
        show cntT (put1 (put1 L _) _) j = _
        rw [put1_cnt (by rw [put1_len2 (by omega)]; omega), put1_cnt (by omega)]
        by_cases hx : x.tm = j
        · simp only [hx, if_true]; omega
        · simp only [hx, if_false]; omega
      · rw [if_neg h0, if_neg h2, if_neg h3, if_neg h0, if_neg h2, if_neg h3]
        simp [putAll]
theorem puts_mem {x : Msg} {now pick : Int} {L : Pars} (h : L.length ≤ 4000) {q : Msg × Int} (hq : q ∈ putAll x (timesOf now pick) L) : q ∈ L ∨ (q.1 = x ∧ now + 1 ≤ q.2 ∧ q.2 ≤ now + 9) := by
  have hd8 : 0 ≤ pick / 4 % 8 ∧ pick / 4 % 8 < 8 := by omega
  unfold timesOf at hq
  split at hq
  · rcases put1_mem (by omega) hq with rfl | hq
    · exact .inr ⟨rfl, by simp only; omega, by simp only; omega⟩
    · exact .inl hq
  · split at hq
    · rcases put1_mem (by omega) hq with rfl | hq
      · exact .inr ⟨rfl, by simp only; omega, by simp only; omega⟩
      · exact .inl hq
    · split at hq
      · have hq' : q ∈ put1 (put1 L (x, now + 1)) (x, now + 2 + pick / 4 % 8) := hq
        rcases put1_mem (by rw [put1_len2 (by omega)]; omega) hq' with rfl | hq
        · exact .inr ⟨rfl, by simp only; omega, by simp only; omega⟩
        · rcases put1_mem (by omega) hq with rfl | hq
          · exact .inr ⟨rfl, by simp only; omega, by simp only; omega⟩
          · exact .inl hq
      · exact .inl hq
theorem puts_len {x : Msg} {now pick : Int} {L : Pars} (h : L.length ≤ 4000) : (putAll x (timesOf now pick) L).length ≤ L.length + 2 := by
  unfold timesOf
  split
  · show (put1 L _).length ≤ _
    rw [put1_len2 (by omega)]; omega
  · split
    · show (put1 L _).length ≤ _
      rw [put1_len2 (by omega)]; omega
    · split
      · show (put1 (put1 L _) _).length ≤ _
        rw [put1_len2 (by rw [put1_len2 (by omega)]; omega), put1_len2 (by omega)]
        omega
      · show L.length ≤ _
        omega
theorem cnt_none {L : Pars} {j : Int} (h : ∀ p ∈ L, p.1.tm ≠ j) : cntT L j = 0 := by
  unfold cntT
  rw [List.countP_eq_zero.2]
  · rfl
  · intro p hp
    simpa using h p hp
theorem cnt_split (L : Pars) (d : Nat) (j : Int) : cntT L j = cntM ((L.take d).map (·.1)) j + cntT (L.drop d) j := by
  unfold cntT cntM
  rw [List.countP_map]
  conv => lhs; rw [← List.take_append_drop d L, List.countP_append]
  rw [Int.natCast_add]
  rfl
theorem cntM_succ {X : List Msg} {i : Nat} (h : i < X.length) (j : Int) : cntM (X.take (i + 1)) j = cntM (X.take i) j + if X[i].tm = j then 1 else 0 := by
  unfold cntM
  rw [List.take_succ_eq_append_getElem h, List.countP_append]
  by_cases hj : X[i].tm = j
  · simp [hj]
  · simp [hj]
theorem due_none {L : Pars} {x : Int} (h : ∀ p ∈ L, x < p.2) : dueN L x = 0 := by
  unfold dueN
  rw [List.countP_eq_zero]
  intro p hp
  have := h p hp
  simp only [decide_eq_true_eq]
  omega
theorem NetAt.only {w w' : World} {base b c g t : Nat} {A : Option Addr} {L : Pars} {cs : Array Value} (h : NetAt w base b A c L) (o : Only g w w') (hb : Blk w g t cs) (hgb : g ≠ b) (ht : t ≠ 53) : NetAt w' base b A c L :=
  ⟨h.1, h.2.1.only o (Ne.symm hgb), own_only3 h.2.2 o (own_off h.2.2 hb ht)⟩
theorem arr_set {α : Type} {f : α → Value} {l : List α} (i : Nat) (x : α) : ((l.map f).toArray.setIfInBounds i (f x)) = ((l.set i x).map f).toArray := by
  rw [List.setIfInBounds_toArray, List.map_set]
theorem repl_map (m : Nat) : (List.replicate m (Value.int .i64 0)).toArray = ((List.replicate m (0 : Int)).map iV).toArray := by rw [List.map_replicate]
theorem rowk_only {w w' : World} {A : Option Addr} {X : List Msg} {g : Nat} (h : RowK 13 msgV w A X) (o : Only g w w') (hne : ∀ b o', A = some ⟨b, o', none⟩ → b ≠ g) : RowK 13 msgV w' A X := fun h0 =>
  let ⟨b, o', hA, hc⟩ := h h0
  ⟨b, o', hA, fun i hi j v hv => (o.cell (hne b o' hA)).trans (hc i hi j v hv)⟩
theorem eqNumbers_n (b1 b2 m ca cb : Nat) (W Q : List Int) (w : World) (h1 : Blk w b1 3 (W.map iV).toArray) (h2 : Blk w b2 3 (Q.map iV).toArray) (hl : W.length = m) (he : W = Q) (hm : m ≤ 60) :
    Rt Try.prog 21 [.slice (some ⟨b1, 0, none⟩) m ca, .slice (some ⟨b2, 0, none⟩) m cb] w fun v w' => v = .bool true ∧ From w w' := by
  subst he
  subst hl
  refine (eqNumbers_any (some ⟨b1, 0, none⟩) (some ⟨b2, 0, none⟩) ca cb W W w (RowOf.blk h1 fun i hi => arr_get i hi) (RowOf.blk h2 fun i hi => arr_get i hi) (by omega)).mono fun v w' h => ⟨by rw [h.1, decide_eq_true rfl], h.2⟩
theorem new_rt2 (w : World) (base : Nat) (hb : base ≤ w.heap.size) : Rt Try.prog 7 [] w fun v w' => (∃ b, v = .pointer (some ⟨b, 0, none⟩) ∧ NetAt w' base b none 0 []) ∧ From w w' :=
  (new_rt w).mono fun v w' ⟨⟨b, h1, h2⟩, hF⟩ => ⟨⟨b, h1, Nat.le_trans hb h2.1, h2.2.1, World.ownsRow_nil _ _ _ _⟩, hF⟩
end Go.Proofs.Ythakmhdliginoaa
