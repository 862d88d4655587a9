/- suffix: induce. -/
import Derived.Test.YtpafbgdbjambgaaSufMid
namespace Go.Proofs.Ytpafbgdbjambgaa
open Go.RowKit
open Go.ChangeShapes Go.WideShapes Go.ChangeAt
open Go.Proofs.Ytpafbgdbjambgaa.SA
theorem SufInduce_e51 : elemQ Try.prog 51 = some (21, 1) := by kernel_rfl
theorem SufInduce_m51 : makeQ Try.prog 51 = some (21, 4, (.int .i32 0)) := by kernel_rfl
theorem SufInduce_g49 : aggQ Try.prog 49 = some false := by kernel_rfl
theorem SufInduce_f60_0 : fieldQ Try.prog 60 0 = some 0 := by kernel_rfl
theorem SufInduce_g51 : aggQ Try.prog 51 = some false := by kernel_rfl
theorem SufInduce_l51 : (elemQ Try.prog 51).isSome = true := by kernel_rfl
theorem SufInduce_o51 : zeroQ Try.prog 51 = some (.slice none 0 0) := by kernel_rfl
theorem SufInduce_z51 : sizeQ Try.prog 51 = some 1 := by kernel_rfl
theorem SufInduce_z21 : sizeQ Try.prog 21 = some 1 := by kernel_rfl
theorem SufInduce_f60_4 : fieldQ Try.prog 60 4 = some 4 := by kernel_rfl
theorem SufInduce_k34 : callable Try.prog 34 = true := by kernel_rfl
theorem SufInduce_k35 : callable Try.prog 35 = true := by kernel_rfl
theorem SufInduce_g21 : aggQ Try.prog 21 = some false := by kernel_rfl
theorem SufInduce_k36 : callable Try.prog 36 = true := by kernel_rfl
theorem SufInduce_f60_2 : fieldQ Try.prog 60 2 = some 2 := by kernel_rfl
theorem SufInduce_g58 : aggQ Try.prog 58 = some false := by kernel_rfl
theorem SufInduce_e58 : elemQ Try.prog 58 = some (4, 1) := by kernel_rfl
theorem SufInduce_g4 : aggQ Try.prog 4 = some false := by kernel_rfl
set_option maxRecDepth 100000 in
set_option maxHeartbeats 4000000 in
theorem induce_rt (b n K m0 : Nat) (t ss : Nat → Nat) (w : World) (hT : TextAt w b n K t m0 ss) (h2n : 2 ≤ n) (ht : Txt n t) (hkt : ∀ i, i < n → t i < K) (hn : n ≤ 200000) (hK : K ≤ 200000) (bo oo m co : Nat) (od idx : Nat → Nat) (hod : ∀ q, q < m → w.cell? ⟨bo, oo + q, none⟩ = some (.int .i32 ((od q : Nat) : Int))) (hos : ∀ q, q < m → lms n t (od q) ∧ idx (od q) = q) (hall : ∀ s, lms n t s → idx s < m) (hord : Ord n t idx) (hm : m ≤ 200000) :
    Rt Try.prog 30 [.pointer (some ⟨b, 0, none⟩), .slice (some ⟨bo, oo, none⟩) m co] w (fun v w' => (∃ g xs, v = .slice (some ⟨g, 0, none⟩) n n ∧ w.heap.size ≤ g ∧ VJ w' g n xs ∧ ∀ i, i < n → xs (pos n t idx i) = i) ∧ From w w') := by
  have hT0 := hT
  obtain ⟨gl, gr, AS, cs, ge, hb, hl, hr, hss, he⟩ := hT
  have hK0 : 0 < K := Nat.lt_of_le_of_lt (Nat.zero_le _) (hkt 0 (by omega))
  refine enterM (n := 169) Try.func30 rfl rfl rfl ?_
  refine cd_seq ?_
  refine cd_region ?_
  refine st_box (v := .pointer _) rfl ?_
  intro b2 w1 E2 hb2 hk2
  refine st_val (ro_assign (v := .slice _ _ _) rfl) ?_
  refine st_nil ?_
  refine nx_then ?_
  refine cd_seq ?_
  refine cd_region ?_
  refine st_val (ro_load SufInduce_g49 rfl (by exact (hk2.from_ From.rfl_).rd 0 rfl)) ?_
  refine st_val (ro_nilCheck rfl) ?_
  refine st_val (ro_fieldAddr SufInduce_f60_0 rfl) ?_
  refine st_val (ro_load SufInduce_g51 rfl (by exact cellF (From.rfl_.next E2) (hb.rd 0 rfl))) ?_
  refine st_val (ro_len SufInduce_l51 rfl) ?_
  refine st_make SufInduce_m51 rfl rfl rfl (by omega) (by omega) ?_
  intro b20 w2 E20 hb20 hk20
  have hg20 : w.heap.size ≤ b20 := by rw [hb20]; exact ((From.rfl_.next E2)).size
  refine st_alloc SufInduce_o51 ?_
  intro b5 w3 E5 hb5 hk5
  refine st_put (v := .slice _ _ _) SufInduce_z51 rfl rfl rfl (hk5) (by show 0 < 1; decide) ?_
  intro w4 O1 P1
  have hx1 : VJ w4 b20 n (fun _ => 0) := (VJ.of_blk (by rw [← tabJ_zero]; exact hk20.from_ E5)).only O1 (by have := hk20.lt; omega)
  have h2_1 := ((hk2.from_ E20).from_ E5).only O1 (by have := (hk2.from_ E20).lt; omega)
  refine st_nil ?_
  refine nx_then ?_
  refine cd_seq ?_
  refine cd_seq ?_
  refine cd_region ?_
  refine st_val (ro_load SufInduce_g51 rfl (by exact (P1).rd 0 rfl)) ?_
  refine st_val (ro_len SufInduce_l51 rfl) ?_
  refine st_val (ro_move (v := .int _ _) rfl) ?_
  refine st_nil ?_
  refine nx_then ?_
  refine cd_block ?_
  refine cd_loop (G := Nat × (Nat → Int)) [6, 24, 25, 26, 27, 28, 29] (fun (k, _) => [(23, .int .i64 (k : Nat))]) (fun (k, xs) w' => k ≤ n ∧ (∀ i, i < k → xs i = -1) ∧ VJ w' b20 n xs ∧ Blk w' b2 49 #[.pointer (some ⟨b, 0, none⟩)] ∧ Blk w' b5 51 #[.slice (some ⟨b20, 0, none⟩) n n] ∧ From w w') (fun (k, _) => n - k) ((0, fun _ => 0)) ⟨rfl, trivial⟩ ?_ ?_
  · exact ⟨Nat.zero_le _, fun i h => absurd h (by omega), hx1, h2_1, P1, ((((From.rfl_.next E2).next E20).next E5).only O1 ((by rw [hb5]; exact Nat.le_trans (Nat.le_trans hg20 (Nat.le_of_lt hk20.lt)) (Nat.le_refl _))))⟩
  rintro ⟨k, xs⟩ ρ5 w5 ⟨hk, hx0, hxs, h2b, h5b, hB⟩
  refine cd_seq ?_
  refine cd_region ?_
  refine st_val (ro_lss rfl rfl) ?_
  refine st_nil ?_
  refine nx_then ?_
  refine cd_seq ?_
  refine cd_cond rfl (fun Q6 => ?_) (fun Q6 => ?_)
  · (try with_reducible first | replace Q6 := of_decide_eq_true Q6 | replace Q6 := of_decide_eq_false Q6 | replace Q6 := bn_t Q6 | replace Q6 := bn_f Q6)
    (try with_reducible first | replace Q6 := of_decide_eq_true Q6 | replace Q6 := of_decide_eq_false Q6 | replace Q6 := bx_t Q6 | replace Q6 := bx_f Q6 | replace Q6 := be_t Q6 | replace Q6 := be_f Q6)
    have hkn : k < n := by omega
    obtain ⟨cu, hcu, hsz, hce⟩ := id hxs
    refine cd_skip ?_
    refine nx_then ?_
    refine cd_seq ?_
    refine cd_block ?_
    refine cd_seq ?_
    refine cd_region ?_
    refine st_val (ro_move (v := .int _ _) rfl) ?_
    refine st_val (ro_assign (v := .int _ _) rfl) ?_
    refine st_nil ?_
    refine nx_then ?_
    refine cd_region ?_
    refine st_val (ro_load SufInduce_g51 rfl (by exact h5b.rd 0 rfl)) ?_
    refine st_val (ro_move (v := .int _ _) rfl) ?_
    refine st_val (ro_indexAddr0 SufInduce_e51 rfl rfl (by omega)) ?_
    refine st_put (v := .int _ _) SufInduce_z21 rfl rfl rfl (hcu) (by omega) ?_
    intro w7 O5 P5
    have hxs5 := VJ.put P5 hsz hce hkn
    have h2_5 := h2b.only O5 (hxs.ne h2b (by decide))
    have h5_5 := h5b.only O5 (hxs.ne h5b (by decide))
    refine st_nil ?_
    refine nx_block ?_
    refine nx_then ?_
    refine cd_region ?_
    refine st_val (ro_addN (b := 1) rfl rfl (by omega)) ?_
    refine st_val (ro_move (v := .int _ _) rfl) ?_
    refine st_nil ?_
    refine nx_cut ((k + 1, upd xs k (-1))) ⟨(by first | rfl | (refine int_eq ?_; omega)), trivial⟩ (by (iterate 16 refine agr_cons rfl ?_); exact agr_rfl) ⟨?_, ?_⟩
    · refine ⟨by omega, fun i hi => ?_, hxs5, h2_5, h5_5, (hB.only O5 (hg20))⟩
      unfold upd
      split
      · rfl
      · exact hx0 i (by omega)
    · show n - (k + 1) < n - k; omega
  · (try with_reducible first | replace Q6 := of_decide_eq_true Q6 | replace Q6 := of_decide_eq_false Q6 | replace Q6 := bn_t Q6 | replace Q6 := bn_f Q6)
    (try with_reducible first | replace Q6 := of_decide_eq_true Q6 | replace Q6 := of_decide_eq_false Q6 | replace Q6 := bx_t Q6 | replace Q6 := bx_f Q6 | replace Q6 := be_t Q6 | replace Q6 := be_f Q6)
    refine cd_exit ?_
    refine ex_then ?_
    refine ex_then ?_
    refine ex_block ?_
    refine nx_then ?_
    refine cd_seq ?_
    refine cd_region ?_
    refine st_val (ro_load SufInduce_g49 rfl (by exact (h2b.from_ From.rfl_).rd 0 rfl)) ?_
    refine st_val (ro_nilCheck rfl) ?_
    refine st_val (ro_fieldAddr SufInduce_f60_4 rfl) ?_
    refine st_val (ro_load SufInduce_g51 rfl (by exact cellF hB (hb.rd 4 rfl))) ?_
    refine st_call SufInduce_k34 (clone_vj ge K _ _ (he.from_ hB) hK0 (by omega)) ?_
    rintro v34 w8 ⟨⟨g34, c34, rfl, hg34, htl⟩, E34⟩
    refine st_alloc SufInduce_o51 ?_
    intro b7 w9 E7 hb7 hk7
    refine st_put (v := .slice _ _ _) SufInduce_z51 rfl rfl rfl (hk7) (by show 0 < 1; decide) ?_
    intro w10 O7 P7
    obtain rfl : n = k := by omega
    have hxk : VJ _ b20 n (fun _ => -1) := VJ.congr hxs fun i hi => hx0 i hi
    have hxa := (hxk.from_ E34).from_ E7
    have hta := htl.from_ E7
    have hx7 := hxa.only O7 (Ne.symm (hxa.ne hk7 (by decide)))
    have ht7 := hta.only O7 (Ne.symm (hta.ne hk7 (by decide)))
    have h2_7 := ((h2b.from_ E34).from_ E7).only O7 (blk_ne ((h2b.from_ E34).from_ E7) hk7 (by decide))
    have h5_7 := ((h5b.from_ E34).from_ E7).only O7 (by have := (h5b.from_ E34).lt; omega)
    have hg34b : b20 < g34 := Nat.lt_of_lt_of_le hxs.lt hg34
    refine st_nil ?_
    refine nx_then ?_
    refine cd_seq ?_
    refine cd_seq ?_
    refine cd_region ?_
    refine st_val (ro_move (v := .slice _ _ _) rfl) ?_
    refine st_call SufInduce_k35 (backward_rt _ _ _ _) ?_
    rintro v36 w11 ⟨⟨Bs, rfl, hgs, hbs⟩, E36⟩
    have hB36 : From w w11 := ((((hB.next E34).next E7).only O7 ((by rw [hb7]; exact Nat.le_trans hB.size E34.size))).next E36)
    refine st_nil ?_
    refine nx_then ?_
    refine cd_block ?_
    apply cd_range2 (u := fun k => .int .i64 ((m - 1 - k : Nat) : Int)) (v := fun k => .int .i32 ((od (m - 1 - k) : Nat) : Int)) (N := m) (Rd := BackRd Bs bo oo m co (fun q => ((od q : Nat) : Int))) rfl (enters_of Try.func39 (by kernel_rfl) rfl) (back_iter Bs bo oo m co (fun q => ((od q : Nat) : Int)) (by omega)) (fun k W => ∃ xs ts, Inv1 n t idx (m - k) xs ts ∧ VJ W b20 n xs ∧ VJ W g34 K ts ∧ Cst w b b2 b5 b7 b20 g34 n K c34 W ∧ Blk W Bs 51 #[.slice (some ⟨bo, oo, none⟩) m co])
    case ha =>
     intro l k W K hK
     refine cr_region rfl (fun ⟨_, _, h⟩ => h) ?_
     refine st_val (ro_assign (v := _) rfl) ?_
     refine st_nil ?_
     exact hK
    case hRd =>
     rintro k W ⟨xs, ts, hi1, hxs, hts, hc, hbs⟩
     exact ⟨hbs.rd 0 rfl, fun j hj => cellF hc.hF (hod j hj)⟩
    case hF =>
     rintro k W W' ⟨xs, ts, hi1, hxs, hts, hc, hbs⟩ hF
     exact ⟨xs, ts, hi1, hxs.from_ hF, hts.from_ hF, hc.from_ hF, hbs.from_ hF⟩
    case hO =>
     rintro k W W' q o hq ho hO hwq ⟨xs, ts, hi1, hxs, hts, hc, hbs⟩
     exact ⟨xs, ts, hi1, hxs.aside hq ho hO, hts.aside hq ho hO, hc.aside hq ho hO (Nat.le_trans (((((hB.next E34).next E7).only O7 ((by rw [hb7]; exact Nat.le_trans hB.size E34.size))).next E36)).size hwq), hbs.only hO (blk_aside hbs hq ho)⟩
    case h0 =>
     exact ⟨_, _, inv1_start (q := m) hall, hx7.from_ E36, ht7.from_ E36, ⟨h2_7.from_ E36, h5_7.from_ E36, P7.from_ E36, ⟨hg20, hg34b⟩, ((((hB.next E34).next E7).only O7 ((by rw [hb7]; exact Nat.le_trans hB.size E34.size))).next E36)⟩, hbs⟩
    case hb =>
     intro l k WB hkN hI
     obtain ⟨xs, ts, hi1, hxs, hts, hc, hbs⟩ := hI
     obtain ⟨q, hq, hq2⟩ : ∃ q, m - k = q + 1 ∧ m - 1 - k = q := ⟨m - 1 - k, by omega, rfl⟩
     rw [hq] at hi1
     rw [hq2]
     obtain ⟨hls, hiq⟩ := hos q (by omega)
     obtain ⟨hts1, hi2⟩ := inv1_step ht hord hi1 hls hiq
     have hp1 := pos1_lt (idx := idx) hls
     have hsn := hls.2.1
     have hcs := hkt _ hsn
     obtain ⟨s, hs⟩ : ∃ s, s = od q := ⟨_, rfl⟩
     rw [← hs] at hls hiq hts1 hi2 hp1 hsn hcs ⊢
     have hlo := hc.lo
     refine cr_block ?_
     refine cr_seq ?_
     apply cr_drawn 12 [(39, eqp _), (40, eqp _), (41, eqp _), (42, eqp _), (43, eqp _), (44, eqp _), (45, eqp _), (46, eqp _), (47, eqp _), (48, eqp _), (49, eqp _), (50, eqp _)] (by kernel_rfl) (by kernel_rfl) ⟨eqp_mono _, eqp_mono _, eqp_mono _, eqp_mono _, eqp_mono _, eqp_mono _, eqp_mono _, eqp_mono _, eqp_mono _, eqp_mono _, eqp_mono _, eqp_mono _, trivial⟩ (by kernel_rfl) (fun ⟨_, _, h⟩ => h)
     case hop =>
      refine ⟨?_, ?_⟩
      · intro w13 D13
        show OpOK _ _ _ _ _ _ _
        exact ok_pure (ro_load SufInduce_g51 rfl (by exact (hc.h7.from_ (From.rfl_.next D13)).rd 0 rfl)) rfl
      refine ⟨?_, ?_⟩
      · intro w14 D14
        show OpOK _ _ _ _ _ _ _
        exact ok_pure (ro_load SufInduce_g49 rfl (by exact (hc.h2.from_ (From.rfl_.next D14)).rd 0 rfl)) rfl
      refine ⟨?_, ?_⟩
      · intro w15 D15
        rintro _ rfl
        show OpOK _ _ _ _ _ _ _
        exact ok_pure (ro_nilCheck rfl) rfl
      refine ⟨?_, ?_⟩
      · intro w16 D16
        rintro _ rfl
        show OpOK _ _ _ _ _ _ _
        exact ok_pure (ro_fieldAddr SufInduce_f60_0 rfl) rfl
      refine ⟨?_, ?_⟩
      · intro w17 D17
        rintro _ rfl
        show OpOK _ _ _ _ _ _ _
        exact ok_pure (ro_load SufInduce_g51 rfl (by exact cellF (hc.hF.next D17) (hb.rd 0 rfl))) rfl
      refine ⟨?_, ?_⟩
      · intro w18 D18
        show OpOK _ _ _ _ _ _ _
        exact ok_pure (ro_move (v := .int _ _) rfl) rfl
      refine ⟨?_, ?_⟩
      · intro w19 D19
        rintro _ rfl _ rfl
        show OpOK _ _ _ _ _ _ _
        exact ok_pure (ro_indexAddr0 SufInduce_e51 rfl rfl (by exact hsn)) rfl
      refine ⟨?_, ?_⟩
      · intro w20 D20
        rintro _ rfl
        show OpOK _ _ _ _ _ _ _
        exact ok_pure (ro_load SufInduce_g21 rfl (by exact (hl.from_ (hc.hF.next D20)).rdN hsn)) rfl
      refine ⟨?_, ?_⟩
      · intro w21 D21
        rintro _ rfl _ rfl
        show OpOK _ _ _ _ _ _ _
        exact ok_pure (ro_indexAddr0 SufInduce_e51 rfl rfl (by exact hcs)) rfl
      refine ⟨?_, ?_⟩
      · intro w22 D22
        rintro _ rfl
        show OpOK _ _ _ _ _ _ _
        exact ok_pure (ro_load SufInduce_g21 rfl (by exact (hts.from_ (From.rfl_.next D22)).rd hcs)) rfl
      refine ⟨?_, ?_⟩
      · intro w23 D23
        rintro _ rfl
        show OpOK _ _ _ _ _ _ _
        exact ok_pure (ro_sub32 (r := ((pos1 n t idx s : Nat) : Int)) rfl rfl hts1 (by omega)) rfl
      refine ⟨?_, ?_⟩
      · intro w24 D24
        rintro _ rfl _ rfl
        show OpOK _ _ _ _ _ _ _
        exact ok_pure (ro_indexAddr0 SufInduce_e51 rfl rfl (by exact hcs)) rfl
      exact trivial
     case hend =>
      intro w25 D25
      rintro _ rfl _ rfl _ rfl _ rfl _ rfl _ rfl _ rfl _ rfl _ rfl _ rfl _ rfl _ rfl
      show St _ _ _ _ _ _ _
      have hxsD := hxs.from_ D25
      have htsD := hts.from_ D25
      have hcD := hc.from_ D25
      have hbsD := hbs.from_ D25
      obtain ⟨ct, hbk10, hst, hct⟩ := hts.from_ D25
      have hkD : Keeps WB _ := Keeps.from_ D25
      refine st_put (v := .int _ _) SufInduce_z21 rfl rfl rfl (hbk10) (by omega) ?_
      intro w26 O10 P10
      have hts10 := VJ.put P10 hst hct hcs
      have hxs10 := hxsD.only O10 (by omega)
      have hc10 := hcD.only htsD O10 (by omega)
      have hbs10 := hbsD.only O10 (htsD.ne hbsD (by decide))
      have hk10 := hkD.trans (Keeps.only O10 hbk10)
      have hcell10 : (w26).cell? ⟨g34, t s, none⟩ = some (.int .i32 ((pos1 n t idx s : Nat) : Int)) := by rw [hts10.rd hcs, upd_same]
      refine st_nil ?_
      refine nr_then ?_
      apply cr_drawn 13 [(51, eqp _), (52, eqp _), (53, eqp _), (54, eqp _), (55, eqp _), (56, eqp _), (57, eqp _), (58, eqp _), (59, eqp _), (60, eqp _), (61, eqp _), (62, eqp _), (63, eqp _)] (by kernel_rfl) (by kernel_rfl) ⟨eqp_mono _, eqp_mono _, eqp_mono _, eqp_mono _, eqp_mono _, eqp_mono _, eqp_mono _, eqp_mono _, eqp_mono _, eqp_mono _, eqp_mono _, eqp_mono _, eqp_mono _, trivial⟩ (by kernel_rfl) (fun ⟨_, _, h⟩ => h)
      case hop =>
       refine ⟨?_, ?_⟩
       · intro w28 D28
         show OpOK _ _ _ _ _ _ _
         exact ok_pure (ro_load SufInduce_g51 rfl (by exact (hc10.h5.from_ (From.rfl_.next D28)).rd 0 rfl)) rfl
       refine ⟨?_, ?_⟩
       · intro w29 D29
         show OpOK _ _ _ _ _ _ _
         exact ok_pure (ro_load SufInduce_g51 rfl (by exact (hc10.h7.from_ (From.rfl_.next D29)).rd 0 rfl)) rfl
       refine ⟨?_, ?_⟩
       · intro w30 D30
         show OpOK _ _ _ _ _ _ _
         exact ok_pure (ro_load SufInduce_g49 rfl (by exact (hc10.h2.from_ (From.rfl_.next D30)).rd 0 rfl)) rfl
       refine ⟨?_, ?_⟩
       · intro w31 D31
         rintro _ rfl
         show OpOK _ _ _ _ _ _ _
         exact ok_pure (ro_nilCheck rfl) rfl
       refine ⟨?_, ?_⟩
       · intro w32 D32
         rintro _ rfl
         show OpOK _ _ _ _ _ _ _
         exact ok_pure (ro_fieldAddr SufInduce_f60_0 rfl) rfl
       refine ⟨?_, ?_⟩
       · intro w33 D33
         rintro _ rfl
         show OpOK _ _ _ _ _ _ _
         exact ok_pure (ro_load SufInduce_g51 rfl (by exact cellF (((hc.hF.next D25).only O10 ((by omega))).next D33) (hb.rd 0 rfl))) rfl
       refine ⟨?_, ?_⟩
       · intro w34 D34
         show OpOK _ _ _ _ _ _ _
         exact ok_pure (ro_move (v := .int _ _) rfl) rfl
       refine ⟨?_, ?_⟩
       · intro w35 D35
         rintro _ rfl _ rfl
         show OpOK _ _ _ _ _ _ _
         exact ok_pure (ro_indexAddr0 SufInduce_e51 rfl rfl (by exact hsn)) rfl
       refine ⟨?_, ?_⟩
       · intro w36 D36
         rintro _ rfl
         show OpOK _ _ _ _ _ _ _
         exact ok_pure (ro_load SufInduce_g21 rfl (by exact (hl.from_ (((hc.hF.next D25).only O10 ((by omega))).next D36)).rdN hsn)) rfl
       refine ⟨?_, ?_⟩
       · intro w37 D37
         rintro _ rfl _ rfl
         show OpOK _ _ _ _ _ _ _
         exact ok_pure (ro_indexAddr0 SufInduce_e51 rfl rfl (by exact hcs)) rfl
       refine ⟨?_, ?_⟩
       · intro w38 D38
         rintro _ rfl
         show OpOK _ _ _ _ _ _ _
         exact ok_pure (ro_load SufInduce_g21 rfl (by exact cellF (From.rfl_.next D38) hcell10)) rfl
       refine ⟨?_, ?_⟩
       · intro w39 D39
         show OpOK _ _ _ _ _ _ _
         exact ok_pure (ro_move (v := .int _ _) rfl) rfl
       refine ⟨?_, ?_⟩
       · intro w40 D40
         rintro _ rfl _ rfl
         show OpOK _ _ _ _ _ _ _
         exact ok_pure (ro_indexAddr0 SufInduce_e51 rfl rfl (by exact hp1)) rfl
       exact trivial
      case hend =>
       intro w41 D41
       rintro _ rfl _ rfl _ rfl _ rfl _ rfl _ rfl _ rfl _ rfl _ rfl _ rfl _ rfl _ rfl _ rfl
       show St _ _ _ _ _ _ _
       have hxsE := hxs10.from_ D41
       have htsE := hts10.from_ D41
       have hcE := hc10.from_ D41
       have hbsE := hbs10.from_ D41
       obtain ⟨cr, hbk11, hsr, hcr⟩ := hxs10.from_ D41
       have hkE := hk10.trans (Keeps.from_ D41)
       refine st_put (v := .int _ _) SufInduce_z21 rfl rfl rfl (hbk11) (by omega) ?_
       intro w42 O11 P11
       have hxs11 := VJ.put P11 hsr hcr hp1
       have hts11 := htsE.only O11 (by omega)
       have hc11 := hcE.only hxsE O11 (by omega)
       have hbs11 := hbsE.only O11 (hxsE.ne hbsE (by decide))
       have hk11 := hkE.trans (Keeps.only O11 hbk11)
       refine st_nil ?_
       refine nx_block ?_
       exact ⟨⟨_, _, by rw [show m - (k + 1) = q by omega]; exact hi2, hxs11, hts11, hc11, hbs11⟩, hk11⟩
    case hd =>
     intro D WD hD hI hK
     obtain ⟨xs, ts, hi1, hxs, hts, hc, hbs⟩ := hI
     rw [Nat.sub_self] at hi1
     have hi2s := inv2_start hi1
     have hDw : w.heap.size ≤ D := Nat.le_trans hB36.size hD
     have hlo := hc.lo
     refine nx_block ?_
     refine nx_then ?_
     refine cd_seq ?_
     refine cd_region ?_
     refine st_val (ro_load SufInduce_g49 rfl (by exact (hc.h2.from_ From.rfl_).rd 0 rfl)) ?_
     refine st_call SufInduce_k36 (heads_rt b n K m0 t ss _ (hT0.from_ hc.hF) hK0 (by omega)) ?_
     rintro v65 w43 ⟨⟨g65, c65, rfl, hg65, hhd⟩, E65⟩
     have hd1 : b20 < g65 := Nat.lt_of_lt_of_le hxs.lt hg65
     have hd2 : g34 < g65 := Nat.lt_of_lt_of_le hts.lt hg65
     refine st_val (ro_assign (v := .slice _ _ _) rfl) ?_
     refine st_nil ?_
     refine nx_then ?_
     refine cd_seq ?_
     refine cd_seq ?_
     refine cd_region ?_
     refine st_val (ro_load SufInduce_g51 rfl (by exact ((hc.from_ E65).h5).rd 0 rfl)) ?_
     refine st_val (ro_len SufInduce_l51 rfl) ?_
     refine st_val (ro_move (v := .int _ _) rfl) ?_
     refine st_nil ?_
     refine nx_then ?_
     refine cd_block ?_
     refine cd_loop (G := Nat × (Nat → Int) × (Nat → Int)) [11, 12, 69, 70, 71, 72, 73, 74, 75, 76, 77, 78, 79, 80, 81, 82, 83, 84, 85, 86, 87, 88, 89, 90, 91, 92, 93, 94, 95, 96, 97, 98, 99, 100, 101, 102, 103, 104, 105, 106, 107, 108, 109, 110, 111, 112, 113] (fun (r, _, _) => [(68, .int .i64 (r : Nat))]) (fun (r, xs, hs) w' => r ≤ n ∧ Inv2 n t idx r xs hs ∧ VJ w' b20 n xs ∧ VJ w' g65 K hs ∧ VJ w' g34 K ts ∧ Cst w b b2 b5 b7 b20 g34 n K c34 w' ∧ w'.heap[D]? = some (.deferred (some []))) (fun (r, _, _) => n - r) ((0, xs, fun c => ((less n t c : Nat) : Int))) ⟨rfl, trivial⟩ ?_ ?_
     · exact ⟨Nat.zero_le _, hi2s, hxs.from_ E65, hhd, hts.from_ E65, hc.from_ E65, Keeps.from_ E65 _ _ hK rfl⟩
     rintro ⟨r, xs, hs⟩ ρ44 w44 ⟨hr0, hi2, hxs, hhd, hts, hc, hdD⟩
     refine cd_seq ?_
     refine cd_region ?_
     refine st_val (ro_lss rfl rfl) ?_
     refine st_nil ?_
     refine nx_then ?_
     refine cd_seq ?_
     refine cd_cond rfl (fun Q45 => ?_) (fun Q45 => ?_)
     · (try with_reducible first | replace Q45 := of_decide_eq_true Q45 | replace Q45 := of_decide_eq_false Q45 | replace Q45 := bn_t Q45 | replace Q45 := bn_f Q45)
       (try with_reducible first | replace Q45 := of_decide_eq_true Q45 | replace Q45 := of_decide_eq_false Q45 | replace Q45 := bx_t Q45 | replace Q45 := bx_f Q45 | replace Q45 := be_t Q45 | replace Q45 := be_f Q45)
       have hrn : r < n := by omega
       have hx1 := inv2_lo ht hi2 hrn
       refine cd_skip ?_
       refine nx_then ?_
       refine cd_cut (G := (Nat → Int) × (Nat → Int)) [11, 12, 70, 71, 72, 73, 74, 75, 76, 77, 78, 79, 80, 81, 82, 83, 84, 85, 86, 87, 88, 89, 90, 91, 92, 93, 94, 95, 96, 97, 98, 99, 100, 101, 102, 103, 104, 105, 106, 107, 108, 109, 110, 111, 112] (fun (_, _) => []) (fun (xs, hs) w' => Inv2 n t idx (r + 1) xs hs ∧ VJ w' b20 n xs ∧ VJ w' g65 K hs ∧ VJ w' g34 K ts ∧ Cst w b b2 b5 b7 b20 g34 n K c34 w' ∧ w'.heap[D]? = some (.deferred (some []))) ?_ ?_
       · refine cd_block ?_
         refine cd_seq ?_
         refine cd_region ?_
         refine st_val (ro_move (v := .int _ _) rfl) ?_
         refine st_val (ro_assign (v := .int _ _) rfl) ?_
         refine st_nil ?_
         refine nx_then ?_
         refine cd_seq ?_
         refine cd_region ?_
         refine st_val (ro_load SufInduce_g51 rfl (by exact (hc.h5.from_ From.rfl_).rd 0 rfl)) ?_
         refine st_val (ro_move (v := .int _ _) rfl) ?_
         refine st_val (ro_indexAddr0 SufInduce_e51 rfl rfl (by exact hrn)) ?_
         refine st_val (ro_load SufInduce_g21 rfl (by exact (hxs.from_ From.rfl_).rd hrn)) ?_
         refine st_val (ro_sub32 (r := xs r - 1) rfl rfl rfl (by omega)) ?_
         refine st_val (ro_assign (v := .int _ _) rfl) ?_
         refine st_nil ?_
         refine nx_then ?_
         refine cd_seq ?_
         refine cd_region ?_
         refine st_val (ro_move (v := .int _ _) rfl) ?_
         refine st_val (ro_geq rfl rfl) ?_
         refine st_val (ro_move (v := .bool _) rfl) ?_
         refine st_split (t := 78) rfl (fun Q46 => ?_) (fun Q46 => ?_)
         · (try with_reducible first | replace Q46 := of_decide_eq_true Q46 | replace Q46 := of_decide_eq_false Q46 | replace Q46 := bn_t Q46 | replace Q46 := bn_f Q46)
           (try with_reducible first | replace Q46 := of_decide_eq_true Q46 | replace Q46 := of_decide_eq_false Q46 | replace Q46 := bx_t Q46 | replace Q46 := bx_f Q46 | replace Q46 := be_t Q46 | replace Q46 := be_f Q46)
           obtain ⟨i, hi⟩ : ∃ i : Nat, xs r = ((i + 1 : Nat) : Int) := ⟨(xs r - 1).toNat, by omega⟩
           have e12 : (Value.int .i32 (xs r - 1)) = .int .i32 ((i : Nat) : Int) := int_eq (by omega)
           rw [e12]
           have hin : i < n := by omega
           refine st_unguard rfl ?_
           refine st_val (ro_load SufInduce_g49 rfl (by exact (hc.h2.from_ From.rfl_).rd 0 rfl)) ?_
           refine st_unguard rfl ?_
           refine st_val (ro_nilCheck rfl) ?_
           refine st_unguard rfl ?_
           refine st_val (ro_fieldAddr SufInduce_f60_2 rfl) ?_
           refine st_unguard rfl ?_
           refine st_val (ro_load SufInduce_g58 rfl (by exact cellF hc.hF (hb.rd 2 rfl))) ?_
           refine st_unguard rfl ?_
           refine st_val (ro_move (v := .int _ _) rfl) ?_
           refine st_unguard rfl ?_
           refine st_val (ro_indexAddr0 SufInduce_e58 rfl rfl (by exact hin)) ?_
           refine st_unguard rfl ?_
           refine st_val (ro_load SufInduce_g4 rfl (by exact (hr.from_ hc.hF).rd i (tabB_at hin))) ?_
           refine st_unguard rfl ?_
           refine st_val (ro_not rfl) ?_
           refine st_val (ro_pickT (v := .bool _) rfl rfl) ?_
           refine st_nil ?_
           refine nx_then ?_
           refine cd_cond rfl (fun Q47 => ?_) (fun Q47 => ?_)
           · (try with_reducible first | replace Q47 := of_decide_eq_true Q47 | replace Q47 := of_decide_eq_false Q47 | replace Q47 := bn_t Q47 | replace Q47 := bn_f Q47)
             (try with_reducible first | replace Q47 := of_decide_eq_true Q47 | replace Q47 := of_decide_eq_false Q47 | replace Q47 := bx_t Q47 | replace Q47 := bx_f Q47 | replace Q47 := be_t Q47 | replace Q47 := be_f Q47)
             have hrb : rb n t i = false := by simpa using Q47
             obtain ⟨he1, hi2n, _, hpn⟩ := inv2_step ht hord hi2 hrn hi hrb
             have hci := hkt i hin
             have hcl : (w44).cell? ⟨g65, t i, none⟩ = some (.int .i32 ((pos n t idx i : Nat) : Int)) := by rw [hhd.rd hci, he1]
             refine cd_seq ?_
             apply cd_drawn 13 [(88, eqp _), (89, eqp _), (90, eqp _), (91, eqp _), (92, eqp _), (93, eqp _), (94, eqp _), (95, eqp _), (96, eqp _), (97, eqp _), (98, eqp _), (99, eqp _), (100, eqp _)] (by kernel_rfl) (by kernel_rfl) ⟨eqp_mono _, eqp_mono _, eqp_mono _, eqp_mono _, eqp_mono _, eqp_mono _, eqp_mono _, eqp_mono _, eqp_mono _, eqp_mono _, eqp_mono _, eqp_mono _, eqp_mono _, trivial⟩
             case hop =>
              refine ⟨?_, ?_⟩
              · intro w49 D49
                show OpOK _ _ _ _ _ _ _
                exact ok_pure (ro_load SufInduce_g51 rfl (by exact (hc.h5.from_ (From.rfl_.next D49)).rd 0 rfl)) rfl
              refine ⟨?_, ?_⟩
              · intro w50 D50
                show OpOK _ _ _ _ _ _ _
                exact ok_pure (ro_move (v := .slice _ _ _) rfl) rfl
              refine ⟨?_, ?_⟩
              · intro w51 D51
                show OpOK _ _ _ _ _ _ _
                exact ok_pure (ro_load SufInduce_g49 rfl (by exact (hc.h2.from_ (From.rfl_.next D51)).rd 0 rfl)) rfl
              refine ⟨?_, ?_⟩
              · intro w52 D52
                rintro _ rfl
                show OpOK _ _ _ _ _ _ _
                exact ok_pure (ro_nilCheck rfl) rfl
              refine ⟨?_, ?_⟩
              · intro w53 D53
                rintro _ rfl
                show OpOK _ _ _ _ _ _ _
                exact ok_pure (ro_fieldAddr SufInduce_f60_0 rfl) rfl
              refine ⟨?_, ?_⟩
              · intro w54 D54
                rintro _ rfl
                show OpOK _ _ _ _ _ _ _
                exact ok_pure (ro_load SufInduce_g51 rfl (by exact cellF (hc.hF.next D54) (hb.rd 0 rfl))) rfl
              refine ⟨?_, ?_⟩
              · intro w55 D55
                show OpOK _ _ _ _ _ _ _
                exact ok_pure (ro_move (v := .int _ _) rfl) rfl
              refine ⟨?_, ?_⟩
              · intro w56 D56
                rintro _ rfl _ rfl
                show OpOK _ _ _ _ _ _ _
                exact ok_pure (ro_indexAddr0 SufInduce_e51 rfl rfl (by exact hin)) rfl
              refine ⟨?_, ?_⟩
              · intro w57 D57
                rintro _ rfl
                show OpOK _ _ _ _ _ _ _
                exact ok_pure (ro_load SufInduce_g21 rfl (by exact (hl.from_ (hc.hF.next D57)).rdN hin)) rfl
              refine ⟨?_, ?_⟩
              · intro w58 D58
                rintro _ rfl _ rfl
                show OpOK _ _ _ _ _ _ _
                exact ok_pure (ro_indexAddr0 SufInduce_e51 rfl rfl (by exact hci)) rfl
              refine ⟨?_, ?_⟩
              · intro w59 D59
                rintro _ rfl
                show OpOK _ _ _ _ _ _ _
                exact ok_pure (ro_load SufInduce_g21 rfl (by exact cellF (From.rfl_.next D59) hcl)) rfl
              refine ⟨?_, ?_⟩
              · intro w60 D60
                show OpOK _ _ _ _ _ _ _
                exact ok_pure (ro_move (v := .int _ _) rfl) rfl
              refine ⟨?_, ?_⟩
              · intro w61 D61
                rintro _ rfl _ rfl
                show OpOK _ _ _ _ _ _ _
                exact ok_pure (ro_indexAddr0 SufInduce_e51 rfl rfl (by exact hpn)) rfl
              exact trivial
             case hend =>
              intro w62 D62
              rintro _ rfl _ rfl _ rfl _ rfl _ rfl _ rfl _ rfl _ rfl _ rfl _ rfl _ rfl _ rfl _ rfl
              show St _ _ _ _ _ _ _
              have hxsD := hxs.from_ D62
              have htsD := hts.from_ D62
              have hhdD := hhd.from_ D62
              have hcD := hc.from_ D62
              obtain ⟨cr, hbk18, hsr, hcr⟩ := hxs.from_ D62
              have hdDD := Keeps.from_ D62 _ _ hdD rfl
              refine st_put (v := .int _ _) SufInduce_z21 rfl rfl rfl (hbk18) (by omega) ?_
              intro w63 O18 P18
              have hxs18 := VJ.put P18 hsr hcr hpn
              have hts18 := htsD.only O18 (by omega)
              have hhd18 := hhdD.only O18 (by omega)
              have hc18 := hcD.only hxsD O18 (by omega)
              have hdD18 := Keeps.only O18 hbk18 _ _ hdDD rfl
              have hcl18 : (w63).cell? ⟨g65, t i, none⟩ = some (.int .i32 ((pos n t idx i : Nat) : Int)) := by rw [hhd18.rd hci, he1]
              obtain ⟨ch, hbk19, hsh, hch⟩ := id hhd18
              refine st_nil ?_
              refine nx_then ?_
              refine cd_region ?_
              refine st_val (ro_move (v := .slice _ _ _) rfl) ?_
              refine st_val (ro_load SufInduce_g49 rfl (by exact (hc18.h2.from_ From.rfl_).rd 0 rfl)) ?_
              refine st_val (ro_nilCheck rfl) ?_
              refine st_val (ro_fieldAddr SufInduce_f60_0 rfl) ?_
              refine st_val (ro_load SufInduce_g51 rfl (by exact cellF ((hc.hF.next D62).only O18 ((by omega))) (hb.rd 0 rfl))) ?_
              refine st_val (ro_move (v := .int _ _) rfl) ?_
              refine st_val (ro_indexAddr0 SufInduce_e51 rfl rfl (by exact hin)) ?_
              refine st_val (ro_load SufInduce_g21 rfl (by exact (hl.from_ ((hc.hF.next D62).only O18 ((by omega)))).rdN hin)) ?_
              refine st_val (ro_indexAddr0 SufInduce_e51 rfl rfl (by exact hci)) ?_
              refine st_val (ro_load SufInduce_g21 rfl (by exact cellF From.rfl_ hcl18)) ?_
              refine st_val (ro_add32 (r := ((pos n t idx i + 1 : Nat) : Int)) rfl rfl (by omega) (by omega)) ?_
              refine st_val (ro_indexAddr0 SufInduce_e51 rfl rfl (by exact hci)) ?_
              refine st_put (v := .int _ _) SufInduce_z21 rfl rfl rfl (hbk19) (by omega) ?_
              intro w64 O19 P19
              have hhd19 := VJ.put P19 hsh hch hci
              have hts19 := hts18.only O19 (by omega)
              have hxs19 := hxs18.only O19 (by omega)
              have hc19 := hc18.only hhd18 O19 (by omega)
              have hdD19 := Keeps.only O19 hbk19 _ _ hdD18 rfl
              refine st_nil ?_
              refine nx_block ?_
              refine nx_cut ((upd xs (pos n t idx i) i, upd hs (t i) ((pos n t idx i + 1 : Nat) : Int))) trivial (by (iterate 46 refine agr_cons rfl ?_); exact agr_rfl) ?_
              exact ⟨hi2n, hxs19, hhd19, hts19, hc19, hdD19⟩
           · (try with_reducible first | replace Q47 := of_decide_eq_true Q47 | replace Q47 := of_decide_eq_false Q47 | replace Q47 := bn_t Q47 | replace Q47 := bn_f Q47)
             (try with_reducible first | replace Q47 := of_decide_eq_true Q47 | replace Q47 := of_decide_eq_false Q47 | replace Q47 := bx_t Q47 | replace Q47 := bx_f Q47 | replace Q47 := be_t Q47 | replace Q47 := be_f Q47)
             have hno : ∀ i' : Nat, xs r = ((i' + 1 : Nat) : Int) → rb n t i' = true := fun i' h' => by
               obtain rfl : i' = i := by omega
               simpa using Q47
             refine cd_skip ?_
             refine nx_block ?_
             refine nx_cut ((xs, hs)) trivial (by (iterate 21 refine agr_cons rfl ?_); exact agr_rfl) ?_
             exact ⟨inv2_no ht hord hi2 hrn hno, hxs.from_ From.rfl_, hhd.from_ From.rfl_, hts.from_ From.rfl_, hc.from_ From.rfl_, Keeps.from_ From.rfl_ _ _ hdD rfl⟩
         · (try with_reducible first | replace Q46 := of_decide_eq_true Q46 | replace Q46 := of_decide_eq_false Q46 | replace Q46 := bn_t Q46 | replace Q46 := bn_f Q46)
           (try with_reducible first | replace Q46 := of_decide_eq_true Q46 | replace Q46 := of_decide_eq_false Q46 | replace Q46 := bx_t Q46 | replace Q46 := bx_f Q46 | replace Q46 := be_t Q46 | replace Q46 := be_f Q46)
           have hno : ∀ i' : Nat, xs r = ((i' + 1 : Nat) : Int) → rb n t i' = true := fun i' h' => absurd h' (by omega)
           refine st_gno rfl rfl ?_
           refine st_gno rfl rfl ?_
           refine st_gno rfl rfl ?_
           refine st_gno rfl rfl ?_
           refine st_gno rfl rfl ?_
           refine st_gno rfl rfl ?_
           refine st_gno rfl rfl ?_
           refine st_gno rfl rfl ?_
           refine st_val (ro_pickF (v := .bool _) rfl rfl) ?_
           refine st_nil ?_
           refine nx_then ?_
           refine cd_condF rfl ?_
           refine cd_skip ?_
           refine nx_block ?_
           refine nx_cut ((xs, hs)) trivial (by (iterate 21 refine agr_cons rfl ?_); exact agr_rfl) ?_
           exact ⟨inv2_no ht hord hi2 hrn hno, hxs.from_ From.rfl_, hhd.from_ From.rfl_, hts.from_ From.rfl_, hc.from_ From.rfl_, Keeps.from_ From.rfl_ _ _ hdD rfl⟩
       · rintro ⟨xs', hs'⟩ ρ65 w65 ⟨hi2', hxs', hhd', hts', hc', hdD'⟩
         refine cd_region ?_
         refine st_val (ro_addN (b := 1) rfl rfl (by omega)) ?_
         refine st_val (ro_move (v := .int _ _) rfl) ?_
         refine st_nil ?_
         refine nx_cut ((r + 1, xs', hs')) ⟨(by first | rfl | (refine int_eq ?_; omega)), trivial⟩ (by (iterate 96 refine agr_cons rfl ?_); exact agr_rfl) ⟨?_, ?_⟩
         · exact ⟨by omega, hi2', hxs'.from_ From.rfl_, hhd'.from_ From.rfl_, hts'.from_ From.rfl_, hc'.from_ From.rfl_, Keeps.from_ From.rfl_ _ _ hdD' rfl⟩
         · show n - (r + 1) < n - r; omega
     · (try with_reducible first | replace Q45 := of_decide_eq_true Q45 | replace Q45 := of_decide_eq_false Q45 | replace Q45 := bn_t Q45 | replace Q45 := bn_f Q45)
       (try with_reducible first | replace Q45 := of_decide_eq_true Q45 | replace Q45 := of_decide_eq_false Q45 | replace Q45 := bx_t Q45 | replace Q45 := bx_f Q45 | replace Q45 := be_t Q45 | replace Q45 := be_f Q45)
       refine cd_exit ?_
       refine ex_then ?_
       refine ex_then ?_
       refine ex_block ?_
       refine nx_then ?_
       refine cd_seq ?_
       apply cd_mu9 6 5 [] [(114, eqp _), (115, eqp _), (116, eqp _), (117, eqp _), (118, eqp _), (119, fun _ w' => VJ w' g34 K (fun c => ((less n t (c + 1) : Nat) : Int)))] (fun w' => From w44 w') (fun w' => VJ w' b20 n xs ∧ Cst w b b2 b5 b7 b20 g34 n K c34 w' ∧ w'.heap[D]? = some (.deferred (some []))) (by repeat first | exact pq_bodyM | refine pq_then ?_ | refine pq_block ?_) (by kernel_rfl) (by kernel_rfl) (by kernel_rfl) ⟨eqp_mono _, eqp_mono _, eqp_mono _, eqp_mono _, eqp_mono _, (fun _ _ _ hF h => h.from_ hF), trivial⟩ (From.rfl_.d1) (⟨hxs.from_ From.rfl_.d1, hc.from_ From.rfl_.d1, Keeps.from_ From.rfl_.d1 _ _ hdD rfl⟩) (fun _ _ hF h => h.next hF) (fun _ _ hF h => ⟨h.1.from_ hF, h.2.1.from_ hF, Keeps.from_ hF _ _ h.2.2 rfl⟩)
       case hop =>
        refine ⟨?_, ?_⟩
        · rintro - w67 D67
          show OpOK _ _ _ _ _ _ _
          exact ok_pure (ro_load SufInduce_g51 rfl (by exact (hc.h7.from_ D67).rd 0 rfl)) rfl
        refine ⟨?_, ?_⟩
        · rintro - w68 ⟨hxs21, hc21, hdD21⟩
          show OpOK _ _ _ _ _ _ _
          exact ok_pure (ro_load SufInduce_g49 rfl (by exact hc21.h2.rd 0 rfl)) rfl
        refine ⟨?_, ?_⟩
        · rintro - w69 ⟨hxs21, hc21, hdD21⟩
          rintro _ rfl
          show OpOK _ _ _ _ _ _ _
          exact ok_pure (ro_nilCheck rfl) rfl
        refine ⟨?_, ?_⟩
        · rintro - w70 D70
          rintro _ rfl
          show OpOK _ _ _ _ _ _ _
          exact ok_pure (ro_fieldAddr SufInduce_f60_4 rfl) rfl
        refine ⟨?_, ?_⟩
        · rintro - w71 D71
          rintro _ rfl
          show OpOK _ _ _ _ _ _ _
          exact ok_pure (ro_load SufInduce_g51 rfl (by exact cellF (hc.hF.next D71) (hb.rd 4 rfl))) rfl
        refine ⟨?_, ?_⟩
        · intro h; cases h
        exact trivial
       case hmu =>
        rintro w73 D73
        rintro _ rfl _ rfl
        show MuOK _ _ _ _ _ _ _
        have hlo := hc.lo
        have hxsD := hxs.from_ D73
        have htsD := hts.from_ D73
        have hcD := hc.from_ D73
        obtain ⟨⟨cl⟩, hbk21, hst, hct⟩ := hts.from_ D73
        have hdDD := Keeps.from_ D73 _ _ hdD rfl
        have hstl : K ≤ cl.length := hst
        refine mu_copyB (sT := 51) (g := g34) (o := 0) (cur := cl) (news := (List.range K).map fun c => jV (less n t (c + 1) : Nat)) SufInduce_e51 rfl rfl (by simp) (fun _ => rfl) (fun _ => ⟨ge, 0, rfl, (he.from_ (hc.hF.next D73)).range (Nat.le_refl K)⟩) hbk21 (by simp; omega) (by simp [Value.oneCell']) ?_
        intro w3 hO hb3
        exact ⟨⟨hxsD.only hO (by omega), hcD.only htsD hO (by omega), Keeps.only hO hbk21 _ _ hdDD rfl⟩, VJ.copied hb3 hstl, fun t u ht h => muR_look (by repeat first | exact trivial | refine ⟨.inl rfl, ?_⟩ | refine ⟨.inr (fun _ h => h), ?_⟩) t u ht h⟩
       case hend =>
        rintro w74 ⟨hxs21, hc21, hdD21⟩
        rintro _ rfl _ rfl _ rfl _ rfl _ rfl v119 hts21
        show St _ _ _ _ _ _ _
        refine st_nil ?_
        refine nx_then ?_
        refine cd_seq ?_
        refine cd_seq ?_
        refine cd_region ?_
        refine st_val (ro_load SufInduce_g51 rfl (by exact (hc21.h5.from_ From.rfl_).rd 0 rfl)) ?_
        refine st_val (ro_len SufInduce_l51 rfl) ?_
        refine st_val (ro_sub64 rfl rfl (by omega)) ?_
        refine st_val (ro_assign (v := .int _ _) rfl) ?_
        refine st_nil ?_
        refine nx_then ?_
        refine cd_block ?_
        refine cd_loop (G := Nat × (Nat → Int) × (Nat → Int)) [14, 123, 124, 125, 126, 127, 128, 129, 130, 131, 132, 133, 134, 135, 136, 137, 138, 139, 140, 141, 142, 143, 144, 145, 146, 147, 148, 149, 150, 151, 152, 153, 154, 155, 156, 157, 158, 159, 160, 161, 162, 163, 164, 165, 166, 167] (fun (r, _, _) => [(13, .int .i64 ((r : Nat) - 1 : Int))]) (fun (r, xs, ts) w' => r ≤ n ∧ Inv3 n t idx r xs ts ∧ VJ w' b20 n xs ∧ VJ w' g34 K ts ∧ Cst w b b2 b5 b7 b20 g34 n K c34 w' ∧ w'.heap[D]? = some (.deferred (some []))) (fun (r, _, _) => r) ((n, xs, fun c => ((less n t (c + 1) : Nat) : Int))) ⟨rfl, trivial⟩ ?_ ?_
        · obtain rfl : r = n := by omega
          exact ⟨Nat.le_refl _, inv3_start ht h2n hi2, hxs21.from_ From.rfl_, hts21.from_ From.rfl_, hc21.from_ From.rfl_, Keeps.from_ From.rfl_ _ _ hdD21 rfl⟩
        rintro ⟨r, xs, ts⟩ ρ75 w75 ⟨hr0, hi3, hxs, hts, hc, hdD⟩
        refine cd_seq ?_
        refine cd_seq ?_
        refine cd_region ?_
        refine st_val (ro_move (v := .int _ _) rfl) ?_
        refine st_val (ro_geq rfl rfl) ?_
        refine st_nil ?_
        refine nx_then ?_
        refine cd_cond rfl (fun Q76 => ?_) (fun Q76 => ?_)
        · (try with_reducible first | replace Q76 := of_decide_eq_true Q76 | replace Q76 := of_decide_eq_false Q76 | replace Q76 := bn_t Q76 | replace Q76 := bn_f Q76)
          (try with_reducible first | replace Q76 := of_decide_eq_true Q76 | replace Q76 := of_decide_eq_false Q76 | replace Q76 := bx_t Q76 | replace Q76 := bx_f Q76 | replace Q76 := be_t Q76 | replace Q76 := be_f Q76)
          obtain ⟨r, rfl⟩ : ∃ r', r = r' + 1 := ⟨r - 1, by omega⟩
          have e13 : (Value.int .i64 (((r + 1 : Nat) : Int) - 1)) = .int .i64 ((r : Nat) : Int) := int_eq (by omega)
          have hrn : r < n := by omega
          have hx1 := inv3_lo ht hord hi3 hrn
          refine cd_skip ?_
          refine nx_then ?_
          refine cd_cut (G := (Nat → Int) × (Nat → Int)) [14, 127, 128, 129, 130, 131, 132, 133, 134, 135, 136, 137, 138, 139, 140, 141, 142, 143, 144, 145, 146, 147, 148, 149, 150, 151, 152, 153, 154, 155, 156, 157, 158, 159, 160, 161, 162, 163, 164, 165, 166, 167] (fun (_, _) => []) (fun (xs, ts) w' => Inv3 n t idx r xs ts ∧ VJ w' b20 n xs ∧ VJ w' g34 K ts ∧ Cst w b b2 b5 b7 b20 g34 n K c34 w' ∧ w'.heap[D]? = some (.deferred (some []))) ?_ ?_
          · refine cd_block ?_
            refine cd_seq ?_
            refine cd_region ?_
            refine st_val (ro_load SufInduce_g51 rfl (by exact (hc.h5.from_ From.rfl_).rd 0 rfl)) ?_
            refine st_val (ro_move (v := .int _ _) rfl) ?_
            refine st_spell (t := 128) (v := .int _ _) (v' := .int .i64 ((r : Nat) : Int)) rfl (by exact e13) ?_
            refine st_val (ro_indexAddr0 SufInduce_e51 rfl rfl (by exact hrn)) ?_
            refine st_val (ro_load SufInduce_g21 rfl (by exact (hxs.from_ From.rfl_).rd hrn)) ?_
            refine st_val (ro_sub32 (r := xs r - 1) rfl rfl rfl (by omega)) ?_
            refine st_val (ro_assign (v := .int _ _) rfl) ?_
            refine st_nil ?_
            refine nx_then ?_
            refine cd_seq ?_
            refine cd_region ?_
            refine st_val (ro_move (v := .int _ _) rfl) ?_
            refine st_val (ro_geq rfl rfl) ?_
            refine st_val (ro_move (v := .bool _) rfl) ?_
            refine st_split (t := 134) rfl (fun Q77 => ?_) (fun Q77 => ?_)
            · (try with_reducible first | replace Q77 := of_decide_eq_true Q77 | replace Q77 := of_decide_eq_false Q77 | replace Q77 := bn_t Q77 | replace Q77 := bn_f Q77)
              (try with_reducible first | replace Q77 := of_decide_eq_true Q77 | replace Q77 := of_decide_eq_false Q77 | replace Q77 := bx_t Q77 | replace Q77 := bx_f Q77 | replace Q77 := be_t Q77 | replace Q77 := be_f Q77)
              obtain ⟨i, hi⟩ : ∃ i : Nat, xs r = ((i + 1 : Nat) : Int) := ⟨(xs r - 1).toNat, by omega⟩
              have e12 : (Value.int .i32 (xs r - 1)) = .int .i32 ((i : Nat) : Int) := int_eq (by omega)
              rw [e12]
              have hin : i < n := by omega
              refine st_unguard rfl ?_
              refine st_val (ro_load SufInduce_g49 rfl (by exact (hc.h2.from_ From.rfl_).rd 0 rfl)) ?_
              refine st_unguard rfl ?_
              refine st_val (ro_nilCheck rfl) ?_
              refine st_unguard rfl ?_
              refine st_val (ro_fieldAddr SufInduce_f60_2 rfl) ?_
              refine st_unguard rfl ?_
              refine st_val (ro_load SufInduce_g58 rfl (by exact cellF hc.hF (hb.rd 2 rfl))) ?_
              refine st_unguard rfl ?_
              refine st_val (ro_move (v := .int _ _) rfl) ?_
              refine st_unguard rfl ?_
              refine st_val (ro_indexAddr0 SufInduce_e58 rfl rfl (by exact hin)) ?_
              refine st_unguard rfl ?_
              refine st_val (ro_load SufInduce_g4 rfl (by exact (hr.from_ hc.hF).rd i (tabB_at hin))) ?_
              refine st_val (ro_pickT (v := .bool _) rfl rfl) ?_
              refine st_nil ?_
              refine nx_then ?_
              refine cd_cond rfl (fun Q78 => ?_) (fun Q78 => ?_)
              · (try with_reducible first | replace Q78 := of_decide_eq_true Q78 | replace Q78 := of_decide_eq_false Q78 | replace Q78 := bn_t Q78 | replace Q78 := bn_f Q78)
                (try with_reducible first | replace Q78 := of_decide_eq_true Q78 | replace Q78 := of_decide_eq_false Q78 | replace Q78 := bx_t Q78 | replace Q78 := bx_f Q78 | replace Q78 := be_t Q78 | replace Q78 := be_f Q78)
                have hrb : rb n t i = true := Q78
                obtain ⟨he1, hi3n, _, hpn⟩ := inv3_step ht hord hi3 hrn hi hrb
                have hci := hkt i hin
                refine cd_seq ?_
                apply cd_drawn 12 [(143, eqp _), (144, eqp _), (145, eqp _), (146, eqp _), (147, eqp _), (148, eqp _), (149, eqp _), (150, eqp _), (151, eqp _), (152, eqp _), (153, eqp _), (154, eqp _)] (by kernel_rfl) (by kernel_rfl) ⟨eqp_mono _, eqp_mono _, eqp_mono _, eqp_mono _, eqp_mono _, eqp_mono _, eqp_mono _, eqp_mono _, eqp_mono _, eqp_mono _, eqp_mono _, eqp_mono _, trivial⟩
                case hop =>
                 refine ⟨?_, ?_⟩
                 · intro w80 D80
                   show OpOK _ _ _ _ _ _ _
                   exact ok_pure (ro_load SufInduce_g51 rfl (by exact (hc.h7.from_ (From.rfl_.next D80)).rd 0 rfl)) rfl
                 refine ⟨?_, ?_⟩
                 · intro w81 D81
                   show OpOK _ _ _ _ _ _ _
                   exact ok_pure (ro_load SufInduce_g49 rfl (by exact (hc.h2.from_ (From.rfl_.next D81)).rd 0 rfl)) rfl
                 refine ⟨?_, ?_⟩
                 · intro w82 D82
                   rintro _ rfl
                   show OpOK _ _ _ _ _ _ _
                   exact ok_pure (ro_nilCheck rfl) rfl
                 refine ⟨?_, ?_⟩
                 · intro w83 D83
                   rintro _ rfl
                   show OpOK _ _ _ _ _ _ _
                   exact ok_pure (ro_fieldAddr SufInduce_f60_0 rfl) rfl
                 refine ⟨?_, ?_⟩
                 · intro w84 D84
                   rintro _ rfl
                   show OpOK _ _ _ _ _ _ _
                   exact ok_pure (ro_load SufInduce_g51 rfl (by exact cellF (hc.hF.next D84) (hb.rd 0 rfl))) rfl
                 refine ⟨?_, ?_⟩
                 · intro w85 D85
                   show OpOK _ _ _ _ _ _ _
                   exact ok_pure (ro_move (v := .int _ _) rfl) rfl
                 refine ⟨?_, ?_⟩
                 · intro w86 D86
                   rintro _ rfl _ rfl
                   show OpOK _ _ _ _ _ _ _
                   exact ok_pure (ro_indexAddr0 SufInduce_e51 rfl rfl (by exact hin)) rfl
                 refine ⟨?_, ?_⟩
                 · intro w87 D87
                   rintro _ rfl
                   show OpOK _ _ _ _ _ _ _
                   exact ok_pure (ro_load SufInduce_g21 rfl (by exact (hl.from_ (hc.hF.next D87)).rdN hin)) rfl
                 refine ⟨?_, ?_⟩
                 · intro w88 D88
                   rintro _ rfl _ rfl
                   show OpOK _ _ _ _ _ _ _
                   exact ok_pure (ro_indexAddr0 SufInduce_e51 rfl rfl (by exact hci)) rfl
                 refine ⟨?_, ?_⟩
                 · intro w89 D89
                   rintro _ rfl
                   show OpOK _ _ _ _ _ _ _
                   exact ok_pure (ro_load SufInduce_g21 rfl (by exact (hts.from_ (From.rfl_.next D89)).rd hci)) rfl
                 refine ⟨?_, ?_⟩
                 · intro w90 D90
                   rintro _ rfl
                   show OpOK _ _ _ _ _ _ _
                   exact ok_pure (ro_sub32 (r := ((pos n t idx i : Nat) : Int)) rfl rfl he1 (by omega)) rfl
                 refine ⟨?_, ?_⟩
                 · intro w91 D91
                   rintro _ rfl _ rfl
                   show OpOK _ _ _ _ _ _ _
                   exact ok_pure (ro_indexAddr0 SufInduce_e51 rfl rfl (by exact hci)) rfl
                 exact trivial
                case hend =>
                 intro w92 D92
                 rintro _ rfl _ rfl _ rfl _ rfl _ rfl _ rfl _ rfl _ rfl _ rfl _ rfl _ rfl _ rfl
                 show St _ _ _ _ _ _ _
                 have hxsD := hxs.from_ D92
                 have htsD := hts.from_ D92
                 have hcD := hc.from_ D92
                 obtain ⟨ct, hbk27, hst, hct⟩ := hts.from_ D92
                 have hdDD := Keeps.from_ D92 _ _ hdD rfl
                 refine st_put (v := .int _ _) SufInduce_z21 rfl rfl rfl (hbk27) (by omega) ?_
                 intro w93 O27 P27
                 have hts27 := VJ.put P27 hst hct hci
                 have hxs27 := hxsD.only O27 (by omega)
                 have hc27 := hcD.only htsD O27 (by omega)
                 have hdD27 := Keeps.only O27 hbk27 _ _ hdDD rfl
                 have hcl27 : (w93).cell? ⟨g34, t i, none⟩ = some (.int .i32 ((pos n t idx i : Nat) : Int)) := by rw [hts27.rd hci, upd_same]
                 refine st_nil ?_
                 refine nx_then ?_
                 apply cd_drawn 13 [(155, eqp _), (156, eqp _), (157, eqp _), (158, eqp _), (159, eqp _), (160, eqp _), (161, eqp _), (162, eqp _), (163, eqp _), (164, eqp _), (165, eqp _), (166, eqp _), (167, eqp _)] (by kernel_rfl) (by kernel_rfl) ⟨eqp_mono _, eqp_mono _, eqp_mono _, eqp_mono _, eqp_mono _, eqp_mono _, eqp_mono _, eqp_mono _, eqp_mono _, eqp_mono _, eqp_mono _, eqp_mono _, eqp_mono _, trivial⟩
                 case hop =>
                  refine ⟨?_, ?_⟩
                  · intro w95 D95
                    show OpOK _ _ _ _ _ _ _
                    exact ok_pure (ro_load SufInduce_g51 rfl (by exact (hc27.h5.from_ (From.rfl_.next D95)).rd 0 rfl)) rfl
                  refine ⟨?_, ?_⟩
                  · intro w96 D96
                    show OpOK _ _ _ _ _ _ _
                    exact ok_pure (ro_load SufInduce_g51 rfl (by exact (hc27.h7.from_ (From.rfl_.next D96)).rd 0 rfl)) rfl
                  refine ⟨?_, ?_⟩
                  · intro w97 D97
                    show OpOK _ _ _ _ _ _ _
                    exact ok_pure (ro_load SufInduce_g49 rfl (by exact (hc27.h2.from_ (From.rfl_.next D97)).rd 0 rfl)) rfl
                  refine ⟨?_, ?_⟩
                  · intro w98 D98
                    rintro _ rfl
                    show OpOK _ _ _ _ _ _ _
                    exact ok_pure (ro_nilCheck rfl) rfl
                  refine ⟨?_, ?_⟩
                  · intro w99 D99
                    rintro _ rfl
                    show OpOK _ _ _ _ _ _ _
                    exact ok_pure (ro_fieldAddr SufInduce_f60_0 rfl) rfl
                  refine ⟨?_, ?_⟩
                  · intro w100 D100
                    rintro _ rfl
                    show OpOK _ _ _ _ _ _ _
                    exact ok_pure (ro_load SufInduce_g51 rfl (by exact cellF (((hc.hF.next D92).only O27 ((by omega))).next D100) (hb.rd 0 rfl))) rfl
                  refine ⟨?_, ?_⟩
                  · intro w101 D101
                    show OpOK _ _ _ _ _ _ _
                    exact ok_pure (ro_move (v := .int _ _) rfl) rfl
                  refine ⟨?_, ?_⟩
                  · intro w102 D102
                    rintro _ rfl _ rfl
                    show OpOK _ _ _ _ _ _ _
                    exact ok_pure (ro_indexAddr0 SufInduce_e51 rfl rfl (by exact hin)) rfl
                  refine ⟨?_, ?_⟩
                  · intro w103 D103
                    rintro _ rfl
                    show OpOK _ _ _ _ _ _ _
                    exact ok_pure (ro_load SufInduce_g21 rfl (by exact (hl.from_ (((hc.hF.next D92).only O27 ((by omega))).next D103)).rdN hin)) rfl
                  refine ⟨?_, ?_⟩
                  · intro w104 D104
                    rintro _ rfl _ rfl
                    show OpOK _ _ _ _ _ _ _
                    exact ok_pure (ro_indexAddr0 SufInduce_e51 rfl rfl (by exact hci)) rfl
                  refine ⟨?_, ?_⟩
                  · intro w105 D105
                    rintro _ rfl
                    show OpOK _ _ _ _ _ _ _
                    exact ok_pure (ro_load SufInduce_g21 rfl (by exact cellF (From.rfl_.next D105) hcl27)) rfl
                  refine ⟨?_, ?_⟩
                  · intro w106 D106
                    show OpOK _ _ _ _ _ _ _
                    exact ok_pure (ro_move (v := .int _ _) rfl) rfl
                  refine ⟨?_, ?_⟩
                  · intro w107 D107
                    rintro _ rfl _ rfl
                    show OpOK _ _ _ _ _ _ _
                    exact ok_pure (ro_indexAddr0 SufInduce_e51 rfl rfl (by exact hpn)) rfl
                  exact trivial
                 case hend =>
                  intro w108 D108
                  rintro _ rfl _ rfl _ rfl _ rfl _ rfl _ rfl _ rfl _ rfl _ rfl _ rfl _ rfl _ rfl _ rfl
                  show St _ _ _ _ _ _ _
                  have hxsE := hxs27.from_ D108
                  have htsE := hts27.from_ D108
                  have hcE := hc27.from_ D108
                  obtain ⟨cr, hbk28, hsr, hcr⟩ := hxs27.from_ D108
                  have hdDE := Keeps.from_ D108 _ _ hdD27 rfl
                  refine st_put (v := .int _ _) SufInduce_z21 rfl rfl rfl (hbk28) (by omega) ?_
                  intro w109 O28 P28
                  have hxs28 := VJ.put P28 hsr hcr hpn
                  have hts28 := htsE.only O28 (by omega)
                  have hc28 := hcE.only hxsE O28 (by omega)
                  have hdD28 := Keeps.only O28 hbk28 _ _ hdDE rfl
                  refine st_nil ?_
                  refine nx_block ?_
                  refine nx_cut ((upd xs (pos n t idx i) i, upd ts (t i) ((pos n t idx i : Nat) : Int))) trivial (by (iterate 44 refine agr_cons rfl ?_); exact agr_rfl) ?_
                  exact ⟨hi3n, hxs28, hts28, hc28, hdD28⟩
              · (try with_reducible first | replace Q78 := of_decide_eq_true Q78 | replace Q78 := of_decide_eq_false Q78 | replace Q78 := bn_t Q78 | replace Q78 := bn_f Q78)
                (try with_reducible first | replace Q78 := of_decide_eq_true Q78 | replace Q78 := of_decide_eq_false Q78 | replace Q78 := bx_t Q78 | replace Q78 := bx_f Q78 | replace Q78 := be_t Q78 | replace Q78 := be_f Q78)
                have hno : ∀ i' : Nat, xs r = ((i' + 1 : Nat) : Int) → rb n t i' = false := fun i' h' => by
                  obtain rfl : i' = i := by omega
                  exact Q78
                refine cd_skip ?_
                refine nx_block ?_
                refine nx_cut ((xs, ts)) trivial (by (iterate 19 refine agr_cons rfl ?_); exact agr_rfl) ?_
                exact ⟨inv3_no ht hord hi3 hrn hno, hxs.from_ From.rfl_, hts.from_ From.rfl_, hc.from_ From.rfl_, Keeps.from_ From.rfl_ _ _ hdD rfl⟩
            · (try with_reducible first | replace Q77 := of_decide_eq_true Q77 | replace Q77 := of_decide_eq_false Q77 | replace Q77 := bn_t Q77 | replace Q77 := bn_f Q77)
              (try with_reducible first | replace Q77 := of_decide_eq_true Q77 | replace Q77 := of_decide_eq_false Q77 | replace Q77 := bx_t Q77 | replace Q77 := bx_f Q77 | replace Q77 := be_t Q77 | replace Q77 := be_f Q77)
              have hno : ∀ i' : Nat, xs r = ((i' + 1 : Nat) : Int) → rb n t i' = false := fun i' h' => absurd h' (by omega)
              refine st_gno rfl rfl ?_
              refine st_gno rfl rfl ?_
              refine st_gno rfl rfl ?_
              refine st_gno rfl rfl ?_
              refine st_gno rfl rfl ?_
              refine st_gno rfl rfl ?_
              refine st_gno rfl rfl ?_
              refine st_val (ro_pickF (v := .bool _) rfl rfl) ?_
              refine st_nil ?_
              refine nx_then ?_
              refine cd_condF rfl ?_
              refine cd_skip ?_
              refine nx_block ?_
              refine nx_cut ((xs, ts)) trivial (by (iterate 19 refine agr_cons rfl ?_); exact agr_rfl) ?_
              exact ⟨inv3_no ht hord hi3 hrn hno, hxs.from_ From.rfl_, hts.from_ From.rfl_, hc.from_ From.rfl_, Keeps.from_ From.rfl_ _ _ hdD rfl⟩
          · rintro ⟨xs', ts'⟩ ρ110 w110 ⟨hi3', hxs', hts', hc', hdD'⟩
            refine cd_region ?_
            refine st_val (ro_move (v := .int _ _) rfl) ?_
            refine st_val (ro_sub64 rfl rfl (by omega)) ?_
            refine st_val (ro_assign (v := .int _ _) rfl) ?_
            refine st_nil ?_
            refine nx_cut ((r, xs', ts')) ⟨(by first | rfl | (refine int_eq ?_; omega)), trivial⟩ (by (iterate 94 refine agr_cons rfl ?_); exact agr_rfl) ⟨?_, ?_⟩
            · exact ⟨by omega, hi3', hxs'.from_ From.rfl_, hts'.from_ From.rfl_, hc'.from_ From.rfl_, Keeps.from_ From.rfl_ _ _ hdD' rfl⟩
            · show r < r + 1; omega
        · (try with_reducible first | replace Q76 := of_decide_eq_true Q76 | replace Q76 := of_decide_eq_false Q76 | replace Q76 := bn_t Q76 | replace Q76 := bn_f Q76)
          (try with_reducible first | replace Q76 := of_decide_eq_true Q76 | replace Q76 := of_decide_eq_false Q76 | replace Q76 := bx_t Q76 | replace Q76 := bx_f Q76 | replace Q76 := be_t Q76 | replace Q76 := be_f Q76)
          refine cd_exit ?_
          refine ex_then ?_
          refine ex_then ?_
          refine ex_block ?_
          refine nx_then ?_
          refine cd_seq ?_
          refine cd_region ?_
          refine st_val (ro_load SufInduce_g51 rfl (by exact (hc.h5.from_ From.rfl_).rd 0 rfl)) ?_
          refine st_val (ro_assign (v := .slice _ _ _) rfl) ?_
          refine st_nil ?_
          refine nx_then ?_
          refine cd_ret ?_
          refine resM (v := .slice _ _ _) rfl rfl (Keeps.from_ From.rfl_ _ _ hdD rfl) ?_
          intro wX OX
          obtain rfl : r = 0 := by omega
          exact ⟨⟨b20, xs, rfl, hg20, (hxs.from_ From.rfl_).aside (Keeps.from_ From.rfl_ _ _ hdD rfl) rfl OX, inv3_end hi3⟩, (hc.hF.next From.rfl_).only OX hDw⟩
end Go.Proofs.Ytpafbgdbjambgaa
