/- suffix: sorted. -/
import Derived.Test.YtpafbgdbjambgaaSufStack
namespace Go.Proofs.Ytpafbgdbjambgaa
open Go.RowKit
open Go.ChangeShapes Go.WideShapes Go.ChangeAt
open Go.Proofs.Ytpafbgdbjambgaa.SA
theorem SufSorted_e51 : elemQ Try.prog 51 = some (21, 1) := by kernel_rfl
theorem SufSorted_e53 : elemQ Try.prog 53 = some (49, 1) := by kernel_rfl
theorem SufSorted_q53 : litQ Try.prog 53 = some (49, 1, 8, (.pointer none)) := by kernel_rfl
theorem SufSorted_l24 : (elemQ Try.prog 24).isSome = true := by kernel_rfl
theorem SufSorted_k28 : callable Try.prog 28 = true := by kernel_rfl
theorem SufSorted_k27 : callable Try.prog 27 = true := by kernel_rfl
theorem SufSorted_k29 : callable Try.prog 29 = true := by kernel_rfl
theorem SufSorted_l51 : (elemQ Try.prog 51).isSome = true := by kernel_rfl
theorem SufSorted_k30 : callable Try.prog 30 = true := by kernel_rfl
theorem SufSorted_l53 : (elemQ Try.prog 53).isSome = true := by kernel_rfl
theorem SufSorted_g49 : aggQ Try.prog 49 = some false := by kernel_rfl
theorem SufSorted_k31 : callable Try.prog 31 = true := by kernel_rfl
theorem SufSorted_m24 : makeQ Try.prog 24 = some (3, 8, (.int .i64 0)) := by kernel_rfl
theorem SufSorted_g21 : aggQ Try.prog 21 = some false := by kernel_rfl
theorem SufSorted_s21 : (Try.prog.underlying 21).isSome = true := by kernel_rfl
theorem SufSorted_i3 : Try.prog.underlying 3 = some (.int .i64) := by kernel_rfl
theorem SufSorted_e24 : elemQ Try.prog 24 = some (3, 1) := by kernel_rfl
theorem SufSorted_z3 : sizeQ Try.prog 3 = some 1 := by kernel_rfl
theorem own_maxc {w : World} {base e n c : Nat} {A : Option Addr} {xs : List Value} (h : w.ownsRow base e 1 (.slice A n c) n xs) : c ≤ 9223372036854775807 := by
  rcases h.2 with ⟨h0, _⟩ | ⟨g, cap, cur, hv, _, _, _, h3, _⟩
  · simp only [Value.slice.injEq] at h0
    omega
  · simp only [Value.slice.injEq] at hv
    unfold maxLen at h3
    omega
theorem stk_take {w : World} {A : Option Addr} {bs : List Nat} {b : Nat} (h : RowOf pV w A (bs ++ [b])) : ∃ gs oS, A = some ⟨gs, oS, none⟩ ∧ w.cell? ⟨gs, oS + bs.length, none⟩ = some (pV b) ∧ RowOf pV w (some ⟨gs, oS, none⟩) bs := by
  obtain ⟨gs, oS, rfl, hc⟩ := h (by simp)
  refine ⟨gs, oS, rfl, ?_, fun _ => ⟨gs, oS, rfl, fun i hi => ?_⟩⟩
  · have := hc bs.length (by simp)
    simpa using this
  · have := hc i (by simp; omega)
    rwa [List.getElem_append_left hi] at this
theorem ord_cells {w : World} {A : Option Addr} {ol : List Nat} (h : RowOf jV w A (ol.map fun x : Nat => (x : Int))) (h0 : 0 < ol.length) : ∃ bo oo, A = some ⟨bo, oo, none⟩ ∧ ∀ q, q < ol.length → w.cell? ⟨bo, oo + q, none⟩ = some (.int .i32 ((ol.getD q 0 : Nat) : Int)) := by
  obtain ⟨bo, oo, rfl, hc⟩ := h (by simpa using h0)
  refine ⟨bo, oo, rfl, fun q hq => ?_⟩
  have := hc q (by simpa using hq)
  rw [List.getElem_map] at this
  rw [List.getD_eq_getElem?_getD, List.getElem?_eq_getElem hq]
  exact this
set_option maxRecDepth 100000 in
set_option maxHeartbeats 4000000 in
theorem sorted_rt (A : Option Addr) (c N0 : Nat) (L : List Nat) (w : World) (hr : RowOf iV w A (L.map fun x : Nat => (x : Int))) (hN : N0 = L.length) (hl : N0 ≤ 131072) (hx : ∀ x ∈ L, x < 512) :
    Rt Try.prog 25 [.slice A N0 c] w (fun v w' => (∃ g ys, v = .slice (if N0 = 0 then none else some ⟨g, 0, none⟩) N0 N0 ∧ w.heap.size ≤ g ∧ (0 < N0 → Blk w' g 3 (tabI N0 ys)) ∧ ∀ i, i < N0 → 0 < rank (N0 + 1) (endT L) i ∧ ys (rank (N0 + 1) (endT L) i - 1) = (i : Nat)) ∧ From w w') := by
  refine enter (n := 81) Try.func25 rfl rfl rfl ?_
  refine cd_seq ?_
  refine cd_region ?_
  refine st_val (ro_assign (v := .slice _ _ _) rfl) ?_
  refine st_nil ?_
  refine nx_then ?_
  refine cd_seq ?_
  refine cd_seq ?_
  refine cd_region ?_
  refine st_val (ro_move (v := .slice _ _ _) rfl) ?_
  refine st_val (ro_len SufSorted_l24 rfl) ?_
  refine st_val (ro_eql rfl rfl) ?_
  refine st_nil ?_
  refine nx_then ?_
  refine cd_cond rfl (fun Q1 => ?_) (fun Q1 => ?_)
  · (try with_reducible first | replace Q1 := of_decide_eq_true Q1 | replace Q1 := of_decide_eq_false Q1 | replace Q1 := bn_t Q1 | replace Q1 := bn_f Q1)
    (try with_reducible first | replace Q1 := of_decide_eq_true Q1 | replace Q1 := of_decide_eq_false Q1 | replace Q1 := bx_t Q1 | replace Q1 := bx_f Q1 | replace Q1 := be_t Q1 | replace Q1 := be_f Q1)
    refine cd_seq ?_
    refine cd_region ?_
    refine st_val (ro_assign (v := .slice _ _ _) rfl) ?_
    refine st_nil ?_
    refine nx_then ?_
    refine cd_ret ?_
    refine rt_then ?_
    refine res1 (v := .slice _ _ _) rfl rfl ?_
    obtain rfl : N0 = 0 := by omega
    exact ⟨⟨w.heap.size, fun _ => 0, rfl, Nat.le_refl _, fun h => absurd h (by omega), fun i h => absurd h (by omega)⟩, From.rfl_⟩
  · (try with_reducible first | replace Q1 := of_decide_eq_true Q1 | replace Q1 := of_decide_eq_false Q1 | replace Q1 := bn_t Q1 | replace Q1 := bn_f Q1)
    (try with_reducible first | replace Q1 := of_decide_eq_true Q1 | replace Q1 := of_decide_eq_false Q1 | replace Q1 := bx_t Q1 | replace Q1 := bx_f Q1 | replace Q1 := be_t Q1 | replace Q1 := be_f Q1)
    have hN0 : 0 < N0 := by omega
    have htx : Txt (N0 + 1) (endT L) := by rw [hN]; exact endT_txt L
    refine cd_skip ?_
    refine nx_then ?_
    refine cd_seq ?_
    refine cd_region ?_
    refine st_val (ro_move (v := .slice _ _ _) rfl) ?_
    refine st_call SufSorted_k28 (withEnd_rt A c N0 L _ (hr.from_ From.rfl_) hN hl hx) ?_
    rintro v16 w2 ⟨⟨g16, rfl, hg16, hv16⟩, E16⟩
    refine st_call SufSorted_k27 (newText_rt g16 (N0 + 1) 513 (endT L) _ (VJ.of_blk hv16) htx (fun i _ => endT_lt hx i) (by omega) (by omega)) ?_
    rintro v17 w3 ⟨⟨b, m, ss, rfl, hta, hst⟩, E17⟩
    refine st_val (ro_assign (v := .pointer _) rfl) ?_
    refine st_nil ?_
    refine nx_then ?_
    refine cd_seq ?_
    refine cd_region ?_
    refine st_val (ro_assign (v := .slice _ _ _) rfl) ?_
    refine st_nil ?_
    refine nx_then ?_
    refine cd_seq ?_
    refine cd_region ?_
    refine st_val (ro_move (v := .pointer _) rfl) ?_
    refine st_call SufSorted_k29 (names_rt b (N0 + 1) 513 m (endT L) ss _ hta (hst.pos htx (by omega)) (by have := hst.less htx (by omega); omega) (by omega) (by omega) hst (by omega) htx (fun i _ => endT_lt hx i)) ?_
    rintro v20 w4 ⟨⟨idx, ol, Ao, co, gN, nm, kinds, rfl, hro, hgN, hnm, hI, hord, hrow, hkn⟩, E20⟩
    refine st_val (ro_move (v := .tuple _) rfl) ?_
    refine st_val (ro_extract rfl rfl) ?_
    refine st_val (ro_extract rfl rfl) ?_
    refine st_val (ro_extract rfl rfl) ?_
    refine st_val (ro_assign (v := .slice _ _ _) rfl) ?_
    refine st_val (ro_assign (v := .slice _ _ _) rfl) ?_
    refine st_val (ro_assign (v := .int _ _) rfl) ?_
    refine st_nil ?_
    refine nx_then ?_
    refine cd_seq ?_
    refine cd_block ?_
    refine cd_loop (G := List Nat × Option Addr × Nat × Nat × Nat × Nat × Nat × (Nat → Nat) × (Nat → Nat) × (Nat → Nat) × (Nat → Nat) × List Nat × Option Addr × Nat × Nat × Nat) [24, 25, 26, 27, 28, 29, 30, 31, 32, 33, 34, 35, 36, 37, 38, 39, 40] (fun (bs, AS, cs, b, _, _, m, _, _, _, _, ol, Ao, co, g, kinds) => [(3, .pointer (some ⟨b, 0, none⟩)), (4, .slice AS bs.length cs), (5, .slice Ao ol.length co), (6, .slice (some ⟨g, 0, none⟩) m m), (7, .int .i64 ((kinds + 1 : Nat) : Int))]) (fun (bs, AS, cs, b, n, K, m, t, ss, nm, idx, ol, Ao, co, g, kinds) w' => Stk w' (N0 + 1) (endT L) bs n t ∧ TextOK w' b n K m t ss ∧ w'.ownsRow w.heap.size 49 1 (.slice AS bs.length cs) bs.length (bs.map pV) ∧ RowOf jV w' Ao (ol.map fun x : Nat => (x : Int)) ∧ VJ w' g m (fun k => ((nm k : Nat) : Int)) ∧ InvN n t idx m ss n nm kinds ∧ SA.Ord n t idx ∧ Rowed n t idx n ol ∧ kinds ≤ n ∧ bs.length + n ≤ 200000 ∧ From w w') (fun (_, _, _, _, n, _) => n) (([], none, 0, b, N0 + 1, 513, m, endT L, ss, nm, idx, ol, Ao, co, gN, kinds)) ⟨rfl, rfl, rfl, rfl, rfl, trivial⟩ ?_ ?_
    · exact ⟨.nil, ⟨hta.from_ E20, hst, htx, by omega, by omega, by omega, fun i _ => endT_lt hx i⟩, World.ownsRow_nil _ _ _ _, hro, hnm, hI, hord, hrow, hkn, by simp; omega, (((From.rfl_.next E16).next E17).next E20)⟩
    rintro ⟨bs, AS, cs, b, n, K, m, t, ss, nm, idx, ol, Ao, co, g, kinds⟩ ρ5 w5 ⟨hstk, hok, ho, hro, hnm, hI, hord, hrow, hkn, hbn, hB⟩
    refine cd_seq ?_
    refine cd_seq ?_
    refine cd_region ?_
    refine st_val (ro_move (v := .int _ _) rfl) ?_
    refine st_val (ro_move (v := .slice _ _ _) rfl) ?_
    refine st_val (ro_len SufSorted_l51 rfl) ?_
    refine st_val (ro_lss rfl rfl) ?_
    refine st_nil ?_
    refine nx_then ?_
    refine cd_cond rfl (fun Q6 => ?_) (fun Q6 => ?_)
    · (try with_reducible first | replace Q6 := of_decide_eq_true Q6 | replace Q6 := of_decide_eq_false Q6 | replace Q6 := bn_t Q6 | replace Q6 := bn_f Q6)
      (try with_reducible first | replace Q6 := of_decide_eq_true Q6 | replace Q6 := of_decide_eq_false Q6 | replace Q6 := bx_t Q6 | replace Q6 := bx_f Q6 | replace Q6 := be_t Q6 | replace Q6 := be_f Q6)
      have hkm : kinds + 1 < m := by omega
      have hless := hok.st.less hok.tx hok.n2
      have hred := red_txt hok.tx hok.n2 hord hok.st hI
      have hnl := hok.nl
      refine cd_skip ?_
      refine nx_then ?_
      refine cd_block ?_
      refine cd_seq ?_
      refine cd_region ?_
      refine st_val (ro_move (v := .slice _ _ _) rfl) ?_
      refine st_val (ro_move (v := .pointer _) rfl) ?_
      refine st_lit1 (v := .pointer _) SufSorted_q53 rfl rfl rfl ?_
      intro b30 w7 E30 hb30 hk30
      refine st_appendB (base := w.heap.size) SufSorted_q53 rfl (by decide) rfl (A := AS) (xs := bs.map pV) (news := [pV b]) (ho.kept_from E30) ((hB.next E30).size) rfl rfl (fun _ => ⟨b30, 0, rfl, hk30.whole⟩) (fun h => by cases h) (by simp [Value.oneCell']) (by omega) (by omega) ?_
      intro A31 c31 w8 ho31 hg31
      have hoq := ho.kept_from E30
      have HB31 : From w w8 := ((hB.next E30)).grew hg31 (fun k hk => (own_at ho k hk).1)
      have hstk31 := (hstk.from_ E30).off hoq hg31
      have hok31 := (hok.from_ E30).off hoq hg31
      have hnm31 := (hnm.from_ E30).off hoq hg31
      refine st_val (ro_assign (v := .slice _ _ _) rfl) ?_
      refine st_nil ?_
      refine nx_then ?_
      refine cd_seq ?_
      refine cd_region ?_
      refine st_val (ro_move (v := .slice _ _ _) rfl) ?_
      refine st_val (ro_move (v := .int _ _) rfl) ?_
      refine st_call SufSorted_k27 (newText_rt g m (kinds + 1) nm _ hnm31 hred.1 (fun i hi => by have := hred.2 i hi; omega) (by omega) (by omega)) ?_
      rintro v34 w9 ⟨⟨b2, m2, ss2, rfl, hta2, hst2⟩, E34⟩
      refine st_val (ro_assign (v := .pointer _) rfl) ?_
      refine st_nil ?_
      refine nx_then ?_
      refine cd_region ?_
      refine st_val (ro_move (v := .pointer _) rfl) ?_
      refine st_call SufSorted_k29 (names_rt b2 m (kinds + 1) m2 nm ss2 _ hta2 (hst2.pos hred.1 (by omega)) (by have := hst2.less hred.1 (by omega); omega) (by omega) (by omega) hst2 (by omega) hred.1 (fun i hi => by have := hred.2 i hi; omega)) ?_
      rintro v37 w10 ⟨⟨idx2, ol2, Ao2, co2, gN2, nm2, kinds2, rfl, hro2, hgN2, hnm2, hI2, hord2, hrow2, hkn2⟩, E37⟩
      refine st_val (ro_move (v := .tuple _) rfl) ?_
      refine st_val (ro_extract rfl rfl) ?_
      refine st_val (ro_extract rfl rfl) ?_
      refine st_val (ro_extract rfl rfl) ?_
      refine st_val (ro_assign (v := .slice _ _ _) rfl) ?_
      refine st_val (ro_assign (v := .slice _ _ _) rfl) ?_
      refine st_val (ro_assign (v := .int _ _) rfl) ?_
      refine st_nil ?_
      refine nx_block ?_
      refine nx_cut ((bs ++ [b], A31, c31, b2, m, kinds + 1, m2, nm, ss2, nm2, idx2, ol2, Ao2, co2, gN2, kinds2)) ⟨rfl, (by show Value.slice A31 (bs.length + 1) c31 = Value.slice A31 (bs ++ [b]).length c31; rw [List.length_append]; rfl), rfl, rfl, rfl, trivial⟩ (by (iterate 44 refine agr_cons rfl ?_); exact agr_rfl) ⟨?_, ?_⟩
      · refine ⟨.cons ((hstk31.from_ E34).from_ E37) ((hok31.from_ E34).from_ E37) (fun a c ha hc => red_iff hok.tx hok.n2 hord hok.st hI ha hc), ⟨hta2.from_ E37, hst2, hred.1, by omega, by omega, by omega, fun i hi => by have := hred.2 i hi; omega⟩, ?_, hro2, hnm2, hI2, hord2, hrow2, hkn2, by rw [List.length_append]; simp; omega, ((HB31.next E34).next E37)⟩
        rw [List.length_append, List.map_append]
        exact (ho31.kept_from E34).kept_from E37
      · show m < n; exact hless
    · (try with_reducible first | replace Q6 := of_decide_eq_true Q6 | replace Q6 := of_decide_eq_false Q6 | replace Q6 := bn_t Q6 | replace Q6 := bn_f Q6)
      (try with_reducible first | replace Q6 := of_decide_eq_true Q6 | replace Q6 := of_decide_eq_false Q6 | replace Q6 := bx_t Q6 | replace Q6 := bx_f Q6 | replace Q6 := be_t Q6 | replace Q6 := be_f Q6)
      have hkm : kinds + 1 = m := by have := kinds_le hok.st (hok.st.pos hok.tx hok.n2) hI; omega
      obtain ⟨ho1, ho2, ho3, hso⟩ := ord_of hok.tx hord hok.st hI hkm hrow
      have h0l : 0 < ol.length := by have := ho2 _ (lms_last hok.tx hok.n2); omega
      obtain ⟨bo, oo, rfl, hoc⟩ := ord_cells hro h0l
      have hll := hrow.len_le
      have hnl := hok.nl
      have hcs : cs ≤ 9223372036854775807 := own_maxc ho
      refine cd_exit ?_
      refine ex_then ?_
      refine ex_then ?_
      refine ex_block ?_
      refine nx_then ?_
      refine cd_seq ?_
      refine cd_region ?_
      refine st_val (ro_move (v := .pointer _) rfl) ?_
      refine st_val (ro_move (v := .slice _ _ _) rfl) ?_
      refine st_call SufSorted_k30 (induce_rt b n K m t ss _ (hok.at_.from_ From.rfl_) hok.n2 hok.tx hok.kt hok.nl hok.kl bo oo ol.length co (fun q => ol.getD q 0) (plc ol) (fun q hq => cellF From.rfl_ (hoc q hq)) ho1 ho2 ho3 (by omega)) ?_
      rintro v43 w11 ⟨⟨g43, xs, rfl, hg43, hxs, hxp⟩, E43⟩
      refine st_val (ro_assign (v := .slice _ _ _) rfl) ?_
      refine st_nil ?_
      refine nx_then ?_
      refine cd_seq ?_
      refine cd_block ?_
      refine cd_loop (G := Nat × List Nat × Option Addr × Nat × Nat × Nat × (Nat → Nat) × Nat) [44, 45, 46, 47, 48, 49, 50, 51, 52, 53, 54, 55, 56, 57, 58, 59, 60, 61, 62] (fun (q, _, AS, cs, b, n, _, g) => [(3, .pointer (some ⟨b, 0, none⟩)), (4, .slice AS q cs), (8, .slice (some ⟨g, 0, none⟩) n n)]) (fun (q, bs, AS, cs, b, n, t, g) w' => q = bs.length ∧ Stk w' (N0 + 1) (endT L) bs n t ∧ Txt n t ∧ n ≤ 200000 ∧ Rws w' g n t ∧ RowOf pV w' AS bs ∧ q ≤ cs ∧ cs ≤ 9223372036854775807 ∧ q ≤ 200000 ∧ From w w') (fun (q, _) => q) ((bs.length, bs, AS, cs, b, n, t, g43)) ⟨rfl, rfl, rfl, trivial⟩ ?_ ?_
      · have hrp := (RowOf.own (ho.kept_from E43)).2
        exact ⟨rfl, hstk.from_ E43, hok.tx, hok.nl, rws_of hok.tx hso hxs hxp, hrp, own_cap ho, hcs, by omega, (hB.next E43)⟩
      rintro ⟨q, bs, AS, cs, b, n, t, g⟩ ρ12 w12 ⟨hq, hstk, htx, hnl, hrw, hrp, hqc, hcs, hql, hB⟩
      refine cd_seq ?_
      refine cd_seq ?_
      refine cd_region ?_
      refine st_val (ro_move (v := .slice _ _ _) rfl) ?_
      refine st_val (ro_len SufSorted_l53 rfl) ?_
      refine st_val (ro_gtr rfl rfl) ?_
      refine st_nil ?_
      refine nx_then ?_
      refine cd_cond rfl (fun Q13 => ?_) (fun Q13 => ?_)
      · (try with_reducible first | replace Q13 := of_decide_eq_true Q13 | replace Q13 := of_decide_eq_false Q13 | replace Q13 := bn_t Q13 | replace Q13 := bn_f Q13)
        (try with_reducible first | replace Q13 := of_decide_eq_true Q13 | replace Q13 := of_decide_eq_false Q13 | replace Q13 := bx_t Q13 | replace Q13 := bx_f Q13 | replace Q13 := be_t Q13 | replace Q13 := be_f Q13)
        obtain ⟨bs0, b0, n1, K1, t1, ss1, rfl, hstk0, hok0, hrel⟩ := hstk.inv (by omega)
        obtain ⟨gs, oS, rfl, hcell, hrp0⟩ := stk_take hrp
        have hq0 : q - 1 = bs0.length := by rw [List.length_append] at hq; simp at hq; omega
        obtain ⟨nu, hnv, hnr, hnu⟩ := hrw
        obtain ⟨ho1, ho2, ho3, ho4⟩ := ord_next htx hok0.st hrel hnu
        refine cd_skip ?_
        refine nx_then ?_
        refine cd_block ?_
        refine cd_seq ?_
        refine cd_region ?_
        refine st_val (ro_move (v := .slice _ _ _) rfl) ?_
        refine st_val (ro_move (v := .slice _ _ _) rfl) ?_
        refine st_val (ro_len SufSorted_l53 rfl) ?_
        refine st_val (ro_subN (b := 1) rfl rfl (by omega)) ?_
        refine st_val (ro_indexAddr1 SufSorted_e53 rfl rfl (by omega)) ?_
        refine st_val (ro_load SufSorted_g49 rfl (by exact cellF From.rfl_ (by rw [hq0]; exact hcell))) ?_
        refine st_val (ro_assign (v := .pointer _) rfl) ?_
        refine st_nil ?_
        refine nx_then ?_
        refine cd_seq ?_
        refine cd_region ?_
        refine st_val (ro_move (v := .slice _ _ _) rfl) ?_
        refine st_val (ro_move (v := .slice _ _ _) rfl) ?_
        refine st_val (ro_len SufSorted_l53 rfl) ?_
        refine st_val (ro_subN (b := 1) rfl rfl (by omega)) ?_
        refine st_val (ro_takeN (m := q - 1) SufSorted_e53 rfl rfl (by omega)) ?_
        refine st_val (ro_assign (v := .slice _ _ _) rfl) ?_
        refine st_nil ?_
        refine nx_then ?_
        refine cd_region ?_
        refine st_val (ro_move (v := .pointer _) rfl) ?_
        refine st_val (ro_move (v := .pointer _) rfl) ?_
        refine st_val (ro_move (v := .slice _ _ _) rfl) ?_
        refine st_call SufSorted_k31 (startsAt_rt b0 n1 K1 n t1 ss1 _ (hok0.at_.from_ From.rfl_) htx.pos hnl g nu (hnv.from_ From.rfl_) (fun r hr => (hnu r hr).1)) ?_
        rintro v61 w14 ⟨⟨g61, rfl, hg61, hv61⟩, E61⟩
        refine st_call SufSorted_k30 (induce_rt b0 n1 K1 n t1 ss1 _ ((hok0.at_.from_ (From.rfl_.next E61))) hok0.n2 hok0.tx hok0.kt hok0.nl hok0.kl g61 0 n n (fun q => ss1 (nu q)) (fun s => rank n t (idxS n ss1 s)) (fun q hq => by rw [Nat.zero_add]; exact hv61.rdN hq) ho1 ho2 ho3 hnl) ?_
        rintro v62 w15 ⟨⟨g62, xs2, rfl, hg62, hxs2, hxp2⟩, E62⟩
        refine st_val (ro_assign (v := .slice _ _ _) rfl) ?_
        refine st_nil ?_
        refine nx_block ?_
        refine nx_cut ((q - 1, bs0, some ⟨gs, oS, none⟩, cs, b0, n1, t1, g62)) ⟨rfl, rfl, rfl, trivial⟩ (by (iterate 44 refine agr_cons rfl ?_); exact agr_rfl) ⟨?_, ?_⟩
        · exact ⟨hq0, (hstk0.from_ E61).from_ E62, hok0.tx, hok0.nl, rws_of hok0.tx ho4 hxs2 hxp2, (hrp0.from_ E61).from_ E62, by omega, hcs, by omega, ((hB.next E61).next E62)⟩
        · show q - 1 < q; omega
      · (try with_reducible first | replace Q13 := of_decide_eq_true Q13 | replace Q13 := of_decide_eq_false Q13 | replace Q13 := bn_t Q13 | replace Q13 := bn_f Q13)
        (try with_reducible first | replace Q13 := of_decide_eq_true Q13 | replace Q13 := of_decide_eq_false Q13 | replace Q13 := bx_t Q13 | replace Q13 := bx_f Q13 | replace Q13 := be_t Q13 | replace Q13 := be_f Q13)
        obtain ⟨rfl, rfl⟩ := hstk.nil_inv (by omega)
        obtain ⟨nu, hnv, hnr, hnu⟩ := hrw
        refine cd_exit ?_
        refine ex_then ?_
        refine ex_then ?_
        refine ex_block ?_
        refine nx_then ?_
        refine cd_seq ?_
        refine cd_region ?_
        refine st_val (ro_move (v := .slice _ _ _) rfl) ?_
        refine st_val (ro_len SufSorted_l24 rfl) ?_
        refine st_make SufSorted_m24 rfl rfl rfl (by omega) (by omega) ?_
        intro b65 w16 E65 hb65 hk65
        have hg65 : w.heap.size ≤ b65 := by rw [hb65]; exact (hB).size
        have hgl : g < b65 := by rw [hb65]; exact hnv.lt
        refine st_val (ro_assign (v := .slice _ _ _) rfl) ?_
        refine st_nil ?_
        refine nx_then ?_
        refine cd_seq ?_
        refine cd_seq ?_
        refine cd_region ?_
        refine st_val (ro_move (v := .slice _ _ _) rfl) ?_
        refine st_val (ro_eq (v' := .slice (some ⟨g, 1, none⟩) N0 N0) (ro_dropN (m := 1) SufSorted_e51 rfl rfl (by omega) (Nat.le_refl _)) (by rw [if_neg (by omega)]; rfl)) ?_
        refine st_val (ro_len SufSorted_l51 rfl) ?_
        refine st_val (ro_move (v := .int _ _) rfl) ?_
        refine st_nil ?_
        refine nx_then ?_
        refine cd_block ?_
        refine cd_loop (G := Nat × (Nat → Int)) [10, 11, 70, 71, 72, 73, 74, 75, 76, 77, 78, 79] (fun (k, _) => [(69, .int .i64 (k : Nat))]) (fun (k, ys) w' => k ≤ N0 ∧ (∀ i, i < k → ys i = ((nu (1 + i) : Nat) : Int)) ∧ Blk w' b65 3 (tabI N0 ys) ∧ VJ w' g (N0 + 1) (fun r => ((nu r : Nat) : Int)) ∧ From w w') (fun (k, _) => N0 - k) ((0, fun _ => 0)) ⟨rfl, trivial⟩ ?_ ?_
        · exact ⟨Nat.zero_le _, fun i h => absurd h (by omega), by rw [← tabI_zero]; exact hk65, hnv.from_ E65, (hB.next E65)⟩
        rintro ⟨k, ys⟩ ρ17 w17 ⟨hk, hys, hT, hnv, hB⟩
        refine cd_seq ?_
        refine cd_region ?_
        refine st_val (ro_lss rfl rfl) ?_
        refine st_nil ?_
        refine nx_then ?_
        refine cd_seq ?_
        refine cd_cond rfl (fun Q18 => ?_) (fun Q18 => ?_)
        · (try with_reducible first | replace Q18 := of_decide_eq_true Q18 | replace Q18 := of_decide_eq_false Q18 | replace Q18 := bn_t Q18 | replace Q18 := bn_f Q18)
          (try with_reducible first | replace Q18 := of_decide_eq_true Q18 | replace Q18 := of_decide_eq_false Q18 | replace Q18 := bx_t Q18 | replace Q18 := bx_f Q18 | replace Q18 := be_t Q18 | replace Q18 := be_f Q18)
          have hkN : k < N0 := by omega
          have hnk := (hnu (1 + k) (by omega)).1
          refine cd_skip ?_
          refine nx_then ?_
          refine cd_seq ?_
          refine cd_block ?_
          refine cd_seq ?_
          refine cd_region ?_
          refine st_val (ro_move (v := .int _ _) rfl) ?_
          refine st_val (ro_indexAddr1 SufSorted_e51 rfl rfl (by exact hkN)) ?_
          refine st_val (ro_load SufSorted_g21 rfl (by exact (hnv.from_ From.rfl_).rdN (by omega))) ?_
          refine st_val (ro_assign (v := .int _ _) rfl) ?_
          refine st_val (ro_assign (v := .int _ _) rfl) ?_
          refine st_nil ?_
          refine nx_then ?_
          refine cd_region ?_
          refine st_val (ro_move (v := .slice _ _ _) rfl) ?_
          refine st_val (ro_move (v := .int _ _) rfl) ?_
          refine st_val (ro_move (v := .int _ _) rfl) ?_
          refine st_val (ro_convI SufSorted_s21 SufSorted_i3 rfl (by omega)) ?_
          refine st_val (ro_indexAddr0 SufSorted_e24 rfl rfl (by exact hkN)) ?_
          refine st_put (v := .int _ _) SufSorted_z3 rfl rfl rfl (hT) (by rw [tabI_size]; exact hkN) ?_
          intro w19 O19 P19
          have P19b : Blk w19 b65 3 (tabI N0 (upd ys k ((nu (1 + k) : Nat) : Int))) := by rw [← tabI_set]; exact P19
          refine st_nil ?_
          refine nx_block ?_
          refine nx_then ?_
          refine cd_region ?_
          refine st_val (ro_addN (b := 1) rfl rfl (by omega)) ?_
          refine st_val (ro_move (v := .int _ _) rfl) ?_
          refine st_nil ?_
          refine nx_cut ((k + 1, upd ys k ((nu (1 + k) : Nat) : Int))) ⟨(by first | rfl | (refine int_eq ?_; omega)), trivial⟩ (by (iterate 26 refine agr_cons rfl ?_); exact agr_rfl) ⟨?_, ?_⟩
          · refine ⟨by omega, fun i hi => ?_, P19b, hnv.only O19 (by omega), (hB.only O19 (hg65))⟩
            unfold upd
            split
            · rename_i e; rw [e]
            · exact hys i (by omega)
          · show N0 - (k + 1) < N0 - k; omega
        · (try with_reducible first | replace Q18 := of_decide_eq_true Q18 | replace Q18 := of_decide_eq_false Q18 | replace Q18 := bn_t Q18 | replace Q18 := bn_f Q18)
          (try with_reducible first | replace Q18 := of_decide_eq_true Q18 | replace Q18 := of_decide_eq_false Q18 | replace Q18 := bx_t Q18 | replace Q18 := bx_f Q18 | replace Q18 := be_t Q18 | replace Q18 := be_f Q18)
          refine cd_exit ?_
          refine ex_then ?_
          refine ex_then ?_
          refine ex_block ?_
          refine nx_then ?_
          refine cd_seq ?_
          refine cd_region ?_
          refine st_val (ro_move (v := .slice _ _ _) rfl) ?_
          refine st_val (ro_assign (v := .slice _ _ _) rfl) ?_
          refine st_nil ?_
          refine nx_then ?_
          refine cd_ret ?_
          refine res1 (v := .slice _ _ _) rfl rfl ?_
          obtain rfl : N0 = k := by omega
          refine ⟨⟨b65, ys, by rw [if_neg (by omega)], hg65, fun _ => hT, fun i hi => ?_⟩, hB⟩
          have h0r : 0 < rank (N0 + 1) (endT L) i := by
            rcases Nat.eq_zero_or_pos (rank (N0 + 1) (endT L) i) with e | e
            · have := rank_inj htx (show i < N0 + 1 by omega) (show N0 + 1 - 1 < N0 + 1 by omega) (by rw [e, rank_last htx])
              omega
            · exact e
          have hrl := rank_lt (n := N0 + 1) (t := endT L) (show i < N0 + 1 by omega)
          refine ⟨h0r, ?_⟩
          rw [hys _ (by omega), show 1 + (rank (N0 + 1) (endT L) i - 1) = rank (N0 + 1) (endT L) i by omega, hnr i (by omega)]
end Go.Proofs.Ytpafbgdbjambgaa
