/- fm: counts; In, Rising. -/
import Derived.Test.YtepdgbglaiimaaaMgFmLawP4
import Derived.Test.YtepdgbglaiimaaaMgFmLawP2
import Derived.Test.YtepdgbglaiimaaaMgFmLawP1
import Derived.Sort.OwnSortedInts
import Derived.Test.YtepdgbglaiimaaaMgFmLawP3
set_option maxRecDepth 100000
namespace Go.Proofs.Ytepdgbglaiimaaa
open Go.RowKit
open Go.ChangeShapes Go.WideShapes Go.ChangeAt
theorem WavMake_q71 : litQ Try.prog 71 = some (88, 3, 24, (.agg #[.pointer none, .int .i64 0, .int .i64 0])) := by kernel_rfl
theorem WavMake_g88 : aggQ Try.prog 88 = some true := by kernel_rfl
theorem WavMake_z88 : sizeQ Try.prog 88 = some 3 := by kernel_rfl
theorem WavMake_g71 : aggQ Try.prog 71 = some false := by kernel_rfl
theorem WavMake_s3 : (Try.prog.underlying 3).isSome = true := by kernel_rfl
theorem WavMake_i83 : Try.prog.underlying 83 = some (.int .u64) := by kernel_rfl
theorem WavMake_k53 : callable Try.prog 53 = true := by kernel_rfl
theorem WavMake_k54 : callable Try.prog 54 = true := by kernel_rfl
theorem WavMake_b73_1_2 : ∀ (a0 : Option Addr) (a1 a2 : Nat) (a3 : Int), Try.prog.built 73 [(1, .slice a0 a1 a2), (2, .int .i64 a3)] = some #[.slice none 0 0, .slice a0 a1 a2, .int .i64 a3] := by intros; kernel_rfl
theorem WavMake_k50 : callable Try.prog 50 = true := by kernel_rfl
theorem WavMake_k55 : callable Try.prog 55 = true := by kernel_rfl
theorem WavMake_o88 : zeroQ Try.prog 88 = some (.agg #[.pointer none, .int .i64 0, .int .i64 0]) := by kernel_rfl
theorem WavMake_f73_0 : fieldQ Try.prog 73 0 = some 0 := by kernel_rfl
theorem WavMake_z71 : sizeQ Try.prog 71 = some 1 := by kernel_rfl
theorem fillL (v z s : Nat) : Instr.fill (fun i => some (i * 3, 3)) ((Array.range (1 * 3)).map ((Value.agg #[.pointer none, .int .i64 0, .int .i64 0]).cells[· % (Value.agg #[.pointer none, .int .i64 0, .int .i64 0]).cells.size]!)) [(0, .agg (lvlV v z s).toArray)] = some (lvlV v z s).toArray := by
  first
    | kernel_rfl
    | rfl
theorem SymR.off {w0 w w' : World} {A B : Option Addr} {L : List Nat} {bs m c : Nat} {xs : List Value} (h : SymR w0 w A L) (ho : w.ownsRow bs 88 3 (.slice B m c) m xs) (hbs : w0.heap.size ≤ bs) (hg : w.grownBy w' (B.map (·.block))) : SymR w0 w' A L := by
  have hne : ∀ q, 0 < L.length → A.map (·.block) = some q → some q ≠ B.map (·.block) := fun q h0 hq e => by
    rcases h.2 q h0 hq with a | ⟨cs, hb⟩
    · have := (own_at ho q e.symm).1; omega
    · exact own_off ho hb (by decide) q e.symm rfl
  refine ⟨fun h0 => ?_, fun q h0 hq => (h.2 q h0 hq).imp id fun ⟨cs, hb⟩ => ⟨cs, hb.grown hg fun k hk e => hne q h0 hq (by rw [hk, e])⟩⟩
  obtain ⟨b, o, hA, hc⟩ := h.1 h0
  exact ⟨b, o, hA, fun i hi => hg.cell (hc i hi) (hne b h0 (by rw [hA]; rfl))⟩
theorem SymR.only {w0 w w' : World} {A : Option Addr} {L : List Nat} {g t : Nat} {cs0 : Array Value} (h : SymR w0 w A L) (o : Only g w w') (hb : Blk w g t cs0) (ht : t ≠ 3) (hg : w0.heap.size ≤ g) : SymR w0 w' A L := by
  have hne : ∀ q, 0 < L.length → A.map (·.block) = some q → q ≠ g := fun q h0 hq e => by
    subst e
    rcases h.2 q h0 hq with a | ⟨cs, hb2⟩
    · omega
    · unfold Blk at hb hb2
      rw [hb] at hb2
      simp only [Option.some.injEq, Obj.cells.injEq] at hb2
      exact ht hb2.2.1
  refine ⟨fun h0 => ?_, fun q h0 hq => (h.2 q h0 hq).imp id fun ⟨cs, hb2⟩ => ⟨cs, hb2.only o (hne q h0 hq)⟩⟩
  obtain ⟨b, o', hA, hc⟩ := h.1 h0
  exact ⟨b, o', hA, fun i hi => (o.cell (hne b h0 (by rw [hA]; rfl))).trans (hc i hi)⟩
theorem split_n (A : Option Addr) (c n : Nat) (L : List Nat) (w : World) (hn : n = L.length) (hr : RowOf nV w A L) (hl : n ≤ 131072) (s : Nat) (hs : s ≤ 9) (h10 : ∀ x ∈ L, x < 1024) : Rt Try.prog 55 [.slice A n c, .int .i64 (s : Nat)] w
    fun v w' => (∃ b A' c', v = .tuple #[.agg (lvlV b (zerosL s L).length s).toArray, .slice A' n c', .int .i64 0] ∧ Vec w' w.heap.size b (L.map (bitN s)) ∧ w'.ownsRow w.heap.size 3 1 (.slice A' n c') n ((partL s L).map nV)) ∧ From w w' := by
  subst hn
  exact split_rt A c L w hr hl s hs h10
theorem less_n (k : Nat) (hk : k ≤ 512) (A : Option Addr) (c n : Nat) (L : List Nat) (w : World) (hn : n = L.length) (hr : RowOf nV w A L) (hl : n ≤ 131072) (hlt : ∀ x ∈ L, x < k) : Rt Try.prog 54 [.int .i64 (k : Nat), .slice A n c] w
    fun v w' => (∃ g, v = .slice (some ⟨g, 0, none⟩) (k + 1) (k + 1) ∧ w.heap.size ≤ g ∧ Blk w' g 3 (tab (k + 1) (cntLt L))) ∧ From w w' := by
  subst hn
  exact countLess_rt k hk A c L w hr hl hlt
theorem check_n (k : Int) (A : Option Addr) (c n : Nat) (xs : List Int) (w : World) (hn : n = xs.length) (hr : RowOf iV w A xs) (hl : xs.length * 8 ≤ 140737488351232) : Rt Try.prog 53 [.int .i64 k, .slice A n c] w fun v w' => v = .int .i64 (chkW k xs) ∧ w = w' := by
  subst hn
  exact check_rt k A c xs w hr hl
set_option maxHeartbeats 1500000 in
theorem new_w (k : Int) (A : Option Addr) (c nn : Nat) (xs : List Int) (w : World) (hr : RowOf iV w A xs) (hnn : nn = xs.length) (hl : xs.length * 8 ≤ 140737488351232) (hA0 : ∀ q, 0 < xs.length → A.map (·.block) = some q → q < w.heap.size) :
    Rt Try.prog 40 [.int .i64 k, .slice A nn c] w (fun v w' => ((chkW k xs ≠ 0 ∧ v = .tuple #[.pointer none, .int .i64 (chkW k xs)]) ∨ (∃ (K : Nat) (L : List Nat) (b : Nat), k = (K : Nat) ∧ xs = L.map (fun x : Nat => (x : Int)) ∧ v = .tuple #[.pointer (some ⟨b, 0, none⟩), .int .i64 0] ∧ TreeAt w' w.heap.size b K L)) ∧ From w w') := by
  refine enter (n := 57) Try.func40 rfl rfl rfl ?_
  refine cd_seq (cd_region ?_)
  refine asp rfl ?_
  refine asi rfl ?_
  refine st_nil (nx_then (cd_seq (cd_seq (cd_region ?_))))
  refine mvi rfl ?_
  refine mvs rfl ?_
  refine st_call WavMake_k53 (check_n k A c nn xs _ hnn (hr.from_ From.rfl_) hl) ?_
  rintro v15 w1 ⟨rfl, rfl⟩
  refine asi rfl ?_
  refine st_nil (nx_then (cd_seq (cd_region ?_)))
  refine mvi rfl ?_
  refine st_val (ro_neq rfl rfl) ?_
  refine st_nil (nx_then ?_)
  refine cd_cond rfl (fun Q2 => ?_) (fun Q2 => ?_)
  · with_reducible replace Q2 := bx_t Q2
    have hch1 : chkW k xs ≠ 0 := by simpa using Q2
    refine cd_seq (cd_region ?_)
    refine mvi rfl ?_
    refine asp rfl ?_
    refine asi rfl ?_
    refine st_nil (nx_then (cd_ret (rt_then ?_)))
    refine res2 (v := .pointer _) (v' := .int _ _) rfl rfl rfl ?_
    exact ⟨.inl ⟨hch1, rfl⟩, From.rfl_⟩
  with_reducible replace Q2 := bx_f Q2
  have hch0 : chkW k xs = 0 := by simpa using Q2
  obtain ⟨K, L, rfl, hxs, hK1, hK2, hlt, hLl⟩ := xs_nat hch0
  have hrn : RowOf nV w A L := row_nat (hxs ▸ hr)
  have hnL : nn = L.length := by rw [hnn, hxs, List.length_map]
  have hnl : nn ≤ 131072 := by omega
  have hArow : ∀ q, 0 < L.length → A.map (·.block) = some q → q < w.heap.size ∨ ∃ cs, Blk w q 3 cs := fun q h0 hq => .inl (hA0 q (by rw [hxs, List.length_map]; exact h0) hq)
  refine cd_skip (nx_then (cd_seq (cd_region ?_)))
  refine mvi rfl ?_
  refine mvs rfl ?_
  refine st_call WavMake_k54 (less_n K hK2 A c nn L _ hnL (hrn.from_ From.rfl_) hnl hlt) ?_
  rintro v21 w3 ⟨⟨g, rfl, hg0, hgB⟩, E21⟩
  refine mvi rfl ?_
  refine st_val (ro_build (l := [(1, .tmp 21), (2, .tmp 22)]) (WavMake_b73_1_2 _ _ _ _)) ?_
  refine st_box (v := .agg _) rfl ?_
  intro b24 w4 E24 hb24 hk24
  have hl24 := hk24.lt
  have hg24 : w.heap.size ≤ b24 := by rw [hb24]; exact ((From.rfl_.next E21)).size
  have hgb : g ≠ b24 := by have := hgB.lt; omega
  have hArow : ∀ q, 0 < L.length → A.map (·.block) = some q → q < w.heap.size ∨ ∃ cs, Blk w4 q 3 cs := fun q h0 hq => .inl (hA0 q (by rw [hxs, List.length_map]; exact h0) hq)
  refine asp rfl ?_
  refine st_nil (nx_then (cd_seq (cd_region ?_)))
  refine mvs rfl ?_
  refine ass rfl ?_
  refine st_nil (nx_then (cd_seq (cd_seq (cd_region ?_))))
  refine mvi rfl ?_
  refine st_val (ro_subN (a := K) (b := 1) rfl rfl ⟨hK1, by omega⟩) ?_
  refine st_val (ro_conv64 WavMake_s3 WavMake_i83 rfl (by omega)) ?_
  refine st_call WavMake_k50 (len_rt (K - 1) _ (by omega)) ?_
  rintro v29 w5 ⟨rfl, rfl⟩
  refine st_val (ro_sub64 rfl rfl (by show _ ≤ ((nlv K : Nat) : Int) - 1 ∧ ((nlv K : Nat) : Int) - 1 ≤ _; have := nlv_le hK2; omega)) ?_
  refine asi rfl ?_
  refine st_nil (nx_then (cd_block ?_))
  refine cd_loop (G := Nat × Option Addr × Nat × Option Addr × Nat × (Nat → Nat)) [4, 5, 10, 11, 12, 31, 32, 33, 34, 35, 36, 37, 38, 39, 40, 41, 42, 43, 44, 45, 46, 47, 48, 49, 50, 51, 52, 53, 54, 55] (fun (j, A8, c8, _, _, _) => [(8, .slice A8 nn c8), (9, .int .i64 ((nlv K : Nat) - 1 - (j : Nat) : Int))]) (fun (j, A8, c8, AT, cT, vs) w' => j ≤ nlv K ∧ SymR w w' A8 (lvl (nlv K) L j) ∧ Blk w' b24 73 #[.slice AT j cT, .slice (some ⟨g, 0, none⟩) (K + 1) (K + 1), .int .i64 (K : Nat)] ∧ w'.ownsRow w.heap.size 88 3 (.slice AT j cT) j (lvlsV (nlv K) L vs j) ∧ (∀ i, i < j → Vec w' w.heap.size (vs i) ((lvl (nlv K) L i).map (bitN (nlv K - 1 - i)))) ∧ Blk w' g 3 (tab (K + 1) (cntLt L)) ∧ From w w') (fun (j, _, _, _, _, _) => nlv K - j) ((0, A, c, none, 0, fun _ => 0)) ⟨rfl, (int_eq (by show _ = _; simp [nlv])), trivial⟩ ?_ ?_
  · exact ⟨Nat.zero_le _, ⟨hrn.from_ ((From.rfl_.next E21).next E24), hArow⟩, hk24, World.ownsRow_nil _ _ _ _, fun i h => absurd h (by omega), hgB.from_ E24, ((From.rfl_.next E21).next E24)⟩
  rintro ⟨j, A8, c8, AT, cT, vs⟩ ρ6 w6 ⟨hj, hS, hT, ho, hVs, hg2, hB⟩
  refine cd_seq (cd_seq (cd_region ?_))
  refine mvi rfl ?_
  refine st_val (ro_geq rfl rfl) ?_
  refine st_nil (nx_then ?_)
  refine cd_cond rfl (fun Q7 => ?_) (fun Q7 => ?_)
  · with_reducible replace Q7 := of_decide_eq_true Q7
    have hjn : j < nlv K := by omega
    refine cd_skip (nx_then (cd_seq (cd_block (cd_seq (cd_region ?_)))))
    refine mvs rfl ?_
    refine mvi rfl ?_
    refine st_spell (t := 37) (v := .int _ _) (v' := .int .i64 ((nlv K - 1 - j : Nat) : Int)) rfl (by refine int_eq ?_; omega) ?_
    have hB38 : From w w6 := hB
    refine st_call WavMake_k55 (split_n A8 c8 nn (lvl (nlv K) L j) _ (by rw [lvl_len]; exact hnL) (hS.from_ From.rfl_).1 hnl (nlv K - 1 - j) (by have := nlv_le hK2; omega) (fun x hx => by have := hlt x (lvl_mem hx); omega)) ?_
    rintro v38 w8 ⟨⟨v38, A40, c40, rfl, hV38, hn40⟩, E38⟩
    refine mvt rfl ?_
    refine st_val (ro_extract rfl rfl) ?_
    refine st_val (ro_extract rfl rfl) ?_
    refine st_val (ro_extract rfl rfl) ?_
    refine st_alloc WavMake_o88 ?_
    intro b10 w9 E10 hb10 hk10
    have hF10 := E38.next E10
    refine st_putW (vs := [_, _, _]) WavMake_z88 rfl rfl (by simp [Value.oneCell']) (hk10) rfl ?_
    intro w10 O9 P9
    have hF9 : From _ w10 := hF10.only O9 (by rw [hb10]; exact E38.size)
    have hF9n : From _ w10 := E10.only O9 (by rw [hb10]; exact Nat.le_refl _)
    have hTq := hT.from_ hF9
    have hoq := ho.kept_from hF9
    have hVq : ∀ i, i < j → Vec w10 w.heap.size (vs i) ((lvl (nlv K) L i).map (bitN (nlv K - 1 - i))) := fun i hi => (hVs i hi).from_ hF9
    have hg2q := hg2.from_ hF9
    have hVn := (hV38.from_ hF9n).le hB38.size
    replace hn40 := (own_le hn40 hB38.size).kept_from hF9n
    have hBq : From w w10 := hB38.next hF9
    refine ass rfl ?_
    refine asi rfl ?_
    refine st_nil (nx_then (cd_seq (cd_seq (cd_region ?_))))
    refine mvi rfl ?_
    refine st_val (ro_bf (ro_neq rfl rfl) rfl) ?_
    refine st_nil (nx_then ?_)
    refine cd_condF rfl ?_
    refine cd_skip (nx_then (cd_seq ?_))
    apply cd_mu9 10 7 [51] [(45, eqp _), (46, eqp _), (47, eqp _), (48, eqp _), (49, eqp _), (50, eqp (.agg (lvlV v38 (zerosL (nlv K - 1 - j) (lvl (nlv K) L j)).length (nlv K - 1 - j)).toArray)), (51, fun v w' => ∃ q, v = .slice (some ⟨q, 0, none⟩) 1 1 ∧ Blk w' q 88 (lvlV v38 (zerosL (nlv K - 1 - j) (lvl (nlv K) L j)).length (nlv K - 1 - j)).toArray), (52, fun v w' => ∃ A2 c2, v = .slice A2 (j + 1) c2 ∧ w'.ownsRow w.heap.size 88 3 (.slice A2 (j + 1) c2) (j + 1) (lvlsV (nlv K) L vs j ++ (lvlV v38 (zerosL (nlv K - 1 - j) (lvl (nlv K) L j)).length (nlv K - 1 - j)))), (53, eqp _), (54, eqp _)] (fun w' => From w10 w') (fun w' => (w10).grownBy w' (AT.map (·.block))) (by repeat first | exact pq_body | refine pq_then ?_ | refine pq_block ?_) (by kernel_rfl) (by kernel_rfl) (by kernel_rfl) ⟨eqp_mono _, eqp_mono _, eqp_mono _, eqp_mono _, eqp_mono _, eqp_mono _, (fun _ _ _ hF ⟨q, h1, h2⟩ => ⟨q, h1, h2.from_ hF⟩), (fun _ _ _ hF ⟨A2, c2, h1, h2⟩ => ⟨A2, c2, h1, h2.kept_from hF⟩), eqp_mono _, eqp_mono _, trivial⟩ (From.rfl_.d1) (From.rfl_.d1.grown _) (fun _ _ hF h => h.next hF) (fun _ _ hF h => grown_trans h (hF.grown _))
    case hop =>
     refine ⟨?_, ?_⟩
     · rintro - w12 hG12
       show OpOK _ _ _ _ _ _ _
       exact ok_pure (ro_move (v := .pointer _) rfl) rfl
     refine ⟨?_, ?_⟩
     · rintro - w13 hG13
       show OpOK _ _ _ _ _ _ _
       exact ok_pure (ro_move (v := .pointer _) rfl) rfl
     refine ⟨?_, ?_⟩
     · rintro - w14 hG14
       rintro _ rfl
       show OpOK _ _ _ _ _ _ _
       exact ok_pure (ro_nilCheck rfl) rfl
     refine ⟨?_, ?_⟩
     · rintro - w15 D15
       rintro _ rfl
       show OpOK _ _ _ _ _ _ _
       exact ok_pure (ro_fieldAddr WavMake_f73_0 rfl) rfl
     refine ⟨?_, ?_⟩
     · rintro - w16 D16
       rintro _ rfl
       show OpOK _ _ _ _ _ _ _
       exact ok_pure (ro_load WavMake_g71 rfl ((hTq.from_ D16).rd 0 rfl)) rfl
     refine ⟨?_, ?_⟩
     · rintro - w17 D17
       show OpOK _ _ _ _ _ _ _
       exact ok_pure (ro_loadA (cs := (lvlV v38 (zerosL (nlv K - 1 - j) (lvl (nlv K) L j)).length (nlv K - 1 - j))) WavMake_g88 WavMake_z88 rfl ((P9.from_ D17).whole)) rfl
     refine ⟨?_, ?_⟩
     · rintro - w18 D18
       rintro v18_50 rfl
       show OpOK _ _ _ _ _ _ _
       exact ok_val (ro_lit (l := [(0, .tmp 50)]) (cells := (lvlV v38 (zerosL (nlv K - 1 - j) (lvl (nlv K) L j)).length (nlv K - 1 - j)).toArray) WavMake_q71 rfl rfl (fillL _ _ _)) (From.rfl_.new _) ⟨_, rfl, Blk.new _ _ _⟩
     refine ⟨?_, ?_⟩
     · intro h; cases h
     refine ⟨?_, ?_⟩
     · rintro - w20 hG20
       rintro _ rfl
       show OpOK _ _ _ _ _ _ _
       exact ok_pure (ro_nilCheck rfl) rfl
     refine ⟨?_, ?_⟩
     · rintro - w21 hG21
       rintro _ rfl
       show OpOK _ _ _ _ _ _ _
       exact ok_pure (ro_fieldAddr WavMake_f73_0 rfl) rfl
     exact trivial
    case hmu =>
     rintro w22 D22
     rintro _ rfl v22_51 ⟨q22, rfl, hq22⟩
     show MuOK _ _ _ _ _ _ _
     have hoD := hoq.kept_from D22
     have hbz : w.heap.size ≤ (w10).heap.size := hBq.size
     refine mu_append WavMake_q71 rfl (by decide) rfl hoD (Nat.le_trans hbz D22.size) rfl rfl ⟨_, _, rfl, hq22.whole⟩ (by simp [lvlV, Value.oneCell']) (by have := nlv_le hK2; omega) (by have := nlv_le hK2; omega) ?_
     intro A3 c3 w3 ho3 hg3
     exact ⟨grown_trans (D22.grown _) hg3, ⟨A3, c3, rfl, ho3⟩, fun t u ht h => muR_look (by repeat first | exact trivial | refine ⟨.inl rfl, ?_⟩ | refine ⟨.inr (fun _ h => h), ?_⟩) t u ht h⟩
    case hend =>
     rintro w23 hG23
     rintro _ rfl _ rfl _ rfl _ rfl _ rfl v50 rfl v51 _ v52 ⟨A52, c52, rfl, ho52⟩ _ rfl _ rfl
     show St _ _ _ _ _ _ _
     have hgq := hG23
     have hTb2 := hTq.grown hgq (own_off hoq hTq (by decide))
     have hBg : From w _ := hBq.grew hgq (fun k hk => (own_at hoq k hk).1)
     refine st_put (v := .slice _ _ _) WavMake_z71 rfl rfl rfl (hTb2) (by show 0 < 3; decide) ?_
     intro w24 O12 P12
     refine st_nil (nx_then (cd_region ?_))
     refine mvs rfl ?_
     refine ass rfl ?_
     refine st_nil (nx_block (nx_then (cd_region ?_)))
     refine mvi rfl ?_
     refine st_val (ro_sub64 rfl rfl (by have := nlv_le hK2; omega)) ?_
     refine asi rfl ?_
     refine st_nil ?_
     refine nx_cut ((j + 1, A40, c40, A52, c52, fun i => if i = j then v38 else vs i)) ⟨rfl, (by first | rfl | (refine int_eq ?_; omega)), trivial⟩ (by (iterate 62 refine agr_cons rfl ?_); exact agr_rfl) ⟨?_, ?_⟩
     · have hTb := hTq
       refine ⟨by omega, ?_, P12, ?_, fun i hi => ?_, ?_, (hBg.only O12 hg24)⟩
       · exact ((symR_own (w0 := w) hn40).off hoq (Nat.le_refl _) hgq).only O12 hTb2 (by decide) hg24
       · rw [lvls_succ]; exact own_only3 ho52 O12 (own_off ho52 hTb2 (by decide))
       · by_cases hij : i = j
         · subst hij; simp only [if_true]; exact (hVn.off hoq hgq).only O12 hTb2 (by decide) (by decide) (by decide)
         · simp only [if_neg hij]; exact ((hVq i (by omega)).off hoq hgq).only O12 hTb2 (by decide) (by decide) (by decide)
       · exact (hg2q.grown hgq (own_off hoq hg2q (by decide))).only O12 hgb
     · show nlv K - (j + 1) < nlv K - j; omega
  with_reducible replace Q7 := of_decide_eq_false Q7
  refine cd_exit ?_
  refine ex_then (ex_then (ex_block (nx_then (cd_seq (cd_region ?_)))))
  refine mvp rfl ?_
  refine asp rfl ?_
  refine asi rfl ?_
  refine st_nil (nx_then (cd_ret ?_))
  refine res2 (v := .pointer _) (v' := .int _ _) rfl rfl rfl ?_
  obtain rfl : j = nlv K := by omega
  exact ⟨.inr ⟨K, L, b24, rfl, hxs, rfl, hg24, AT, cT, g, vs, hT, ho, hVs, hg0, hg2, hK1, hK2, hlt, by omega⟩, hB⟩
end Go.Proofs.Ytepdgbglaiimaaa

namespace Go.Proofs.Ytepdgbglaiimaaa
open Go.RowKit
open Go.ChangeShapes Go.WideShapes Go.ChangeAt
open Go.Proofs.Ytepdgbglaiimaaa.SA
theorem FmBuild_q53 : litQ Try.prog 53 = some (79, 2, 8, (.agg #[.int .i32 0, .int .i32 0])) := by kernel_rfl
theorem FmBuild_f56_2 : fieldQ Try.prog 56 2 = some 2 := by kernel_rfl
theorem FmBuild_g53 : aggQ Try.prog 53 = some false := by kernel_rfl
theorem FmBuild_b79_0_1 : ∀ (a0 : Int) (a1 : Int), Try.prog.built 79 [(0, .int .i32 a0), (1, .int .i32 a1)] = some #[.int .i32 a0, .int .i32 a1] := by intros; kernel_rfl
theorem FmBuild_z53 : sizeQ Try.prog 53 = some 1 := by kernel_rfl
theorem FmBuild_f56_3 : fieldQ Try.prog 56 3 = some 3 := by kernel_rfl
theorem FmBuild_g54 : aggQ Try.prog 54 = some false := by kernel_rfl
theorem FmBuild_e54 : elemQ Try.prog 54 = some (21, 1) := by kernel_rfl
theorem FmBuild_z21 : sizeQ Try.prog 21 = some 1 := by kernel_rfl
noncomputable def rwJ (L : List Nat) (k j : Nat) : Nat := if rank (L.length + 1) (endT L) (8 * j) < k then rank (L.length + 1) (endT L) (8 * j) else 0
theorem rwJ_zero (L : List Nat) (j : Nat) : rwJ L 0 j = 0 := by unfold rwJ; rw [if_neg (by omega)]
theorem rwJ_all {L : List Nat} {j : Nat} (h : j < L.length / 8 + 1) : rwJ L (L.length + 1) j = rank (L.length + 1) (endT L) (8 * j) := by
  unfold rwJ
  rw [if_pos (rank_lt (by omega))]
theorem rwJ_eq {L F : List Nat} (hS : IsSA L F) {k j : Nat} (hk : k ≤ L.length) (hj : 8 * j ≤ L.length) : rank (L.length + 1) (endT L) (8 * j) = k ↔ 8 * j = rowS L F k := by
  constructor
  · intro e
    rw [← e, rowS_rank hS hj]
  · intro e
    rw [e]
    exact (rank_rowS hS hk).2
theorem rwJ_no {L F : List Nat} (hS : IsSA L F) {k j : Nat} (hk : k ≤ L.length) (hj : j < L.length / 8 + 1) (h : rowS L F k % 8 ≠ 0) : rwJ L (k + 1) j = rwJ L k j := by
  have := rwJ_eq hS hk (show 8 * j ≤ L.length by omega)
  unfold rwJ
  have hne : rank (L.length + 1) (endT L) (8 * j) ≠ k := fun e => by have := this.1 e; omega
  by_cases x : rank (L.length + 1) (endT L) (8 * j) < k
  · rw [if_pos x, if_pos (by omega)]
  · rw [if_neg x, if_neg (by omega)]
theorem rwJ_yes {L F : List Nat} (hS : IsSA L F) {k : Nat} (hk : k ≤ L.length) (h : rowS L F k % 8 = 0) (j : Nat) (hj : j < L.length / 8 + 1) : upd (fun j => ((rwJ L k j : Nat) : Int)) (rowS L F k / 8) ((k : Nat) : Int) j = ((rwJ L (k + 1) j : Nat) : Int) := by
  have := rwJ_eq hS hk (show 8 * j ≤ L.length by omega)
  unfold upd
  split
  · rename_i e
    have e2 := this.2 (by omega)
    unfold rwJ
    rw [e2, if_pos (by omega)]
  · rename_i e
    have hne : rank (L.length + 1) (endT L) (8 * j) ≠ k := fun e2 => by have := this.1 e2; omega
    show ((rwJ L k j : Nat) : Int) = _
    unfold rwJ
    by_cases x : rank (L.length + 1) (endT L) (8 * j) < k
    · rw [if_pos x, if_pos (by omega)]
    · rw [if_neg x, if_neg (by omega)]
section
variable {P : Program} {ops : Array Oper} {Q : Exit → Act → World → Prop} {rest : List Oper} {n : Fr} {L : List (Nat × Value)} {w : World} {ty : TypeId} {pos : String} {after : Array Edge} {d : Nat} {t : TypeId} {x : Operand}
/-- one element of two cells -/
theorem st_lit2 {e by_ : Nat} {z v z0 z1 u0 u1 : Value} (hq : litQ P t = some (e, 2, by_, z)) (hz : z.cells = #[z0, z1]) (hx : ev n L x = v) (hv : v.cells = #[u0, u1])
    (k : ∀ g w', From w w' → g = w.heap.size → Blk w' g e #[u0, u1] → St P ops Q rest n ((d, .slice (some ⟨g, 0, none⟩) 1 1) :: L) w') : St P ops Q (⟨some d, .buildSlice t 1 #[(0, x)], ty, pos, after, none⟩ :: rest) n L w := by
  refine st_lit (l := [(0, x)]) (cells := #[u0, u1]) hq rfl rfl ?_ k
  have e1 : (Array.range (1 * 2)).map (z.cells[· % z.cells.size]!) = #[z0, z1] := by
    rw [hz, show Array.range (1 * 2) = #[0, 1] from rfl]
    simp
  rw [e1]
  simp [Instr.fill, hx, hv]
end
/-- an index, as far as its rows are stored -/
def StAt (w W0 : World) (b tb k a : Nat) (L F : List Nat) : Prop := From W0 w ∧ W0.heap.size ≤ b ∧ ∃ (AS : Option Addr) (cs gr : Nat), W0.heap.size ≤ gr ∧
  Blk w b 56 #[.pointer (some ⟨tb, 0, none⟩), .int .i64 (a : Nat), .slice AS (smp L F k).length cs, .slice (some ⟨gr, 0, none⟩) (L.length / 8 + 1) (L.length / 8 + 1)] ∧
  w.ownsRow W0.heap.size 79 2 (.slice AS (smp L F k).length cs) (smp L F k).length (smpV L F (smp L F k)) ∧
  Blk w gr 21 (tabJ (L.length / 8 + 1) fun j => ((rwJ L k j : Nat) : Int))
theorem smpV_push {L F l : List Nat} {k : Nat} : smpV L F (l ++ [k]) = smpV L F l ++ [jV ((k : Nat) : Int), jV ((rowS L F k : Nat) : Int)] := by simp [smpV]
set_option maxHeartbeats 2000000 in
theorem store_rt (W0 : World) (b tb a k : Nat) (L F : List Nat) (w : World) (hS : IsSA L F) (hk : k ≤ L.length) (hn : L.length ≤ 131072) (h : StAt w W0 b tb k a L F) :
    Rt Try.prog 42 [.pointer (some ⟨b, 0, none⟩), .int .i64 (k : Nat), .int .i64 ((rowS L F k : Nat) : Int)] w (fun _ w' => StAt w' W0 b tb (k + 1) a L F) := by
  obtain ⟨hFz, hb0, AS, cs, gr, hg0, hI, ho, hJ⟩ := h
  have hrk := (rank_rowS hS hk).1
  have hsl := smp_le (L := L) (F := F) (k := k)
  refine enter (n := 32) Try.func42 rfl rfl rfl ?_
  refine cd_seq (cd_seq (cd_region ?_))
  refine mvi rfl ?_
  refine st_val (ro_remN (b := 8) rfl rfl (by omega)) ?_
  refine st_val (ro_neq rfl rfl) ?_
  refine st_nil (nx_then ?_)
  refine cd_cond rfl (fun Q1 => ?_) (fun Q1 => ?_)
  · with_reducible replace Q1 := bx_t Q1
    refine cd_ret (rt_then ?_)
    refine res0 rfl ?_
    have hno : rowS L F k % 8 ≠ 0 := by omega
    refine ⟨hFz, hb0, AS, cs, gr, hg0, ?_, ?_, ?_⟩
    · rw [smp_no hno]; exact hI
    · rw [smp_no hno]; exact ho
    · rw [tabJ_congr (fun j hj => by rw [rwJ_no hS hk hj hno])]; exact hJ
  with_reducible replace Q1 := bx_f Q1
  refine cd_skip (nx_then (cd_seq (cd_region ?_)))
  refine mvp rfl ?_
  refine mvp rfl ?_
  refine st_val (ro_nilCheck rfl) ?_
  refine st_val (ro_fieldAddr FmBuild_f56_2 rfl) ?_
  refine st_val (ro_load FmBuild_g53 rfl (by exact (hI.from_ From.rfl_).rd 2 rfl)) ?_
  refine mvi rfl ?_
  refine st_val (ro_conv32 (by kernel_rfl) (by kernel_rfl) rfl (by omega)) ?_
  refine mvi rfl ?_
  refine st_val (ro_conv32 (by kernel_rfl) (by kernel_rfl) rfl (by omega)) ?_
  refine st_val (ro_build (l := [(0, .tmp 15), (1, .tmp 17)]) (FmBuild_b79_0_1 _ _)) ?_
  refine st_lit2 FmBuild_q53 rfl rfl rfl ?_
  intro b19 w2 E19 hb19 hk19
  refine st_appendB FmBuild_q53 rfl (by decide) rfl (A := AS) (xs := smpV L F (smp L F k)) (news := [jV ((k : Nat) : Int), jV ((rowS L F k : Nat) : Int)]) (ho.kept_from E19) ((hFz.next E19).size) rfl rfl (fun _ => ⟨b19, 0, rfl, hk19.whole⟩) (fun h => by cases h) (by simp [Value.oneCell']) (by omega) (by omega) ?_
  intro A20 c20 w3 ho20 hg20
  have HF20 := (hFz.next E19).grew hg20 (fun k hk => (own_at ho k hk).1)
  have hI20 := (hI.from_ E19).grown hg20 (own_ne (ho.kept_from E19) (hI.from_ E19) (by decide))
  have hJ20 := (hJ.from_ E19).grown hg20 (own_ne (ho.kept_from E19) (hJ.from_ E19) (by decide))
  refine st_val (ro_nilCheck rfl) ?_
  refine st_val (ro_fieldAddr FmBuild_f56_2 rfl) ?_
  refine st_put (v := .slice _ _ _) FmBuild_z53 rfl rfl rfl (hI20) (by simp) ?_
  intro w4 O1 P1
  have hgb : gr ≠ b := fun e => by subst e; exact absurd (hJ20.symm.trans hI20) (by simp)
  have ho1 := own_only3 ho20 O1 (own_off ho20 hI20 (by decide))
  have hJ1 := hJ20.only O1 hgb
  have hI1 := P1
  have HF1 := HF20.only O1 hb0
  refine st_nil (nx_then (cd_region ?_))
  refine mvp rfl ?_
  refine st_val (ro_nilCheck rfl) ?_
  refine st_val (ro_fieldAddr FmBuild_f56_3 rfl) ?_
  refine st_val (ro_load FmBuild_g54 rfl (by exact hI1.rd 3 rfl)) ?_
  refine mvi rfl ?_
  refine st_val (ro_quoN (b := 8) rfl rfl (by omega)) ?_
  refine mvi rfl ?_
  refine st_val (ro_conv32 (by kernel_rfl) (by kernel_rfl) rfl (by omega)) ?_
  refine st_val (ro_indexAddr0 FmBuild_e54 rfl rfl (by omega)) ?_
  refine st_put (v := .int _ _) FmBuild_z21 rfl rfl rfl (hJ1) (by rw [tabJ_size]; omega) ?_
  intro w5 O2 P2
  refine st_nil ?_
  refine end_ret ?_
  refine res0 rfl ?_
  have hy : rowS L F k % 8 = 0 := by omega
  refine ⟨HF1.only O2 hg0, hb0, A20, c20, gr, hg0, ?_, ?_, ?_⟩
  · rw [smp_yes hy, List.length_append]; exact hI1.only O2 (Ne.symm hgb)
  · rw [smp_yes hy, List.length_append, smpV_push]; exact own_only3 ho1 O2 (own_off ho1 hJ1 (by decide))
  · rw [← tabJ_congr (fun j hj => rwJ_yes hS hk hy j hj), ← tabJ_set]; exact P2
end Go.Proofs.Ytepdgbglaiimaaa

namespace Go.Proofs.Ytepdgbglaiimaaa
open Go.RowKit
open Go.ChangeShapes Go.WideShapes Go.ChangeAt
open Go.Proofs.Ytepdgbglaiimaaa.SA
theorem FmStart_e53 : elemQ Try.prog 53 = some (79, 2) := by kernel_rfl
theorem FmStart_f56_2 : fieldQ Try.prog 56 2 = some 2 := by kernel_rfl
theorem FmStart_g53 : aggQ Try.prog 53 = some false := by kernel_rfl
theorem FmStart_k47 : callable Try.prog 47 = true := by kernel_rfl
theorem FmStart_f79_1 : fieldQ Try.prog 79 1 = some 1 := by kernel_rfl
theorem FmStart_g21 : aggQ Try.prog 21 = some false := by kernel_rfl
theorem FmStart_s21 : (Try.prog.underlying 21).isSome = true := by kernel_rfl
theorem FmStart_i3 : Try.prog.underlying 3 = some (.int .i64) := by kernel_rfl
theorem FmStart_k38 : callable Try.prog 38 = true := by kernel_rfl
theorem not_smp {L F : List Nat} {n i r : Nat} {fd : Bool} (hi : i ≤ (smp L F (n + 1)).length) (hlo : ∀ x, x < i → (smp L F (n + 1)).getD x 0 < r) (hhi : ∀ x, i ≤ x → x < (smp L F (n + 1)).length → r ≤ (smp L F (n + 1)).getD x 0) (hfd : fd = true ↔ i < (smp L F (n + 1)).length ∧ (smp L F (n + 1)).getD i 0 = r) (hf : fd = false) (hr : r ≤ n) : rowS L F r % 8 ≠ 0 := fun h => by
  have := hfd.2 (smp_find hi hlo hhi (by omega) h)
  rw [hf] at this
  cases this
set_option maxHeartbeats 2000000 in
theorem start_rt (base b K a : Nat) (L B F : List Nat) (w : World) (hf : FmAt w base b K a L B F) (r : Nat) (hr : r ≤ L.length) :
    Rt Try.prog 35 [.pointer (some ⟨b, 0, none⟩), .int .i64 (r : Nat)] w (fun v w' => v = .int .i64 ((rowS L F r : Nat) : Int) ∧ From w w') := by
  have hff := hf
  obtain ⟨hb0, hSA, hbw, hLn, hK, tb, AS, cs, gr, hI, hT, ho, hR, hgr⟩ := hf
  have hsm := smp_le (L := L) (F := F) (k := L.length + 1)
  have hrS := (rank_rowS hSA hr).1
  refine enter (n := 39) Try.func35 rfl rfl rfl ?_
  refine cd_seq (cd_region ?_)
  refine asi rfl ?_
  refine st_nil (nx_then (cd_seq (cd_seq (cd_region ?_))))
  refine mvi rfl ?_
  refine st_nil (nx_then (cd_block ?_))
  refine cd_loop (G := Nat × Nat) [4, 5, 6, 7, 9, 10, 11, 12, 13, 14, 15, 16, 17, 18, 19, 20, 21, 22, 23, 24, 25, 26, 27, 28, 29, 30, 31, 32, 33, 34, 35, 36, 37, 38] (fun (q, k) => [(1, .int .i64 (q : Nat)), (8, .int .i64 (k : Nat))]) (fun (q, k) w' => k ≤ 8 ∧ q ≤ L.length ∧ rowS L F q + k = rowS L F r ∧ k ≤ rowS L F r % 8 ∧ From w w') (fun (_, k) => 8 - k) ((r, 0)) ⟨rfl, rfl, trivial⟩ ?_ ?_
  · exact ⟨by omega, hr, by omega, by omega, From.rfl_⟩
  rintro ⟨q, k⟩ ρ1 w1 ⟨hk, hq, hS, hk8, hB⟩
  refine cd_seq (cd_region ?_)
  refine st_val (ro_lss rfl rfl) ?_
  refine st_nil (nx_then (cd_seq ?_))
  refine cd_cond rfl (fun Q2 => ?_) (fun Q2 => ?_)
  rotate_left
  · with_reducible replace Q2 := of_decide_eq_false Q2
    exfalso; omega
  with_reducible replace Q2 := of_decide_eq_true Q2
  refine cd_skip (nx_then (cd_seq (cd_block (cd_seq (cd_region ?_)))))
  refine mvi rfl ?_
  refine asi rfl ?_
  refine st_nil (nx_then (cd_seq (cd_region ?_)))
  refine mvp rfl ?_
  refine st_val (ro_nilCheck rfl) ?_
  refine st_val (ro_fieldAddr FmStart_f56_2 rfl) ?_
  refine st_val (ro_load FmStart_g53 rfl (by exact (hI.from_ hB).rd 2 rfl)) ?_
  refine mvi rfl ?_
  refine st_call FmStart_k47 (bsearch_rt base AS cs (smp L F (L.length + 1)).length q L F (smp L F (L.length + 1)) _ (ho.kept_from hB) rfl (by omega) (by omega) (fun i hi => by have := (smp_get hi).1; omega) (fun i j hij hj => smp_lt hij hj)) ?_
  rintro v17 w3 ⟨⟨i, fd, rfl, hi, hlo, hhi, hfd⟩, E17⟩
  refine mvt rfl ?_
  refine st_val (ro_extract rfl rfl) ?_
  refine st_val (ro_extract rfl rfl) ?_
  refine asi rfl ?_
  refine asb rfl ?_
  refine st_nil (nx_then (cd_seq (cd_seq (cd_region ?_))))
  refine mvb rfl ?_
  refine st_nil (nx_then ?_)
  refine cd_cond rfl (fun Q4 => ?_) (fun Q4 => ?_)
  · obtain ⟨hi1, hi2⟩ := hfd.1 (by simpa using Q4)
    have hi3 := congrArg (rowS L F) hi2
    obtain ⟨g, rfl, hrg⟩ := smp_range ho rfl (by omega)
    refine cd_seq (cd_region ?_)
    refine mvp rfl ?_
    refine st_val (ro_nilCheck rfl) ?_
    refine st_val (ro_fieldAddr FmStart_f56_2 rfl) ?_
    refine st_val (ro_load FmStart_g53 rfl (by exact (hI.from_ (hB.next E17)).rd 2 rfl)) ?_
    refine mvi rfl ?_
    refine st_val (ro_indexAddrN FmStart_e53 rfl rfl (by omega)) ?_
    refine st_val (ro_fieldAddr FmStart_f79_1 rfl) ?_
    refine st_val (ro_load FmStart_g21 rfl (by rw [Nat.zero_add]; exact cellF (hB.next E17) ((hrg i hi1) 1 _ rfl))) ?_
    refine st_val (ro_convI FmStart_s21 FmStart_i3 rfl (by omega)) ?_
    refine mvi rfl ?_
    refine st_val (ro_addN rfl rfl (by omega)) ?_
    refine asi rfl ?_
    refine st_nil (nx_then (cd_ret (rt_then (rt_block (rt_then (rt_then (rt_block (rt_then ?_))))))))
    refine res1 (v := .int _ _) rfl rfl ?_
    exact ⟨int_eq (by rw [hi2]; omega), (hB.next E17)⟩
  have hns := not_smp hi hlo hhi hfd (by simpa using Q4) hq
  have hqa : q ≠ a := fun e => by rw [e, rowS_at hSA hbw] at hns; exact hns rfl
  have hlf := rowS_lf hSA hbw hq hqa
  refine cd_skip (nx_then (cd_region ?_))
  refine mvp rfl ?_
  refine mvi rfl ?_
  refine st_call FmStart_k38 (ahead_rt base b K a L B F _ (hff.from_ (hB.next E17)) q hq hqa) ?_
  rintro v35 w5 ⟨rfl, E35⟩
  refine mvt rfl ?_
  refine st_val (ro_extract rfl rfl) ?_
  refine st_val (ro_extract rfl rfl) ?_
  refine asi rfl ?_
  refine st_nil (nx_block (nx_then (cd_region ?_)))
  refine st_val (ro_addN (b := 1) rfl rfl (by omega)) ?_
  refine mvi rfl ?_
  refine st_nil ?_
  refine nx_cut ((lf L.length (fun i => B.getD i 0) a q, k + 1)) ⟨(by first | rfl | (refine int_eq ?_; omega)), (by first | rfl | (refine int_eq ?_; omega)), trivial⟩ (by (iterate 60 refine agr_cons rfl ?_); exact agr_rfl) ⟨?_, ?_⟩
  · exact ⟨by omega, hlf.1, by omega, by omega, ((hB.next E17).next E35)⟩
  · show 8 - (k + 1) < 8 - k; omega
end Go.Proofs.Ytepdgbglaiimaaa

namespace Go.Proofs.Ytepdgbglaiimaaa
open Go.RowKit
open Go.ChangeShapes Go.WideShapes Go.ChangeAt
open Go.Proofs.Ytepdgbglaiimaaa.SA
theorem FmMake_e22 : elemQ Try.prog 22 = some (3, 1) := by kernel_rfl
theorem FmMake_k39 : callable Try.prog 39 = true := by kernel_rfl
theorem FmMake_k40 : callable Try.prog 40 = true := by kernel_rfl
theorem FmMake_k41 : callable Try.prog 41 = true := by kernel_rfl
theorem FmMake_l22 : (elemQ Try.prog 22).isSome = true := by kernel_rfl
theorem FmMake_m54 : makeQ Try.prog 54 = some (21, 4, (.int .i32 0)) := by kernel_rfl
theorem FmMake_b56_0_1_3 : ∀ (a0 : Option Addr) (a1 : Int) (a2 : Option Addr) (a3 a4 : Nat), Try.prog.built 56 [(0, .pointer a0), (1, .int .i64 a1), (3, .slice a2 a3 a4)] = some #[.pointer a0, .int .i64 a1, .slice none 0 0, .slice a2 a3 a4] := by intros; kernel_rfl
theorem FmMake_k42 : callable Try.prog 42 = true := by kernel_rfl
theorem FmMake_g3 : aggQ Try.prog 3 = some false := by kernel_rfl
theorem TreeAt.le {w : World} {base base2 b k : Nat} {B : List Nat} (h : TreeAt w base b k B) (hl : base2 ≤ base) : TreeAt w base2 b k B := by
  obtain ⟨hb0, AT, cT, g, vs, hT, ho, hVs, hg0, hg2, hrest⟩ := h
  exact ⟨Nat.le_trans hl hb0, AT, cT, g, vs, hT, own_le ho hl, fun j hj => (hVs j hj).le hl, Nat.le_trans hl hg0, hg2, hrest⟩
theorem bw_mem {L B : List Nat} {a : Nat} (h : IsBw L B a) (x : Nat) : x ∈ B ↔ x ∈ L := by
  have hl := h.len
  have ha := h.le
  constructor
  · intro hx
    obtain ⟨q, hq, rfl⟩ := List.getElem_of_mem hx
    obtain ⟨i, hi, e⟩ := rank_sur (L := L) (r := if q < a then q else q + 1) (by split <;> omega)
    have hne : rank (L.length + 1) (endT L) i ≠ a := by rw [e]; split <;> omega
    have hi0 : 0 < i := by
      rcases Nat.eq_zero_or_pos i with y | y
      · subst y; exact absurd h.at0.symm hne
      · exact y
    have hs : sy a (rank (L.length + 1) (endT L) i) = q := by rw [e]; unfold sy; split <;> split <;> omega
    have e1 := h.sym i hi0 hi
    rw [hs, List.getD_eq_getElem?_getD, List.getElem?_eq_getElem hq, List.getD_eq_getElem?_getD, List.getElem?_eq_getElem (by omega)] at e1
    simp only [Option.getD_some] at e1
    rw [e1]
    exact List.getElem_mem _
  · intro hx
    obtain ⟨i, hi, rfl⟩ := List.getElem_of_mem hx
    have e1 := h.sym (i + 1) (by omega) (by omega)
    have hne : rank (L.length + 1) (endT L) (i + 1) ≠ a := by rw [h.at0]; exact rank_ne (by omega) (by omega) (by omega)
    have hs := sy_lt ha (rank_le (show i + 1 ≤ L.length by omega)) hne
    rw [List.getD_eq_getElem?_getD, List.getElem?_eq_getElem (by omega), List.getD_eq_getElem?_getD, show i + 1 - 1 = i by omega, List.getElem?_eq_getElem hi] at e1
    simp only [Option.getD_some] at e1
    rw [← e1]
    exact List.getElem_mem _
theorem chk_bw {L B : List Nat} {a : Nat} (h : IsBw L B a) (k : Int) : chkW k (cI B) = chkW k (cI L) := by
  have e : (cI B).any (badSym k) = (cI L).any (badSym k) := by
    rw [Bool.eq_iff_iff, List.any_eq_true, List.any_eq_true]
    constructor
    · rintro ⟨x, hx, hb⟩
      obtain ⟨y, hy, rfl⟩ := List.mem_map.1 hx
      exact ⟨_, List.mem_map.2 ⟨y, (bw_mem h y).1 hy, rfl⟩, hb⟩
    · rintro ⟨x, hx, hb⟩
      obtain ⟨y, hy, rfl⟩ := List.mem_map.1 hx
      exact ⟨_, List.mem_map.2 ⟨y, (bw_mem h y).2 hy, rfl⟩, hb⟩
  unfold chkW
  rw [e, List.length_map, List.length_map, h.len]
theorem rowB {α : Type} {f : α → Value} {w : World} {A : Option Addr} {l : List α} (h : RowOf f w A l) : ∀ q, 0 < l.length → A.map (·.block) = some q → q < w.heap.size := fun q h0 hq => by
  obtain ⟨b, o, rfl, hc⟩ := h h0
  cases hq
  exact lt_of_cell (hc 0 h0)
theorem new_bad (k : Int) (A : Option Addr) (c n : Nat) (xs : List Int) (w : World) (hr : RowOf iV w A xs) (hn : n = xs.length) (hl : n ≤ 131072) (hbad : xs.all (okS 512) = false) : Rt Try.prog 40 [.int .i64 k, .slice A n c] w fun v w' => (chkW k xs ≠ 0 ∧ v = .tuple #[.pointer none, .int .i64 (chkW k xs)]) ∧ From w w' := by
  refine (new_w k A c n xs w hr hn (by omega) (rowB hr)).mono fun v w' h => ?_
  obtain ⟨h, hF⟩ := h
  refine ⟨?_, hF⟩
  rcases h with h | ⟨K, L, b, rfl, rfl, rfl, ht⟩
  · exact h
  · exfalso
    obtain ⟨hb0, AT, cT, g, vs, hT, ho, hVs, hg0, hg2, hK1, hK2, hlt, hLl⟩ := ht
    rw [all_nat (fun x hx => Nat.lt_of_lt_of_le (hlt x hx) hK2)] at hbad
    cases hbad
theorem new_good (k : Int) (A : Option Addr) (c n a : Nat) (L B : List Nat) (w : World) (hr : RowOf iV w A (cI B)) (hn : n = B.length) (hl : n ≤ 131072) (hb : IsBw L B a) : Rt Try.prog 40 [.int .i64 k, .slice A n c] w fun v w' => ((chkW k (cI L) ≠ 0 ∧ v = .tuple #[.pointer none, .int .i64 (chkW k (cI L))]) ∨ (chkW k (cI L) = 0 ∧ ∃ K tb : Nat, k = (K : Nat) ∧ K ≤ 512 ∧ v = .tuple #[.pointer (some ⟨tb, 0, none⟩), .int .i64 0] ∧ TreeAt w' w.heap.size tb K B)) ∧ From w w' := by
  refine (new_w k A c n (cI B) w hr (by rw [List.length_map]; exact hn) (by rw [List.length_map]; omega) (rowB hr)).mono fun v w' h => ?_
  obtain ⟨h, hF⟩ := h
  refine ⟨?_, hF⟩
  rw [chk_bw hb] at h
  rcases h with h | ⟨K, L2, tb, rfl, e, rfl, ht⟩
  · exact .inl h
  · obtain rfl := cI_inj e
    have ht2 := ht
    obtain ⟨hb0, AT, cT, g, vs, hT, ho, hVs, hg0, hg2, hK1, hK2, hlt, hLl⟩ := ht2
    refine .inr ⟨?_, K, tb, rfl, hK2, rfl, ht⟩
    rw [← chk_bw hb]
    unfold chkW
    rw [if_neg (by omega), if_neg, if_neg (by rw [List.length_map]; omega)]
    rw [List.any_eq_true]
    rintro ⟨x, hx, hbs⟩
    obtain ⟨y, hy, rfl⟩ := List.mem_map.1 hx
    have := hlt y hy
    unfold badSym at hbs
    have := of_decide_eq_true hbs
    omega
theorem sort_nat (A : Option Addr) (c n : Nat) (L : List Nat) (w : World) (hr : RowOf iV w A (cI L)) (hn : n = L.length) (hl : n ≤ 131072) (hlt : ∀ x ∈ L, x < 512) : Rt Try.prog 41 [.slice A n c] w fun v w' => (∃ F A', IsSA L F ∧ v = .tuple #[.slice A' n n, .int .i64 0] ∧ RowOf iV w' A' (cI F)) ∧ From w w' := by
  refine (sort_rt A c n (cI L) w hr (hn.trans (by rw [List.length_map])) hl).mono fun v w' h => ?_
  obtain ⟨h, hF⟩ := h
  refine ⟨?_, hF⟩
  rcases h with ⟨a, _⟩ | ⟨L2, F2, A', a1, _, a3, rfl, ho⟩
  · rw [cI, all_nat hlt] at a; cases a
  · obtain rfl := cI_inj a1
    exact ⟨F2, A', a3, rfl, (sortA_own ho).2⟩
/-- what Build tells -/
def BuildA (w' : World) (base : Nat) (k : Int) (xs : List Int) (v : Value) : Prop :=
  (chkW k xs ≠ 0 ∧ v = .tuple #[.pointer none, .int .i64 (chkW k xs)]) ∨
  (chkW k xs = 0 ∧ ∃ (K b a : Nat) (L B F : List Nat), k = (K : Nat) ∧ xs = cI L ∧ (∀ x ∈ L, x < 512) ∧ FmAt w' base b K a L B F ∧ v = .tuple #[.pointer (some ⟨b, 0, none⟩), .int .i64 0])
theorem store0 (W0 : World) (b tb a n : Nat) (L F : List Nat) (w : World) (hn : n = L.length) (hS : IsSA L F) (hl : L.length ≤ 131072) (h : StAt w W0 b tb 0 a L F) : Rt Try.prog 42 [.pointer (some ⟨b, 0, none⟩), .int .i64 0, .int .i64 (n : Nat)] w fun _ w' => StAt w' W0 b tb 1 a L F := by
  subst hn
  exact store_rt W0 b tb a 0 L F w hS (Nat.zero_le _) hl h
theorem store1 (W0 : World) (b tb a k : Nat) (L F : List Nat) (w : World) (hk : k < L.length) (hS : IsSA L F) (hl : L.length ≤ 131072) (h : StAt w W0 b tb (k + 1) a L F) : Rt Try.prog 42 [.pointer (some ⟨b, 0, none⟩), .int .i64 ((k + 1 : Nat) : Int), .int .i64 ((F.getD k 0 : Nat) : Int)] w fun _ w' => StAt w' W0 b tb (k + 1 + 1) a L F := by
  have := store_rt W0 b tb a (k + 1) L F w hS hk hl h
  rw [rowS_succ] at this
  exact this
set_option maxHeartbeats 3000000 in
theorem build_rt (k : Int) (A : Option Addr) (c n : Nat) (xs : List Int) (w : World) (hr : RowOf iV w A xs) (hn : n = xs.length) (hl : n ≤ 131072) :
    Rt Try.prog 24 [.int .i64 k, .slice A n c] w (fun v w' => BuildA w' w.heap.size k xs v ∧ From w w') := by
  refine enter (n := 73) Try.func24 rfl rfl rfl ?_
  refine cd_seq (cd_region ?_)
  refine asp rfl ?_
  refine asi rfl ?_
  refine st_nil (nx_then (cd_seq (cd_region ?_)))
  refine mvs rfl ?_
  refine st_call FmMake_k39 (make_rt A c n xs _ (hr.from_ From.rfl_) hn hl) ?_
  rintro v16 w1 ⟨hs16, E16⟩
  rcases hs16 with ⟨hbad, rfl⟩ | ⟨Ln, Bs, a, A', c', hLn, hlt, hbw, rfl, ho16⟩
  · refine mvt rfl ?_
    refine st_val (ro_extract rfl rfl) ?_
    refine st_val (ro_extract rfl rfl) ?_
    refine st_val (ro_extract rfl rfl) ?_
    refine ass rfl ?_
    refine asi rfl ?_
    refine asi rfl ?_
    refine st_nil (nx_then (cd_seq (cd_seq (cd_region ?_))))
    refine mvi rfl ?_
    refine st_val (ro_neq rfl rfl) ?_
    refine st_nil (nx_then ?_)
    refine cd_cond rfl (fun Q2 => ?_) (fun Q2 => ?_)
    rotate_left
    · with_reducible replace Q2 := bx_f Q2
      exfalso; omega
    with_reducible replace Q2 := bx_t Q2
    refine cd_seq (cd_region ?_)
    refine mvi rfl ?_
    refine mvs rfl ?_
    refine st_call FmMake_k40 (new_bad k A c n xs _ (hr.from_ (From.rfl_.next E16)) hn hl hbad) ?_
    rintro v25 w22 ⟨⟨hck, rfl⟩, E25⟩
    refine mvt rfl ?_
    refine st_val (ro_extract rfl rfl) ?_
    refine st_val (ro_extract rfl rfl) ?_
    refine asi rfl ?_
    refine st_nil (nx_then (cd_seq (cd_region ?_)))
    refine mvi rfl ?_
    refine asp rfl ?_
    refine asi rfl ?_
    refine st_nil (nx_then (cd_ret (rt_then ?_)))
    refine res2 (v := .pointer _) (v' := .int _ _) rfl rfl rfl ?_
    exact ⟨.inl ⟨hck, rfl⟩, ((From.rfl_.next E16).next E25)⟩
  have hLl : Ln.length = n := by rw [hn, hLn, List.length_map]
  have hBl := hbw.len
  refine mvt rfl ?_
  refine st_val (ro_extract rfl rfl) ?_
  refine st_val (ro_extract rfl rfl) ?_
  refine st_val (ro_extract rfl rfl) ?_
  refine ass rfl ?_
  refine asi rfl ?_
  refine asi rfl ?_
  refine st_nil (nx_then (cd_seq (cd_seq (cd_region ?_))))
  refine mvi rfl ?_
  refine st_val (ro_neq rfl rfl) ?_
  refine st_nil (nx_then ?_)
  refine cd_cond rfl (fun Q23 => ?_) (fun Q23 => ?_)
  · with_reducible replace Q23 := bx_t Q23
    exfalso; omega
  with_reducible replace Q23 := bx_f Q23
  refine cd_skip (nx_then (cd_seq (cd_region ?_)))
  refine mvi rfl ?_
  refine mvs rfl ?_
  refine st_call FmMake_k40 (new_good k A' c' Bs.length a Ln Bs _ (RowOf.own ho16).2 rfl (by omega) hbw) ?_
  rintro v32 w25 ⟨hs32, E32⟩
  rcases hs32 with ⟨hck, rfl⟩ | ⟨hck, K, tb, rfl, hK, rfl, hT⟩
  · refine mvt rfl ?_
    refine st_val (ro_extract rfl rfl) ?_
    refine st_val (ro_extract rfl rfl) ?_
    refine asp rfl ?_
    refine asi rfl ?_
    refine st_nil (nx_then (cd_seq (cd_seq (cd_region ?_))))
    refine mvi rfl ?_
    refine st_val (ro_neq rfl rfl) ?_
    refine st_nil (nx_then ?_)
    refine cd_cond rfl (fun Q26 => ?_) (fun Q26 => ?_)
    rotate_left
    · with_reducible replace Q26 := bx_f Q26
      exfalso; omega
    with_reducible replace Q26 := bx_t Q26
    refine cd_seq (cd_region ?_)
    refine mvi rfl ?_
    refine asp rfl ?_
    refine asi rfl ?_
    refine st_nil (nx_then (cd_ret (rt_then ?_)))
    refine res2 (v := .pointer _) (v' := .int _ _) rfl rfl rfl ?_
    exact ⟨.inl ⟨by rw [hLn]; exact hck, by rw [hLn]⟩, ((From.rfl_.next E16).next E32)⟩
  refine mvt rfl ?_
  refine st_val (ro_extract rfl rfl) ?_
  refine st_val (ro_extract rfl rfl) ?_
  refine asp rfl ?_
  refine asi rfl ?_
  refine st_nil (nx_then (cd_seq (cd_seq (cd_region ?_))))
  refine mvi rfl ?_
  refine st_val (ro_neq rfl rfl) ?_
  refine st_nil (nx_then ?_)
  refine cd_cond rfl (fun Q35 => ?_) (fun Q35 => ?_)
  · with_reducible replace Q35 := bx_t Q35
    exfalso; omega
  with_reducible replace Q35 := bx_f Q35
  refine cd_skip (nx_then (cd_seq (cd_region ?_)))
  refine mvs rfl ?_
  refine st_call FmMake_k41 (sort_nat A c n Ln _ (by rw [← hLn]; exact hr.from_ ((From.rfl_.next E16).next E32)) (by omega) hl hlt) ?_
  rintro v40 w36 ⟨⟨F, A40, hSA, rfl, hrF⟩, E40⟩
  have hBz : From w w36 := (((From.rfl_.next E16).next E32).next E40)
  have hT40 := hT.from_ E40
  have hFl := hSA.len
  refine mvt rfl ?_
  refine st_val (ro_extract rfl rfl) ?_
  refine st_val (ro_extract rfl rfl) ?_
  refine ass rfl ?_
  refine asi rfl ?_
  refine st_nil (nx_then (cd_seq (cd_seq (cd_region ?_))))
  refine mvi rfl ?_
  refine st_val (ro_neq rfl rfl) ?_
  refine st_nil (nx_then ?_)
  refine cd_cond rfl (fun Q37 => ?_) (fun Q37 => ?_)
  · with_reducible replace Q37 := bx_t Q37
    exfalso; omega
  with_reducible replace Q37 := bx_f Q37
  refine cd_skip (nx_then (cd_seq (cd_region ?_)))
  refine mvp rfl ?_
  refine mvi rfl ?_
  refine mvs rfl ?_
  refine st_val (ro_len FmMake_l22 rfl) ?_
  refine st_val (ro_quoN (b := 8) rfl rfl (by omega)) ?_
  refine st_val (ro_addN (b := 1) rfl rfl (by omega)) ?_
  refine st_make FmMake_m54 rfl rfl rfl (by omega) (by omega) ?_
  intro b52 w38 E52 hb52 hk52
  refine st_val (ro_build (l := [(0, .tmp 46), (1, .tmp 47), (3, .tmp 52)]) (FmMake_b56_0_1_3 _ _ _ _ _)) ?_
  refine st_box (v := .agg _) rfl ?_
  intro b54 w39 E54 hb54 hk54
  have hz52 : (w36).heap.size ≤ b52 := by rw [hb52]; exact Nat.le_refl _
  have hz54 : (w36).heap.size ≤ b54 := by rw [hb54]; exact E52.size
  have hSt : StAt w39 w36 b54 tb 0 a Ln F := ⟨((From.rfl_.next E52).next E54), hz54, none, 0, b52, hz52, by rw [hLl]; exact hk54, World.ownsRow_nil _ _ _ _, by rw [hLl, tabJ_congr (g := fun _ => 0) (fun j _ => by rw [rwJ_zero]; rfl), ← tabJ_zero]; exact hk52.from_ E54⟩
  refine asp rfl ?_
  refine st_nil (nx_then (cd_seq (cd_region ?_)))
  refine mvp rfl ?_
  refine mvs rfl ?_
  refine st_val (ro_len FmMake_l22 rfl) ?_
  refine st_call FmMake_k42 (store0 w36 b54 tb a n Ln F _ (by omega) hSA (by omega) hSt) ?_
  rintro v58 w40 hSt
  refine st_nil (nx_then (cd_seq (cd_seq (cd_region ?_))))
  refine mvs rfl ?_
  refine st_val (ro_len FmMake_l22 rfl) ?_
  refine mvi rfl ?_
  refine st_nil (nx_then (cd_block ?_))
  refine cd_loop (G := Nat) [12, 13, 62, 63, 64, 65, 66, 67, 68, 69, 70, 71] (fun q => [(61, .int .i64 (q : Nat))]) (fun q w' => q ≤ n ∧ StAt w' w36 b54 tb (q + 1) a Ln F) (fun q => n - q) (0) ⟨rfl, trivial⟩ ?_ ?_
  · exact ⟨Nat.zero_le _, hSt⟩
  rintro q ρ41 w41 ⟨hq, hSt⟩
  refine cd_seq (cd_region ?_)
  refine st_val (ro_lss rfl rfl) ?_
  refine st_nil (nx_then (cd_seq ?_))
  refine cd_cond rfl (fun Q42 => ?_) (fun Q42 => ?_)
  · with_reducible replace Q42 := of_decide_eq_true Q42
    obtain ⟨bF, oF, rfl, hcF⟩ := rowD hrF (by omega)
    refine cd_skip (nx_then (cd_seq (cd_block (cd_seq (cd_region ?_)))))
    refine mvi rfl ?_
    refine st_val (ro_indexAddr1 FmMake_e22 rfl rfl (by omega)) ?_
    refine st_val (ro_load FmMake_g3 rfl (by exact cellF hSt.1 (hcF q (by omega)))) ?_
    refine asi rfl ?_
    refine asi rfl ?_
    refine st_nil (nx_then (cd_region ?_))
    refine mvp rfl ?_
    refine mvi rfl ?_
    refine st_val (ro_addN (b := 1) rfl rfl (by omega)) ?_
    refine mvi rfl ?_
    refine st_call FmMake_k42 (store1 w36 b54 tb a q Ln F _ (by omega) hSA (by omega) hSt) ?_
    rintro v70 w43 hSt
    refine st_nil (nx_block (nx_then (cd_region ?_)))
    refine st_val (ro_add64 rfl rfl (by omega)) ?_
    refine mvi rfl ?_
    refine st_nil ?_
    refine nx_cut (q + 1) ⟨(by first | rfl | (refine int_eq ?_; omega)), trivial⟩ (by (iterate 26 refine agr_cons rfl ?_); exact agr_rfl) ⟨?_, ?_⟩
    · exact ⟨by omega, hSt⟩
    · show n - (q + 1) < n - q; omega
  with_reducible replace Q42 := of_decide_eq_false Q42
  refine cd_exit ?_
  refine ex_then (ex_then (ex_block (nx_then (cd_seq (cd_region ?_)))))
  refine mvp rfl ?_
  refine asp rfl ?_
  refine asi rfl ?_
  refine st_nil (nx_then (cd_ret ?_))
  refine res2 (v := .pointer _) (v' := .int _ _) rfl rfl rfl ?_
  obtain rfl : q = n := by omega
  have hSt9 := hSt
  obtain ⟨hF1, hb0, AS, cs, gr, hg0, hI, ho, hJ⟩ := hSt9
  have hz := hBz.size
  refine ⟨.inr ⟨by rw [hLn]; exact hck, K, b54, a, Ln, Bs, F, rfl, hLn, hlt, ⟨Nat.le_trans hz hb0, hSA, hbw, by omega, hK, tb, AS, cs, gr, by rw [hLl]; rw [hLl] at hI; exact hI, (hT40.from_ hF1).le (by exact E16.size), own_le (by rw [hLl]; exact ho) hz, ?_, Nat.le_trans hz hg0⟩, rfl⟩, (hBz.next hSt.1)⟩
  rw [tabJ_congr (g := fun j => ((rwJ Ln (Ln.length + 1) j : Nat) : Int)) (fun j hj => by rw [rwJ_all hj]), hLl]
  rw [hLl] at hJ
  exact hJ
end Go.Proofs.Ytepdgbglaiimaaa

namespace Go.Proofs.Ytepdgbglaiimaaa
open Go.RowKit

abbrev Gh := Nat → Nat
def updG (g : Gh) (i h : Nat) : Gh := fun j => bif Nat.beq j i then h else g j
abbrev GT := List (Nat × Nat × (Gh → Value))
abbrev tabG (T : GT) (g : Gh) : List (Nat × Nat × Value) := T.map fun p => (p.1, p.2.1, p.2.2 g)
abbrev MT := List (Nat × TypeId × Array Value)
/-- the blocks that have been made -/
structure MemG (w0 : World) (MK : MT) (S : Nat → Bool) (g : Gh) (w' : World) : Prop where
  from_ : From w0 w'
  blk : ∀ p ∈ MK, S p.1 = true → Blk w' (g p.1) p.2.1 p.2.2
  ge : ∀ p ∈ MK, S p.1 = true → w0.heap.size ≤ g p.1
  ne : ∀ p ∈ MK, ∀ q ∈ MK, p.1 ≠ q.1 → S p.1 = true → S q.1 = true → g p.1 ≠ g q.1
def IndG (S : Nat → Bool) (g g' : Gh) : GT → Prop
  | [] => True
  | p :: r => (S p.1 = true → p.2.2 g' = p.2.2 g) ∧ IndG S g g' r
section
variable {P : Program} {Q : Exit → Act → World → Prop} {n : Fr} {L L' M : List (Nat × Value)} {w w' w'' w0 : World} {l : List Oper} {T : GT} {MK : MT} {S : Nat → Bool} {op : Op} {ty : TypeId} {pos : String} {after : Array Edge} {i d : Nat} {f : Gh → Value} {g : Gh}
abbrev StepG (P : Program) (n : Fr) (L : List (Nat × Value)) (T : GT) (MK : MT) (w0 : World) (S : Nat → Bool) (i : Nat) (o : Oper) (L' : List (Nat × Value)) (w' : World) : Prop := StepI P n o (fun L2 w2 => ∃ g, InvL L (tabG T g) (setB S i) L2 ∧ MemG w0 MK (setB S i) g w2) L' w'
def StepsG (P : Program) (n : Fr) (L : List (Nat × Value)) (T : GT) (MK : MT) (w0 : World) (l : List Oper) : Nat → List Oper → Prop
  | _, [] => True
  | i, o :: r => (∀ S L' w' g, UniP (T.map fun p => (p.1, p.2.1)) → UniP (MK.map fun p => (p.1, p.1)) → InvL L (tabG T g) S L' → MemG w0 MK S g w' → ClosedI l S → S i = false → EdgesOn S o.after.toList → StepG P n L T MK w0 S i o L' w') ∧ StepsG P n L T MK w0 l (i + 1) r
end
end Go.Proofs.Ytepdgbglaiimaaa

namespace Go.Proofs.Ytepdgbglaiimaaa
open Go.RowKit Go.Shelf
/-- an iterator that yields N pairs, if it isn't told to stop -/
structure IterOS (P : Program) (gf : Nat) (lb : Array Value) (u v : Nat → Value) (N : Nat) (Rd : World → Prop) : Prop where
  out : ∀ (l : Nat) (J : Nat → World → Prop) (JS : World → Prop) (W : World), (∀ k W', J k W' → Rd W') → (∀ k W1, k < N → J k W1 → YieldAt Fence.wide 0 P l #[u k, v k] W1 fun e W' => (e = .returned (.bool true) ∧ J (k + 1) W') ∨ (e = .returned (.bool false) ∧ JS W')) → J 0 W →
    CallsIn Fence.wide 1 P gf (#[.func (.yield l) #[] #[]] ++ lb) W fun e W' => (∃ v, e = .returned v) ∧ (J N W' ∨ JS W')
/-- a round goes on, or ends the function -/
def RPostS (K S : World → Prop) : Exit → Act → World → Prop
  | .normal, _, w => K w
  | .ret, _, w => S w
  | _, _, _ => False
theorem cd_range2R {P : Program} {Q : Exit → Act → World → Prop} {n : Fr} {L : List (Nat × Value)} {w : World} {g : Operand} {p1 p2 : Nat} {assign body : Code} {gf : Nat} {lb : Array Value} {u v : Nat → Value} {N : Nat} {Rd : World → Prop}
    (hg : ev n L g = .func (.func gf) #[] lb) (he : ∀ args w, (callFunc gf args).run P w = .ok (.enter gf args) w) (hit : IterOS P gf lb u v N Rd) (I : Nat → World → Prop) (S : World → Prop) (LB : Nat → List (Nat × Value)) (hRd : ∀ k W, I k W → Rd W)
    (hF : ∀ k W W', I k W → From W W' → I k W') (hO : ∀ k W W' q o, W.heap[q]? = some o → o.isCells = false → Only q W W' → w.heap.size ≤ q → I k W → I k W') (hSO : ∀ W W' q o, W.heap[q]? = some o → o.isCells = false → Only q W W' → w.heap.size ≤ q → S W → S W') (h0 : I 0 w)
    (ha : ∀ (l k : Nat) (W : World) (K : Act → World → Prop), K (mkA ⟨n.n, []⟩ (LB k)) W → CdR l P assign (Exit.then K fun _ _ _ => False) ⟨n.n, []⟩ ((p2, v k) :: (p1, u k) :: L) W)
    (hb : ∀ (l k : Nat) (W : World), k < N → I k W → CdR l P body (RPostS (fun W' => I (k + 1) W' ∧ Keeps W W') fun W' => S W' ∧ Keeps W W') ⟨n.n, []⟩ (LB k) W)
    (hd : ∀ (D : Nat) (W : World), w.heap.size ≤ D → I N W → W.heap[D]? = some (.deferred (some [])) → Q .normal (mkA ⟨n.n, { target := .collected D, args := #[] } :: n.ds⟩ L) W)
    (hs : ∀ (D : Nat) (W : World), w.heap.size ≤ D → S W → W.heap[D]? = some (.deferred (some [])) → Q .ret (mkA ⟨n.n, { target := .collected D, args := #[] } :: n.ds⟩ L) W) :
    Cd P (.rangeFunc g #[p1, p2] assign body) Q n L w := by
  refine ⟨(wpIn_wide (n := 2)).1 (wpIn_rangeFunc fun fn _ => ?_)⟩
  obtain ⟨rec, hrec⟩ : ∃ rec : LoopState → Option Code → Loop, rec = fun st pe => { state := st, pending := pe, fn, tmps := mkT n.n L, params := #[p1, p2], assign, body, defers := w.heap.size } := ⟨_, rfl⟩
  obtain ⟨D, hD⟩ : ∃ D, D = w.heap.size := ⟨_, rfl⟩
  obtain ⟨W1, hW1⟩ : ∃ W1, (w.alloc (.deferred (some []))).alloc (.loop (rec .ready none)) = W1 := ⟨_, rfl⟩
  have hL1 : W1.heap[D + 1]? = some (.loop (rec .ready none)) := by
    rw [← hW1, hD]
    have := World.alloc_heap_new (w.alloc (.deferred (some []))) (.loop (rec .ready none))
    rwa [World.size_alloc] at this
  have hK1 : W1.heap[D]? = some (.deferred (some [])) := by
    rw [← hW1, hD]
    exact (Below.heap_alloc _ _ _ (by simp)).trans (World.alloc_heap_new w _)
  have hI1 : I 0 W1 := hF 0 w W1 h0 (by rw [← hW1]; exact (From.rfl_.new _).next (From.rfl_.new _))
  refine ⟨D + 1, [{ target := .collected D, args := #[] }], W1, { target := .fn (.func gf) lb, args := #[.func (.yield (D + 1)) #[] #[]] }, W1, gf, #[.func (.yield (D + 1)) #[] #[]] ++ lb, W1, ?_, ?_, fun _ _ => trivial, ?_, (fun h => by cases h), ?_⟩
  · rw [← hW1, hrec, hD]
    exact run_enterLoop_outer _ _ _ _ _
  · simp only [resolve, eval_mkA, hg]
    simp [go_sem, ev]
  · simp [invoke, go_sem, he]
  · refine (hit.out (D + 1) (fun k W => I k W ∧ W.heap[D + 1]? = some (.loop (rec .ready none)) ∧ W.heap[D]? = some (.deferred (some []))) (fun W => S W ∧ W.heap[D + 1]? = some (.loop (rec .done (some .ret))) ∧ W.heap[D]? = some (.deferred (some []))) W1 (fun k W' h => hRd k W' h.1) ?_ ⟨hI1, hL1, hK1⟩).mono ?_
    · rintro k W hk ⟨hi, hl, hdf⟩
      have hlt : D + 1 < W.heap.size := (Array.getElem?_eq_some_iff.1 hl).1
      have hy := run_yield (P := P) (args := #[u k, v k]) hl (by rw [hrec]; rfl)
      rw [hrec] at hy
      refine ⟨fn, _, assign, body, hy, roundIn_of_wpIn trivial ?_⟩
      obtain ⟨W2, hW2⟩ : ∃ W2, W.putObj (D + 1) (.loop { rec .ready none with state := .busy }) = W2 := ⟨_, rfl⟩
      have hO2 : Only (D + 1) W W2 := by rw [← hW2]; exact only_putObj
      have hl2 : W2.heap[D + 1]? = some (.loop { rec .ready none with state := .busy }) := by rw [← hW2]; exact World.putObj_heap_same hlt
      have hd2 : W2.heap[D]? = some (.deferred (some [])) := by rw [hO2.block D (by omega)]; exact hdf
      have hi2 : I k W2 := hO k W W2 (D + 1) _ hl rfl hO2 (by omega) hi
      have key := (ha (D + 1) k W (fun a₁ w₁ => ∃ w₂, (Instr.beginRound (D + 1)).run P w₁ = .ok () w₂ ∧ body.wpIn (Fence.wide.inRound (D + 1)) 0 P (roundPost P (D + 1) fun e W' => (e = .returned (.bool true) ∧ I (k + 1) W' ∧ W'.heap[D + 1]? = some (.loop (rec .ready none)) ∧ W'.heap[D]? = some (.deferred (some []))) ∨ (e = .returned (.bool false) ∧ S W' ∧ W'.heap[D + 1]? = some (.loop (rec .done (some .ret))) ∧ W'.heap[D]? = some (.deferred (some [])))) a₁ w₂) ⟨W2, ?_, ?_⟩).out
      · have e : ({ tmps := (Array.foldl (fun tmps (x : Tmp × Value) => tmps.setIfInBounds x.1 x.2) (mkT n.n L) (#[p1, p2].zip #[u k, v k])), defers := [] } : Act) = mkA ⟨n.n, []⟩ ((p2, v k) :: (p1, u k) :: L) := by
          have e1 := put_mkA ⟨n.n, []⟩ L p1 (u k)
          have e2 := put_mkA ⟨n.n, []⟩ ((p1, u k) :: L) p2 (v k)
          rw [← e2, ← e1]
          simp [mkA, Act.put]
        rw [← e] at key
        exact key
      · rw [← hW2]
        exact run_beginRound hl (by rw [hrec])
      · refine wpIn_mono (hb (D + 1) k W2 hk hi2).out fun e a3 W3 hp => ?_
        cases e <;> first | exact hp.elim | skip
        · obtain ⟨hi3, hk3⟩ := hp
          have hl3 := hk3 _ _ hl2 rfl
          have hd3 := hk3 _ _ hd2 rfl
          have hlt3 := (Array.getElem?_eq_some_iff.1 hl3).1
          have hr := run_endRound (P := P) none hl3
          refine ⟨_, _, hr, .inl ⟨rfl, hO _ W3 _ (D + 1) _ hl3 rfl only_putObj (by omega) hi3, ?_, ?_⟩⟩
          · rw [World.putObj_heap_same hlt3, hrec]
            rfl
          · rw [World.putObj_heap_other (by omega)]
            exact hd3
        · obtain ⟨hi3, hk3⟩ := hp
          have hl3 := hk3 _ _ hl2 rfl
          have hd3 := hk3 _ _ hd2 rfl
          have hlt3 := (Array.getElem?_eq_some_iff.1 hl3).1
          have hr := run_endRound (P := P) (some .ret) hl3
          refine ⟨_, _, hr, .inr ⟨rfl, hSO W3 _ (D + 1) _ hl3 rfl only_putObj (by omega) hi3, ?_, ?_⟩⟩
          · rw [World.putObj_heap_same hlt3, hrec]
            rfl
          · rw [World.putObj_heap_other (by omega)]
            exact hd3
    · rintro e W2 ⟨⟨x, rfl⟩, (⟨hi, hl, hdf⟩ | ⟨hi, hl, hdf⟩)⟩
      · refine ⟨none, _, by have := run_endLoop (P := P) hl (by rw [hrec]; simp); rw [hrec] at this; exact this, ?_⟩
        exact hd D _ (by omega) (hO _ W2 _ (D + 1) _ hl rfl only_putObj (by omega) hi) ((World.putObj_heap_other (by omega)).trans hdf)
      · refine ⟨some .ret, _, by have := run_endLoop (P := P) hl (by rw [hrec]; simp); rw [hrec] at this; exact this, wpIn_ret ?_⟩
        exact hs D _ (by omega) (hSO W2 _ (D + 1) _ hl rfl only_putObj (by omega) hi) ((World.putObj_heap_other (by omega)).trans hdf)
end Go.Proofs.Ytepdgbglaiimaaa

namespace Go.Proofs.Ytepdgbglaiimaaa
open Go.RowKit Go.Shelf
attribute [local go_sem] Oper.semAt_some

def BackRdI (Bs b o m c : Nat) (f : Nat → Int) (W : World) : Prop := W.cell? ⟨Bs, 0, none⟩ = some (.slice (some ⟨b, o, none⟩) m c) ∧ ∀ j, j < m → W.cell? ⟨b, o + j, none⟩ = some (.int .i64 (f j))
set_option maxHeartbeats 4000000 in
theorem back_iterI (Bs b o m c : Nat) (f : Nat → Int) (hm : m ≤ 1000000) :
    IterOS Try.prog 43 #[.pointer (some ⟨Bs, 0, none⟩)] (fun k => .int .i64 ((m - 1 - k : Nat) : Int)) (fun k => .int .i64 (f (m - 1 - k))) m (BackRdI Bs b o m c f) := by
  refine ⟨fun l J JS W hRd hY h0 => ?_⟩
  refine callsIn_of_wp Try.func43 rfl trivial ?_ rfl
  simp only [Try.ntmps43, List.size_toArray, List.length_cons, List.length_nil, Nat.reduceAdd, Nat.reduceSub, Array.replicate_succ, Array.replicate_zero, List.push_toArray, List.append_toArray, List.nil_append, List.cons_append]
  have hBs := (hRd 0 W h0).1
  gi_wp2
  gi_loopw [3] (fun i wr => ∃ k : Nat, k ≤ m ∧ i = .int .i64 ((m : Int) - 1 - k) ∧ J k wr) (fun i _ => (intOf i + 1).toNat)
  case atStart => exact ⟨0, Nat.zero_le _, by simp, h0⟩
  case round =>
    obtain ⟨k, hk, rfl, hJ⟩ := hrel
    by_cases hlt : k < m
    · obtain ⟨i, e1, e2, him⟩ : ∃ i : Nat, ((m : Int) - 1 - k) = (i : Int) ∧ m - 1 - k = i ∧ i < m := ⟨m - 1 - k, by omega, rfl, by omega⟩
      have hy := hY k wr hlt hJ
      simp only [e2] at hy
      obtain ⟨fn, tmps, assign, body, hy, hR⟩ := hy
      have hBk := (hRd k wr hJ).1
      have hck := (hRd k wr hJ).2 i him
      clear e2
      rw [e1]
      gi_wp2
      refine hR.mono ?_
      rintro e W3 (⟨rfl, hJ3⟩ | ⟨rfl, hS3⟩)
      · gi_wp2
        go_roundw
        case rel => exact ⟨k + 1, by omega, by congr 1; omega, hJ3⟩
        case measure => simp [intOf]
      · gi_wp2
        refine ⟨rfl, _, results_none ?_ _ _ _, ⟨_, rfl⟩, .inr hS3⟩
        rfl
    · obtain rfl : k = m := by omega
      have e1 : ((k : Int) - 1 - k) = -1 := by omega
      rw [e1]
      gi_wp2
      go_end0
      exact ⟨⟨_, rfl⟩, .inl hJ⟩
end Go.Proofs.Ytepdgbglaiimaaa

namespace Go.Proofs.Ytepdgbglaiimaaa
open Go.RowKit
section
variable {l : Nat} {P : Program} {Q : Exit → Act → World → Prop} {n : Fr} {L : List (Nat × Value)} {w : World}
theorem cr_cond {c : Operand} {x y : Code} {t : Bool} (hc : ev n L c = .bool t) (ht : t = true → CdR l P x Q n L w) (hf : t = false → CdR l P y Q n L w) : CdR l P (.cond c x y) Q n L w :=
  ⟨wpIn_cond_split (by rw [eval_mkA]; exact hc) (fun h => (ht h).out) (fun h => (hf h).out)⟩
theorem cr_skip (h : Q .normal (mkA n L) w) : CdR l P .skip Q n L w := ⟨wpIn_skip h⟩
theorem pq_rpostS {K S : World → Prop} : PQ (RPostS K S) := ⟨fun _ _ _ _ _ h => h⟩
theorem cr_drawnD {r : List Oper} {id : Nat} (K : Nat) (RL : List (Nat × (Value → World → Prop))) (hQ : PQ Q) (hm : P.follows .mixedOrders = true) (hc : monoD r K = true) (hmono : MonoR RL) (hd : noDef r = true) (hL : ¬ LetsOut Q)
    (hop : OpsOK8 P r.toArray n L (From w) (lookR RL) (lookR RL) r K r.length 0 (r.take K)) (hend : ∀ w', From w w' → AllF (lookR RL) w' (preOf r K) fun M => St P r.toArray Q (r.drop K) n (M ++ L) w') : CdR l P (.region id r.toArray true) Q n L w := by
  have hKl : K ≤ r.length := of_decide_eq_true (Bool.and_eq_true_iff.1 (Bool.and_eq_true_iff.1 hc).1).1
  have := mono_mu (Q := Q) (mu := r.length) (I1 := From w) (I2 := From w) (R1 := lookR RL) hQ hc (fun _ _ hF h => h.next hF) (fun _ _ hF h => h.next hF) (lookR_mono hmono) (lookR_mono hmono) hop (fun _ _ _ h => h) (fun h => absurd h (by omega)) (by simp [MuAt]) hend r.length (Array.replicate r.length false) L { w with drawn := w.drawn + 1 } (closed_none r _) (by simp) (by simp)
    (fun j _ hj => by simp [Array.getD, hj]) From.rfl_.d1 (fun _ => From.rfl_.d1) (fun _ _ => rfl) (fun i o d hi _ hl => by
      have : i < r.length := by omega
      simp [Array.getD, this] at hl) (fun _ i o d hi _ hl => by
      have : i < r.length := by omega
      simp [Array.getD, this] at hl)
  exact ⟨wpIn_region_any hm (any_in (by simpa using hd) hL _ _ _ _ (by simpa using this))⟩
theorem cr_ret (h : Q .ret (mkA n L) w) : CdR l P .ret Q n L w := ⟨wpIn_ret h⟩
end
section
variable {P : Program} {fn : Func} {m D : Nat} {L : List (Nat × Value)} {w : World} {r r' r'' : ResultVar} {R : Value → World → Prop} {v v' v'' : Value}
theorem res3_run (hr : fn.results = #[r, r', r'']) (h1 : RV P ⟨m, []⟩ L w r v) (h2 : RV P ⟨m, []⟩ L w r' v') (h3 : RV P ⟨m, []⟩ L w r'' v'') : (results fn (mkT m L)).run P w = .ok (.tuple #[v, v', v'']) w := by
  have e1 := h1.out
  have e2 := h2.out
  have e3 := h3.out
  cases r <;> cases r' <;> cases r'' <;> simp_all only [] <;> (try obtain ⟨_, _, _⟩ := e1) <;> (try obtain ⟨_, _, _⟩ := e2) <;> (try obtain ⟨_, _, _⟩ := e3) <;> simp_all [results, asAddr]
/-- ahead of the loop -/
theorem retM0 (hr : fn.results = #[r, r', r'']) (h1 : RV P ⟨m, []⟩ L w r v) (h2 : RV P ⟨m, []⟩ L w r' v') (h3 : RV P ⟨m, []⟩ L w r'' v'') (h : R (.tuple #[v, v', v'']) w) :
    bodyM P fn (fun e w' => ∃ v, e = .returned v ∧ R v w') .ret (mkA ⟨m, []⟩ L) w :=
  ⟨_, res3_run hr h1 h2 h3, _, rfl, h⟩
/-- within the loop, and behind it -/
theorem retM1 (hr : fn.results = #[r, r', r'']) (hD : w.heap[D]? = some (.deferred (some []))) (h : ∀ w', Only D w w' → RV P ⟨m, []⟩ L w' r v ∧ RV P ⟨m, []⟩ L w' r' v' ∧ RV P ⟨m, []⟩ L w' r'' v'' ∧ R (.tuple #[v, v', v'']) w') :
    bodyM P fn (fun e w' => ∃ v, e = .returned v ∧ R v w') .ret (mkA ⟨m, [{ target := .collected D, args := #[] }]⟩ L) w := by
  obtain ⟨h1, h2, h3, hR⟩ := h _ only_putObj
  exact ⟨by simp, .inl ⟨D, _, rfl, run_takeDeferred hD, ⟨_, res3_run hr h1 h2 h3, _, rfl, hR⟩⟩⟩
end
end Go.Proofs.Ytepdgbglaiimaaa

namespace Go.Proofs.Ytepdgbglaiimaaa
open Go.RowKit
open Go.ChangeShapes Go.WideShapes Go.ChangeAt
open Go.Proofs.Ytepdgbglaiimaaa.SA
theorem FmRows_e22 : elemQ Try.prog 22 = some (3, 1) := by kernel_rfl
theorem FmRows_g3 : aggQ Try.prog 3 = some false := by kernel_rfl
theorem FmRows_z3 : sizeQ Try.prog 3 = some 1 := by kernel_rfl
theorem FmRows_z34 : sizeQ Try.prog 34 = some 1 := by kernel_rfl
theorem FmRows_o3 : zeroQ Try.prog 3 = some (.int .i64 0) := by kernel_rfl
theorem FmRows_o34 : zeroQ Try.prog 34 = some (.int .i64 0) := by kernel_rfl
theorem FmRows_l22 : (elemQ Try.prog 22).isSome = true := by kernel_rfl
theorem FmRows_g34 : aggQ Try.prog 34 = some false := by kernel_rfl
theorem FmRows_g27 : aggQ Try.prog 27 = some false := by kernel_rfl
theorem FmRows_k30 : callable Try.prog 30 = true := by kernel_rfl
theorem FmRows_f56_0 : fieldQ Try.prog 56 0 = some 0 := by kernel_rfl
theorem FmRows_g52 : aggQ Try.prog 52 = some false := by kernel_rfl
theorem FmRows_k31 : callable Try.prog 31 = true := by kernel_rfl
theorem FmRows_k32 : callable Try.prog 32 = true := by kernel_rfl
theorem FmRows_k33 : callable Try.prog 33 = true := by kernel_rfl
theorem FmRows_k34 : callable Try.prog 34 = true := by kernel_rfl
set_option maxHeartbeats 400000 in
theorem backwardI_rt (A : Option Addr) (m c : Nat) (w : World) :
    Rt Try.prog 33 [.slice A m c] w (fun v w' => (∃ Bs, v = .func (.func 43) #[] #[.pointer (some ⟨Bs, 0, none⟩)] ∧ w.heap.size ≤ Bs ∧ Blk w' Bs 22 #[.slice A m c]) ∧ From w w') := by
  refine enter (n := 4) Try.func33 rfl rfl rfl ?_
  refine cd_seq (cd_region ?_)
  refine st_box (v := .slice _ _ _) rfl ?_
  intro b1 w1 E1 hb1 hk1
  refine st_val (ro_assign (v := _) rfl) ?_
  refine st_nil (nx_then (cd_seq (cd_region ?_)))
  refine st_val (ro_makeFunc (l1 := []) (l2 := [.tmp 1])) ?_
  refine st_val (ro_assign (v := _) rfl) ?_
  refine st_nil (nx_then (cd_ret ?_))
  refine res1 (v := .func _ _ _) rfl rfl ?_
  exact ⟨⟨b1, rfl, Nat.le_of_eq hb1.symm, hk1⟩, (From.rfl_.next E1)⟩
/-- what Rows is to tell -/
def RowsIs (K : Nat) (L : List Nat) (q : List Int) (fr to e : Int) : Prop :=
  (q = [] ∧ fr = 0 ∧ to = 0 ∧ e = 5) ∨ (q ≠ [] ∧ q.all (okS (K : Nat)) = false ∧ fr = 0 ∧ to = 0 ∧ e = 1) ∨
  (∃ p : List Nat, q = cI p ∧ p ≠ [] ∧ (∀ x ∈ p, x < K) ∧ fr = ((rwF L p : Nat) : Int) ∧ to = ((rwT L p : Nat) : Int) ∧ e = 0)
theorem nat_listK {K : Nat} : ∀ {xs : List Int}, xs.all (okS (K : Nat)) = true → ∃ L : List Nat, xs = cI L ∧ ∀ x ∈ L, x < K
  | [], _ => ⟨[], rfl, fun _ h => (by cases h)⟩
  | x :: xs, h => by
    rw [List.all_cons, Bool.and_eq_true] at h
    obtain ⟨L, e, hL⟩ := nat_listK h.2
    obtain ⟨h1, h2⟩ := okS_iff.1 h.1
    refine ⟨x.toNat :: L, ?_, fun y hy => ?_⟩
    · rw [cI, List.map_cons, ← cI, ← e, Int.toNat_of_nonneg h1]
    · rcases List.mem_cons.1 hy with rfl | hy
      · omega
      · exact hL y hy
theorem drop_cons {p : List Nat} {k : Nat} (h : k < p.length) : p.drop (p.length - (k + 1)) = p.getD (p.length - 1 - k) 0 :: p.drop (p.length - k) := by
  rw [List.drop_eq_getElem_cons (show p.length - (k + 1) < p.length by omega), List.getD_eq_getElem?_getD, List.getElem?_eq_getElem (show p.length - 1 - k < p.length by omega)]
  congr 1
  · show _ = p[p.length - 1 - k]
    congr 1
    omega
  · congr 1
    omega
/-- the variables of Rows, behind the symbols q -/
structure RwI (w : World) (b b2 b4 b5 b6 Bs n c : Nat) (A : Option Addr) (fr to : Nat) (W : World) : Prop where
  hF : From w W
  h2 : Blk W b2 27 #[.pointer (some ⟨b, 0, none⟩)]
  h4 : Blk W b4 3 #[.int .i64 (fr : Nat)]
  h5 : Blk W b5 3 #[.int .i64 (to : Nat)]
  h6 : Blk W b6 34 #[.int .i64 0]
  hs : Blk W Bs 22 #[.slice A n c]
section
variable {w W W' : World} {b b2 b4 b5 b6 Bs n c fr to : Nat} {A : Option Addr}
theorem RwI.from_ (h : RwI w b b2 b4 b5 b6 Bs n c A fr to W) (hF : From W W') : RwI w b b2 b4 b5 b6 Bs n c A fr to W' := ⟨h.hF.next hF, h.h2.from_ hF, h.h4.from_ hF, h.h5.from_ hF, h.h6.from_ hF, h.hs.from_ hF⟩
theorem RwI.aside {q : Nat} {o : Obj} (h : RwI w b b2 b4 b5 b6 Bs n c A fr to W) (hq : W.heap[q]? = some o) (ho : o.isCells = false) (hO : Only q W W') (hw : w.heap.size ≤ q) : RwI w b b2 b4 b5 b6 Bs n c A fr to W' :=
  ⟨h.hF.only hO hw, h.h2.only hO (blk_aside h.h2 hq ho), h.h4.only hO (blk_aside h.h4 hq ho), h.h5.only hO (blk_aside h.h5 hq ho), h.h6.only hO (blk_aside h.h6 hq ho), h.hs.only hO (blk_aside h.hs hq ho)⟩
end
set_option maxHeartbeats 4000000 in
theorem fmRows_rt (base b K a : Nat) (L B F : List Nat) (w : World) (hf : FmAt w base b K a L B F) (A : Option Addr) (c n : Nat) (q : List Int) (hr : RowOf iV w A q) (hn : n = q.length) (hl : n ≤ 1000000) :
    Rt Try.prog 13 [.pointer (some ⟨b, 0, none⟩), .slice A n c] w (fun v w' => (∃ fr to e, v = .tuple #[.int .i64 fr, .int .i64 to, .int .i64 e] ∧ RowsIs K L q fr to e) ∧ From w w') := by
  have hff := hf
  obtain ⟨hb0, hSA, hbw, hLn, hK, tb, AS, cs, gr, hX, hT, ho, hR, hgr⟩ := hf
  have hBl := hbw.len
  refine enterM (n := 60) Try.func13 rfl rfl rfl ?_
  refine cd_seq (cd_region ?_)
  refine st_box (v := .pointer _) rfl ?_
  intro b2 w1 E2 hb2 hk2
  refine st_alloc FmRows_o3 ?_
  intro b4 w2 E4 hb4 hk4
  refine st_alloc FmRows_o3 ?_
  intro b5 w3 E5 hb5 hk5
  refine st_alloc FmRows_o34 ?_
  intro b6 w4 E6 hb6 hk6
  have hg2 : w.heap.size ≤ b2 := by rw [hb2]; exact Nat.le_refl _
  have hg4 : w.heap.size ≤ b4 := by rw [hb4]; exact E2.size
  have hg5 : w.heap.size ≤ b5 := by rw [hb5]; exact (E2.next E4).size
  have hg6 : w.heap.size ≤ b6 := by rw [hb6]; exact (E2.next (E4.next E5)).size
  have h24 : b2 < b4 := by rw [hb4]; exact hk2.lt
  have h45 : b4 < b5 := by rw [hb5]; exact hk4.lt
  have h56 : b5 < b6 := by rw [hb6]; exact hk5.lt
  replace hk2 : Blk _ b2 27 #[.pointer (some ⟨b, 0, none⟩)] := hk2
  replace hk4 : Blk _ b4 3 #[.int .i64 0] := hk4
  replace hk5 : Blk _ b5 3 #[.int .i64 0] := hk5
  replace hk6 : Blk _ b6 34 #[.int .i64 0] := hk6
  refine st_nil (nx_then (cd_seq (cd_seq (cd_region ?_))))
  refine mvs rfl ?_
  refine st_val (ro_len FmRows_l22 rfl) ?_
  refine st_val (ro_eql rfl rfl) ?_
  refine st_nil (nx_then ?_)
  refine cd_cond rfl (fun Q5 => ?_) (fun Q5 => ?_)
  · with_reducible replace Q5 := of_decide_eq_true Q5
    refine cd_seq (cd_region ?_)
    refine st_put (v := .int _ _) FmRows_z3 rfl rfl rfl ((hk4.from_ (E5.next E6))) (by simp) ?_
    intro w6 O2a P2a
    refine st_put (v := .int _ _) FmRows_z3 rfl rfl rfl (((hk5.from_ E6).only O2a (by omega))) (by simp) ?_
    intro w7 O2b P2b
    refine st_put (v := .int _ _) FmRows_z34 rfl rfl rfl (((hk6.only O2a (by omega)).only O2b (by omega))) (by simp) ?_
    intro w8 O2c P2c
    have hr4 := (P2a.only O2b (by omega)).only O2c (by omega)
    have hr5 := P2b.only O2c (by omega)
    have hr6 := P2c
    refine st_nil (nx_then (cd_ret (rt_then ?_)))
    refine retM0 rfl (rv_cell FmRows_g3 rfl (by first | exact hr4.rd 0 rfl | exact (hr4.only OX (blk_aside hr4 hK15 rfl)).rd 0 rfl | exact (hI.h4.only OX (blk_aside hI.h4 hK rfl)).rd 0 rfl)) (rv_cell FmRows_g3 rfl (by first | exact hr5.rd 0 rfl | exact (hr5.only OX (blk_aside hr5 hK15 rfl)).rd 0 rfl | exact (hI.h5.only OX (blk_aside hI.h5 hK rfl)).rd 0 rfl)) (rv_cell FmRows_g34 rfl (by first | exact hr6.rd 0 rfl | exact (hr6.only OX (blk_aside hr6 hK15 rfl)).rd 0 rfl | exact (hI.h6.only OX (blk_aside hI.h6 hK rfl)).rd 0 rfl)) ?_
    exact ⟨⟨0, 0, 5, rfl, .inl ⟨List.eq_nil_of_length_eq_zero (by omega), rfl, rfl, rfl⟩⟩, (((((((From.rfl_.next E2).next E4).next E5).next E6).only O2a (hg4)).only O2b (hg5)).only O2c (hg6))⟩
  with_reducible replace Q5 := of_decide_eq_false Q5
  refine cd_skip (nx_then (cd_seq (cd_seq (cd_region ?_))))
  refine mvs rfl ?_
  refine st_val (ro_len FmRows_l22 rfl) ?_
  refine mvi rfl ?_
  refine st_nil (nx_then (cd_block ?_))
  refine cd_loop (G := Nat) [8, 17, 18, 19, 20, 21, 22, 23, 24, 25, 26, 27, 28, 29, 30, 31, 32, 33, 34, 35, 36] (fun k => [(16, .int .i64 (k : Nat))]) (fun k w' => k ≤ n ∧ (q.take k).all (okS (K : Nat)) = true ∧ From w w' ∧ Blk w' b2 27 #[.pointer (some ⟨b, 0, none⟩)] ∧ Blk w' b4 3 #[.int .i64 0] ∧ Blk w' b5 3 #[.int .i64 0] ∧ Blk w' b6 34 #[.int .i64 0]) (fun k => n - k) (0) ⟨rfl, trivial⟩ ?_ ?_
  · exact ⟨Nat.zero_le _, rfl, ((((From.rfl_.next E2).next E4).next E5).next E6), hk2.from_ (E4.next (E5.next E6)), hk4.from_ (E5.next E6), hk5.from_ E6, hk6⟩
  rintro k ρ9 w9 ⟨hk, hall, hB, h2, h4, h5, h6⟩
  refine cd_seq (cd_region ?_)
  refine st_val (ro_lss rfl rfl) ?_
  refine st_nil (nx_then (cd_seq ?_))
  refine cd_cond rfl (fun Q10 => ?_) (fun Q10 => ?_)
  · with_reducible replace Q10 := of_decide_eq_true Q10
    have hkx : k < q.length := by omega
    obtain ⟨bp, op, rfl, hcq⟩ := hr (by omega)
    have hcqk := hcq k hkx
    refine cd_skip (nx_then (cd_seq (cd_block (cd_seq (cd_region ?_)))))
    refine st_val (ro_indexAddr1 FmRows_e22 rfl rfl (by omega)) ?_
    refine st_val (ro_load FmRows_g3 rfl (by exact cellF hB hcqk)) ?_
    refine asi rfl ?_
    refine st_nil (nx_then (cd_seq (cd_region ?_)))
    refine st_val (ro_load FmRows_g27 rfl (by exact (h2.from_ From.rfl_).rd 0 rfl)) ?_
    refine st_call FmRows_k30 (size_rt base b K a L B F _ (hff.from_ hB)) ?_
    rintro v21 w11 ⟨rfl, E21⟩
    have h4q := h4.from_ (From.rfl_.next E21)
    have h5q := h5.from_ (From.rfl_.next E21)
    have h6q := h6.from_ (From.rfl_.next E21)
    refine st_val (ro_lss rfl rfl) ?_
    refine mvb rfl ?_
    refine st_split (t := 23) rfl (fun Q12 => ?_) (fun Q12 => ?_)
    · with_reducible replace Q12 := of_decide_eq_true Q12
      exfalso; omega
    with_reducible replace Q12 := of_decide_eq_false Q12
    refine st_unguard rfl ?_
    refine mvi rfl ?_
    refine st_unguard rfl ?_
    refine st_val (ro_lss rfl rfl) ?_
    refine st_val (ro_pickF (v := .bool _) rfl rfl) ?_
    refine mvb rfl ?_
    refine st_split (t := 27) rfl (fun Q16 => ?_) (fun Q16 => ?_)
    · with_reducible replace Q16 := of_decide_eq_true Q16
      refine st_gno rfl rfl ?_
      refine st_gno rfl rfl ?_
      refine st_gno rfl rfl ?_
      refine st_gno rfl rfl ?_
      refine st_gno rfl rfl ?_
      refine st_gno rfl rfl ?_
      refine st_gno rfl rfl ?_
      refine st_val (ro_pickT (v := .bool _) rfl rfl) ?_
      refine st_nil (nx_then ?_)
      refine cd_condT rfl ?_
      refine cd_seq (cd_region ?_)
      refine st_put (v := .int _ _) FmRows_z3 rfl rfl rfl (h4q) (by simp) ?_
      intro w17 O7a P7a
      refine st_put (v := .int _ _) FmRows_z3 rfl rfl rfl ((h5q.only O7a (by omega))) (by simp) ?_
      intro w18 O7b P7b
      refine st_put (v := .int _ _) FmRows_z34 rfl rfl rfl (((h6q.only O7a (by omega)).only O7b (by omega))) (by simp) ?_
      intro w19 O7c P7c
      have hr4 := (P7a.only O7b (by omega)).only O7c (by omega)
      have hr5 := P7b.only O7c (by omega)
      have hr6 := P7c
      refine st_nil (nx_then (cd_ret (rt_block (rt_then (rt_then (rt_block (rt_then ?_)))))))
      refine retM0 rfl (rv_cell FmRows_g3 rfl (by first | exact hr4.rd 0 rfl | exact (hr4.only OX (blk_aside hr4 hK15 rfl)).rd 0 rfl | exact (hI.h4.only OX (blk_aside hI.h4 hK rfl)).rd 0 rfl)) (rv_cell FmRows_g3 rfl (by first | exact hr5.rd 0 rfl | exact (hr5.only OX (blk_aside hr5 hK15 rfl)).rd 0 rfl | exact (hI.h5.only OX (blk_aside hI.h5 hK rfl)).rd 0 rfl)) (rv_cell FmRows_g34 rfl (by first | exact hr6.rd 0 rfl | exact (hr6.only OX (blk_aside hr6 hK15 rfl)).rd 0 rfl | exact (hI.h6.only OX (blk_aside hI.h6 hK rfl)).rd 0 rfl)) ?_
      exact ⟨⟨0, 0, 1, rfl, .inr (.inl ⟨fun e => by subst e; simp at hkx, all_no hkx (okS_no (by omega)), rfl, rfl, rfl⟩)⟩, ((((hB.next E21).only O7a (hg4)).only O7b (hg5)).only O7c (hg6))⟩
    with_reducible replace Q16 := of_decide_eq_false Q16
    refine st_unguard rfl ?_
    refine mvi rfl ?_
    refine st_unguard rfl ?_
    refine st_val (ro_load FmRows_g27 rfl (by exact (h2.from_ (From.rfl_.next E21)).rd 0 rfl)) ?_
    refine st_unguard rfl ?_
    refine st_val (ro_nilCheck rfl) ?_
    refine st_unguard rfl ?_
    refine st_val (ro_fieldAddr FmRows_f56_0 rfl) ?_
    refine st_unguard rfl ?_
    refine st_val (ro_load FmRows_g52 rfl (by exact (hX.from_ (hB.next E21)).rd 0 rfl)) ?_
    refine st_unguard rfl ?_
    refine st_call FmRows_k31 (kindsT base tb K B _ (hT.from_ (hB.next E21))) ?_
    rintro v33 w20 ⟨rfl, rfl⟩
    refine st_unguard rfl ?_
    refine st_val (ro_geq rfl rfl) ?_
    refine st_val (ro_pickF (v := .bool _) rfl rfl) ?_
    refine st_nil (nx_then ?_)
    refine cd_cond rfl (fun Q21 => ?_) (fun Q21 => ?_)
    · with_reducible replace Q21 := of_decide_eq_true Q21
      refine cd_seq (cd_region ?_)
      refine st_put (v := .int _ _) FmRows_z3 rfl rfl rfl (h4q) (by simp) ?_
      intro w22 O7a P7a
      refine st_put (v := .int _ _) FmRows_z3 rfl rfl rfl ((h5q.only O7a (by omega))) (by simp) ?_
      intro w23 O7b P7b
      refine st_put (v := .int _ _) FmRows_z34 rfl rfl rfl (((h6q.only O7a (by omega)).only O7b (by omega))) (by simp) ?_
      intro w24 O7c P7c
      have hr4 := (P7a.only O7b (by omega)).only O7c (by omega)
      have hr5 := P7b.only O7c (by omega)
      have hr6 := P7c
      refine st_nil (nx_then (cd_ret (rt_block (rt_then (rt_then (rt_block (rt_then ?_)))))))
      refine retM0 rfl (rv_cell FmRows_g3 rfl (by first | exact hr4.rd 0 rfl | exact (hr4.only OX (blk_aside hr4 hK15 rfl)).rd 0 rfl | exact (hI.h4.only OX (blk_aside hI.h4 hK rfl)).rd 0 rfl)) (rv_cell FmRows_g3 rfl (by first | exact hr5.rd 0 rfl | exact (hr5.only OX (blk_aside hr5 hK15 rfl)).rd 0 rfl | exact (hI.h5.only OX (blk_aside hI.h5 hK rfl)).rd 0 rfl)) (rv_cell FmRows_g34 rfl (by first | exact hr6.rd 0 rfl | exact (hr6.only OX (blk_aside hr6 hK15 rfl)).rd 0 rfl | exact (hI.h6.only OX (blk_aside hI.h6 hK rfl)).rd 0 rfl)) ?_
      exact ⟨⟨0, 0, 1, rfl, .inr (.inl ⟨fun e => by subst e; simp at hkx, all_no hkx (okS_no (by omega)), rfl, rfl, rfl⟩)⟩, ((((hB.next E21).only O7a (hg4)).only O7b (hg5)).only O7c (hg6))⟩
    with_reducible replace Q21 := of_decide_eq_false Q21
    refine cd_skip (nx_block (nx_then (cd_region ?_)))
    refine st_val (ro_add64 rfl rfl (by omega)) ?_
    refine mvi rfl ?_
    refine st_nil ?_
    refine nx_cut (k + 1) ⟨(by first | rfl | (refine int_eq ?_; omega)), trivial⟩ (by (iterate 46 refine agr_cons rfl ?_); exact agr_rfl) ⟨?_, ?_⟩
    · exact ⟨by omega, all_take hkx hall (okS_yes (by omega) (by omega)), (hB.next E21), h2.from_ (From.rfl_.next E21), h4.from_ (From.rfl_.next E21), h5.from_ (From.rfl_.next E21), h6.from_ (From.rfl_.next E21)⟩
    · show n - (k + 1) < n - k; omega
  with_reducible replace Q10 := of_decide_eq_false Q10
  obtain ⟨p, hqp, hpK⟩ := nat_listK (all_end (show ¬ k < q.length by omega) hall)
  have hpn : p.length = n := by rw [hn, hqp, List.length_map]
  obtain ⟨bp, op, rfl, hcp⟩ := rowD (show RowOf iV w A (cI p) by rw [← hqp]; exact hr) (by omega)
  have hd0 : p.drop (n - 0) = [] := by rw [Nat.sub_zero, ← hpn, List.drop_length]
  refine cd_exit ?_
  refine ex_then (ex_then (ex_block (nx_then (cd_seq (cd_region ?_)))))
  refine st_val (ro_load FmRows_g27 rfl (by exact (h2.from_ From.rfl_).rd 0 rfl)) ?_
  refine st_val (ro_nilCheck rfl) ?_
  refine st_val (ro_fieldAddr FmRows_f56_0 rfl) ?_
  refine st_val (ro_load FmRows_g52 rfl (by exact (hX.from_ hB).rd 0 rfl)) ?_
  refine st_call FmRows_k32 (lenT base tb K B _ (hT.from_ hB)) ?_
  rintro v41 w25 ⟨rfl, E41⟩
  refine st_val (ro_addN (b := 1) rfl rfl (by omega)) ?_
  have h2r := h2.from_ (From.rfl_.next E41)
  have h4r := h4.from_ (From.rfl_.next E41)
  have h5r := h5.from_ (From.rfl_.next E41)
  have h6r := h6.from_ (From.rfl_.next E41)
  refine st_put (v := .int _ _) FmRows_z3 rfl rfl rfl (h4r) (by simp) ?_
  intro w26 O9a P9a
  refine st_put (v := .int _ _) FmRows_z3 rfl rfl rfl ((h5r.only O9a (by omega))) (by simp) ?_
  intro w27 O9b P9b
  have h2s := (h2r.only O9a (by omega)).only O9b (by omega)
  have h4s := P9a.only O9b (by omega)
  have h5s := P9b
  have h6s := (h6r.only O9a (by omega)).only O9b (by omega)
  refine st_nil (nx_then (cd_seq (cd_seq (cd_region ?_))))
  refine mvs rfl ?_
  refine st_call FmRows_k33 (backwardI_rt _ n c _) ?_
  rintro v44 w28 ⟨⟨Bs, rfl, hgs, hks⟩, E44⟩
  have hBs : b6 < Bs := Nat.lt_of_lt_of_le h6s.lt hgs
  have hI0 : RwI w b b2 b4 b5 b6 Bs n c (some ⟨bp, op, none⟩) (frP L (p.drop (n - 0))) (toP L (p.drop (n - 0))) w28 := ⟨((((hB.next E41).only O9a (hg4)).only O9b (hg5)).next E44), h2s.from_ E44, by rw [hd0, frP_nil]; exact h4s.from_ E44, by rw [hd0, toP_nil, ← hBl]; exact h5s.from_ E44, h6s.from_ E44, hks⟩
  have hz44 := (((((hB.next E41).only O9a (hg4)).only O9b (hg5)).next E44)).size
  refine st_nil (nx_then (cd_block ?_))
  apply cd_range2R (u := fun k => .int .i64 ((n - 1 - k : Nat) : Int)) (v := fun k => .int .i64 ((p.getD (n - 1 - k) 0 : Nat) : Int)) (N := n) (Rd := BackRdI Bs bp op n c fun j => ((p.getD j 0 : Nat) : Int)) rfl (fun _ _ => rfl) (back_iterI Bs bp op n c (fun j => ((p.getD j 0 : Nat) : Int)) hl) (fun k W => RwI w b b2 b4 b5 b6 Bs n c (some ⟨bp, op, none⟩) (frP L (p.drop (n - k))) (toP L (p.drop (n - k))) W ∧ (0 < k → frP L (p.drop (n - k)) < toP L (p.drop (n - k)))) (fun W => RwI w b b2 b4 b5 b6 Bs n c (some ⟨bp, op, none⟩) (0) (0) W ∧ rwF L p = 0 ∧ rwT L p = 0)
  case ha =>
   intro l k W K hK
   refine cr_region rfl (fun ⟨_, _, h⟩ => h) ?_
   refine st_val (ro_assign (v := _) rfl) ?_
   refine st_nil ?_
   exact hK
  case hRd =>
   exact fun k W h => ⟨(h.1.hs).rd 0 rfl, fun j hj => cellF h.1.hF (hcp j (by omega))⟩
  case hF =>
   exact fun k W W' h hF => ⟨h.1.from_ hF, h.2⟩
  case hO =>
   exact fun k W W' q o hq ho hO hw h => ⟨h.1.aside hq ho hO (Nat.le_trans hz44 hw), h.2⟩
  case hSO =>
   exact fun W W' q o hq ho hO hw h => ⟨h.1.aside hq ho hO (Nat.le_trans hz44 hw), h.2⟩
  case h0 =>
   exact ⟨hI0, fun h => absurd h (by omega)⟩
  case hb =>
   intro l k WB hkN hI
   obtain ⟨hI, hlt⟩ := hI
   have hpk : p.drop (n - (k + 1)) = p.getD (n - 1 - k) 0 :: p.drop (n - k) := by have := drop_cons (p := p) (k := k) (by omega); rw [hpn] at this; exact this
   have hck : p.getD (n - 1 - k) 0 < K := getD_lt hpK (by omega)
   have hs1 := frP_step hbw (p.getD (n - 1 - k) 0) (p.drop (n - k))
   have hs2 := toP_step hbw (p.getD (n - 1 - k) 0) (p.drop (n - k))
   rw [← hpk] at hs1 hs2
   have hle1 := frP_le L (p.drop (n - k))
   have hle2 := toP_le L (p.drop (n - k))
   refine cr_block ?_
   refine cr_seq ?_
   apply cr_drawnD 8 [(47, eqp _), (48, eqp _), (49, eqp _), (50, eqp _), (51, eqp _), (52, eqp _), (53, eqp _), (54, eqp _)] (by repeat first | exact pq_rpostS | exact pq_bodyM | refine pq_then ?_ | refine pq_block ?_) (by kernel_rfl) (by kernel_rfl) ⟨eqp_mono _, eqp_mono _, eqp_mono _, eqp_mono _, eqp_mono _, eqp_mono _, eqp_mono _, eqp_mono _, trivial⟩ (by kernel_rfl) (fun ⟨_, _, h⟩ => h)
   case hop =>
    refine ⟨?_, ?_⟩
    · rintro - w30 D30
      show OpOK _ _ _ _ _ _ _
      exact ok_pure (ro_load FmRows_g27 rfl (by exact (hI.h2.from_ D30).rd 0 rfl)) rfl
    refine ⟨?_, ?_⟩
    · rintro - w31 D31
      show OpOK _ _ _ _ _ _ _
      exact ok_pure (ro_move (v := .int _ _) rfl) rfl
    refine ⟨?_, ?_⟩
    · rintro - w32 D32
      show OpOK _ _ _ _ _ _ _
      exact ok_pure (ro_load FmRows_g3 rfl (by exact (hI.h4.from_ D32).rd 0 rfl)) rfl
    refine ⟨?_, ?_⟩
    · rintro - w33 D33
      rintro _ rfl _ rfl _ rfl
      show OpOK _ _ _ _ _ _ _
      refine ok_call FmRows_k34 ((back_rt base b K a L B F _ (hff.from_ (hI.hF.next D33)) (p.getD (n - 1 - k) 0) (frP L (p.drop (n - k))) hck hle1).mono ?_)
      rintro v _ ⟨rfl, E33'⟩; exact ⟨E33', rfl⟩
    refine ⟨?_, ?_⟩
    · rintro - w34 D34
      show OpOK _ _ _ _ _ _ _
      exact ok_pure (ro_load FmRows_g27 rfl (by exact (hI.h2.from_ D34).rd 0 rfl)) rfl
    refine ⟨?_, ?_⟩
    · rintro - w35 D35
      show OpOK _ _ _ _ _ _ _
      exact ok_pure (ro_move (v := .int _ _) rfl) rfl
    refine ⟨?_, ?_⟩
    · rintro - w36 D36
      show OpOK _ _ _ _ _ _ _
      exact ok_pure (ro_load FmRows_g3 rfl (by exact (hI.h5.from_ D36).rd 0 rfl)) rfl
    refine ⟨?_, ?_⟩
    · rintro - w37 D37
      rintro _ rfl _ rfl _ rfl
      show OpOK _ _ _ _ _ _ _
      refine ok_call FmRows_k34 ((back_rt base b K a L B F _ (hff.from_ (hI.hF.next D37)) (p.getD (n - 1 - k) 0) (toP L (p.drop (n - k))) hck hle2).mono ?_)
      rintro v _ ⟨rfl, E37'⟩; exact ⟨E37', rfl⟩
    exact trivial
   case hend =>
    intro w38 D38
    rintro _ rfl _ rfl _ rfl _ rfl _ rfl _ rfl _ rfl _ rfl
    show St _ _ _ _ _ _ _
    have hID := hI.from_ D38
    have hkD : Keeps WB _ := Keeps.from_ D38
    refine st_put (v := .int _ _) FmRows_z3 rfl rfl rfl (hID.h4) (by simp) ?_
    intro w39 O12a P12a
    refine st_put (v := .int _ _) FmRows_z3 rfl rfl rfl ((hID.h5.only O12a (by omega))) (by simp) ?_
    intro w40 O12b P12b
    have hI12 : RwI w b b2 b4 b5 b6 Bs n c (some ⟨bp, op, none⟩) (frP L (p.drop (n - (k + 1)))) (toP L (p.drop (n - (k + 1)))) w40 := ⟨(hID.hF.only O12a hg4).only O12b hg5, (hID.h2.only O12a (by omega)).only O12b (by omega), by rw [hs1]; exact P12a.only O12b (by omega), by rw [hs2]; exact P12b, (hID.h6.only O12a (by omega)).only O12b (by omega), (hID.hs.only O12a (by omega)).only O12b (by omega)⟩
    have hk12 := hkD.trans ((Keeps.only O12a hID.h4).trans (Keeps.only O12b (hID.h5.only O12a (by omega))))
    refine st_nil ?_
    refine nr_then ?_
    refine cr_seq ?_
    refine cr_region rfl (fun ⟨_, _, h⟩ => h) ?_
    refine st_val (ro_load FmRows_g3 rfl (by exact hI12.h4.rd 0 rfl)) ?_
    refine st_val (ro_load FmRows_g3 rfl (by exact hI12.h5.rd 0 rfl)) ?_
    refine st_val (ro_geq rfl rfl) ?_
    refine st_nil ?_
    refine nr_then ?_
    refine cr_cond rfl (fun Q41 => ?_) (fun Q41 => ?_)
    · with_reducible replace Q41 := of_decide_eq_true Q41
      refine cr_seq ?_
      refine cr_region rfl (fun ⟨_, _, h⟩ => h) ?_
      refine st_put (v := .int _ _) FmRows_z3 rfl rfl rfl (hI12.h4) (by simp) ?_
      intro w42 O14a P14a
      refine st_put (v := .int _ _) FmRows_z3 rfl rfl rfl ((hI12.h5.only O14a (by omega))) (by simp) ?_
      intro w43 O14b P14b
      refine st_put (v := .int _ _) FmRows_z34 rfl rfl rfl (((hI12.h6.only O14a (by omega)).only O14b (by omega))) (by simp) ?_
      intro w44 O14c P14c
      have hI14 : RwI w b b2 b4 b5 b6 Bs n c (some ⟨bp, op, none⟩) (0) (0) w44 := ⟨((hI12.hF.only O14a hg4).only O14b hg5).only O14c hg6, ((hI12.h2.only O14a (by omega)).only O14b (by omega)).only O14c (by omega), (P14a.only O14b (by omega)).only O14c (by omega), P14b.only O14c (by omega), P14c, ((hI12.hs.only O14a (by omega)).only O14b (by omega)).only O14c (by omega)⟩
      have hk14 := hk12.trans ((Keeps.only O14a hI12.h4).trans ((Keeps.only O14b (hI12.h5.only O14a (by omega))).trans (Keeps.only O14c ((hI12.h6.only O14a (by omega)).only O14b (by omega)))))
      have hz := rw_none (s := p.take (n - (k + 1))) hSA (show toP L (p.drop (n - (k + 1))) ≤ frP L (p.drop (n - (k + 1))) by omega)
      rw [List.take_append_drop] at hz
      refine st_nil ?_
      refine nr_then ?_
      refine cr_ret ?_
      refine rt_block ?_
      exact ⟨⟨hI14, hz⟩, hk14⟩
    with_reducible replace Q41 := of_decide_eq_false Q41
    refine cr_skip ?_
    refine nx_block ?_
    exact ⟨⟨hI12, fun _ => by omega⟩, hk12⟩
  case hd =>
   intro D WD hD hI hK
   obtain ⟨hI, hlt⟩ := hI
   refine nx_block (nx_then (cd_seq ?_))
   have hU45 : UniT [(0, 58, .int .i64 ((frP L (p.drop (n - n)) : Nat) : Int)), (1, 59, .int .i64 ((toP L (p.drop (n - n)) : Nat) : Int))] := by simp [UniT]
   refine cd_invT [(0, 58, .int .i64 ((frP L (p.drop (n - n)) : Nat) : Int)), (1, 59, .int .i64 ((toP L (p.drop (n - n)) : Nat) : Int))] (fun S w' => RwI w b b2 b4 b5 b6 Bs n c (some ⟨bp, op, none⟩) (frP L (p.drop (n - n))) (toP L (p.drop (n - n))) w' ∧ w'.heap[D]? = some (.deferred (some []))) (by kernel_rfl) (by kernel_rfl) hU45 (by simp) (⟨hI.from_ From.rfl_.d1, Keeps.from_ From.rfl_.d1 _ _ hK rfl⟩) ?_ ?_
   · refine ⟨?_, ?_⟩
     · rintro S L' wS hI hM hS0 ⟨-⟩
       have e4 := hI.1 4 (by simp)
       have hM' := hM
       obtain ⟨hM1, hM2⟩ := hM'
       exact step_ro (ro_load FmRows_g3 e4 (hM1.h4.rd 0 rfl)) ⟨hI.put hU45 (.head _), hM⟩
     refine ⟨?_, ?_⟩
     · rintro S L' wS hI hM hS0 ⟨-⟩
       have e5 := hI.1 5 (by simp)
       have hM' := hM
       obtain ⟨hM1, hM2⟩ := hM'
       exact step_ro (ro_load FmRows_g3 e5 (hM1.h5.rd 0 rfl)) ⟨hI.put hU45 (.tail _ (.head _)), hM⟩
     refine ⟨?_, ?_⟩
     · rintro S L' wS hI hM hS0 ⟨d0, d0, -, -⟩
       have e4 := hI.1 4 (by simp)
       have e58 : look L' 58 = .int .i64 ((frP L (p.drop (n - n)) : Nat) : Int) := hI.get (i := 0) (.head _) d0
       have hM' := hM
       obtain ⟨hM1, hM2⟩ := hM'
       obtain ⟨w2, hR, hO, hb⟩ := rs_put (n := ⟨60, [{ target := .collected D, args := #[] }]⟩) (L := L') (x := .tmp 4) (y := .tmp 58) FmRows_z3 e4 e58 rfl hM1.h4 (by simp)
       exact step_rs hR ⟨hI.skip (by simp), ⟨⟨hM1.hF.only hO hg4, hM1.h2.only hO (by omega), hb, hM1.h5.only hO (by omega), hM1.h6.only hO (by omega), hM1.hs.only hO (by omega)⟩, by rw [hO.block D (by intro e; subst e; exact absurd (hM1.h4.symm.trans hM2) (by simp))]; exact hM2⟩⟩
     refine ⟨?_, ?_⟩
     · rintro S L' wS hI hM hS0 ⟨d1, d2, d0, d1, d2, -⟩
       have e5 := hI.1 5 (by simp)
       have e59 : look L' 59 = .int .i64 ((toP L (p.drop (n - n)) : Nat) : Int) := hI.get (i := 1) (.tail _ (.head _)) d1
       have hM' := hM
       obtain ⟨hM1, hM2⟩ := hM'
       obtain ⟨w2, hR, hO, hb⟩ := rs_put (n := ⟨60, [{ target := .collected D, args := #[] }]⟩) (L := L') (x := .tmp 5) (y := .tmp 59) FmRows_z3 e5 e59 rfl hM1.h5 (by simp)
       exact step_rs hR ⟨hI.skip (by simp), ⟨⟨hM1.hF.only hO hg5, hM1.h2.only hO (by omega), hM1.h4.only hO (by omega), hb, hM1.h6.only hO (by omega), hM1.hs.only hO (by omega)⟩, by rw [hO.block D (by intro e; subst e; exact absurd (hM1.h5.symm.trans hM2) (by simp))]; exact hM2⟩⟩
     refine ⟨?_, ?_⟩
     · rintro S L' wS hI hM hS0 ⟨d3, d0, d1, d2, d3, -⟩
       have e6 := hI.1 6 (by simp)
       have hM' := hM
       obtain ⟨hM1, hM2⟩ := hM'
       obtain ⟨w2, hR, hO, hb⟩ := rs_put (n := ⟨60, [{ target := .collected D, args := #[] }]⟩) (L := L') (x := .tmp 6) (y := .const (.int .i64 0)) FmRows_z34 e6 rfl rfl hM1.h6 (by simp)
       exact step_rs hR ⟨hI.skip (by simp), ⟨⟨hM1.hF.only hO hg6, hM1.h2.only hO (by omega), hM1.h4.only hO (by omega), hM1.h5.only hO (by omega), hb, hM1.hs.only hO (by omega)⟩, by rw [hO.block D (by intro e; subst e; exact absurd (hM1.h6.symm.trans hM2) (by simp))]; exact hM2⟩⟩
     exact trivial
   · intro w46 hM
     obtain ⟨hM1, hM2⟩ := hM
     have hr4 := hM1.h4
     have hr5 := hM1.h5
     have hr6 := hM1.h6
     have hK15 := hM2
     have hD15 := Nat.le_trans hz44 hD
     have hh := hlt (by omega)
     rw [Nat.sub_self, List.drop_zero] at hh hr4 hr5
     obtain ⟨hw1, hw2⟩ := rw_hit hh
     refine nx_then (cd_ret ?_)
     refine retM1 rfl (by first | exact hK15 | exact hK) (fun wX OX => ⟨(rv_cell FmRows_g3 rfl (by first | exact hr4.rd 0 rfl | exact (hr4.only OX (blk_aside hr4 hK15 rfl)).rd 0 rfl | exact (hI.h4.only OX (blk_aside hI.h4 hK rfl)).rd 0 rfl)), (rv_cell FmRows_g3 rfl (by first | exact hr5.rd 0 rfl | exact (hr5.only OX (blk_aside hr5 hK15 rfl)).rd 0 rfl | exact (hI.h5.only OX (blk_aside hI.h5 hK rfl)).rd 0 rfl)), (rv_cell FmRows_g34 rfl (by first | exact hr6.rd 0 rfl | exact (hr6.only OX (blk_aside hr6 hK15 rfl)).rd 0 rfl | exact (hI.h6.only OX (blk_aside hI.h6 hK rfl)).rd 0 rfl)), ?_⟩)
     exact ⟨⟨_, _, _, rfl, .inr (.inr ⟨p, hqp, fun e => by subst e; simp at hpn; omega, hpK, by rw [hw1], by rw [hw2], rfl⟩)⟩, (hM1.hF).only OX hD15⟩
  case hs =>
   intro D WS hD hS hK
   obtain ⟨hI, hz1, hz2⟩ := hS
   refine rt_block (rt_then ?_)
   refine retM1 rfl (by first | exact hK15 | exact hK) (fun wX OX => ⟨(rv_cell FmRows_g3 rfl (by first | exact hr4.rd 0 rfl | exact (hr4.only OX (blk_aside hr4 hK15 rfl)).rd 0 rfl | exact (hI.h4.only OX (blk_aside hI.h4 hK rfl)).rd 0 rfl)), (rv_cell FmRows_g3 rfl (by first | exact hr5.rd 0 rfl | exact (hr5.only OX (blk_aside hr5 hK15 rfl)).rd 0 rfl | exact (hI.h5.only OX (blk_aside hI.h5 hK rfl)).rd 0 rfl)), (rv_cell FmRows_g34 rfl (by first | exact hr6.rd 0 rfl | exact (hr6.only OX (blk_aside hr6 hK15 rfl)).rd 0 rfl | exact (hI.h6.only OX (blk_aside hI.h6 hK rfl)).rd 0 rfl)), ?_⟩)
   exact ⟨⟨_, _, _, rfl, .inr (.inr ⟨p, hqp, fun e => by subst e; simp at hpn; omega, hpK, by rw [hz1], by rw [hz2], rfl⟩)⟩, hI.hF.only OX (Nat.le_trans hz44 hD)⟩
end Go.Proofs.Ytepdgbglaiimaaa

namespace Go.Proofs.Ytepdgbglaiimaaa
open Go.RowKit
def leB (x y : Int) : Bool := decide (x ≤ y)
def srt (L : List Int) : List Int := L.mergeSort leB
def cnt (L : List Int) (x : Int) : Nat := L.countP fun y => decide (x ≤ y)
def med (L : List Int) : Int := (srt L).getD ((L.length - 1) / 2) 0
def Fit (L : List Int) : Prop := 1 ≤ L.length ∧ L.length ≤ 7 ∧ ∀ x ∈ L, 0 ≤ x
theorem srt_perm (L : List Int) : (srt L).Perm L := List.mergeSort_perm L leB
theorem srt_len (L : List Int) : (srt L).length = L.length := (srt_perm L).length_eq
theorem srt_le (L : List Int) : ∀ i j (hi : i < (srt L).length) (hj : j < (srt L).length), i ≤ j → (srt L)[i] ≤ (srt L)[j] := by
  have h := List.pairwise_mergeSort (le := leB) (fun a b c h1 h2 => by simp only [leB, decide_eq_true_eq] at *; omega) (fun a b => by simp only [leB, Bool.or_eq_true, decide_eq_true_eq]; omega) L
  intro i j hi hj hij
  rcases Nat.lt_or_ge i j with h1 | h1
  · have := List.pairwise_iff_getElem.1 h i j hi hj h1
    exact of_decide_eq_true this
  · obtain rfl : i = j := by omega
    exact Int.le_refl _
/-- how many of 1 to n are among the votes -/
def cv (V : List Int) (n : Nat) : Nat := (List.range n).countP fun i => decide (((i + 1 : Nat) : Int) ∈ V)
def vt (V : List Int) (n i : Nat) : Bool := decide (1 ≤ i ∧ i ≤ n ∧ (i : Int) ∈ V)
def vrow (V : List Int) (n : Nat) : List Value := (List.range 8).map fun i => .bool (vt V n i)
end Go.Proofs.Ytepdgbglaiimaaa

namespace Go.Proofs.Ytepdgbglaiimaaa
open Go.RowKit
open Go.ChangeShapes Go.WideShapes Go.ChangeAt
open Go.Proofs.Ytepdgbglaiimaaa.SA
open Go.Shelf
theorem FmFind_m22 : makeQ Try.prog 22 = some (3, 8, (.int .i64 0)) := by kernel_rfl
theorem FmFind_q22 : litQ Try.prog 22 = some (3, 1, 8, (.int .i64 0)) := by kernel_rfl
theorem FmFind_k13 : callable Try.prog 13 = true := by kernel_rfl
theorem FmFind_k35 : callable Try.prog 35 = true := by kernel_rfl
theorem FmFind_k36 : callable Try.prog 36 = true := by kernel_rfl
theorem rows_bnd {K : Nat} {L : List Nat} {q : List Int} {fr to e : Int} (h : RowsIs K L q fr to e) (hl : L.length ≤ 131072) : 0 ≤ fr ∧ fr ≤ to ∧ to ≤ 131073 := by
  rcases h with ⟨_, rfl, rfl, _⟩ | ⟨_, _, rfl, rfl, _⟩ | ⟨p, _, _, _, rfl, rfl, _⟩
  · omega
  · omega
  · have := rw_sub L p
    omega
/-- what Find is to tell -/
def FindIs (K : Nat) (L : List Nat) (q : List Int) (l : List Nat) (e : Int) : Prop :=
  (q = [] ∧ l = [] ∧ e = 5) ∨ (q ≠ [] ∧ q.all (okS (K : Nat)) = false ∧ l = [] ∧ e = 1) ∨ (∃ p : List Nat, q = cI p ∧ p ≠ [] ∧ (∀ x ∈ p, x < K) ∧ l = fndL L p ∧ e = 0)
theorem rows_err {K : Nat} {L : List Nat} {q : List Int} {fr to e : Int} (h : RowsIs K L q fr to e) (he : e ≠ 0) : FindIs K L q [] e := by
  rcases h with ⟨h1, _, _, rfl⟩ | ⟨h1, h2, _, _, rfl⟩ | ⟨p, _, _, _, _, _, rfl⟩
  · exact .inl ⟨h1, rfl, rfl⟩
  · exact .inr (.inl ⟨h1, h2, rfl, rfl⟩)
  · exact absurd rfl he
theorem rows_ok {K : Nat} {L : List Nat} {q : List Int} {fr to : Int} (h : RowsIs K L q fr to 0) : ∃ p : List Nat, q = cI p ∧ p ≠ [] ∧ (∀ x ∈ p, x < K) ∧ fr = ((rwF L p : Nat) : Int) ∧ to = ((rwT L p : Nat) : Int) := by
  rcases h with ⟨_, _, _, e⟩ | ⟨_, _, _, _, e⟩ | ⟨p, h1, h2, h3, h4, h5, _⟩
  · cases e
  · cases e
  · exact ⟨p, h1, h2, h3, h4, h5⟩
theorem sort_some (base c g0 o0 n : Nat) (L : List Int) (w : World) (ho : w.ownsRow base 3 1 (.slice (some ⟨g0, o0, none⟩) n c) n (L.map iV)) (hn : n = L.length) (hl : L.length ≤ 1000000) :
    Rt Try.prog 36 [.slice (some ⟨g0, o0, none⟩) n c] w fun _ w' => w'.ownsRow base 3 1 (.slice (some ⟨g0, o0, none⟩) n c) n ((srt L).map iV) ∧ w.grownBy w' (some g0) := by
  subst hn
  rcases ho.2 with ⟨hz, _⟩ | ⟨g, cap, cur, hv, hbase, hb, h1, h2, h3, h4⟩
  · cases hz
  · simp only [Value.slice.injEq] at hv
    obtain ⟨hA, _, rfl⟩ := hv
    cases hA
    refine Calls.mono (Try.slices_Sort_int g0 0 c L w (holds_of_blockI hb (by simpa using h4)) (Array.getElem?_eq_some_iff.1 hb).1 (by omega)) fun e w' ⟨he, n, os, hw⟩ => ⟨_, he, ?_, ?_⟩
    · rw [hw]; exact ownsRow_sortedI (srt_len L) hbase hb h1 h2 h3
    · rw [hw]; exact grownBy_sortedI _
theorem nat_back : ∀ {l : List Int}, (∀ y ∈ l, 0 ≤ y) → l = cI (l.map Int.toNat)
  | [], _ => rfl
  | y :: l, h => by
    rw [List.map_cons, cI, List.map_cons, ← cI, ← nat_back fun z hz => h z (List.mem_cons_of_mem _ hz), Int.toNat_of_nonneg (h y (List.mem_cons_self ..))]
/-- the places in order are the places as the text tells them -/
theorem srt_plc {L F p : List Nat} (hS : IsSA L F) (hp : p ≠ []) : srt (cI (SA.plc L F (frP L p) (toP L p - frP L p))) = cI (fndL L p) := by
  have hto := toP_le L p
  have hle := fr_le_to L p
  generalize hX : SA.plc L F (frP L p) (toP L p - frP L p) = X
  have hnd : X.Nodup := by rw [← hX]; exact plc_nodup hS (by omega)
  have hmem : ∀ x, x ∈ X ↔ x ∈ fndL L p := fun x => by rw [← hX]; exact plc_mem hS hp
  have hpm := srt_perm (cI X)
  have hnn : ∀ y ∈ srt (cI X), 0 ≤ y := fun y hy => by
    obtain ⟨x, _, rfl⟩ := List.mem_map.1 (hpm.mem_iff.1 hy)
    omega
  have e : srt (cI X) = cI ((srt (cI X)).map Int.toNat) := nat_back hnn
  rw [e]
  congr 1
  refine asc_uniq ?_ (fndL_asc L p) fun x => ?_
  · refine List.pairwise_map.2 (List.pairwise_iff_getElem.2 fun i j hi hj hij => ?_)
    have h1 := srt_le (cI X) i j hi hj (Nat.le_of_lt hij)
    have h2 := hnn _ (List.getElem_mem hi)
    have hndI : (srt (cI X)).Nodup := hpm.nodup_iff.2 (List.pairwise_map.2 (hnd.imp fun a b => by simp only [ne_eq] at *; omega))
    have h3 := List.pairwise_iff_getElem.1 hndI i j hi hj hij
    omega
  · rw [← hmem, List.mem_map]
    constructor
    · rintro ⟨y, hy, rfl⟩
      obtain ⟨z, hz, rfl⟩ := List.mem_map.1 (hpm.mem_iff.1 hy)
      simpa using hz
    · intro hx
      exact ⟨(x : Int), hpm.mem_iff.2 (List.mem_map.2 ⟨x, hx, rfl⟩), by simp⟩
set_option maxHeartbeats 400000 in
theorem hits_rt (base b K a : Nat) (L B F : List Nat) (w : World) (hf : FmAt w base b K a L B F) (A : Option Addr) (c n : Nat) (q : List Int) (hr : RowOf iV w A q) (hn : n = q.length) (hl : n ≤ 1000000) :
    Rt Try.prog 14 [.pointer (some ⟨b, 0, none⟩), .slice A n c] w (fun v w' => (∃ fr to e, v = .tuple #[.int .i64 (to - fr), .int .i64 e] ∧ RowsIs K L q fr to e) ∧ From w w') := by
  have hLn := hf.2.2.2.1
  refine enter (n := 20) Try.func14 rfl rfl rfl ?_
  refine cd_seq (cd_region ?_)
  refine asi rfl ?_
  refine asi rfl ?_
  refine st_nil (nx_then (cd_seq (cd_region ?_)))
  refine mvp rfl ?_
  refine mvs rfl ?_
  refine st_call FmFind_k13 (fmRows_rt base b K a L B F _ (hf.from_ From.rfl_) A c n q (hr.from_ From.rfl_) hn hl) ?_
  rintro v12 w1 ⟨⟨fr, to, e, rfl, hIs⟩, E12⟩
  have hbd := rows_bnd hIs hLn
  refine mvt rfl ?_
  refine st_val (ro_extract rfl rfl) ?_
  refine st_val (ro_extract rfl rfl) ?_
  refine st_val (ro_extract rfl rfl) ?_
  refine asi rfl ?_
  refine asi rfl ?_
  refine asi rfl ?_
  refine st_nil (nx_then (cd_seq (cd_region ?_)))
  refine mvi rfl ?_
  refine mvi rfl ?_
  refine st_val (ro_sub64 rfl rfl (by omega)) ?_
  refine mvi rfl ?_
  refine asi rfl ?_
  refine asi rfl ?_
  refine st_nil (nx_then (cd_ret ?_))
  refine res2 (v := .int _ _) (v' := .int _ _) rfl rfl rfl ?_
  exact ⟨⟨fr, to, e, rfl, hIs⟩, (From.rfl_.next E12)⟩
theorem plc_rw (L F p : List Nat) : SA.plc L F (rwF L p) (rwT L p - rwF L p) = SA.plc L F (frP L p) (toP L p - frP L p) := by
  unfold rwF rwT
  by_cases h : frP L p < toP L p
  · rw [if_pos h, if_pos h]
  · rw [if_neg h, if_neg h, show toP L p - frP L p = 0 by omega]
    rfl
theorem own_ne_none {w : World} {base e s n c m : Nat} {A : Option Addr} {xs : List Value} (h : w.ownsRow base e s (.slice A n c) m xs) (hA : A ≠ none) : ∃ g, A = some ⟨g, 0, none⟩ := by
  rcases h.2 with ⟨h0, _⟩ | ⟨g, cap, cur, hv, _⟩
  · simp only [Value.slice.injEq] at h0
    exact absurd h0.1 hA
  · simp only [Value.slice.injEq] at hv
    exact ⟨g, hv.1⟩
theorem plc_own {L F : List Nat} {fr k : Nat} : (cI (SA.plc L F fr (k + 1))).map iV = (cI (SA.plc L F fr k)).map iV ++ [iV ((rowS L F (fr + k) : Nat) : Int)] := by rw [plc_succ]; simp [cI]
set_option maxHeartbeats 2000000 in
theorem find_rt (base b K a : Nat) (L B F : List Nat) (w : World) (hf : FmAt w base b K a L B F) (A : Option Addr) (c n : Nat) (q : List Int) (hr : RowOf iV w A q) (hn : n = q.length) (hl : n ≤ 1000000) :
    Rt Try.prog 18 [.pointer (some ⟨b, 0, none⟩), .slice A n c] w (fun v w' => (∃ l e A' c', FindIs K L q l e ∧ v = .tuple #[.slice A' l.length c', .int .i64 e] ∧ w'.ownsRow w.heap.size 3 1 (.slice A' l.length c') l.length ((cI l).map iV)) ∧ From w w') := by
  have hLn := hf.2.2.2.1
  have hSA := hf.2.1
  refine enter (n := 40) Try.func18 rfl rfl rfl ?_
  refine cd_seq (cd_region ?_)
  refine ass rfl ?_
  refine asi rfl ?_
  refine st_nil (nx_then (cd_seq (cd_region ?_)))
  refine mvp rfl ?_
  refine mvs rfl ?_
  refine st_call FmFind_k13 (fmRows_rt base b K a L B F _ (hf.from_ From.rfl_) A c n q (hr.from_ From.rfl_) hn hl) ?_
  rintro v14 w1 ⟨⟨fr, to, e, rfl, hIs⟩, E14⟩
  refine mvt rfl ?_
  refine st_val (ro_extract rfl rfl) ?_
  refine st_val (ro_extract rfl rfl) ?_
  refine st_val (ro_extract rfl rfl) ?_
  refine asi rfl ?_
  refine asi rfl ?_
  refine asi rfl ?_
  refine st_nil (nx_then (cd_seq (cd_seq (cd_region ?_))))
  refine mvi rfl ?_
  refine st_val (ro_neq rfl rfl) ?_
  refine st_nil (nx_then ?_)
  refine cd_cond rfl (fun Q2 => ?_) (fun Q2 => ?_)
  · with_reducible replace Q2 := bx_t Q2
    have hbad := rows_err hIs (by omega)
    refine cd_seq (cd_region ?_)
    refine mvi rfl ?_
    refine ass rfl ?_
    refine asi rfl ?_
    refine st_nil (nx_then (cd_ret (rt_then ?_)))
    refine res2 (v := .slice _ _ _) (v' := .int _ _) rfl rfl rfl ?_
    exact ⟨⟨[], _, none, 0, hbad, rfl, World.ownsRow_nil _ _ _ _⟩, (From.rfl_.next E14)⟩
  with_reducible replace Q2 := bx_f Q2
  obtain rfl : e = 0 := by omega
  obtain ⟨p, hqp, hp0, hpK, rfl, rfl⟩ := rows_ok hIs
  have hrs := rw_sub L p
  refine cd_skip (nx_then (cd_seq (cd_region ?_)))
  refine mvi rfl ?_
  refine mvi rfl ?_
  refine st_val (ro_subN rfl rfl (by omega)) ?_
  refine st_make0 (m := rwT L p - rwF L p) (base := w.heap.size) FmFind_m22 rfl rfl rfl (by omega) (by omega) ((From.rfl_.next E14).size) ?_
  intro g24 w3 E24 hb24 ho24
  refine ass rfl ?_
  refine st_nil (nx_then (cd_seq (cd_seq (cd_region ?_))))
  refine mvi rfl ?_
  refine asi rfl ?_
  refine st_nil (nx_then (cd_block ?_))
  refine cd_loop (G := Nat × Option Addr × Nat) [26, 27, 28, 29, 30, 31, 32, 33, 34, 35, 36] (fun (j, A2, c2) => [(9, .slice A2 j c2), (10, .int .i64 ((rwF L p + j : Nat) : Int))]) (fun (j, A2, c2) w' => rwF L p + j ≤ rwT L p ∧ w'.ownsRow w.heap.size 3 1 (.slice A2 j c2) j ((cI (SA.plc L F (rwF L p) j)).map iV) ∧ A2 ≠ none ∧ From w w') (fun (j, _, _) => rwT L p - (rwF L p + j)) ((0, some ⟨g24, 0, none⟩, rwT L p - rwF L p)) ⟨rfl, (int_eq (by omega)), trivial⟩ ?_ ?_
  · exact ⟨by omega, ho24, fun h => (by cases h), ((From.rfl_.next E14).next E24)⟩
  rintro ⟨j, A2, c2⟩ ρ4 w4 ⟨hj, ho, hA2, hB⟩
  refine cd_seq (cd_seq (cd_region ?_))
  refine mvi rfl ?_
  refine mvi rfl ?_
  refine st_val (ro_lss rfl rfl) ?_
  refine st_nil (nx_then ?_)
  refine cd_cond rfl (fun Q5 => ?_) (fun Q5 => ?_)
  · with_reducible replace Q5 := of_decide_eq_true Q5
    refine cd_skip (nx_then (cd_seq (cd_block (cd_region ?_))))
    refine mvs rfl ?_
    refine mvp rfl ?_
    refine mvi rfl ?_
    refine st_call FmFind_k35 (start_rt base b K a L B F _ (hf.from_ hB) (rwF L p + j) (by omega)) ?_
    rintro v34 w6 ⟨rfl, E34⟩
    refine st_lit1 (v := .int _ _) FmFind_q22 rfl rfl rfl ?_
    intro b35 w7 E35 hb35 hk35
    refine st_appendB FmFind_q22 rfl (by decide) rfl (A := A2) (xs := (cI (SA.plc L F (rwF L p) j)).map iV) (news := [iV ((rowS L F (rwF L p + j) : Nat) : Int)]) (ho.kept_from ((From.rfl_.next E34).next E35)) (((hB.next E34).next E35).size) rfl rfl (fun _ => ⟨b35, 0, rfl, hk35.whole⟩) (fun h => by cases h) (by simp [Value.oneCell']) (by omega) (by omega) ?_
    intro A36 c36 w8 ho36 hg36
    have HF36 := (((hB.next E34).next E35)).grew hg36 (fun k hk => (own_at (ho.kept_from ((From.rfl_.next E34).next E35)) k hk).1)
    refine ass rfl ?_
    refine st_nil (nx_block (nx_then (cd_region ?_)))
    refine mvi rfl ?_
    refine st_val (ro_addN (b := 1) rfl rfl (by omega)) ?_
    refine asi rfl ?_
    refine st_nil ?_
    refine nx_cut ((j + 1, A36, c36)) ⟨rfl, (int_eq (by omega)), trivial⟩ (by (iterate 26 refine agr_cons rfl ?_); exact agr_rfl) ⟨?_, ?_⟩
    · exact ⟨by omega, by rw [plc_own]; exact ho36.kept_from From.rfl_, by obtain ⟨g, e⟩ := own_some ho36 (by omega); rw [e]; exact fun h => (by cases h), HF36⟩
    · show rwT L p - (rwF L p + (j + 1)) < rwT L p - (rwF L p + j); omega
  with_reducible replace Q5 := of_decide_eq_false Q5
  obtain ⟨g2, rfl⟩ := own_ne_none ho hA2
  refine cd_exit ?_
  refine ex_then (ex_then (ex_block (nx_then (cd_seq (cd_region ?_)))))
  refine mvs rfl ?_
  refine st_call FmFind_k36 (sort_some _ c2 g2 0 j (cI (SA.plc L F (rwF L p) j)) _ (ho.kept_from From.rfl_) (by rw [List.length_map, plc_len]) (by rw [List.length_map, plc_len]; omega)) ?_
  rintro v38 w9 ⟨ho38, hg38⟩
  refine st_nil (nx_then (cd_seq (cd_region ?_)))
  refine mvs rfl ?_
  refine ass rfl ?_
  refine asi rfl ?_
  refine st_nil (nx_then (cd_ret ?_))
  refine res2 (v := .slice _ _ _) (v' := .int _ _) rfl rfl rfl ?_
  obtain rfl : j = rwT L p - rwF L p := by omega
  have hs := srt_plc hSA hp0
  rw [← plc_rw] at hs
  rw [hs] at ho38
  have hl9 : rwT L p - rwF L p = (fndL L p).length := by have := (RowOf.own ho38).1; rwa [List.length_map] at this
  rw [hl9] at ho38 ⊢
  exact ⟨⟨fndL L p, 0, _, _, .inr (.inr ⟨p, hqp, hp0, hpK, rfl, rfl⟩), rfl, ho38.kept_from From.rfl_⟩, ((hB).grew hg38 (fun k hk => (own_at (ho.kept_from From.rfl_) k hk).1))⟩
end Go.Proofs.Ytepdgbglaiimaaa

namespace Go.Proofs.Ytepdgbglaiimaaa
open Go.RowKit
open Go.ChangeShapes Go.WideShapes Go.ChangeAt
open Go.Proofs.Ytepdgbglaiimaaa.SA
theorem FmText_e22 : elemQ Try.prog 22 = some (3, 1) := by kernel_rfl
theorem FmText_m22 : makeQ Try.prog 22 = some (3, 8, (.int .i64 0)) := by kernel_rfl
theorem FmText_k30 : callable Try.prog 30 = true := by kernel_rfl
theorem FmText_k35 : callable Try.prog 35 = true := by kernel_rfl
theorem FmText_f56_0 : fieldQ Try.prog 56 0 = some 0 := by kernel_rfl
theorem FmText_g52 : aggQ Try.prog 52 = some false := by kernel_rfl
theorem FmText_k32 : callable Try.prog 32 = true := by kernel_rfl
theorem FmText_f56_3 : fieldQ Try.prog 56 3 = some 3 := by kernel_rfl
theorem FmText_g54 : aggQ Try.prog 54 = some false := by kernel_rfl
theorem FmText_l54 : (elemQ Try.prog 54).isSome = true := by kernel_rfl
theorem FmText_e54 : elemQ Try.prog 54 = some (21, 1) := by kernel_rfl
theorem FmText_g21 : aggQ Try.prog 21 = some false := by kernel_rfl
theorem FmText_s21 : (Try.prog.underlying 21).isSome = true := by kernel_rfl
theorem FmText_i3 : Try.prog.underlying 3 = some (.int .i64) := by kernel_rfl
theorem FmText_k38 : callable Try.prog 38 = true := by kernel_rfl
theorem FmText_z3 : sizeQ Try.prog 3 = some 1 := by kernel_rfl
/-- what Place tells -/
noncomputable def plV (L F : List Nat) (i : Int) : Int := if 0 ≤ i ∧ i ≤ L.length then ((rowS L F i.toNat : Nat) : Int) else 0
noncomputable def plE (L : List Nat) (i : Int) : Int := if 0 ≤ i ∧ i ≤ L.length then 0 else 3
/-- the cells of a part, as far as it is read -/
def txF (L : List Nat) (fr t i : Nat) : Int := if t ≤ fr + i then ((L.getD (fr + i) 0 : Nat) : Int) else 0
theorem txF_put {L : List Nat} {fr t i : Nat} (h : 0 < t) (hf : fr ≤ t - 1) : upd (txF L fr t) (t - 1 - fr) ((L.getD (t - 1) 0 : Nat) : Int) i = txF L fr (t - 1) i := by
  unfold upd txF
  split
  · rename_i e
    subst e
    rw [if_pos (by omega), show fr + (t - 1 - fr) = t - 1 by omega]
  · rename_i e
    by_cases x : t ≤ fr + i
    · rw [if_pos x, if_pos (by omega)]
    · rw [if_neg x, if_neg (by omega)]
theorem txF_start {L : List Nat} {fr t n : Nat} (h : fr + n ≤ t) : ∀ i, i < n → (0 : Int) = txF L fr t i := fun i hi => by
  unfold txF
  rw [if_neg (by omega)]
theorem txF_skip {L : List Nat} {fr t n : Nat} (h : fr + n ≤ t - 1) : ∀ i, i < n → txF L fr t i = txF L fr (t - 1) i := fun i hi => by
  unfold txF
  rw [if_neg (by omega), if_neg (by omega)]
theorem txF_row {w : World} {g n : Nat} {L : List Nat} {fr : Nat} (h : Blk w g 3 (tabI n (txF L fr fr))) (hn : fr + n ≤ L.length) : RowOf iV w (some ⟨g, 0, none⟩) (cI ((L.drop fr).take n)) := fun _ => ⟨g, 0, rfl, fun i hi => by
  have hi2 : i < n := by simp at hi; omega
  have e : (cI ((L.drop fr).take n))[i] = txF L fr fr i := by
    unfold txF
    rw [if_pos (by omega), List.getD_eq_getElem?_getD, List.getElem?_eq_getElem (by omega)]
    simp [cI]
  rw [e, Nat.zero_add]
  exact h.rd i (tabI_at hi2)⟩
set_option maxHeartbeats 400000 in
theorem placeI_rt (base b K a : Nat) (L B F : List Nat) (w : World) (hf : FmAt w base b K a L B F) (i : Int) :
    Rt Try.prog 22 [.pointer (some ⟨b, 0, none⟩), .int .i64 i] w (fun v w' => v = .tuple #[.int .i64 (plV L F i), .int .i64 (plE L i)] ∧ From w w') := by
  have hLn := hf.2.2.2.1
  refine enter (n := 17) Try.func22 rfl rfl rfl ?_
  refine cd_seq (cd_region ?_)
  refine asi rfl ?_
  refine asi rfl ?_
  refine st_nil (nx_then (cd_seq (cd_seq (cd_region ?_))))
  refine mvi rfl ?_
  refine st_val (ro_lss rfl rfl) ?_
  refine mvb rfl ?_
  refine st_split (t := 8) rfl (fun Q1 => ?_) (fun Q1 => ?_)
  · with_reducible replace Q1 := of_decide_eq_true Q1
    refine st_gno rfl rfl ?_
    refine st_gno rfl rfl ?_
    refine st_gno rfl rfl ?_
    refine st_gno rfl rfl ?_
    refine st_val (ro_pickT (v := .bool _) rfl rfl) ?_
    refine st_nil (nx_then ?_)
    refine cd_condT rfl ?_
    refine cd_seq (cd_region ?_)
    refine asi rfl ?_
    refine asi rfl ?_
    refine st_nil (nx_then (cd_ret (rt_then ?_)))
    refine res2 (v := .int _ _) (v' := .int _ _) rfl rfl rfl ?_
    exact ⟨by unfold plV plE; rw [if_neg (by omega), if_neg (by omega)], From.rfl_⟩
  with_reducible replace Q1 := of_decide_eq_false Q1
  refine st_unguard rfl ?_
  refine mvi rfl ?_
  refine st_unguard rfl ?_
  refine mvp rfl ?_
  refine st_unguard rfl ?_
  refine st_call FmText_k30 (size_rt base b K a L B F _ (hf.from_ From.rfl_)) ?_
  rintro v11 w2 ⟨rfl, E11⟩
  refine st_unguard rfl ?_
  refine st_val (ro_gtr rfl rfl) ?_
  refine st_val (ro_pickF (v := .bool _) rfl rfl) ?_
  refine st_nil (nx_then ?_)
  refine cd_cond rfl (fun Q3 => ?_) (fun Q3 => ?_)
  · with_reducible replace Q3 := of_decide_eq_true Q3
    refine cd_seq (cd_region ?_)
    refine asi rfl ?_
    refine asi rfl ?_
    refine st_nil (nx_then (cd_ret (rt_then ?_)))
    refine res2 (v := .int _ _) (v' := .int _ _) rfl rfl rfl ?_
    exact ⟨by unfold plV plE; rw [if_neg (by omega), if_neg (by omega)], (From.rfl_.next E11)⟩
  with_reducible replace Q3 := of_decide_eq_false Q3
  refine cd_skip (nx_then (cd_seq (cd_region ?_)))
  refine mvp rfl ?_
  refine mvi rfl ?_
  refine st_spell (t := 15) (v := .int _ _) (v' := .int .i64 (i.toNat : Nat)) rfl (by rw [Int.toNat_of_nonneg (by omega)]) ?_
  refine st_call FmText_k35 (start_rt base b K a L B F _ (hf.from_ (From.rfl_.next E11)) i.toNat (by omega)) ?_
  rintro v16 w4 ⟨rfl, E16⟩
  refine asi rfl ?_
  refine asi rfl ?_
  refine st_nil (nx_then (cd_ret ?_))
  refine res2 (v := .int _ _) (v' := .int _ _) rfl rfl rfl ?_
  exact ⟨by unfold plV plE; rw [if_pos (by omega), if_pos (by omega)], ((From.rfl_.next E11).next E16)⟩
set_option maxHeartbeats 3000000 in
theorem text_yes (base b K a : Nat) (L B F : List Nat) (w : World) (hf : FmAt w base b K a L B F) (fr n : Nat) (hyes : fr + n ≤ L.length) :
    Rt Try.prog 23 [.pointer (some ⟨b, 0, none⟩), .int .i64 (fr : Nat), .int .i64 (n : Nat)] w (fun v w' => (∃ g, v = .tuple #[.slice (some ⟨g, 0, none⟩) n n, .int .i64 0] ∧ w.heap.size ≤ g ∧ Blk w' g 3 (tabI n (txF L fr fr))) ∧ From w w') := by
  have hff := hf
  obtain ⟨hb0, hSA, hbw, hLn, hK, tb, AS, cs, gr, hI, hT, ho, hR, hgr⟩ := hf
  have hBl := hbw.len
  refine enter (n := 88) Try.func23 rfl rfl rfl ?_
  refine cd_seq (cd_region ?_)
  refine ass rfl ?_
  refine asi rfl ?_
  refine st_nil (nx_then (cd_seq (cd_seq (cd_region ?_))))
  refine mvi rfl ?_
  refine st_val (ro_lss rfl rfl) ?_
  refine mvb rfl ?_
  refine st_split (t := 16) rfl (fun Q1 => ?_) (fun Q1 => ?_)
  · with_reducible replace Q1 := of_decide_eq_true Q1
    exfalso; omega
  with_reducible replace Q1 := of_decide_eq_false Q1
  refine st_unguard rfl ?_
  refine mvi rfl ?_
  refine st_unguard rfl ?_
  refine st_val (ro_lss rfl rfl) ?_
  refine st_val (ro_pickF (v := .bool _) rfl rfl) ?_
  refine mvb rfl ?_
  refine st_split (t := 20) rfl (fun Q2 => ?_) (fun Q2 => ?_)
  · with_reducible replace Q2 := of_decide_eq_true Q2
    exfalso; omega
  with_reducible replace Q2 := of_decide_eq_false Q2
  refine st_unguard rfl ?_
  refine mvi rfl ?_
  refine st_unguard rfl ?_
  refine mvp rfl ?_
  refine st_unguard rfl ?_
  refine st_call FmText_k30 (size_rt base b K a L B F _ (hff.from_ From.rfl_)) ?_
  rintro v23 w3 ⟨rfl, E23⟩
  refine st_unguard rfl ?_
  refine st_val (ro_gtr rfl rfl) ?_
  refine st_val (ro_pickF (v := .bool _) rfl rfl) ?_
  refine mvb rfl ?_
  refine st_split (t := 26) rfl (fun Q4 => ?_) (fun Q4 => ?_)
  · with_reducible replace Q4 := of_decide_eq_true Q4
    exfalso; omega
  with_reducible replace Q4 := of_decide_eq_false Q4
  refine st_unguard rfl ?_
  refine mvi rfl ?_
  refine st_unguard rfl ?_
  refine mvp rfl ?_
  refine st_unguard rfl ?_
  refine st_call FmText_k30 (size_rt base b K a L B F _ (hff.from_ (From.rfl_.next E23))) ?_
  rintro v29 w5 ⟨rfl, E29⟩
  refine st_unguard rfl ?_
  refine mvi rfl ?_
  refine st_unguard rfl ?_
  refine st_val (ro_subN rfl rfl (by omega)) ?_
  refine st_unguard rfl ?_
  refine st_val (ro_gtr rfl rfl) ?_
  refine st_val (ro_pickF (v := .bool _) rfl rfl) ?_
  refine st_nil (nx_then ?_)
  refine cd_cond rfl (fun Q6 => ?_) (fun Q6 => ?_)
  · with_reducible replace Q6 := of_decide_eq_true Q6
    exfalso; omega
  with_reducible replace Q6 := of_decide_eq_false Q6
  refine cd_skip (nx_then (cd_seq (cd_region ?_)))
  refine mvp rfl ?_
  refine st_val (ro_nilCheck rfl) ?_
  refine st_val (ro_fieldAddr FmText_f56_0 rfl) ?_
  refine st_val (ro_load FmText_g52 rfl (by exact (hI.from_ ((From.rfl_.next E23).next E29)).rd 0 rfl)) ?_
  refine st_call FmText_k32 (lenT base tb K B _ (hT.from_ ((From.rfl_.next E23).next E29))) ?_
  rintro v38 w7 ⟨rfl, E38⟩
  refine asi rfl ?_
  refine asi rfl ?_
  refine st_nil (nx_then ?_)
  refine cd_cut (G := Nat × Nat) [10, 39, 40, 41, 42, 43, 44, 45, 46, 47, 48, 49, 50, 51, 52, 53, 54, 55, 56, 57, 58, 59, 60, 61] (fun (r, t) => [(8, .int .i64 (r : Nat)), (9, .int .i64 (t : Nat))]) (fun (r, t) w' => fr + n ≤ t ∧ t ≤ L.length ∧ r ≤ L.length ∧ rowS L F r = t ∧ From w w') ?_ ?_
  · refine cd_seq (cd_region ?_)
    refine mvi rfl ?_
    refine mvi rfl ?_
    refine st_val (ro_addN rfl rfl (by omega)) ?_
    refine st_val (ro_addN (b := 8) rfl rfl (by omega)) ?_
    refine st_val (ro_subN (b := 1) rfl rfl (by omega)) ?_
    refine st_val (ro_quoN (b := 8) rfl rfl (by omega)) ?_
    refine asi rfl ?_
    refine st_nil (nx_then (cd_seq (cd_region ?_)))
    refine mvi rfl ?_
    refine mvp rfl ?_
    refine st_val (ro_nilCheck rfl) ?_
    refine st_val (ro_fieldAddr FmText_f56_3 rfl) ?_
    refine st_val (ro_load FmText_g54 rfl (by exact (hI.from_ (((From.rfl_.next E23).next E29).next E38)).rd 3 rfl)) ?_
    refine st_val (ro_len FmText_l54 rfl) ?_
    refine st_val (ro_lss rfl rfl) ?_
    refine st_nil (nx_then ?_)
    refine cd_cond rfl (fun Q8 => ?_) (fun Q8 => ?_)
    · with_reducible replace Q8 := of_decide_eq_true Q8
      have hrkk := rank_le (L := L) (i := 8 * ((fr + n + 8 - 1) / 8)) (by omega)
      refine cd_region ?_
      refine mvp rfl ?_
      refine st_val (ro_nilCheck rfl) ?_
      refine st_val (ro_fieldAddr FmText_f56_3 rfl) ?_
      refine st_val (ro_load FmText_g54 rfl (by exact (hI.from_ (((From.rfl_.next E23).next E29).next E38)).rd 3 rfl)) ?_
      refine mvi rfl ?_
      refine st_val (ro_indexAddr1 FmText_e54 rfl rfl (by omega)) ?_
      refine st_val (ro_load FmText_g21 rfl (by rw [Nat.zero_add]; exact (hR.from_ (((From.rfl_.next E23).next E29).next E38)).rd _ (tabJ_at (by omega)))) ?_
      refine st_val (ro_convI FmText_s21 FmText_i3 rfl (by omega)) ?_
      refine mvi rfl ?_
      refine st_val (ro_mulN (b := 8) rfl rfl (by omega)) ?_
      refine asi rfl ?_
      refine asi rfl ?_
      refine st_nil ?_
      refine nx_cut ((rank (L.length + 1) (endT L) (8 * ((fr + n + 8 - 1) / 8)), (fr + n + 8 - 1) / 8 * 8)) ⟨(by first | rfl | (refine int_eq ?_; omega)), (by first | rfl | (refine int_eq ?_; omega)), trivial⟩ (by (iterate 26 refine agr_cons rfl ?_); exact agr_rfl) ?_
      exact ⟨by omega, by omega, rank_le (by omega), by rw [rowS_rank hSA (by omega)]; omega, (((From.rfl_.next E23).next E29).next E38)⟩
    with_reducible replace Q8 := of_decide_eq_false Q8
    refine cd_skip ?_
    refine nx_cut ((0, L.length)) ⟨(by first | rfl | (refine int_eq ?_; omega)), (by first | rfl | (refine int_eq ?_; omega)), trivial⟩ (by (iterate 14 refine agr_cons rfl ?_); exact agr_rfl) ?_
    exact ⟨by omega, Nat.le_refl _, by omega, by have := rowS_rank hSA (Nat.le_refl L.length); rwa [rank_n] at this, (((From.rfl_.next E23).next E29).next E38)⟩
  rintro ⟨r, t⟩ ρ9 w9 ⟨ht1, ht2, hr, hrt, hB⟩
  refine cd_seq (cd_region ?_)
  refine mvi rfl ?_
  refine st_make FmText_m22 rfl rfl rfl (by omega) (by omega) ?_
  intro b63 w10 E63 hb63 hk63
  have hg63 : w.heap.size ≤ b63 := by rw [hb63]; exact (hB).size
  refine ass rfl ?_
  refine st_nil (nx_then (cd_seq (cd_block ?_)))
  refine cd_loop (G := Nat × Nat) [12, 13, 64, 65, 66, 67, 68, 69, 70, 71, 72, 73, 74, 75, 76, 77, 78, 79, 80, 81, 82, 83, 84, 85, 86] (fun (r, t) => [(8, .int .i64 (r : Nat)), (9, .int .i64 (t : Nat))]) (fun (r, t) w' => fr ≤ t ∧ t ≤ L.length ∧ r ≤ L.length ∧ rowS L F r = t ∧ Blk w' b63 3 (tabI n (txF L fr t)) ∧ From w w') (fun (_, t) => t) ((r, t)) ⟨rfl, rfl, trivial⟩ ?_ ?_
  · exact ⟨by omega, ht2, hr, hrt, by rw [← tabI_congr (txF_start ht1), ← tabI_zero]; exact hk63, (hB.next E63)⟩
  rintro ⟨r, t⟩ ρ11 w11 ⟨hft, ht2, hr, hrt, hT9, hB⟩
  refine cd_seq (cd_seq (cd_region ?_))
  refine mvi rfl ?_
  refine mvi rfl ?_
  refine st_val (ro_gtr rfl rfl) ?_
  refine st_nil (nx_then ?_)
  refine cd_cond rfl (fun Q12 => ?_) (fun Q12 => ?_)
  · with_reducible replace Q12 := of_decide_eq_true Q12
    refine cd_skip (nx_then (cd_block (cd_seq (cd_region ?_))))
    refine mvp rfl ?_
    refine mvi rfl ?_
    have hra : r ≠ a := fun e => by rw [e, rowS_at hSA hbw] at hrt; omega
    have hlf := rowS_lf hSA hbw hr hra
    refine st_call FmText_k38 (ahead_rt base b K a L B F _ (hff.from_ hB) r hr hra) ?_
    rintro v70 w13 ⟨rfl, E70⟩
    refine mvt rfl ?_
    refine st_val (ro_extract rfl rfl) ?_
    refine st_spell (t := 71) (v := .int _ _) (v' := .int .i64 ((L.getD (t - 1) 0 : Nat) : Int)) rfl (by rw [hlf.2.2.2, hrt]) ?_
    refine st_val (ro_extract rfl rfl) ?_
    refine asi rfl ?_
    refine asi rfl ?_
    refine st_nil (nx_then (cd_seq (cd_region ?_)))
    refine mvi rfl ?_
    refine asi rfl ?_
    refine st_nil (nx_then (cd_seq (cd_region ?_)))
    refine mvi rfl ?_
    refine st_val (ro_subN (b := 1) rfl rfl (by omega)) ?_
    refine asi rfl ?_
    refine st_nil (nx_then (cd_seq (cd_region ?_)))
    refine mvi rfl ?_
    refine mvi rfl ?_
    refine mvi rfl ?_
    refine st_val (ro_addN rfl rfl (by omega)) ?_
    refine st_val (ro_lss rfl rfl) ?_
    refine st_nil (nx_then ?_)
    refine cd_cond rfl (fun Q14 => ?_) (fun Q14 => ?_)
    · with_reducible replace Q14 := of_decide_eq_true Q14
      refine cd_region ?_
      refine mvs rfl ?_
      refine mvi rfl ?_
      refine mvi rfl ?_
      refine st_val (ro_subN rfl rfl (by omega)) ?_
      refine mvi rfl ?_
      refine st_val (ro_indexAddr1 FmText_e22 rfl rfl (by omega)) ?_
      refine st_put (v := .int _ _) FmText_z3 rfl rfl rfl ((hT9.from_ (From.rfl_.next E70))) (by rw [tabI_size]; omega) ?_
      intro w15 O13 P13
      refine st_nil (nx_block ?_)
      refine nx_cut ((lf L.length (fun i => B.getD i 0) a r, t - 1)) ⟨(by first | rfl | (refine int_eq ?_; omega)), (by first | rfl | (refine int_eq ?_; omega)), trivial⟩ (by (iterate 55 refine agr_cons rfl ?_); exact agr_rfl) ⟨?_, ?_⟩
      · exact ⟨by omega, by omega, hlf.1, by omega, by rw [← tabI_congr (fun i _ => txF_put (by omega) (by omega)), ← tabI_set, ← Nat.zero_add (t - 1 - fr)]; exact P13, ((hB.next E70).only O13 (hg63))⟩
      · show t - 1 < t; omega
    with_reducible replace Q14 := of_decide_eq_false Q14
    refine cd_skip (nx_block ?_)
    refine nx_cut ((lf L.length (fun i => B.getD i 0) a r, t - 1)) ⟨(by first | rfl | (refine int_eq ?_; omega)), (by first | rfl | (refine int_eq ?_; omega)), trivial⟩ (by (iterate 49 refine agr_cons rfl ?_); exact agr_rfl) ⟨?_, ?_⟩
    · exact ⟨by omega, by omega, hlf.1, by omega, by rw [← tabI_congr (txF_skip (by omega))]; exact hT9.from_ (From.rfl_.next E70), (hB.next E70)⟩
    · show t - 1 < t; omega
  with_reducible replace Q12 := of_decide_eq_false Q12
  refine cd_exit ?_
  refine ex_then (ex_then (ex_block (nx_then (cd_seq (cd_region ?_)))))
  refine mvs rfl ?_
  refine ass rfl ?_
  refine asi rfl ?_
  refine st_nil (nx_then (cd_ret ?_))
  refine res2 (v := .slice _ _ _) (v' := .int _ _) rfl rfl rfl ?_
  obtain rfl : fr = t := by omega
  exact ⟨⟨b63, rfl, hg63, hT9⟩, hB⟩
set_option maxHeartbeats 400000 in
theorem text_no (base b K a : Nat) (L B F : List Nat) (w : World) (hf : FmAt w base b K a L B F) (fr n : Int) (h64 : -9223372036854775808 ≤ fr ∧ fr ≤ 9223372036854775807 ∧ -9223372036854775808 ≤ n ∧ n ≤ 9223372036854775807) (hno : fr < 0 ∨ n < 0 ∨ (L.length : Int) < fr ∨ (L.length : Int) - fr < n) :
    Rt Try.prog 23 [.pointer (some ⟨b, 0, none⟩), .int .i64 fr, .int .i64 n] w (fun v w' => v = .tuple #[.slice none 0 0, .int .i64 3] ∧ From w w') := by
  have hLn := hf.2.2.2.1
  have hff := hf
  refine enter (n := 88) Try.func23 rfl rfl rfl ?_
  refine cd_seq (cd_region ?_)
  refine ass rfl ?_
  refine asi rfl ?_
  refine st_nil (nx_then (cd_seq (cd_seq (cd_region ?_))))
  refine mvi rfl ?_
  refine st_val (ro_lss rfl rfl) ?_
  refine mvb rfl ?_
  refine st_split (t := 16) rfl (fun Q1 => ?_) (fun Q1 => ?_)
  · with_reducible replace Q1 := of_decide_eq_true Q1
    refine st_gno rfl rfl ?_
    refine st_gno rfl rfl ?_
    refine st_val (ro_pickT (v := .bool _) rfl rfl) ?_
    refine mvb rfl ?_
    refine st_gno rfl rfl ?_
    refine st_gno rfl rfl ?_
    refine st_gno rfl rfl ?_
    refine st_gno rfl rfl ?_
    refine st_val (ro_pickT (v := .bool _) rfl rfl) ?_
    refine mvb rfl ?_
    refine st_gno rfl rfl ?_
    refine st_gno rfl rfl ?_
    refine st_gno rfl rfl ?_
    refine st_gno rfl rfl ?_
    refine st_gno rfl rfl ?_
    refine st_gno rfl rfl ?_
    refine st_val (ro_pickT (v := .bool _) rfl rfl) ?_
    refine st_nil (nx_then ?_)
    refine cd_condT rfl ?_
    refine cd_seq (cd_region ?_)
    refine ass rfl ?_
    refine asi rfl ?_
    refine st_nil (nx_then (cd_ret (rt_then ?_)))
    refine res2 (v := .slice _ _ _) (v' := .int _ _) rfl rfl rfl ?_
    exact ⟨rfl, From.rfl_⟩
  with_reducible replace Q1 := of_decide_eq_false Q1
  refine st_unguard rfl ?_
  refine mvi rfl ?_
  refine st_unguard rfl ?_
  refine st_val (ro_lss rfl rfl) ?_
  refine st_val (ro_pickF (v := .bool _) rfl rfl) ?_
  refine mvb rfl ?_
  refine st_split (t := 20) rfl (fun Q2 => ?_) (fun Q2 => ?_)
  · with_reducible replace Q2 := of_decide_eq_true Q2
    refine st_gno rfl rfl ?_
    refine st_gno rfl rfl ?_
    refine st_gno rfl rfl ?_
    refine st_gno rfl rfl ?_
    refine st_val (ro_pickT (v := .bool _) rfl rfl) ?_
    refine mvb rfl ?_
    refine st_gno rfl rfl ?_
    refine st_gno rfl rfl ?_
    refine st_gno rfl rfl ?_
    refine st_gno rfl rfl ?_
    refine st_gno rfl rfl ?_
    refine st_gno rfl rfl ?_
    refine st_val (ro_pickT (v := .bool _) rfl rfl) ?_
    refine st_nil (nx_then ?_)
    refine cd_condT rfl ?_
    refine cd_seq (cd_region ?_)
    refine ass rfl ?_
    refine asi rfl ?_
    refine st_nil (nx_then (cd_ret (rt_then ?_)))
    refine res2 (v := .slice _ _ _) (v' := .int _ _) rfl rfl rfl ?_
    exact ⟨rfl, From.rfl_⟩
  with_reducible replace Q2 := of_decide_eq_false Q2
  refine st_unguard rfl ?_
  refine mvi rfl ?_
  refine st_unguard rfl ?_
  refine mvp rfl ?_
  refine st_unguard rfl ?_
  refine st_call FmText_k30 (size_rt base b K a L B F _ (hf.from_ From.rfl_)) ?_
  rintro v23 w3 ⟨rfl, E23⟩
  refine st_unguard rfl ?_
  refine st_val (ro_gtr rfl rfl) ?_
  refine st_val (ro_pickF (v := .bool _) rfl rfl) ?_
  refine mvb rfl ?_
  refine st_split (t := 26) rfl (fun Q4 => ?_) (fun Q4 => ?_)
  · with_reducible replace Q4 := of_decide_eq_true Q4
    refine st_gno rfl rfl ?_
    refine st_gno rfl rfl ?_
    refine st_gno rfl rfl ?_
    refine st_gno rfl rfl ?_
    refine st_gno rfl rfl ?_
    refine st_gno rfl rfl ?_
    refine st_val (ro_pickT (v := .bool _) rfl rfl) ?_
    refine st_nil (nx_then ?_)
    refine cd_condT rfl ?_
    refine cd_seq (cd_region ?_)
    refine ass rfl ?_
    refine asi rfl ?_
    refine st_nil (nx_then (cd_ret (rt_then ?_)))
    refine res2 (v := .slice _ _ _) (v' := .int _ _) rfl rfl rfl ?_
    exact ⟨rfl, (From.rfl_.next E23)⟩
  with_reducible replace Q4 := of_decide_eq_false Q4
  refine st_unguard rfl ?_
  refine mvi rfl ?_
  refine st_unguard rfl ?_
  refine mvp rfl ?_
  refine st_unguard rfl ?_
  refine st_call FmText_k30 (size_rt base b K a L B F _ (hf.from_ (From.rfl_.next E23))) ?_
  rintro v29 w5 ⟨rfl, E29⟩
  refine st_unguard rfl ?_
  refine mvi rfl ?_
  refine st_unguard rfl ?_
  refine st_val (ro_sub64 rfl rfl (by omega)) ?_
  refine st_unguard rfl ?_
  refine st_val (ro_gtr rfl rfl) ?_
  refine st_val (ro_pickF (v := .bool _) rfl rfl) ?_
  refine st_nil (nx_then ?_)
  refine cd_cond rfl (fun Q6 => ?_) (fun Q6 => ?_)
  rotate_left
  · with_reducible replace Q6 := of_decide_eq_false Q6
    exfalso; omega
  with_reducible replace Q6 := of_decide_eq_true Q6
  refine cd_seq (cd_region ?_)
  refine ass rfl ?_
  refine asi rfl ?_
  refine st_nil (nx_then (cd_ret (rt_then ?_)))
  refine res2 (v := .slice _ _ _) (v' := .int _ _) rfl rfl rfl ?_
  exact ⟨rfl, ((From.rfl_.next E23).next E29)⟩
end Go.Proofs.Ytepdgbglaiimaaa

namespace Go.Proofs.Ytepdgbglaiimaaa
open Go.RowKit
open Go.ChangeShapes Go.WideShapes Go.ChangeAt
open Go.Proofs.Ytepdgbglaiimaaa.SA
/-- no list has these symbols with this row -/
def Bad (n : Nat) (at_ : Int) (xs : List Int) : Prop := ∀ (B : List Nat) (a : Nat), xs = cI B → (∀ x ∈ B, x < 512) → at_ = (a : Nat) → a ≤ n → ¬ Circ n (fun i => B.getD i 0) a
/-- what Back tells -/
def BackA (w' : World) (base n : Nat) (at_ : Int) (xs : List Int) (v : Value) : Prop :=
  (∃ B a A', xs = cI B ∧ (∀ x ∈ B, x < 512) ∧ at_ = (a : Nat) ∧ a ≤ n ∧ Circ n (fun i => B.getD i 0) a ∧ v = .tuple #[.slice A' n n, .int .i64 0] ∧ w'.ownsRow base 3 1 (.slice A' n n) n ((wl n (fun i => B.getD i 0) a).map fun x : Nat => iV (x : Nat))) ∨
  (Bad n at_ xs ∧ v = .tuple #[.slice none 0 0, .int .i64 1])
end Go.Proofs.Ytepdgbglaiimaaa

namespace Go.Proofs.Ytepdgbglaiimaaa
open Go.RowKit
open Go.ChangeShapes Go.WideShapes Go.ChangeAt
open Go.Proofs.Ytepdgbglaiimaaa.SA
theorem BwtRef_q22 : litQ Try.prog 22 = some (3, 1, 8, (.int .i64 0)) := by kernel_rfl
theorem BwtRef_l22 : (elemQ Try.prog 22).isSome = true := by kernel_rfl
theorem BwtRef_k37 : callable Try.prog 37 = true := by kernel_rfl
set_option maxHeartbeats 400000 in
theorem rows_rt (A : Option Addr) (c n : Nat) (L : List Nat) (w : World) (hr : RowOf iV w A (cI L)) (hn : n = L.length) (hl : n ≤ 131072) :
    Rt Try.prog 21 [.slice A n c] w (fun v w' => (∃ A' c' F, v = .slice A' (n + 1) c' ∧ RowOf iV w' A' (cI (L.length :: F)) ∧ IsSA L F) ∧ From w w') := by
  refine enter (n := 9) Try.func21 rfl rfl rfl ?_
  refine cd_seq (cd_region ?_)
  refine ass rfl ?_
  refine st_nil (nx_then (cd_seq (cd_region ?_)))
  refine mvs rfl ?_
  refine st_val (ro_len BwtRef_l22 rfl) ?_
  refine st_lit1 (v := .int _ _) BwtRef_q22 rfl rfl rfl ?_
  intro b5 w1 E5 hb5 hk5
  have ho5 : (w1).ownsRow w.heap.size 3 1 (.slice (some ⟨b5, 0, none⟩) 1 1) 1 [iV ((n : Nat) : Int)] := own_of (cur := [iV ((n : Nat) : Int)]) (Nat.le_of_eq hb5.symm) hk5 (Nat.le_refl _) (by unfold maxLen; omega) rfl rfl
  have hF5 : From w w1 := (From.rfl_.next E5)
  refine mvs rfl ?_
  refine st_call BwtRef_k37 (refSort_rt L A c n _ (hr.from_ (From.rfl_.next E5)) hn hl) ?_
  rintro v7 w2 ⟨⟨B7, c7, F, rfl, hg7, hSA⟩, E7⟩
  have hln := hg7.len
  have hsl := hSA.len
  refine st_appendB BwtRef_q22 rfl (by decide) rfl (A := some ⟨b5, 0, none⟩) (xs := [iV ((n : Nat) : Int)]) (news := (cI F).map iV) (ho5.kept_from E7) ((((From.rfl_.next E5).next E7)).size) rfl (by simpa using hln.symm) (fun h0 => hg7.src h0) hg7.nil (by simp [Value.oneCell']) (by omega) (by omega) ?_
  intro A8 c8 w3 ho8 hg8
  have HF8 := (((From.rfl_.next E5).next E7)).grew hg8 (fun k hk => (own_at (ho5.kept_from E7) k hk).1)
  refine ass rfl ?_
  refine st_nil (nx_then (cd_ret ?_))
  refine res1 (v := .slice _ _ _) rfl rfl ?_
  refine ⟨⟨A8, c8, F, by rw [Nat.add_comm], ?_, hSA⟩, HF8⟩
  have e8 : [iV ((n : Nat) : Int)] ++ (cI F).map iV = (cI (L.length :: F)).map iV := by rw [hn]; simp [cI]
  rw [e8] at ho8
  exact (RowOf.own ho8).2
end Go.Proofs.Ytepdgbglaiimaaa

namespace Go.Proofs.Ytepdgbglaiimaaa
open Go.RowKit
open Go.ChangeShapes Go.WideShapes Go.ChangeAt
open Go.Proofs.Ytepdgbglaiimaaa.SA
end Go.Proofs.Ytepdgbglaiimaaa

namespace Go.Proofs.Ytepdgbglaiimaaa
open Go.RowKit
open Go.ChangeShapes Go.WideShapes Go.ChangeAt
open Go.Proofs.Ytepdgbglaiimaaa.SA
theorem FmHelp_q22 : litQ Try.prog 22 = some (3, 1, 8, (.int .i64 0)) := by kernel_rfl
theorem FmHelp_f25_1 : fieldQ Try.prog 25 1 = some 1 := by kernel_rfl
theorem FmHelp_g22 : aggQ Try.prog 22 = some false := by kernel_rfl
theorem FmHelp_l22 : (elemQ Try.prog 22).isSome = true := by kernel_rfl
theorem FmHelp_f25_2 : fieldQ Try.prog 25 2 = some 2 := by kernel_rfl
theorem FmHelp_g23 : aggQ Try.prog 23 = some false := by kernel_rfl
theorem FmHelp_l23 : (elemQ Try.prog 23).isSome = true := by kernel_rfl
theorem FmHelp_e23 : elemQ Try.prog 23 = some (22, 1) := by kernel_rfl
theorem FmHelp_f25_3 : fieldQ Try.prog 25 3 = some 3 := by kernel_rfl
theorem FmHelp_k28 : callable Try.prog 28 = true := by kernel_rfl
theorem FmHelp_k24 : callable Try.prog 24 = true := by kernel_rfl
theorem FmHelp_k15 : callable Try.prog 15 = true := by kernel_rfl
theorem FmHelp_k18 : callable Try.prog 18 = true := by kernel_rfl
theorem FmHelp_k19 : callable Try.prog 19 = true := by kernel_rfl
theorem FmHelp_k16 : callable Try.prog 16 = true := by kernel_rfl
theorem FmHelp_f25_0 : fieldQ Try.prog 25 0 = some 0 := by kernel_rfl
theorem FmHelp_g3 : aggQ Try.prog 3 = some false := by kernel_rfl
theorem FmHelp_k20 : callable Try.prog 20 = true := by kernel_rfl
theorem FmHelp_k27 : callable Try.prog 27 = true := by kernel_rfl
theorem FmHelp_p27 : Try.prog.underlying 27 = some (.pointer (Try.prog.pointee 27)) := by kernel_rfl
theorem FmHelp_f56_0 : fieldQ Try.prog 56 0 = some 0 := by kernel_rfl
theorem FmHelp_g52 : aggQ Try.prog 52 = some false := by kernel_rfl
theorem FmHelp_p52 : Try.prog.underlying 52 = some (.pointer (Try.prog.pointee 52)) := by kernel_rfl
/-- patterns -/
def PatsAt (w : World) (D : Option Addr) (ps : List (List Int)) : Prop := 0 < ps.length → ∃ b o, D = some ⟨b, o, none⟩ ∧ ∀ (i : Nat) (hi : i < ps.length), ∃ (A : Option Addr) (c : Nat), w.cell? ⟨b, o + i, none⟩ = some (.slice A ps[i].length c) ∧ RowOf iV w A ps[i] ∧ ps[i].length * 8 ≤ 140737488351232 ∧ ps[i].length ≤ c
theorem PatsAt.from_ {w w' : World} {D : Option Addr} {ps : List (List Int)} (h : PatsAt w D ps) (hF : From w w') : PatsAt w' D ps := fun h0 => by
  obtain ⟨b, o, rfl, hc⟩ := h h0
  refine ⟨b, o, rfl, fun i hi => ?_⟩
  obtain ⟨A, c, h1, h2, h3⟩ := hc i hi
  exact ⟨A, c, cellF hF h1, h2.from_ hF, h3⟩
/-- an ask -/
structure AskF (w : World) (k : Int) (A D B : Option Addr) (L : List Int) (ps : List (List Int)) (is : List Int) : Prop where
  rowL : RowOf iV w A L
  lenL : L.length * 8 ≤ 140737488351232
  pats : PatsAt w D ps
  lenP : ps.length * 24 ≤ 140737488351232
  rowI : RowOf iV w B is
  b64 : ∀ x ∈ is, -9223372036854775808 ≤ x ∧ x ≤ 9223372036854775807
  lenI : is.length * 8 ≤ 140737488351232
theorem AskF.from_ {w w' : World} {k : Int} {A D B : Option Addr} {L : List Int} {ps : List (List Int)} {is : List Int} (h : AskF w k A D B L ps is) (hF : From w w') : AskF w' k A D B L ps is := ⟨h.rowL.from_ hF, h.lenL, h.pats.from_ hF, h.lenP, h.rowI.from_ hF, h.b64, h.lenI⟩
theorem ask_of6 {w : World} {cs : Array Value} {x : (Ty.pr (.int .i64) (.pr (.sl (.int .i64)) (.pr (.sl (.sl (.int .i64))) (.pr (.sl (.int .i64)) .unit)))).den} (hs : cs.size = 4) (h : (Ty.pr (.int .i64) (.pr (.sl (.int .i64)) (.pr (.sl (.sl (.int .i64))) (.pr (.sl (.int .i64)) .unit)))).At w (fun j => cs[j]?) x) :
    ∃ (k : Int) (A : Option Addr) (ca : Nat) (L : List Int) (D : Option Addr) (cp : Nat) (ps : List (List Int)) (B : Option Addr) (cb : Nat) (is : List Int), cs = #[.int .i64 k, .slice A L.length ca, .slice D ps.length cp, .slice B is.length cb] ∧ AskF w k A D B L ps is ∧ L.length ≤ ca := by
  obtain ⟨h0, h1, h2, h3, _⟩ := h
  obtain ⟨A, ca, a0, a1, a2, a3, a4⟩ := at_nums h1
  obtain ⟨B, cb, b0, b1, b2, b3, _⟩ := at_nums h3
  obtain ⟨D, cp, d0, d1, _, d3⟩ := h2
  have e : cs[0]? = some _ := h0.1
  have e0 : cs[1]? = some _ := a0
  have e1 : cs[2]? = some _ := d0
  have e2 : cs[3]? = some _ := b0
  refine ⟨x.1, A, ca, x.2.1, D, cp, x.2.2.1, B, cb, x.2.2.2.1, ?_, ⟨a1, a3, ?_, d1, b1, b2, b3⟩, a4⟩
  · obtain ⟨l⟩ := cs
    match l, hs with
    | [a, b, c, d], _ =>
      simp only [List.getElem?_toArray, List.getElem?_cons_zero, List.getElem?_cons_succ, Option.some.injEq] at e e0 e1 e2
      rw [e, e0, e1, e2]
      rfl
  · intro hp
    obtain ⟨b, o, hD, _, hi⟩ := d3 hp
    refine ⟨b, o, hD, fun i hlt => ?_⟩
    obtain ⟨A, c, c0, c1, _, c3, c4⟩ := at_nums (hi i _ (List.getElem?_eq_getElem hlt))
    exact ⟨A, c, by simpa [Ty.size] using c0, c1, c3, c4⟩
/-- few enough to be played -/
structure Light (L : List Int) (ps : List (List Int)) (is : List Int) : Prop where
  l : L.length ≤ 400
  p : ps.length ≤ 40
  i : is.length ≤ 30
  q : ∀ (j : Nat) (hj : j < ps.length), ps[j].length ≤ 400
theorem FmAt.le {w : World} {base base2 b K a : Nat} {L B F : List Nat} (h : FmAt w base b K a L B F) (hl : base2 ≤ base) : FmAt w base2 b K a L B F := by
  obtain ⟨hb0, hSA, hbw, hLn, hK, tb, AS, cs, gr, hI, hT, ho, hR, hgr⟩ := h
  exact ⟨by omega, hSA, hbw, hLn, hK, tb, AS, cs, gr, hI, hT.le hl, own_le ho hl, hR, by omega⟩
theorem any_bad {k : Int} : ∀ {xs : List Int}, xs.any (badSym k) = !xs.all (okS k)
  | [] => rfl
  | x :: xs => by
    rw [List.any_cons, List.all_cons, any_bad]
    have : badSym k x = !okS k x := by
      unfold badSym okS
      by_cases h : 0 ≤ x <;> by_cases h2 : x < k <;> simp [h, h2] <;> omega
    rw [this, Bool.not_and]
/-- what asks tells of a pattern -/
def askE (k : Int) (q : List Int) : Int := if q.length = 0 then 5 else if q.all (okS k) then 0 else 1
set_option maxHeartbeats 400000 in
theorem num_any (e : Int) (w : World) :
    Rt Try.prog 15 [.int .i64 e] w (fun v w' => v = .int .i64 e ∧ w = w') := by
  refine enter (n := 4) Try.func15 rfl rfl rfl ?_
  refine cd_seq (cd_region ?_)
  refine asi rfl ?_
  refine st_nil (nx_then (cd_seq (cd_region ?_)))
  refine mvi rfl ?_
  refine asi rfl ?_
  refine st_nil (nx_then (cd_ret ?_))
  refine res1 (v := .int _ _) rfl rfl ?_
  exact ⟨rfl, rfl⟩
set_option maxHeartbeats 2000000 in
theorem heavy_rt (k : Int) (A D B : Option Addr) (ca cp cb : Nat) (L : List Int) (ps : List (List Int)) (is : List Int) (w : World) (ha : AskF w k A D B L ps is) :
    Rt Try.prog 8 [.agg #[.int .i64 k, .slice A L.length ca, .slice D ps.length cp, .slice B is.length cb]] w (fun v w' => (∃ h : Bool, v = .bool h ∧ (h = false → Light L ps is)) ∧ From w w') := by
  have hlenL := ha.lenL
  have hlenP := ha.lenP
  have hlenI := ha.lenI
  refine enter (n := 42) Try.func8 rfl rfl rfl ?_
  refine cd_seq (cd_region ?_)
  refine st_box (v := .agg _) rfl ?_
  intro b1 w1 E1 hb1 hk1
  refine asb rfl ?_
  refine st_nil (nx_then (cd_seq (cd_region ?_)))
  refine st_val (ro_fieldAddr FmHelp_f25_1 rfl) ?_
  refine st_val (ro_load FmHelp_g22 rfl (by exact (hk1.from_ From.rfl_).rd 1 rfl)) ?_
  refine st_val (ro_len FmHelp_l22 rfl) ?_
  refine asi rfl ?_
  refine st_nil (nx_then (cd_seq (cd_seq (cd_region ?_))))
  refine asi rfl ?_
  refine st_nil (nx_then (cd_block ?_))
  refine cd_loop (G := Nat × Nat) [8, 9, 10, 11, 12, 13, 14, 15, 16, 17, 18, 19, 20, 21, 22, 23, 24, 25, 26, 27] (fun (n, i) => [(3, .int .i64 (n : Nat)), (4, .int .i64 (i : Nat))]) (fun (n, i) w' => i ≤ ps.length ∧ L.length ≤ n ∧ n ≤ 17592186045500 ∧ (∀ (j : Nat) (hj : j < i) (hp : j < ps.length), ps[j].length ≤ n) ∧ Blk w' b1 25 #[.int .i64 k, .slice A L.length ca, .slice D ps.length cp, .slice B is.length cb] ∧ From w w') (fun (_, i) => ps.length - i) ((L.length, 0)) ⟨rfl, rfl, trivial⟩ ?_ ?_
  · exact ⟨Nat.zero_le _, Nat.le_refl _, by omega, fun j h => absurd h (by omega), hk1, (From.rfl_.next E1)⟩
  rintro ⟨n, i⟩ ρ2 w2 ⟨hi, hLn, hnb, hall, hk1, hB⟩
  refine cd_seq (cd_seq (cd_region ?_))
  refine mvi rfl ?_
  refine st_val (ro_fieldAddr FmHelp_f25_2 rfl) ?_
  refine st_val (ro_load FmHelp_g23 rfl (by exact (hk1.from_ From.rfl_).rd 2 rfl)) ?_
  refine st_val (ro_len FmHelp_l23 rfl) ?_
  refine st_val (ro_lss rfl rfl) ?_
  refine mvb rfl ?_
  refine st_split (t := 13) rfl (fun Q3 => ?_) (fun Q3 => ?_)
  · with_reducible replace Q3 := of_decide_eq_true Q3
    refine st_unguard rfl ?_
    refine mvi rfl ?_
    refine st_unguard rfl ?_
    refine st_val (ro_lss rfl rfl) ?_
    refine st_val (ro_pickT (v := .bool _) rfl rfl) ?_
    refine st_nil (nx_then ?_)
    refine cd_cond rfl (fun Q4 => ?_) (fun Q4 => ?_)
    · with_reducible replace Q4 := of_decide_eq_true Q4
      obtain ⟨bD, oD, rfl, hcD⟩ := ha.pats (by omega)
      obtain ⟨A9, c9, hce, _, hce3⟩ := hcD i (by omega)
      refine cd_skip (nx_then (cd_seq (cd_block (cd_region ?_))))
      refine mvi rfl ?_
      refine st_val (ro_fieldAddr FmHelp_f25_2 rfl) ?_
      refine st_val (ro_load FmHelp_g23 rfl (by exact (hk1.from_ From.rfl_).rd 2 rfl)) ?_
      refine mvi rfl ?_
      refine st_val (ro_indexAddr1 FmHelp_e23 rfl rfl (by omega)) ?_
      refine st_val (ro_load FmHelp_g22 rfl (by exact cellF hB hce)) ?_
      refine st_val (ro_len FmHelp_l22 rfl) ?_
      refine st_val (ro_addN rfl rfl (by omega)) ?_
      refine st_val (ro_addN (b := 1) rfl rfl (by omega)) ?_
      refine asi rfl ?_
      refine st_nil (nx_block (nx_then (cd_region ?_)))
      refine mvi rfl ?_
      refine st_val (ro_addN (b := 1) rfl rfl (by omega)) ?_
      refine asi rfl ?_
      refine st_nil ?_
      refine nx_cut ((n + ps[i].length + 1, i + 1)) ⟨(by first | rfl | (refine int_eq ?_; omega)), (by first | rfl | (refine int_eq ?_; omega)), trivial⟩ (by (iterate 45 refine agr_cons rfl ?_); exact agr_rfl) ⟨?_, ?_⟩
      · exact ⟨by omega, by omega, by omega, fun j hj hp => by
          rcases Nat.eq_or_lt_of_le (Nat.le_of_lt_succ hj) with e | e
          · subst e; omega
          · have := hall j e hp; omega, hk1.from_ From.rfl_, hB⟩
      · show ps.length - (i + 1) < ps.length - i; omega
    with_reducible replace Q4 := of_decide_eq_false Q4
    refine cd_exit ?_
    refine ex_then (ex_then (ex_block (nx_then (cd_seq (cd_region ?_)))))
    refine mvi rfl ?_
    refine st_val (ro_gtr rfl rfl) ?_
    refine mvb rfl ?_
    refine st_split (t := 30) rfl (fun Q5 => ?_) (fun Q5 => ?_)
    rotate_left
    · with_reducible replace Q5 := of_decide_eq_false Q5
      exfalso; omega
    with_reducible replace Q5 := of_decide_eq_true Q5
    refine st_gno rfl rfl ?_
    refine st_gno rfl rfl ?_
    refine st_gno rfl rfl ?_
    refine st_gno rfl rfl ?_
    refine st_val (ro_pickT (v := .bool _) rfl rfl) ?_
    refine mvb rfl ?_
    refine st_gno rfl rfl ?_
    refine st_gno rfl rfl ?_
    refine st_gno rfl rfl ?_
    refine st_gno rfl rfl ?_
    refine st_val (ro_pickT (v := .bool _) rfl rfl) ?_
    refine asb rfl ?_
    refine st_nil (nx_then (cd_ret ?_))
    refine res1 (v := .bool _) rfl rfl ?_
    refine ⟨⟨_, rfl, fun h => ?_⟩, hB⟩
    first
      | (cases h; done)
      | (have hq := of_decide_eq_false h; exact ⟨by omega, by omega, by omega, fun j hj => by have := hall j (by omega) hj; omega⟩)
  with_reducible replace Q3 := of_decide_eq_false Q3
  refine st_gno rfl rfl ?_
  refine st_gno rfl rfl ?_
  refine st_val (ro_pickF (v := .bool _) rfl rfl) ?_
  refine st_nil (nx_then ?_)
  refine cd_condF rfl ?_
  refine cd_exit ?_
  refine ex_then (ex_then (ex_block (nx_then (cd_seq (cd_region ?_)))))
  refine mvi rfl ?_
  refine st_val (ro_gtr rfl rfl) ?_
  refine mvb rfl ?_
  refine st_split (t := 30) rfl (fun Q7 => ?_) (fun Q7 => ?_)
  · with_reducible replace Q7 := of_decide_eq_true Q7
    refine st_gno rfl rfl ?_
    refine st_gno rfl rfl ?_
    refine st_gno rfl rfl ?_
    refine st_gno rfl rfl ?_
    refine st_val (ro_pickT (v := .bool _) rfl rfl) ?_
    refine mvb rfl ?_
    refine st_gno rfl rfl ?_
    refine st_gno rfl rfl ?_
    refine st_gno rfl rfl ?_
    refine st_gno rfl rfl ?_
    refine st_val (ro_pickT (v := .bool _) rfl rfl) ?_
    refine asb rfl ?_
    refine st_nil (nx_then (cd_ret ?_))
    refine res1 (v := .bool _) rfl rfl ?_
    refine ⟨⟨_, rfl, fun h => ?_⟩, hB⟩
    first
      | (cases h; done)
      | (have hq := of_decide_eq_false h; exact ⟨by omega, by omega, by omega, fun j hj => by have := hall j (by omega) hj; omega⟩)
  with_reducible replace Q7 := of_decide_eq_false Q7
  refine st_unguard rfl ?_
  refine st_val (ro_fieldAddr FmHelp_f25_2 rfl) ?_
  refine st_unguard rfl ?_
  refine st_val (ro_load FmHelp_g23 rfl (by exact (hk1.from_ From.rfl_).rd 2 rfl)) ?_
  refine st_unguard rfl ?_
  refine st_val (ro_len FmHelp_l23 rfl) ?_
  refine st_unguard rfl ?_
  refine st_val (ro_gtr rfl rfl) ?_
  refine st_val (ro_pickF (v := .bool _) rfl rfl) ?_
  refine mvb rfl ?_
  refine st_split (t := 36) rfl (fun Q8 => ?_) (fun Q8 => ?_)
  · with_reducible replace Q8 := of_decide_eq_true Q8
    refine st_gno rfl rfl ?_
    refine st_gno rfl rfl ?_
    refine st_gno rfl rfl ?_
    refine st_gno rfl rfl ?_
    refine st_val (ro_pickT (v := .bool _) rfl rfl) ?_
    refine asb rfl ?_
    refine st_nil (nx_then (cd_ret ?_))
    refine res1 (v := .bool _) rfl rfl ?_
    refine ⟨⟨_, rfl, fun h => ?_⟩, hB⟩
    first
      | (cases h; done)
      | (have hq := of_decide_eq_false h; exact ⟨by omega, by omega, by omega, fun j hj => by have := hall j (by omega) hj; omega⟩)
  with_reducible replace Q8 := of_decide_eq_false Q8
  refine st_unguard rfl ?_
  refine st_val (ro_fieldAddr FmHelp_f25_3 rfl) ?_
  refine st_unguard rfl ?_
  refine st_val (ro_load FmHelp_g22 rfl (by exact (hk1.from_ From.rfl_).rd 3 rfl)) ?_
  refine st_unguard rfl ?_
  refine st_val (ro_len FmHelp_l22 rfl) ?_
  refine st_unguard rfl ?_
  refine st_val (ro_gtr rfl rfl) ?_
  refine st_val (ro_pickF (v := .bool _) rfl rfl) ?_
  refine asb rfl ?_
  refine st_nil (nx_then (cd_ret ?_))
  refine res1 (v := .bool _) rfl rfl ?_
  refine ⟨⟨_, rfl, fun h => ?_⟩, hB⟩
  first
    | (cases h; done)
    | (have hq := of_decide_eq_false h; exact ⟨by omega, by omega, by omega, fun j hj => by have := hall j (by omega) hj; omega⟩)
set_option maxHeartbeats 400000 in
theorem refTree_rt (k : Int) (A : Option Addr) (c n : Nat) (xs : List Int) (w : World) (hr : RowOf iV w A xs) (hn : n = xs.length) (hl : n ≤ 1000000) :
    Rt Try.prog 27 [.int .i64 k, .slice A n c] w (fun v w' => v = .int .i64 (chkW k xs) ∧ From w w') := by
  refine enter (n := 20) Try.func27 rfl rfl rfl ?_
  refine cd_seq (cd_region ?_)
  refine asi rfl ?_
  refine st_nil (nx_then (cd_seq (cd_seq (cd_region ?_))))
  refine mvi rfl ?_
  refine st_val (ro_lss rfl rfl) ?_
  refine mvb rfl ?_
  refine st_split (t := 7) rfl (fun Q1 => ?_) (fun Q1 => ?_)
  · replace Q1 := of_decide_eq_true Q1
    refine st_gno rfl rfl ?_
    refine st_gno rfl rfl ?_
    refine st_val (ro_pickT (v := .bool _) rfl rfl) ?_
    refine mvb rfl ?_
    refine st_gno rfl rfl ?_
    refine st_gno rfl rfl ?_
    refine st_gno rfl rfl ?_
    refine st_gno rfl rfl ?_
    refine st_val (ro_pickT (v := .bool _) rfl rfl) ?_
    refine st_nil (nx_then ?_)
    refine cd_condT rfl ?_
    refine cd_seq (cd_region ?_)
    refine asi rfl ?_
    refine st_nil (nx_then (cd_ret (rt_then ?_)))
    refine res1 (v := .int _ _) rfl rfl ?_
    refine ⟨int_eq ?_, From.rfl_⟩
    have h17 : k < 1 ∨ 512 < k ∨ xs.any (badSym k) = true := by first | exact h16 | (left; omega) | (right; left; omega)
    unfold chkW
    by_cases h1 : k < 1 ∨ 512 < k
    · rw [if_pos h1]
    · rw [if_neg h1, if_pos (by rcases h17 with a | a | a <;> first | exact a | omega)]
  replace Q1 := of_decide_eq_false Q1
  refine st_unguard rfl ?_
  refine mvi rfl ?_
  refine st_unguard rfl ?_
  refine st_val (ro_gtr rfl rfl) ?_
  refine st_val (ro_pickF (v := .bool _) rfl rfl) ?_
  refine mvb rfl ?_
  refine st_split (t := 11) rfl (fun Q2 => ?_) (fun Q2 => ?_)
  · replace Q2 := of_decide_eq_true Q2
    refine st_gno rfl rfl ?_
    refine st_gno rfl rfl ?_
    refine st_gno rfl rfl ?_
    refine st_gno rfl rfl ?_
    refine st_val (ro_pickT (v := .bool _) rfl rfl) ?_
    refine st_nil (nx_then ?_)
    refine cd_condT rfl ?_
    refine cd_seq (cd_region ?_)
    refine asi rfl ?_
    refine st_nil (nx_then (cd_ret (rt_then ?_)))
    refine res1 (v := .int _ _) rfl rfl ?_
    refine ⟨int_eq ?_, From.rfl_⟩
    have h17 : k < 1 ∨ 512 < k ∨ xs.any (badSym k) = true := by first | exact h16 | (left; omega) | (right; left; omega)
    unfold chkW
    by_cases h1 : k < 1 ∨ 512 < k
    · rw [if_pos h1]
    · rw [if_neg h1, if_pos (by rcases h17 with a | a | a <;> first | exact a | omega)]
  replace Q2 := of_decide_eq_false Q2
  refine st_unguard rfl ?_
  refine mvi rfl ?_
  refine st_unguard rfl ?_
  refine mvs rfl ?_
  refine st_unguard rfl ?_
  refine st_call FmHelp_k28 (may_rt k A c n xs _ (hr.from_ From.rfl_) hn (by omega)) ?_
  rintro v14 w3 ⟨rfl, E14⟩
  refine st_unguard rfl ?_
  refine st_val (ro_not rfl) ?_
  refine st_val (ro_pickF (v := .bool _) rfl rfl) ?_
  refine st_nil (nx_then ?_)
  refine cd_cond rfl (fun Q4 => ?_) (fun Q4 => ?_)
  · replace Q4 := bn_t Q4
    have h16 : k < 1 ∨ 512 < k ∨ xs.any (badSym k) = true := by first | omega | (right; right; rw [any_bad]; simpa using Q4)
    refine cd_seq (cd_region ?_)
    refine asi rfl ?_
    refine st_nil (nx_then (cd_ret (rt_then ?_)))
    refine res1 (v := .int _ _) rfl rfl ?_
    refine ⟨int_eq ?_, (From.rfl_.next E14)⟩
    have h17 : k < 1 ∨ 512 < k ∨ xs.any (badSym k) = true := by first | exact h16 | (left; omega) | (right; left; omega)
    unfold chkW
    by_cases h1 : k < 1 ∨ 512 < k
    · rw [if_pos h1]
    · rw [if_neg h1, if_pos (by rcases h17 with a | a | a <;> first | exact a | omega)]
  replace Q4 := bn_f Q4
  have h16 : xs.any (badSym k) = false := by rw [any_bad]; simpa using Q4
  refine cd_skip (nx_then (cd_seq (cd_seq (cd_region ?_))))
  refine mvs rfl ?_
  refine st_val (ro_len FmHelp_l22 rfl) ?_
  refine st_val (ro_gtr rfl rfl) ?_
  refine st_nil (nx_then ?_)
  refine cd_cond rfl (fun Q5 => ?_) (fun Q5 => ?_)
  · replace Q5 := of_decide_eq_true Q5
    refine cd_seq (cd_region ?_)
    refine asi rfl ?_
    refine st_nil (nx_then (cd_ret (rt_then ?_)))
    refine res1 (v := .int _ _) rfl rfl ?_
    exact ⟨int_eq (by unfold chkW; rw [if_neg (by omega), if_neg (by rw [h16]; simp), if_pos (by omega)]), (From.rfl_.next E14)⟩
  replace Q5 := of_decide_eq_false Q5
  refine cd_skip (nx_then (cd_seq (cd_region ?_)))
  refine asi rfl ?_
  refine st_nil (nx_then (cd_ret ?_))
  refine res1 (v := .int _ _) rfl rfl ?_
  exact ⟨int_eq (by unfold chkW; rw [if_neg (by omega), if_neg (by rw [h16]; simp), if_neg (by omega)]), (From.rfl_.next E14)⟩
theorem chk10 : chkW 2 [1, 0, 1, 0] = 0 := by decide
theorem fnd10 : fndL [1, 0, 1, 0] [1, 0] = [0, 2] := by
  have b0 : pBg (endT [1, 0, 1, 0]) 0 [1, 0] := (bg_iff (by decide)).2 ⟨by decide, by decide⟩
  have b1 : ¬ pBg (endT [1, 0, 1, 0]) 1 [1, 0] := fun h => absurd ((bg_iff (by decide)).1 h).2 (by decide)
  have b2 : pBg (endT [1, 0, 1, 0]) 2 [1, 0] := (bg_iff (by decide)).2 ⟨by decide, by decide⟩
  have b3 : ¬ pBg (endT [1, 0, 1, 0]) 3 [1, 0] := fun h => absurd ((bg_iff (by decide)).1 h).1 (by decide)
  show fndTo [1, 0, 1, 0] [1, 0] 4 = [0, 2]
  rw [fndTo_no b3, fndTo_yes b2, fndTo_no b1, fndTo_yes b0]
  rfl
theorem row_four {w : World} {g : Nat} {x y z u : Int} (h : Blk w g 3 #[.int .i64 x, .int .i64 y, .int .i64 z, .int .i64 u]) : RowOf iV w (some ⟨g, 0, none⟩) [x, y, z, u] := fun _ => ⟨g, 0, rfl, fun i hi => by
  match i, hi with
  | 0, _ => exact h.rd 0 rfl
  | 1, _ => exact h.rd 1 rfl
  | 2, _ => exact h.rd 2 rfl
  | 3, _ => exact h.rd 3 rfl⟩
theorem build_10 (g : Nat) (w : World) (h : Blk w g 3 #[.int .i64 1, .int .i64 0, .int .i64 1, .int .i64 0]) : Rt Try.prog 24 [.int .i64 2, .slice (some ⟨g, 0, none⟩) 4 4] w fun v w' => (∃ b a B F, FmAt w' w.heap.size b 2 a [1, 0, 1, 0] B F ∧ v = .tuple #[.pointer (some ⟨b, 0, none⟩), .int .i64 0]) ∧ From w w' := by
  refine (build_rt 2 (some ⟨g, 0, none⟩) 4 4 [1, 0, 1, 0] w (row_four h) rfl (by omega)).mono fun v w' h => ?_
  obtain ⟨h, hF⟩ := h
  refine ⟨?_, hF⟩
  rcases h with ⟨h, _⟩ | ⟨_, K, b, a, L, B, F, hK, hL, _, hf, rfl⟩
  · exact absurd chk10 h
  · obtain rfl : K = 2 := by omega
    obtain rfl : L = [1, 0, 1, 0] := cI_inj hL.symm
    exact ⟨b, a, B, F, hf, rfl⟩
theorem find_10 (base b a g : Nat) (B F : List Nat) (w : World) (hf : FmAt w base b 2 a [1, 0, 1, 0] B F) (h : Blk w g 3 #[.int .i64 1, .int .i64 0]) : Rt Try.prog 18 [.pointer (some ⟨b, 0, none⟩), .slice (some ⟨g, 0, none⟩) 2 2] w fun v w' => (∃ A' c', v = .tuple #[.slice A' 2 c', .int .i64 0] ∧ RowOf iV w' A' [0, 2]) ∧ From w w' := by
  refine (find_rt base b 2 a [1, 0, 1, 0] B F w hf (some ⟨g, 0, none⟩) 2 2 [1, 0] (row_two h) rfl (by omega)).mono fun v w' h => ?_
  obtain ⟨⟨l, e, A', c', hi, rfl, ho⟩, hF⟩ := h
  refine ⟨?_, hF⟩
  rcases hi with ⟨h, _⟩ | ⟨_, h, _⟩ | ⟨p, hp, _, _, rfl, rfl⟩
  · cases h
  · exact absurd h (by decide)
  · obtain rfl : p = [1, 0] := cI_inj hp.symm
    rw [fnd10] at ho ⊢
    exact ⟨A', c', rfl, (RowOf.own ho).2⟩
set_option maxHeartbeats 400000 in
theorem wakes_rt (w : World) :
    Rt Try.prog 10 [] w (fun v w' => v = .bool true ∧ From w w') := by
  refine enter (n := 31) Try.func10 rfl rfl rfl ?_
  refine cd_seq (cd_region ?_)
  refine asb rfl ?_
  refine st_nil (nx_then (cd_seq (cd_region ?_)))
  refine st_lits [.const (.int .i64 1), .const (.int .i64 0), .const (.int .i64 1), .const (.int .i64 0)] [.int .i64 1, .int .i64 0, .int .i64 1, .int .i64 0] FmHelp_q22 rfl rfl rfl rfl (by simp [Value.cells]) ?_
  intro b6 w1 E6 hb6 hk6
  refine st_call FmHelp_k24 (build_10 b6 _ hk6) ?_
  rintro v7 w2 ⟨⟨b, a, B7, F7, hf7, rfl⟩, E7⟩
  refine mvt rfl ?_
  refine st_val (ro_extract rfl rfl) ?_
  refine st_val (ro_extract rfl rfl) ?_
  refine asp rfl ?_
  refine asi rfl ?_
  refine st_nil (nx_then (cd_seq (cd_seq (cd_region ?_))))
  refine mvi rfl ?_
  refine st_call FmHelp_k15 (num_any _ _) ?_
  rintro v11 w3 ⟨rfl, rfl⟩
  refine st_val (ro_bf (ro_neq rfl rfl) rfl) ?_
  refine mvb rfl ?_
  refine st_unguard rfl ?_
  refine mvp rfl ?_
  refine st_unguard rfl ?_
  refine st_val (ro_bf (ro_eqlNil (by kernel_rfl) rfl rfl) rfl) ?_
  refine st_val (ro_pickF (v := .bool _) rfl rfl) ?_
  refine st_nil (nx_then ?_)
  refine cd_condF rfl ?_
  refine cd_skip (nx_then (cd_seq (cd_region ?_)))
  refine mvp rfl ?_
  refine st_lits [.const (.int .i64 1), .const (.int .i64 0)] [.int .i64 1, .int .i64 0] FmHelp_q22 rfl rfl rfl rfl (by simp [Value.cells]) ?_
  intro b19 w4 E19 hb19 hk19
  refine st_call FmHelp_k18 (find_10 _ b a b19 B7 F7 _ (hf7.from_ (From.rfl_.next E19)) hk19) ?_
  rintro v20 w5 ⟨⟨A20, c20, rfl, hr20⟩, E20⟩
  refine mvt rfl ?_
  refine st_val (ro_extract rfl rfl) ?_
  refine st_val (ro_extract rfl rfl) ?_
  refine ass rfl ?_
  refine asi rfl ?_
  refine st_nil (nx_then (cd_seq (cd_region ?_)))
  refine mvi rfl ?_
  refine st_call FmHelp_k15 (num_any _ _) ?_
  rintro v24 w6 ⟨rfl, rfl⟩
  refine st_val (ro_bt (ro_eql rfl rfl) rfl) ?_
  refine mvb rfl ?_
  refine st_unguard rfl ?_
  refine mvs rfl ?_
  refine st_unguard rfl ?_
  refine st_lits [.const (.int .i64 0), .const (.int .i64 2)] [.int .i64 0, .int .i64 2] FmHelp_q22 rfl rfl rfl rfl (by simp [Value.cells]) ?_
  intro b28 w7 E28 hb28 hk28
  refine st_unguard rfl ?_
  refine st_call FmHelp_k19 (eq_same A20 (some ⟨b28, 0, none⟩) c20 2 2 2 [0, 2] _ (hr20.from_ E28) (row_two hk28) rfl rfl (by omega)) ?_
  rintro v29 w8 ⟨rfl, E29⟩
  refine st_val (ro_pickT (v := .bool _) rfl rfl) ?_
  refine asb rfl ?_
  refine st_nil (nx_then (cd_ret ?_))
  refine res1 (v := .bool _) rfl rfl ?_
  exact ⟨rfl, ((((((From.rfl_.next E6).next E7).next E19).next E20).next E28).next E29)⟩
theorem TreeAt.grown {w w' : World} {base b k : Nat} {L : List Nat} {r : Option Nat} (h : TreeAt w base b k L) (hg : w.grownBy w' r) (hne : ∀ q, r = some q → q < base) : TreeAt w' base b k L := by
  obtain ⟨hb0, AT, cT, g, vs, hT, ho, hVs, hg0, hg2, hrest⟩ := h
  exact ⟨hb0, AT, cT, g, vs, hT.grown hg (fun q hq => by have := hne q hq; omega), own_kept ho hg hne, fun j hj => (hVs j hj).grown hg hne, hg0, hg2.grown hg (fun q hq => by have := hne q hq; omega), hrest⟩
theorem FmAt.grown {w w' : World} {base b K a : Nat} {L B F : List Nat} {r : Option Nat} (h : FmAt w base b K a L B F) (hg : w.grownBy w' r) (hne : ∀ q, r = some q → q < base) : FmAt w' base b K a L B F := by
  obtain ⟨hb0, hSA, hbw, hLn, hK, tb, AS, cs, gr, hI, hT, ho, hR, hgr⟩ := h
  exact ⟨hb0, hSA, hbw, hLn, hK, tb, AS, cs, gr, hI.grown hg (fun q hq => by have := hne q hq; omega), hT.grown hg hne, own_kept ho hg hne, hR.grown hg (fun q hq => by have := hne q hq; omega), hgr⟩
theorem FmAt.ptr {w : World} {base b K a : Nat} {L B F : List Nat} (h : FmAt w base b K a L B F) : ∃ tb AS cs gr, Blk w b 56 #[.pointer (some ⟨tb, 0, none⟩), .int .i64 (a : Nat), .slice AS (smp L F (L.length + 1)).length cs, .slice (some ⟨gr, 0, none⟩) (L.length / 8 + 1) (L.length / 8 + 1)] := by
  obtain ⟨hb0, hSA, hbw, hLn, hK, tb, AS, cs, gr, hI, hT, ho, hR, hgr⟩ := h
  exact ⟨tb, AS, cs, gr, hI⟩
set_option maxHeartbeats 400000 in
theorem made_rt (k : Int) (A D B : Option Addr) (ca cp cb : Nat) (L : List Int) (ps : List (List Int)) (is : List Int) (w : World) (ha : AskF w k A D B L ps is) (hl : L.length ≤ 400) :
    Rt Try.prog 9 [.agg #[.int .i64 k, .slice A L.length ca, .slice D ps.length cp, .slice B is.length cb]] w (fun v w' => BuildA w' w.heap.size k L v ∧ From w w') := by
  refine enter (n := 49) Try.func9 rfl rfl rfl ?_
  refine cd_seq (cd_region ?_)
  refine st_box (v := .agg _) rfl ?_
  intro b1 w1 E1 hb1 hk1
  refine asp rfl ?_
  refine asi rfl ?_
  refine st_nil (nx_then (cd_seq (cd_region ?_)))
  refine st_val (ro_fieldAddr FmHelp_f25_1 rfl) ?_
  refine st_val (ro_load FmHelp_g22 rfl (by exact (hk1.from_ From.rfl_).rd 1 rfl)) ?_
  have hB10 := (From.rfl_.next E1)
  have hl10 := (hk1.from_ From.rfl_).lt
  refine st_call FmHelp_k16 (copyNums_any A ca L _ (ha.rowL.from_ (From.rfl_.next E1)) ha.lenL) ?_
  rintro v10 w2 ⟨A10, c10, rfl, ho10, E10⟩
  refine ass rfl ?_
  refine st_nil (nx_then (cd_seq (cd_region ?_)))
  refine st_val (ro_fieldAddr FmHelp_f25_0 rfl) ?_
  refine st_val (ro_load FmHelp_g3 rfl (by exact (hk1.from_ (From.rfl_.next E10)).rd 0 rfl)) ?_
  refine mvs rfl ?_
  have hB15 := ((From.rfl_.next E1).next E10)
  refine st_call FmHelp_k24 (build_rt k A10 c10 L.length L _ (RowOf.own ho10).2 rfl (by omega)) ?_
  rintro v15 w3 ⟨hs15, E15⟩
  replace hk1 := hk1.from_ ((From.rfl_.next E10).next E15)
  rcases hs15 with ⟨hck, rfl⟩ | ⟨hck, K, b, a, Ln, Bs, F, hKk, hLn, hlt, hf, rfl⟩
  · have hb33 : (chkW k L != 0) = true := by simpa using hck
    refine mvt rfl ?_
    refine st_val (ro_extract rfl rfl) ?_
    refine st_val (ro_extract rfl rfl) ?_
    refine asp rfl ?_
    refine asi rfl ?_
    refine st_nil (nx_then (cd_seq (cd_region ?_)))
    refine mvs rfl ?_
    refine st_call FmHelp_k20 (spoilNums_any _ A10 c10 L _ (ho10.kept_from E15) ha.lenL (by have := E10.size; have := E15.size; omega)) ?_
    rintro v19 w4 hg19
    replace hk1 := hk1.grown hg19 (fun k hk => by have := own_at ho10 k hk; omega)
    (try replace hf := hf.grown hg19 (fun k hk => (own_at ho10 k hk).2))
    (try obtain ⟨tb, AS, cs, gr, hI⟩ := hf.ptr)
    refine st_nil (nx_then (cd_seq (cd_region ?_)))
    refine st_val (ro_fieldAddr FmHelp_f25_0 rfl) ?_
    refine st_val (ro_load FmHelp_g3 rfl (by exact (hk1.from_ From.rfl_).rd 0 rfl)) ?_
    refine st_val (ro_fieldAddr FmHelp_f25_1 rfl) ?_
    refine st_val (ro_load FmHelp_g22 rfl (by exact (hk1.from_ From.rfl_).rd 1 rfl)) ?_
    refine st_call FmHelp_k27 (refTree_rt k A ca L.length L _ (ha.rowL.from_ ((((From.rfl_.next E1).next E10).next E15).grew hg19 (fun k hk => Nat.le_trans hB10.size (own_at ho10 k hk).1))) rfl (by omega)) ?_
    rintro v24 w5 ⟨rfl, E24⟩
    refine asi rfl ?_
    refine st_nil (nx_then (cd_seq (cd_seq (cd_region ?_))))
    refine mvi rfl ?_
    refine st_call FmHelp_k15 (num_any _ _) ?_
    rintro v26 w6 ⟨rfl, rfl⟩
    refine mvi rfl ?_
    refine st_val (ro_neq rfl rfl) ?_
    refine mvb rfl ?_
    refine st_split (t := 29) rfl (fun Q7 => ?_) (fun Q7 => ?_)
    · replace Q7 := bn_t Q7; replace Q7 := be_f Q7
      first
       | (exfalso; first | (first | omega | (simp [hb33] at *; done); trace "@MK D made_rt:f15.0.g29+ 1") | (contradiction; trace "@MK D made_rt:f15.0.g29+ 2") | ((cases Q7; done); trace "@MK D made_rt:f15.0.g29+ 3"))
       | (trace "@MK D made_rt:f15.0.g29+ 0")
         refine st_gno rfl rfl ?_
         refine st_gno rfl rfl ?_
         refine st_gno rfl rfl ?_
         refine st_gno rfl rfl ?_
         refine st_gno rfl rfl ?_
         refine st_val (ro_pickT (v := .bool _) rfl rfl) ?_
         refine mvb rfl ?_
         refine st_gno rfl rfl ?_
         refine st_gno rfl rfl ?_
         refine st_gno rfl rfl ?_
         refine st_gund rfl ?_
         refine st_gund rfl ?_
         refine st_gund rfl ?_
         refine st_gund rfl ?_
         refine st_gund rfl ?_
         refine st_gno rfl rfl ?_
         refine st_val (ro_pickT (v := .bool _) rfl rfl) ?_
         refine st_nil (nx_then ?_)
         refine cd_condT rfl ?_
         refine cd_seq (cd_region ?_)
         refine asp rfl ?_
         refine asi rfl ?_
         refine st_nil (nx_then (cd_ret (rt_then ?_)))
         refine res2 (v := .pointer _) (v' := .int _ _) rfl rfl rfl ?_
         exfalso; simp_all
    replace Q7 := bn_f Q7; replace Q7 := be_t Q7
    refine st_unguard rfl ?_
    refine mvp rfl ?_
    refine st_unguard rfl ?_
    refine st_val (ro_eqlNil FmHelp_p27 rfl rfl) ?_
    refine st_unguard rfl ?_
    refine mvi rfl ?_
    refine st_unguard rfl ?_
    refine st_val (ro_neq rfl rfl) ?_
    refine st_unguard rfl ?_
    refine st_val (ro_neqB (by kernel_rfl) rfl rfl) ?_
    refine st_val (ro_pickF (v := .bool _) rfl rfl) ?_
    refine mvb rfl ?_
    refine st_split (t := 36) rfl (fun Q8 => ?_) (fun Q8 => ?_)
    · replace Q8 := bn_t Q8; replace Q8 := be_f Q8
      exfalso; first | omega | (simp [hb33] at *; done)
    replace Q8 := bn_f Q8; replace Q8 := be_t Q8
    refine st_unguard rfl ?_
    refine mvp rfl ?_
    refine st_unguard rfl ?_
    refine st_val (ro_neqNil FmHelp_p27 rfl rfl) ?_
    refine st_unguard rfl ?_
    refine mvb rfl ?_
    refine st_split (t := 39) rfl (fun Q9 => ?_) (fun Q9 => ?_)
    · replace Q9 := bn_t Q9
      exfalso; first | omega | (simp [hb33] at *; done)
    replace Q9 := bn_f Q9
    refine st_gno rfl rfl ?_
    refine st_gno rfl rfl ?_
    refine st_gno rfl rfl ?_
    refine st_gno rfl rfl ?_
    refine st_gno rfl rfl ?_
    refine st_unguard rfl ?_
    refine st_val (ro_pickF (v := .bool _) rfl rfl) ?_
    refine st_val (ro_pickF (v := .bool _) rfl rfl) ?_
    refine st_nil (nx_then ?_)
    refine cd_condF rfl ?_
    refine cd_skip (nx_then (cd_seq (cd_region ?_)))
    refine mvp rfl ?_
    refine mvi rfl ?_
    refine asp rfl ?_
    refine asi rfl ?_
    refine st_nil (nx_then (cd_ret ?_))
    refine res2 (v := .pointer _) (v' := .int _ _) rfl rfl rfl ?_
    first
      | exact ⟨.inl ⟨hck, rfl⟩, (((((From.rfl_.next E1).next E10).next E15).grew hg19 (fun k hk => Nat.le_trans hB10.size (own_at ho10 k hk).1)).next E24)⟩
      | exact ⟨.inr ⟨hck, K, b, a, Ln, Bs, F, hKk, hLn, hlt, (hf.from_ (From.rfl_.next E24)).le hB15.size, by rw [hck]⟩, (((((From.rfl_.next E1).next E10).next E15).grew hg19 (fun k hk => Nat.le_trans hB10.size (own_at ho10 k hk).1)).next E24)⟩
  have hb33 : (chkW k L != 0) = false := by rw [hck]; rfl
  refine mvt rfl ?_
  refine st_val (ro_extract rfl rfl) ?_
  refine st_val (ro_extract rfl rfl) ?_
  refine asp rfl ?_
  refine asi rfl ?_
  refine st_nil (nx_then (cd_seq (cd_region ?_)))
  refine mvs rfl ?_
  refine st_call FmHelp_k20 (spoilNums_any _ A10 c10 L _ (ho10.kept_from E15) ha.lenL (by have := E10.size; have := E15.size; omega)) ?_
  rintro v19 w11 hg19
  replace hk1 := hk1.grown hg19 (fun k hk => by have := own_at ho10 k hk; omega)
  (try replace hf := hf.grown hg19 (fun k hk => (own_at ho10 k hk).2))
  (try obtain ⟨tb, AS, cs, gr, hI⟩ := hf.ptr)
  refine st_nil (nx_then (cd_seq (cd_region ?_)))
  refine st_val (ro_fieldAddr FmHelp_f25_0 rfl) ?_
  refine st_val (ro_load FmHelp_g3 rfl (by exact (hk1.from_ From.rfl_).rd 0 rfl)) ?_
  refine st_val (ro_fieldAddr FmHelp_f25_1 rfl) ?_
  refine st_val (ro_load FmHelp_g22 rfl (by exact (hk1.from_ From.rfl_).rd 1 rfl)) ?_
  refine st_call FmHelp_k27 (refTree_rt k A ca L.length L _ (ha.rowL.from_ ((((From.rfl_.next E1).next E10).next E15).grew hg19 (fun k hk => Nat.le_trans hB10.size (own_at ho10 k hk).1))) rfl (by omega)) ?_
  rintro v24 w12 ⟨rfl, E24⟩
  refine asi rfl ?_
  refine st_nil (nx_then (cd_seq (cd_seq (cd_region ?_))))
  refine mvi rfl ?_
  refine st_call FmHelp_k15 (num_any _ _) ?_
  rintro v26 w13 ⟨rfl, rfl⟩
  refine mvi rfl ?_
  refine st_val (ro_neq rfl rfl) ?_
  refine mvb rfl ?_
  refine st_split (t := 29) rfl (fun Q14 => ?_) (fun Q14 => ?_)
  · replace Q14 := bn_t Q14; replace Q14 := be_f Q14
    first
     | (exfalso; first | (first | omega | (simp [hb33] at *; done); trace "@MK D made_rt:f15.1.g29+ 1") | (contradiction; trace "@MK D made_rt:f15.1.g29+ 2") | ((cases Q14; done); trace "@MK D made_rt:f15.1.g29+ 3"))
     | (trace "@MK D made_rt:f15.1.g29+ 0")
       refine st_gno rfl rfl ?_
       refine st_gno rfl rfl ?_
       refine st_gno rfl rfl ?_
       refine st_gno rfl rfl ?_
       refine st_gno rfl rfl ?_
       refine st_val (ro_pickT (v := .bool _) rfl rfl) ?_
       refine mvb rfl ?_
       refine st_gno rfl rfl ?_
       refine st_gno rfl rfl ?_
       refine st_gno rfl rfl ?_
       refine st_gund rfl ?_
       refine st_gund rfl ?_
       refine st_gund rfl ?_
       refine st_gund rfl ?_
       refine st_gund rfl ?_
       refine st_gno rfl rfl ?_
       refine st_val (ro_pickT (v := .bool _) rfl rfl) ?_
       refine st_nil (nx_then ?_)
       refine cd_condT rfl ?_
       refine cd_seq (cd_region ?_)
       refine asp rfl ?_
       refine asi rfl ?_
       refine st_nil (nx_then (cd_ret (rt_then ?_)))
       refine res2 (v := .pointer _) (v' := .int _ _) rfl rfl rfl ?_
       exfalso; simp_all
  replace Q14 := bn_f Q14; replace Q14 := be_t Q14
  refine st_unguard rfl ?_
  refine mvp rfl ?_
  refine st_unguard rfl ?_
  refine st_val (ro_eqlNil FmHelp_p27 rfl rfl) ?_
  refine st_unguard rfl ?_
  refine mvi rfl ?_
  refine st_unguard rfl ?_
  refine st_val (ro_neq rfl rfl) ?_
  refine st_unguard rfl ?_
  refine st_val (ro_neqB (by kernel_rfl) rfl rfl) ?_
  refine st_val (ro_pickF (v := .bool _) rfl rfl) ?_
  refine mvb rfl ?_
  refine st_split (t := 36) rfl (fun Q15 => ?_) (fun Q15 => ?_)
  · replace Q15 := bn_t Q15; replace Q15 := be_f Q15
    exfalso; first | omega | (simp [hb33] at *; done)
  replace Q15 := bn_f Q15; replace Q15 := be_t Q15
  refine st_unguard rfl ?_
  refine mvp rfl ?_
  refine st_unguard rfl ?_
  refine st_val (ro_neqNil FmHelp_p27 rfl rfl) ?_
  refine st_unguard rfl ?_
  refine mvb rfl ?_
  refine st_split (t := 39) rfl (fun Q16 => ?_) (fun Q16 => ?_)
  rotate_left
  · replace Q16 := bn_f Q16
    exfalso; first | omega | (simp [hb33] at *; done)
  replace Q16 := bn_t Q16
  refine st_unguard rfl ?_
  refine mvp rfl ?_
  refine st_unguard rfl ?_
  refine st_val (ro_nilCheck rfl) ?_
  refine st_unguard rfl ?_
  refine st_val (ro_fieldAddr FmHelp_f56_0 rfl) ?_
  refine st_unguard rfl ?_
  refine st_val (ro_load FmHelp_g52 rfl (by exact (hI.from_ (From.rfl_.next E24)).rd 0 rfl)) ?_
  refine st_unguard rfl ?_
  refine st_val (ro_eqlNil FmHelp_p52 rfl rfl) ?_
  refine st_unguard rfl ?_
  refine st_val (ro_pickT (v := .bool _) rfl rfl) ?_
  refine st_val (ro_pickF (v := .bool _) rfl rfl) ?_
  refine st_nil (nx_then ?_)
  refine cd_cond rfl (fun Q17 => ?_) (fun Q17 => ?_)
  · exfalso; first | omega | (simp [hb33] at *; done)
  refine cd_skip (nx_then (cd_seq (cd_region ?_)))
  refine mvp rfl ?_
  refine mvi rfl ?_
  refine asp rfl ?_
  refine asi rfl ?_
  refine st_nil (nx_then (cd_ret ?_))
  refine res2 (v := .pointer _) (v' := .int _ _) rfl rfl rfl ?_
  first
    | exact ⟨.inl ⟨hck, rfl⟩, (((((From.rfl_.next E1).next E10).next E15).grew hg19 (fun k hk => Nat.le_trans hB10.size (own_at ho10 k hk).1)).next E24)⟩
    | exact ⟨.inr ⟨hck, K, b, a, Ln, Bs, F, hKk, hLn, hlt, (hf.from_ (From.rfl_.next E24)).le hB15.size, by rw [hck]⟩, (((((From.rfl_.next E1).next E10).next E15).grew hg19 (fun k hk => Nat.le_trans hB10.size (own_at ho10 k hk).1)).next E24)⟩
end Go.Proofs.Ytepdgbglaiimaaa

namespace Go.Proofs.Ytepdgbglaiimaaa
open Go.RowKit
open Go.ChangeShapes Go.WideShapes Go.ChangeAt
open Go.Proofs.Ytepdgbglaiimaaa.SA
noncomputable def rsF (K : Nat) (L : List Nat) (q : List Int) : Int := if askE (K : Nat) q = 0 then ((rwF L (q.map Int.toNat) : Nat) : Int) else 0
noncomputable def rsT (K : Nat) (L : List Nat) (q : List Int) : Int := if askE (K : Nat) q = 0 then ((rwT L (q.map Int.toNat) : Nat) : Int) else 0
noncomputable def fdL (K : Nat) (L : List Nat) (q : List Int) : List Nat := if askE (K : Nat) q = 0 then fndL L (q.map Int.toNat) else []
theorem cI_toNat (p : List Nat) : (cI p).map Int.toNat = p := by
  unfold cI
  rw [List.map_map]
  refine (List.map_congr_left fun x _ => ?_).trans (List.map_id p)
  rfl
theorem ask_zero {k : Int} {q : List Int} (h : askE k q = 0) : q ≠ [] ∧ q.all (okS k) = true := by
  unfold askE at h
  split at h
  · cases h
  · rename_i h0
    split at h
    · rename_i h1
      exact ⟨fun e => h0 (by rw [e]; rfl), h1⟩
    · cases h
theorem ask_nat {K : Nat} {q : List Int} (h : askE (K : Nat) q = 0) : ∃ p : List Nat, q = cI p ∧ p ≠ [] ∧ (∀ x ∈ p, x < K) := by
  obtain ⟨h0, h1⟩ := ask_zero h
  obtain ⟨p, rfl, hp⟩ := nat_listK h1
  exact ⟨p, rfl, fun e => h0 (by rw [e]; rfl), hp⟩
theorem ask_good {K : Nat} {p : List Nat} (h0 : p ≠ []) (h : ∀ x ∈ p, x < K) : askE (K : Nat) (cI p) = 0 := by
  unfold askE
  rw [if_neg (by rw [List.length_map]; exact fun e => h0 (List.eq_nil_of_length_eq_zero e)), if_pos]
  rw [List.all_eq_true]
  intro y hy
  obtain ⟨x, hx, rfl⟩ := List.mem_map.1 hy
  exact okS_yes (by omega) (by have := h x hx; omega)
theorem rows_fn {K : Nat} {L : List Nat} {q : List Int} {fr to e : Int} (h : RowsIs K L q fr to e) : fr = rsF K L q ∧ to = rsT K L q ∧ e = askE (K : Nat) q := by
  rcases h with ⟨rfl, rfl, rfl, rfl⟩ | ⟨h1, h2, rfl, rfl, rfl⟩ | ⟨p, rfl, h1, h2, rfl, rfl, rfl⟩
  · exact ⟨rfl, rfl, rfl⟩
  · have e : askE (K : Nat) q = 1 := by unfold askE; rw [if_neg (fun e => h1 (List.eq_nil_of_length_eq_zero e)), h2]; rfl
    unfold rsF rsT
    rw [e]
    exact ⟨rfl, rfl, rfl⟩
  · unfold rsF rsT
    rw [ask_good h1 h2, if_pos rfl, if_pos rfl, cI_toNat]
    exact ⟨rfl, rfl, rfl⟩
theorem find_fn {K : Nat} {L : List Nat} {q : List Int} {l : List Nat} {e : Int} (h : FindIs K L q l e) : l = fdL K L q ∧ e = askE (K : Nat) q := by
  rcases h with ⟨rfl, rfl, rfl⟩ | ⟨h1, h2, rfl, rfl⟩ | ⟨p, rfl, h1, h2, rfl, rfl⟩
  · exact ⟨rfl, rfl⟩
  · have e : askE (K : Nat) q = 1 := by unfold askE; rw [if_neg (fun e => h1 (List.eq_nil_of_length_eq_zero e)), h2]; rfl
    unfold fdL
    rw [e]
    exact ⟨rfl, rfl⟩
  · unfold fdL
    rw [ask_good h1 h2, if_pos rfl, cI_toNat]
    exact ⟨rfl, rfl⟩
theorem fd_le {K : Nat} {L : List Nat} (q : List Int) : (fdL K L q).length ≤ L.length := by
  unfold fdL
  split
  · exact fndTo_le
  · exact Nat.zero_le _
section
variable (base b K a : Nat) (L B F : List Nat) (w : World) (hf : FmAt w base b K a L B F) (A : Option Addr) (c n : Nat) (q : List Int) (hr : RowOf iV w A q) (hn : n = q.length) (hl : n ≤ 1000000)
include hf hr hn hl
theorem hits_d : Rt Try.prog 14 [.pointer (some ⟨b, 0, none⟩), .slice A n c] w fun v w' => v = .tuple #[.int .i64 (rsT K L q - rsF K L q), .int .i64 (askE (K : Nat) q)] ∧ From w w' := by
  refine (hits_rt base b K a L B F w hf A c n q hr hn hl).mono fun v w' h => ?_
  obtain ⟨⟨fr, to, e, rfl, hi⟩, hF⟩ := h
  obtain ⟨rfl, rfl, rfl⟩ := rows_fn hi
  exact ⟨rfl, hF⟩
theorem find_d : Rt Try.prog 18 [.pointer (some ⟨b, 0, none⟩), .slice A n c] w fun v w' => (∃ A' c', v = .tuple #[.slice A' (fdL K L q).length c', .int .i64 (askE (K : Nat) q)] ∧ w'.ownsRow w.heap.size 3 1 (.slice A' (fdL K L q).length c') (fdL K L q).length ((cI (fdL K L q)).map iV)) ∧ From w w' := by
  refine (find_rt base b K a L B F w hf A c n q hr hn hl).mono fun v w' h => ?_
  obtain ⟨⟨l, e, A', c', hi, rfl, ho⟩, hF⟩ := h
  obtain ⟨rfl, rfl⟩ := find_fn hi
  exact ⟨⟨A', c', rfl, ho⟩, hF⟩
end
section
variable (A D : Option Addr) (ca cp n m : Nat) (xs q : List Int) (K : Nat) (L : List Nat) (w : World) (hr : RowOf iV w A xs) (hL : xs = cI L) (hn : n = xs.length) (hp : RowOf iV w D q) (hm : m = q.length) (hl : n ≤ 131072) (hl2 : m ≤ 1000000) (he : askE (K : Nat) q = 0)
include hr hL hn hp hm hl hl2 he
end
theorem slice_row {w : World} {l h c : Nat} {A : Option Addr} {L : List Int} (hr : RowOf iV w A L) (h1 : l ≤ h) (h2 : h ≤ L.length) (hcap : L.length ≤ c) : RowOf iV w (restOf A c l 1) ((L.drop l).take (h - l)) := fun h0 => by
  rw [List.length_take, List.length_drop] at h0
  obtain ⟨b, o, rfl, hc⟩ := hr (by omega)
  refine ⟨b, o + l, by rw [restOf_pos (by omega), Nat.mul_one], fun i hi => ?_⟩
  rw [List.length_take, List.length_drop] at hi
  rw [Nat.add_assoc, hc (l + i) (by omega)]
  simp
theorem slice_len {l h : Nat} {L : List Int} (h1 : l ≤ h) (h2 : h ≤ L.length) : ((L.drop l).take (h - l)).length = h - l := by rw [List.length_take, List.length_drop]; omega
theorem pl_out {L F : List Nat} {i : Int} (h : i < 0 ∨ i = (L.length + 1 : Nat)) : plV L F i = 0 ∧ plE L i = 3 := by
  unfold plV plE
  rw [if_neg (by omega), if_neg (by omega)]
  exact ⟨rfl, rfl⟩
theorem pl_in {L F : List Nat} {i : Int} (h : 0 ≤ i) (h2 : i < (L.length + 1 : Nat)) : plV L F i = ((rowS L F i.toNat : Nat) : Int) ∧ plE L i = 0 := by
  unfold plV plE
  rw [if_pos (by omega), if_pos (by omega)]
  exact ⟨rfl, rfl⟩
theorem text_d (base b K a : Nat) (L B F : List Nat) (w : World) (hf : FmAt w base b K a L B F) (xs : List Int) (hx : xs = cI L) (fr n : Int) (h64 : -9223372036854775808 ≤ fr ∧ fr ≤ 9223372036854775807 ∧ -9223372036854775808 ≤ n ∧ n ≤ 9223372036854775807) : Rt Try.prog 23 [.pointer (some ⟨b, 0, none⟩), .int .i64 fr, .int .i64 n] w fun v w' => (((fr < 0 ∨ n < 0 ∨ (xs.length : Int) < fr ∨ (xs.length : Int) - fr < n) ∧ v = .tuple #[.slice none 0 0, .int .i64 3]) ∨ (0 ≤ fr ∧ 0 ≤ n ∧ fr + n ≤ xs.length ∧ ∃ A' c', v = .tuple #[.slice A' n.toNat c', .int .i64 0] ∧ RowOf iV w' A' ((xs.drop fr.toNat).take (fr.toNat + n.toNat - fr.toNat)))) ∧ From w w' := by
  have hxl : xs.length = L.length := by rw [hx, List.length_map]
  by_cases h : fr < 0 ∨ n < 0 ∨ (xs.length : Int) < fr ∨ (xs.length : Int) - fr < n
  · exact (text_no base b K a L B F w hf fr n h64 (by omega)).mono fun v w' e => ⟨.inl ⟨h, e.1⟩, e.2⟩
  · obtain ⟨l, rfl⟩ : ∃ l : Nat, fr = (l : Int) := ⟨fr.toNat, by omega⟩
    obtain ⟨m, rfl⟩ : ∃ m : Nat, n = (m : Int) := ⟨n.toNat, by omega⟩
    refine (text_yes base b K a L B F w hf l m (by omega)).mono fun v w' e => ?_
    obtain ⟨⟨g, rfl, _, hb⟩, hF⟩ := e
    refine ⟨.inr ⟨by omega, by omega, by omega, some ⟨g, 0, none⟩, m, rfl, ?_⟩, hF⟩
    have := txF_row hb (by omega)
    rw [Int.toNat_natCast, Int.toNat_natCast, Nat.add_sub_cancel_left, hx, cI, ← List.map_drop, ← List.map_take]
    exact this
end Go.Proofs.Ytepdgbglaiimaaa

namespace Go.Proofs.Ytepdgbglaiimaaa
open Go.RowKit
open Go.ChangeShapes Go.WideShapes Go.ChangeAt
open Go.Proofs.Ytepdgbglaiimaaa.SA
theorem FmLawP_e22 : elemQ Try.prog 22 = some (3, 1) := by kernel_rfl
theorem FmLawP_g3 : aggQ Try.prog 3 = some false := by kernel_rfl
theorem FmLawP_g25 : aggQ Try.prog 25 = some true := by kernel_rfl
theorem FmLawP_z25 : sizeQ Try.prog 25 = some 4 := by kernel_rfl
theorem FmLawP_k8 : callable Try.prog 8 = true := by kernel_rfl
theorem FmLawP_k9 : callable Try.prog 9 = true := by kernel_rfl
theorem FmLawP_p27 : Try.prog.underlying 27 = some (.pointer (Try.prog.pointee 27)) := by kernel_rfl
theorem FmLawP_k10 : callable Try.prog 10 = true := by kernel_rfl
theorem FmLawP_f25_1 : fieldQ Try.prog 25 1 = some 1 := by kernel_rfl
theorem FmLawP_g22 : aggQ Try.prog 22 = some false := by kernel_rfl
theorem FmLawP_k21 : callable Try.prog 21 = true := by kernel_rfl
theorem FmLawP_l22 : (elemQ Try.prog 22).isSome = true := by kernel_rfl
theorem FmLawP_k22 : callable Try.prog 22 = true := by kernel_rfl
theorem FmLawP_k15 : callable Try.prog 15 = true := by kernel_rfl
theorem FmLawP_f25_3 : fieldQ Try.prog 25 3 = some 3 := by kernel_rfl
theorem FmLawP_k23 : callable Try.prog 23 = true := by kernel_rfl
theorem FmLawP_k19 : callable Try.prog 19 = true := by kernel_rfl
set_option maxHeartbeats 4000000 in
theorem places_law (k : Int) (A D B : Option Addr) (ca cp cb : Nat) (L : List Int) (ps : List (List Int)) (is : List Int) (w : World) (ha : AskF w k A D B L ps is) (hcap : L.length ≤ ca) :
    Rt Try.prog 5 [.agg #[.int .i64 k, .slice A L.length ca, .slice D ps.length cp, .slice B is.length cb]] w (fun v w' => v = .bool true ∧ From w w') := by
  have hlenP := ha.lenP
  refine enter (n := 147) Try.func5 rfl rfl rfl ?_
  refine cd_seq (cd_region ?_)
  refine st_box (v := .agg _) rfl ?_
  intro b1 w1 E1 hb1 hk1
  refine asb rfl ?_
  refine st_nil (nx_then (cd_seq (cd_seq (cd_region ?_))))
  refine st_val (ro_loadA (cs := [_, _, _, _]) FmLawP_g25 FmLawP_z25 rfl (by first | (first | exact (hP1.from_ From.rfl_).whole | exact (hP1.from_ From.rfl_).rd 0 rfl | exact (hP1.from_ From.rfl_).rd 1 rfl | exact (hP1.from_ From.rfl_).rd 2 rfl | exact (hP1.from_ From.rfl_).rd 3 rfl) | (first | exact (hk1.from_ From.rfl_).whole | exact (hk1.from_ From.rfl_).rd 0 rfl | exact (hk1.from_ From.rfl_).rd 1 rfl | exact (hk1.from_ From.rfl_).rd 2 rfl | exact (hk1.from_ From.rfl_).rd 3 rfl))) ?_
  refine st_call FmLawP_k8 (heavy_rt k A D B ca cp cb L ps is _ (ha.from_ (From.rfl_.next E1))) ?_
  rintro v16 w2 ⟨⟨hv, rfl, hli⟩, E16⟩
  refine st_nil (nx_then ?_)
  refine cd_cond rfl (fun Q3 => ?_) (fun Q3 => ?_)
  · refine cd_seq (cd_region ?_)
    refine asb rfl ?_
    refine st_nil (nx_then (cd_ret (rt_then ?_)))
    refine res1 (v := .bool _) rfl rfl ?_
    exact ⟨rfl, ((From.rfl_.next E1).next E16)⟩
  replace hli := hli (by simpa using Q3)
  have hl40 := hli.l
  have hp40 := hli.p
  have hi40 := hli.i
  refine cd_skip (nx_then (cd_seq (cd_region ?_)))
  refine st_val (ro_loadA (cs := [_, _, _, _]) FmLawP_g25 FmLawP_z25 rfl (by first | (first | exact (hP1.from_ (From.rfl_.next E16)).whole | exact (hP1.from_ (From.rfl_.next E16)).rd 0 rfl | exact (hP1.from_ (From.rfl_.next E16)).rd 1 rfl | exact (hP1.from_ (From.rfl_.next E16)).rd 2 rfl | exact (hP1.from_ (From.rfl_.next E16)).rd 3 rfl) | (first | exact (hk1.from_ (From.rfl_.next E16)).whole | exact (hk1.from_ (From.rfl_.next E16)).rd 0 rfl | exact (hk1.from_ (From.rfl_.next E16)).rd 1 rfl | exact (hk1.from_ (From.rfl_.next E16)).rd 2 rfl | exact (hk1.from_ (From.rfl_.next E16)).rd 3 rfl))) ?_
  have hz19 := (((From.rfl_.next E1).next E16)).size
  refine st_call FmLawP_k9 (made_rt k A D B ca cp cb L ps is _ (ha.from_ ((From.rfl_.next E1).next E16)) hli.l) ?_
  rintro v19 w4 ⟨hs19, E19⟩
  replace hk1 := hk1.from_ ((From.rfl_.next E16).next E19)
  rcases hs19 with ⟨hck, rfl⟩ | ⟨hck, K, b, a, Ln, Bs, F, rfl, hLn, hlt, hf, rfl⟩
  · refine mvt rfl ?_
    refine st_val (ro_extract rfl rfl) ?_
    refine st_val (ro_extract rfl rfl) ?_
    refine asp rfl ?_
    refine asi rfl ?_
    refine st_nil (nx_then (cd_seq (cd_seq (cd_region ?_))))
    refine mvp rfl ?_
    refine st_val (ro_eqlNil FmLawP_p27 rfl rfl) ?_
    refine st_nil (nx_then ?_)
    refine cd_cond rfl (fun Q5 => ?_) (fun Q5 => ?_)
    rotate_left
    · exfalso; contradiction
    refine cd_seq (cd_region ?_)
    refine mvi rfl ?_
    refine st_val (ro_neq rfl rfl) ?_
    refine mvb rfl ?_
    refine st_split (t := 26) rfl (fun Q55 => ?_) (fun Q55 => ?_)
    rotate_left
    · with_reducible replace Q55 := bx_f Q55
      exfalso; omega
    with_reducible replace Q55 := bx_t Q55
    refine st_unguard rfl ?_
    refine st_call FmLawP_k10 (wakes_rt _) ?_
    rintro v27 w56 ⟨rfl, E27⟩
    refine st_val (ro_pickT (v := .bool _) rfl rfl) ?_
    refine asb rfl ?_
    refine st_nil (nx_then (cd_ret (rt_then ?_)))
    refine res1 (v := .bool _) rfl rfl ?_
    exact ⟨rfl, ((((From.rfl_.next E1).next E16).next E19).next E27)⟩
  replace hf := hf.le hz19
  have hLl : Ln.length = L.length := by rw [hLn, List.length_map]
  refine mvt rfl ?_
  refine st_val (ro_extract rfl rfl) ?_
  refine st_val (ro_extract rfl rfl) ?_
  refine asp rfl ?_
  refine asi rfl ?_
  refine st_nil (nx_then (cd_seq (cd_seq (cd_region ?_))))
  refine mvp rfl ?_
  refine st_val (ro_eqlNil FmLawP_p27 rfl rfl) ?_
  refine st_nil (nx_then ?_)
  refine cd_cond rfl (fun Q57 => ?_) (fun Q57 => ?_)
  · exfalso; contradiction
  refine cd_skip (nx_then (cd_seq (cd_region ?_)))
  refine st_val (ro_fieldAddr FmLawP_f25_1 rfl) ?_
  refine st_val (ro_load FmLawP_g22 rfl (by first | (first | exact (hP1.from_ From.rfl_).whole | exact (hP1.from_ From.rfl_).rd 0 rfl | exact (hP1.from_ From.rfl_).rd 1 rfl | exact (hP1.from_ From.rfl_).rd 2 rfl | exact (hP1.from_ From.rfl_).rd 3 rfl) | (first | exact (hk1.from_ From.rfl_).whole | exact (hk1.from_ From.rfl_).rd 0 rfl | exact (hk1.from_ From.rfl_).rd 1 rfl | exact (hk1.from_ From.rfl_).rd 2 rfl | exact (hk1.from_ From.rfl_).rd 3 rfl))) ?_
  refine st_call FmLawP_k21 (rows_rt A ca L.length Ln _ (by rw [← hLn]; exact ha.rowL.from_ (((From.rfl_.next E1).next E16).next E19)) hLl.symm (by omega)) ?_
  rintro v31 w60 ⟨⟨A31, c31, F2, rfl, hr31, hSA2⟩, E31⟩
  obtain rfl : F = F2 := hf.2.1.uniq hSA2
  have hFl := hSA2.len
  obtain ⟨bR, oR, rfl, hcR⟩ := rowD hr31 (by simp)
  replace hcR : ∀ r, r < Ln.length + 1 → (w60).cell? ⟨bR, oR + r, none⟩ = some (iV ((rowS Ln F r : Nat) : Int)) := fun r hr => by
    have hsk := hcR r (by simp only [List.length_cons]; omega)
    rwa [rowS_cons] at hsk
  refine ass rfl ?_
  refine st_nil (nx_then (cd_seq (cd_seq (cd_region ?_))))
  refine asi rfl ?_
  refine st_nil (nx_then (cd_block ?_))
  refine cd_loop (G := Int) [2, 7, 8, 32, 33, 34, 35, 36, 37, 38, 39, 40, 41, 42, 43, 44, 45, 46, 47, 48, 49, 50, 51, 52, 53, 54, 55, 56, 57, 58, 59, 60, 61, 62, 63, 64, 65, 66, 67, 68, 69] (fun i => [(6, .int .i64 i)]) (fun i w' => (-1 ≤ i ∧ i ≤ Ln.length + 2) ∧ (∀ r, r < Ln.length + 1 → w'.cell? ⟨bR, oR + r, none⟩ = some (iV ((rowS Ln F r : Nat) : Int))) ∧ FmAt w' w.heap.size b K a Ln Bs F ∧ Blk w' b1 25 #[.int .i64 (K : Nat), .slice A L.length ca, .slice D ps.length cp, .slice B is.length cb] ∧ From w w') (fun i => (Ln.length + 2 - i).toNat) (-1) ⟨rfl, trivial⟩ ?_ ?_
  · exact ⟨by omega, hcR, hf.from_ (From.rfl_.next E31), hk1.from_ (From.rfl_.next E31), ((((From.rfl_.next E1).next E16).next E19).next E31)⟩
  rintro i ρ61 w61 ⟨hi, hRs, hf, hP1, hB⟩
  refine cd_seq (cd_seq (cd_region ?_))
  refine mvi rfl ?_
  refine mvs rfl ?_
  refine st_val (ro_len FmLawP_l22 rfl) ?_
  refine st_val (ro_leq rfl rfl) ?_
  refine st_nil (nx_then ?_)
  refine cd_cond rfl (fun Q62 => ?_) (fun Q62 => ?_)
  · with_reducible replace Q62 := of_decide_eq_true Q62
    refine cd_skip (nx_then (cd_seq (cd_block (cd_seq (cd_region ?_)))))
    refine mvp rfl ?_
    refine mvi rfl ?_
    refine st_call FmLawP_k22 (placeI_rt _ b K a Ln Bs F _ (hf.from_ From.rfl_) i) ?_
    rintro v41 w63 ⟨rfl, E41⟩
    refine mvt rfl ?_
    refine st_val (ro_extract rfl rfl) ?_
    refine st_val (ro_extract rfl rfl) ?_
    refine asi rfl ?_
    refine asi rfl ?_
    refine st_nil (nx_then (cd_seq (cd_seq (cd_region ?_))))
    refine mvi rfl ?_
    refine st_val (ro_lss rfl rfl) ?_
    refine mvb rfl ?_
    refine st_split (t := 46) rfl (fun Q64 => ?_) (fun Q64 => ?_)
    · with_reducible replace Q64 := of_decide_eq_true Q64
      refine st_gno rfl rfl ?_
      refine st_gno rfl rfl ?_
      refine st_gno rfl rfl ?_
      refine st_gno rfl rfl ?_
      refine st_val (ro_pickT (v := .bool _) rfl rfl) ?_
      refine st_nil (nx_then ?_)
      refine cd_condT rfl ?_
      refine cd_seq (cd_seq (cd_region ?_))
      refine mvi rfl ?_
      refine st_call FmLawP_k15 (num_any _ _) ?_
      rintro v53 w65 ⟨rfl, rfl⟩
      refine st_val (ro_bf (ro_neq rfl rfl) (by rw [(pl_out (L := Ln) (F := F) (i := i) (by omega)).2]; rfl)) ?_
      refine mvb rfl ?_
      refine st_unguard rfl ?_
      refine mvi rfl ?_
      refine st_unguard rfl ?_
      refine st_val (ro_bf (ro_neq rfl rfl) (by rw [(pl_out (L := Ln) (F := F) (i := i) (by omega)).1]; rfl)) ?_
      refine st_val (ro_pickF (v := .bool _) rfl rfl) ?_
      refine st_nil (nx_then ?_)
      refine cd_condF rfl ?_
      refine cd_skip (nx_then ?_)
      refine cd_exit ?_
      refine ex_then (ex_block (nx_then (cd_region ?_)))
      refine mvi rfl ?_
      refine st_val (ro_add64 rfl rfl (by omega)) ?_
      refine asi rfl ?_
      refine st_nil ?_
      refine nx_cut (i + 1) ⟨(by first | rfl | (refine int_eq ?_; omega)), trivial⟩ (by (iterate 73 refine agr_cons rfl ?_); exact agr_rfl) ⟨?_, ?_⟩
      · exact ⟨by omega, fun r hr => cellF (From.rfl_.next E41) (hRs r hr), hf.from_ (From.rfl_.next E41), hP1.from_ (From.rfl_.next E41), (hB.next E41)⟩
      · omega
    with_reducible replace Q64 := of_decide_eq_false Q64
    refine st_unguard rfl ?_
    refine mvi rfl ?_
    refine st_unguard rfl ?_
    refine mvs rfl ?_
    refine st_unguard rfl ?_
    refine st_val (ro_len FmLawP_l22 rfl) ?_
    refine st_unguard rfl ?_
    refine st_val (ro_eql rfl rfl) ?_
    refine st_val (ro_pickF (v := .bool _) rfl rfl) ?_
    refine st_nil (nx_then ?_)
    refine cd_cond rfl (fun Q66 => ?_) (fun Q66 => ?_)
    · with_reducible replace Q66 := of_decide_eq_true Q66
      refine cd_seq (cd_seq (cd_region ?_))
      refine mvi rfl ?_
      refine st_call FmLawP_k15 (num_any _ _) ?_
      rintro v53 w67 ⟨rfl, rfl⟩
      refine st_val (ro_bf (ro_neq rfl rfl) (by rw [(pl_out (L := Ln) (F := F) (i := i) (by omega)).2]; rfl)) ?_
      refine mvb rfl ?_
      refine st_unguard rfl ?_
      refine mvi rfl ?_
      refine st_unguard rfl ?_
      refine st_val (ro_bf (ro_neq rfl rfl) (by rw [(pl_out (L := Ln) (F := F) (i := i) (by omega)).1]; rfl)) ?_
      refine st_val (ro_pickF (v := .bool _) rfl rfl) ?_
      refine st_nil (nx_then ?_)
      refine cd_condF rfl ?_
      refine cd_skip (nx_then ?_)
      refine cd_exit ?_
      refine ex_then (ex_block (nx_then (cd_region ?_)))
      refine mvi rfl ?_
      refine st_val (ro_add64 rfl rfl (by omega)) ?_
      refine asi rfl ?_
      refine st_nil ?_
      refine nx_cut (i + 1) ⟨(by first | rfl | (refine int_eq ?_; omega)), trivial⟩ (by (iterate 73 refine agr_cons rfl ?_); exact agr_rfl) ⟨?_, ?_⟩
      · exact ⟨by omega, fun r hr => cellF (From.rfl_.next E41) (hRs r hr), hf.from_ (From.rfl_.next E41), hP1.from_ (From.rfl_.next E41), (hB.next E41)⟩
      · omega
    with_reducible replace Q66 := of_decide_eq_false Q66
    obtain ⟨hp1, hp2⟩ := pl_in (L := Ln) (F := F) (i := i) (by omega) (by omega)
    have hsk := hRs i.toNat (by omega)
    refine cd_skip (nx_then (cd_seq (cd_region ?_)))
    refine mvi rfl ?_
    refine st_call FmLawP_k15 (num_any _ _) ?_
    rintro v60 w68 ⟨rfl, rfl⟩
    refine st_val (ro_bf (ro_neq rfl rfl) (by rw [hp2]; rfl)) ?_
    refine mvb rfl ?_
    refine st_unguard rfl ?_
    refine mvi rfl ?_
    refine st_unguard rfl ?_
    refine mvs rfl ?_
    refine st_unguard rfl ?_
    refine mvi rfl ?_
    refine st_spell (t := 65) (v := .int _ _) (v' := .int .i64 (i.toNat : Nat)) rfl (by rw [Int.toNat_of_nonneg (by omega)]) ?_
    refine st_unguard rfl ?_
    refine st_val (ro_indexAddr1 FmLawP_e22 rfl rfl (by omega)) ?_
    refine st_unguard rfl ?_
    refine st_val (ro_load FmLawP_g3 rfl (by exact cellF (From.rfl_.next E41) hsk)) ?_
    refine st_unguard rfl ?_
    refine st_val (ro_bf (ro_neq rfl rfl) (by rw [hp1]; exact bne_self_eq_false _)) ?_
    refine st_val (ro_pickF (v := .bool _) rfl rfl) ?_
    refine st_nil (nx_then ?_)
    refine cd_condF rfl ?_
    refine cd_skip (nx_block (nx_then (cd_region ?_)))
    refine mvi rfl ?_
    refine st_val (ro_add64 rfl rfl (by omega)) ?_
    refine asi rfl ?_
    refine st_nil ?_
    refine nx_cut (i + 1) ⟨(by first | rfl | (refine int_eq ?_; omega)), trivial⟩ (by (iterate 78 refine agr_cons rfl ?_); exact agr_rfl) ⟨?_, ?_⟩
    · exact ⟨by omega, fun r hr => cellF (From.rfl_.next E41) (hRs r hr), hf.from_ (From.rfl_.next E41), hP1.from_ (From.rfl_.next E41), (hB.next E41)⟩
    · omega
  with_reducible replace Q62 := of_decide_eq_false Q62
  refine cd_exit ?_
  refine ex_then (ex_then (ex_block (nx_then (cd_seq (cd_seq (cd_region ?_))))))
  refine asi rfl ?_
  refine st_nil (nx_then (cd_block ?_))
  refine cd_loop (G := Nat) [2, 10, 11, 12, 13, 14, 70, 71, 72, 73, 74, 75, 76, 77, 78, 79, 80, 81, 82, 83, 84, 85, 86, 87, 88, 89, 90, 91, 92, 93, 94, 95, 96, 97, 98, 99, 100, 101, 102, 103, 104, 105, 106, 107, 108, 109, 110, 111, 112, 113, 114, 115, 116, 117, 118, 119, 120, 121, 122, 123, 124, 125, 126, 127, 128, 129, 130, 131, 132, 133, 134, 135, 136, 137, 138, 139, 140, 141, 142, 143, 144, 145] (fun i => [(9, .int .i64 (i : Nat))]) (fun i w' => i ≤ is.length ∧ FmAt w' w.heap.size b K a Ln Bs F ∧ Blk w' b1 25 #[.int .i64 (K : Nat), .slice A L.length ca, .slice D ps.length cp, .slice B is.length cb] ∧ From w w') (fun i => is.length - i) (0) ⟨rfl, trivial⟩ ?_ ?_
  · exact ⟨Nat.zero_le _, hf.from_ From.rfl_, hP1.from_ From.rfl_, hB⟩
  rintro j ρ69 w69 ⟨hj, hf, hP1, hB⟩
  refine cd_seq (cd_seq (cd_region ?_))
  refine mvi rfl ?_
  refine st_val (ro_fieldAddr FmLawP_f25_3 rfl) ?_
  refine st_val (ro_load FmLawP_g22 rfl (by first | (first | exact (hP1.from_ From.rfl_).whole | exact (hP1.from_ From.rfl_).rd 0 rfl | exact (hP1.from_ From.rfl_).rd 1 rfl | exact (hP1.from_ From.rfl_).rd 2 rfl | exact (hP1.from_ From.rfl_).rd 3 rfl) | (first | exact (hk1.from_ From.rfl_).whole | exact (hk1.from_ From.rfl_).rd 0 rfl | exact (hk1.from_ From.rfl_).rd 1 rfl | exact (hk1.from_ From.rfl_).rd 2 rfl | exact (hk1.from_ From.rfl_).rd 3 rfl))) ?_
  refine st_val (ro_len FmLawP_l22 rfl) ?_
  refine st_val (ro_lss rfl rfl) ?_
  refine st_nil (nx_then ?_)
  refine cd_cond rfl (fun Q70 => ?_) (fun Q70 => ?_)
  · with_reducible replace Q70 := of_decide_eq_true Q70
    have hjx : j < is.length := by omega
    obtain ⟨bb, ob, rfl, hcI⟩ := ha.rowI (by omega)
    obtain ⟨fr, hfr⟩ : ∃ fr, fr = is[j] := ⟨_, rfl⟩
    have hcj := hcI j hjx
    rw [← hfr] at hcj
    refine cd_skip (nx_then (cd_seq (cd_block (cd_seq (cd_region ?_)))))
    refine asi rfl ?_
    refine st_nil (nx_then (cd_block ?_))
    refine cd_loop (G := Nat) [2, 11, 12, 13, 14, 77, 78, 79, 80, 81, 82, 83, 84, 85, 86, 87, 88, 89, 90, 91, 92, 93, 94, 95, 96, 97, 98, 99, 100, 101, 102, 103, 104, 105, 106, 107, 108, 109, 110, 111, 112, 113, 114, 115, 116, 117, 118, 119, 120, 121, 122, 123, 124, 125, 126, 127, 128, 129, 130, 131, 132, 133, 134, 135, 136, 137, 138, 139, 140, 141, 142, 143, 144, 145] (fun i => [(10, .int .i64 (i : Nat))]) (fun i w' => i ≤ is.length ∧ FmAt w' w.heap.size b K a Ln Bs F ∧ Blk w' b1 25 #[.int .i64 (K : Nat), .slice A L.length ca, .slice D ps.length cp, .slice (some ⟨bb, ob, none⟩) is.length cb] ∧ From w w') (fun i => is.length - i) (0) ⟨rfl, trivial⟩ ?_ ?_
    · exact ⟨Nat.zero_le _, hf.from_ From.rfl_, hP1.from_ From.rfl_, hB⟩
    rintro l ρ71 w71 ⟨hl, hf, hP1, hB⟩
    refine cd_seq (cd_seq (cd_region ?_))
    refine mvi rfl ?_
    refine st_val (ro_fieldAddr FmLawP_f25_3 rfl) ?_
    refine st_val (ro_load FmLawP_g22 rfl (by first | (first | exact (hP1.from_ From.rfl_).whole | exact (hP1.from_ From.rfl_).rd 0 rfl | exact (hP1.from_ From.rfl_).rd 1 rfl | exact (hP1.from_ From.rfl_).rd 2 rfl | exact (hP1.from_ From.rfl_).rd 3 rfl) | (first | exact (hk1.from_ From.rfl_).whole | exact (hk1.from_ From.rfl_).rd 0 rfl | exact (hk1.from_ From.rfl_).rd 1 rfl | exact (hk1.from_ From.rfl_).rd 2 rfl | exact (hk1.from_ From.rfl_).rd 3 rfl))) ?_
    refine st_val (ro_len FmLawP_l22 rfl) ?_
    refine st_val (ro_lss rfl rfl) ?_
    refine st_nil (nx_then ?_)
    refine cd_cond rfl (fun Q72 => ?_) (fun Q72 => ?_)
    · with_reducible replace Q72 := of_decide_eq_true Q72
      have hlx : l < is.length := by omega
      obtain ⟨n, hn⟩ : ∃ n, n = is[l] := ⟨_, rfl⟩
      have hcl := hcI l hlx
      rw [← hn] at hcl
      have hb1 := ha.b64 _ (List.getElem_mem hjx)
      have hb2 := ha.b64 _ (List.getElem_mem hlx)
      rw [← hfr] at hb1
      rw [← hn] at hb2
      refine cd_skip (nx_then (cd_seq (cd_block (cd_seq ?_))))
      apply cd_drawnD 12 [(84, eqp _), (85, eqp (.slice (some ⟨bb, ob, none⟩) is.length cb)), (86, eqp _), (87, eqp _), (88, eqp (iV fr)), (89, eqp _), (90, eqp (.slice (some ⟨bb, ob, none⟩) is.length cb)), (91, eqp _), (92, eqp _), (93, eqp (iV n)), (11, eqp _), (12, eqp _)] (by repeat first | exact pq_body | refine pq_then ?_ | refine pq_block ?_) (by kernel_rfl) (by kernel_rfl) ⟨eqp_mono _, eqp_mono _, eqp_mono _, eqp_mono _, eqp_mono _, eqp_mono _, eqp_mono _, eqp_mono _, eqp_mono _, eqp_mono _, eqp_mono _, eqp_mono _, trivial⟩
      case hop =>
       refine ⟨?_, ?_⟩
       · rintro - w74 D74
         show OpOK _ _ _ _ _ _ _
         exact ok_pure (ro_fieldAddr FmLawP_f25_3 rfl) rfl
       refine ⟨?_, ?_⟩
       · rintro - w75 D75
         rintro _ rfl
         show OpOK _ _ _ _ _ _ _
         exact ok_pure (ro_load FmLawP_g22 rfl (by first | (first | exact (hP1.from_ (From.rfl_.next D75)).whole | exact (hP1.from_ (From.rfl_.next D75)).rd 0 rfl | exact (hP1.from_ (From.rfl_.next D75)).rd 1 rfl | exact (hP1.from_ (From.rfl_.next D75)).rd 2 rfl | exact (hP1.from_ (From.rfl_.next D75)).rd 3 rfl) | (first | exact (hk1.from_ (From.rfl_.next D75)).whole | exact (hk1.from_ (From.rfl_.next D75)).rd 0 rfl | exact (hk1.from_ (From.rfl_.next D75)).rd 1 rfl | exact (hk1.from_ (From.rfl_.next D75)).rd 2 rfl | exact (hk1.from_ (From.rfl_.next D75)).rd 3 rfl))) rfl
       refine ⟨?_, ?_⟩
       · rintro - w76 D76
         show OpOK _ _ _ _ _ _ _
         exact ok_pure (ro_move (v := .int _ _) rfl) rfl
       refine ⟨?_, ?_⟩
       · rintro - w77 D77
         rintro v77_85 rfl _ rfl
         show OpOK _ _ _ _ _ _ _
         exact ok_pure (ro_indexAddr1 FmLawP_e22 rfl rfl (by omega)) rfl
       refine ⟨?_, ?_⟩
       · rintro - w78 D78
         rintro _ rfl
         show OpOK _ _ _ _ _ _ _
         exact ok_pure (ro_load (v := iV fr) FmLawP_g3 rfl (cellF (hB.next D78) hcj)) rfl
       refine ⟨?_, ?_⟩
       · rintro - w79 D79
         show OpOK _ _ _ _ _ _ _
         exact ok_pure (ro_fieldAddr FmLawP_f25_3 rfl) rfl
       refine ⟨?_, ?_⟩
       · rintro - w80 D80
         rintro _ rfl
         show OpOK _ _ _ _ _ _ _
         exact ok_pure (ro_load FmLawP_g22 rfl (by first | (first | exact (hP1.from_ (From.rfl_.next D80)).whole | exact (hP1.from_ (From.rfl_.next D80)).rd 0 rfl | exact (hP1.from_ (From.rfl_.next D80)).rd 1 rfl | exact (hP1.from_ (From.rfl_.next D80)).rd 2 rfl | exact (hP1.from_ (From.rfl_.next D80)).rd 3 rfl) | (first | exact (hk1.from_ (From.rfl_.next D80)).whole | exact (hk1.from_ (From.rfl_.next D80)).rd 0 rfl | exact (hk1.from_ (From.rfl_.next D80)).rd 1 rfl | exact (hk1.from_ (From.rfl_.next D80)).rd 2 rfl | exact (hk1.from_ (From.rfl_.next D80)).rd 3 rfl))) rfl
       refine ⟨?_, ?_⟩
       · rintro - w81 D81
         show OpOK _ _ _ _ _ _ _
         exact ok_pure (ro_move (v := .int _ _) rfl) rfl
       refine ⟨?_, ?_⟩
       · rintro - w82 D82
         rintro v82_90 rfl _ rfl
         show OpOK _ _ _ _ _ _ _
         exact ok_pure (ro_indexAddr1 FmLawP_e22 rfl rfl (by omega)) rfl
       refine ⟨?_, ?_⟩
       · rintro - w83 D83
         rintro _ rfl
         show OpOK _ _ _ _ _ _ _
         exact ok_pure (ro_load (v := iV n) FmLawP_g3 rfl (cellF (hB.next D83) hcl)) rfl
       refine ⟨?_, ?_⟩
       · rintro - w84 D84
         rintro v84_88 rfl
         show OpOK _ _ _ _ _ _ _
         exact ok_pure (ro_assign (v := .int _ _) rfl) rfl
       refine ⟨?_, ?_⟩
       · rintro - w85 D85
         rintro v85_93 rfl
         show OpOK _ _ _ _ _ _ _
         exact ok_pure (ro_assign (v := .int _ _) rfl) rfl
       exact trivial
      case hend =>
       intro w86 D86
       rintro _ rfl v85 rfl _ rfl _ rfl v88 rfl _ rfl v90 rfl _ rfl _ rfl v93 rfl _ rfl _ rfl
       show St _ _ _ _ _ _ _
       refine st_nil (nx_then (cd_seq (cd_region ?_)))
       refine mvp rfl ?_
       refine mvi rfl ?_
       refine mvi rfl ?_
       refine st_call FmLawP_k23 (text_d _ b K a Ln Bs F _ (hf.from_ (From.rfl_.next D86)) L hLn fr n (by omega)) ?_
       rintro v98 w87 ⟨hs98, E98⟩
       rcases hs98 with ⟨hbad, rfl⟩ | ⟨hg1, hg2, hg3, A98, c98, rfl, hr98⟩
       · refine mvt rfl ?_
         refine st_val (ro_extract rfl rfl) ?_
         refine st_val (ro_extract rfl rfl) ?_
         refine ass rfl ?_
         refine asi rfl ?_
         refine st_nil (nx_then (cd_seq (cd_seq (cd_region ?_))))
         refine mvi rfl ?_
         refine st_val (ro_lss rfl rfl) ?_
         refine mvb rfl ?_
         refine st_split (t := 103) rfl (fun Q88 => ?_) (fun Q88 => ?_)
         · with_reducible replace Q88 := of_decide_eq_true Q88
           refine st_gno rfl rfl ?_
           refine st_gno rfl rfl ?_
           refine st_val (ro_pickT (v := .bool _) rfl rfl) ?_
           refine mvb rfl ?_
           refine st_gno rfl rfl ?_
           refine st_gno rfl rfl ?_
           refine st_gno rfl rfl ?_
           refine st_gno rfl rfl ?_
           refine st_gno rfl rfl ?_
           refine st_val (ro_pickT (v := .bool _) rfl rfl) ?_
           refine mvb rfl ?_
           refine st_gno rfl rfl ?_
           refine st_gno rfl rfl ?_
           refine st_gno rfl rfl ?_
           refine st_gno rfl rfl ?_
           refine st_gno rfl rfl ?_
           refine st_gno rfl rfl ?_
           refine st_gno rfl rfl ?_
           refine st_val (ro_pickT (v := .bool _) rfl rfl) ?_
           refine st_nil (nx_then ?_)
           refine cd_condT rfl ?_
           refine cd_seq (cd_seq (cd_region ?_))
           refine mvi rfl ?_
           refine st_call FmLawP_k15 (num_any _ _) ?_
           rintro v124 w89 ⟨rfl, rfl⟩
           refine st_val (ro_bf (ro_neq rfl rfl) rfl) ?_
           refine mvb rfl ?_
           refine st_unguard rfl ?_
           refine mvs rfl ?_
           refine st_unguard rfl ?_
           refine st_val (ro_len FmLawP_l22 rfl) ?_
           refine st_unguard rfl ?_
           refine st_val (ro_bf (ro_gtr rfl rfl) rfl) ?_
           refine st_val (ro_pickF (v := .bool _) rfl rfl) ?_
           refine st_nil (nx_then ?_)
           refine cd_condF rfl ?_
           refine cd_skip (nx_then ?_)
           refine cd_exit ?_
           refine ex_then (ex_block (nx_then (cd_region ?_)))
           refine mvi rfl ?_
           refine st_val (ro_addN (b := 1) rfl rfl (by omega)) ?_
           refine asi rfl ?_
           refine st_nil ?_
           refine nx_cut (l + 1) ⟨(by first | rfl | (refine int_eq ?_; omega)), trivial⟩ (by (iterate 135 refine agr_cons rfl ?_); exact agr_rfl) ⟨?_, ?_⟩
           · exact ⟨by omega, hf.from_ ((From.rfl_.next D86).next E98), hP1.from_ ((From.rfl_.next D86).next E98), ((hB.next D86).next E98)⟩
           · show is.length - (l + 1) < is.length - l; omega
         with_reducible replace Q88 := of_decide_eq_false Q88
         refine st_unguard rfl ?_
         refine mvi rfl ?_
         refine st_unguard rfl ?_
         refine st_val (ro_lss rfl rfl) ?_
         refine st_val (ro_pickF (v := .bool _) rfl rfl) ?_
         refine mvb rfl ?_
         refine st_split (t := 107) rfl (fun Q90 => ?_) (fun Q90 => ?_)
         · with_reducible replace Q90 := of_decide_eq_true Q90
           refine st_gno rfl rfl ?_
           refine st_gno rfl rfl ?_
           refine st_gno rfl rfl ?_
           refine st_gno rfl rfl ?_
           refine st_gno rfl rfl ?_
           refine st_val (ro_pickT (v := .bool _) rfl rfl) ?_
           refine mvb rfl ?_
           refine st_gno rfl rfl ?_
           refine st_gno rfl rfl ?_
           refine st_gno rfl rfl ?_
           refine st_gno rfl rfl ?_
           refine st_gno rfl rfl ?_
           refine st_gno rfl rfl ?_
           refine st_gno rfl rfl ?_
           refine st_val (ro_pickT (v := .bool _) rfl rfl) ?_
           refine st_nil (nx_then ?_)
           refine cd_condT rfl ?_
           refine cd_seq (cd_seq (cd_region ?_))
           refine mvi rfl ?_
           refine st_call FmLawP_k15 (num_any _ _) ?_
           rintro v124 w91 ⟨rfl, rfl⟩
           refine st_val (ro_bf (ro_neq rfl rfl) rfl) ?_
           refine mvb rfl ?_
           refine st_unguard rfl ?_
           refine mvs rfl ?_
           refine st_unguard rfl ?_
           refine st_val (ro_len FmLawP_l22 rfl) ?_
           refine st_unguard rfl ?_
           refine st_val (ro_bf (ro_gtr rfl rfl) rfl) ?_
           refine st_val (ro_pickF (v := .bool _) rfl rfl) ?_
           refine st_nil (nx_then ?_)
           refine cd_condF rfl ?_
           refine cd_skip (nx_then ?_)
           refine cd_exit ?_
           refine ex_then (ex_block (nx_then (cd_region ?_)))
           refine mvi rfl ?_
           refine st_val (ro_addN (b := 1) rfl rfl (by omega)) ?_
           refine asi rfl ?_
           refine st_nil ?_
           refine nx_cut (l + 1) ⟨(by first | rfl | (refine int_eq ?_; omega)), trivial⟩ (by (iterate 136 refine agr_cons rfl ?_); exact agr_rfl) ⟨?_, ?_⟩
           · exact ⟨by omega, hf.from_ ((From.rfl_.next D86).next E98), hP1.from_ ((From.rfl_.next D86).next E98), ((hB.next D86).next E98)⟩
           · show is.length - (l + 1) < is.length - l; omega
         with_reducible replace Q90 := of_decide_eq_false Q90
         refine st_unguard rfl ?_
         refine mvi rfl ?_
         refine st_unguard rfl ?_
         refine st_val (ro_fieldAddr FmLawP_f25_1 rfl) ?_
         refine st_unguard rfl ?_
         refine st_val (ro_load FmLawP_g22 rfl (by first | (first | exact (hP1.from_ ((From.rfl_.next D86).next E98)).whole | exact (hP1.from_ ((From.rfl_.next D86).next E98)).rd 0 rfl | exact (hP1.from_ ((From.rfl_.next D86).next E98)).rd 1 rfl | exact (hP1.from_ ((From.rfl_.next D86).next E98)).rd 2 rfl | exact (hP1.from_ ((From.rfl_.next D86).next E98)).rd 3 rfl) | (first | exact (hk1.from_ ((From.rfl_.next D86).next E98)).whole | exact (hk1.from_ ((From.rfl_.next D86).next E98)).rd 0 rfl | exact (hk1.from_ ((From.rfl_.next D86).next E98)).rd 1 rfl | exact (hk1.from_ ((From.rfl_.next D86).next E98)).rd 2 rfl | exact (hk1.from_ ((From.rfl_.next D86).next E98)).rd 3 rfl))) ?_
         refine st_unguard rfl ?_
         refine st_val (ro_len FmLawP_l22 rfl) ?_
         refine st_unguard rfl ?_
         refine st_val (ro_gtr rfl rfl) ?_
         refine st_val (ro_pickF (v := .bool _) rfl rfl) ?_
         refine mvb rfl ?_
         refine st_split (t := 114) rfl (fun Q92 => ?_) (fun Q92 => ?_)
         · with_reducible replace Q92 := of_decide_eq_true Q92
           refine st_gno rfl rfl ?_
           refine st_gno rfl rfl ?_
           refine st_gno rfl rfl ?_
           refine st_gno rfl rfl ?_
           refine st_gno rfl rfl ?_
           refine st_gno rfl rfl ?_
           refine st_gno rfl rfl ?_
           refine st_val (ro_pickT (v := .bool _) rfl rfl) ?_
           refine st_nil (nx_then ?_)
           refine cd_condT rfl ?_
           refine cd_seq (cd_seq (cd_region ?_))
           refine mvi rfl ?_
           refine st_call FmLawP_k15 (num_any _ _) ?_
           rintro v124 w93 ⟨rfl, rfl⟩
           refine st_val (ro_bf (ro_neq rfl rfl) rfl) ?_
           refine mvb rfl ?_
           refine st_unguard rfl ?_
           refine mvs rfl ?_
           refine st_unguard rfl ?_
           refine st_val (ro_len FmLawP_l22 rfl) ?_
           refine st_unguard rfl ?_
           refine st_val (ro_bf (ro_gtr rfl rfl) rfl) ?_
           refine st_val (ro_pickF (v := .bool _) rfl rfl) ?_
           refine st_nil (nx_then ?_)
           refine cd_condF rfl ?_
           refine cd_skip (nx_then ?_)
           refine cd_exit ?_
           refine ex_then (ex_block (nx_then (cd_region ?_)))
           refine mvi rfl ?_
           refine st_val (ro_addN (b := 1) rfl rfl (by omega)) ?_
           refine asi rfl ?_
           refine st_nil ?_
           refine nx_cut (l + 1) ⟨(by first | rfl | (refine int_eq ?_; omega)), trivial⟩ (by (iterate 137 refine agr_cons rfl ?_); exact agr_rfl) ⟨?_, ?_⟩
           · exact ⟨by omega, hf.from_ ((From.rfl_.next D86).next E98), hP1.from_ ((From.rfl_.next D86).next E98), ((hB.next D86).next E98)⟩
           · show is.length - (l + 1) < is.length - l; omega
         with_reducible replace Q92 := of_decide_eq_false Q92
         refine st_unguard rfl ?_
         refine mvi rfl ?_
         refine st_unguard rfl ?_
         refine st_val (ro_fieldAddr FmLawP_f25_1 rfl) ?_
         refine st_unguard rfl ?_
         refine st_val (ro_load FmLawP_g22 rfl (by first | (first | exact (hP1.from_ ((From.rfl_.next D86).next E98)).whole | exact (hP1.from_ ((From.rfl_.next D86).next E98)).rd 0 rfl | exact (hP1.from_ ((From.rfl_.next D86).next E98)).rd 1 rfl | exact (hP1.from_ ((From.rfl_.next D86).next E98)).rd 2 rfl | exact (hP1.from_ ((From.rfl_.next D86).next E98)).rd 3 rfl) | (first | exact (hk1.from_ ((From.rfl_.next D86).next E98)).whole | exact (hk1.from_ ((From.rfl_.next D86).next E98)).rd 0 rfl | exact (hk1.from_ ((From.rfl_.next D86).next E98)).rd 1 rfl | exact (hk1.from_ ((From.rfl_.next D86).next E98)).rd 2 rfl | exact (hk1.from_ ((From.rfl_.next D86).next E98)).rd 3 rfl))) ?_
         refine st_unguard rfl ?_
         refine st_val (ro_len FmLawP_l22 rfl) ?_
         refine st_unguard rfl ?_
         refine mvi rfl ?_
         refine st_unguard rfl ?_
         refine st_val (ro_sub64 rfl rfl (by omega)) ?_
         refine st_unguard rfl ?_
         refine st_val (ro_gtr rfl rfl) ?_
         refine st_val (ro_pickF (v := .bool _) rfl rfl) ?_
         refine st_nil (nx_then ?_)
         refine cd_cond rfl (fun Q94 => ?_) (fun Q94 => ?_)
         rotate_left
         · with_reducible replace Q94 := of_decide_eq_false Q94
           exfalso; omega
         with_reducible replace Q94 := of_decide_eq_true Q94
         refine cd_seq (cd_seq (cd_region ?_))
         refine mvi rfl ?_
         refine st_call FmLawP_k15 (num_any _ _) ?_
         rintro v124 w97 ⟨rfl, rfl⟩
         refine st_val (ro_bf (ro_neq rfl rfl) rfl) ?_
         refine mvb rfl ?_
         refine st_unguard rfl ?_
         refine mvs rfl ?_
         refine st_unguard rfl ?_
         refine st_val (ro_len FmLawP_l22 rfl) ?_
         refine st_unguard rfl ?_
         refine st_val (ro_bf (ro_gtr rfl rfl) rfl) ?_
         refine st_val (ro_pickF (v := .bool _) rfl rfl) ?_
         refine st_nil (nx_then ?_)
         refine cd_condF rfl ?_
         refine cd_skip (nx_then ?_)
         refine cd_exit ?_
         refine ex_then (ex_block (nx_then (cd_region ?_)))
         refine mvi rfl ?_
         refine st_val (ro_addN (b := 1) rfl rfl (by omega)) ?_
         refine asi rfl ?_
         refine st_nil ?_
         refine nx_cut (l + 1) ⟨(by first | rfl | (refine int_eq ?_; omega)), trivial⟩ (by (iterate 137 refine agr_cons rfl ?_); exact agr_rfl) ⟨?_, ?_⟩
         · exact ⟨by omega, hf.from_ ((From.rfl_.next D86).next E98), hP1.from_ ((From.rfl_.next D86).next E98), ((hB.next D86).next E98)⟩
         · show is.length - (l + 1) < is.length - l; omega
       refine mvt rfl ?_
       refine st_val (ro_extract rfl rfl) ?_
       refine st_val (ro_extract rfl rfl) ?_
       refine ass rfl ?_
       refine asi rfl ?_
       refine st_nil (nx_then (cd_seq (cd_seq (cd_region ?_))))
       refine mvi rfl ?_
       refine st_val (ro_lss rfl rfl) ?_
       refine mvb rfl ?_
       refine st_split (t := 103) rfl (fun Q98 => ?_) (fun Q98 => ?_)
       · with_reducible replace Q98 := of_decide_eq_true Q98
         exfalso; omega
       with_reducible replace Q98 := of_decide_eq_false Q98
       refine st_unguard rfl ?_
       refine mvi rfl ?_
       refine st_unguard rfl ?_
       refine st_val (ro_lss rfl rfl) ?_
       refine st_val (ro_pickF (v := .bool _) rfl rfl) ?_
       refine mvb rfl ?_
       refine st_split (t := 107) rfl (fun Q100 => ?_) (fun Q100 => ?_)
       · with_reducible replace Q100 := of_decide_eq_true Q100
         exfalso; omega
       with_reducible replace Q100 := of_decide_eq_false Q100
       refine st_unguard rfl ?_
       refine mvi rfl ?_
       refine st_unguard rfl ?_
       refine st_val (ro_fieldAddr FmLawP_f25_1 rfl) ?_
       refine st_unguard rfl ?_
       refine st_val (ro_load FmLawP_g22 rfl (by first | (first | exact (hP1.from_ ((From.rfl_.next D86).next E98)).whole | exact (hP1.from_ ((From.rfl_.next D86).next E98)).rd 0 rfl | exact (hP1.from_ ((From.rfl_.next D86).next E98)).rd 1 rfl | exact (hP1.from_ ((From.rfl_.next D86).next E98)).rd 2 rfl | exact (hP1.from_ ((From.rfl_.next D86).next E98)).rd 3 rfl) | (first | exact (hk1.from_ ((From.rfl_.next D86).next E98)).whole | exact (hk1.from_ ((From.rfl_.next D86).next E98)).rd 0 rfl | exact (hk1.from_ ((From.rfl_.next D86).next E98)).rd 1 rfl | exact (hk1.from_ ((From.rfl_.next D86).next E98)).rd 2 rfl | exact (hk1.from_ ((From.rfl_.next D86).next E98)).rd 3 rfl))) ?_
       refine st_unguard rfl ?_
       refine st_val (ro_len FmLawP_l22 rfl) ?_
       refine st_unguard rfl ?_
       refine st_val (ro_gtr rfl rfl) ?_
       refine st_val (ro_pickF (v := .bool _) rfl rfl) ?_
       refine mvb rfl ?_
       refine st_split (t := 114) rfl (fun Q102 => ?_) (fun Q102 => ?_)
       · with_reducible replace Q102 := of_decide_eq_true Q102
         exfalso; omega
       with_reducible replace Q102 := of_decide_eq_false Q102
       refine st_unguard rfl ?_
       refine mvi rfl ?_
       refine st_unguard rfl ?_
       refine st_val (ro_fieldAddr FmLawP_f25_1 rfl) ?_
       refine st_unguard rfl ?_
       refine st_val (ro_load FmLawP_g22 rfl (by first | (first | exact (hP1.from_ ((From.rfl_.next D86).next E98)).whole | exact (hP1.from_ ((From.rfl_.next D86).next E98)).rd 0 rfl | exact (hP1.from_ ((From.rfl_.next D86).next E98)).rd 1 rfl | exact (hP1.from_ ((From.rfl_.next D86).next E98)).rd 2 rfl | exact (hP1.from_ ((From.rfl_.next D86).next E98)).rd 3 rfl) | (first | exact (hk1.from_ ((From.rfl_.next D86).next E98)).whole | exact (hk1.from_ ((From.rfl_.next D86).next E98)).rd 0 rfl | exact (hk1.from_ ((From.rfl_.next D86).next E98)).rd 1 rfl | exact (hk1.from_ ((From.rfl_.next D86).next E98)).rd 2 rfl | exact (hk1.from_ ((From.rfl_.next D86).next E98)).rd 3 rfl))) ?_
       refine st_unguard rfl ?_
       refine st_val (ro_len FmLawP_l22 rfl) ?_
       refine st_unguard rfl ?_
       refine mvi rfl ?_
       refine st_unguard rfl ?_
       refine st_val (ro_sub64 rfl rfl (by omega)) ?_
       refine st_unguard rfl ?_
       refine st_val (ro_gtr rfl rfl) ?_
       refine st_val (ro_pickF (v := .bool _) rfl rfl) ?_
       refine st_nil (nx_then ?_)
       refine cd_cond rfl (fun Q104 => ?_) (fun Q104 => ?_)
       · with_reducible replace Q104 := of_decide_eq_true Q104
         exfalso; omega
       with_reducible replace Q104 := of_decide_eq_false Q104
       refine cd_skip (nx_then (cd_seq (cd_region ?_)))
       refine mvi rfl ?_
       refine st_call FmLawP_k15 (num_any _ _) ?_
       rintro v132 w106 ⟨rfl, rfl⟩
       refine st_val (ro_bf (ro_neq rfl rfl) rfl) ?_
       refine mvb rfl ?_
       refine st_unguard rfl ?_
       refine mvs rfl ?_
       refine st_unguard rfl ?_
       refine st_val (ro_fieldAddr FmLawP_f25_1 rfl) ?_
       refine st_unguard rfl ?_
       refine st_val (ro_load FmLawP_g22 rfl (by first | (first | exact (hP1.from_ ((From.rfl_.next D86).next E98)).whole | exact (hP1.from_ ((From.rfl_.next D86).next E98)).rd 0 rfl | exact (hP1.from_ ((From.rfl_.next D86).next E98)).rd 1 rfl | exact (hP1.from_ ((From.rfl_.next D86).next E98)).rd 2 rfl | exact (hP1.from_ ((From.rfl_.next D86).next E98)).rd 3 rfl) | (first | exact (hk1.from_ ((From.rfl_.next D86).next E98)).whole | exact (hk1.from_ ((From.rfl_.next D86).next E98)).rd 0 rfl | exact (hk1.from_ ((From.rfl_.next D86).next E98)).rd 1 rfl | exact (hk1.from_ ((From.rfl_.next D86).next E98)).rd 2 rfl | exact (hk1.from_ ((From.rfl_.next D86).next E98)).rd 3 rfl))) ?_
       refine st_unguard rfl ?_
       refine mvi rfl ?_
       refine st_unguard rfl ?_
       refine mvi rfl ?_
       refine st_unguard rfl ?_
       refine mvi rfl ?_
       refine st_unguard rfl ?_
       refine st_val (ro_add64 rfl rfl (by omega)) ?_
       refine st_unguard rfl ?_
       refine st_val (ro_sliceO (l := fr.toNat) (h := fr.toNat + n.toNat) FmLawP_e22 rfl (.inr ⟨_, _, _, rfl, rfl, by omega⟩) (.inr ⟨_, _, _, rfl, rfl, by omega⟩) (by omega) (by omega)) ?_
       refine st_unguard rfl ?_
       refine st_call FmLawP_k19 (eq_same A98 (restOf A ca fr.toNat 1) c98 (ca - fr.toNat) n.toNat (fr.toNat + n.toNat - fr.toNat) ((L.drop fr.toNat).take (fr.toNat + n.toNat - fr.toNat)) _ (hr98.from_ From.rfl_) (slice_row (ha.rowL.from_ ((hB.next D86).next E98)) (by omega) (by omega) hcap) (by rw [slice_len (by omega) (by omega)]; omega) (by rw [slice_len (by omega) (by omega)]) (by omega)) ?_
       rintro v143 w107 ⟨rfl, E143⟩
       refine st_unguard rfl ?_
       refine st_val (ro_bf (ro_not rfl) rfl) ?_
       refine st_val (ro_pickF (v := .bool _) rfl rfl) ?_
       refine st_nil (nx_then ?_)
       refine cd_condF rfl ?_
       refine cd_skip (nx_block (nx_then (cd_region ?_)))
       refine mvi rfl ?_
       refine st_val (ro_addN (b := 1) rfl rfl (by omega)) ?_
       refine asi rfl ?_
       refine st_nil ?_
       refine nx_cut (l + 1) ⟨(by first | rfl | (refine int_eq ?_; omega)), trivial⟩ (by (iterate 144 refine agr_cons rfl ?_); exact agr_rfl) ⟨?_, ?_⟩
       · exact ⟨by omega, hf.from_ (((From.rfl_.next D86).next E98).next E143), hP1.from_ (((From.rfl_.next D86).next E98).next E143), (((hB.next D86).next E98).next E143)⟩
       · show is.length - (l + 1) < is.length - l; omega
    with_reducible replace Q72 := of_decide_eq_false Q72
    refine cd_exit ?_
    refine ex_then (ex_then (ex_block (nx_block (nx_then (cd_region ?_)))))
    refine mvi rfl ?_
    refine st_val (ro_addN (b := 1) rfl rfl (by omega)) ?_
    refine asi rfl ?_
    refine st_nil ?_
    refine nx_cut (j + 1) ⟨(by first | rfl | (refine int_eq ?_; omega)), trivial⟩ (by (iterate 172 refine agr_cons rfl ?_); exact agr_rfl) ⟨?_, ?_⟩
    · exact ⟨by omega, hf.from_ From.rfl_, hP1.from_ From.rfl_, hB⟩
    · show is.length - (j + 1) < is.length - j; omega
  with_reducible replace Q70 := of_decide_eq_false Q70
  refine cd_exit ?_
  refine ex_then (ex_then (ex_block (nx_then (cd_seq (cd_region ?_)))))
  refine st_call FmLawP_k10 (wakes_rt _) ?_
  rintro v146 w108 ⟨rfl, E146⟩
  refine asb rfl ?_
  refine st_nil (nx_then (cd_ret ?_))
  refine res1 (v := .bool _) rfl rfl ?_
  exact ⟨rfl, (hB.next E146)⟩
theorem places_arg (cs : Array Value) (x : (Ty.pr (.int .i64) (.pr (.sl (.int .i64)) (.pr (.sl (.sl (.int .i64))) (.pr (.sl (.int .i64)) .unit)))).den) (w : World) (hs : cs.size = 4) (h : (Ty.pr (.int .i64) (.pr (.sl (.int .i64)) (.pr (.sl (.sl (.int .i64))) (.pr (.sl (.int .i64)) .unit)))).At w (fun j => cs[j]?) x) :
    Rt Try.prog 5 [.agg cs] w fun v w' => v = .bool true ∧ From w w' := by
  obtain ⟨k, A, ca, L, D, cp, ps, B, cb, is, rfl, ha, hcap⟩ := ask_of6 hs h
  exact places_law k A D B ca cp cb L ps is w ha hcap
theorem FmPlaces_lifted (os : Os) (started : os.Started) (H : Type) (enc : TypeId × Value → H) :
    ReturnsInHanded {} Try.checked os 5 .any (Rows.fmPlacesSpec.pre6 enc Try.prog Try.f5 Rows.fmPlacesRow.domain false) (Rows.fmPlacesSpec.post enc Try.prog Try.f5 false true false false) := by
  refine returnsInHanded_of_change_sized (C := Try.checked) Try.own started (by kernel_rfl) Try.func5
    (ChangeSpec.witness6 (enc := enc) (C := Try.checked) false ⟨#[], #[.agg #[.int .i64 0, .slice none 0 0, .slice none 0 0, .slice none 0 0]], []⟩ 8 (by kernel_rfl) (by kernel_rfl) (by kernel_rfl) (by kernel_rfl)) ?_
  intro W base args ds gs before hval hW _ hsz _
  exact law_step 5 Try.f5 25 4 Rows.fmPlacesSpec Try.params5 (by kernel_rfl) Try.underlying4 rfl (fun _ => rfl) (by kernel_rfl) (of_decide_eq_true (by kernel_rfl)) (walk_struct (.int .i64) (.pr (.sl (.int .i64)) (.pr (.sl (.sl (.int .i64))) (.pr (.sl (.int .i64)) .unit))) (by kernel_rfl) places_arg) W base args ds gs before hval hW hsz

theorem FmPlaces_holds : Rows.FmPlacesSaid :=
  OpenClaim.holds_of_wide 5 Try.f5 rfl rfl rfl rfl rfl rfl rfl ⟨rfl, rfl, rfl, rfl, rfl⟩ rfl rfl rfl rfl rfl (by kernel_rfl) Try.func5 (by kernel_rfl)
    (of_decide_eq_true (by kernel_rfl)) (by unfold Func.isWrapper; first | (rw [if_pos (by decide +kernel)]; kernel_rfl) | (rw [if_neg (by decide +kernel)]; exact ⟨rfl, rfl⟩))
    (fun os started H enc _ => FmPlaces_lifted os started H enc)
#print axioms FmPlaces_holds

end Go.Proofs.Ytepdgbglaiimaaa

namespace Go.Proofs.Ytepdgbglaiimaaa
open Go.RowKit
open Go.ChangeShapes Go.WideShapes Go.ChangeAt
open Go.Proofs.Ytepdgbglaiimaaa.SA
theorem FmCount_l22 : (elemQ Try.prog 22).isSome = true := by kernel_rfl
theorem FmCount_e22 : elemQ Try.prog 22 = some (3, 1) := by kernel_rfl
theorem FmCount_g3 : aggQ Try.prog 3 = some false := by kernel_rfl
theorem fnd_split (L p : List Nat) (k : Nat) : ∀ d, ∃ M, fndTo L p (k + d) = fndTo L p k ++ M ∧ ∀ x ∈ M, k ≤ x
  | 0 => ⟨[], by simp, fun x h => by cases h⟩
  | d + 1 => by
    obtain ⟨M, h1, h2⟩ := fnd_split L p k d
    by_cases h : pBg (endT L) (k + d) p
    · refine ⟨M ++ [k + d], ?_, fun x hx => ?_⟩
      · rw [← Nat.add_assoc, fndTo_yes h, h1, List.append_assoc]
      · rcases List.mem_append.1 hx with hx | hx
        · exact h2 x hx
        · rw [List.mem_singleton] at hx; omega
    · exact ⟨M, by rw [← Nat.add_assoc, fndTo_no h, h1], h2⟩
theorem told_iff {L p : List Nat} {k : Nat} (hk : k < L.length) : ((fndTo L p k).length < (fndL L p).length ∧ (fndL L p).getD (fndTo L p k).length 0 = k) ↔ pBg (endT L) k p := by
  have hL : fndL L p = fndTo L p (k + 1 + (L.length - (k + 1))) := by rw [show k + 1 + (L.length - (k + 1)) = L.length by omega]; rfl
  obtain ⟨M, h1, h2⟩ := fnd_split L p (k + 1) (L.length - (k + 1))
  rw [hL, h1]
  by_cases h : pBg (endT L) k p
  · rw [fndTo_yes h]
    refine ⟨fun _ => h, fun _ => ⟨by simp, ?_⟩⟩
    rw [List.append_assoc, List.getD_eq_getElem?_getD, List.getElem?_append_right (Nat.le_refl _), Nat.sub_self]
    rfl
  · rw [fndTo_no h]
    refine ⟨fun ⟨a, b⟩ => ?_, fun x => absurd x h⟩
    rw [List.length_append] at a
    rw [List.getD_eq_getElem?_getD, List.getElem?_append_right (Nat.le_refl _), Nat.sub_self, List.getElem?_eq_getElem (by omega)] at b
    have := h2 _ (List.getElem_mem (show 0 < M.length by omega))
    simp only [Option.getD_some] at b
    omega
theorem here_iff {L p : List Nat} {k : Nat} (hk : k ≤ L.length) : (k + p.length ≤ L.length ∧ ((cI L).drop k).take (k + p.length - k) = cI p) ↔ pBg (endT L) k p := by
  rw [bg_iff hk, Nat.add_sub_cancel_left]
  refine and_congr_right fun hl => ?_
  rw [cI, ← List.map_drop, ← List.map_take]
  constructor
  · intro e m hm
    have e2 : (L.drop k).take p.length = p := cI_inj e
    have := congrArg (fun l => l.getD m 0) e2
    simp only [List.getD_eq_getElem?_getD, List.getElem?_take_of_lt hm, List.getElem?_drop] at this
    rw [List.getD_eq_getElem?_getD, List.getD_eq_getElem?_getD]
    exact this
  · intro e
    show cI _ = cI p
    congr 1
    refine List.ext_getElem (by rw [List.length_take, List.length_drop]; omega) fun m h1 h2 => ?_
    have := e m h2
    rw [List.getD_eq_getElem?_getD, List.getD_eq_getElem?_getD, List.getElem?_eq_getElem h2, List.getElem?_eq_getElem (by omega)] at this
    simpa using this
theorem rw_cnt {L F p : List Nat} (hS : IsSA L F) (hp : p ≠ []) : ((rwT L p : Nat) : Int) - ((rwF L p : Nat) : Int) = ((fndL L p).length : Nat) := by
  have h := congrArg List.length (srt_plc hS hp)
  rw [← plc_rw, srt_len, cI, List.length_map, plc_len, cI, List.length_map] at h
  have := rw_sub L p
  omega
theorem bg_pre {t : Nat → Nat} : ∀ {s q : List Nat} {i : Nat}, pBg t i (s ++ q) → pBg t i s
  | [], _, _, _ => trivial
  | _ :: _, _, _, ⟨h1, h2⟩ => ⟨h1, bg_pre h2⟩
open Classical in
theorem fnd_pre {L s q : List Nat} : (fndL L (s ++ q)).length ≤ (fndL L s).length := by
  unfold fndL
  rw [← List.countP_eq_length_filter, ← List.countP_eq_length_filter]
  exact List.countP_mono_left fun x _ h => decide_eq_true (bg_pre (of_decide_eq_true h))
theorem hits_cnt {K : Nat} {L F p : List Nat} (hS : IsSA L F) (hp : p ≠ []) (hK : ∀ x ∈ p, x < K) : rsT K L (cI p) - rsF K L (cI p) = ((fndL L p).length : Nat) := by
  unfold rsT rsF
  rw [ask_good hp hK, if_pos rfl, if_pos rfl, cI_toNat]
  exact rw_cnt hS hp
/-- the pattern without its last symbol -/
theorem less_one {K : Nat} {L F p : List Nat} (hS : IsSA L F) (hK : ∀ x ∈ p, x < K) (h1 : 1 < p.length) : askE (K : Nat) ((cI p).take (p.length - 1)) = 0 ∧ ((fndL L p).length : Int) ≤ rsT K L ((cI p).take (p.length - 1)) - rsF K L ((cI p).take (p.length - 1)) := by
  have e : (cI p).take (p.length - 1) = cI (p.take (p.length - 1)) := by rw [cI, ← List.map_take]
  have h0 : p.take (p.length - 1) ≠ [] := fun h => by
    have := congrArg List.length h
    rw [List.length_take, List.length_nil] at this
    omega
  have hK2 : ∀ x ∈ p.take (p.length - 1), x < K := fun x hx => hK x (List.mem_of_mem_take hx)
  rw [e, hits_cnt hS h0 hK2]
  refine ⟨ask_good h0 hK2, ?_⟩
  have := fnd_pre (L := L) (s := p.take (p.length - 1)) (q := p.drop (p.length - 1))
  rw [List.take_append_drop] at this
  omega
theorem fnd_whole {L : List Nat} (h : L ≠ []) : fndL L L = [0] := by
  refine asc_uniq (fndL_asc L L) (by simp) fun x => ?_
  rw [mem_fndL, List.mem_singleton]
  have hp := List.length_pos_iff.2 h
  constructor
  · rintro ⟨h1, h2⟩
    have := bg_le (Nat.le_of_lt h1) h2
    omega
  · rintro rfl
    exact ⟨hp, (bg_iff (Nat.zero_le _)).2 ⟨by omega, fun m _ => by rw [Nat.zero_add]⟩⟩
theorem fnd_part {L : List Nat} {i n : Nat} (h : i + n ≤ L.length) (hn : 0 < n) : i ∈ fndL L ((L.drop i).take n) := by
  rw [mem_fndL]
  refine ⟨by omega, (bg_iff (by omega)).2 ⟨by rw [List.length_take, List.length_drop]; omega, fun m hm => ?_⟩⟩
  rw [List.length_take, List.length_drop] at hm
  rw [List.getD_eq_getElem?_getD, List.getD_eq_getElem?_getD, List.getElem?_take_of_lt (by omega), List.getElem?_drop]
theorem fnd_one {L : List Nat} {c : Nat} : (fndL L [c]).length = 0 ↔ c ∉ L := by
  rw [List.length_eq_zero_iff]
  constructor
  · intro e hc
    obtain ⟨i, hi, rfl⟩ := List.getElem_of_mem hc
    have : i ∈ fndL L [L[i]] := mem_fndL.2 ⟨hi, (bg_iff (Nat.le_of_lt hi)).2 ⟨hi, fun m hm => by
      rw [List.length_singleton] at hm
      obtain rfl : m = 0 := by omega
      rw [Nat.add_zero, List.getD_eq_getElem?_getD, List.getElem?_eq_getElem hi]
      rfl⟩⟩
    rw [e] at this
    cases this
  · intro hc
    rw [List.eq_nil_iff_forall_not_mem]
    intro i hi
    obtain ⟨h1, h2⟩ := mem_fndL.1 hi
    have := ((bg_iff (Nat.le_of_lt h1)).1 h2).2 0 (by simp)
    rw [Nat.add_zero, List.getD_eq_getElem?_getD, List.getElem?_eq_getElem h1] at this
    refine hc ?_
    have e : L[i] = c := this
    rw [← e]
    exact List.getElem_mem h1
theorem FmAt.symb {w : World} {base b K a : Nat} {L B F : List Nat} (h : FmAt w base b K a L B F) : ∀ x ∈ L, x < K := by
  obtain ⟨hb0, hSA, hbw, hLn, hK, tb, AS, cs, gr, hI, hT, ho, hR, hgr⟩ := h
  exact fun x hx => tree_lt hT x ((bw_mem hbw x).2 hx)
set_option maxHeartbeats 400000 in
theorem in_rt (A : Option Addr) (c n : Nat) (l : List Int) (x : Int) (w : World) (hr : RowOf iV w A l) (hn : n = l.length) (hl : n ≤ 1000000) :
    Rt Try.prog 25 [.slice A n c, .int .i64 x] w (fun v w' => (∃ r : Int, v = .int .i64 r ∧ -1 ≤ r ∧ (0 ≤ r ↔ x ∈ l)) ∧ From w w') := by
  refine enter (n := 19) Try.func25 rfl rfl rfl ?_
  refine cd_seq (cd_region ?_)
  refine asi rfl ?_
  refine st_nil (nx_then (cd_seq (cd_seq (cd_region ?_))))
  refine asi rfl ?_
  refine st_nil (nx_then (cd_block ?_))
  refine cd_loop (G := Nat) [4, 6, 7, 8, 9, 10, 11, 12, 13, 14, 15, 16, 17, 18] (fun i => [(5, .int .i64 (i : Nat))]) (fun i w' => i ≤ n ∧ x ∉ l.take i ∧ From w w') (fun i => n - i) (0) ⟨rfl, trivial⟩ ?_ ?_
  · exact ⟨Nat.zero_le _, by simp, From.rfl_⟩
  rintro i ρ1 w1 ⟨hi, hno, hB⟩
  refine cd_seq (cd_seq (cd_region ?_))
  refine mvi rfl ?_
  refine mvs rfl ?_
  refine st_val (ro_len FmCount_l22 rfl) ?_
  refine st_val (ro_lss rfl rfl) ?_
  refine st_nil (nx_then ?_)
  refine cd_cond rfl (fun Q2 => ?_) (fun Q2 => ?_)
  · with_reducible replace Q2 := of_decide_eq_true Q2
    obtain ⟨b, o, rfl, hc⟩ := hr (by omega)
    have hil : i < l.length := by omega
    refine cd_skip (nx_then (cd_seq (cd_block (cd_seq (cd_region ?_)))))
    refine mvs rfl ?_
    refine mvi rfl ?_
    refine st_val (ro_indexAddr1 FmCount_e22 rfl rfl (by omega)) ?_
    refine st_val (ro_load FmCount_g3 rfl (by exact cellF hB (hc i hil))) ?_
    refine mvi rfl ?_
    refine st_val (ro_eql rfl rfl) ?_
    refine st_nil (nx_then ?_)
    refine cd_cond rfl (fun Q3 => ?_) (fun Q3 => ?_)
    · with_reducible replace Q3 := of_decide_eq_true Q3
      refine cd_seq (cd_region ?_)
      refine mvi rfl ?_
      refine asi rfl ?_
      refine st_nil (nx_then (cd_ret (rt_block (rt_then (rt_then (rt_block (rt_then ?_)))))))
      refine res1 (v := .int _ _) rfl rfl ?_
      exact ⟨⟨_, rfl, by omega, fun _ => by
        have e : l[i] = x := by omega
        rw [← e]; exact List.getElem_mem hil, fun _ => by omega⟩, hB⟩
    with_reducible replace Q3 := of_decide_eq_false Q3
    refine cd_skip (nx_block (nx_then (cd_region ?_)))
    refine mvi rfl ?_
    refine st_val (ro_addN (b := 1) rfl rfl (by omega)) ?_
    refine asi rfl ?_
    refine st_nil ?_
    refine nx_cut (i + 1) ⟨(by first | rfl | (refine int_eq ?_; omega)), trivial⟩ (by (iterate 28 refine agr_cons rfl ?_); exact agr_rfl) ⟨?_, ?_⟩
    · exact ⟨by omega, fun h => by
        rw [List.take_succ_eq_append_getElem (by omega), List.mem_append, List.mem_singleton] at h
        rcases h with h | h
        · exact hno h
        · omega, hB⟩
    · show n - (i + 1) < n - i; omega
  with_reducible replace Q2 := of_decide_eq_false Q2
  refine cd_exit ?_
  refine ex_then (ex_then (ex_block (nx_then (cd_seq (cd_region ?_)))))
  refine asi rfl ?_
  refine st_nil (nx_then (cd_ret ?_))
  refine res1 (v := .int _ _) rfl rfl ?_
  refine ⟨⟨_, rfl, by omega, fun h => absurd h (by omega), fun h => ?_⟩, hB⟩
  rw [List.take_of_length_le (by omega)] at hno
  exact absurd h hno
set_option maxHeartbeats 400000 in
theorem rising_rt (A : Option Addr) (c n : Nat) (l : List Nat) (w : World) (hr : RowOf iV w A (cI l)) (hn : n = l.length) (hl : n ≤ 1000000) (hp : l.Pairwise (· < ·)) :
    Rt Try.prog 26 [.slice A n c] w (fun v w' => v = .bool true ∧ From w w') := by
  refine enter (n := 20) Try.func26 rfl rfl rfl ?_
  refine cd_seq (cd_region ?_)
  refine asb rfl ?_
  refine st_nil (nx_then (cd_seq (cd_seq (cd_region ?_))))
  refine asi rfl ?_
  refine st_nil (nx_then (cd_block ?_))
  refine cd_loop (G := Nat) [2, 4, 5, 6, 7, 8, 9, 10, 11, 12, 13, 14, 15, 16, 17, 18, 19] (fun i => [(3, .int .i64 (i : Nat))]) (fun i w' => 1 ≤ i ∧ From w w') (fun i => n - i) (1) ⟨rfl, trivial⟩ ?_ ?_
  · exact ⟨Nat.le_refl _, From.rfl_⟩
  rintro i ρ1 w1 ⟨hi, hB⟩
  refine cd_seq (cd_seq (cd_region ?_))
  refine mvi rfl ?_
  refine mvs rfl ?_
  refine st_val (ro_len FmCount_l22 rfl) ?_
  refine st_val (ro_lss rfl rfl) ?_
  refine st_nil (nx_then ?_)
  refine cd_cond rfl (fun Q2 => ?_) (fun Q2 => ?_)
  · with_reducible replace Q2 := of_decide_eq_true Q2
    obtain ⟨b, o, rfl, hc⟩ := rowD hr (by omega)
    have hlt : l.getD (i - 1) 0 < l.getD i 0 := by
      have := List.pairwise_iff_getElem.1 hp (i - 1) i (by omega) (by omega) (by omega)
      rwa [List.getD_eq_getElem?_getD, List.getD_eq_getElem?_getD, List.getElem?_eq_getElem (by omega), List.getElem?_eq_getElem (by omega)]
    refine cd_skip (nx_then (cd_seq (cd_block (cd_seq ?_))))
    apply cd_drawnD 10 [(10, eqp _), (11, eqp _), (12, eqp _), (13, eqp (iV ((l.getD i 0 : Nat) : Int))), (14, eqp _), (15, eqp _), (16, eqp _), (17, eqp _), (18, eqp (iV ((l.getD (i - 1) 0 : Nat) : Int))), (19, eqp _)] (by repeat first | exact pq_body | refine pq_then ?_ | refine pq_block ?_) (by kernel_rfl) (by kernel_rfl) ⟨eqp_mono _, eqp_mono _, eqp_mono _, eqp_mono _, eqp_mono _, eqp_mono _, eqp_mono _, eqp_mono _, eqp_mono _, eqp_mono _, trivial⟩
    case hop =>
     refine ⟨?_, ?_⟩
     · rintro - w4 D4
       show OpOK _ _ _ _ _ _ _
       exact ok_pure (ro_move (v := .slice _ _ _) rfl) rfl
     refine ⟨?_, ?_⟩
     · rintro - w5 D5
       show OpOK _ _ _ _ _ _ _
       exact ok_pure (ro_move (v := .int _ _) rfl) rfl
     refine ⟨?_, ?_⟩
     · rintro - w6 D6
       rintro _ rfl _ rfl
       show OpOK _ _ _ _ _ _ _
       exact ok_pure (ro_indexAddr1 FmCount_e22 rfl rfl (by omega)) rfl
     refine ⟨?_, ?_⟩
     · rintro - w7 D7
       rintro _ rfl
       show OpOK _ _ _ _ _ _ _
       exact ok_pure (ro_load (v := iV ((l.getD i 0 : Nat) : Int)) FmCount_g3 rfl (cellF (hB.next D7) (hc i (by omega)))) rfl
     refine ⟨?_, ?_⟩
     · rintro - w8 D8
       show OpOK _ _ _ _ _ _ _
       exact ok_pure (ro_move (v := .slice _ _ _) rfl) rfl
     refine ⟨?_, ?_⟩
     · rintro - w9 D9
       show OpOK _ _ _ _ _ _ _
       exact ok_pure (ro_move (v := .int _ _) rfl) rfl
     refine ⟨?_, ?_⟩
     · rintro - w10 D10
       rintro _ rfl
       show OpOK _ _ _ _ _ _ _
       exact ok_pure (ro_subN (b := 1) rfl rfl (by omega)) rfl
     refine ⟨?_, ?_⟩
     · rintro - w11 D11
       rintro _ rfl _ rfl
       show OpOK _ _ _ _ _ _ _
       exact ok_pure (ro_indexAddr1 FmCount_e22 rfl rfl (by omega)) rfl
     refine ⟨?_, ?_⟩
     · rintro - w12 D12
       rintro _ rfl
       show OpOK _ _ _ _ _ _ _
       exact ok_pure (ro_load (v := iV ((l.getD (i - 1) 0 : Nat) : Int)) FmCount_g3 rfl (cellF (hB.next D12) (hc (i - 1) (by omega)))) rfl
     refine ⟨?_, ?_⟩
     · rintro - w13 D13
       rintro v13_13 rfl v13_18 rfl
       show OpOK _ _ _ _ _ _ _
       exact ok_pure (ro_leq rfl rfl) rfl
     exact trivial
    case hend =>
     intro w14 D14
     rintro _ rfl _ rfl _ rfl v13 rfl _ rfl _ rfl _ rfl _ rfl v18 rfl _ rfl
     show St _ _ _ _ _ _ _
     refine st_nil (nx_then ?_)
     refine cd_cond rfl (fun Q15 => ?_) (fun Q15 => ?_)
     · with_reducible replace Q15 := of_decide_eq_true Q15
       exfalso; omega
     with_reducible replace Q15 := of_decide_eq_false Q15
     refine cd_skip (nx_block (nx_then (cd_region ?_)))
     refine mvi rfl ?_
     refine st_val (ro_addN (b := 1) rfl rfl (by omega)) ?_
     refine asi rfl ?_
     refine st_nil ?_
     refine nx_cut (i + 1) ⟨(by first | rfl | (refine int_eq ?_; omega)), trivial⟩ (by (iterate 35 refine agr_cons rfl ?_); exact agr_rfl) ⟨?_, ?_⟩
     · exact ⟨by omega, (hB.next D14)⟩
     · show n - (i + 1) < n - i; omega
  with_reducible replace Q2 := of_decide_eq_false Q2
  refine cd_exit ?_
  refine ex_then (ex_then (ex_block (nx_then (cd_seq (cd_region ?_)))))
  refine asb rfl ?_
  refine st_nil (nx_then (cd_ret ?_))
  refine res1 (v := .bool _) rfl rfl ?_
  exact ⟨rfl, hB⟩
end Go.Proofs.Ytepdgbglaiimaaa
