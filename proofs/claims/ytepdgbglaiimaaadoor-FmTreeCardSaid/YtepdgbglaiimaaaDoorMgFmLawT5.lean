/- THE WAVELET MATRIX: where an occurrence stands; the way back. -/
import Derived.Test.YtepdgbglaiimaaaDoorMgFmLawT4
import Derived.Test.YtepdgbglaiimaaaDoorMgFmLawT2
import Derived.Test.YtepdgbglaiimaaaDoorMgFmLawT1
import Derived.Sort.OwnSortedInts
import Derived.Test.YtepdgbglaiimaaaDoorMgFmLawT3
import Derived.Test.YtepdgbglaiimaaaDoorCards
import Derived.Test.YtepdgbglaiimaaaDoorTie
import Derived.Lib.LaidTab
set_option maxRecDepth 100000
namespace Go.Proofs.YtepdgbglaiimaaaDoor
open Go.RowKit
open Go.ChangeShapes Go.WideShapes Go.ChangeAt
theorem WavMake_q54 : litQ Tryd.prog 54 = some (59, 3, 24, (.agg #[.pointer none, .int .i64 0, .int .i64 0])) := by kernel_rfl
theorem WavMake_g59 : aggQ Tryd.prog 59 = some true := by kernel_rfl
theorem WavMake_z59 : sizeQ Tryd.prog 59 = some 3 := by kernel_rfl
theorem WavMake_g54 : aggQ Tryd.prog 54 = some false := by kernel_rfl
theorem WavMake_s3 : (Tryd.prog.underlying 3).isSome = true := by kernel_rfl
theorem WavMake_i81 : Tryd.prog.underlying 81 = some (.int .u64) := by kernel_rfl
theorem WavMake_k43 : callable Tryd.prog 43 = true := by kernel_rfl
theorem WavMake_k44 : callable Tryd.prog 44 = true := by kernel_rfl
theorem WavMake_b56_1_2 : ∀ (a0 : Option Addr) (a1 a2 : Nat) (a3 : Int), Tryd.prog.built 56 [(1, .slice a0 a1 a2), (2, .int .i64 a3)] = some #[.slice none 0 0, .slice a0 a1 a2, .int .i64 a3] := by intros; kernel_rfl
theorem WavMake_k45 : callable Tryd.prog 45 = true := by kernel_rfl
theorem WavMake_k46 : callable Tryd.prog 46 = true := by kernel_rfl
theorem WavMake_o59 : zeroQ Tryd.prog 59 = some (.agg #[.pointer none, .int .i64 0, .int .i64 0]) := by kernel_rfl
theorem WavMake_f56_0 : fieldQ Tryd.prog 56 0 = some 0 := by kernel_rfl
theorem WavMake_z54 : sizeQ Tryd.prog 54 = some 1 := by kernel_rfl
theorem fillL (v z s : Nat) : Instr.fill (fun i => some (i * 3, 3)) ((Array.range (1 * 3)).map ((Value.agg #[.pointer none, .int .i64 0, .int .i64 0]).cells[· % (Value.agg #[.pointer none, .int .i64 0, .int .i64 0]).cells.size]!)) [(0, .agg (lvlV v z s).toArray)] = some (lvlV v z s).toArray := by
  first
    | kernel_rfl
    | rfl
theorem SymR.off {w0 w w' : World} {A B : Option Addr} {L : List Nat} {bs m c : Nat} {xs : List Value} (h : SymR w0 w A L) (ho : w.ownsRow bs 59 3 (.slice B m c) m xs) (hbs : w0.heap.size ≤ bs) (hg : w.grownBy w' (B.map (·.block))) : SymR w0 w' A L := by
  have hne : ∀ q, 0 < L.length → A.map (·.block) = some q → some q ≠ B.map (·.block) := fun q h0 hq e => by
    rcases h.2 q h0 hq with a | ⟨cs, hb⟩
    · have := (own_at ho q e.symm).1; omega
    · exact own_off ho hb (by decide) q e.symm rfl
  refine ⟨fun h0 => ?_, fun q h0 hq => (h.2 q h0 hq).imp id fun ⟨cs, hb⟩ => ⟨cs, hb.grown hg fun k hk e => hne q h0 hq (by rw [hk, e])⟩⟩
  obtain ⟨b, o, hA, hc⟩ := h.1 h0
  exact ⟨b, o, hA, fun i hi => hg.cell (hc i hi) (hne b h0 (by rw [hA]; rfl))⟩
theorem SymR.only {w0 w w' : World} {A : Option Addr} {L : List Nat} {g t : Nat} {cs0 : Array Value} (h : SymR w0 w A L) (o : Only g w w') (hb : Blk w g t cs0) (ht : t ≠ 3) (hg : w0.heap.size ≤ g) : SymR w0 w' A L := by
  have hne : ∀ q, 0 < L.length → A.map (·.block) = some q → q ≠ g := fun q h0 hq e => by
    subst e
    rcases h.2 q h0 hq with a | ⟨cs, hb2⟩
    · omega
    · unfold Blk at hb hb2
      rw [hb] at hb2
      simp only [Option.some.injEq, Obj.cells.injEq] at hb2
      exact ht hb2.2.1
  refine ⟨fun h0 => ?_, fun q h0 hq => (h.2 q h0 hq).imp id fun ⟨cs, hb2⟩ => ⟨cs, hb2.only o (hne q h0 hq)⟩⟩
  obtain ⟨b, o', hA, hc⟩ := h.1 h0
  exact ⟨b, o', hA, fun i hi => (o.cell (hne b h0 (by rw [hA]; rfl))).trans (hc i hi)⟩
theorem split_n (A : Option Addr) (c n : Nat) (L : List Nat) (w : World) (hn : n = L.length) (hr : RowOf nV w A L) (hl : n ≤ 131072) (s : Nat) (hs : s ≤ 9) (h10 : ∀ x ∈ L, x < 1024) : Rt Tryd.prog 46 [.slice A n c, .int .i64 (s : Nat)] w
    fun v w' => (∃ b A' c', v = .tuple #[.agg (lvlV b (zerosL s L).length s).toArray, .slice A' n c', .int .i64 0] ∧ Vec w' w.heap.size b (L.map (bitN s)) ∧ w'.ownsRow w.heap.size 3 1 (.slice A' n c') n ((partL s L).map nV)) ∧ From w w' := by
  subst hn
  exact split_rt A c L w hr hl s hs h10
theorem less_n (k : Nat) (hk : k ≤ 512) (A : Option Addr) (c n : Nat) (L : List Nat) (w : World) (hn : n = L.length) (hr : RowOf nV w A L) (hl : n ≤ 131072) (hlt : ∀ x ∈ L, x < k) : Rt Tryd.prog 44 [.int .i64 (k : Nat), .slice A n c] w
    fun v w' => (∃ g, v = .slice (some ⟨g, 0, none⟩) (k + 1) (k + 1) ∧ w.heap.size ≤ g ∧ Blk w' g 3 (tab (k + 1) (cntLt L))) ∧ From w w' := by
  subst hn
  exact countLess_rt k hk A c L w hr hl hlt
theorem check_n (k : Int) (A : Option Addr) (c n : Nat) (xs : List Int) (w : World) (hn : n = xs.length) (hr : RowOf iV w A xs) (hl : xs.length * 8 ≤ 140737488351232) : Rt Tryd.prog 43 [.int .i64 k, .slice A n c] w fun v w' => v = .int .i64 (chkW k xs) ∧ w = w' := by
  subst hn
  exact check_rt k A c xs w hr hl
set_option maxHeartbeats 1500000 in
theorem new_w (k : Int) (A : Option Addr) (c nn : Nat) (xs : List Int) (w : World) (hr : RowOf iV w A xs) (hnn : nn = xs.length) (hl : xs.length * 8 ≤ 140737488351232) (hA0 : ∀ q, 0 < xs.length → A.map (·.block) = some q → q < w.heap.size) :
    Rt Tryd.prog 31 [.int .i64 k, .slice A nn c] w (fun v w' => ((chkW k xs ≠ 0 ∧ v = .tuple #[.pointer none, .int .i64 (chkW k xs)]) ∨ (∃ (K : Nat) (L : List Nat) (b : Nat), k = (K : Nat) ∧ xs = L.map (fun x : Nat => (x : Int)) ∧ v = .tuple #[.pointer (some ⟨b, 0, none⟩), .int .i64 0] ∧ TreeAt w' w.heap.size b K L)) ∧ From w w') := by
  refine enter (n := 57) Tryd.func31 rfl rfl rfl ?_
  refine cd_seq (cd_region ?_)
  refine asp rfl ?_
  refine asi rfl ?_
  refine st_nil (nx_then (cd_seq (cd_seq (cd_region ?_))))
  refine mvi rfl ?_
  refine mvs rfl ?_
  refine st_call WavMake_k43 (check_n k A c nn xs _ hnn (hr.from_ From.rfl_) hl) ?_
  rintro v15 w1 ⟨rfl, rfl⟩
  refine asi rfl ?_
  refine st_nil (nx_then (cd_seq (cd_region ?_)))
  refine mvi rfl ?_
  refine st_val (ro_neq rfl rfl) ?_
  refine st_nil (nx_then ?_)
  refine cd_cond rfl (fun Q2 => ?_) (fun Q2 => ?_)
  · with_reducible replace Q2 := bx_t Q2
    have hch1 : chkW k xs ≠ 0 := by simpa using Q2
    refine cd_seq (cd_region ?_)
    refine mvi rfl ?_
    refine asp rfl ?_
    refine asi rfl ?_
    refine st_nil (nx_then (cd_ret (rt_then ?_)))
    refine res2 (v := .pointer _) (v' := .int _ _) rfl rfl rfl ?_
    exact ⟨.inl ⟨hch1, rfl⟩, From.rfl_⟩
  with_reducible replace Q2 := bx_f Q2
  have hch0 : chkW k xs = 0 := by simpa using Q2
  obtain ⟨K, L, rfl, hxs, hK1, hK2, hlt, hLl⟩ := xs_nat hch0
  have hrn : RowOf nV w A L := row_nat (hxs ▸ hr)
  have hnL : nn = L.length := by rw [hnn, hxs, List.length_map]
  have hnl : nn ≤ 131072 := by omega
  have hArow : ∀ q, 0 < L.length → A.map (·.block) = some q → q < w.heap.size ∨ ∃ cs, Blk w q 3 cs := fun q h0 hq => .inl (hA0 q (by rw [hxs, List.length_map]; exact h0) hq)
  refine cd_skip (nx_then (cd_seq (cd_region ?_)))
  refine mvi rfl ?_
  refine mvs rfl ?_
  refine st_call WavMake_k44 (less_n K hK2 A c nn L _ hnL (hrn.from_ From.rfl_) hnl hlt) ?_
  rintro v21 w3 ⟨⟨g, rfl, hg0, hgB⟩, E21⟩
  refine mvi rfl ?_
  refine st_val (ro_build (l := [(1, .tmp 21), (2, .tmp 22)]) (WavMake_b56_1_2 _ _ _ _)) ?_
  refine st_box (v := .agg _) rfl ?_
  intro b24 w4 E24 hb24 hk24
  have hl24 := hk24.lt
  have hg24 : w.heap.size ≤ b24 := by rw [hb24]; exact ((From.rfl_.next E21)).size
  have hgb : g ≠ b24 := by have := hgB.lt; omega
  have hArow : ∀ q, 0 < L.length → A.map (·.block) = some q → q < w.heap.size ∨ ∃ cs, Blk w4 q 3 cs := fun q h0 hq => .inl (hA0 q (by rw [hxs, List.length_map]; exact h0) hq)
  refine asp rfl ?_
  refine st_nil (nx_then (cd_seq (cd_region ?_)))
  refine mvs rfl ?_
  refine ass rfl ?_
  refine st_nil (nx_then (cd_seq (cd_seq (cd_region ?_))))
  refine mvi rfl ?_
  refine st_val (ro_subN (a := K) (b := 1) rfl rfl ⟨hK1, by omega⟩) ?_
  refine st_val (ro_conv64 WavMake_s3 WavMake_i81 rfl (by omega)) ?_
  refine st_call WavMake_k45 (len_rt (K - 1) _ (by omega)) ?_
  rintro v29 w5 ⟨rfl, rfl⟩
  refine st_val (ro_sub64 rfl rfl (by show _ ≤ ((nlv K : Nat) : Int) - 1 ∧ ((nlv K : Nat) : Int) - 1 ≤ _; have := nlv_le hK2; omega)) ?_
  refine asi rfl ?_
  refine st_nil (nx_then (cd_block ?_))
  refine cd_loop (G := Nat × Option Addr × Nat × Option Addr × Nat × (Nat → Nat)) [4, 5, 10, 11, 12, 31, 32, 33, 34, 35, 36, 37, 38, 39, 40, 41, 42, 43, 44, 45, 46, 47, 48, 49, 50, 51, 52, 53, 54, 55] (fun (j, A8, c8, _, _, _) => [(8, .slice A8 nn c8), (9, .int .i64 ((nlv K : Nat) - 1 - (j : Nat) : Int))]) (fun (j, A8, c8, AT, cT, vs) w' => j ≤ nlv K ∧ SymR w w' A8 (lvl (nlv K) L j) ∧ Blk w' b24 56 #[.slice AT j cT, .slice (some ⟨g, 0, none⟩) (K + 1) (K + 1), .int .i64 (K : Nat)] ∧ w'.ownsRow w.heap.size 59 3 (.slice AT j cT) j (lvlsV (nlv K) L vs j) ∧ (∀ i, i < j → Vec w' w.heap.size (vs i) ((lvl (nlv K) L i).map (bitN (nlv K - 1 - i)))) ∧ Blk w' g 3 (tab (K + 1) (cntLt L)) ∧ From w w') (fun (j, _, _, _, _, _) => nlv K - j) ((0, A, c, none, 0, fun _ => 0)) ⟨rfl, (int_eq (by show _ = _; simp [nlv])), trivial⟩ ?_ ?_
  · exact ⟨Nat.zero_le _, ⟨hrn.from_ ((From.rfl_.next E21).next E24), hArow⟩, hk24, World.ownsRow_nil _ _ _ _, fun i h => absurd h (by omega), hgB.from_ E24, ((From.rfl_.next E21).next E24)⟩
  rintro ⟨j, A8, c8, AT, cT, vs⟩ ρ6 w6 ⟨hj, hS, hT, ho, hVs, hg2, hB⟩
  refine cd_seq (cd_seq (cd_region ?_))
  refine mvi rfl ?_
  refine st_val (ro_geq rfl rfl) ?_
  refine st_nil (nx_then ?_)
  refine cd_cond rfl (fun Q7 => ?_) (fun Q7 => ?_)
  · with_reducible replace Q7 := of_decide_eq_true Q7
    have hjn : j < nlv K := by omega
    refine cd_skip (nx_then (cd_seq (cd_block (cd_seq (cd_region ?_)))))
    refine mvs rfl ?_
    refine mvi rfl ?_
    refine st_spell (t := 37) (v := .int _ _) (v' := .int .i64 ((nlv K - 1 - j : Nat) : Int)) rfl (by refine int_eq ?_; omega) ?_
    have hB38 : From w w6 := hB
    refine st_call WavMake_k46 (split_n A8 c8 nn (lvl (nlv K) L j) _ (by rw [lvl_len]; exact hnL) (hS.from_ From.rfl_).1 hnl (nlv K - 1 - j) (by have := nlv_le hK2; omega) (fun x hx => by have := hlt x (lvl_mem hx); omega)) ?_
    rintro v38 w8 ⟨⟨v38, A40, c40, rfl, hV38, hn40⟩, E38⟩
    refine mvt rfl ?_
    refine st_val (ro_extract rfl rfl) ?_
    refine st_val (ro_extract rfl rfl) ?_
    refine st_val (ro_extract rfl rfl) ?_
    refine st_alloc WavMake_o59 ?_
    intro b10 w9 E10 hb10 hk10
    have hF10 := E38.next E10
    refine st_putW (vs := [_, _, _]) WavMake_z59 rfl rfl (by simp [Value.oneCell']) (hk10) rfl ?_
    intro w10 O9 P9
    have hF9 : From _ w10 := hF10.only O9 (by rw [hb10]; exact E38.size)
    have hF9n : From _ w10 := E10.only O9 (by rw [hb10]; exact Nat.le_refl _)
    have hTq := hT.from_ hF9
    have hoq := ho.kept_from hF9
    have hVq : ∀ i, i < j → Vec w10 w.heap.size (vs i) ((lvl (nlv K) L i).map (bitN (nlv K - 1 - i))) := fun i hi => (hVs i hi).from_ hF9
    have hg2q := hg2.from_ hF9
    have hVn := (hV38.from_ hF9n).le hB38.size
    replace hn40 := (own_le hn40 hB38.size).kept_from hF9n
    have hBq : From w w10 := hB38.next hF9
    refine ass rfl ?_
    refine asi rfl ?_
    refine st_nil (nx_then (cd_seq (cd_seq (cd_region ?_))))
    refine mvi rfl ?_
    refine st_val (ro_bf (ro_neq rfl rfl) rfl) ?_
    refine st_nil (nx_then ?_)
    refine cd_condF rfl ?_
    refine cd_skip (nx_then (cd_seq ?_))
    apply cd_mu9 10 7 [51] [(45, eqp _), (46, eqp _), (47, eqp _), (48, eqp _), (49, eqp _), (50, eqp (.agg (lvlV v38 (zerosL (nlv K - 1 - j) (lvl (nlv K) L j)).length (nlv K - 1 - j)).toArray)), (51, fun v w' => ∃ q, v = .slice (some ⟨q, 0, none⟩) 1 1 ∧ Blk w' q 59 (lvlV v38 (zerosL (nlv K - 1 - j) (lvl (nlv K) L j)).length (nlv K - 1 - j)).toArray), (52, fun v w' => ∃ A2 c2, v = .slice A2 (j + 1) c2 ∧ w'.ownsRow w.heap.size 59 3 (.slice A2 (j + 1) c2) (j + 1) (lvlsV (nlv K) L vs j ++ (lvlV v38 (zerosL (nlv K - 1 - j) (lvl (nlv K) L j)).length (nlv K - 1 - j)))), (53, eqp _), (54, eqp _)] (fun w' => From w10 w') (fun w' => (w10).grownBy w' (AT.map (·.block))) (by repeat first | exact pq_body | refine pq_then ?_ | refine pq_block ?_) (by kernel_rfl) (by kernel_rfl) (by kernel_rfl) ⟨eqp_mono _, eqp_mono _, eqp_mono _, eqp_mono _, eqp_mono _, eqp_mono _, (fun _ _ _ hF ⟨q, h1, h2⟩ => ⟨q, h1, h2.from_ hF⟩), (fun _ _ _ hF ⟨A2, c2, h1, h2⟩ => ⟨A2, c2, h1, h2.kept_from hF⟩), eqp_mono _, eqp_mono _, trivial⟩ (From.rfl_.d1) (From.rfl_.d1.grown _) (fun _ _ hF h => h.next hF) (fun _ _ hF h => grown_trans h (hF.grown _))
    case hop =>
     refine ⟨?_, ?_⟩
     · rintro - w12 hG12
       show OpOK _ _ _ _ _ _ _
       exact ok_pure (ro_move (v := .pointer _) rfl) rfl
     refine ⟨?_, ?_⟩
     · rintro - w13 hG13
       show OpOK _ _ _ _ _ _ _
       exact ok_pure (ro_move (v := .pointer _) rfl) rfl
     refine ⟨?_, ?_⟩
     · rintro - w14 hG14
       rintro _ rfl
       show OpOK _ _ _ _ _ _ _
       exact ok_pure (ro_nilCheck rfl) rfl
     refine ⟨?_, ?_⟩
     · rintro - w15 D15
       rintro _ rfl
       show OpOK _ _ _ _ _ _ _
       exact ok_pure (ro_fieldAddr WavMake_f56_0 rfl) rfl
     refine ⟨?_, ?_⟩
     · rintro - w16 D16
       rintro _ rfl
       show OpOK _ _ _ _ _ _ _
       exact ok_pure (ro_load WavMake_g54 rfl ((hTq.from_ D16).rd 0 rfl)) rfl
     refine ⟨?_, ?_⟩
     · rintro - w17 D17
       show OpOK _ _ _ _ _ _ _
       exact ok_pure (ro_loadA (cs := (lvlV v38 (zerosL (nlv K - 1 - j) (lvl (nlv K) L j)).length (nlv K - 1 - j))) WavMake_g59 WavMake_z59 rfl ((P9.from_ D17).whole)) rfl
     refine ⟨?_, ?_⟩
     · rintro - w18 D18
       rintro v18_50 rfl
       show OpOK _ _ _ _ _ _ _
       exact ok_val (ro_lit (l := [(0, .tmp 50)]) (cells := (lvlV v38 (zerosL (nlv K - 1 - j) (lvl (nlv K) L j)).length (nlv K - 1 - j)).toArray) WavMake_q54 rfl rfl (fillL _ _ _)) (From.rfl_.new _) ⟨_, rfl, Blk.new _ _ _⟩
     refine ⟨?_, ?_⟩
     · intro h; cases h
     refine ⟨?_, ?_⟩
     · rintro - w20 hG20
       rintro _ rfl
       show OpOK _ _ _ _ _ _ _
       exact ok_pure (ro_nilCheck rfl) rfl
     refine ⟨?_, ?_⟩
     · rintro - w21 hG21
       rintro _ rfl
       show OpOK _ _ _ _ _ _ _
       exact ok_pure (ro_fieldAddr WavMake_f56_0 rfl) rfl
     exact trivial
    case hmu =>
     rintro w22 D22
     rintro _ rfl v22_51 ⟨q22, rfl, hq22⟩
     show MuOK _ _ _ _ _ _ _
     have hoD := hoq.kept_from D22
     have hbz : w.heap.size ≤ (w10).heap.size := hBq.size
     refine mu_append WavMake_q54 rfl (by decide) rfl hoD (Nat.le_trans hbz D22.size) rfl rfl ⟨_, _, rfl, hq22.whole⟩ (by simp [lvlV, Value.oneCell']) (by have := nlv_le hK2; omega) (by have := nlv_le hK2; omega) ?_
     intro A3 c3 w3 ho3 hg3
     exact ⟨grown_trans (D22.grown _) hg3, ⟨A3, c3, rfl, ho3⟩, fun t u ht h => muR_look (by repeat first | exact trivial | refine ⟨.inl rfl, ?_⟩ | refine ⟨.inr (fun _ h => h), ?_⟩) t u ht h⟩
    case hend =>
     rintro w23 hG23
     rintro _ rfl _ rfl _ rfl _ rfl _ rfl v50 rfl v51 _ v52 ⟨A52, c52, rfl, ho52⟩ _ rfl _ rfl
     show St _ _ _ _ _ _ _
     have hgq := hG23
     have hTb2 := hTq.grown hgq (own_off hoq hTq (by decide))
     have hBg : From w _ := hBq.grew hgq (fun k hk => (own_at hoq k hk).1)
     refine st_put (v := .slice _ _ _) WavMake_z54 rfl rfl rfl (hTb2) (by show 0 < 3; decide) ?_
     intro w24 O12 P12
     refine st_nil (nx_then (cd_region ?_))
     refine mvs rfl ?_
     refine ass rfl ?_
     refine st_nil (nx_block (nx_then (cd_region ?_)))
     refine mvi rfl ?_
     refine st_val (ro_sub64 rfl rfl (by have := nlv_le hK2; omega)) ?_
     refine asi rfl ?_
     refine st_nil ?_
     refine nx_cut ((j + 1, A40, c40, A52, c52, fun i => if i = j then v38 else vs i)) ⟨rfl, (by first | rfl | (refine int_eq ?_; omega)), trivial⟩ (by (iterate 62 refine agr_cons rfl ?_); exact agr_rfl) ⟨?_, ?_⟩
     · have hTb := hTq
       refine ⟨by omega, ?_, P12, ?_, fun i hi => ?_, ?_, (hBg.only O12 hg24)⟩
       · exact ((symR_own (w0 := w) hn40).off hoq (Nat.le_refl _) hgq).only O12 hTb2 (by decide) hg24
       · rw [lvls_succ]; exact own_only3 ho52 O12 (own_off ho52 hTb2 (by decide))
       · by_cases hij : i = j
         · subst hij; simp only [if_true]; exact (hVn.off hoq hgq).only O12 hTb2 (by decide) (by decide) (by decide)
         · simp only [if_neg hij]; exact ((hVq i (by omega)).off hoq hgq).only O12 hTb2 (by decide) (by decide) (by decide)
       · exact (hg2q.grown hgq (own_off hoq hg2q (by decide))).only O12 hgb
     · show nlv K - (j + 1) < nlv K - j; omega
  with_reducible replace Q7 := of_decide_eq_false Q7
  refine cd_exit ?_
  refine ex_then (ex_then (ex_block (nx_then (cd_seq (cd_region ?_)))))
  refine mvp rfl ?_
  refine asp rfl ?_
  refine asi rfl ?_
  refine st_nil (nx_then (cd_ret ?_))
  refine res2 (v := .pointer _) (v' := .int _ _) rfl rfl rfl ?_
  obtain rfl : j = nlv K := by omega
  exact ⟨.inr ⟨K, L, b24, rfl, hxs, rfl, hg24, AT, cT, g, vs, hT, ho, hVs, hg0, hg2, hK1, hK2, hlt, by omega⟩, hB⟩
end Go.Proofs.YtepdgbglaiimaaaDoor

namespace Go.Proofs.YtepdgbglaiimaaaDoor
open Go.RowKit
open Go.ChangeShapes Go.WideShapes Go.ChangeAt
open Go.Proofs.YtepdgbglaiimaaaDoor.SA
theorem FmBuild_q35 : litQ Tryd.prog 35 = some (86, 2, 8, (.agg #[.int .i32 0, .int .i32 0])) := by kernel_rfl
theorem FmBuild_f38_2 : fieldQ Tryd.prog 38 2 = some 2 := by kernel_rfl
theorem FmBuild_g35 : aggQ Tryd.prog 35 = some false := by kernel_rfl
theorem FmBuild_b86_0_1 : ∀ (a0 : Int) (a1 : Int), Tryd.prog.built 86 [(0, .int .i32 a0), (1, .int .i32 a1)] = some #[.int .i32 a0, .int .i32 a1] := by intros; kernel_rfl
theorem FmBuild_z35 : sizeQ Tryd.prog 35 = some 1 := by kernel_rfl
theorem FmBuild_f38_3 : fieldQ Tryd.prog 38 3 = some 3 := by kernel_rfl
theorem FmBuild_g36 : aggQ Tryd.prog 36 = some false := by kernel_rfl
theorem FmBuild_e36 : elemQ Tryd.prog 36 = some (21, 1) := by kernel_rfl
theorem FmBuild_z21 : sizeQ Tryd.prog 21 = some 1 := by kernel_rfl
noncomputable def rwJ (L : List Nat) (k j : Nat) : Nat := if rank (L.length + 1) (endT L) (8 * j) < k then rank (L.length + 1) (endT L) (8 * j) else 0
theorem rwJ_zero (L : List Nat) (j : Nat) : rwJ L 0 j = 0 := by unfold rwJ; rw [if_neg (by omega)]
theorem rwJ_all {L : List Nat} {j : Nat} (h : j < L.length / 8 + 1) : rwJ L (L.length + 1) j = rank (L.length + 1) (endT L) (8 * j) := by
  unfold rwJ
  rw [if_pos (rank_lt (by omega))]
theorem rwJ_eq {L F : List Nat} (hS : IsSA L F) {k j : Nat} (hk : k ≤ L.length) (hj : 8 * j ≤ L.length) : rank (L.length + 1) (endT L) (8 * j) = k ↔ 8 * j = rowS L F k := by
  constructor
  · intro e
    rw [← e, rowS_rank hS hj]
  · intro e
    rw [e]
    exact (rank_rowS hS hk).2
theorem rwJ_no {L F : List Nat} (hS : IsSA L F) {k j : Nat} (hk : k ≤ L.length) (hj : j < L.length / 8 + 1) (h : rowS L F k % 8 ≠ 0) : rwJ L (k + 1) j = rwJ L k j := by
  have := rwJ_eq hS hk (show 8 * j ≤ L.length by omega)
  unfold rwJ
  have hne : rank (L.length + 1) (endT L) (8 * j) ≠ k := fun e => by have := this.1 e; omega
  by_cases x : rank (L.length + 1) (endT L) (8 * j) < k
  · rw [if_pos x, if_pos (by omega)]
  · rw [if_neg x, if_neg (by omega)]
theorem rwJ_yes {L F : List Nat} (hS : IsSA L F) {k : Nat} (hk : k ≤ L.length) (h : rowS L F k % 8 = 0) (j : Nat) (hj : j < L.length / 8 + 1) : upd (fun j => ((rwJ L k j : Nat) : Int)) (rowS L F k / 8) ((k : Nat) : Int) j = ((rwJ L (k + 1) j : Nat) : Int) := by
  have := rwJ_eq hS hk (show 8 * j ≤ L.length by omega)
  unfold upd
  split
  · rename_i e
    have e2 := this.2 (by omega)
    unfold rwJ
    rw [e2, if_pos (by omega)]
  · rename_i e
    have hne : rank (L.length + 1) (endT L) (8 * j) ≠ k := fun e2 => by have := this.1 e2; omega
    show ((rwJ L k j : Nat) : Int) = _
    unfold rwJ
    by_cases x : rank (L.length + 1) (endT L) (8 * j) < k
    · rw [if_pos x, if_pos (by omega)]
    · rw [if_neg x, if_neg (by omega)]
section
variable {P : Program} {ops : Array Oper} {Q : Exit → Act → World → Prop} {rest : List Oper} {n : Fr} {L : List (Nat × Value)} {w : World} {ty : TypeId} {pos : String} {after : Array Edge} {d : Nat} {t : TypeId} {x : Operand}
/-- one element of two cells -/
theorem st_lit2 {e by_ : Nat} {z v z0 z1 u0 u1 : Value} (hq : litQ P t = some (e, 2, by_, z)) (hz : z.cells = #[z0, z1]) (hx : ev n L x = v) (hv : v.cells = #[u0, u1])
    (k : ∀ g w', From w w' → g = w.heap.size → Blk w' g e #[u0, u1] → St P ops Q rest n ((d, .slice (some ⟨g, 0, none⟩) 1 1) :: L) w') : St P ops Q (⟨some d, .buildSlice t 1 #[(0, x)], ty, pos, after, none⟩ :: rest) n L w := by
  refine st_lit (l := [(0, x)]) (cells := #[u0, u1]) hq rfl rfl ?_ k
  have e1 : (Array.range (1 * 2)).map (z.cells[· % z.cells.size]!) = #[z0, z1] := by
    rw [hz, show Array.range (1 * 2) = #[0, 1] from rfl]
    simp
  rw [e1]
  simp [Instr.fill, hx, hv]
end
/-- an index, as far as its rows are stored -/
def StAt (w W0 : World) (b tb k a : Nat) (L F : List Nat) : Prop := From W0 w ∧ W0.heap.size ≤ b ∧ ∃ (AS : Option Addr) (cs gr : Nat), W0.heap.size ≤ gr ∧
  Blk w b 38 #[.pointer (some ⟨tb, 0, none⟩), .int .i64 (a : Nat), .slice AS (smp L F k).length cs, .slice (some ⟨gr, 0, none⟩) (L.length / 8 + 1) (L.length / 8 + 1)] ∧
  w.ownsRow W0.heap.size 86 2 (.slice AS (smp L F k).length cs) (smp L F k).length (smpV L F (smp L F k)) ∧
  Blk w gr 21 (tabJ (L.length / 8 + 1) fun j => ((rwJ L k j : Nat) : Int))
theorem smpV_push {L F l : List Nat} {k : Nat} : smpV L F (l ++ [k]) = smpV L F l ++ [jV ((k : Nat) : Int), jV ((rowS L F k : Nat) : Int)] := by simp [smpV]
set_option maxHeartbeats 2000000 in
theorem store_rt (W0 : World) (b tb a k : Nat) (L F : List Nat) (w : World) (hS : IsSA L F) (hk : k ≤ L.length) (hn : L.length ≤ 131072) (h : StAt w W0 b tb k a L F) :
    Rt Tryd.prog 33 [.pointer (some ⟨b, 0, none⟩), .int .i64 (k : Nat), .int .i64 ((rowS L F k : Nat) : Int)] w (fun _ w' => StAt w' W0 b tb (k + 1) a L F) := by
  obtain ⟨hFz, hb0, AS, cs, gr, hg0, hI, ho, hJ⟩ := h
  have hrk := (rank_rowS hS hk).1
  have hsl := smp_le (L := L) (F := F) (k := k)
  refine enter (n := 32) Tryd.func33 rfl rfl rfl ?_
  refine cd_seq (cd_seq (cd_region ?_))
  refine mvi rfl ?_
  refine st_val (ro_remN (b := 8) rfl rfl (by omega)) ?_
  refine st_val (ro_neq rfl rfl) ?_
  refine st_nil (nx_then ?_)
  refine cd_cond rfl (fun Q1 => ?_) (fun Q1 => ?_)
  · with_reducible replace Q1 := bx_t Q1
    refine cd_ret (rt_then ?_)
    refine res0 rfl ?_
    have hno : rowS L F k % 8 ≠ 0 := by omega
    refine ⟨hFz, hb0, AS, cs, gr, hg0, ?_, ?_, ?_⟩
    · rw [smp_no hno]; exact hI
    · rw [smp_no hno]; exact ho
    · rw [tabJ_congr (fun j hj => by rw [rwJ_no hS hk hj hno])]; exact hJ
  with_reducible replace Q1 := bx_f Q1
  refine cd_skip (nx_then (cd_seq (cd_region ?_)))
  refine mvp rfl ?_
  refine mvp rfl ?_
  refine st_val (ro_nilCheck rfl) ?_
  refine st_val (ro_fieldAddr FmBuild_f38_2 rfl) ?_
  refine st_val (ro_load FmBuild_g35 rfl (by exact (hI.from_ From.rfl_).rd 2 rfl)) ?_
  refine mvi rfl ?_
  refine st_val (ro_conv32 (by kernel_rfl) (by kernel_rfl) rfl (by omega)) ?_
  refine mvi rfl ?_
  refine st_val (ro_conv32 (by kernel_rfl) (by kernel_rfl) rfl (by omega)) ?_
  refine st_val (ro_build (l := [(0, .tmp 15), (1, .tmp 17)]) (FmBuild_b86_0_1 _ _)) ?_
  refine st_lit2 FmBuild_q35 rfl rfl rfl ?_
  intro b19 w2 E19 hb19 hk19
  refine st_appendB FmBuild_q35 rfl (by decide) rfl (A := AS) (xs := smpV L F (smp L F k)) (news := [jV ((k : Nat) : Int), jV ((rowS L F k : Nat) : Int)]) (ho.kept_from E19) ((hFz.next E19).size) rfl rfl (fun _ => ⟨b19, 0, rfl, hk19.whole⟩) (fun h => by cases h) (by simp [Value.oneCell']) (by omega) (by omega) ?_
  intro A20 c20 w3 ho20 hg20
  have HF20 := (hFz.next E19).grew hg20 (fun k hk => (own_at ho k hk).1)
  have hI20 := (hI.from_ E19).grown hg20 (own_ne (ho.kept_from E19) (hI.from_ E19) (by decide))
  have hJ20 := (hJ.from_ E19).grown hg20 (own_ne (ho.kept_from E19) (hJ.from_ E19) (by decide))
  refine st_val (ro_nilCheck rfl) ?_
  refine st_val (ro_fieldAddr FmBuild_f38_2 rfl) ?_
  refine st_put (v := .slice _ _ _) FmBuild_z35 rfl rfl rfl (hI20) (by simp) ?_
  intro w4 O1 P1
  have hgb : gr ≠ b := fun e => by subst e; exact absurd (hJ20.symm.trans hI20) (by simp)
  have ho1 := own_only3 ho20 O1 (own_off ho20 hI20 (by decide))
  have hJ1 := hJ20.only O1 hgb
  have hI1 := P1
  have HF1 := HF20.only O1 hb0
  refine st_nil (nx_then (cd_region ?_))
  refine mvp rfl ?_
  refine st_val (ro_nilCheck rfl) ?_
  refine st_val (ro_fieldAddr FmBuild_f38_3 rfl) ?_
  refine st_val (ro_load FmBuild_g36 rfl (by exact hI1.rd 3 rfl)) ?_
  refine mvi rfl ?_
  refine st_val (ro_quoN (b := 8) rfl rfl (by omega)) ?_
  refine mvi rfl ?_
  refine st_val (ro_conv32 (by kernel_rfl) (by kernel_rfl) rfl (by omega)) ?_
  refine st_val (ro_indexAddr0 FmBuild_e36 rfl rfl (by omega)) ?_
  refine st_put (v := .int _ _) FmBuild_z21 rfl rfl rfl (hJ1) (by rw [tabJ_size]; omega) ?_
  intro w5 O2 P2
  refine st_nil ?_
  refine end_ret ?_
  refine res0 rfl ?_
  have hy : rowS L F k % 8 = 0 := by omega
  refine ⟨HF1.only O2 hg0, hb0, A20, c20, gr, hg0, ?_, ?_, ?_⟩
  · rw [smp_yes hy, List.length_append]; exact hI1.only O2 (Ne.symm hgb)
  · rw [smp_yes hy, List.length_append, smpV_push]; exact own_only3 ho1 O2 (own_off ho1 hJ1 (by decide))
  · rw [← tabJ_congr (fun j hj => rwJ_yes hS hk hy j hj), ← tabJ_set]; exact P2
end Go.Proofs.YtepdgbglaiimaaaDoor

namespace Go.Proofs.YtepdgbglaiimaaaDoor
open Go.RowKit
open Go.ChangeShapes Go.WideShapes Go.ChangeAt
open Go.Proofs.YtepdgbglaiimaaaDoor.SA
theorem FmStart_e35 : elemQ Tryd.prog 35 = some (86, 2) := by kernel_rfl
theorem FmStart_f38_2 : fieldQ Tryd.prog 38 2 = some 2 := by kernel_rfl
theorem FmStart_g35 : aggQ Tryd.prog 35 = some false := by kernel_rfl
theorem FmStart_k52 : callable Tryd.prog 52 = true := by kernel_rfl
theorem FmStart_f86_1 : fieldQ Tryd.prog 86 1 = some 1 := by kernel_rfl
theorem FmStart_g21 : aggQ Tryd.prog 21 = some false := by kernel_rfl
theorem FmStart_s21 : (Tryd.prog.underlying 21).isSome = true := by kernel_rfl
theorem FmStart_i3 : Tryd.prog.underlying 3 = some (.int .i64) := by kernel_rfl
theorem FmStart_k54 : callable Tryd.prog 54 = true := by kernel_rfl
theorem not_smp {L F : List Nat} {n i r : Nat} {fd : Bool} (hi : i ≤ (smp L F (n + 1)).length) (hlo : ∀ x, x < i → (smp L F (n + 1)).getD x 0 < r) (hhi : ∀ x, i ≤ x → x < (smp L F (n + 1)).length → r ≤ (smp L F (n + 1)).getD x 0) (hfd : fd = true ↔ i < (smp L F (n + 1)).length ∧ (smp L F (n + 1)).getD i 0 = r) (hf : fd = false) (hr : r ≤ n) : rowS L F r % 8 ≠ 0 := fun h => by
  have := hfd.2 (smp_find hi hlo hhi (by omega) h)
  rw [hf] at this
  cases this
set_option maxHeartbeats 2000000 in
theorem start_rt (base b K a : Nat) (L B F : List Nat) (w : World) (hf : FmAt w base b K a L B F) (r : Nat) (hr : r ≤ L.length) :
    Rt Tryd.prog 36 [.pointer (some ⟨b, 0, none⟩), .int .i64 (r : Nat)] w (fun v w' => v = .int .i64 ((rowS L F r : Nat) : Int) ∧ From w w') := by
  have hff := hf
  obtain ⟨hb0, hSA, hbw, hLn, hK, tb, AS, cs, gr, hI, hT, ho, hR, hgr⟩ := hf
  have hsm := smp_le (L := L) (F := F) (k := L.length + 1)
  have hrS := (rank_rowS hSA hr).1
  refine enter (n := 39) Tryd.func36 rfl rfl rfl ?_
  refine cd_seq (cd_region ?_)
  refine asi rfl ?_
  refine st_nil (nx_then (cd_seq (cd_seq (cd_region ?_))))
  refine mvi rfl ?_
  refine st_nil (nx_then (cd_block ?_))
  refine cd_loop (G := Nat × Nat) [4, 5, 6, 7, 9, 10, 11, 12, 13, 14, 15, 16, 17, 18, 19, 20, 21, 22, 23, 24, 25, 26, 27, 28, 29, 30, 31, 32, 33, 34, 35, 36, 37, 38] (fun (q, k) => [(1, .int .i64 (q : Nat)), (8, .int .i64 (k : Nat))]) (fun (q, k) w' => k ≤ 8 ∧ q ≤ L.length ∧ rowS L F q + k = rowS L F r ∧ k ≤ rowS L F r % 8 ∧ From w w') (fun (_, k) => 8 - k) ((r, 0)) ⟨rfl, rfl, trivial⟩ ?_ ?_
  · exact ⟨by omega, hr, by omega, by omega, From.rfl_⟩
  rintro ⟨q, k⟩ ρ1 w1 ⟨hk, hq, hS, hk8, hB⟩
  refine cd_seq (cd_region ?_)
  refine st_val (ro_lss rfl rfl) ?_
  refine st_nil (nx_then (cd_seq ?_))
  refine cd_cond rfl (fun Q2 => ?_) (fun Q2 => ?_)
  rotate_left
  · with_reducible replace Q2 := of_decide_eq_false Q2
    exfalso; omega
  with_reducible replace Q2 := of_decide_eq_true Q2
  refine cd_skip (nx_then (cd_seq (cd_block (cd_seq (cd_region ?_)))))
  refine mvi rfl ?_
  refine asi rfl ?_
  refine st_nil (nx_then (cd_seq (cd_region ?_)))
  refine mvp rfl ?_
  refine st_val (ro_nilCheck rfl) ?_
  refine st_val (ro_fieldAddr FmStart_f38_2 rfl) ?_
  refine st_val (ro_load FmStart_g35 rfl (by exact (hI.from_ hB).rd 2 rfl)) ?_
  refine mvi rfl ?_
  refine st_call FmStart_k52 (bsearch_rt base AS cs (smp L F (L.length + 1)).length q L F (smp L F (L.length + 1)) _ (ho.kept_from hB) rfl (by omega) (by omega) (fun i hi => by have := (smp_get hi).1; omega) (fun i j hij hj => smp_lt hij hj)) ?_
  rintro v17 w3 ⟨⟨i, fd, rfl, hi, hlo, hhi, hfd⟩, E17⟩
  refine mvt rfl ?_
  refine st_val (ro_extract rfl rfl) ?_
  refine st_val (ro_extract rfl rfl) ?_
  refine asi rfl ?_
  refine asb rfl ?_
  refine st_nil (nx_then (cd_seq (cd_seq (cd_region ?_))))
  refine mvb rfl ?_
  refine st_nil (nx_then ?_)
  refine cd_cond rfl (fun Q4 => ?_) (fun Q4 => ?_)
  · obtain ⟨hi1, hi2⟩ := hfd.1 (by simpa using Q4)
    have hi3 := congrArg (rowS L F) hi2
    obtain ⟨g, rfl, hrg⟩ := smp_range ho rfl (by omega)
    refine cd_seq (cd_region ?_)
    refine mvp rfl ?_
    refine st_val (ro_nilCheck rfl) ?_
    refine st_val (ro_fieldAddr FmStart_f38_2 rfl) ?_
    refine st_val (ro_load FmStart_g35 rfl (by exact (hI.from_ (hB.next E17)).rd 2 rfl)) ?_
    refine mvi rfl ?_
    refine st_val (ro_indexAddrN FmStart_e35 rfl rfl (by omega)) ?_
    refine st_val (ro_fieldAddr FmStart_f86_1 rfl) ?_
    refine st_val (ro_load FmStart_g21 rfl (by rw [Nat.zero_add]; exact cellF (hB.next E17) ((hrg i hi1) 1 _ rfl))) ?_
    refine st_val (ro_convI FmStart_s21 FmStart_i3 rfl (by omega)) ?_
    refine mvi rfl ?_
    refine st_val (ro_addN rfl rfl (by omega)) ?_
    refine asi rfl ?_
    refine st_nil (nx_then (cd_ret (rt_then (rt_block (rt_then (rt_then (rt_block (rt_then ?_))))))))
    refine res1 (v := .int _ _) rfl rfl ?_
    exact ⟨int_eq (by rw [hi2]; omega), (hB.next E17)⟩
  have hns := not_smp hi hlo hhi hfd (by simpa using Q4) hq
  have hqa : q ≠ a := fun e => by rw [e, rowS_at hSA hbw] at hns; exact hns rfl
  have hlf := rowS_lf hSA hbw hq hqa
  refine cd_skip (nx_then (cd_region ?_))
  refine mvp rfl ?_
  refine mvi rfl ?_
  refine st_call FmStart_k54 (fmAhead_rt base b K a L B F _ (hff.from_ (hB.next E17)) q hq hqa) ?_
  rintro v35 w5 ⟨rfl, E35⟩
  refine mvt rfl ?_
  refine st_val (ro_extract rfl rfl) ?_
  refine st_val (ro_extract rfl rfl) ?_
  refine asi rfl ?_
  refine st_nil (nx_block (nx_then (cd_region ?_)))
  refine st_val (ro_addN (b := 1) rfl rfl (by omega)) ?_
  refine mvi rfl ?_
  refine st_nil ?_
  refine nx_cut ((lf L.length (fun i => B.getD i 0) a q, k + 1)) ⟨(by first | rfl | (refine int_eq ?_; omega)), (by first | rfl | (refine int_eq ?_; omega)), trivial⟩ (by (iterate 60 refine agr_cons rfl ?_); exact agr_rfl) ⟨?_, ?_⟩
  · exact ⟨by omega, hlf.1, by omega, by omega, ((hB.next E17).next E35)⟩
  · show 8 - (k + 1) < 8 - k; omega
end Go.Proofs.YtepdgbglaiimaaaDoor

namespace Go.Proofs.YtepdgbglaiimaaaDoor
open Go.RowKit
open Go.ChangeShapes Go.WideShapes Go.ChangeAt
open Go.Proofs.YtepdgbglaiimaaaDoor.SA
theorem FmMake_e22 : elemQ Tryd.prog 22 = some (3, 1) := by kernel_rfl
theorem FmMake_k30 : callable Tryd.prog 30 = true := by kernel_rfl
theorem FmMake_k31 : callable Tryd.prog 31 = true := by kernel_rfl
theorem FmMake_k32 : callable Tryd.prog 32 = true := by kernel_rfl
theorem FmMake_l22 : (elemQ Tryd.prog 22).isSome = true := by kernel_rfl
theorem FmMake_m36 : makeQ Tryd.prog 36 = some (21, 4, (.int .i32 0)) := by kernel_rfl
theorem FmMake_b38_0_1_3 : ∀ (a0 : Option Addr) (a1 : Int) (a2 : Option Addr) (a3 a4 : Nat), Tryd.prog.built 38 [(0, .pointer a0), (1, .int .i64 a1), (3, .slice a2 a3 a4)] = some #[.pointer a0, .int .i64 a1, .slice none 0 0, .slice a2 a3 a4] := by intros; kernel_rfl
theorem FmMake_k33 : callable Tryd.prog 33 = true := by kernel_rfl
theorem FmMake_g3 : aggQ Tryd.prog 3 = some false := by kernel_rfl
theorem TreeAt.le {w : World} {base base2 b k : Nat} {B : List Nat} (h : TreeAt w base b k B) (hl : base2 ≤ base) : TreeAt w base2 b k B := by
  obtain ⟨hb0, AT, cT, g, vs, hT, ho, hVs, hg0, hg2, hrest⟩ := h
  exact ⟨Nat.le_trans hl hb0, AT, cT, g, vs, hT, own_le ho hl, fun j hj => (hVs j hj).le hl, Nat.le_trans hl hg0, hg2, hrest⟩
theorem bw_mem {L B : List Nat} {a : Nat} (h : IsBw L B a) (x : Nat) : x ∈ B ↔ x ∈ L := by
  have hl := h.len
  have ha := h.le
  constructor
  · intro hx
    obtain ⟨q, hq, rfl⟩ := List.getElem_of_mem hx
    obtain ⟨i, hi, e⟩ := rank_sur (L := L) (r := if q < a then q else q + 1) (by split <;> omega)
    have hne : rank (L.length + 1) (endT L) i ≠ a := by rw [e]; split <;> omega
    have hi0 : 0 < i := by
      rcases Nat.eq_zero_or_pos i with y | y
      · subst y; exact absurd h.at0.symm hne
      · exact y
    have hs : sy a (rank (L.length + 1) (endT L) i) = q := by rw [e]; unfold sy; split <;> split <;> omega
    have e1 := h.sym i hi0 hi
    rw [hs, List.getD_eq_getElem?_getD, List.getElem?_eq_getElem hq, List.getD_eq_getElem?_getD, List.getElem?_eq_getElem (by omega)] at e1
    simp only [Option.getD_some] at e1
    rw [e1]
    exact List.getElem_mem _
  · intro hx
    obtain ⟨i, hi, rfl⟩ := List.getElem_of_mem hx
    have e1 := h.sym (i + 1) (by omega) (by omega)
    have hne : rank (L.length + 1) (endT L) (i + 1) ≠ a := by rw [h.at0]; exact rank_ne (by omega) (by omega) (by omega)
    have hs := sy_lt ha (rank_le (show i + 1 ≤ L.length by omega)) hne
    rw [List.getD_eq_getElem?_getD, List.getElem?_eq_getElem (by omega), List.getD_eq_getElem?_getD, show i + 1 - 1 = i by omega, List.getElem?_eq_getElem hi] at e1
    simp only [Option.getD_some] at e1
    rw [← e1]
    exact List.getElem_mem _
theorem chk_bw {L B : List Nat} {a : Nat} (h : IsBw L B a) (k : Int) : chkW k (cI B) = chkW k (cI L) := by
  have e : (cI B).any (badSym k) = (cI L).any (badSym k) := by
    rw [Bool.eq_iff_iff, List.any_eq_true, List.any_eq_true]
    constructor
    · rintro ⟨x, hx, hb⟩
      obtain ⟨y, hy, rfl⟩ := List.mem_map.1 hx
      exact ⟨_, List.mem_map.2 ⟨y, (bw_mem h y).1 hy, rfl⟩, hb⟩
    · rintro ⟨x, hx, hb⟩
      obtain ⟨y, hy, rfl⟩ := List.mem_map.1 hx
      exact ⟨_, List.mem_map.2 ⟨y, (bw_mem h y).2 hy, rfl⟩, hb⟩
  unfold chkW
  rw [e, List.length_map, List.length_map, h.len]
theorem rowB {α : Type} {f : α → Value} {w : World} {A : Option Addr} {l : List α} (h : RowOf f w A l) : ∀ q, 0 < l.length → A.map (·.block) = some q → q < w.heap.size := fun q h0 hq => by
  obtain ⟨b, o, rfl, hc⟩ := h h0
  cases hq
  exact lt_of_cell (hc 0 h0)
theorem new_bad (k : Int) (A : Option Addr) (c n : Nat) (xs : List Int) (w : World) (hr : RowOf iV w A xs) (hn : n = xs.length) (hl : n ≤ 131072) (hbad : xs.all (okS 512) = false) : Rt Tryd.prog 31 [.int .i64 k, .slice A n c] w fun v w' => (chkW k xs ≠ 0 ∧ v = .tuple #[.pointer none, .int .i64 (chkW k xs)]) ∧ From w w' := by
  refine (new_w k A c n xs w hr hn (by omega) (rowB hr)).mono fun v w' h => ?_
  obtain ⟨h, hF⟩ := h
  refine ⟨?_, hF⟩
  rcases h with h | ⟨K, L, b, rfl, rfl, rfl, ht⟩
  · exact h
  · exfalso
    obtain ⟨hb0, AT, cT, g, vs, hT, ho, hVs, hg0, hg2, hK1, hK2, hlt, hLl⟩ := ht
    rw [all_nat (fun x hx => Nat.lt_of_lt_of_le (hlt x hx) hK2)] at hbad
    cases hbad
theorem new_good (k : Int) (A : Option Addr) (c n a : Nat) (L B : List Nat) (w : World) (hr : RowOf iV w A (cI B)) (hn : n = B.length) (hl : n ≤ 131072) (hb : IsBw L B a) : Rt Tryd.prog 31 [.int .i64 k, .slice A n c] w fun v w' => ((chkW k (cI L) ≠ 0 ∧ v = .tuple #[.pointer none, .int .i64 (chkW k (cI L))]) ∨ (chkW k (cI L) = 0 ∧ ∃ K tb : Nat, k = (K : Nat) ∧ K ≤ 512 ∧ v = .tuple #[.pointer (some ⟨tb, 0, none⟩), .int .i64 0] ∧ TreeAt w' w.heap.size tb K B)) ∧ From w w' := by
  refine (new_w k A c n (cI B) w hr (by rw [List.length_map]; exact hn) (by rw [List.length_map]; omega) (rowB hr)).mono fun v w' h => ?_
  obtain ⟨h, hF⟩ := h
  refine ⟨?_, hF⟩
  rw [chk_bw hb] at h
  rcases h with h | ⟨K, L2, tb, rfl, e, rfl, ht⟩
  · exact .inl h
  · obtain rfl := cI_inj e
    have ht2 := ht
    obtain ⟨hb0, AT, cT, g, vs, hT, ho, hVs, hg0, hg2, hK1, hK2, hlt, hLl⟩ := ht2
    refine .inr ⟨?_, K, tb, rfl, hK2, rfl, ht⟩
    rw [← chk_bw hb]
    unfold chkW
    rw [if_neg (by omega), if_neg, if_neg (by rw [List.length_map]; omega)]
    rw [List.any_eq_true]
    rintro ⟨x, hx, hbs⟩
    obtain ⟨y, hy, rfl⟩ := List.mem_map.1 hx
    have := hlt y hy
    unfold badSym at hbs
    have := of_decide_eq_true hbs
    omega
theorem sort_nat (A : Option Addr) (c n : Nat) (L : List Nat) (w : World) (hr : RowOf iV w A (cI L)) (hn : n = L.length) (hl : n ≤ 131072) (hlt : ∀ x ∈ L, x < 512) : Rt Tryd.prog 32 [.slice A n c] w fun v w' => (∃ F A', IsSA L F ∧ v = .tuple #[.slice A' n n, .int .i64 0] ∧ RowOf iV w' A' (cI F)) ∧ From w w' := by
  refine (sort_rt A c n (cI L) w hr (hn.trans (by rw [List.length_map])) hl).mono fun v w' h => ?_
  obtain ⟨h, hF⟩ := h
  refine ⟨?_, hF⟩
  rcases h with ⟨a, _⟩ | ⟨L2, F2, A', a1, _, a3, rfl, ho⟩
  · rw [cI, all_nat hlt] at a; cases a
  · obtain rfl := cI_inj a1
    exact ⟨F2, A', a3, rfl, (sortA_own ho).2⟩
/-- what Build tells -/
def BuildA (w' : World) (base : Nat) (k : Int) (xs : List Int) (v : Value) : Prop :=
  (chkW k xs ≠ 0 ∧ v = .tuple #[.pointer none, .int .i64 (chkW k xs)]) ∨
  (chkW k xs = 0 ∧ ∃ (K b a : Nat) (L B F : List Nat), k = (K : Nat) ∧ xs = cI L ∧ (∀ x ∈ L, x < 512) ∧ FmAt w' base b K a L B F ∧ v = .tuple #[.pointer (some ⟨b, 0, none⟩), .int .i64 0])
theorem store0 (W0 : World) (b tb a n : Nat) (L F : List Nat) (w : World) (hn : n = L.length) (hS : IsSA L F) (hl : L.length ≤ 131072) (h : StAt w W0 b tb 0 a L F) : Rt Tryd.prog 33 [.pointer (some ⟨b, 0, none⟩), .int .i64 0, .int .i64 (n : Nat)] w fun _ w' => StAt w' W0 b tb 1 a L F := by
  subst hn
  exact store_rt W0 b tb a 0 L F w hS (Nat.zero_le _) hl h
theorem store1 (W0 : World) (b tb a k : Nat) (L F : List Nat) (w : World) (hk : k < L.length) (hS : IsSA L F) (hl : L.length ≤ 131072) (h : StAt w W0 b tb (k + 1) a L F) : Rt Tryd.prog 33 [.pointer (some ⟨b, 0, none⟩), .int .i64 ((k + 1 : Nat) : Int), .int .i64 ((F.getD k 0 : Nat) : Int)] w fun _ w' => StAt w' W0 b tb (k + 1 + 1) a L F := by
  have := store_rt W0 b tb a (k + 1) L F w hS hk hl h
  rw [rowS_succ] at this
  exact this
set_option maxHeartbeats 3000000 in
theorem build_rt (k : Int) (A : Option Addr) (c n : Nat) (xs : List Int) (w : World) (hr : RowOf iV w A xs) (hn : n = xs.length) (hl : n ≤ 131072) :
    Rt Tryd.prog 18 [.int .i64 k, .slice A n c] w (fun v w' => BuildA w' w.heap.size k xs v ∧ From w w') := by
  refine enter (n := 73) Tryd.func18 rfl rfl rfl ?_
  refine cd_seq (cd_region ?_)
  refine asp rfl ?_
  refine asi rfl ?_
  refine st_nil (nx_then (cd_seq (cd_region ?_)))
  refine mvs rfl ?_
  refine st_call FmMake_k30 (make_rt A c n xs _ (hr.from_ From.rfl_) hn hl) ?_
  rintro v16 w1 ⟨hs16, E16⟩
  rcases hs16 with ⟨hbad, rfl⟩ | ⟨Ln, Bs, a, A', c', hLn, hlt, hbw, rfl, ho16⟩
  · refine mvt rfl ?_
    refine st_val (ro_extract rfl rfl) ?_
    refine st_val (ro_extract rfl rfl) ?_
    refine st_val (ro_extract rfl rfl) ?_
    refine ass rfl ?_
    refine asi rfl ?_
    refine asi rfl ?_
    refine st_nil (nx_then (cd_seq (cd_seq (cd_region ?_))))
    refine mvi rfl ?_
    refine st_val (ro_neq rfl rfl) ?_
    refine st_nil (nx_then ?_)
    refine cd_cond rfl (fun Q2 => ?_) (fun Q2 => ?_)
    rotate_left
    · with_reducible replace Q2 := bx_f Q2
      exfalso; omega
    with_reducible replace Q2 := bx_t Q2
    refine cd_seq (cd_region ?_)
    refine mvi rfl ?_
    refine mvs rfl ?_
    refine st_call FmMake_k31 (new_bad k A c n xs _ (hr.from_ (From.rfl_.next E16)) hn hl hbad) ?_
    rintro v25 w22 ⟨⟨hck, rfl⟩, E25⟩
    refine mvt rfl ?_
    refine st_val (ro_extract rfl rfl) ?_
    refine st_val (ro_extract rfl rfl) ?_
    refine asi rfl ?_
    refine st_nil (nx_then (cd_seq (cd_region ?_)))
    refine mvi rfl ?_
    refine asp rfl ?_
    refine asi rfl ?_
    refine st_nil (nx_then (cd_ret (rt_then ?_)))
    refine res2 (v := .pointer _) (v' := .int _ _) rfl rfl rfl ?_
    exact ⟨.inl ⟨hck, rfl⟩, ((From.rfl_.next E16).next E25)⟩
  have hLl : Ln.length = n := by rw [hn, hLn, List.length_map]
  have hBl := hbw.len
  refine mvt rfl ?_
  refine st_val (ro_extract rfl rfl) ?_
  refine st_val (ro_extract rfl rfl) ?_
  refine st_val (ro_extract rfl rfl) ?_
  refine ass rfl ?_
  refine asi rfl ?_
  refine asi rfl ?_
  refine st_nil (nx_then (cd_seq (cd_seq (cd_region ?_))))
  refine mvi rfl ?_
  refine st_val (ro_neq rfl rfl) ?_
  refine st_nil (nx_then ?_)
  refine cd_cond rfl (fun Q23 => ?_) (fun Q23 => ?_)
  · with_reducible replace Q23 := bx_t Q23
    exfalso; omega
  with_reducible replace Q23 := bx_f Q23
  refine cd_skip (nx_then (cd_seq (cd_region ?_)))
  refine mvi rfl ?_
  refine mvs rfl ?_
  refine st_call FmMake_k31 (new_good k A' c' Bs.length a Ln Bs _ (RowOf.own ho16).2 rfl (by omega) hbw) ?_
  rintro v32 w25 ⟨hs32, E32⟩
  rcases hs32 with ⟨hck, rfl⟩ | ⟨hck, K, tb, rfl, hK, rfl, hT⟩
  · refine mvt rfl ?_
    refine st_val (ro_extract rfl rfl) ?_
    refine st_val (ro_extract rfl rfl) ?_
    refine asp rfl ?_
    refine asi rfl ?_
    refine st_nil (nx_then (cd_seq (cd_seq (cd_region ?_))))
    refine mvi rfl ?_
    refine st_val (ro_neq rfl rfl) ?_
    refine st_nil (nx_then ?_)
    refine cd_cond rfl (fun Q26 => ?_) (fun Q26 => ?_)
    rotate_left
    · with_reducible replace Q26 := bx_f Q26
      exfalso; omega
    with_reducible replace Q26 := bx_t Q26
    refine cd_seq (cd_region ?_)
    refine mvi rfl ?_
    refine asp rfl ?_
    refine asi rfl ?_
    refine st_nil (nx_then (cd_ret (rt_then ?_)))
    refine res2 (v := .pointer _) (v' := .int _ _) rfl rfl rfl ?_
    exact ⟨.inl ⟨by rw [hLn]; exact hck, by rw [hLn]⟩, ((From.rfl_.next E16).next E32)⟩
  refine mvt rfl ?_
  refine st_val (ro_extract rfl rfl) ?_
  refine st_val (ro_extract rfl rfl) ?_
  refine asp rfl ?_
  refine asi rfl ?_
  refine st_nil (nx_then (cd_seq (cd_seq (cd_region ?_))))
  refine mvi rfl ?_
  refine st_val (ro_neq rfl rfl) ?_
  refine st_nil (nx_then ?_)
  refine cd_cond rfl (fun Q35 => ?_) (fun Q35 => ?_)
  · with_reducible replace Q35 := bx_t Q35
    exfalso; omega
  with_reducible replace Q35 := bx_f Q35
  refine cd_skip (nx_then (cd_seq (cd_region ?_)))
  refine mvs rfl ?_
  refine st_call FmMake_k32 (sort_nat A c n Ln _ (by rw [← hLn]; exact hr.from_ ((From.rfl_.next E16).next E32)) (by omega) hl hlt) ?_
  rintro v40 w36 ⟨⟨F, A40, hSA, rfl, hrF⟩, E40⟩
  have hBz : From w w36 := (((From.rfl_.next E16).next E32).next E40)
  have hT40 := hT.from_ E40
  have hFl := hSA.len
  refine mvt rfl ?_
  refine st_val (ro_extract rfl rfl) ?_
  refine st_val (ro_extract rfl rfl) ?_
  refine ass rfl ?_
  refine asi rfl ?_
  refine st_nil (nx_then (cd_seq (cd_seq (cd_region ?_))))
  refine mvi rfl ?_
  refine st_val (ro_neq rfl rfl) ?_
  refine st_nil (nx_then ?_)
  refine cd_cond rfl (fun Q37 => ?_) (fun Q37 => ?_)
  · with_reducible replace Q37 := bx_t Q37
    exfalso; omega
  with_reducible replace Q37 := bx_f Q37
  refine cd_skip (nx_then (cd_seq (cd_region ?_)))
  refine mvp rfl ?_
  refine mvi rfl ?_
  refine mvs rfl ?_
  refine st_val (ro_len FmMake_l22 rfl) ?_
  refine st_val (ro_quoN (b := 8) rfl rfl (by omega)) ?_
  refine st_val (ro_addN (b := 1) rfl rfl (by omega)) ?_
  refine st_make FmMake_m36 rfl rfl rfl (by omega) (by omega) ?_
  intro b52 w38 E52 hb52 hk52
  refine st_val (ro_build (l := [(0, .tmp 46), (1, .tmp 47), (3, .tmp 52)]) (FmMake_b38_0_1_3 _ _ _ _ _)) ?_
  refine st_box (v := .agg _) rfl ?_
  intro b54 w39 E54 hb54 hk54
  have hz52 : (w36).heap.size ≤ b52 := by rw [hb52]; exact Nat.le_refl _
  have hz54 : (w36).heap.size ≤ b54 := by rw [hb54]; exact E52.size
  have hSt : StAt w39 w36 b54 tb 0 a Ln F := ⟨((From.rfl_.next E52).next E54), hz54, none, 0, b52, hz52, by rw [hLl]; exact hk54, World.ownsRow_nil _ _ _ _, by rw [hLl, tabJ_congr (g := fun _ => 0) (fun j _ => by rw [rwJ_zero]; rfl), ← tabJ_zero]; exact hk52.from_ E54⟩
  refine asp rfl ?_
  refine st_nil (nx_then (cd_seq (cd_region ?_)))
  refine mvp rfl ?_
  refine mvs rfl ?_
  refine st_val (ro_len FmMake_l22 rfl) ?_
  refine st_call FmMake_k33 (store0 w36 b54 tb a n Ln F _ (by omega) hSA (by omega) hSt) ?_
  rintro v58 w40 hSt
  refine st_nil (nx_then (cd_seq (cd_seq (cd_region ?_))))
  refine mvs rfl ?_
  refine st_val (ro_len FmMake_l22 rfl) ?_
  refine mvi rfl ?_
  refine st_nil (nx_then (cd_block ?_))
  refine cd_loop (G := Nat) [12, 13, 62, 63, 64, 65, 66, 67, 68, 69, 70, 71] (fun q => [(61, .int .i64 (q : Nat))]) (fun q w' => q ≤ n ∧ StAt w' w36 b54 tb (q + 1) a Ln F) (fun q => n - q) (0) ⟨rfl, trivial⟩ ?_ ?_
  · exact ⟨Nat.zero_le _, hSt⟩
  rintro q ρ41 w41 ⟨hq, hSt⟩
  refine cd_seq (cd_region ?_)
  refine st_val (ro_lss rfl rfl) ?_
  refine st_nil (nx_then (cd_seq ?_))
  refine cd_cond rfl (fun Q42 => ?_) (fun Q42 => ?_)
  · with_reducible replace Q42 := of_decide_eq_true Q42
    obtain ⟨bF, oF, rfl, hcF⟩ := rowD hrF (by omega)
    refine cd_skip (nx_then (cd_seq (cd_block (cd_seq (cd_region ?_)))))
    refine mvi rfl ?_
    refine st_val (ro_indexAddr1 FmMake_e22 rfl rfl (by omega)) ?_
    refine st_val (ro_load FmMake_g3 rfl (by exact cellF hSt.1 (hcF q (by omega)))) ?_
    refine asi rfl ?_
    refine asi rfl ?_
    refine st_nil (nx_then (cd_region ?_))
    refine mvp rfl ?_
    refine mvi rfl ?_
    refine st_val (ro_addN (b := 1) rfl rfl (by omega)) ?_
    refine mvi rfl ?_
    refine st_call FmMake_k33 (store1 w36 b54 tb a q Ln F _ (by omega) hSA (by omega) hSt) ?_
    rintro v70 w43 hSt
    refine st_nil (nx_block (nx_then (cd_region ?_)))
    refine st_val (ro_add64 rfl rfl (by omega)) ?_
    refine mvi rfl ?_
    refine st_nil ?_
    refine nx_cut (q + 1) ⟨(by first | rfl | (refine int_eq ?_; omega)), trivial⟩ (by (iterate 26 refine agr_cons rfl ?_); exact agr_rfl) ⟨?_, ?_⟩
    · exact ⟨by omega, hSt⟩
    · show n - (q + 1) < n - q; omega
  with_reducible replace Q42 := of_decide_eq_false Q42
  refine cd_exit ?_
  refine ex_then (ex_then (ex_block (nx_then (cd_seq (cd_region ?_)))))
  refine mvp rfl ?_
  refine asp rfl ?_
  refine asi rfl ?_
  refine st_nil (nx_then (cd_ret ?_))
  refine res2 (v := .pointer _) (v' := .int _ _) rfl rfl rfl ?_
  obtain rfl : q = n := by omega
  have hSt9 := hSt
  obtain ⟨hF1, hb0, AS, cs, gr, hg0, hI, ho, hJ⟩ := hSt9
  have hz := hBz.size
  refine ⟨.inr ⟨by rw [hLn]; exact hck, K, b54, a, Ln, Bs, F, rfl, hLn, hlt, ⟨Nat.le_trans hz hb0, hSA, hbw, by omega, hK, tb, AS, cs, gr, by rw [hLl]; rw [hLl] at hI; exact hI, (hT40.from_ hF1).le (by exact E16.size), own_le (by rw [hLl]; exact ho) hz, ?_, Nat.le_trans hz hg0⟩, rfl⟩, (hBz.next hSt.1)⟩
  rw [tabJ_congr (g := fun j => ((rwJ Ln (Ln.length + 1) j : Nat) : Int)) (fun j hj => by rw [rwJ_all hj]), hLl]
  rw [hLl] at hJ
  exact hJ
end Go.Proofs.YtepdgbglaiimaaaDoor

namespace Go.Proofs.YtepdgbglaiimaaaDoor
open Go.RowKit

abbrev Gh := Nat → Nat
def updG (g : Gh) (i h : Nat) : Gh := fun j => bif Nat.beq j i then h else g j
abbrev GT := List (Nat × Nat × (Gh → Value))
abbrev tabG (T : GT) (g : Gh) : List (Nat × Nat × Value) := T.map fun p => (p.1, p.2.1, p.2.2 g)
abbrev MT := List (Nat × TypeId × Array Value)
/-- the blocks that have been made -/
structure MemG (w0 : World) (MK : MT) (S : Nat → Bool) (g : Gh) (w' : World) : Prop where
  from_ : From w0 w'
  blk : ∀ p ∈ MK, S p.1 = true → Blk w' (g p.1) p.2.1 p.2.2
  ge : ∀ p ∈ MK, S p.1 = true → w0.heap.size ≤ g p.1
  ne : ∀ p ∈ MK, ∀ q ∈ MK, p.1 ≠ q.1 → S p.1 = true → S q.1 = true → g p.1 ≠ g q.1
def IndG (S : Nat → Bool) (g g' : Gh) : GT → Prop
  | [] => True
  | p :: r => (S p.1 = true → p.2.2 g' = p.2.2 g) ∧ IndG S g g' r
section
variable {P : Program} {Q : Exit → Act → World → Prop} {n : Fr} {L L' M : List (Nat × Value)} {w w' w'' w0 : World} {l : List Oper} {T : GT} {MK : MT} {S : Nat → Bool} {op : Op} {ty : TypeId} {pos : String} {after : Array Edge} {i d : Nat} {f : Gh → Value} {g : Gh}
abbrev StepG (P : Program) (n : Fr) (L : List (Nat × Value)) (T : GT) (MK : MT) (w0 : World) (S : Nat → Bool) (i : Nat) (o : Oper) (L' : List (Nat × Value)) (w' : World) : Prop := StepI P n o (fun L2 w2 => ∃ g, InvL L (tabG T g) (setB S i) L2 ∧ MemG w0 MK (setB S i) g w2) L' w'
def StepsG (P : Program) (n : Fr) (L : List (Nat × Value)) (T : GT) (MK : MT) (w0 : World) (l : List Oper) : Nat → List Oper → Prop
  | _, [] => True
  | i, o :: r => (∀ S L' w' g, UniP (T.map fun p => (p.1, p.2.1)) → UniP (MK.map fun p => (p.1, p.1)) → InvL L (tabG T g) S L' → MemG w0 MK S g w' → ClosedI l S → S i = false → EdgesOn S o.after.toList → StepG P n L T MK w0 S i o L' w') ∧ StepsG P n L T MK w0 l (i + 1) r
end
end Go.Proofs.YtepdgbglaiimaaaDoor

namespace Go.Proofs.YtepdgbglaiimaaaDoor
open Go.RowKit Go.Shelf
/-- an iterator that yields N pairs, if it isn't told to stop -/
structure IterOS (P : Program) (gf : Nat) (lb : Array Value) (u v : Nat → Value) (N : Nat) (Rd : World → Prop) : Prop where
  out : ∀ (l : Nat) (J : Nat → World → Prop) (JS : World → Prop) (W : World), (∀ k W', J k W' → Rd W') → (∀ k W1, k < N → J k W1 → YieldAt Fence.wide 0 P l #[u k, v k] W1 fun e W' => (e = .returned (.bool true) ∧ J (k + 1) W') ∨ (e = .returned (.bool false) ∧ JS W')) → J 0 W →
    CallsIn Fence.wide 1 P gf (#[.func (.yield l) #[] #[]] ++ lb) W fun e W' => (∃ v, e = .returned v) ∧ (J N W' ∨ JS W')
/-- a round goes on, or ends the function -/
def RPostS (K S : World → Prop) : Exit → Act → World → Prop
  | .normal, _, w => K w
  | .ret, _, w => S w
  | _, _, _ => False
theorem cd_range2R {P : Program} {Q : Exit → Act → World → Prop} {n : Fr} {L : List (Nat × Value)} {w : World} {g : Operand} {p1 p2 : Nat} {assign body : Code} {gf : Nat} {lb : Array Value} {u v : Nat → Value} {N : Nat} {Rd : World → Prop}
    (hg : ev n L g = .func (.func gf) #[] lb) (he : ∀ args w, (callFunc gf args).run P w = .ok (.enter gf args) w) (hit : IterOS P gf lb u v N Rd) (I : Nat → World → Prop) (S : World → Prop) (LB : Nat → List (Nat × Value)) (hRd : ∀ k W, I k W → Rd W)
    (hF : ∀ k W W', I k W → From W W' → I k W') (hO : ∀ k W W' q o, W.heap[q]? = some o → o.isCells = false → Only q W W' → w.heap.size ≤ q → I k W → I k W') (hSO : ∀ W W' q o, W.heap[q]? = some o → o.isCells = false → Only q W W' → w.heap.size ≤ q → S W → S W') (h0 : I 0 w)
    (ha : ∀ (l k : Nat) (W : World) (K : Act → World → Prop), K (mkA ⟨n.n, []⟩ (LB k)) W → CdR l P assign (Exit.then K fun _ _ _ => False) ⟨n.n, []⟩ ((p2, v k) :: (p1, u k) :: L) W)
    (hb : ∀ (l k : Nat) (W : World), k < N → I k W → CdR l P body (RPostS (fun W' => I (k + 1) W' ∧ Keeps W W') fun W' => S W' ∧ Keeps W W') ⟨n.n, []⟩ (LB k) W)
    (hd : ∀ (D : Nat) (W : World), w.heap.size ≤ D → I N W → W.heap[D]? = some (.deferred (some [])) → Q .normal (mkA ⟨n.n, { target := .collected D, args := #[] } :: n.ds⟩ L) W)
    (hs : ∀ (D : Nat) (W : World), w.heap.size ≤ D → S W → W.heap[D]? = some (.deferred (some [])) → Q .ret (mkA ⟨n.n, { target := .collected D, args := #[] } :: n.ds⟩ L) W) :
    Cd P (.rangeFunc g #[p1, p2] assign body) Q n L w := by
  refine ⟨(wpIn_wide (n := 2)).1 (wpIn_rangeFunc fun fn _ => ?_)⟩
  obtain ⟨rec, hrec⟩ : ∃ rec : LoopState → Option Code → Loop, rec = fun st pe => { state := st, pending := pe, fn, tmps := mkT n.n L, params := #[p1, p2], assign, body, defers := w.heap.size } := ⟨_, rfl⟩
  obtain ⟨D, hD⟩ : ∃ D, D = w.heap.size := ⟨_, rfl⟩
  obtain ⟨W1, hW1⟩ : ∃ W1, (w.alloc (.deferred (some []))).alloc (.loop (rec .ready none)) = W1 := ⟨_, rfl⟩
  have hL1 : W1.heap[D + 1]? = some (.loop (rec .ready none)) := by
    rw [← hW1, hD]
    have := World.alloc_heap_new (w.alloc (.deferred (some []))) (.loop (rec .ready none))
    rwa [World.size_alloc] at this
  have hK1 : W1.heap[D]? = some (.deferred (some [])) := by
    rw [← hW1, hD]
    exact (Below.heap_alloc _ _ _ (by simp)).trans (World.alloc_heap_new w _)
  have hI1 : I 0 W1 := hF 0 w W1 h0 (by rw [← hW1]; exact (From.rfl_.new _).next (From.rfl_.new _))
  refine ⟨D + 1, [{ target := .collected D, args := #[] }], W1, { target := .fn (.func gf) lb, args := #[.func (.yield (D + 1)) #[] #[]] }, W1, gf, #[.func (.yield (D + 1)) #[] #[]] ++ lb, W1, ?_, ?_, fun _ _ => trivial, ?_, (fun h => by cases h), ?_⟩
  · rw [← hW1, hrec, hD]
    exact run_enterLoop_outer _ _ _ _ _
  · simp only [resolve, eval_mkA, hg]
    simp [go_sem, ev]
  · simp [invoke, go_sem, he]
  · refine (hit.out (D + 1) (fun k W => I k W ∧ W.heap[D + 1]? = some (.loop (rec .ready none)) ∧ W.heap[D]? = some (.deferred (some []))) (fun W => S W ∧ W.heap[D + 1]? = some (.loop (rec .done (some .ret))) ∧ W.heap[D]? = some (.deferred (some []))) W1 (fun k W' h => hRd k W' h.1) ?_ ⟨hI1, hL1, hK1⟩).mono ?_
    · rintro k W hk ⟨hi, hl, hdf⟩
      have hlt : D + 1 < W.heap.size := (Array.getElem?_eq_some_iff.1 hl).1
      have hy := run_yield (P := P) (args := #[u k, v k]) hl (by rw [hrec]; rfl)
      rw [hrec] at hy
      refine ⟨fn, _, assign, body, hy, roundIn_of_wpIn trivial ?_⟩
      obtain ⟨W2, hW2⟩ : ∃ W2, W.putObj (D + 1) (.loop { rec .ready none with state := .busy }) = W2 := ⟨_, rfl⟩
      have hO2 : Only (D + 1) W W2 := by rw [← hW2]; exact only_putObj
      have hl2 : W2.heap[D + 1]? = some (.loop { rec .ready none with state := .busy }) := by rw [← hW2]; exact World.putObj_heap_same hlt
      have hd2 : W2.heap[D]? = some (.deferred (some [])) := by rw [hO2.block D (by omega)]; exact hdf
      have hi2 : I k W2 := hO k W W2 (D + 1) _ hl rfl hO2 (by omega) hi
      have key := (ha (D + 1) k W (fun a₁ w₁ => ∃ w₂, (Instr.beginRound (D + 1)).run P w₁ = .ok () w₂ ∧ body.wpIn (Fence.wide.inRound (D + 1)) 0 P (roundPost P (D + 1) fun e W' => (e = .returned (.bool true) ∧ I (k + 1) W' ∧ W'.heap[D + 1]? = some (.loop (rec .ready none)) ∧ W'.heap[D]? = some (.deferred (some []))) ∨ (e = .returned (.bool false) ∧ S W' ∧ W'.heap[D + 1]? = some (.loop (rec .done (some .ret))) ∧ W'.heap[D]? = some (.deferred (some [])))) a₁ w₂) ⟨W2, ?_, ?_⟩).out
      · have e : ({ tmps := (Array.foldl (fun tmps (x : Tmp × Value) => tmps.setIfInBounds x.1 x.2) (mkT n.n L) (#[p1, p2].zip #[u k, v k])), defers := [] } : Act) = mkA ⟨n.n, []⟩ ((p2, v k) :: (p1, u k) :: L) := by
          have e1 := put_mkA ⟨n.n, []⟩ L p1 (u k)
          have e2 := put_mkA ⟨n.n, []⟩ ((p1, u k) :: L) p2 (v k)
          rw [← e2, ← e1]
          simp [mkA, Act.put]
        rw [← e] at key
        exact key
      · rw [← hW2]
        exact run_beginRound hl (by rw [hrec])
      · refine wpIn_mono (hb (D + 1) k W2 hk hi2).out fun e a3 W3 hp => ?_
        cases e <;> first | exact hp.elim | skip
        · obtain ⟨hi3, hk3⟩ := hp
          have hl3 := hk3 _ _ hl2 rfl
          have hd3 := hk3 _ _ hd2 rfl
          have hlt3 := (Array.getElem?_eq_some_iff.1 hl3).1
          have hr := run_endRound (P := P) none hl3
          refine ⟨_, _, hr, .inl ⟨rfl, hO _ W3 _ (D + 1) _ hl3 rfl only_putObj (by omega) hi3, ?_, ?_⟩⟩
          · rw [World.putObj_heap_same hlt3, hrec]
            rfl
          · rw [World.putObj_heap_other (by omega)]
            exact hd3
        · obtain ⟨hi3, hk3⟩ := hp
          have hl3 := hk3 _ _ hl2 rfl
          have hd3 := hk3 _ _ hd2 rfl
          have hlt3 := (Array.getElem?_eq_some_iff.1 hl3).1
          have hr := run_endRound (P := P) (some .ret) hl3
          refine ⟨_, _, hr, .inr ⟨rfl, hSO W3 _ (D + 1) _ hl3 rfl only_putObj (by omega) hi3, ?_, ?_⟩⟩
          · rw [World.putObj_heap_same hlt3, hrec]
            rfl
          · rw [World.putObj_heap_other (by omega)]
            exact hd3
    · rintro e W2 ⟨⟨x, rfl⟩, (⟨hi, hl, hdf⟩ | ⟨hi, hl, hdf⟩)⟩
      · refine ⟨none, _, by have := run_endLoop (P := P) hl (by rw [hrec]; simp); rw [hrec] at this; exact this, ?_⟩
        exact hd D _ (by omega) (hO _ W2 _ (D + 1) _ hl rfl only_putObj (by omega) hi) ((World.putObj_heap_other (by omega)).trans hdf)
      · refine ⟨some .ret, _, by have := run_endLoop (P := P) hl (by rw [hrec]; simp); rw [hrec] at this; exact this, wpIn_ret ?_⟩
        exact hs D _ (by omega) (hSO W2 _ (D + 1) _ hl rfl only_putObj (by omega) hi) ((World.putObj_heap_other (by omega)).trans hdf)
end Go.Proofs.YtepdgbglaiimaaaDoor

namespace Go.Proofs.YtepdgbglaiimaaaDoor
open Go.RowKit Go.Shelf
attribute [local go_sem] Oper.semAt_some

def BackRdI (Bs b o m c : Nat) (f : Nat → Int) (W : World) : Prop := W.cell? ⟨Bs, 0, none⟩ = some (.slice (some ⟨b, o, none⟩) m c) ∧ ∀ j, j < m → W.cell? ⟨b, o + j, none⟩ = some (.int .i64 (f j))
set_option maxHeartbeats 4000000 in
theorem back_iterI (Bs b o m c : Nat) (f : Nat → Int) (hm : m ≤ 1000000) :
    IterOS Tryd.prog 69 #[.pointer (some ⟨Bs, 0, none⟩)] (fun k => .int .i64 ((m - 1 - k : Nat) : Int)) (fun k => .int .i64 (f (m - 1 - k))) m (BackRdI Bs b o m c f) := by
  refine ⟨fun l J JS W hRd hY h0 => ?_⟩
  refine callsIn_of_wp Tryd.func69 rfl trivial ?_ rfl
  simp only [Tryd.ntmps69, List.size_toArray, List.length_cons, List.length_nil, Nat.reduceAdd, Nat.reduceSub, Array.replicate_succ, Array.replicate_zero, List.push_toArray, List.append_toArray, List.nil_append, List.cons_append]
  have hBs := (hRd 0 W h0).1
  gi_wp2
  gi_loopw [3] (fun i wr => ∃ k : Nat, k ≤ m ∧ i = .int .i64 ((m : Int) - 1 - k) ∧ J k wr) (fun i _ => (intOf i + 1).toNat)
  case atStart => exact ⟨0, Nat.zero_le _, by simp, h0⟩
  case round =>
    obtain ⟨k, hk, rfl, hJ⟩ := hrel
    by_cases hlt : k < m
    · obtain ⟨i, e1, e2, him⟩ : ∃ i : Nat, ((m : Int) - 1 - k) = (i : Int) ∧ m - 1 - k = i ∧ i < m := ⟨m - 1 - k, by omega, rfl, by omega⟩
      have hy := hY k wr hlt hJ
      simp only [e2] at hy
      obtain ⟨fn, tmps, assign, body, hy, hR⟩ := hy
      have hBk := (hRd k wr hJ).1
      have hck := (hRd k wr hJ).2 i him
      clear e2
      rw [e1]
      gi_wp2
      refine hR.mono ?_
      rintro e W3 (⟨rfl, hJ3⟩ | ⟨rfl, hS3⟩)
      · gi_wp2
        go_roundw
        case rel => exact ⟨k + 1, by omega, by congr 1; omega, hJ3⟩
        case measure => simp [intOf]
      · gi_wp2
        refine ⟨rfl, _, results_none ?_ _ _ _, ⟨_, rfl⟩, .inr hS3⟩
        rfl
    · obtain rfl : k = m := by omega
      have e1 : ((k : Int) - 1 - k) = -1 := by omega
      rw [e1]
      gi_wp2
      go_end0
      exact ⟨⟨_, rfl⟩, .inl hJ⟩
end Go.Proofs.YtepdgbglaiimaaaDoor

namespace Go.Proofs.YtepdgbglaiimaaaDoor
open Go.RowKit
section
variable {l : Nat} {P : Program} {Q : Exit → Act → World → Prop} {n : Fr} {L : List (Nat × Value)} {w : World}
theorem cr_cond {c : Operand} {x y : Code} {t : Bool} (hc : ev n L c = .bool t) (ht : t = true → CdR l P x Q n L w) (hf : t = false → CdR l P y Q n L w) : CdR l P (.cond c x y) Q n L w :=
  ⟨wpIn_cond_split (by rw [eval_mkA]; exact hc) (fun h => (ht h).out) (fun h => (hf h).out)⟩
theorem cr_skip (h : Q .normal (mkA n L) w) : CdR l P .skip Q n L w := ⟨wpIn_skip h⟩
theorem pq_rpostS {K S : World → Prop} : PQ (RPostS K S) := ⟨fun _ _ _ _ _ h => h⟩
theorem cr_drawnD {r : List Oper} {id : Nat} (K : Nat) (RL : List (Nat × (Value → World → Prop))) (hQ : PQ Q) (hm : P.follows .mixedOrders = true) (hc : monoD r K = true) (hmono : MonoR RL) (hd : noDef r = true) (hL : ¬ LetsOut Q)
    (hop : OpsOK8 P r.toArray n L (From w) (lookR RL) (lookR RL) r K r.length 0 (r.take K)) (hend : ∀ w', From w w' → AllF (lookR RL) w' (preOf r K) fun M => St P r.toArray Q (r.drop K) n (M ++ L) w') : CdR l P (.region id r.toArray true) Q n L w := by
  have hKl : K ≤ r.length := of_decide_eq_true (Bool.and_eq_true_iff.1 (Bool.and_eq_true_iff.1 hc).1).1
  have := mono_mu (Q := Q) (mu := r.length) (I1 := From w) (I2 := From w) (R1 := lookR RL) hQ hc (fun _ _ hF h => h.next hF) (fun _ _ hF h => h.next hF) (lookR_mono hmono) (lookR_mono hmono) hop (fun _ _ _ h => h) (fun h => absurd h (by omega)) (by simp [MuAt]) hend r.length (Array.replicate r.length false) L { w with drawn := w.drawn + 1 } (closed_none r _) (by simp) (by simp)
    (fun j _ hj => by simp [Array.getD, hj]) From.rfl_.d1 (fun _ => From.rfl_.d1) (fun _ _ => rfl) (fun i o d hi _ hl => by
      have : i < r.length := by omega
      simp [Array.getD, this] at hl) (fun _ i o d hi _ hl => by
      have : i < r.length := by omega
      simp [Array.getD, this] at hl)
  exact ⟨wpIn_region_any hm (any_in (by simpa using hd) hL _ _ _ _ (by simpa using this))⟩
theorem cr_ret (h : Q .ret (mkA n L) w) : CdR l P .ret Q n L w := ⟨wpIn_ret h⟩
end
section
variable {P : Program} {fn : Func} {m D : Nat} {L : List (Nat × Value)} {w : World} {r r' r'' : ResultVar} {R : Value → World → Prop} {v v' v'' : Value}
theorem res3_run (hr : fn.results = #[r, r', r'']) (h1 : RV P ⟨m, []⟩ L w r v) (h2 : RV P ⟨m, []⟩ L w r' v') (h3 : RV P ⟨m, []⟩ L w r'' v'') : (results fn (mkT m L)).run P w = .ok (.tuple #[v, v', v'']) w := by
  have e1 := h1.out
  have e2 := h2.out
  have e3 := h3.out
  cases r <;> cases r' <;> cases r'' <;> simp_all only [] <;> (try obtain ⟨_, _, _⟩ := e1) <;> (try obtain ⟨_, _, _⟩ := e2) <;> (try obtain ⟨_, _, _⟩ := e3) <;> simp_all [results, asAddr]
/-- ahead of the loop -/
theorem retM0 (hr : fn.results = #[r, r', r'']) (h1 : RV P ⟨m, []⟩ L w r v) (h2 : RV P ⟨m, []⟩ L w r' v') (h3 : RV P ⟨m, []⟩ L w r'' v'') (h : R (.tuple #[v, v', v'']) w) :
    bodyM P fn (fun e w' => ∃ v, e = .returned v ∧ R v w') .ret (mkA ⟨m, []⟩ L) w :=
  ⟨_, res3_run hr h1 h2 h3, _, rfl, h⟩
/-- within the loop, and behind it -/
theorem retM1 (hr : fn.results = #[r, r', r'']) (hD : w.heap[D]? = some (.deferred (some []))) (h : ∀ w', Only D w w' → RV P ⟨m, []⟩ L w' r v ∧ RV P ⟨m, []⟩ L w' r' v' ∧ RV P ⟨m, []⟩ L w' r'' v'' ∧ R (.tuple #[v, v', v'']) w') :
    bodyM P fn (fun e w' => ∃ v, e = .returned v ∧ R v w') .ret (mkA ⟨m, [{ target := .collected D, args := #[] }]⟩ L) w := by
  obtain ⟨h1, h2, h3, hR⟩ := h _ only_putObj
  exact ⟨by simp, .inl ⟨D, _, rfl, run_takeDeferred hD, ⟨_, res3_run hr h1 h2 h3, _, rfl, hR⟩⟩⟩
end
end Go.Proofs.YtepdgbglaiimaaaDoor

namespace Go.Proofs.YtepdgbglaiimaaaDoor
open Go.RowKit
open Go.ChangeShapes Go.WideShapes Go.ChangeAt
open Go.Proofs.YtepdgbglaiimaaaDoor.SA
theorem FmRows_e22 : elemQ Tryd.prog 22 = some (3, 1) := by kernel_rfl
theorem FmRows_g3 : aggQ Tryd.prog 3 = some false := by kernel_rfl
theorem FmRows_z3 : sizeQ Tryd.prog 3 = some 1 := by kernel_rfl
theorem FmRows_z39 : sizeQ Tryd.prog 39 = some 1 := by kernel_rfl
theorem FmRows_o3 : zeroQ Tryd.prog 3 = some (.int .i64 0) := by kernel_rfl
theorem FmRows_o39 : zeroQ Tryd.prog 39 = some (.int .i64 0) := by kernel_rfl
theorem FmRows_l22 : (elemQ Tryd.prog 22).isSome = true := by kernel_rfl
theorem FmRows_g39 : aggQ Tryd.prog 39 = some false := by kernel_rfl
theorem FmRows_g27 : aggQ Tryd.prog 27 = some false := by kernel_rfl
theorem FmRows_k49 : callable Tryd.prog 49 = true := by kernel_rfl
theorem FmRows_f38_0 : fieldQ Tryd.prog 38 0 = some 0 := by kernel_rfl
theorem FmRows_g34 : aggQ Tryd.prog 34 = some false := by kernel_rfl
theorem FmRows_k9 : callable Tryd.prog 9 = true := by kernel_rfl
theorem FmRows_k8 : callable Tryd.prog 8 = true := by kernel_rfl
theorem FmRows_k50 : callable Tryd.prog 50 = true := by kernel_rfl
theorem FmRows_k51 : callable Tryd.prog 51 = true := by kernel_rfl
set_option maxHeartbeats 400000 in
theorem backwardI_rt (A : Option Addr) (m c : Nat) (w : World) :
    Rt Tryd.prog 50 [.slice A m c] w (fun v w' => (∃ Bs, v = .func (.func 69) #[] #[.pointer (some ⟨Bs, 0, none⟩)] ∧ w.heap.size ≤ Bs ∧ Blk w' Bs 22 #[.slice A m c]) ∧ From w w') := by
  refine enter (n := 4) Tryd.func50 rfl rfl rfl ?_
  refine cd_seq (cd_region ?_)
  refine st_box (v := .slice _ _ _) rfl ?_
  intro b1 w1 E1 hb1 hk1
  refine st_val (ro_assign (v := _) rfl) ?_
  refine st_nil (nx_then (cd_seq (cd_region ?_)))
  refine st_val (ro_makeFunc (l1 := []) (l2 := [.tmp 1])) ?_
  refine st_val (ro_assign (v := _) rfl) ?_
  refine st_nil (nx_then (cd_ret ?_))
  refine res1 (v := .func _ _ _) rfl rfl ?_
  exact ⟨⟨b1, rfl, Nat.le_of_eq hb1.symm, hk1⟩, (From.rfl_.next E1)⟩
/-- what Rows is to tell -/
def RowsIs (K : Nat) (L : List Nat) (q : List Int) (fr to e : Int) : Prop :=
  (q = [] ∧ fr = 0 ∧ to = 0 ∧ e = 5) ∨ (q ≠ [] ∧ q.all (okS (K : Nat)) = false ∧ fr = 0 ∧ to = 0 ∧ e = 1) ∨
  (∃ p : List Nat, q = cI p ∧ p ≠ [] ∧ (∀ x ∈ p, x < K) ∧ fr = ((rwF L p : Nat) : Int) ∧ to = ((rwT L p : Nat) : Int) ∧ e = 0)
theorem nat_listK {K : Nat} : ∀ {xs : List Int}, xs.all (okS (K : Nat)) = true → ∃ L : List Nat, xs = cI L ∧ ∀ x ∈ L, x < K
  | [], _ => ⟨[], rfl, fun _ h => (by cases h)⟩
  | x :: xs, h => by
    rw [List.all_cons, Bool.and_eq_true] at h
    obtain ⟨L, e, hL⟩ := nat_listK h.2
    obtain ⟨h1, h2⟩ := okS_iff.1 h.1
    refine ⟨x.toNat :: L, ?_, fun y hy => ?_⟩
    · rw [cI, List.map_cons, ← cI, ← e, Int.toNat_of_nonneg h1]
    · rcases List.mem_cons.1 hy with rfl | hy
      · omega
      · exact hL y hy
theorem drop_cons {p : List Nat} {k : Nat} (h : k < p.length) : p.drop (p.length - (k + 1)) = p.getD (p.length - 1 - k) 0 :: p.drop (p.length - k) := by
  rw [List.drop_eq_getElem_cons (show p.length - (k + 1) < p.length by omega), List.getD_eq_getElem?_getD, List.getElem?_eq_getElem (show p.length - 1 - k < p.length by omega)]
  congr 1
  · show _ = p[p.length - 1 - k]
    congr 1
    omega
  · congr 1
    omega
/-- the variables of Rows, behind the symbols q -/
structure RwI (w : World) (b b2 b4 b5 b6 Bs n c : Nat) (A : Option Addr) (fr to : Nat) (W : World) : Prop where
  hF : From w W
  h2 : Blk W b2 27 #[.pointer (some ⟨b, 0, none⟩)]
  h4 : Blk W b4 3 #[.int .i64 (fr : Nat)]
  h5 : Blk W b5 3 #[.int .i64 (to : Nat)]
  h6 : Blk W b6 39 #[.int .i64 0]
  hs : Blk W Bs 22 #[.slice A n c]
section
variable {w W W' : World} {b b2 b4 b5 b6 Bs n c fr to : Nat} {A : Option Addr}
theorem RwI.from_ (h : RwI w b b2 b4 b5 b6 Bs n c A fr to W) (hF : From W W') : RwI w b b2 b4 b5 b6 Bs n c A fr to W' := ⟨h.hF.next hF, h.h2.from_ hF, h.h4.from_ hF, h.h5.from_ hF, h.h6.from_ hF, h.hs.from_ hF⟩
theorem RwI.aside {q : Nat} {o : Obj} (h : RwI w b b2 b4 b5 b6 Bs n c A fr to W) (hq : W.heap[q]? = some o) (ho : o.isCells = false) (hO : Only q W W') (hw : w.heap.size ≤ q) : RwI w b b2 b4 b5 b6 Bs n c A fr to W' :=
  ⟨h.hF.only hO hw, h.h2.only hO (blk_aside h.h2 hq ho), h.h4.only hO (blk_aside h.h4 hq ho), h.h5.only hO (blk_aside h.h5 hq ho), h.h6.only hO (blk_aside h.h6 hq ho), h.hs.only hO (blk_aside h.hs hq ho)⟩
end
set_option maxHeartbeats 4000000 in
theorem fmRows_rt (base b K a : Nat) (L B F : List Nat) (w : World) (hf : FmAt w base b K a L B F) (A : Option Addr) (c n : Nat) (q : List Int) (hr : RowOf iV w A q) (hn : n = q.length) (hl : n ≤ 1000000) :
    Rt Tryd.prog 35 [.pointer (some ⟨b, 0, none⟩), .slice A n c] w (fun v w' => (∃ fr to e, v = .tuple #[.int .i64 fr, .int .i64 to, .int .i64 e] ∧ RowsIs K L q fr to e) ∧ From w w') := by
  have hff := hf
  obtain ⟨hb0, hSA, hbw, hLn, hK, tb, AS, cs, gr, hX, hT, ho, hR, hgr⟩ := hf
  have hBl := hbw.len
  refine enterM (n := 60) Tryd.func35 rfl rfl rfl ?_
  refine cd_seq (cd_region ?_)
  refine st_box (v := .pointer _) rfl ?_
  intro b2 w1 E2 hb2 hk2
  refine st_alloc FmRows_o3 ?_
  intro b4 w2 E4 hb4 hk4
  refine st_alloc FmRows_o3 ?_
  intro b5 w3 E5 hb5 hk5
  refine st_alloc FmRows_o39 ?_
  intro b6 w4 E6 hb6 hk6
  have hg2 : w.heap.size ≤ b2 := by rw [hb2]; exact Nat.le_refl _
  have hg4 : w.heap.size ≤ b4 := by rw [hb4]; exact E2.size
  have hg5 : w.heap.size ≤ b5 := by rw [hb5]; exact (E2.next E4).size
  have hg6 : w.heap.size ≤ b6 := by rw [hb6]; exact (E2.next (E4.next E5)).size
  have h24 : b2 < b4 := by rw [hb4]; exact hk2.lt
  have h45 : b4 < b5 := by rw [hb5]; exact hk4.lt
  have h56 : b5 < b6 := by rw [hb6]; exact hk5.lt
  replace hk2 : Blk _ b2 27 #[.pointer (some ⟨b, 0, none⟩)] := hk2
  replace hk4 : Blk _ b4 3 #[.int .i64 0] := hk4
  replace hk5 : Blk _ b5 3 #[.int .i64 0] := hk5
  replace hk6 : Blk _ b6 39 #[.int .i64 0] := hk6
  refine st_nil (nx_then (cd_seq (cd_seq (cd_region ?_))))
  refine mvs rfl ?_
  refine st_val (ro_len FmRows_l22 rfl) ?_
  refine st_val (ro_eql rfl rfl) ?_
  refine st_nil (nx_then ?_)
  refine cd_cond rfl (fun Q5 => ?_) (fun Q5 => ?_)
  · with_reducible replace Q5 := of_decide_eq_true Q5
    refine cd_seq (cd_region ?_)
    refine st_put (v := .int _ _) FmRows_z3 rfl rfl rfl ((hk4.from_ (E5.next E6))) (by simp) ?_
    intro w6 O2a P2a
    refine st_put (v := .int _ _) FmRows_z3 rfl rfl rfl (((hk5.from_ E6).only O2a (by omega))) (by simp) ?_
    intro w7 O2b P2b
    refine st_put (v := .int _ _) FmRows_z39 rfl rfl rfl (((hk6.only O2a (by omega)).only O2b (by omega))) (by simp) ?_
    intro w8 O2c P2c
    have hr4 := (P2a.only O2b (by omega)).only O2c (by omega)
    have hr5 := P2b.only O2c (by omega)
    have hr6 := P2c
    refine st_nil (nx_then (cd_ret (rt_then ?_)))
    refine retM0 rfl (rv_cell FmRows_g3 rfl (by first | exact hr4.rd 0 rfl | exact (hr4.only OX (blk_aside hr4 hK15 rfl)).rd 0 rfl | exact (hI.h4.only OX (blk_aside hI.h4 hK rfl)).rd 0 rfl)) (rv_cell FmRows_g3 rfl (by first | exact hr5.rd 0 rfl | exact (hr5.only OX (blk_aside hr5 hK15 rfl)).rd 0 rfl | exact (hI.h5.only OX (blk_aside hI.h5 hK rfl)).rd 0 rfl)) (rv_cell FmRows_g39 rfl (by first | exact hr6.rd 0 rfl | exact (hr6.only OX (blk_aside hr6 hK15 rfl)).rd 0 rfl | exact (hI.h6.only OX (blk_aside hI.h6 hK rfl)).rd 0 rfl)) ?_
    exact ⟨⟨0, 0, 5, rfl, .inl ⟨List.eq_nil_of_length_eq_zero (by omega), rfl, rfl, rfl⟩⟩, (((((((From.rfl_.next E2).next E4).next E5).next E6).only O2a (hg4)).only O2b (hg5)).only O2c (hg6))⟩
  with_reducible replace Q5 := of_decide_eq_false Q5
  refine cd_skip (nx_then (cd_seq (cd_seq (cd_region ?_))))
  refine mvs rfl ?_
  refine st_val (ro_len FmRows_l22 rfl) ?_
  refine mvi rfl ?_
  refine st_nil (nx_then (cd_block ?_))
  refine cd_loop (G := Nat) [8, 17, 18, 19, 20, 21, 22, 23, 24, 25, 26, 27, 28, 29, 30, 31, 32, 33, 34, 35, 36] (fun k => [(16, .int .i64 (k : Nat))]) (fun k w' => k ≤ n ∧ (q.take k).all (okS (K : Nat)) = true ∧ From w w' ∧ Blk w' b2 27 #[.pointer (some ⟨b, 0, none⟩)] ∧ Blk w' b4 3 #[.int .i64 0] ∧ Blk w' b5 3 #[.int .i64 0] ∧ Blk w' b6 39 #[.int .i64 0]) (fun k => n - k) (0) ⟨rfl, trivial⟩ ?_ ?_
  · exact ⟨Nat.zero_le _, rfl, ((((From.rfl_.next E2).next E4).next E5).next E6), hk2.from_ (E4.next (E5.next E6)), hk4.from_ (E5.next E6), hk5.from_ E6, hk6⟩
  rintro k ρ9 w9 ⟨hk, hall, hB, h2, h4, h5, h6⟩
  refine cd_seq (cd_region ?_)
  refine st_val (ro_lss rfl rfl) ?_
  refine st_nil (nx_then (cd_seq ?_))
  refine cd_cond rfl (fun Q10 => ?_) (fun Q10 => ?_)
  · with_reducible replace Q10 := of_decide_eq_true Q10
    have hkx : k < q.length := by omega
    obtain ⟨bp, op, rfl, hcq⟩ := hr (by omega)
    have hcqk := hcq k hkx
    refine cd_skip (nx_then (cd_seq (cd_block (cd_seq (cd_region ?_)))))
    refine st_val (ro_indexAddr1 FmRows_e22 rfl rfl (by omega)) ?_
    refine st_val (ro_load FmRows_g3 rfl (by exact cellF hB hcqk)) ?_
    refine asi rfl ?_
    refine st_nil (nx_then (cd_seq (cd_region ?_)))
    refine st_val (ro_load FmRows_g27 rfl (by exact (h2.from_ From.rfl_).rd 0 rfl)) ?_
    refine st_call FmRows_k49 (size_rt base b K a L B F _ (hff.from_ hB)) ?_
    rintro v21 w11 ⟨rfl, E21⟩
    have h4q := h4.from_ (From.rfl_.next E21)
    have h5q := h5.from_ (From.rfl_.next E21)
    have h6q := h6.from_ (From.rfl_.next E21)
    refine st_val (ro_lss rfl rfl) ?_
    refine mvb rfl ?_
    refine st_split (t := 23) rfl (fun Q12 => ?_) (fun Q12 => ?_)
    · with_reducible replace Q12 := of_decide_eq_true Q12
      exfalso; omega
    with_reducible replace Q12 := of_decide_eq_false Q12
    refine st_unguard rfl ?_
    refine mvi rfl ?_
    refine st_unguard rfl ?_
    refine st_val (ro_lss rfl rfl) ?_
    refine st_val (ro_pickF (v := .bool _) rfl rfl) ?_
    refine mvb rfl ?_
    refine st_split (t := 27) rfl (fun Q16 => ?_) (fun Q16 => ?_)
    · with_reducible replace Q16 := of_decide_eq_true Q16
      refine st_gno rfl rfl ?_
      refine st_gno rfl rfl ?_
      refine st_gno rfl rfl ?_
      refine st_gno rfl rfl ?_
      refine st_gno rfl rfl ?_
      refine st_gno rfl rfl ?_
      refine st_gno rfl rfl ?_
      refine st_val (ro_pickT (v := .bool _) rfl rfl) ?_
      refine st_nil (nx_then ?_)
      refine cd_condT rfl ?_
      refine cd_seq (cd_region ?_)
      refine st_put (v := .int _ _) FmRows_z3 rfl rfl rfl (h4q) (by simp) ?_
      intro w17 O7a P7a
      refine st_put (v := .int _ _) FmRows_z3 rfl rfl rfl ((h5q.only O7a (by omega))) (by simp) ?_
      intro w18 O7b P7b
      refine st_put (v := .int _ _) FmRows_z39 rfl rfl rfl (((h6q.only O7a (by omega)).only O7b (by omega))) (by simp) ?_
      intro w19 O7c P7c
      have hr4 := (P7a.only O7b (by omega)).only O7c (by omega)
      have hr5 := P7b.only O7c (by omega)
      have hr6 := P7c
      refine st_nil (nx_then (cd_ret (rt_block (rt_then (rt_then (rt_block (rt_then ?_)))))))
      refine retM0 rfl (rv_cell FmRows_g3 rfl (by first | exact hr4.rd 0 rfl | exact (hr4.only OX (blk_aside hr4 hK15 rfl)).rd 0 rfl | exact (hI.h4.only OX (blk_aside hI.h4 hK rfl)).rd 0 rfl)) (rv_cell FmRows_g3 rfl (by first | exact hr5.rd 0 rfl | exact (hr5.only OX (blk_aside hr5 hK15 rfl)).rd 0 rfl | exact (hI.h5.only OX (blk_aside hI.h5 hK rfl)).rd 0 rfl)) (rv_cell FmRows_g39 rfl (by first | exact hr6.rd 0 rfl | exact (hr6.only OX (blk_aside hr6 hK15 rfl)).rd 0 rfl | exact (hI.h6.only OX (blk_aside hI.h6 hK rfl)).rd 0 rfl)) ?_
      exact ⟨⟨0, 0, 1, rfl, .inr (.inl ⟨fun e => by subst e; simp at hkx, all_no hkx (okS_no (by omega)), rfl, rfl, rfl⟩)⟩, ((((hB.next E21).only O7a (hg4)).only O7b (hg5)).only O7c (hg6))⟩
    with_reducible replace Q16 := of_decide_eq_false Q16
    refine st_unguard rfl ?_
    refine mvi rfl ?_
    refine st_unguard rfl ?_
    refine st_val (ro_load FmRows_g27 rfl (by exact (h2.from_ (From.rfl_.next E21)).rd 0 rfl)) ?_
    refine st_unguard rfl ?_
    refine st_val (ro_nilCheck rfl) ?_
    refine st_unguard rfl ?_
    refine st_val (ro_fieldAddr FmRows_f38_0 rfl) ?_
    refine st_unguard rfl ?_
    refine st_val (ro_load FmRows_g34 rfl (by exact (hX.from_ (hB.next E21)).rd 0 rfl)) ?_
    refine st_unguard rfl ?_
    refine st_call FmRows_k9 (kindsT base tb K B _ (hT.from_ (hB.next E21))) ?_
    rintro v33 w20 ⟨rfl, rfl⟩
    refine st_unguard rfl ?_
    refine st_val (ro_geq rfl rfl) ?_
    refine st_val (ro_pickF (v := .bool _) rfl rfl) ?_
    refine st_nil (nx_then ?_)
    refine cd_cond rfl (fun Q21 => ?_) (fun Q21 => ?_)
    · with_reducible replace Q21 := of_decide_eq_true Q21
      refine cd_seq (cd_region ?_)
      refine st_put (v := .int _ _) FmRows_z3 rfl rfl rfl (h4q) (by simp) ?_
      intro w22 O7a P7a
      refine st_put (v := .int _ _) FmRows_z3 rfl rfl rfl ((h5q.only O7a (by omega))) (by simp) ?_
      intro w23 O7b P7b
      refine st_put (v := .int _ _) FmRows_z39 rfl rfl rfl (((h6q.only O7a (by omega)).only O7b (by omega))) (by simp) ?_
      intro w24 O7c P7c
      have hr4 := (P7a.only O7b (by omega)).only O7c (by omega)
      have hr5 := P7b.only O7c (by omega)
      have hr6 := P7c
      refine st_nil (nx_then (cd_ret (rt_block (rt_then (rt_then (rt_block (rt_then ?_)))))))
      refine retM0 rfl (rv_cell FmRows_g3 rfl (by first | exact hr4.rd 0 rfl | exact (hr4.only OX (blk_aside hr4 hK15 rfl)).rd 0 rfl | exact (hI.h4.only OX (blk_aside hI.h4 hK rfl)).rd 0 rfl)) (rv_cell FmRows_g3 rfl (by first | exact hr5.rd 0 rfl | exact (hr5.only OX (blk_aside hr5 hK15 rfl)).rd 0 rfl | exact (hI.h5.only OX (blk_aside hI.h5 hK rfl)).rd 0 rfl)) (rv_cell FmRows_g39 rfl (by first | exact hr6.rd 0 rfl | exact (hr6.only OX (blk_aside hr6 hK15 rfl)).rd 0 rfl | exact (hI.h6.only OX (blk_aside hI.h6 hK rfl)).rd 0 rfl)) ?_
      exact ⟨⟨0, 0, 1, rfl, .inr (.inl ⟨fun e => by subst e; simp at hkx, all_no hkx (okS_no (by omega)), rfl, rfl, rfl⟩)⟩, ((((hB.next E21).only O7a (hg4)).only O7b (hg5)).only O7c (hg6))⟩
    with_reducible replace Q21 := of_decide_eq_false Q21
    refine cd_skip (nx_block (nx_then (cd_region ?_)))
    refine st_val (ro_add64 rfl rfl (by omega)) ?_
    refine mvi rfl ?_
    refine st_nil ?_
    refine nx_cut (k + 1) ⟨(by first | rfl | (refine int_eq ?_; omega)), trivial⟩ (by (iterate 46 refine agr_cons rfl ?_); exact agr_rfl) ⟨?_, ?_⟩
    · exact ⟨by omega, all_take hkx hall (okS_yes (by omega) (by omega)), (hB.next E21), h2.from_ (From.rfl_.next E21), h4.from_ (From.rfl_.next E21), h5.from_ (From.rfl_.next E21), h6.from_ (From.rfl_.next E21)⟩
    · show n - (k + 1) < n - k; omega
  with_reducible replace Q10 := of_decide_eq_false Q10
  obtain ⟨p, hqp, hpK⟩ := nat_listK (all_end (show ¬ k < q.length by omega) hall)
  have hpn : p.length = n := by rw [hn, hqp, List.length_map]
  obtain ⟨bp, op, rfl, hcp⟩ := rowD (show RowOf iV w A (cI p) by rw [← hqp]; exact hr) (by omega)
  have hd0 : p.drop (n - 0) = [] := by rw [Nat.sub_zero, ← hpn, List.drop_length]
  refine cd_exit ?_
  refine ex_then (ex_then (ex_block (nx_then (cd_seq (cd_region ?_)))))
  refine st_val (ro_load FmRows_g27 rfl (by exact (h2.from_ From.rfl_).rd 0 rfl)) ?_
  refine st_val (ro_nilCheck rfl) ?_
  refine st_val (ro_fieldAddr FmRows_f38_0 rfl) ?_
  refine st_val (ro_load FmRows_g34 rfl (by exact (hX.from_ hB).rd 0 rfl)) ?_
  refine st_call FmRows_k8 (lenT base tb K B _ (hT.from_ hB)) ?_
  rintro v41 w25 ⟨rfl, E41⟩
  refine st_val (ro_addN (b := 1) rfl rfl (by omega)) ?_
  have h2r := h2.from_ (From.rfl_.next E41)
  have h4r := h4.from_ (From.rfl_.next E41)
  have h5r := h5.from_ (From.rfl_.next E41)
  have h6r := h6.from_ (From.rfl_.next E41)
  refine st_put (v := .int _ _) FmRows_z3 rfl rfl rfl (h4r) (by simp) ?_
  intro w26 O9a P9a
  refine st_put (v := .int _ _) FmRows_z3 rfl rfl rfl ((h5r.only O9a (by omega))) (by simp) ?_
  intro w27 O9b P9b
  have h2s := (h2r.only O9a (by omega)).only O9b (by omega)
  have h4s := P9a.only O9b (by omega)
  have h5s := P9b
  have h6s := (h6r.only O9a (by omega)).only O9b (by omega)
  refine st_nil (nx_then (cd_seq (cd_seq (cd_region ?_))))
  refine mvs rfl ?_
  refine st_call FmRows_k50 (backwardI_rt _ n c _) ?_
  rintro v44 w28 ⟨⟨Bs, rfl, hgs, hks⟩, E44⟩
  have hBs : b6 < Bs := Nat.lt_of_lt_of_le h6s.lt hgs
  have hI0 : RwI w b b2 b4 b5 b6 Bs n c (some ⟨bp, op, none⟩) (frP L (p.drop (n - 0))) (toP L (p.drop (n - 0))) w28 := ⟨((((hB.next E41).only O9a (hg4)).only O9b (hg5)).next E44), h2s.from_ E44, by rw [hd0, frP_nil]; exact h4s.from_ E44, by rw [hd0, toP_nil, ← hBl]; exact h5s.from_ E44, h6s.from_ E44, hks⟩
  have hz44 := (((((hB.next E41).only O9a (hg4)).only O9b (hg5)).next E44)).size
  refine st_nil (nx_then (cd_block ?_))
  apply cd_range2R (u := fun k => .int .i64 ((n - 1 - k : Nat) : Int)) (v := fun k => .int .i64 ((p.getD (n - 1 - k) 0 : Nat) : Int)) (N := n) (Rd := BackRdI Bs bp op n c fun j => ((p.getD j 0 : Nat) : Int)) rfl (fun _ _ => rfl) (back_iterI Bs bp op n c (fun j => ((p.getD j 0 : Nat) : Int)) hl) (fun k W => RwI w b b2 b4 b5 b6 Bs n c (some ⟨bp, op, none⟩) (frP L (p.drop (n - k))) (toP L (p.drop (n - k))) W ∧ (0 < k → frP L (p.drop (n - k)) < toP L (p.drop (n - k)))) (fun W => RwI w b b2 b4 b5 b6 Bs n c (some ⟨bp, op, none⟩) (0) (0) W ∧ rwF L p = 0 ∧ rwT L p = 0)
  case ha =>
   intro l k W K hK
   refine cr_region rfl (fun ⟨_, _, h⟩ => h) ?_
   refine st_val (ro_assign (v := _) rfl) ?_
   refine st_nil ?_
   exact hK
  case hRd =>
   exact fun k W h => ⟨(h.1.hs).rd 0 rfl, fun j hj => cellF h.1.hF (hcp j (by omega))⟩
  case hF =>
   exact fun k W W' h hF => ⟨h.1.from_ hF, h.2⟩
  case hO =>
   exact fun k W W' q o hq ho hO hw h => ⟨h.1.aside hq ho hO (Nat.le_trans hz44 hw), h.2⟩
  case hSO =>
   exact fun W W' q o hq ho hO hw h => ⟨h.1.aside hq ho hO (Nat.le_trans hz44 hw), h.2⟩
  case h0 =>
   exact ⟨hI0, fun h => absurd h (by omega)⟩
  case hb =>
   intro l k WB hkN hI
   obtain ⟨hI, hlt⟩ := hI
   have hpk : p.drop (n - (k + 1)) = p.getD (n - 1 - k) 0 :: p.drop (n - k) := by have := drop_cons (p := p) (k := k) (by omega); rw [hpn] at this; exact this
   have hck : p.getD (n - 1 - k) 0 < K := getD_lt hpK (by omega)
   have hs1 := frP_step hbw (p.getD (n - 1 - k) 0) (p.drop (n - k))
   have hs2 := toP_step hbw (p.getD (n - 1 - k) 0) (p.drop (n - k))
   rw [← hpk] at hs1 hs2
   have hle1 := frP_le L (p.drop (n - k))
   have hle2 := toP_le L (p.drop (n - k))
   refine cr_block ?_
   refine cr_seq ?_
   apply cr_drawnD 8 [(47, eqp _), (48, eqp _), (49, eqp _), (50, eqp _), (51, eqp _), (52, eqp _), (53, eqp _), (54, eqp _)] (by repeat first | exact pq_rpostS | exact pq_bodyM | refine pq_then ?_ | refine pq_block ?_) (by kernel_rfl) (by kernel_rfl) ⟨eqp_mono _, eqp_mono _, eqp_mono _, eqp_mono _, eqp_mono _, eqp_mono _, eqp_mono _, eqp_mono _, trivial⟩ (by kernel_rfl) (fun ⟨_, _, h⟩ => h)
   case hop =>
    refine ⟨?_, ?_⟩
    · rintro - w30 D30
      show OpOK _ _ _ _ _ _ _
      exact ok_pure (ro_load FmRows_g27 rfl (by exact (hI.h2.from_ D30).rd 0 rfl)) rfl
    refine ⟨?_, ?_⟩
    · rintro - w31 D31
      show OpOK _ _ _ _ _ _ _
      exact ok_pure (ro_move (v := .int _ _) rfl) rfl
    refine ⟨?_, ?_⟩
    · rintro - w32 D32
      show OpOK _ _ _ _ _ _ _
      exact ok_pure (ro_load FmRows_g3 rfl (by exact (hI.h4.from_ D32).rd 0 rfl)) rfl
    refine ⟨?_, ?_⟩
    · rintro - w33 D33
      rintro _ rfl _ rfl _ rfl
      show OpOK _ _ _ _ _ _ _
      refine ok_call FmRows_k51 ((back_rt base b K a L B F _ (hff.from_ (hI.hF.next D33)) (p.getD (n - 1 - k) 0) (frP L (p.drop (n - k))) hck hle1).mono ?_)
      rintro v _ ⟨rfl, E33'⟩; exact ⟨E33', rfl⟩
    refine ⟨?_, ?_⟩
    · rintro - w34 D34
      show OpOK _ _ _ _ _ _ _
      exact ok_pure (ro_load FmRows_g27 rfl (by exact (hI.h2.from_ D34).rd 0 rfl)) rfl
    refine ⟨?_, ?_⟩
    · rintro - w35 D35
      show OpOK _ _ _ _ _ _ _
      exact ok_pure (ro_move (v := .int _ _) rfl) rfl
    refine ⟨?_, ?_⟩
    · rintro - w36 D36
      show OpOK _ _ _ _ _ _ _
      exact ok_pure (ro_load FmRows_g3 rfl (by exact (hI.h5.from_ D36).rd 0 rfl)) rfl
    refine ⟨?_, ?_⟩
    · rintro - w37 D37
      rintro _ rfl _ rfl _ rfl
      show OpOK _ _ _ _ _ _ _
      refine ok_call FmRows_k51 ((back_rt base b K a L B F _ (hff.from_ (hI.hF.next D37)) (p.getD (n - 1 - k) 0) (toP L (p.drop (n - k))) hck hle2).mono ?_)
      rintro v _ ⟨rfl, E37'⟩; exact ⟨E37', rfl⟩
    exact trivial
   case hend =>
    intro w38 D38
    rintro _ rfl _ rfl _ rfl _ rfl _ rfl _ rfl _ rfl _ rfl
    show St _ _ _ _ _ _ _
    have hID := hI.from_ D38
    have hkD : Keeps WB _ := Keeps.from_ D38
    refine st_put (v := .int _ _) FmRows_z3 rfl rfl rfl (hID.h4) (by simp) ?_
    intro w39 O12a P12a
    refine st_put (v := .int _ _) FmRows_z3 rfl rfl rfl ((hID.h5.only O12a (by omega))) (by simp) ?_
    intro w40 O12b P12b
    have hI12 : RwI w b b2 b4 b5 b6 Bs n c (some ⟨bp, op, none⟩) (frP L (p.drop (n - (k + 1)))) (toP L (p.drop (n - (k + 1)))) w40 := ⟨(hID.hF.only O12a hg4).only O12b hg5, (hID.h2.only O12a (by omega)).only O12b (by omega), by rw [hs1]; exact P12a.only O12b (by omega), by rw [hs2]; exact P12b, (hID.h6.only O12a (by omega)).only O12b (by omega), (hID.hs.only O12a (by omega)).only O12b (by omega)⟩
    have hk12 := hkD.trans ((Keeps.only O12a hID.h4).trans (Keeps.only O12b (hID.h5.only O12a (by omega))))
    refine st_nil ?_
    refine nr_then ?_
    refine cr_seq ?_
    refine cr_region rfl (fun ⟨_, _, h⟩ => h) ?_
    refine st_val (ro_load FmRows_g3 rfl (by exact hI12.h4.rd 0 rfl)) ?_
    refine st_val (ro_load FmRows_g3 rfl (by exact hI12.h5.rd 0 rfl)) ?_
    refine st_val (ro_geq rfl rfl) ?_
    refine st_nil ?_
    refine nr_then ?_
    refine cr_cond rfl (fun Q41 => ?_) (fun Q41 => ?_)
    · with_reducible replace Q41 := of_decide_eq_true Q41
      refine cr_seq ?_
      refine cr_region rfl (fun ⟨_, _, h⟩ => h) ?_
      refine st_put (v := .int _ _) FmRows_z3 rfl rfl rfl (hI12.h4) (by simp) ?_
      intro w42 O14a P14a
      refine st_put (v := .int _ _) FmRows_z3 rfl rfl rfl ((hI12.h5.only O14a (by omega))) (by simp) ?_
      intro w43 O14b P14b
      refine st_put (v := .int _ _) FmRows_z39 rfl rfl rfl (((hI12.h6.only O14a (by omega)).only O14b (by omega))) (by simp) ?_
      intro w44 O14c P14c
      have hI14 : RwI w b b2 b4 b5 b6 Bs n c (some ⟨bp, op, none⟩) (0) (0) w44 := ⟨((hI12.hF.only O14a hg4).only O14b hg5).only O14c hg6, ((hI12.h2.only O14a (by omega)).only O14b (by omega)).only O14c (by omega), (P14a.only O14b (by omega)).only O14c (by omega), P14b.only O14c (by omega), P14c, ((hI12.hs.only O14a (by omega)).only O14b (by omega)).only O14c (by omega)⟩
      have hk14 := hk12.trans ((Keeps.only O14a hI12.h4).trans ((Keeps.only O14b (hI12.h5.only O14a (by omega))).trans (Keeps.only O14c ((hI12.h6.only O14a (by omega)).only O14b (by omega)))))
      have hz := rw_none (s := p.take (n - (k + 1))) hSA (show toP L (p.drop (n - (k + 1))) ≤ frP L (p.drop (n - (k + 1))) by omega)
      rw [List.take_append_drop] at hz
      refine st_nil ?_
      refine nr_then ?_
      refine cr_ret ?_
      refine rt_block ?_
      exact ⟨⟨hI14, hz⟩, hk14⟩
    with_reducible replace Q41 := of_decide_eq_false Q41
    refine cr_skip ?_
    refine nx_block ?_
    exact ⟨⟨hI12, fun _ => by omega⟩, hk12⟩
  case hd =>
   intro D WD hD hI hK
   obtain ⟨hI, hlt⟩ := hI
   refine nx_block (nx_then (cd_seq ?_))
   have hU45 : UniT [(0, 58, .int .i64 ((frP L (p.drop (n - n)) : Nat) : Int)), (1, 59, .int .i64 ((toP L (p.drop (n - n)) : Nat) : Int))] := by simp [UniT]
   refine cd_invT [(0, 58, .int .i64 ((frP L (p.drop (n - n)) : Nat) : Int)), (1, 59, .int .i64 ((toP L (p.drop (n - n)) : Nat) : Int))] (fun S w' => RwI w b b2 b4 b5 b6 Bs n c (some ⟨bp, op, none⟩) (frP L (p.drop (n - n))) (toP L (p.drop (n - n))) w' ∧ w'.heap[D]? = some (.deferred (some []))) (by kernel_rfl) (by kernel_rfl) hU45 (by simp) (⟨hI.from_ From.rfl_.d1, Keeps.from_ From.rfl_.d1 _ _ hK rfl⟩) ?_ ?_
   · refine ⟨?_, ?_⟩
     · rintro S L' wS hI hM hS0 ⟨-⟩
       have e4 := hI.1 4 (by simp)
       have hM' := hM
       obtain ⟨hM1, hM2⟩ := hM'
       exact step_ro (ro_load FmRows_g3 e4 (hM1.h4.rd 0 rfl)) ⟨hI.put hU45 (.head _), hM⟩
     refine ⟨?_, ?_⟩
     · rintro S L' wS hI hM hS0 ⟨-⟩
       have e5 := hI.1 5 (by simp)
       have hM' := hM
       obtain ⟨hM1, hM2⟩ := hM'
       exact step_ro (ro_load FmRows_g3 e5 (hM1.h5.rd 0 rfl)) ⟨hI.put hU45 (.tail _ (.head _)), hM⟩
     refine ⟨?_, ?_⟩
     · rintro S L' wS hI hM hS0 ⟨d0, d0, -, -⟩
       have e4 := hI.1 4 (by simp)
       have e58 : look L' 58 = .int .i64 ((frP L (p.drop (n - n)) : Nat) : Int) := hI.get (i := 0) (.head _) d0
       have hM' := hM
       obtain ⟨hM1, hM2⟩ := hM'
       obtain ⟨w2, hR, hO, hb⟩ := rs_put (n := ⟨60, [{ target := .collected D, args := #[] }]⟩) (L := L') (x := .tmp 4) (y := .tmp 58) FmRows_z3 e4 e58 rfl hM1.h4 (by simp)
       exact step_rs hR ⟨hI.skip (by simp), ⟨⟨hM1.hF.only hO hg4, hM1.h2.only hO (by omega), hb, hM1.h5.only hO (by omega), hM1.h6.only hO (by omega), hM1.hs.only hO (by omega)⟩, by rw [hO.block D (by intro e; subst e; exact absurd (hM1.h4.symm.trans hM2) (by simp))]; exact hM2⟩⟩
     refine ⟨?_, ?_⟩
     · rintro S L' wS hI hM hS0 ⟨d1, d2, d0, d1, d2, -⟩
       have e5 := hI.1 5 (by simp)
       have e59 : look L' 59 = .int .i64 ((toP L (p.drop (n - n)) : Nat) : Int) := hI.get (i := 1) (.tail _ (.head _)) d1
       have hM' := hM
       obtain ⟨hM1, hM2⟩ := hM'
       obtain ⟨w2, hR, hO, hb⟩ := rs_put (n := ⟨60, [{ target := .collected D, args := #[] }]⟩) (L := L') (x := .tmp 5) (y := .tmp 59) FmRows_z3 e5 e59 rfl hM1.h5 (by simp)
       exact step_rs hR ⟨hI.skip (by simp), ⟨⟨hM1.hF.only hO hg5, hM1.h2.only hO (by omega), hM1.h4.only hO (by omega), hb, hM1.h6.only hO (by omega), hM1.hs.only hO (by omega)⟩, by rw [hO.block D (by intro e; subst e; exact absurd (hM1.h5.symm.trans hM2) (by simp))]; exact hM2⟩⟩
     refine ⟨?_, ?_⟩
     · rintro S L' wS hI hM hS0 ⟨d3, d0, d1, d2, d3, -⟩
       have e6 := hI.1 6 (by simp)
       have hM' := hM
       obtain ⟨hM1, hM2⟩ := hM'
       obtain ⟨w2, hR, hO, hb⟩ := rs_put (n := ⟨60, [{ target := .collected D, args := #[] }]⟩) (L := L') (x := .tmp 6) (y := .const (.int .i64 0)) FmRows_z39 e6 rfl rfl hM1.h6 (by simp)
       exact step_rs hR ⟨hI.skip (by simp), ⟨⟨hM1.hF.only hO hg6, hM1.h2.only hO (by omega), hM1.h4.only hO (by omega), hM1.h5.only hO (by omega), hb, hM1.hs.only hO (by omega)⟩, by rw [hO.block D (by intro e; subst e; exact absurd (hM1.h6.symm.trans hM2) (by simp))]; exact hM2⟩⟩
     exact trivial
   · intro w46 hM
     obtain ⟨hM1, hM2⟩ := hM
     have hr4 := hM1.h4
     have hr5 := hM1.h5
     have hr6 := hM1.h6
     have hK15 := hM2
     have hD15 := Nat.le_trans hz44 hD
     have hh := hlt (by omega)
     rw [Nat.sub_self, List.drop_zero] at hh hr4 hr5
     obtain ⟨hw1, hw2⟩ := rw_hit hh
     refine nx_then (cd_ret ?_)
     refine retM1 rfl (by first | exact hK15 | exact hK) (fun wX OX => ⟨(rv_cell FmRows_g3 rfl (by first | exact hr4.rd 0 rfl | exact (hr4.only OX (blk_aside hr4 hK15 rfl)).rd 0 rfl | exact (hI.h4.only OX (blk_aside hI.h4 hK rfl)).rd 0 rfl)), (rv_cell FmRows_g3 rfl (by first | exact hr5.rd 0 rfl | exact (hr5.only OX (blk_aside hr5 hK15 rfl)).rd 0 rfl | exact (hI.h5.only OX (blk_aside hI.h5 hK rfl)).rd 0 rfl)), (rv_cell FmRows_g39 rfl (by first | exact hr6.rd 0 rfl | exact (hr6.only OX (blk_aside hr6 hK15 rfl)).rd 0 rfl | exact (hI.h6.only OX (blk_aside hI.h6 hK rfl)).rd 0 rfl)), ?_⟩)
     exact ⟨⟨_, _, _, rfl, .inr (.inr ⟨p, hqp, fun e => by subst e; simp at hpn; omega, hpK, by rw [hw1], by rw [hw2], rfl⟩)⟩, (hM1.hF).only OX hD15⟩
  case hs =>
   intro D WS hD hS hK
   obtain ⟨hI, hz1, hz2⟩ := hS
   refine rt_block (rt_then ?_)
   refine retM1 rfl (by first | exact hK15 | exact hK) (fun wX OX => ⟨(rv_cell FmRows_g3 rfl (by first | exact hr4.rd 0 rfl | exact (hr4.only OX (blk_aside hr4 hK15 rfl)).rd 0 rfl | exact (hI.h4.only OX (blk_aside hI.h4 hK rfl)).rd 0 rfl)), (rv_cell FmRows_g3 rfl (by first | exact hr5.rd 0 rfl | exact (hr5.only OX (blk_aside hr5 hK15 rfl)).rd 0 rfl | exact (hI.h5.only OX (blk_aside hI.h5 hK rfl)).rd 0 rfl)), (rv_cell FmRows_g39 rfl (by first | exact hr6.rd 0 rfl | exact (hr6.only OX (blk_aside hr6 hK15 rfl)).rd 0 rfl | exact (hI.h6.only OX (blk_aside hI.h6 hK rfl)).rd 0 rfl)), ?_⟩)
   exact ⟨⟨_, _, _, rfl, .inr (.inr ⟨p, hqp, fun e => by subst e; simp at hpn; omega, hpK, by rw [hz1], by rw [hz2], rfl⟩)⟩, hI.hF.only OX (Nat.le_trans hz44 hD)⟩
end Go.Proofs.YtepdgbglaiimaaaDoor

namespace Go.Proofs.YtepdgbglaiimaaaDoor
open Go.RowKit
def leB (x y : Int) : Bool := decide (x ≤ y)
def srt (L : List Int) : List Int := L.mergeSort leB
def cnt (L : List Int) (x : Int) : Nat := L.countP fun y => decide (x ≤ y)
def med (L : List Int) : Int := (srt L).getD ((L.length - 1) / 2) 0
def Fit (L : List Int) : Prop := 1 ≤ L.length ∧ L.length ≤ 7 ∧ ∀ x ∈ L, 0 ≤ x
theorem srt_perm (L : List Int) : (srt L).Perm L := List.mergeSort_perm L leB
theorem srt_len (L : List Int) : (srt L).length = L.length := (srt_perm L).length_eq
theorem srt_le (L : List Int) : ∀ i j (hi : i < (srt L).length) (hj : j < (srt L).length), i ≤ j → (srt L)[i] ≤ (srt L)[j] := by
  have h := List.pairwise_mergeSort (le := leB) (fun a b c h1 h2 => by simp only [leB, decide_eq_true_eq] at *; omega) (fun a b => by simp only [leB, Bool.or_eq_true, decide_eq_true_eq]; omega) L
  intro i j hi hj hij
  rcases Nat.lt_or_ge i j with h1 | h1
  · have := List.pairwise_iff_getElem.1 h i j hi hj h1
    exact of_decide_eq_true this
  · obtain rfl : i = j := by omega
    exact Int.le_refl _
/-- how many of 1 to n are among the votes -/
def cv (V : List Int) (n : Nat) : Nat := (List.range n).countP fun i => decide (((i + 1 : Nat) : Int) ∈ V)
def vt (V : List Int) (n i : Nat) : Bool := decide (1 ≤ i ∧ i ≤ n ∧ (i : Int) ∈ V)
def vrow (V : List Int) (n : Nat) : List Value := (List.range 8).map fun i => .bool (vt V n i)
end Go.Proofs.YtepdgbglaiimaaaDoor

namespace Go.Proofs.YtepdgbglaiimaaaDoor
open Go.RowKit
open Go.ChangeShapes Go.WideShapes Go.ChangeAt
open Go.Proofs.YtepdgbglaiimaaaDoor.SA
open Go.Shelf
theorem FmFind_m22 : makeQ Tryd.prog 22 = some (3, 8, (.int .i64 0)) := by kernel_rfl
theorem FmFind_q22 : litQ Tryd.prog 22 = some (3, 1, 8, (.int .i64 0)) := by kernel_rfl
theorem FmFind_k35 : callable Tryd.prog 35 = true := by kernel_rfl
theorem FmFind_k36 : callable Tryd.prog 36 = true := by kernel_rfl
theorem FmFind_k37 : callable Tryd.prog 37 = true := by kernel_rfl
/-- what Find is to tell -/
def FindIs (K : Nat) (L : List Nat) (q : List Int) (l : List Nat) (e : Int) : Prop :=
  (q = [] ∧ l = [] ∧ e = 5) ∨ (q ≠ [] ∧ q.all (okS (K : Nat)) = false ∧ l = [] ∧ e = 1) ∨ (∃ p : List Nat, q = cI p ∧ p ≠ [] ∧ (∀ x ∈ p, x < K) ∧ l = fndL L p ∧ e = 0)
theorem rows_err {K : Nat} {L : List Nat} {q : List Int} {fr to e : Int} (h : RowsIs K L q fr to e) (he : e ≠ 0) : FindIs K L q [] e := by
  rcases h with ⟨h1, _, _, rfl⟩ | ⟨h1, h2, _, _, rfl⟩ | ⟨p, _, _, _, _, _, rfl⟩
  · exact .inl ⟨h1, rfl, rfl⟩
  · exact .inr (.inl ⟨h1, h2, rfl, rfl⟩)
  · exact absurd rfl he
theorem rows_ok {K : Nat} {L : List Nat} {q : List Int} {fr to : Int} (h : RowsIs K L q fr to 0) : ∃ p : List Nat, q = cI p ∧ p ≠ [] ∧ (∀ x ∈ p, x < K) ∧ fr = ((rwF L p : Nat) : Int) ∧ to = ((rwT L p : Nat) : Int) := by
  rcases h with ⟨_, _, _, e⟩ | ⟨_, _, _, _, e⟩ | ⟨p, h1, h2, h3, h4, h5, _⟩
  · cases e
  · cases e
  · exact ⟨p, h1, h2, h3, h4, h5⟩
theorem sort_some (base c g0 o0 n : Nat) (L : List Int) (w : World) (ho : w.ownsRow base 3 1 (.slice (some ⟨g0, o0, none⟩) n c) n (L.map iV)) (hn : n = L.length) (hl : L.length ≤ 1000000) :
    Rt Tryd.prog 37 [.slice (some ⟨g0, o0, none⟩) n c] w fun _ w' => w'.ownsRow base 3 1 (.slice (some ⟨g0, o0, none⟩) n c) n ((srt L).map iV) ∧ w.grownBy w' (some g0) := by
  subst hn
  rcases ho.2 with ⟨hz, _⟩ | ⟨g, cap, cur, hv, hbase, hb, h1, h2, h3, h4⟩
  · cases hz
  · simp only [Value.slice.injEq] at hv
    obtain ⟨hA, _, rfl⟩ := hv
    cases hA
    refine Calls.mono (Tryd.slices_Sort_int g0 0 c L w (holds_of_blockI hb (by simpa using h4)) (Array.getElem?_eq_some_iff.1 hb).1 (by omega)) fun e w' ⟨he, n, os, hw⟩ => ⟨_, he, ?_, ?_⟩
    · rw [hw]; exact ownsRow_sortedI (srt_len L) hbase hb h1 h2 h3
    · rw [hw]; exact grownBy_sortedI _
theorem nat_back : ∀ {l : List Int}, (∀ y ∈ l, 0 ≤ y) → l = cI (l.map Int.toNat)
  | [], _ => rfl
  | y :: l, h => by
    rw [List.map_cons, cI, List.map_cons, ← cI, ← nat_back fun z hz => h z (List.mem_cons_of_mem _ hz), Int.toNat_of_nonneg (h y (List.mem_cons_self ..))]
/-- the places in order are the places as the text tells them -/
theorem srt_plc {L F p : List Nat} (hS : IsSA L F) (hp : p ≠ []) : srt (cI (SA.plc L F (frP L p) (toP L p - frP L p))) = cI (fndL L p) := by
  have hto := toP_le L p
  have hle := fr_le_to L p
  generalize hX : SA.plc L F (frP L p) (toP L p - frP L p) = X
  have hnd : X.Nodup := by rw [← hX]; exact plc_nodup hS (by omega)
  have hmem : ∀ x, x ∈ X ↔ x ∈ fndL L p := fun x => by rw [← hX]; exact plc_mem hS hp
  have hpm := srt_perm (cI X)
  have hnn : ∀ y ∈ srt (cI X), 0 ≤ y := fun y hy => by
    obtain ⟨x, _, rfl⟩ := List.mem_map.1 (hpm.mem_iff.1 hy)
    omega
  have e : srt (cI X) = cI ((srt (cI X)).map Int.toNat) := nat_back hnn
  rw [e]
  congr 1
  refine asc_uniq ?_ (fndL_asc L p) fun x => ?_
  · refine List.pairwise_map.2 (List.pairwise_iff_getElem.2 fun i j hi hj hij => ?_)
    have h1 := srt_le (cI X) i j hi hj (Nat.le_of_lt hij)
    have h2 := hnn _ (List.getElem_mem hi)
    have hndI : (srt (cI X)).Nodup := hpm.nodup_iff.2 (List.pairwise_map.2 (hnd.imp fun a b => by simp only [ne_eq] at *; omega))
    have h3 := List.pairwise_iff_getElem.1 hndI i j hi hj hij
    omega
  · rw [← hmem, List.mem_map]
    constructor
    · rintro ⟨y, hy, rfl⟩
      obtain ⟨z, hz, rfl⟩ := List.mem_map.1 (hpm.mem_iff.1 hy)
      simpa using hz
    · intro hx
      exact ⟨(x : Int), hpm.mem_iff.2 (List.mem_map.2 ⟨x, hx, rfl⟩), by simp⟩
theorem plc_rw (L F p : List Nat) : SA.plc L F (rwF L p) (rwT L p - rwF L p) = SA.plc L F (frP L p) (toP L p - frP L p) := by
  unfold rwF rwT
  by_cases h : frP L p < toP L p
  · rw [if_pos h, if_pos h]
  · rw [if_neg h, if_neg h, show toP L p - frP L p = 0 by omega]
    rfl
theorem own_ne_none {w : World} {base e s n c m : Nat} {A : Option Addr} {xs : List Value} (h : w.ownsRow base e s (.slice A n c) m xs) (hA : A ≠ none) : ∃ g, A = some ⟨g, 0, none⟩ := by
  rcases h.2 with ⟨h0, _⟩ | ⟨g, cap, cur, hv, _⟩
  · simp only [Value.slice.injEq] at h0
    exact absurd h0.1 hA
  · simp only [Value.slice.injEq] at hv
    exact ⟨g, hv.1⟩
theorem plc_own {L F : List Nat} {fr k : Nat} : (cI (SA.plc L F fr (k + 1))).map iV = (cI (SA.plc L F fr k)).map iV ++ [iV ((rowS L F (fr + k) : Nat) : Int)] := by rw [plc_succ]; simp [cI]
set_option maxHeartbeats 2000000 in
theorem fmFind_rt (base b K a : Nat) (L B F : List Nat) (w : World) (hf : FmAt w base b K a L B F) (A : Option Addr) (c n : Nat) (q : List Int) (hr : RowOf iV w A q) (hn : n = q.length) (hl : n ≤ 1000000) :
    Rt Tryd.prog 21 [.pointer (some ⟨b, 0, none⟩), .slice A n c] w (fun v w' => (∃ l e A' c', FindIs K L q l e ∧ v = .tuple #[.slice A' l.length c', .int .i64 e] ∧ w'.ownsRow w.heap.size 3 1 (.slice A' l.length c') l.length ((cI l).map iV)) ∧ From w w') := by
  have hLn := hf.2.2.2.1
  have hSA := hf.2.1
  refine enter (n := 40) Tryd.func21 rfl rfl rfl ?_
  refine cd_seq (cd_region ?_)
  refine ass rfl ?_
  refine asi rfl ?_
  refine st_nil (nx_then (cd_seq (cd_region ?_)))
  refine mvp rfl ?_
  refine mvs rfl ?_
  refine st_call FmFind_k35 (fmRows_rt base b K a L B F _ (hf.from_ From.rfl_) A c n q (hr.from_ From.rfl_) hn hl) ?_
  rintro v14 w1 ⟨⟨fr, to, e, rfl, hIs⟩, E14⟩
  refine mvt rfl ?_
  refine st_val (ro_extract rfl rfl) ?_
  refine st_val (ro_extract rfl rfl) ?_
  refine st_val (ro_extract rfl rfl) ?_
  refine asi rfl ?_
  refine asi rfl ?_
  refine asi rfl ?_
  refine st_nil (nx_then (cd_seq (cd_seq (cd_region ?_))))
  refine mvi rfl ?_
  refine st_val (ro_neq rfl rfl) ?_
  refine st_nil (nx_then ?_)
  refine cd_cond rfl (fun Q2 => ?_) (fun Q2 => ?_)
  · with_reducible replace Q2 := bx_t Q2
    have hbad := rows_err hIs (by omega)
    refine cd_seq (cd_region ?_)
    refine mvi rfl ?_
    refine ass rfl ?_
    refine asi rfl ?_
    refine st_nil (nx_then (cd_ret (rt_then ?_)))
    refine res2 (v := .slice _ _ _) (v' := .int _ _) rfl rfl rfl ?_
    exact ⟨⟨[], _, none, 0, hbad, rfl, World.ownsRow_nil _ _ _ _⟩, (From.rfl_.next E14)⟩
  with_reducible replace Q2 := bx_f Q2
  obtain rfl : e = 0 := by omega
  obtain ⟨p, hqp, hp0, hpK, rfl, rfl⟩ := rows_ok hIs
  have hrs := rw_sub L p
  refine cd_skip (nx_then (cd_seq (cd_region ?_)))
  refine mvi rfl ?_
  refine mvi rfl ?_
  refine st_val (ro_subN rfl rfl (by omega)) ?_
  refine st_make0 (m := rwT L p - rwF L p) (base := w.heap.size) FmFind_m22 rfl rfl rfl (by omega) (by omega) ((From.rfl_.next E14).size) ?_
  intro g24 w3 E24 hb24 ho24
  refine ass rfl ?_
  refine st_nil (nx_then (cd_seq (cd_seq (cd_region ?_))))
  refine mvi rfl ?_
  refine asi rfl ?_
  refine st_nil (nx_then (cd_block ?_))
  refine cd_loop (G := Nat × Option Addr × Nat) [26, 27, 28, 29, 30, 31, 32, 33, 34, 35, 36] (fun (j, A2, c2) => [(9, .slice A2 j c2), (10, .int .i64 ((rwF L p + j : Nat) : Int))]) (fun (j, A2, c2) w' => rwF L p + j ≤ rwT L p ∧ w'.ownsRow w.heap.size 3 1 (.slice A2 j c2) j ((cI (SA.plc L F (rwF L p) j)).map iV) ∧ A2 ≠ none ∧ From w w') (fun (j, _, _) => rwT L p - (rwF L p + j)) ((0, some ⟨g24, 0, none⟩, rwT L p - rwF L p)) ⟨rfl, (int_eq (by omega)), trivial⟩ ?_ ?_
  · exact ⟨by omega, ho24, fun h => (by cases h), ((From.rfl_.next E14).next E24)⟩
  rintro ⟨j, A2, c2⟩ ρ4 w4 ⟨hj, ho, hA2, hB⟩
  refine cd_seq (cd_seq (cd_region ?_))
  refine mvi rfl ?_
  refine mvi rfl ?_
  refine st_val (ro_lss rfl rfl) ?_
  refine st_nil (nx_then ?_)
  refine cd_cond rfl (fun Q5 => ?_) (fun Q5 => ?_)
  · with_reducible replace Q5 := of_decide_eq_true Q5
    refine cd_skip (nx_then (cd_seq (cd_block (cd_region ?_))))
    refine mvs rfl ?_
    refine mvp rfl ?_
    refine mvi rfl ?_
    refine st_call FmFind_k36 (start_rt base b K a L B F _ (hf.from_ hB) (rwF L p + j) (by omega)) ?_
    rintro v34 w6 ⟨rfl, E34⟩
    refine st_lit1 (v := .int _ _) FmFind_q22 rfl rfl rfl ?_
    intro b35 w7 E35 hb35 hk35
    refine st_appendB FmFind_q22 rfl (by decide) rfl (A := A2) (xs := (cI (SA.plc L F (rwF L p) j)).map iV) (news := [iV ((rowS L F (rwF L p + j) : Nat) : Int)]) (ho.kept_from ((From.rfl_.next E34).next E35)) (((hB.next E34).next E35).size) rfl rfl (fun _ => ⟨b35, 0, rfl, hk35.whole⟩) (fun h => by cases h) (by simp [Value.oneCell']) (by omega) (by omega) ?_
    intro A36 c36 w8 ho36 hg36
    have HF36 := (((hB.next E34).next E35)).grew hg36 (fun k hk => (own_at (ho.kept_from ((From.rfl_.next E34).next E35)) k hk).1)
    refine ass rfl ?_
    refine st_nil (nx_block (nx_then (cd_region ?_)))
    refine mvi rfl ?_
    refine st_val (ro_addN (b := 1) rfl rfl (by omega)) ?_
    refine asi rfl ?_
    refine st_nil ?_
    refine nx_cut ((j + 1, A36, c36)) ⟨rfl, (int_eq (by omega)), trivial⟩ (by (iterate 26 refine agr_cons rfl ?_); exact agr_rfl) ⟨?_, ?_⟩
    · exact ⟨by omega, by rw [plc_own]; exact ho36.kept_from From.rfl_, by obtain ⟨g, e⟩ := own_some ho36 (by omega); rw [e]; exact fun h => (by cases h), HF36⟩
    · show rwT L p - (rwF L p + (j + 1)) < rwT L p - (rwF L p + j); omega
  with_reducible replace Q5 := of_decide_eq_false Q5
  obtain ⟨g2, rfl⟩ := own_ne_none ho hA2
  refine cd_exit ?_
  refine ex_then (ex_then (ex_block (nx_then (cd_seq (cd_region ?_)))))
  refine mvs rfl ?_
  refine st_call FmFind_k37 (sort_some _ c2 g2 0 j (cI (SA.plc L F (rwF L p) j)) _ (ho.kept_from From.rfl_) (by rw [List.length_map, plc_len]) (by rw [List.length_map, plc_len]; omega)) ?_
  rintro v38 w9 ⟨ho38, hg38⟩
  refine st_nil (nx_then (cd_seq (cd_region ?_)))
  refine mvs rfl ?_
  refine ass rfl ?_
  refine asi rfl ?_
  refine st_nil (nx_then (cd_ret ?_))
  refine res2 (v := .slice _ _ _) (v' := .int _ _) rfl rfl rfl ?_
  obtain rfl : j = rwT L p - rwF L p := by omega
  have hs := srt_plc hSA hp0
  rw [← plc_rw] at hs
  rw [hs] at ho38
  have hl9 : rwT L p - rwF L p = (fndL L p).length := by have := (RowOf.own ho38).1; rwa [List.length_map] at this
  rw [hl9] at ho38 ⊢
  exact ⟨⟨fndL L p, 0, _, _, .inr (.inr ⟨p, hqp, hp0, hpK, rfl, rfl⟩), rfl, ho38.kept_from From.rfl_⟩, ((hB).grew hg38 (fun k hk => (own_at (ho.kept_from From.rfl_) k hk).1))⟩
end Go.Proofs.YtepdgbglaiimaaaDoor

namespace Go.Proofs.YtepdgbglaiimaaaDoor
open Go.RowKit
open Go.ChangeShapes Go.WideShapes Go.ChangeAt
open Go.Proofs.YtepdgbglaiimaaaDoor.SA
/-- what Place tells -/
noncomputable def plV (L F : List Nat) (i : Int) : Int := if 0 ≤ i ∧ i ≤ L.length then ((rowS L F i.toNat : Nat) : Int) else 0
noncomputable def plE (L : List Nat) (i : Int) : Int := if 0 ≤ i ∧ i ≤ L.length then 0 else 3
/-- the cells of a part, as far as it is read -/
def txF (L : List Nat) (fr t i : Nat) : Int := if t ≤ fr + i then ((L.getD (fr + i) 0 : Nat) : Int) else 0
end Go.Proofs.YtepdgbglaiimaaaDoor

namespace Go.Proofs.YtepdgbglaiimaaaDoor
open Go.RowKit
open Go.ChangeShapes Go.WideShapes Go.ChangeAt
open Go.Proofs.YtepdgbglaiimaaaDoor.SA
/-- no list has these symbols with this row -/
def Bad (n : Nat) (at_ : Int) (xs : List Int) : Prop := ∀ (B : List Nat) (a : Nat), xs = cI B → (∀ x ∈ B, x < 512) → at_ = (a : Nat) → a ≤ n → ¬ Circ n (fun i => B.getD i 0) a
/-- what Back tells -/
def BackA (w' : World) (base n : Nat) (at_ : Int) (xs : List Int) (v : Value) : Prop :=
  (∃ B a A', xs = cI B ∧ (∀ x ∈ B, x < 512) ∧ at_ = (a : Nat) ∧ a ≤ n ∧ Circ n (fun i => B.getD i 0) a ∧ v = .tuple #[.slice A' n n, .int .i64 0] ∧ w'.ownsRow base 3 1 (.slice A' n n) n ((wl n (fun i => B.getD i 0) a).map fun x : Nat => iV (x : Nat))) ∨
  (Bad n at_ xs ∧ v = .tuple #[.slice none 0 0, .int .i64 1])
end Go.Proofs.YtepdgbglaiimaaaDoor

namespace Go.Proofs.YtepdgbglaiimaaaDoor
open Go.RowKit
open Go.ChangeShapes Go.WideShapes Go.ChangeAt
open Go.Proofs.YtepdgbglaiimaaaDoor.SA
theorem BwtRef_e22 : elemQ Tryd.prog 22 = some (3, 1) := by kernel_rfl
theorem BwtRef_q22 : litQ Tryd.prog 22 = some (3, 1, 8, (.int .i64 0)) := by kernel_rfl
theorem BwtRef_l22 : (elemQ Tryd.prog 22).isSome = true := by kernel_rfl
theorem BwtRef_k38 : callable Tryd.prog 38 = true := by kernel_rfl
theorem BwtRef_k23 : callable Tryd.prog 23 = true := by kernel_rfl
theorem BwtRef_g3 : aggQ Tryd.prog 3 = some false := by kernel_rfl
set_option maxHeartbeats 400000 in
theorem rows_rt (A : Option Addr) (c n : Nat) (L : List Nat) (w : World) (hr : RowOf iV w A (cI L)) (hn : n = L.length) (hl : n ≤ 131072) :
    Rt Tryd.prog 23 [.slice A n c] w (fun v w' => (∃ A' c' F, v = .slice A' (n + 1) c' ∧ RowOf iV w' A' (cI (L.length :: F)) ∧ IsSA L F) ∧ From w w') := by
  refine enter (n := 9) Tryd.func23 rfl rfl rfl ?_
  refine cd_seq (cd_region ?_)
  refine ass rfl ?_
  refine st_nil (nx_then (cd_seq (cd_region ?_)))
  refine mvs rfl ?_
  refine st_val (ro_len BwtRef_l22 rfl) ?_
  refine st_lit1 (v := .int _ _) BwtRef_q22 rfl rfl rfl ?_
  intro b5 w1 E5 hb5 hk5
  have ho5 : (w1).ownsRow w.heap.size 3 1 (.slice (some ⟨b5, 0, none⟩) 1 1) 1 [iV ((n : Nat) : Int)] := own_of (cur := [iV ((n : Nat) : Int)]) (Nat.le_of_eq hb5.symm) hk5 (Nat.le_refl _) (by unfold maxLen; omega) rfl rfl
  have hF5 : From w w1 := (From.rfl_.next E5)
  refine mvs rfl ?_
  refine st_call BwtRef_k38 (refSort_rt L A c n _ (hr.from_ (From.rfl_.next E5)) hn hl) ?_
  rintro v7 w2 ⟨⟨B7, c7, F, rfl, hg7, hSA⟩, E7⟩
  have hln := hg7.len
  have hsl := hSA.len
  refine st_appendB BwtRef_q22 rfl (by decide) rfl (A := some ⟨b5, 0, none⟩) (xs := [iV ((n : Nat) : Int)]) (news := (cI F).map iV) (ho5.kept_from E7) ((((From.rfl_.next E5).next E7)).size) rfl (by simpa using hln.symm) (fun h0 => hg7.src h0) hg7.nil (by simp [Value.oneCell']) (by omega) (by omega) ?_
  intro A8 c8 w3 ho8 hg8
  have HF8 := (((From.rfl_.next E5).next E7)).grew hg8 (fun k hk => (own_at (ho5.kept_from E7) k hk).1)
  refine ass rfl ?_
  refine st_nil (nx_then (cd_ret ?_))
  refine res1 (v := .slice _ _ _) rfl rfl ?_
  refine ⟨⟨A8, c8, F, by rw [Nat.add_comm], ?_, hSA⟩, HF8⟩
  have e8 : [iV ((n : Nat) : Int)] ++ (cI F).map iV = (cI (L.length :: F)).map iV := by rw [hn]; simp [cI]
  rw [e8] at ho8
  exact (RowOf.own ho8).2
set_option maxHeartbeats 4000000 in
theorem refMake_rt (A : Option Addr) (c n : Nat) (L : List Nat) (w : World) (hr : RowOf iV w A (cI L)) (hn : n = L.length) (hl : n ≤ 131072) :
    Rt Tryd.prog 7 [.slice A n c] w (fun v w' => (∃ Bs a A' c', v = .tuple #[.slice A' Bs.length c', .int .i64 (a : Nat)] ∧ IsBw L Bs a ∧ w'.ownsRow w.heap.size 3 1 (.slice A' Bs.length c') Bs.length ((cI Bs).map iV)) ∧ From w w') := by
  refine enter (n := 35) Tryd.func7 rfl rfl rfl ?_
  refine cd_seq (cd_region ?_)
  refine ass rfl ?_
  refine asi rfl ?_
  refine st_nil (nx_then (cd_seq (cd_region ?_)))
  refine mvs rfl ?_
  refine st_call BwtRef_k23 (rows_rt A c n L _ (hr.from_ From.rfl_) hn hl) ?_
  rintro v9 w1 ⟨⟨A9, c9, F, rfl, hr9, hSA⟩, E9⟩
  have hBz : From w w1 := E9
  have hFl := hSA.len
  obtain ⟨b9, o9, rfl, hc9⟩ := rowD hr9 (by simp)
  refine ass rfl ?_
  refine st_nil (nx_then (cd_seq (cd_region ?_)))
  refine ass rfl ?_
  refine st_nil (nx_then (cd_seq (cd_region ?_)))
  refine asi rfl ?_
  refine st_nil (nx_then (cd_seq (cd_seq (cd_region ?_))))
  refine asi rfl ?_
  refine st_nil (nx_then (cd_block ?_))
  refine cd_loop (G := Nat × List Nat × Option Addr × Nat × Nat) [10, 11, 12, 13, 14, 15, 16, 17, 18, 19, 20, 21, 22, 23, 24, 25, 26, 27, 28, 29, 30, 31, 32] (fun (k, Bs, A2, c2, a) => [(5, .slice A2 Bs.length c2), (6, .int .i64 (a : Nat)), (7, .int .i64 (k : Nat))]) (fun (k, Bs, A2, c2, a) w' => k ≤ n + 1 ∧ BwT L F k Bs a ∧ w'.ownsRow w1.heap.size 3 1 (.slice A2 Bs.length c2) Bs.length ((cI Bs).map iV) ∧ From w1 w') (fun (k, _) => n + 1 - k) ((0, [], none, 0, 0)) ⟨rfl, rfl, rfl, trivial⟩ ?_ ?_
  · exact ⟨Nat.zero_le _, BwT.zero, World.ownsRow_nil _ _ _ _, From.rfl_⟩
  rintro ⟨k, Bs, A2, c2, a⟩ ρ2 w2 ⟨hk, hT, ho, hFz⟩
  refine cd_seq (cd_seq (cd_region ?_))
  refine mvi rfl ?_
  refine mvs rfl ?_
  refine st_val (ro_len BwtRef_l22 rfl) ?_
  refine st_val (ro_lss rfl rfl) ?_
  refine st_nil (nx_then ?_)
  refine cd_cond rfl (fun Q3 => ?_) (fun Q3 => ?_)
  · with_reducible replace Q3 := of_decide_eq_true Q3
    have hsk := hc9 k (by simp only [List.length_cons]; omega)
    rw [rowS_cons] at hsk
    have hrk := (rank_rowS hSA (show k ≤ L.length by omega)).1
    refine cd_skip (nx_then ?_)
    refine cd_cut (G := List Nat × Option Addr × Nat × Nat) [16, 17, 18, 19, 20, 21, 22, 23, 24, 25, 26, 27, 28, 29, 30, 31, 32] (fun (Bs', A2', c2', a') => [(5, .slice A2' Bs'.length c2'), (6, .int .i64 (a' : Nat))]) (fun (Bs', A2', c2', a') w' => BwT L F (k + 1) Bs' a' ∧ w'.ownsRow w1.heap.size 3 1 (.slice A2' Bs'.length c2') Bs'.length ((cI Bs').map iV) ∧ From w1 w') ?_ ?_
    · refine cd_block (cd_seq (cd_region ?_))
      refine mvs rfl ?_
      refine mvi rfl ?_
      refine st_val (ro_indexAddr1 BwtRef_e22 rfl rfl (by omega)) ?_
      refine st_val (ro_load BwtRef_g3 rfl (by exact cellF (hFz.next From.rfl_) hsk)) ?_
      refine st_val (ro_eql rfl rfl) ?_
      refine st_nil (nx_then ?_)
      refine cd_cond rfl (fun Q4 => ?_) (fun Q4 => ?_)
      · with_reducible replace Q4 := of_decide_eq_true Q4
        refine cd_region ?_
        refine mvi rfl ?_
        refine asi rfl ?_
        refine st_nil (nx_block ?_)
        refine nx_cut ((Bs, A2, c2, k)) ⟨rfl, rfl, trivial⟩ (by (iterate 7 refine agr_cons rfl ?_); exact agr_rfl) ?_
        exact ⟨hT.skip hSA (by omega) (by omega), ho.kept_from From.rfl_, hFz.next From.rfl_⟩
      with_reducible replace Q4 := of_decide_eq_false Q4
      obtain ⟨bl, ol, rfl, hcl⟩ := rowD hr (by omega)
      refine cd_region ?_
      refine mvs rfl ?_
      refine mvs rfl ?_
      refine mvs rfl ?_
      refine mvi rfl ?_
      refine st_val (ro_indexAddr1 BwtRef_e22 rfl rfl (by omega)) ?_
      refine st_val (ro_load BwtRef_g3 rfl (by exact cellF (hFz.next From.rfl_) hsk)) ?_
      refine st_val (ro_subN (b := 1) rfl rfl (by omega)) ?_
      refine st_val (ro_indexAddr1 BwtRef_e22 rfl rfl (by omega)) ?_
      refine st_val (ro_load BwtRef_g3 rfl (by exact cellF (hBz.next hFz) (hcl (rowS L F k - 1) (by omega)))) ?_
      refine st_lit1 (v := .int _ _) BwtRef_q22 rfl rfl rfl ?_
      intro b31 w5 E31 hb31 hk31
      have hap32 := hT.len_le
      refine st_appendB BwtRef_q22 rfl (by decide) rfl (A := A2) (xs := (cI Bs).map iV) (news := [iV ((L.getD (rowS L F k - 1) 0 : Nat) : Int)]) (ho.kept_from (From.rfl_.next E31)) ((hFz.next (From.rfl_.next E31)).size) rfl rfl (fun _ => ⟨b31, 0, rfl, hk31.whole⟩) (fun h => by cases h) (by simp [Value.oneCell']) (by omega) (by omega) ?_
      intro A32 c32 w6 ho32 hg32
      have HF32 := (hFz.next (From.rfl_.next E31)).grew hg32 (fun k hk => (own_at (ho.kept_from (From.rfl_.next E31)) k hk).1)
      refine ass rfl ?_
      refine st_nil (nx_block ?_)
      refine nx_cut ((Bs ++ [L.getD (rowS L F k - 1) 0], A32, c32, a)) ⟨(by rw [List.length_append]; rfl), rfl, trivial⟩ (by (iterate 17 refine agr_cons rfl ?_); exact agr_rfl) ?_
      exact ⟨hT.push hSA (by omega) (by omega), by rw [List.length_append, cI_push]; exact ho32.kept_from From.rfl_, HF32.next From.rfl_⟩
    rintro ⟨Bs', A2', c2', a'⟩ ρ7 w7 ⟨hT', ho', hFz'⟩
    refine cd_region ?_
    refine mvi rfl ?_
    refine st_val (ro_addN (b := 1) rfl rfl (by omega)) ?_
    refine asi rfl ?_
    refine st_nil ?_
    refine nx_cut ((k + 1, Bs', A2', c2', a')) ⟨(by first | rfl | (refine int_eq ?_; omega)), (by first | rfl | (refine int_eq ?_; omega)), (by first | rfl | (refine int_eq ?_; omega)), trivial⟩ (by (iterate 52 refine agr_cons rfl ?_); exact agr_rfl) ⟨?_, ?_⟩
    · exact ⟨by omega, hT', ho'.kept_from From.rfl_, hFz'.next From.rfl_⟩
    · show n + 1 - (k + 1) < n + 1 - k; omega
  with_reducible replace Q3 := of_decide_eq_false Q3
  refine cd_exit ?_
  refine ex_then (ex_then (ex_block (nx_then (cd_seq (cd_region ?_)))))
  refine mvs rfl ?_
  refine mvi rfl ?_
  refine ass rfl ?_
  refine asi rfl ?_
  refine st_nil (nx_then (cd_ret ?_))
  refine res2 (v := .slice _ _ _) (v' := .int _ _) rfl rfl rfl ?_
  obtain rfl : k = n + 1 := by omega
  have hb := (show BwT L F (L.length + 1) Bs a by rw [← hn]; exact hT).fin hSA
  exact ⟨⟨Bs, a, A2, c2, rfl, hb, own_le (ho.kept_from From.rfl_) hBz.size⟩, (hBz.next hFz)⟩
end Go.Proofs.YtepdgbglaiimaaaDoor

namespace Go.Proofs.YtepdgbglaiimaaaDoor
open Go.RowKit
open Go.ChangeShapes Go.WideShapes Go.ChangeAt
open Go.Proofs.YtepdgbglaiimaaaDoor.SA
end Go.Proofs.YtepdgbglaiimaaaDoor

namespace Go.Proofs.YtepdgbglaiimaaaDoor
open Go.RowKit
open Go.ChangeShapes Go.WideShapes Go.ChangeAt
open Go.Proofs.YtepdgbglaiimaaaDoor.SA
theorem FmHelp_q22 : litQ Tryd.prog 22 = some (3, 1, 8, (.int .i64 0)) := by kernel_rfl
theorem FmHelp_f25_1 : fieldQ Tryd.prog 25 1 = some 1 := by kernel_rfl
theorem FmHelp_g22 : aggQ Tryd.prog 22 = some false := by kernel_rfl
theorem FmHelp_l22 : (elemQ Tryd.prog 22).isSome = true := by kernel_rfl
theorem FmHelp_f25_2 : fieldQ Tryd.prog 25 2 = some 2 := by kernel_rfl
theorem FmHelp_g23 : aggQ Tryd.prog 23 = some false := by kernel_rfl
theorem FmHelp_l23 : (elemQ Tryd.prog 23).isSome = true := by kernel_rfl
theorem FmHelp_e23 : elemQ Tryd.prog 23 = some (22, 1) := by kernel_rfl
theorem FmHelp_f25_3 : fieldQ Tryd.prog 25 3 = some 3 := by kernel_rfl
theorem FmHelp_k34 : callable Tryd.prog 34 = true := by kernel_rfl
theorem FmHelp_k18 : callable Tryd.prog 18 = true := by kernel_rfl
theorem FmHelp_k13 : callable Tryd.prog 13 = true := by kernel_rfl
theorem FmHelp_k21 : callable Tryd.prog 21 = true := by kernel_rfl
theorem FmHelp_k22 : callable Tryd.prog 22 = true := by kernel_rfl
theorem FmHelp_k17 : callable Tryd.prog 17 = true := by kernel_rfl
theorem FmHelp_f25_0 : fieldQ Tryd.prog 25 0 = some 0 := by kernel_rfl
theorem FmHelp_g3 : aggQ Tryd.prog 3 = some false := by kernel_rfl
theorem FmHelp_k19 : callable Tryd.prog 19 = true := by kernel_rfl
theorem FmHelp_k20 : callable Tryd.prog 20 = true := by kernel_rfl
theorem FmHelp_p27 : Tryd.prog.underlying 27 = some (.pointer (Tryd.prog.pointee 27)) := by kernel_rfl
theorem FmHelp_f38_0 : fieldQ Tryd.prog 38 0 = some 0 := by kernel_rfl
theorem FmHelp_g34 : aggQ Tryd.prog 34 = some false := by kernel_rfl
theorem FmHelp_p34 : Tryd.prog.underlying 34 = some (.pointer (Tryd.prog.pointee 34)) := by kernel_rfl
/-- patterns -/
def PatsAt (w : World) (D : Option Addr) (ps : List (List Int)) : Prop := 0 < ps.length → ∃ b o, D = some ⟨b, o, none⟩ ∧ ∀ (i : Nat) (hi : i < ps.length), ∃ (A : Option Addr) (c : Nat), w.cell? ⟨b, o + i, none⟩ = some (.slice A ps[i].length c) ∧ RowOf iV w A ps[i] ∧ ps[i].length * 8 ≤ 140737488351232 ∧ ps[i].length ≤ c
theorem PatsAt.from_ {w w' : World} {D : Option Addr} {ps : List (List Int)} (h : PatsAt w D ps) (hF : From w w') : PatsAt w' D ps := fun h0 => by
  obtain ⟨b, o, rfl, hc⟩ := h h0
  refine ⟨b, o, rfl, fun i hi => ?_⟩
  obtain ⟨A, c, h1, h2, h3⟩ := hc i hi
  exact ⟨A, c, cellF hF h1, h2.from_ hF, h3⟩
/-- an ask -/
structure AskF (w : World) (k : Int) (A D B : Option Addr) (L : List Int) (ps : List (List Int)) (is : List Int) : Prop where
  rowL : RowOf iV w A L
  lenL : L.length * 8 ≤ 140737488351232
  pats : PatsAt w D ps
  lenP : ps.length * 24 ≤ 140737488351232
  rowI : RowOf iV w B is
  b64 : ∀ x ∈ is, -9223372036854775808 ≤ x ∧ x ≤ 9223372036854775807
  lenI : is.length * 8 ≤ 140737488351232
theorem AskF.from_ {w w' : World} {k : Int} {A D B : Option Addr} {L : List Int} {ps : List (List Int)} {is : List Int} (h : AskF w k A D B L ps is) (hF : From w w') : AskF w' k A D B L ps is := ⟨h.rowL.from_ hF, h.lenL, h.pats.from_ hF, h.lenP, h.rowI.from_ hF, h.b64, h.lenI⟩
theorem ask_of6 {w : World} {cs : Array Value} {x : (Ty.pr (.int .i64) (.pr (.sl (.int .i64)) (.pr (.sl (.sl (.int .i64))) (.pr (.sl (.int .i64)) .unit)))).den} (hs : cs.size = 4) (h : (Ty.pr (.int .i64) (.pr (.sl (.int .i64)) (.pr (.sl (.sl (.int .i64))) (.pr (.sl (.int .i64)) .unit)))).At w (fun j => cs[j]?) x) :
    ∃ (k : Int) (A : Option Addr) (ca : Nat) (L : List Int) (D : Option Addr) (cp : Nat) (ps : List (List Int)) (B : Option Addr) (cb : Nat) (is : List Int), cs = #[.int .i64 k, .slice A L.length ca, .slice D ps.length cp, .slice B is.length cb] ∧ AskF w k A D B L ps is ∧ L.length ≤ ca := by
  obtain ⟨h0, h1, h2, h3, _⟩ := h
  obtain ⟨A, ca, a0, a1, a2, a3, a4⟩ := at_nums h1
  obtain ⟨B, cb, b0, b1, b2, b3, _⟩ := at_nums h3
  obtain ⟨D, cp, d0, d1, _, d3⟩ := h2
  have e : cs[0]? = some _ := h0.1
  have e0 : cs[1]? = some _ := a0
  have e1 : cs[2]? = some _ := d0
  have e2 : cs[3]? = some _ := b0
  refine ⟨x.1, A, ca, x.2.1, D, cp, x.2.2.1, B, cb, x.2.2.2.1, ?_, ⟨a1, a3, ?_, d1, b1, b2, b3⟩, a4⟩
  · obtain ⟨l⟩ := cs
    match l, hs with
    | [a, b, c, d], _ =>
      simp only [List.getElem?_toArray, List.getElem?_cons_zero, List.getElem?_cons_succ, Option.some.injEq] at e e0 e1 e2
      rw [e, e0, e1, e2]
      rfl
  · intro hp
    obtain ⟨b, o, hD, _, hi⟩ := d3 hp
    refine ⟨b, o, hD, fun i hlt => ?_⟩
    obtain ⟨A, c, c0, c1, _, c3, c4⟩ := at_nums (hi i _ (List.getElem?_eq_getElem hlt))
    exact ⟨A, c, by simpa [Ty.size] using c0, c1, c3, c4⟩
/-- few enough to be played -/
structure Light (L : List Int) (ps : List (List Int)) (is : List Int) : Prop where
  l : L.length ≤ 400
  p : ps.length ≤ 40
  i : is.length ≤ 30
  q : ∀ (j : Nat) (hj : j < ps.length), ps[j].length ≤ 400
theorem FmAt.le {w : World} {base base2 b K a : Nat} {L B F : List Nat} (h : FmAt w base b K a L B F) (hl : base2 ≤ base) : FmAt w base2 b K a L B F := by
  obtain ⟨hb0, hSA, hbw, hLn, hK, tb, AS, cs, gr, hI, hT, ho, hR, hgr⟩ := h
  exact ⟨by omega, hSA, hbw, hLn, hK, tb, AS, cs, gr, hI, hT.le hl, own_le ho hl, hR, by omega⟩
theorem any_bad {k : Int} : ∀ {xs : List Int}, xs.any (badSym k) = !xs.all (okS k)
  | [] => rfl
  | x :: xs => by
    rw [List.any_cons, List.all_cons, any_bad]
    have : badSym k x = !okS k x := by
      unfold badSym okS
      by_cases h : 0 ≤ x <;> by_cases h2 : x < k <;> simp [h, h2] <;> omega
    rw [this, Bool.not_and]
/-- what asks tells of a pattern -/
def askE (k : Int) (q : List Int) : Int := if q.length = 0 then 5 else if q.all (okS k) then 0 else 1
set_option maxHeartbeats 400000 in
theorem num_any (e : Int) (w : World) :
    Rt Tryd.prog 13 [.int .i64 e] w (fun v w' => v = .int .i64 e ∧ w = w') := by
  refine enter (n := 4) Tryd.func13 rfl rfl rfl ?_
  refine cd_seq (cd_region ?_)
  refine asi rfl ?_
  refine st_nil (nx_then (cd_seq (cd_region ?_)))
  refine mvi rfl ?_
  refine asi rfl ?_
  refine st_nil (nx_then (cd_ret ?_))
  refine res1 (v := .int _ _) rfl rfl ?_
  exact ⟨rfl, rfl⟩
set_option maxHeartbeats 2000000 in
theorem heavy_rt (k : Int) (A D B : Option Addr) (ca cp cb : Nat) (L : List Int) (ps : List (List Int)) (is : List Int) (w : World) (ha : AskF w k A D B L ps is) :
    Rt Tryd.prog 4 [.agg #[.int .i64 k, .slice A L.length ca, .slice D ps.length cp, .slice B is.length cb]] w (fun v w' => (∃ h : Bool, v = .bool h ∧ (h = false → Light L ps is)) ∧ From w w') := by
  have hlenL := ha.lenL
  have hlenP := ha.lenP
  have hlenI := ha.lenI
  refine enter (n := 42) Tryd.func4 rfl rfl rfl ?_
  refine cd_seq (cd_region ?_)
  refine st_box (v := .agg _) rfl ?_
  intro b1 w1 E1 hb1 hk1
  refine asb rfl ?_
  refine st_nil (nx_then (cd_seq (cd_region ?_)))
  refine st_val (ro_fieldAddr FmHelp_f25_1 rfl) ?_
  refine st_val (ro_load FmHelp_g22 rfl (by exact (hk1.from_ From.rfl_).rd 1 rfl)) ?_
  refine st_val (ro_len FmHelp_l22 rfl) ?_
  refine asi rfl ?_
  refine st_nil (nx_then (cd_seq (cd_seq (cd_region ?_))))
  refine asi rfl ?_
  refine st_nil (nx_then (cd_block ?_))
  refine cd_loop (G := Nat × Nat) [8, 9, 10, 11, 12, 13, 14, 15, 16, 17, 18, 19, 20, 21, 22, 23, 24, 25, 26, 27] (fun (n, i) => [(3, .int .i64 (n : Nat)), (4, .int .i64 (i : Nat))]) (fun (n, i) w' => i ≤ ps.length ∧ L.length ≤ n ∧ n ≤ 17592186045500 ∧ (∀ (j : Nat) (hj : j < i) (hp : j < ps.length), ps[j].length ≤ n) ∧ Blk w' b1 25 #[.int .i64 k, .slice A L.length ca, .slice D ps.length cp, .slice B is.length cb] ∧ From w w') (fun (_, i) => ps.length - i) ((L.length, 0)) ⟨rfl, rfl, trivial⟩ ?_ ?_
  · exact ⟨Nat.zero_le _, Nat.le_refl _, by omega, fun j h => absurd h (by omega), hk1, (From.rfl_.next E1)⟩
  rintro ⟨n, i⟩ ρ2 w2 ⟨hi, hLn, hnb, hall, hk1, hB⟩
  refine cd_seq (cd_seq (cd_region ?_))
  refine mvi rfl ?_
  refine st_val (ro_fieldAddr FmHelp_f25_2 rfl) ?_
  refine st_val (ro_load FmHelp_g23 rfl (by exact (hk1.from_ From.rfl_).rd 2 rfl)) ?_
  refine st_val (ro_len FmHelp_l23 rfl) ?_
  refine st_val (ro_lss rfl rfl) ?_
  refine mvb rfl ?_
  refine st_split (t := 13) rfl (fun Q3 => ?_) (fun Q3 => ?_)
  · with_reducible replace Q3 := of_decide_eq_true Q3
    refine st_unguard rfl ?_
    refine mvi rfl ?_
    refine st_unguard rfl ?_
    refine st_val (ro_lss rfl rfl) ?_
    refine st_val (ro_pickT (v := .bool _) rfl rfl) ?_
    refine st_nil (nx_then ?_)
    refine cd_cond rfl (fun Q4 => ?_) (fun Q4 => ?_)
    · with_reducible replace Q4 := of_decide_eq_true Q4
      obtain ⟨bD, oD, rfl, hcD⟩ := ha.pats (by omega)
      obtain ⟨A9, c9, hce, _, hce3⟩ := hcD i (by omega)
      refine cd_skip (nx_then (cd_seq (cd_block (cd_region ?_))))
      refine mvi rfl ?_
      refine st_val (ro_fieldAddr FmHelp_f25_2 rfl) ?_
      refine st_val (ro_load FmHelp_g23 rfl (by exact (hk1.from_ From.rfl_).rd 2 rfl)) ?_
      refine mvi rfl ?_
      refine st_val (ro_indexAddr1 FmHelp_e23 rfl rfl (by omega)) ?_
      refine st_val (ro_load FmHelp_g22 rfl (by exact cellF hB hce)) ?_
      refine st_val (ro_len FmHelp_l22 rfl) ?_
      refine st_val (ro_addN rfl rfl (by omega)) ?_
      refine st_val (ro_addN (b := 1) rfl rfl (by omega)) ?_
      refine asi rfl ?_
      refine st_nil (nx_block (nx_then (cd_region ?_)))
      refine mvi rfl ?_
      refine st_val (ro_addN (b := 1) rfl rfl (by omega)) ?_
      refine asi rfl ?_
      refine st_nil ?_
      refine nx_cut ((n + ps[i].length + 1, i + 1)) ⟨(by first | rfl | (refine int_eq ?_; omega)), (by first | rfl | (refine int_eq ?_; omega)), trivial⟩ (by (iterate 45 refine agr_cons rfl ?_); exact agr_rfl) ⟨?_, ?_⟩
      · exact ⟨by omega, by omega, by omega, fun j hj hp => by
          rcases Nat.eq_or_lt_of_le (Nat.le_of_lt_succ hj) with e | e
          · subst e; omega
          · have := hall j e hp; omega, hk1.from_ From.rfl_, hB⟩
      · show ps.length - (i + 1) < ps.length - i; omega
    with_reducible replace Q4 := of_decide_eq_false Q4
    refine cd_exit ?_
    refine ex_then (ex_then (ex_block (nx_then (cd_seq (cd_region ?_)))))
    refine mvi rfl ?_
    refine st_val (ro_gtr rfl rfl) ?_
    refine mvb rfl ?_
    refine st_split (t := 30) rfl (fun Q5 => ?_) (fun Q5 => ?_)
    rotate_left
    · with_reducible replace Q5 := of_decide_eq_false Q5
      exfalso; omega
    with_reducible replace Q5 := of_decide_eq_true Q5
    refine st_gno rfl rfl ?_
    refine st_gno rfl rfl ?_
    refine st_gno rfl rfl ?_
    refine st_gno rfl rfl ?_
    refine st_val (ro_pickT (v := .bool _) rfl rfl) ?_
    refine mvb rfl ?_
    refine st_gno rfl rfl ?_
    refine st_gno rfl rfl ?_
    refine st_gno rfl rfl ?_
    refine st_gno rfl rfl ?_
    refine st_val (ro_pickT (v := .bool _) rfl rfl) ?_
    refine asb rfl ?_
    refine st_nil (nx_then (cd_ret ?_))
    refine res1 (v := .bool _) rfl rfl ?_
    refine ⟨⟨_, rfl, fun h => ?_⟩, hB⟩
    first
      | (cases h; done)
      | (have hq := of_decide_eq_false h; exact ⟨by omega, by omega, by omega, fun j hj => by have := hall j (by omega) hj; omega⟩)
  with_reducible replace Q3 := of_decide_eq_false Q3
  refine st_gno rfl rfl ?_
  refine st_gno rfl rfl ?_
  refine st_val (ro_pickF (v := .bool _) rfl rfl) ?_
  refine st_nil (nx_then ?_)
  refine cd_condF rfl ?_
  refine cd_exit ?_
  refine ex_then (ex_then (ex_block (nx_then (cd_seq (cd_region ?_)))))
  refine mvi rfl ?_
  refine st_val (ro_gtr rfl rfl) ?_
  refine mvb rfl ?_
  refine st_split (t := 30) rfl (fun Q7 => ?_) (fun Q7 => ?_)
  · with_reducible replace Q7 := of_decide_eq_true Q7
    refine st_gno rfl rfl ?_
    refine st_gno rfl rfl ?_
    refine st_gno rfl rfl ?_
    refine st_gno rfl rfl ?_
    refine st_val (ro_pickT (v := .bool _) rfl rfl) ?_
    refine mvb rfl ?_
    refine st_gno rfl rfl ?_
    refine st_gno rfl rfl ?_
    refine st_gno rfl rfl ?_
    refine st_gno rfl rfl ?_
    refine st_val (ro_pickT (v := .bool _) rfl rfl) ?_
    refine asb rfl ?_
    refine st_nil (nx_then (cd_ret ?_))
    refine res1 (v := .bool _) rfl rfl ?_
    refine ⟨⟨_, rfl, fun h => ?_⟩, hB⟩
    first
      | (cases h; done)
      | (have hq := of_decide_eq_false h; exact ⟨by omega, by omega, by omega, fun j hj => by have := hall j (by omega) hj; omega⟩)
  with_reducible replace Q7 := of_decide_eq_false Q7
  refine st_unguard rfl ?_
  refine st_val (ro_fieldAddr FmHelp_f25_2 rfl) ?_
  refine st_unguard rfl ?_
  refine st_val (ro_load FmHelp_g23 rfl (by exact (hk1.from_ From.rfl_).rd 2 rfl)) ?_
  refine st_unguard rfl ?_
  refine st_val (ro_len FmHelp_l23 rfl) ?_
  refine st_unguard rfl ?_
  refine st_val (ro_gtr rfl rfl) ?_
  refine st_val (ro_pickF (v := .bool _) rfl rfl) ?_
  refine mvb rfl ?_
  refine st_split (t := 36) rfl (fun Q8 => ?_) (fun Q8 => ?_)
  · with_reducible replace Q8 := of_decide_eq_true Q8
    refine st_gno rfl rfl ?_
    refine st_gno rfl rfl ?_
    refine st_gno rfl rfl ?_
    refine st_gno rfl rfl ?_
    refine st_val (ro_pickT (v := .bool _) rfl rfl) ?_
    refine asb rfl ?_
    refine st_nil (nx_then (cd_ret ?_))
    refine res1 (v := .bool _) rfl rfl ?_
    refine ⟨⟨_, rfl, fun h => ?_⟩, hB⟩
    first
      | (cases h; done)
      | (have hq := of_decide_eq_false h; exact ⟨by omega, by omega, by omega, fun j hj => by have := hall j (by omega) hj; omega⟩)
  with_reducible replace Q8 := of_decide_eq_false Q8
  refine st_unguard rfl ?_
  refine st_val (ro_fieldAddr FmHelp_f25_3 rfl) ?_
  refine st_unguard rfl ?_
  refine st_val (ro_load FmHelp_g22 rfl (by exact (hk1.from_ From.rfl_).rd 3 rfl)) ?_
  refine st_unguard rfl ?_
  refine st_val (ro_len FmHelp_l22 rfl) ?_
  refine st_unguard rfl ?_
  refine st_val (ro_gtr rfl rfl) ?_
  refine st_val (ro_pickF (v := .bool _) rfl rfl) ?_
  refine asb rfl ?_
  refine st_nil (nx_then (cd_ret ?_))
  refine res1 (v := .bool _) rfl rfl ?_
  refine ⟨⟨_, rfl, fun h => ?_⟩, hB⟩
  first
    | (cases h; done)
    | (have hq := of_decide_eq_false h; exact ⟨by omega, by omega, by omega, fun j hj => by have := hall j (by omega) hj; omega⟩)
set_option maxHeartbeats 400000 in
theorem refTree_rt (k : Int) (A : Option Addr) (c n : Nat) (xs : List Int) (w : World) (hr : RowOf iV w A xs) (hn : n = xs.length) (hl : n ≤ 1000000) :
    Rt Tryd.prog 20 [.int .i64 k, .slice A n c] w (fun v w' => v = .int .i64 (chkW k xs) ∧ From w w') := by
  refine enter (n := 20) Tryd.func20 rfl rfl rfl ?_
  refine cd_seq (cd_region ?_)
  refine asi rfl ?_
  refine st_nil (nx_then (cd_seq (cd_seq (cd_region ?_))))
  refine mvi rfl ?_
  refine st_val (ro_lss rfl rfl) ?_
  refine mvb rfl ?_
  refine st_split (t := 7) rfl (fun Q1 => ?_) (fun Q1 => ?_)
  · replace Q1 := of_decide_eq_true Q1
    refine st_gno rfl rfl ?_
    refine st_gno rfl rfl ?_
    refine st_val (ro_pickT (v := .bool _) rfl rfl) ?_
    refine mvb rfl ?_
    refine st_gno rfl rfl ?_
    refine st_gno rfl rfl ?_
    refine st_gno rfl rfl ?_
    refine st_gno rfl rfl ?_
    refine st_val (ro_pickT (v := .bool _) rfl rfl) ?_
    refine st_nil (nx_then ?_)
    refine cd_condT rfl ?_
    refine cd_seq (cd_region ?_)
    refine asi rfl ?_
    refine st_nil (nx_then (cd_ret (rt_then ?_)))
    refine res1 (v := .int _ _) rfl rfl ?_
    refine ⟨int_eq ?_, From.rfl_⟩
    have h17 : k < 1 ∨ 512 < k ∨ xs.any (badSym k) = true := by first | exact h16 | (left; omega) | (right; left; omega)
    unfold chkW
    by_cases h1 : k < 1 ∨ 512 < k
    · rw [if_pos h1]
    · rw [if_neg h1, if_pos (by rcases h17 with a | a | a <;> first | exact a | omega)]
  replace Q1 := of_decide_eq_false Q1
  refine st_unguard rfl ?_
  refine mvi rfl ?_
  refine st_unguard rfl ?_
  refine st_val (ro_gtr rfl rfl) ?_
  refine st_val (ro_pickF (v := .bool _) rfl rfl) ?_
  refine mvb rfl ?_
  refine st_split (t := 11) rfl (fun Q2 => ?_) (fun Q2 => ?_)
  · replace Q2 := of_decide_eq_true Q2
    refine st_gno rfl rfl ?_
    refine st_gno rfl rfl ?_
    refine st_gno rfl rfl ?_
    refine st_gno rfl rfl ?_
    refine st_val (ro_pickT (v := .bool _) rfl rfl) ?_
    refine st_nil (nx_then ?_)
    refine cd_condT rfl ?_
    refine cd_seq (cd_region ?_)
    refine asi rfl ?_
    refine st_nil (nx_then (cd_ret (rt_then ?_)))
    refine res1 (v := .int _ _) rfl rfl ?_
    refine ⟨int_eq ?_, From.rfl_⟩
    have h17 : k < 1 ∨ 512 < k ∨ xs.any (badSym k) = true := by first | exact h16 | (left; omega) | (right; left; omega)
    unfold chkW
    by_cases h1 : k < 1 ∨ 512 < k
    · rw [if_pos h1]
    · rw [if_neg h1, if_pos (by rcases h17 with a | a | a <;> first | exact a | omega)]
  replace Q2 := of_decide_eq_false Q2
  refine st_unguard rfl ?_
  refine mvi rfl ?_
  refine st_unguard rfl ?_
  refine mvs rfl ?_
  refine st_unguard rfl ?_
  refine st_call FmHelp_k34 (may_rt k A c n xs _ (hr.from_ From.rfl_) hn (by omega)) ?_
  rintro v14 w3 ⟨rfl, E14⟩
  refine st_unguard rfl ?_
  refine st_val (ro_not rfl) ?_
  refine st_val (ro_pickF (v := .bool _) rfl rfl) ?_
  refine st_nil (nx_then ?_)
  refine cd_cond rfl (fun Q4 => ?_) (fun Q4 => ?_)
  · replace Q4 := bn_t Q4
    have h16 : k < 1 ∨ 512 < k ∨ xs.any (badSym k) = true := by first | omega | (right; right; rw [any_bad]; simpa using Q4)
    refine cd_seq (cd_region ?_)
    refine asi rfl ?_
    refine st_nil (nx_then (cd_ret (rt_then ?_)))
    refine res1 (v := .int _ _) rfl rfl ?_
    refine ⟨int_eq ?_, (From.rfl_.next E14)⟩
    have h17 : k < 1 ∨ 512 < k ∨ xs.any (badSym k) = true := by first | exact h16 | (left; omega) | (right; left; omega)
    unfold chkW
    by_cases h1 : k < 1 ∨ 512 < k
    · rw [if_pos h1]
    · rw [if_neg h1, if_pos (by rcases h17 with a | a | a <;> first | exact a | omega)]
  replace Q4 := bn_f Q4
  have h16 : xs.any (badSym k) = false := by rw [any_bad]; simpa using Q4
  refine cd_skip (nx_then (cd_seq (cd_seq (cd_region ?_))))
  refine mvs rfl ?_
  refine st_val (ro_len FmHelp_l22 rfl) ?_
  refine st_val (ro_gtr rfl rfl) ?_
  refine st_nil (nx_then ?_)
  refine cd_cond rfl (fun Q5 => ?_) (fun Q5 => ?_)
  · replace Q5 := of_decide_eq_true Q5
    refine cd_seq (cd_region ?_)
    refine asi rfl ?_
    refine st_nil (nx_then (cd_ret (rt_then ?_)))
    refine res1 (v := .int _ _) rfl rfl ?_
    exact ⟨int_eq (by unfold chkW; rw [if_neg (by omega), if_neg (by rw [h16]; simp), if_pos (by omega)]), (From.rfl_.next E14)⟩
  replace Q5 := of_decide_eq_false Q5
  refine cd_skip (nx_then (cd_seq (cd_region ?_)))
  refine asi rfl ?_
  refine st_nil (nx_then (cd_ret ?_))
  refine res1 (v := .int _ _) rfl rfl ?_
  exact ⟨int_eq (by unfold chkW; rw [if_neg (by omega), if_neg (by rw [h16]; simp), if_neg (by omega)]), (From.rfl_.next E14)⟩
theorem chk10 : chkW 2 [1, 0, 1, 0] = 0 := by decide
theorem fnd10 : fndL [1, 0, 1, 0] [1, 0] = [0, 2] := by
  have b0 : pBg (endT [1, 0, 1, 0]) 0 [1, 0] := (bg_iff (by decide)).2 ⟨by decide, by decide⟩
  have b1 : ¬ pBg (endT [1, 0, 1, 0]) 1 [1, 0] := fun h => absurd ((bg_iff (by decide)).1 h).2 (by decide)
  have b2 : pBg (endT [1, 0, 1, 0]) 2 [1, 0] := (bg_iff (by decide)).2 ⟨by decide, by decide⟩
  have b3 : ¬ pBg (endT [1, 0, 1, 0]) 3 [1, 0] := fun h => absurd ((bg_iff (by decide)).1 h).1 (by decide)
  show fndTo [1, 0, 1, 0] [1, 0] 4 = [0, 2]
  rw [fndTo_no b3, fndTo_yes b2, fndTo_no b1, fndTo_yes b0]
  rfl
theorem row_four {w : World} {g : Nat} {x y z u : Int} (h : Blk w g 3 #[.int .i64 x, .int .i64 y, .int .i64 z, .int .i64 u]) : RowOf iV w (some ⟨g, 0, none⟩) [x, y, z, u] := fun _ => ⟨g, 0, rfl, fun i hi => by
  match i, hi with
  | 0, _ => exact h.rd 0 rfl
  | 1, _ => exact h.rd 1 rfl
  | 2, _ => exact h.rd 2 rfl
  | 3, _ => exact h.rd 3 rfl⟩
theorem build_10 (g : Nat) (w : World) (h : Blk w g 3 #[.int .i64 1, .int .i64 0, .int .i64 1, .int .i64 0]) : Rt Tryd.prog 18 [.int .i64 2, .slice (some ⟨g, 0, none⟩) 4 4] w fun v w' => (∃ b a B F, FmAt w' w.heap.size b 2 a [1, 0, 1, 0] B F ∧ v = .tuple #[.pointer (some ⟨b, 0, none⟩), .int .i64 0]) ∧ From w w' := by
  refine (build_rt 2 (some ⟨g, 0, none⟩) 4 4 [1, 0, 1, 0] w (row_four h) rfl (by omega)).mono fun v w' h => ?_
  obtain ⟨h, hF⟩ := h
  refine ⟨?_, hF⟩
  rcases h with ⟨h, _⟩ | ⟨_, K, b, a, L, B, F, hK, hL, _, hf, rfl⟩
  · exact absurd chk10 h
  · obtain rfl : K = 2 := by omega
    obtain rfl : L = [1, 0, 1, 0] := cI_inj hL.symm
    exact ⟨b, a, B, F, hf, rfl⟩
theorem find_10 (base b a g : Nat) (B F : List Nat) (w : World) (hf : FmAt w base b 2 a [1, 0, 1, 0] B F) (h : Blk w g 3 #[.int .i64 1, .int .i64 0]) : Rt Tryd.prog 21 [.pointer (some ⟨b, 0, none⟩), .slice (some ⟨g, 0, none⟩) 2 2] w fun v w' => (∃ A' c', v = .tuple #[.slice A' 2 c', .int .i64 0] ∧ RowOf iV w' A' [0, 2]) ∧ From w w' := by
  refine (fmFind_rt base b 2 a [1, 0, 1, 0] B F w hf (some ⟨g, 0, none⟩) 2 2 [1, 0] (row_two h) rfl (by omega)).mono fun v w' h => ?_
  obtain ⟨⟨l, e, A', c', hi, rfl, ho⟩, hF⟩ := h
  refine ⟨?_, hF⟩
  rcases hi with ⟨h, _⟩ | ⟨_, h, _⟩ | ⟨p, hp, _, _, rfl, rfl⟩
  · cases h
  · exact absurd h (by decide)
  · obtain rfl : p = [1, 0] := cI_inj hp.symm
    rw [fnd10] at ho ⊢
    exact ⟨A', c', rfl, (RowOf.own ho).2⟩
set_option maxHeartbeats 400000 in
theorem wakes_rt (w : World) :
    Rt Tryd.prog 6 [] w (fun v w' => v = .bool true ∧ From w w') := by
  refine enter (n := 31) Tryd.func6 rfl rfl rfl ?_
  refine cd_seq (cd_region ?_)
  refine asb rfl ?_
  refine st_nil (nx_then (cd_seq (cd_region ?_)))
  refine st_lits [.const (.int .i64 1), .const (.int .i64 0), .const (.int .i64 1), .const (.int .i64 0)] [.int .i64 1, .int .i64 0, .int .i64 1, .int .i64 0] FmHelp_q22 rfl rfl rfl rfl (by simp [Value.cells]) ?_
  intro b6 w1 E6 hb6 hk6
  refine st_call FmHelp_k18 (build_10 b6 _ hk6) ?_
  rintro v7 w2 ⟨⟨b, a, B7, F7, hf7, rfl⟩, E7⟩
  refine mvt rfl ?_
  refine st_val (ro_extract rfl rfl) ?_
  refine st_val (ro_extract rfl rfl) ?_
  refine asp rfl ?_
  refine asi rfl ?_
  refine st_nil (nx_then (cd_seq (cd_seq (cd_region ?_))))
  refine mvi rfl ?_
  refine st_call FmHelp_k13 (num_any _ _) ?_
  rintro v11 w3 ⟨rfl, rfl⟩
  refine st_val (ro_bf (ro_neq rfl rfl) rfl) ?_
  refine mvb rfl ?_
  refine st_unguard rfl ?_
  refine mvp rfl ?_
  refine st_unguard rfl ?_
  refine st_val (ro_bf (ro_eqlNil (by kernel_rfl) rfl rfl) rfl) ?_
  refine st_val (ro_pickF (v := .bool _) rfl rfl) ?_
  refine st_nil (nx_then ?_)
  refine cd_condF rfl ?_
  refine cd_skip (nx_then (cd_seq (cd_region ?_)))
  refine mvp rfl ?_
  refine st_lits [.const (.int .i64 1), .const (.int .i64 0)] [.int .i64 1, .int .i64 0] FmHelp_q22 rfl rfl rfl rfl (by simp [Value.cells]) ?_
  intro b19 w4 E19 hb19 hk19
  refine st_call FmHelp_k21 (find_10 _ b a b19 B7 F7 _ (hf7.from_ (From.rfl_.next E19)) hk19) ?_
  rintro v20 w5 ⟨⟨A20, c20, rfl, hr20⟩, E20⟩
  refine mvt rfl ?_
  refine st_val (ro_extract rfl rfl) ?_
  refine st_val (ro_extract rfl rfl) ?_
  refine ass rfl ?_
  refine asi rfl ?_
  refine st_nil (nx_then (cd_seq (cd_region ?_)))
  refine mvi rfl ?_
  refine st_call FmHelp_k13 (num_any _ _) ?_
  rintro v24 w6 ⟨rfl, rfl⟩
  refine st_val (ro_bt (ro_eql rfl rfl) rfl) ?_
  refine mvb rfl ?_
  refine st_unguard rfl ?_
  refine mvs rfl ?_
  refine st_unguard rfl ?_
  refine st_lits [.const (.int .i64 0), .const (.int .i64 2)] [.int .i64 0, .int .i64 2] FmHelp_q22 rfl rfl rfl rfl (by simp [Value.cells]) ?_
  intro b28 w7 E28 hb28 hk28
  refine st_unguard rfl ?_
  refine st_call FmHelp_k22 (eq_same A20 (some ⟨b28, 0, none⟩) c20 2 2 2 [0, 2] _ (hr20.from_ E28) (row_two hk28) rfl rfl (by omega)) ?_
  rintro v29 w8 ⟨rfl, E29⟩
  refine st_val (ro_pickT (v := .bool _) rfl rfl) ?_
  refine asb rfl ?_
  refine st_nil (nx_then (cd_ret ?_))
  refine res1 (v := .bool _) rfl rfl ?_
  exact ⟨rfl, ((((((From.rfl_.next E6).next E7).next E19).next E20).next E28).next E29)⟩
theorem TreeAt.grown {w w' : World} {base b k : Nat} {L : List Nat} {r : Option Nat} (h : TreeAt w base b k L) (hg : w.grownBy w' r) (hne : ∀ q, r = some q → q < base) : TreeAt w' base b k L := by
  obtain ⟨hb0, AT, cT, g, vs, hT, ho, hVs, hg0, hg2, hrest⟩ := h
  exact ⟨hb0, AT, cT, g, vs, hT.grown hg (fun q hq => by have := hne q hq; omega), own_kept ho hg hne, fun j hj => (hVs j hj).grown hg hne, hg0, hg2.grown hg (fun q hq => by have := hne q hq; omega), hrest⟩
theorem FmAt.grown {w w' : World} {base b K a : Nat} {L B F : List Nat} {r : Option Nat} (h : FmAt w base b K a L B F) (hg : w.grownBy w' r) (hne : ∀ q, r = some q → q < base) : FmAt w' base b K a L B F := by
  obtain ⟨hb0, hSA, hbw, hLn, hK, tb, AS, cs, gr, hI, hT, ho, hR, hgr⟩ := h
  exact ⟨hb0, hSA, hbw, hLn, hK, tb, AS, cs, gr, hI.grown hg (fun q hq => by have := hne q hq; omega), hT.grown hg hne, own_kept ho hg hne, hR.grown hg (fun q hq => by have := hne q hq; omega), hgr⟩
theorem FmAt.ptr {w : World} {base b K a : Nat} {L B F : List Nat} (h : FmAt w base b K a L B F) : ∃ tb AS cs gr, Blk w b 38 #[.pointer (some ⟨tb, 0, none⟩), .int .i64 (a : Nat), .slice AS (smp L F (L.length + 1)).length cs, .slice (some ⟨gr, 0, none⟩) (L.length / 8 + 1) (L.length / 8 + 1)] := by
  obtain ⟨hb0, hSA, hbw, hLn, hK, tb, AS, cs, gr, hI, hT, ho, hR, hgr⟩ := h
  exact ⟨tb, AS, cs, gr, hI⟩
set_option maxHeartbeats 400000 in
theorem made_rt (k : Int) (A D B : Option Addr) (ca cp cb : Nat) (L : List Int) (ps : List (List Int)) (is : List Int) (w : World) (ha : AskF w k A D B L ps is) (hl : L.length ≤ 400) :
    Rt Tryd.prog 5 [.agg #[.int .i64 k, .slice A L.length ca, .slice D ps.length cp, .slice B is.length cb]] w (fun v w' => BuildA w' w.heap.size k L v ∧ From w w') := by
  refine enter (n := 49) Tryd.func5 rfl rfl rfl ?_
  refine cd_seq (cd_region ?_)
  refine st_box (v := .agg _) rfl ?_
  intro b1 w1 E1 hb1 hk1
  refine asp rfl ?_
  refine asi rfl ?_
  refine st_nil (nx_then (cd_seq (cd_region ?_)))
  refine st_val (ro_fieldAddr FmHelp_f25_1 rfl) ?_
  refine st_val (ro_load FmHelp_g22 rfl (by exact (hk1.from_ From.rfl_).rd 1 rfl)) ?_
  have hB10 := (From.rfl_.next E1)
  have hl10 := (hk1.from_ From.rfl_).lt
  refine st_call FmHelp_k17 (copyNums_any A ca L _ (ha.rowL.from_ (From.rfl_.next E1)) ha.lenL) ?_
  rintro v10 w2 ⟨A10, c10, rfl, ho10, E10⟩
  refine ass rfl ?_
  refine st_nil (nx_then (cd_seq (cd_region ?_)))
  refine st_val (ro_fieldAddr FmHelp_f25_0 rfl) ?_
  refine st_val (ro_load FmHelp_g3 rfl (by exact (hk1.from_ (From.rfl_.next E10)).rd 0 rfl)) ?_
  refine mvs rfl ?_
  have hB15 := ((From.rfl_.next E1).next E10)
  refine st_call FmHelp_k18 (build_rt k A10 c10 L.length L _ (RowOf.own ho10).2 rfl (by omega)) ?_
  rintro v15 w3 ⟨hs15, E15⟩
  replace hk1 := hk1.from_ ((From.rfl_.next E10).next E15)
  rcases hs15 with ⟨hck, rfl⟩ | ⟨hck, K, b, a, Ln, Bs, F, hKk, hLn, hlt, hf, rfl⟩
  · have hb33 : (chkW k L != 0) = true := by simpa using hck
    refine mvt rfl ?_
    refine st_val (ro_extract rfl rfl) ?_
    refine st_val (ro_extract rfl rfl) ?_
    refine asp rfl ?_
    refine asi rfl ?_
    refine st_nil (nx_then (cd_seq (cd_region ?_)))
    refine mvs rfl ?_
    refine st_call FmHelp_k19 (spoilNums_any _ A10 c10 L _ (ho10.kept_from E15) ha.lenL (by have := E10.size; have := E15.size; omega)) ?_
    rintro v19 w4 hg19
    replace hk1 := hk1.grown hg19 (fun k hk => by have := own_at ho10 k hk; omega)
    (try replace hf := hf.grown hg19 (fun k hk => (own_at ho10 k hk).2))
    (try obtain ⟨tb, AS, cs, gr, hI⟩ := hf.ptr)
    refine st_nil (nx_then (cd_seq (cd_region ?_)))
    refine st_val (ro_fieldAddr FmHelp_f25_0 rfl) ?_
    refine st_val (ro_load FmHelp_g3 rfl (by exact (hk1.from_ From.rfl_).rd 0 rfl)) ?_
    refine st_val (ro_fieldAddr FmHelp_f25_1 rfl) ?_
    refine st_val (ro_load FmHelp_g22 rfl (by exact (hk1.from_ From.rfl_).rd 1 rfl)) ?_
    refine st_call FmHelp_k20 (refTree_rt k A ca L.length L _ (ha.rowL.from_ ((((From.rfl_.next E1).next E10).next E15).grew hg19 (fun k hk => Nat.le_trans hB10.size (own_at ho10 k hk).1))) rfl (by omega)) ?_
    rintro v24 w5 ⟨rfl, E24⟩
    refine asi rfl ?_
    refine st_nil (nx_then (cd_seq (cd_seq (cd_region ?_))))
    refine mvi rfl ?_
    refine st_call FmHelp_k13 (num_any _ _) ?_
    rintro v26 w6 ⟨rfl, rfl⟩
    refine mvi rfl ?_
    refine st_val (ro_neq rfl rfl) ?_
    refine mvb rfl ?_
    refine st_split (t := 29) rfl (fun Q7 => ?_) (fun Q7 => ?_)
    · replace Q7 := bn_t Q7; replace Q7 := be_f Q7
      first
       | (exfalso; first | (first | omega | (simp [hb33] at *; done); trace "@MK D made_rt:f15.0.g29+ 1") | (contradiction; trace "@MK D made_rt:f15.0.g29+ 2") | ((cases Q7; done); trace "@MK D made_rt:f15.0.g29+ 3"))
       | (trace "@MK D made_rt:f15.0.g29+ 0")
         refine st_gno rfl rfl ?_
         refine st_gno rfl rfl ?_
         refine st_gno rfl rfl ?_
         refine st_gno rfl rfl ?_
         refine st_gno rfl rfl ?_
         refine st_val (ro_pickT (v := .bool _) rfl rfl) ?_
         refine mvb rfl ?_
         refine st_gno rfl rfl ?_
         refine st_gno rfl rfl ?_
         refine st_gno rfl rfl ?_
         refine st_gund rfl ?_
         refine st_gund rfl ?_
         refine st_gund rfl ?_
         refine st_gund rfl ?_
         refine st_gund rfl ?_
         refine st_gno rfl rfl ?_
         refine st_val (ro_pickT (v := .bool _) rfl rfl) ?_
         refine st_nil (nx_then ?_)
         refine cd_condT rfl ?_
         refine cd_seq (cd_region ?_)
         refine asp rfl ?_
         refine asi rfl ?_
         refine st_nil (nx_then (cd_ret (rt_then ?_)))
         refine res2 (v := .pointer _) (v' := .int _ _) rfl rfl rfl ?_
         exfalso; simp_all
    replace Q7 := bn_f Q7; replace Q7 := be_t Q7
    refine st_unguard rfl ?_
    refine mvp rfl ?_
    refine st_unguard rfl ?_
    refine st_val (ro_eqlNil FmHelp_p27 rfl rfl) ?_
    refine st_unguard rfl ?_
    refine mvi rfl ?_
    refine st_unguard rfl ?_
    refine st_val (ro_neq rfl rfl) ?_
    refine st_unguard rfl ?_
    refine st_val (ro_neqB (by kernel_rfl) rfl rfl) ?_
    refine st_val (ro_pickF (v := .bool _) rfl rfl) ?_
    refine mvb rfl ?_
    refine st_split (t := 36) rfl (fun Q8 => ?_) (fun Q8 => ?_)
    · replace Q8 := bn_t Q8; replace Q8 := be_f Q8
      exfalso; first | omega | (simp [hb33] at *; done)
    replace Q8 := bn_f Q8; replace Q8 := be_t Q8
    refine st_unguard rfl ?_
    refine mvp rfl ?_
    refine st_unguard rfl ?_
    refine st_val (ro_neqNil FmHelp_p27 rfl rfl) ?_
    refine st_unguard rfl ?_
    refine mvb rfl ?_
    refine st_split (t := 39) rfl (fun Q9 => ?_) (fun Q9 => ?_)
    · replace Q9 := bn_t Q9
      exfalso; first | omega | (simp [hb33] at *; done)
    replace Q9 := bn_f Q9
    refine st_gno rfl rfl ?_
    refine st_gno rfl rfl ?_
    refine st_gno rfl rfl ?_
    refine st_gno rfl rfl ?_
    refine st_gno rfl rfl ?_
    refine st_unguard rfl ?_
    refine st_val (ro_pickF (v := .bool _) rfl rfl) ?_
    refine st_val (ro_pickF (v := .bool _) rfl rfl) ?_
    refine st_nil (nx_then ?_)
    refine cd_condF rfl ?_
    refine cd_skip (nx_then (cd_seq (cd_region ?_)))
    refine mvp rfl ?_
    refine mvi rfl ?_
    refine asp rfl ?_
    refine asi rfl ?_
    refine st_nil (nx_then (cd_ret ?_))
    refine res2 (v := .pointer _) (v' := .int _ _) rfl rfl rfl ?_
    first
      | exact ⟨.inl ⟨hck, rfl⟩, (((((From.rfl_.next E1).next E10).next E15).grew hg19 (fun k hk => Nat.le_trans hB10.size (own_at ho10 k hk).1)).next E24)⟩
      | exact ⟨.inr ⟨hck, K, b, a, Ln, Bs, F, hKk, hLn, hlt, (hf.from_ (From.rfl_.next E24)).le hB15.size, by rw [hck]⟩, (((((From.rfl_.next E1).next E10).next E15).grew hg19 (fun k hk => Nat.le_trans hB10.size (own_at ho10 k hk).1)).next E24)⟩
  have hb33 : (chkW k L != 0) = false := by rw [hck]; rfl
  refine mvt rfl ?_
  refine st_val (ro_extract rfl rfl) ?_
  refine st_val (ro_extract rfl rfl) ?_
  refine asp rfl ?_
  refine asi rfl ?_
  refine st_nil (nx_then (cd_seq (cd_region ?_)))
  refine mvs rfl ?_
  refine st_call FmHelp_k19 (spoilNums_any _ A10 c10 L _ (ho10.kept_from E15) ha.lenL (by have := E10.size; have := E15.size; omega)) ?_
  rintro v19 w11 hg19
  replace hk1 := hk1.grown hg19 (fun k hk => by have := own_at ho10 k hk; omega)
  (try replace hf := hf.grown hg19 (fun k hk => (own_at ho10 k hk).2))
  (try obtain ⟨tb, AS, cs, gr, hI⟩ := hf.ptr)
  refine st_nil (nx_then (cd_seq (cd_region ?_)))
  refine st_val (ro_fieldAddr FmHelp_f25_0 rfl) ?_
  refine st_val (ro_load FmHelp_g3 rfl (by exact (hk1.from_ From.rfl_).rd 0 rfl)) ?_
  refine st_val (ro_fieldAddr FmHelp_f25_1 rfl) ?_
  refine st_val (ro_load FmHelp_g22 rfl (by exact (hk1.from_ From.rfl_).rd 1 rfl)) ?_
  refine st_call FmHelp_k20 (refTree_rt k A ca L.length L _ (ha.rowL.from_ ((((From.rfl_.next E1).next E10).next E15).grew hg19 (fun k hk => Nat.le_trans hB10.size (own_at ho10 k hk).1))) rfl (by omega)) ?_
  rintro v24 w12 ⟨rfl, E24⟩
  refine asi rfl ?_
  refine st_nil (nx_then (cd_seq (cd_seq (cd_region ?_))))
  refine mvi rfl ?_
  refine st_call FmHelp_k13 (num_any _ _) ?_
  rintro v26 w13 ⟨rfl, rfl⟩
  refine mvi rfl ?_
  refine st_val (ro_neq rfl rfl) ?_
  refine mvb rfl ?_
  refine st_split (t := 29) rfl (fun Q14 => ?_) (fun Q14 => ?_)
  · replace Q14 := bn_t Q14; replace Q14 := be_f Q14
    first
     | (exfalso; first | (first | omega | (simp [hb33] at *; done); trace "@MK D made_rt:f15.1.g29+ 1") | (contradiction; trace "@MK D made_rt:f15.1.g29+ 2") | ((cases Q14; done); trace "@MK D made_rt:f15.1.g29+ 3"))
     | (trace "@MK D made_rt:f15.1.g29+ 0")
       refine st_gno rfl rfl ?_
       refine st_gno rfl rfl ?_
       refine st_gno rfl rfl ?_
       refine st_gno rfl rfl ?_
       refine st_gno rfl rfl ?_
       refine st_val (ro_pickT (v := .bool _) rfl rfl) ?_
       refine mvb rfl ?_
       refine st_gno rfl rfl ?_
       refine st_gno rfl rfl ?_
       refine st_gno rfl rfl ?_
       refine st_gund rfl ?_
       refine st_gund rfl ?_
       refine st_gund rfl ?_
       refine st_gund rfl ?_
       refine st_gund rfl ?_
       refine st_gno rfl rfl ?_
       refine st_val (ro_pickT (v := .bool _) rfl rfl) ?_
       refine st_nil (nx_then ?_)
       refine cd_condT rfl ?_
       refine cd_seq (cd_region ?_)
       refine asp rfl ?_
       refine asi rfl ?_
       refine st_nil (nx_then (cd_ret (rt_then ?_)))
       refine res2 (v := .pointer _) (v' := .int _ _) rfl rfl rfl ?_
       exfalso; simp_all
  replace Q14 := bn_f Q14; replace Q14 := be_t Q14
  refine st_unguard rfl ?_
  refine mvp rfl ?_
  refine st_unguard rfl ?_
  refine st_val (ro_eqlNil FmHelp_p27 rfl rfl) ?_
  refine st_unguard rfl ?_
  refine mvi rfl ?_
  refine st_unguard rfl ?_
  refine st_val (ro_neq rfl rfl) ?_
  refine st_unguard rfl ?_
  refine st_val (ro_neqB (by kernel_rfl) rfl rfl) ?_
  refine st_val (ro_pickF (v := .bool _) rfl rfl) ?_
  refine mvb rfl ?_
  refine st_split (t := 36) rfl (fun Q15 => ?_) (fun Q15 => ?_)
  · replace Q15 := bn_t Q15; replace Q15 := be_f Q15
    exfalso; first | omega | (simp [hb33] at *; done)
  replace Q15 := bn_f Q15; replace Q15 := be_t Q15
  refine st_unguard rfl ?_
  refine mvp rfl ?_
  refine st_unguard rfl ?_
  refine st_val (ro_neqNil FmHelp_p27 rfl rfl) ?_
  refine st_unguard rfl ?_
  refine mvb rfl ?_
  refine st_split (t := 39) rfl (fun Q16 => ?_) (fun Q16 => ?_)
  rotate_left
  · replace Q16 := bn_f Q16
    exfalso; first | omega | (simp [hb33] at *; done)
  replace Q16 := bn_t Q16
  refine st_unguard rfl ?_
  refine mvp rfl ?_
  refine st_unguard rfl ?_
  refine st_val (ro_nilCheck rfl) ?_
  refine st_unguard rfl ?_
  refine st_val (ro_fieldAddr FmHelp_f38_0 rfl) ?_
  refine st_unguard rfl ?_
  refine st_val (ro_load FmHelp_g34 rfl (by exact (hI.from_ (From.rfl_.next E24)).rd 0 rfl)) ?_
  refine st_unguard rfl ?_
  refine st_val (ro_eqlNil FmHelp_p34 rfl rfl) ?_
  refine st_unguard rfl ?_
  refine st_val (ro_pickT (v := .bool _) rfl rfl) ?_
  refine st_val (ro_pickF (v := .bool _) rfl rfl) ?_
  refine st_nil (nx_then ?_)
  refine cd_cond rfl (fun Q17 => ?_) (fun Q17 => ?_)
  · exfalso; first | omega | (simp [hb33] at *; done)
  refine cd_skip (nx_then (cd_seq (cd_region ?_)))
  refine mvp rfl ?_
  refine mvi rfl ?_
  refine asp rfl ?_
  refine asi rfl ?_
  refine st_nil (nx_then (cd_ret ?_))
  refine res2 (v := .pointer _) (v' := .int _ _) rfl rfl rfl ?_
  first
    | exact ⟨.inl ⟨hck, rfl⟩, (((((From.rfl_.next E1).next E10).next E15).grew hg19 (fun k hk => Nat.le_trans hB10.size (own_at ho10 k hk).1)).next E24)⟩
    | exact ⟨.inr ⟨hck, K, b, a, Ln, Bs, F, hKk, hLn, hlt, (hf.from_ (From.rfl_.next E24)).le hB15.size, by rw [hck]⟩, (((((From.rfl_.next E1).next E10).next E15).grew hg19 (fun k hk => Nat.le_trans hB10.size (own_at ho10 k hk).1)).next E24)⟩
end Go.Proofs.YtepdgbglaiimaaaDoor

namespace Go.Proofs.YtepdgbglaiimaaaDoor

/-- where place q of L comes to, if it goes with c -/
def pathP (n : Nat) (L : List Nat) (c q : Nat) : Nat → Nat
  | 0 => q
  | m + 1 => downN (n - 1 - m) (lvl n L m) (pathP n L c q m) (bitN (n - 1 - m) c)
theorem path_elem {n c : Nat} {L X Z : List Nat} (h : L = X ++ [c] ++ Z) : ∀ m, ∃ X' Z', lvl n L m = X' ++ [c] ++ Z' ∧ X'.length = pathP n L c X.length m
  | 0 => ⟨X, Z, h, rfl⟩
  | m + 1 => by
    obtain ⟨X', Z', h1, h2⟩ := path_elem h m
    obtain ⟨X2, Z2, h3, h4⟩ := one_down (n - 1 - m) X' Z' c
    rw [← h1] at h3 h4
    exact ⟨X2, Z2, h3, by rw [h4, h2]; rfl⟩
theorem path_seg {n c q : Nat} {L : List Nat} (hL : ∀ x ∈ L, x < 2 ^ n) (hc : c < 2 ^ n) (hq : q ≤ L.length) : ∀ m, m ≤ n → ∃ X Z, lvl n L m = X ++ yL L q c n m ++ Z ∧ X.length = pathP n L c 0 m ∧ X.length + (yL L q c n m).length = pathP n L c q m
  | 0, _ => ⟨[], L.drop q, by rw [yL_zero hL hc]; show L = _; simp, rfl, by rw [yL_zero hL hc, List.length_take, List.length_nil]; show _ = q; omega⟩
  | m + 1, hm => by
    obtain ⟨X, Z, h1, h2, h3⟩ := path_seg hL hc hq m (by omega)
    obtain ⟨X2, Z2, h4, h5, h6⟩ := seg_down (n - 1 - m) X (yL L q c n m) Z (bitN (n - 1 - m) c)
    rw [yL_step (by omega)] at h4 h6
    rw [← h1] at h4 h5 h6
    exact ⟨X2, Z2, h4, by rw [h5, h2]; rfl, by rw [h6, h3]; rfl⟩
theorem path_rank {n c q : Nat} {L : List Nat} (hL : ∀ x ∈ L, x < 2 ^ n) (hc : c < 2 ^ n) (hq : q ≤ L.length) : pathP n L c q n = pathP n L c 0 n + cntC L c q := by
  obtain ⟨X, Z, _, h2, h3⟩ := path_seg hL hc hq n (Nat.le_refl n)
  rw [yL_all] at h3
  rw [← h3, h2]
/-- the way back: among the ones, or among the noughts, of a level -/
theorem up_ones {s : Nat} {M : List Nat} {p : Nat} (hp : p ≤ M.length) : downN s M p true = (zerosL s M).length + rk (M.map (bitN s)) p := by
  unfold downN
  rw [if_pos rfl, rk_ones s M p hp]
theorem up_zeros {s : Nat} {M : List Nat} {p : Nat} (hp : p ≤ M.length) : downN s M p false = p - rk (M.map (bitN s)) p := by
  unfold downN
  rw [if_neg (by simp), rk_ones s M p hp]
end Go.Proofs.YtepdgbglaiimaaaDoor

namespace Go.Proofs.YtepdgbglaiimaaaDoor
/-! ### the k-th one -/
theorem exists_nth (f : Nat → Bool) (j : Nat) : ∀ n, j < cntB f n → ∃ p, p < n ∧ f p = true ∧ cntB f p = j
  | 0, h => by simp [cntB] at h
  | n + 1, h => by
    by_cases h1 : j < cntB f n
    · obtain ⟨p, a, b, c⟩ := exists_nth f j n h1
      exact ⟨p, by omega, b, c⟩
    · have h2 : cntB f (n + 1) = cntB f n + (f n).toNat := rfl
      cases hb : f n with
      | false => rw [h2, hb] at h; simp at h; omega
      | true => rw [h2, hb] at h; simp at h; exact ⟨n, by omega, hb, by omega⟩
theorem cntB_lt {f : Nat → Bool} {i p : Nat} (h : f i = true) (hip : i < p) : cntB f i < cntB f p := by
  have h1 : cntB f (i + 1) = cntB f i + 1 := by show cntB f i + (f i).toNat = _; rw [h]; rfl
  have h2 := cntB_mono f (show i + 1 ≤ p by omega)
  omega
theorem nth_unique {f : Nat → Bool} {i p : Nat} (hi : f i = true) (hp : f p = true) (h : cntB f i = cntB f p) : i = p := by
  rcases Nat.lt_trichotomy i p with a | a | a
  · have := cntB_lt hi a; omega
  · exact a
  · have := cntB_lt hp a; omega
/-- p is the lowest one of x -/
def Low (x p : Nat) : Prop := x.testBit p = true ∧ ∀ i, i < p → x.testBit i = false
theorem low_form {x p : Nat} (h : Low x p) : x = 2 ^ (p + 1) * (x / 2 ^ (p + 1)) + 2 ^ p := by
  have h1 : x % 2 ^ (p + 1) = 2 ^ p := by
    apply Nat.eq_of_testBit_eq
    intro i
    rw [Nat.testBit_mod_two_pow, Nat.testBit_two_pow]
    rcases Nat.lt_trichotomy i p with a | a | a
    · rw [h.2 i a]; simp; omega
    · subst a; rw [h.1]; simp
    · have e1 : ¬ i < p + 1 := by omega
      have e2 : ¬ p = i := by omega
      simp [e1, e2]
  have h2 := Nat.div_add_mod x (2 ^ (p + 1))
  rw [h1] at h2
  exact h2.symm
theorem low_pred {x p : Nat} (h : Low x p) (i : Nat) : (x - 1).testBit i = if i < p then true else if i = p then false else x.testBit i := by
  have hf := low_form h
  have hp : 0 < 2 ^ p := Nat.pow_pos (by decide)
  have e : x - 1 = 2 ^ (p + 1) * (x / 2 ^ (p + 1)) + (2 ^ p - 1) := by omega
  have hlt : 2 ^ p - 1 < 2 ^ (p + 1) := by rw [Nat.pow_succ]; omega
  have hlt2 : 2 ^ p < 2 ^ (p + 1) := by rw [Nat.pow_succ]; omega
  rw [e, Nat.testBit_two_pow_mul_add _ hlt]
  by_cases h1 : i < p + 1
  · rw [if_pos h1, Nat.testBit_two_pow_sub_one]
    by_cases h2 : i < p
    · rw [if_pos h2]; simp [h2]
    · rw [if_neg h2, if_pos (by omega)]; simp [h2]
  · rw [if_neg h1, if_neg (by omega), if_neg (by omega)]
    conv => rhs; rw [hf]
    rw [Nat.testBit_two_pow_mul_add _ hlt2, if_neg h1]
theorem low_clear {x p : Nat} (h : Low x p) (i : Nat) : (x &&& (x - 1)).testBit i = (x.testBit i && !decide (i = p)) := by
  rw [Nat.testBit_and, low_pred h]
  rcases Nat.lt_trichotomy i p with a | a | a
  · rw [if_pos a, h.2 i a]; simp
  · subst a; rw [if_neg (Nat.lt_irrefl _), if_pos rfl]; simp
  · rw [if_neg (by omega), if_neg (by omega)]
    have e : ¬ i = p := by omega
    simp [e]
theorem low_pos {x p : Nat} (h : Low x p) : 0 < x := by
  rcases Nat.eq_zero_or_pos x with e | e
  · have := h.1; rw [e] at this; simp at this
  · exact e
theorem low_alone {x p : Nat} (h : Low x p) (hx : x < 2 ^ 64) : x &&& (2 ^ 64 - x) = 2 ^ p := by
  have h0 := low_pos h
  have hp : p < 64 := by
    rcases Nat.lt_or_ge p 64 with a | a
    · exact a
    · have := h.1
      rw [Nat.testBit_lt_two_pow (Nat.lt_of_lt_of_le hx (Nat.pow_le_pow_right (by decide) a))] at this
      cases this
  apply Nat.eq_of_testBit_eq
  intro i
  rw [Nat.testBit_and, show 2 ^ 64 - x = 2 ^ 64 - ((x - 1) + 1) by omega, Nat.testBit_two_pow_sub_succ (by omega), low_pred h, Nat.testBit_two_pow]
  rcases Nat.lt_trichotomy i p with a | a | a
  · rw [h.2 i a]
    have e : ¬ p = i := by omega
    simp [e]
  · subst a
    rw [h.1, if_neg (Nat.lt_irrefl _), if_pos rfl]
    simp [hp]
  · rw [if_neg (by omega), if_neg (by omega)]
    have e : ¬ p = i := by omega
    cases x.testBit i <;> simp [e]
/-- a word whose first j ones are struck -/
structure Struck (x y j : Nat) : Prop where
  lt : y < 2 ^ 64
  bit : ∀ i, i < 64 → y.testBit i = (x.testBit i && decide (j ≤ cntB x.testBit i))
theorem Struck.zero {x : Nat} (h : x < 2 ^ 64) : Struck x x 0 := ⟨h, fun i _ => by simp⟩
theorem Struck.low {x y j p : Nat} (h : Struck x y j) (hp : p < 64) (h1 : x.testBit p = true) (h2 : cntB x.testBit p = j) : Low y p := by
  refine ⟨by rw [h.bit p hp, h1, h2]; simp, fun i hi => ?_⟩
  rw [h.bit i (by omega)]
  cases hx : x.testBit i with
  | false => rfl
  | true =>
    have := cntB_lt (f := x.testBit) hx hi
    simp
    omega
theorem Struck.next {x y j p : Nat} (h : Struck x y j) (hp : p < 64) (h1 : x.testBit p = true) (h2 : cntB x.testBit p = j) : Struck x (y &&& (y - 1)) (j + 1) := by
  refine ⟨Nat.lt_of_le_of_lt Nat.and_le_left h.lt, fun i hi => ?_⟩
  rw [low_clear (h.low hp h1 h2), h.bit i hi]
  cases hx : x.testBit i with
  | false => rfl
  | true =>
    simp only [Bool.true_and]
    by_cases e : i = p
    · subst e; rw [h2]; simp
    · have hne : cntB x.testBit i ≠ j := fun hh => e (nth_unique (f := x.testBit) hx h1 (by rw [hh, h2]))
      by_cases hj : j ≤ cntB x.testBit i
      · have : j + 1 ≤ cntB x.testBit i := by omega
        simp [e, hj, this]
      · have : ¬ j + 1 ≤ cntB x.testBit i := by omega
        simp [hj, this]
def tz : List Nat := [0, 1, 56, 2, 57, 49, 28, 3, 61, 58, 42, 50, 38, 29, 17, 4, 62, 47, 59, 36, 45, 43, 51, 22, 53, 39, 33, 30, 24, 18, 12, 5, 63, 55, 48, 27, 60, 41, 37, 16, 46, 35, 44, 21, 52, 32, 23, 11, 54, 26, 40, 15, 34, 20, 31, 10, 25, 14, 19, 9, 13, 8, 7, 6]
def tzI (p : Nat) : Nat := 2 ^ p * 285870213051353865 % 2 ^ 64 / 2 ^ 58
theorem tz_all : allB (fun p => decide (tzI p < 64) && (tz.getD (tzI p) 99 == p)) 64 = true := by decide +kernel
theorem tz_get (q p : Nat) (h1 : q < 64) (h2 : tz.getD q 99 = p) : ∃ (hh : q < tz.length), tz[q] = p := by
  have hl : q < tz.length := h1
  refine ⟨hl, ?_⟩
  rw [List.getD_eq_getElem?_getD, List.getElem?_eq_getElem hl] at h2
  exact h2
theorem tz_at (p : Nat) (h : p < 64) : ∃ (hh : tzI p < tz.length), tz[tzI p] = p := by
  have h1 : (decide (tzI p < 64) && (tz.getD (tzI p) 99 == p)) = true := allB_at tz_all p h
  rw [Bool.and_eq_true, decide_eq_true_eq, beq_iff_eq] at h1
  exact tz_get _ _ h1.1 h1.2
/-- the bits sought: the ones, or the noughts -/
def fl (l : List Bool) (z : Bool) (i : Nat) : Bool := bt l i != z
def flN (z : Bool) : Nat := if z then 18446744073709551615 else 0
theorem fl_word {ws : List Nat} {l : List Bool} (h : WP ws l l.length) (z : Bool) {j i : Nat} (hj : j < ws.length) (hi : i < 64) : (ws[j] ^^^ flN z).testBit i = fl l z (64 * j + i) := by
  rw [Nat.testBit_xor, h.bits hj hi]
  unfold fl flN
  cases z with
  | false => simp
  | true =>
    rw [if_pos rfl, show (18446744073709551615 : Nat) = 2 ^ 64 - 1 from rfl, Nat.testBit_two_pow_sub_one]
    simp [hi]
theorem fl_cnt {ws : List Nat} {l : List Bool} (h : WP ws l l.length) (z : Bool) {j r : Nat} (hj : j < ws.length) (hr : r ≤ 64) : cntB (fl l z) (64 * j + r) = cntB (fl l z) (64 * j) + pop (ws[j] ^^^ flN z) r := by
  unfold pop
  rw [cntB_add]
  congr 1
  exact cntB_congr fun i hi => (fl_word h z hj (by omega)).symm
theorem fl_true (l : List Bool) (i : Nat) : cntB (fl l true) i = i - rk l i := by
  have key : ∀ n, cntB (fl l true) n + rk l n = n := by
    intro n
    induction n with
    | zero => rfl
    | succ n ih =>
      have e1 : cntB (fl l true) (n + 1) = cntB (fl l true) n + (fl l true n).toNat := rfl
      have e2 := rk_succ l n
      have e3 : (fl l true n).toNat + (bt l n).toNat = 1 := by unfold fl; cases bt l n <;> rfl
      omega
  have := key i
  omega
theorem fl_false (l : List Bool) (i : Nat) : cntB (fl l false) i = rk l i := cntB_congr fun k _ => by unfold fl; cases bt l k <;> rfl

end Go.Proofs.YtepdgbglaiimaaaDoor

namespace Go.Proofs.YtepdgbglaiimaaaDoor
open Go.RowKit

theorem BitsSelect_a142 : arrQ Tryd.prog 142 = some (64, 1) := by kernel_rfl
theorem BitsSelect_g5 : aggQ Tryd.prog 5 = some false := by kernel_rfl
theorem BitsSelect_s5 : (Tryd.prog.underlying 5).isSome = true := by kernel_rfl
theorem BitsSelect_i3 : Tryd.prog.underlying 3 = some (.int .i64) := by kernel_rfl
theorem BitsSelect_k96 : callable Tryd.prog 96 = true := by kernel_rfl
theorem BitsSelect_s3 : (Tryd.prog.underlying 3).isSome = true := by kernel_rfl
theorem BitsSelect_i81 : Tryd.prog.underlying 81 = some (.int .u64) := by kernel_rfl
theorem BitsSelect_s81 : (Tryd.prog.underlying 81).isSome = true := by kernel_rfl
theorem BitsSelect_e36 : elemQ Tryd.prog 36 = some (21, 1) := by kernel_rfl
theorem BitsSelect_g57 : aggQ Tryd.prog 57 = some false := by kernel_rfl
theorem BitsSelect_f77_1 : fieldQ Tryd.prog 77 1 = some 2 := by kernel_rfl
theorem BitsSelect_g36 : aggQ Tryd.prog 36 = some false := by kernel_rfl
theorem BitsSelect_g21 : aggQ Tryd.prog 21 = some false := by kernel_rfl
theorem BitsSelect_s21 : (Tryd.prog.underlying 21).isSome = true := by kernel_rfl
theorem BitsSelect_g64 : aggQ Tryd.prog 64 = some false := by kernel_rfl
theorem BitsSelect_g3 : aggQ Tryd.prog 3 = some false := by kernel_rfl
/-- the table of trailing noughts lies as it was laid -/
def TZ (w : World) : Prop := ∀ i (h : i < tz.length), w.cell? ⟨0, i, none⟩ = some (.int .u8 (tz[i] : Nat))
theorem TZ.from_ {w w' : World} (h : TZ w) (hF : From w w') : TZ w' := fun i hi => cellF hF (h i hi)
theorem tz_len : tz.length = 64 := rfl
set_option maxHeartbeats 400000 in
theorem tz_rt (x p : Nat) (w : World) (hx : x < 2 ^ 64) (hp : p < 64) (hl : Low x p) (hT : TZ w) :
    Rt Tryd.prog 96 [.int .u64 (x : Nat)] w (fun v w' => v = .int .i64 (p : Nat) ∧ w = w') := by
  have h0 := low_pos hl
  obtain ⟨hh, ht⟩ := tz_at p hp
  have hl64 := tz_len
  refine enter (n := 14) Tryd.func96 rfl rfl rfl ?_
  refine cd_seq (cd_region ?_)
  refine asi rfl ?_
  refine st_nil (nx_then (cd_seq (cd_seq (cd_region ?_))))
  refine mvi rfl ?_
  refine st_val (ro_eql rfl rfl) ?_
  refine st_nil (nx_then ?_)
  refine cd_cond rfl (fun Q1 => ?_) (fun Q1 => ?_)
  · replace Q1 := be_t Q1
    exfalso; omega
  replace Q1 := be_f Q1
  refine cd_skip (nx_then (cd_seq (cd_region ?_)))
  refine mvi rfl ?_
  refine mvi rfl ?_
  refine st_val (ro_eq (v' := .int .u64 ((2 ^ 64 - x : Nat) : Int)) (ro_neg rfl) (by refine int_eq ?_; rw [IntKind.wrap_u64]; omega)) ?_
  refine st_val (ro_andN rfl rfl (by exact ⟨hx, by omega⟩)) ?_
  refine st_spell (t := 8) (v := .int _ _) (v' := .int .u64 ((2 ^ p : Nat) : Int)) rfl (by rw [low_alone hl hx]) ?_
  refine st_val (ro_mulU (b := 285870213051353865) rfl rfl) ?_
  refine st_val (ro_shrN (b := 58) rfl rfl (by decide)) ?_
  refine st_spell (t := 10) (v := .int _ _) (v' := .int .u64 ((tzI p : Nat) : Int)) rfl (by rfl) ?_
  refine st_val (ro_eq (v' := .pointer (some ⟨0, tzI p, none⟩)) (ro_indexAddrA BitsSelect_a142 rfl rfl (by omega)) (by rw [Int.toNat_natCast, Nat.zero_add, Nat.mul_one])) ?_
  refine st_val (ro_load BitsSelect_g5 rfl (by exact hT (tzI p) hh)) ?_
  refine st_val (ro_convI BitsSelect_s5 BitsSelect_i3 rfl (by rw [ht]; omega)) ?_
  refine st_spell (t := 13) (v := .int _ _) (v' := .int .i64 (p : Nat)) rfl (by rw [ht]) ?_
  refine asi rfl ?_
  refine st_nil (nx_then (cd_ret ?_))
  refine res1 (v := .int _ _) rfl rfl ?_
  exact ⟨rfl, rfl⟩
set_option maxHeartbeats 400000 in
theorem nth_rt (x k : Nat) (w : World) (hx : x < 2 ^ 64) (hk : k < pop x 64) (hT : TZ w) :
    Rt Tryd.prog 84 [.int .u64 (x : Nat), .int .i64 (k : Nat)] w (fun v w' => ∃ p, p < 64 ∧ x.testBit p = true ∧ cntB x.testBit p = k ∧ v = .int .i64 (p : Nat) ∧ w = w') := by
  have hk64 := pop_le x 64
  refine enter (n := 15) Tryd.func84 rfl rfl rfl ?_
  refine cd_seq (cd_region ?_)
  refine asi rfl ?_
  refine st_nil (nx_then (cd_seq (cd_seq (cd_region ?_))))
  refine mvi rfl ?_
  refine mvi rfl ?_
  refine st_nil (nx_then (cd_block ?_))
  refine cd_loop (G := Nat × Nat) [7, 8, 9, 10, 11, 12] (fun (y, j) => [(0, .int .u64 (y : Nat)), (6, .int .i64 (j : Nat))]) (fun (y, j) w' => j ≤ k ∧ Struck x y j ∧ w = w') (fun (_, j) => k - j) ((x, 0)) ⟨rfl, rfl, trivial⟩ ?_ ?_
  · exact ⟨Nat.zero_le _, Struck.zero hx, rfl⟩
  rintro ⟨y, j⟩ ρ1 w1 ⟨hj, hS, rfl⟩
  refine cd_seq (cd_region ?_)
  refine st_val (ro_lss rfl rfl) ?_
  refine st_nil (nx_then (cd_seq ?_))
  refine cd_cond rfl (fun Q2 => ?_) (fun Q2 => ?_)
  · replace Q2 := of_decide_eq_true Q2
    obtain ⟨pj, h1, h2, h3⟩ := exists_nth x.testBit j 64 (show j < pop x 64 by omega)
    have hy0 := low_pos (hS.low h1 h2 h3)
    refine cd_skip (nx_then (cd_seq (cd_block (cd_region ?_))))
    refine mvi rfl ?_
    refine mvi rfl ?_
    refine st_val (ro_subU (b := 1) rfl rfl ⟨hy0, hS.lt⟩) ?_
    refine st_val (ro_andN rfl rfl (by exact ⟨hS.lt, Nat.lt_of_le_of_lt (Nat.sub_le _ _) hS.lt⟩)) ?_
    refine asi rfl ?_
    refine st_nil (nx_block (nx_then (cd_region ?_)))
    refine st_val (ro_addN (b := 1) rfl rfl (by omega)) ?_
    refine mvi rfl ?_
    refine st_nil ?_
    refine nx_cut ((y &&& (y - 1), j + 1)) ⟨(by first | rfl | (refine int_eq ?_; omega)), (by first | rfl | (refine int_eq ?_; omega)), trivial⟩ (by (iterate 16 refine agr_cons rfl ?_); exact agr_rfl) ⟨?_, ?_⟩
    · exact ⟨by omega, hS.next h1 h2 h3, rfl⟩
    · show k - (j + 1) < k - j; omega
  replace Q2 := of_decide_eq_false Q2
  obtain rfl : j = k := by omega
  obtain ⟨pj, h1, h2, h3⟩ := exists_nth x.testBit j 64 hk
  refine cd_exit ?_
  refine ex_then (ex_then (ex_block (nx_then (cd_seq (cd_region ?_)))))
  refine mvi rfl ?_
  refine st_call BitsSelect_k96 (tz_rt y pj _ hS.lt h1 (hS.low h1 h2 h3) hT) ?_
  rintro v14 w3 ⟨rfl, rfl⟩
  refine asi rfl ?_
  refine st_nil (nx_then (cd_ret ?_))
  refine res1 (v := .int _ _) rfl rfl ?_
  exact ⟨pj, h1, h2, h3, rfl, rfl⟩
set_option maxHeartbeats 400000 in
theorem search_rt (n : Nat) (g : FuncId) (caps : List Value) (p : Nat → Bool) (w : World) (hn : n ≤ 1000000000000) (hcal : callable Tryd.prog g = true) (hp : ∀ w' h, From w w' → h < n → Rt Tryd.prog g ([.int .i64 (h : Nat)] ++ caps) w' fun v w'' => v = .bool (p h) ∧ From w' w'') (hm : ∀ i j, i ≤ j → p i = true → p j = true) :
    Rt Tryd.prog 82 [.int .i64 (n : Nat), .func (.func g) #[] caps.toArray] w (fun v w' => ∃ r : Nat, v = .int .i64 (r : Nat) ∧ r ≤ n ∧ (∀ x, x < r → p x = false) ∧ (∀ x, r ≤ x → x < n → p x = true) ∧ From w w') := by
  refine enter (n := 26) Tryd.func82 rfl rfl rfl ?_
  refine cd_seq (cd_region ?_)
  refine asi rfl ?_
  refine st_nil (nx_then (cd_seq (cd_region ?_)))
  refine mvi rfl ?_
  refine asi rfl ?_
  refine asi rfl ?_
  refine st_nil (nx_then (cd_seq (cd_block ?_)))
  refine cd_loop (G := Nat × Nat) [7, 9, 10, 11, 12, 13, 14, 15, 16, 17, 18, 19, 20, 21, 22, 23, 24] (fun (i, j) => [(5, .int .i64 (i : Nat)), (6, .int .i64 (j : Nat))]) (fun (i, j) w' => i ≤ j ∧ j ≤ n ∧ (∀ x, x < i → p x = false) ∧ (∀ x, j ≤ x → x < n → p x = true) ∧ From w w') (fun (i, j) => j - i) ((0, n)) ⟨rfl, rfl, trivial⟩ ?_ ?_
  · exact ⟨Nat.zero_le _, Nat.le_refl _, fun x h => absurd h (by omega), fun x h1 h2 => absurd h1 (by omega), From.rfl_⟩
  rintro ⟨i, j⟩ ρ1 w1 ⟨hij, hjn, hlo, hhi, hB⟩
  refine cd_seq (cd_seq (cd_region ?_))
  refine mvi rfl ?_
  refine mvi rfl ?_
  refine st_val (ro_lss rfl rfl) ?_
  refine st_nil (nx_then ?_)
  refine cd_cond rfl (fun Q2 => ?_) (fun Q2 => ?_)
  · replace Q2 := of_decide_eq_true Q2
    refine cd_skip (nx_then (cd_block (cd_seq (cd_region ?_))))
    refine mvi rfl ?_
    refine mvi rfl ?_
    refine st_val (ro_addN rfl rfl (by omega)) ?_
    obtain ⟨h, hh⟩ : ∃ h, h = (i + j) / 2 ^ 1 := ⟨_, rfl⟩
    refine st_val (ro_conv64 BitsSelect_s3 BitsSelect_i81 rfl (by omega)) ?_
    refine st_val (ro_shrN (b := 1) rfl rfl (by decide)) ?_
    refine st_val (ro_convI BitsSelect_s81 BitsSelect_i3 rfl (by omega)) ?_
    refine st_spell (t := 17) (v := .int _ _) (v' := .int .i64 (h : Nat)) rfl (by rw [hh]) ?_
    refine asi rfl ?_
    refine st_nil (nx_then (cd_seq (cd_region ?_)))
    refine st_val (ro_move (v := .func _ _ _) rfl) ?_
    refine mvi rfl ?_
    refine st_callF (caps := caps) rfl hcal (hp _ h hB (by omega)) ?_
    rintro v20 w3 ⟨rfl, E20⟩
    refine st_val (ro_not rfl) ?_
    refine st_nil (nx_then ?_)
    refine cd_cond rfl (fun Q4 => ?_) (fun Q4 => ?_)
    · replace Q4 := bn_t Q4
      refine cd_region ?_
      refine mvi rfl ?_
      refine st_val (ro_addN (b := 1) rfl rfl (by omega)) ?_
      refine asi rfl ?_
      refine st_nil (nx_block ?_)
      refine nx_cut ((h + 1, j)) ⟨(by first | rfl | (refine int_eq ?_; omega)), (by first | rfl | (refine int_eq ?_; omega)), trivial⟩ (by (iterate 37 refine agr_cons rfl ?_); exact agr_rfl) ⟨?_, ?_⟩
      · refine ⟨by omega, hjn, fun x hx => ?_, hhi, (hB.next E20)⟩
        rcases Nat.lt_or_ge x i with a | a
        · exact hlo x a
        · cases hb : p x with
          | false => rfl
          | true =>
            have := hm x h (by omega) hb
            simp_all
      · show j - (h + 1) < j - i; omega
    replace Q4 := bn_f Q4
    refine cd_region ?_
    refine mvi rfl ?_
    refine asi rfl ?_
    refine st_nil (nx_block ?_)
    refine nx_cut ((i, h)) ⟨(by first | rfl | (refine int_eq ?_; omega)), (by first | rfl | (refine int_eq ?_; omega)), trivial⟩ (by (iterate 36 refine agr_cons rfl ?_); exact agr_rfl) ⟨?_, ?_⟩
    · refine ⟨by omega, by omega, hlo, fun x h1 h2 => hm h x h1 ?_, (hB.next E20)⟩
      assumption
    · show h - i < j - i; omega
  replace Q2 := of_decide_eq_false Q2
  refine cd_exit ?_
  refine ex_then (ex_then (ex_block (nx_then (cd_seq (cd_region ?_)))))
  refine mvi rfl ?_
  refine asi rfl ?_
  refine st_nil (nx_then (cd_ret ?_))
  refine res1 (v := .int _ _) rfl rfl ?_
  obtain rfl : i = j := by omega
  exact ⟨i, rfl, hjn, hlo, hhi, hB⟩
set_option maxHeartbeats 400000 in
theorem ahead_rt (base b q j : Nat) (l : List Bool) (w : World) (hv : Vec w base b l) (hq : w.cell? ⟨q, 0, none⟩ = some (.pointer (some ⟨b, 0, none⟩))) (hj : j < ((l.length + 63) / 64 + 7) / 8) :
    Rt Tryd.prog 59 [.int .i64 (j : Nat), .pointer (some ⟨q, 0, none⟩)] w (fun v w' => v = .int .i64 (cntB (fl l false) (512 * j) : Nat) ∧ w = w') := by
  obtain ⟨gw, Aa, ca, ws, rs, hb0, hg0, hV, hgw, ho, hW, hrl, hrs, hl⟩ := hv
  have hlen := hW.len
  obtain ⟨ga, rfl⟩ := own_some ho (by omega)
  refine enter (n := 12) Tryd.func59 rfl rfl rfl ?_
  refine cd_seq (cd_region ?_)
  refine asi rfl ?_
  refine st_nil (nx_then (cd_seq (cd_region ?_)))
  refine st_val (ro_load BitsSelect_g57 rfl (by exact hq)) ?_
  refine st_val (ro_nilCheck rfl) ?_
  refine st_val (ro_fieldAddr BitsSelect_f77_1 rfl) ?_
  refine st_val (ro_load BitsSelect_g36 rfl (by exact hV.rd 2 rfl)) ?_
  refine mvi rfl ?_
  refine st_val (ro_indexAddr0 BitsSelect_e36 rfl rfl (by omega)) ?_
  refine st_val (ro_load BitsSelect_g21 rfl (by exact own_cell ho j (by omega))) ?_
  refine st_val (ro_convI BitsSelect_s21 BitsSelect_i3 rfl (by rw [hrs]; have := rk_le l (512 * j); omega)) ?_
  refine st_spell (t := 11) (v := .int _ _) (v' := .int .i64 ((cntB (fl l false) (512 * j) : Nat) : Int)) rfl (by rw [hrs, fl_false]) ?_
  refine asi rfl ?_
  refine st_nil (nx_then (cd_ret ?_))
  refine res1 (v := .int _ _) rfl rfl ?_
  exact ⟨rfl, rfl⟩
set_option maxHeartbeats 400000 in
theorem ahead0_rt (base b q j : Nat) (l : List Bool) (w : World) (hv : Vec w base b l) (hq : w.cell? ⟨q, 0, none⟩ = some (.pointer (some ⟨b, 0, none⟩))) (hj : j < ((l.length + 63) / 64 + 7) / 8) :
    Rt Tryd.prog 60 [.int .i64 (j : Nat), .pointer (some ⟨q, 0, none⟩)] w (fun v w' => v = .int .i64 (cntB (fl l true) (512 * j) : Nat) ∧ w = w') := by
  obtain ⟨gw, Aa, ca, ws, rs, hb0, hg0, hV, hgw, ho, hW, hrl, hrs, hl⟩ := hv
  have hlen := hW.len
  obtain ⟨ga, rfl⟩ := own_some ho (by omega)
  have hrk := rk_le l (512 * j)
  refine enter (n := 15) Tryd.func60 rfl rfl rfl ?_
  refine cd_seq (cd_region ?_)
  refine asi rfl ?_
  refine st_nil (nx_then (cd_seq (cd_region ?_)))
  refine mvi rfl ?_
  refine st_val (ro_mulN (b := 512) rfl rfl (by omega)) ?_
  refine st_val (ro_load BitsSelect_g57 rfl (by exact hq)) ?_
  refine st_val (ro_nilCheck rfl) ?_
  refine st_val (ro_fieldAddr BitsSelect_f77_1 rfl) ?_
  refine st_val (ro_load BitsSelect_g36 rfl (by exact hV.rd 2 rfl)) ?_
  refine mvi rfl ?_
  refine st_val (ro_indexAddr0 BitsSelect_e36 rfl rfl (by omega)) ?_
  refine st_val (ro_load BitsSelect_g21 rfl (by exact own_cell ho j (by omega))) ?_
  refine st_val (ro_convI BitsSelect_s21 BitsSelect_i3 rfl (by rw [hrs]; omega)) ?_
  refine st_spell (t := 13) (v := .int _ _) (v' := .int .i64 ((rk l (512 * j) : Nat) : Int)) rfl (by rw [hrs]) ?_
  refine st_val (ro_subN rfl rfl (by omega)) ?_
  refine st_spell (t := 14) (v := .int _ _) (v' := .int .i64 ((cntB (fl l true) (512 * j) : Nat) : Int)) rfl (by rw [fl_true, Nat.mul_comm j 512]) ?_
  refine asi rfl ?_
  refine st_nil (nx_then (cd_ret ?_))
  refine res1 (v := .int _ _) rfl rfl ?_
  exact ⟨rfl, rfl⟩
set_option maxHeartbeats 400000 in
theorem find1_rt (g : FuncId) (caps : List Value) (ah : Nat → Nat) (nb p7 p5 k j : Nat) (w : World) (h7 : w.cell? ⟨p7, 0, none⟩ = some (.func (.func g) #[] caps.toArray)) (h5 : w.cell? ⟨p5, 0, none⟩ = some (.int .i64 (k : Nat))) (hcal : callable Tryd.prog g = true) (hah : ∀ w' j, From w w' → j < nb → Rt Tryd.prog g ([.int .i64 (j : Nat)] ++ caps) w' fun v w'' => v = .int .i64 (ah j : Nat) ∧ From w' w'') (hj : j < nb) :
    Rt Tryd.prog 83 [.int .i64 (j : Nat), .pointer (some ⟨p7, 0, none⟩), .pointer (some ⟨p5, 0, none⟩)] w (fun v w' => v = .bool (decide (k < ah j)) ∧ From w w') := by
  refine enter (n := 10) Tryd.func83 rfl rfl rfl ?_
  refine cd_seq (cd_region ?_)
  refine asb rfl ?_
  refine st_nil (nx_then (cd_seq ?_))
  apply cd_drawn 6 [(5, eqp _), (6, eqp _), (7, eqp _), (8, eqp _), (9, eqp _), (4, eqp _)] (by kernel_rfl) (by kernel_rfl) ⟨eqp_mono _, eqp_mono _, eqp_mono _, eqp_mono _, eqp_mono _, eqp_mono _, trivial⟩
  case hop =>
   refine ⟨?_, ?_⟩
   · intro w2 D2
     show OpOK _ _ _ _ _ _ _
     exact ok_pure (ro_load BitsSelect_g64 rfl (by exact cellF (From.rfl_.next D2) h7)) rfl
   refine ⟨?_, ?_⟩
   · intro w3 D3
     show OpOK _ _ _ _ _ _ _
     exact ok_pure (ro_move (v := .int _ _) rfl) rfl
   refine ⟨?_, ?_⟩
   · intro w4 D4
     rintro _ rfl _ rfl
     show OpOK _ _ _ _ _ _ _
     exact ok_callF (caps := caps) rfl hcal ((hah _ j (From.rfl_.next D4) hj).mono fun v w2 h => ⟨h.2, h.1⟩)
   refine ⟨?_, ?_⟩
   · intro w5 D5
     show OpOK _ _ _ _ _ _ _
     exact ok_pure (ro_load BitsSelect_g3 rfl (by exact cellF (From.rfl_.next D5) h5)) rfl
   refine ⟨?_, ?_⟩
   · intro w6 D6
     rintro _ rfl _ rfl
     show OpOK _ _ _ _ _ _ _
     exact ok_pure (ro_gtr rfl rfl) rfl
   refine ⟨?_, ?_⟩
   · intro w7 D7
     rintro _ rfl
     show OpOK _ _ _ _ _ _ _
     exact ok_pure (ro_assign (v := .bool _) rfl) rfl
   exact trivial
  case hend =>
   intro w8 D8
   rintro _ rfl _ rfl _ rfl _ rfl _ rfl _ rfl
   show St _ _ _ _ _ _ _
   refine st_nil (nx_then (cd_ret ?_))
   refine res1 (v := .bool _) rfl rfl ?_
   exact ⟨congrArg Value.bool (decide_eq_decide.2 (by omega)), (From.rfl_.next D8)⟩
end Go.Proofs.YtepdgbglaiimaaaDoor

namespace Go.Proofs.YtepdgbglaiimaaaDoor
open Go.RowKit

theorem BitsFind_k83 : callable Tryd.prog 83 = true := by kernel_rfl
theorem BitsFind_f77_1 : fieldQ Tryd.prog 77 1 = some 2 := by kernel_rfl
theorem BitsFind_g36 : aggQ Tryd.prog 36 = some false := by kernel_rfl
theorem BitsFind_l36 : (elemQ Tryd.prog 36).isSome = true := by kernel_rfl
theorem BitsFind_k82 : callable Tryd.prog 82 = true := by kernel_rfl
theorem BitsFind_g3 : aggQ Tryd.prog 3 = some false := by kernel_rfl
theorem BitsFind_g64 : aggQ Tryd.prog 64 = some false := by kernel_rfl
theorem BitsFind_z3 : sizeQ Tryd.prog 3 = some 1 := by kernel_rfl
theorem BitsFind_f77_0 : fieldQ Tryd.prog 77 0 = some 0 := by kernel_rfl
theorem BitsFind_f75_0 : fieldQ Tryd.prog 75 0 = some 0 := by kernel_rfl
theorem BitsFind_g73 : aggQ Tryd.prog 73 = some false := by kernel_rfl
theorem BitsFind_e73 : elemQ Tryd.prog 73 = some (99, 1) := by kernel_rfl
theorem BitsFind_g99 : aggQ Tryd.prog 99 = some false := by kernel_rfl
theorem BitsFind_k81 : callable Tryd.prog 81 = true := by kernel_rfl
theorem BitsFind_k84 : callable Tryd.prog 84 = true := by kernel_rfl
theorem BitsFind_k59 : callable Tryd.prog 59 = true := by kernel_rfl
theorem BitsFind_g57 : aggQ Tryd.prog 57 = some false := by kernel_rfl
theorem BitsFind_f77_2 : fieldQ Tryd.prog 77 2 = some 3 := by kernel_rfl
theorem BitsFind_k58 : callable Tryd.prog 58 = true := by kernel_rfl
theorem BitsFind_k60 : callable Tryd.prog 60 = true := by kernel_rfl
theorem BitsFind_f75_1 : fieldQ Tryd.prog 75 1 = some 1 := by kernel_rfl
theorem nth_is (x k p : Nat) (w : World) (hx : x < 2 ^ 64) (hT : TZ w) (h1 : p < 64) (h2 : x.testBit p = true) (h3 : cntB x.testBit p = k) : Rt Tryd.prog 84 [.int .u64 (x : Nat), .int .i64 (k : Nat)] w fun v w' => v = .int .i64 (p : Nat) ∧ w = w' := by
  have hk : k < pop x 64 := by rw [← h3]; exact cntB_lt h2 h1
  refine Rt.mono (nth_rt x k w hx hk hT) fun v w' ⟨q, q1, q2, q3, hv, hw⟩ => ⟨?_, hw⟩
  rw [hv, nth_unique (f := x.testBit) q2 h2 (by rw [q3, h3])]
theorem flN_lt (z : Bool) : flN z < 2 ^ 64 := by cases z <;> decide
set_option maxHeartbeats 1000000 in
theorem find_rt (base b k F : Nat) (z : Bool) (l : List Bool) (g : FuncId) (caps : List Value) (w : World) (hv : Vec w base b l) (hF : F = flN z) (hcal : callable Tryd.prog g = true) (hah : ∀ w' j, From w w' → j < ((l.length + 63) / 64 + 7) / 8 → Rt Tryd.prog g ([.int .i64 (j : Nat)] ++ caps) w' fun v w'' => v = .int .i64 (cntB (fl l z) (512 * j) : Nat) ∧ From w' w'') (hk : k < cntB (fl l z) l.length) (hT : TZ w) :
    Rt Tryd.prog 58 [.pointer (some ⟨b, 0, none⟩), .int .i64 (k : Nat), .int .u64 (F : Nat), .func (.func g) #[] caps.toArray] w (fun v w' => ∃ p, p < l.length ∧ fl l z p = true ∧ cntB (fl l z) p = k ∧ v = .int .i64 (p : Nat) ∧ From w w') := by
  obtain ⟨gw, Aa, ca, ws, rs, hb0, hg0, hV, hgw, ho, hW, hrl, hrs, hl⟩ := hv
  have hlen := hW.len
  subst hF
  have hkl := cntB_le (fl l z) l.length
  have hz64 := flN_lt z
  refine enter (n := 61) Tryd.func58 rfl rfl rfl ?_
  refine cd_seq (cd_region ?_)
  refine st_box (v := .int _ _) rfl ?_
  intro b5 w1 E5 hb5 hk5
  have hg5 : w.heap.size ≤ b5 := by rw [hb5]; exact Nat.le_refl _
  have hl5 := hk5.lt
  refine st_box (v := .func _ _ _) rfl ?_
  intro b7 w2 E7 hb7 hk7
  replace hk5 := hk5.from_ E7
  refine asi rfl ?_
  refine st_nil (nx_then (cd_seq (cd_region ?_)))
  refine mvp rfl ?_
  refine st_val (ro_nilCheck rfl) ?_
  refine st_val (ro_fieldAddr BitsFind_f77_1 rfl) ?_
  refine st_val (ro_load BitsFind_g36 rfl (by exact (hV.from_ ((From.rfl_.next E5).next E7)).rd 2 rfl)) ?_
  refine st_val (ro_len BitsFind_l36 rfl) ?_
  refine st_val (ro_makeFunc (l1 := []) (l2 := [.tmp 7, .tmp 5])) ?_
  refine st_call BitsFind_k82 (search_rt rs.length 83 [.pointer (some ⟨b7, 0, none⟩), .pointer (some ⟨b5, 0, none⟩)] (fun j => decide (k < cntB (fl l z) (512 * j))) _ (by omega) BitsFind_k83 (fun w2 h hF2 hh => find1_rt g caps (fun j => cntB (fl l z) (512 * j)) rs.length b7 b5 k h w2 (cellF hF2 (hk7.rd 0 rfl)) (cellF hF2 (hk5.rd 0 rfl)) hcal (fun w3 j hF3 hj => hah w3 j ((((From.rfl_.next E5).next E7).next hF2).next hF3) (by omega)) hh) (fun i j hij hi => decide_eq_true (Nat.lt_of_lt_of_le (of_decide_eq_true hi) (cntB_mono _ (by omega))))) ?_
  rintro v18 w3 ⟨r, rfl, hrn, hlo, hhi, E18⟩
  have hr1 : 1 ≤ r := by
    rcases Nat.eq_zero_or_pos r with h0 | h0
    · have := hhi 0 (by omega) (by omega)
      simp [cntB] at this
    · exact h0
  have hblk : cntB (fl l z) (512 * (r - 1)) ≤ k := Nat.le_of_not_lt (of_decide_eq_false (hlo (r - 1) (by omega)))
  refine st_val (ro_subN (b := 1) rfl rfl (by omega)) ?_
  refine asi rfl ?_
  refine st_nil (nx_then (cd_seq ?_))
  apply cd_drawn 5 [(20, eqp _), (21, eqp _), (22, eqp _), (23, eqp _), (24, eqp _)] (by kernel_rfl) (by kernel_rfl) ⟨eqp_mono _, eqp_mono _, eqp_mono _, eqp_mono _, eqp_mono _, trivial⟩
  case hop =>
   refine ⟨?_, ?_⟩
   · intro w5 D5
     show OpOK _ _ _ _ _ _ _
     exact ok_pure (ro_load BitsFind_g3 rfl (by exact (hk5.from_ ((From.rfl_.next E18).next D5)).rd 0 rfl)) rfl
   refine ⟨?_, ?_⟩
   · intro w6 D6
     show OpOK _ _ _ _ _ _ _
     exact ok_pure (ro_load BitsFind_g64 rfl (by exact (hk7.from_ ((From.rfl_.next E18).next D6)).rd 0 rfl)) rfl
   refine ⟨?_, ?_⟩
   · intro w7 D7
     show OpOK _ _ _ _ _ _ _
     exact ok_pure (ro_move (v := .int _ _) rfl) rfl
   refine ⟨?_, ?_⟩
   · intro w8 D8
     rintro _ rfl _ rfl
     show OpOK _ _ _ _ _ _ _
     exact ok_callF (caps := caps) rfl hcal ((hah _ (r - 1) ((((From.rfl_.next E5).next E7).next E18).next D8) (by omega)).mono fun v w2 h => ⟨h.2, h.1⟩)
   refine ⟨?_, ?_⟩
   · intro w9 D9
     rintro _ rfl _ rfl
     show OpOK _ _ _ _ _ _ _
     exact ok_pure (ro_subN rfl rfl (by omega)) rfl
   exact trivial
  case hend =>
   intro w10 D10
   rintro _ rfl _ rfl _ rfl _ rfl _ rfl
   show St _ _ _ _ _ _ _
   replace hk5 := hk5.from_ ((From.rfl_.next E18).next D10)
   refine st_put (v := .int _ _) BitsFind_z3 rfl rfl rfl (hk5) (by simp [Value.cells]) ?_
   intro w11 O2 P2
   refine st_nil (nx_then (cd_seq (cd_region ?_)))
   refine mvi rfl ?_
   refine st_val (ro_mulN (b := 8) rfl rfl (by omega)) ?_
   refine asi rfl ?_
   refine st_nil (nx_then (cd_block ?_))
   refine cd_loop (G := Nat) [8, 11, 27, 28, 29, 30, 31, 32, 33, 34, 35, 36, 37, 38, 39, 40, 41, 42, 43, 44, 45, 46, 47, 48, 49, 50, 51, 52, 53, 54, 55, 56, 57, 58, 59, 60] (fun q => [(10, .int .i64 (q : Nat))]) (fun q w' => q < ws.length ∧ cntB (fl l z) (64 * q) ≤ k ∧ Blk w' b5 3 #[.int .i64 ((k - cntB (fl l z) (64 * q) : Nat) : Int)] ∧ From w w') (fun q => ws.length - q) ((r - 1) * 8) ⟨rfl, trivial⟩ ?_ ?_
   · rw [show 64 * ((r - 1) * 8) = 512 * (r - 1) by omega]
     exact ⟨by omega, hblk, by simpa [Value.cells] using P2, (((((From.rfl_.next E5).next E7).next E18).next D10).only O2 (hg5))⟩
   rintro q ρ12 w12 ⟨hq, hc, P5, hB⟩
   have hfc := fl_cnt hW z hq (Nat.le_refl 64)
   have hp64 := pop_le (ws[q] ^^^ flN z) 64
   refine cd_block (cd_seq (cd_region ?_))
   refine mvp rfl ?_
   refine st_val (ro_nilCheck rfl) ?_
   refine st_val (ro_fieldAddr BitsFind_f77_0 rfl) ?_
   refine st_val (ro_fieldAddr BitsFind_f75_0 rfl) ?_
   refine st_val (ro_load BitsFind_g73 rfl (by exact (hV.from_ hB).rd 0 rfl)) ?_
   refine mvi rfl ?_
   refine st_val (ro_indexAddr0 BitsFind_e73 rfl rfl (by omega)) ?_
   refine st_val (ro_load BitsFind_g99 rfl (by exact (hgw.from_ hB).rd _ (arr_at (l := ws) q hq))) ?_
   refine mvi rfl ?_
   refine st_val (ro_xorN rfl rfl (by exact ⟨hW.lt _ (List.getElem_mem _), hz64⟩)) ?_
   refine st_call BitsFind_k81 (onesCount (ws[q] ^^^ flN z) _ (Nat.xor_lt_two_pow (hW.lt _ (List.getElem_mem _)) hz64)) ?_
   rintro v37 w13 ⟨rfl, rfl⟩
   refine asi rfl ?_
   refine st_nil (nx_then (cd_seq (cd_seq (cd_region ?_))))
   refine st_val (ro_load BitsFind_g3 rfl (by exact (P5.from_ From.rfl_).rd 0 rfl)) ?_
   refine mvi rfl ?_
   refine st_val (ro_lss rfl rfl) ?_
   refine st_nil (nx_then ?_)
   refine cd_cond rfl (fun Q14 => ?_) (fun Q14 => ?_)
   · replace Q14 := of_decide_eq_true Q14
     obtain ⟨pj, g1, g2, g3⟩ := exists_nth (ws[q] ^^^ flN z).testBit (k - cntB (fl l z) (64 * q)) 64 (show _ < pop (ws[q] ^^^ flN z) 64 by omega)
     refine cd_seq ?_
     apply cd_drawn 16 [(41, eqp _), (42, eqp _), (43, eqp _), (44, eqp _), (45, eqp _), (46, eqp _), (47, eqp _), (48, eqp _), (49, eqp _), (50, eqp _), (51, eqp _), (52, eqp _), (53, eqp _), (54, eqp _), (55, eqp _), (8, eqp _)] (by kernel_rfl) (by kernel_rfl) ⟨eqp_mono _, eqp_mono _, eqp_mono _, eqp_mono _, eqp_mono _, eqp_mono _, eqp_mono _, eqp_mono _, eqp_mono _, eqp_mono _, eqp_mono _, eqp_mono _, eqp_mono _, eqp_mono _, eqp_mono _, eqp_mono _, trivial⟩
     case hop =>
      refine ⟨?_, ?_⟩
      · intro w16 D16
        show OpOK _ _ _ _ _ _ _
        exact ok_pure (ro_move (v := .int _ _) rfl) rfl
      refine ⟨?_, ?_⟩
      · intro w17 D17
        rintro _ rfl
        show OpOK _ _ _ _ _ _ _
        exact ok_pure (ro_mulN (b := 64) rfl rfl (by omega)) rfl
      refine ⟨?_, ?_⟩
      · intro w18 D18
        show OpOK _ _ _ _ _ _ _
        exact ok_pure (ro_move (v := .pointer _) rfl) rfl
      refine ⟨?_, ?_⟩
      · intro w19 D19
        rintro _ rfl
        show OpOK _ _ _ _ _ _ _
        exact ok_pure (ro_nilCheck rfl) rfl
      refine ⟨?_, ?_⟩
      · intro w20 D20
        rintro _ rfl
        show OpOK _ _ _ _ _ _ _
        exact ok_pure (ro_fieldAddr BitsFind_f77_0 rfl) rfl
      refine ⟨?_, ?_⟩
      · intro w21 D21
        rintro _ rfl
        show OpOK _ _ _ _ _ _ _
        exact ok_pure (ro_fieldAddr BitsFind_f75_0 rfl) rfl
      refine ⟨?_, ?_⟩
      · intro w22 D22
        rintro _ rfl
        show OpOK _ _ _ _ _ _ _
        exact ok_pure (ro_load BitsFind_g73 rfl (by exact (hV.from_ (hB.next D22)).rd 0 rfl)) rfl
      refine ⟨?_, ?_⟩
      · intro w23 D23
        show OpOK _ _ _ _ _ _ _
        exact ok_pure (ro_move (v := .int _ _) rfl) rfl
      refine ⟨?_, ?_⟩
      · intro w24 D24
        rintro _ rfl _ rfl
        show OpOK _ _ _ _ _ _ _
        exact ok_pure (ro_indexAddr0 BitsFind_e73 rfl rfl (by omega)) rfl
      refine ⟨?_, ?_⟩
      · intro w25 D25
        rintro _ rfl
        show OpOK _ _ _ _ _ _ _
        exact ok_pure (ro_load BitsFind_g99 rfl (by exact (hgw.from_ (hB.next D25)).rd _ (arr_at (l := ws) q hq))) rfl
      refine ⟨?_, ?_⟩
      · intro w26 D26
        show OpOK _ _ _ _ _ _ _
        exact ok_pure (ro_move (v := .int _ _) rfl) rfl
      refine ⟨?_, ?_⟩
      · intro w27 D27
        rintro _ rfl _ rfl
        show OpOK _ _ _ _ _ _ _
        exact ok_pure (ro_xorN rfl rfl (by exact ⟨hW.lt _ (List.getElem_mem _), hz64⟩)) rfl
      refine ⟨?_, ?_⟩
      · intro w28 D28
        show OpOK _ _ _ _ _ _ _
        exact ok_pure (ro_load BitsFind_g3 rfl (by exact (P5.from_ (From.rfl_.next D28)).rd 0 rfl)) rfl
      refine ⟨?_, ?_⟩
      · intro w29 D29
        rintro _ rfl _ rfl
        show OpOK _ _ _ _ _ _ _
        refine ok_call BitsFind_k84 ((nth_is (ws[q] ^^^ flN z) (k - cntB (fl l z) (64 * q)) pj _ (Nat.xor_lt_two_pow (hW.lt _ (List.getElem_mem _)) hz64) (hT.from_ (hB.next D29)) g1 g2 g3).mono ?_)
        rintro v _ ⟨rfl, rfl⟩; exact ⟨From.rfl_, rfl⟩
      refine ⟨?_, ?_⟩
      · intro w30 D30
        rintro _ rfl _ rfl
        show OpOK _ _ _ _ _ _ _
        exact ok_pure (ro_addN rfl rfl (by omega)) rfl
      refine ⟨?_, ?_⟩
      · intro w31 D31
        rintro _ rfl
        show OpOK _ _ _ _ _ _ _
        exact ok_pure (ro_assign (v := .int _ _) rfl) rfl
      exact trivial
     case hend =>
      intro w32 D32
      rintro _ rfl _ rfl _ rfl _ rfl _ rfl _ rfl _ rfl _ rfl _ rfl _ rfl _ rfl _ rfl _ rfl _ rfl _ rfl _ rfl
      show St _ _ _ _ _ _ _
      refine st_nil (nx_then (cd_ret (rt_then (rt_block (rt_then (rt_block ?_))))))
      refine res1 (v := .int _ _) rfl rfl ?_
      have hfp := fl_word hW z hq g1
      have hcp := fl_cnt hW z hq (Nat.le_of_lt g1)
      unfold pop at hcp
      rw [g3] at hcp
      have hpk : cntB (fl l z) (64 * q + pj) = k := by omega
      refine ⟨64 * q + pj, ?_, by rw [← hfp]; exact g2, hpk, by rw [Nat.mul_comm 64 q], (hB.next D32)⟩
      rcases Nat.lt_or_ge (64 * q + pj) l.length with a | a
      · exact a
      · have := cntB_mono (fl l z) a
        omega
   replace Q14 := of_decide_eq_false Q14
   refine cd_skip (nx_then (cd_seq (cd_region ?_)))
   refine st_val (ro_load BitsFind_g3 rfl (by exact (P5.from_ From.rfl_).rd 0 rfl)) ?_
   refine mvi rfl ?_
   refine st_val (ro_subN rfl rfl (by omega)) ?_
   refine st_put (v := .int _ _) BitsFind_z3 rfl rfl rfl (P5.from_ From.rfl_) (by simp) ?_
   intro w33 O7 P7
   refine st_nil (nx_then (cd_region ?_))
   refine mvi rfl ?_
   refine st_val (ro_addN (b := 1) rfl rfl (by omega)) ?_
   refine asi rfl ?_
   refine st_nil (nx_block ?_)
   refine nx_cut (q + 1) ⟨(by first | rfl | (refine int_eq ?_; omega)), trivial⟩ (by (iterate 58 refine agr_cons rfl ?_); exact agr_rfl) ⟨?_, ?_⟩
   · have hnx : cntB (fl l z) (64 * (q + 1)) ≤ k := by rw [Nat.mul_succ]; omega
     refine ⟨?_, hnx, ?_, (hB.only O7 (hg5))⟩
     · rcases Nat.lt_or_ge (q + 1) ws.length with a | a
       · exact a
       · have := cntB_mono (fl l z) (show l.length ≤ 64 * (q + 1) by omega)
         omega
     · have e : k - cntB (fl l z) (64 * (q + 1)) = k - cntB (fl l z) (64 * q) - pop (ws[q] ^^^ flN z) 64 := by rw [Nat.mul_succ]; omega
       rw [e]
       simpa using P7
   · show ws.length - (q + 1) < ws.length - q; omega
set_option maxHeartbeats 400000 in
theorem sel_in (base b : Nat) (l : List Bool) (w : World) (hv : Vec w base b l) (hT : TZ w) (k : Nat) (hk : k < cntB (fl l false) l.length) :
    Rt Tryd.prog 41 [.pointer (some ⟨b, 0, none⟩), .int .i64 (k : Nat)] w (fun v w' => ∃ p, p < l.length ∧ fl l false p = true ∧ cntB (fl l false) p = k ∧ v = .tuple #[.int .i64 (p : Nat), .int .i64 0] ∧ From w w') := by
  have hvv := hv
  obtain ⟨gw, Aa, ca, ws, rs, hb0, hg0, hV, hgw, ho, hW, hrl, hrs, hl⟩ := hv
  have hlen := hW.len
  have hrkl := rk_le l l.length
  have hcn := fl_false l l.length
  refine enter (n := 20) Tryd.func41 rfl rfl rfl ?_
  refine cd_seq (cd_region ?_)
  refine st_box (v := .pointer _) rfl ?_
  intro b2 w1 E2 hb2 hk2
  refine asi rfl ?_
  refine asi rfl ?_
  refine st_nil (nx_then (cd_seq (cd_seq (cd_region ?_))))
  refine mvi rfl ?_
  refine st_val (ro_lss rfl rfl) ?_
  refine mvb rfl ?_
  refine st_split (t := 8) rfl (fun Q2 => ?_) (fun Q2 => ?_)
  · replace Q2 := of_decide_eq_true Q2
    exfalso; omega
  replace Q2 := of_decide_eq_false Q2
  refine st_unguard rfl ?_
  refine mvi rfl ?_
  refine st_unguard rfl ?_
  refine st_val (ro_load BitsFind_g57 rfl (by exact (hk2.from_ From.rfl_).rd 0 rfl)) ?_
  refine st_unguard rfl ?_
  refine st_val (ro_nilCheck rfl) ?_
  refine st_unguard rfl ?_
  refine st_val (ro_fieldAddr BitsFind_f77_2 rfl) ?_
  refine st_unguard rfl ?_
  refine st_val (ro_load BitsFind_g3 rfl (by exact (hV.from_ (From.rfl_.next E2)).rd 3 rfl)) ?_
  refine st_unguard rfl ?_
  refine st_val (ro_geq rfl rfl) ?_
  refine st_val (ro_pickF (v := .bool _) rfl rfl) ?_
  refine st_nil (nx_then ?_)
  refine cd_cond rfl (fun Q3 => ?_) (fun Q3 => ?_)
  · replace Q3 := of_decide_eq_true Q3
    exfalso; omega
  replace Q3 := of_decide_eq_false Q3
  refine cd_skip (nx_then (cd_seq (cd_region ?_)))
  refine st_val (ro_load BitsFind_g57 rfl (by exact (hk2.from_ From.rfl_).rd 0 rfl)) ?_
  refine mvi rfl ?_
  refine st_val (ro_makeFunc (l1 := []) (l2 := [.tmp 2])) ?_
  refine st_call BitsFind_k58 (find_rt base b k 0 false l 59 [.pointer (some ⟨b2, 0, none⟩)] _ (hvv.from_ (From.rfl_.next E2)) rfl BitsFind_k59 (fun w2 j hF2 hj => (ahead_rt base b b2 j l w2 (hvv.from_ ((From.rfl_.next E2).next hF2)) (cellF (From.rfl_.next hF2) (hk2.rd 0 rfl)) hj).mono fun v w3 h => ⟨h.1, h.2 ▸ From.rfl_⟩) (by rw [hcn]; omega) (hT.from_ (From.rfl_.next E2))) ?_
  rintro v19 w4 ⟨p, hp1, hp2, hp3, rfl, E19⟩
  refine asi rfl ?_
  refine asi rfl ?_
  refine st_nil (nx_then (cd_ret ?_))
  refine res2 (v := .int _ _) (v' := .int _ _) rfl rfl rfl ?_
  exact ⟨p, hp1, hp2, hp3, rfl, ((From.rfl_.next E2).next E19)⟩
set_option maxHeartbeats 400000 in
theorem sel_out (base b : Nat) (l : List Bool) (w : World) (hv : Vec w base b l) (k : Int) (hk : ¬ (0 ≤ k ∧ k < (cntB (fl l false) l.length : Nat))) :
    Rt Tryd.prog 41 [.pointer (some ⟨b, 0, none⟩), .int .i64 k] w (fun v w' => v = .tuple #[.int .i64 0, .int .i64 3] ∧ From w w') := by
  have hvv := hv
  obtain ⟨gw, Aa, ca, ws, rs, hb0, hg0, hV, hgw, ho, hW, hrl, hrs, hl⟩ := hv
  have hlen := hW.len
  have hrkl := rk_le l l.length
  have hcn := fl_false l l.length
  refine enter (n := 20) Tryd.func41 rfl rfl rfl ?_
  refine cd_seq (cd_region ?_)
  refine st_box (v := .pointer _) rfl ?_
  intro b2 w1 E2 hb2 hk2
  refine asi rfl ?_
  refine asi rfl ?_
  refine st_nil (nx_then (cd_seq (cd_seq (cd_region ?_))))
  refine mvi rfl ?_
  refine st_val (ro_lss rfl rfl) ?_
  refine mvb rfl ?_
  refine st_split (t := 8) rfl (fun Q2 => ?_) (fun Q2 => ?_)
  · replace Q2 := of_decide_eq_true Q2
    refine st_gno rfl rfl ?_
    refine st_gno rfl rfl ?_
    refine st_gno rfl rfl ?_
    refine st_gno rfl rfl ?_
    refine st_gno rfl rfl ?_
    refine st_gno rfl rfl ?_
    refine st_val (ro_pickT (v := .bool _) rfl rfl) ?_
    refine st_nil (nx_then ?_)
    refine cd_condT rfl ?_
    refine cd_seq (cd_region ?_)
    refine asi rfl ?_
    refine asi rfl ?_
    refine st_nil (nx_then (cd_ret (rt_then ?_)))
    refine res2 (v := .int _ _) (v' := .int _ _) rfl rfl rfl ?_
    exact ⟨rfl, (From.rfl_.next E2)⟩
  replace Q2 := of_decide_eq_false Q2
  refine st_unguard rfl ?_
  refine mvi rfl ?_
  refine st_unguard rfl ?_
  refine st_val (ro_load BitsFind_g57 rfl (by exact (hk2.from_ From.rfl_).rd 0 rfl)) ?_
  refine st_unguard rfl ?_
  refine st_val (ro_nilCheck rfl) ?_
  refine st_unguard rfl ?_
  refine st_val (ro_fieldAddr BitsFind_f77_2 rfl) ?_
  refine st_unguard rfl ?_
  refine st_val (ro_load BitsFind_g3 rfl (by exact (hV.from_ (From.rfl_.next E2)).rd 3 rfl)) ?_
  refine st_unguard rfl ?_
  refine st_val (ro_geq rfl rfl) ?_
  refine st_val (ro_pickF (v := .bool _) rfl rfl) ?_
  refine st_nil (nx_then ?_)
  refine cd_cond rfl (fun Q3 => ?_) (fun Q3 => ?_)
  rotate_left
  · replace Q3 := of_decide_eq_false Q3
    exfalso; omega
  replace Q3 := of_decide_eq_true Q3
  refine cd_seq (cd_region ?_)
  refine asi rfl ?_
  refine asi rfl ?_
  refine st_nil (nx_then (cd_ret (rt_then ?_)))
  refine res2 (v := .int _ _) (v' := .int _ _) rfl rfl rfl ?_
  exact ⟨rfl, (From.rfl_.next E2)⟩
set_option maxHeartbeats 400000 in
theorem sel0_in (base b : Nat) (l : List Bool) (w : World) (hv : Vec w base b l) (hT : TZ w) (k : Nat) (hk : k < cntB (fl l true) l.length) :
    Rt Tryd.prog 42 [.pointer (some ⟨b, 0, none⟩), .int .i64 (k : Nat)] w (fun v w' => ∃ p, p < l.length ∧ fl l true p = true ∧ cntB (fl l true) p = k ∧ v = .tuple #[.int .i64 (p : Nat), .int .i64 0] ∧ From w w') := by
  have hvv := hv
  obtain ⟨gw, Aa, ca, ws, rs, hb0, hg0, hV, hgw, ho, hW, hrl, hrs, hl⟩ := hv
  have hlen := hW.len
  have hrkl := rk_le l l.length
  have hcn := fl_true l l.length
  refine enter (n := 26) Tryd.func42 rfl rfl rfl ?_
  refine cd_seq (cd_region ?_)
  refine st_box (v := .pointer _) rfl ?_
  intro b2 w1 E2 hb2 hk2
  refine asi rfl ?_
  refine asi rfl ?_
  refine st_nil (nx_then (cd_seq (cd_seq ?_)))
  have hz : (0 : Nat) = 0 := rfl
  apply cd_drawn 16 [(6, eqp _), (7, eqp _), (8, eqp _), (9, eqp _), (10, eqp _), (11, eqp _), (12, eqp _), (13, eqp _), (14, eqp _), (15, eqp _), (16, eqp _), (17, eqp _), (18, eqp _), (19, eqp _), (20, eqp _), (21, eqp _)] (by kernel_rfl) (by kernel_rfl) ⟨eqp_mono _, eqp_mono _, eqp_mono _, eqp_mono _, eqp_mono _, eqp_mono _, eqp_mono _, eqp_mono _, eqp_mono _, eqp_mono _, eqp_mono _, eqp_mono _, eqp_mono _, eqp_mono _, eqp_mono _, eqp_mono _, trivial⟩
  case hop =>
   refine ⟨?_, ?_⟩
   · intro w3 D3
     show OpOK _ _ _ _ _ _ _
     exact ok_pure (ro_move (v := .int _ _) rfl) rfl
   refine ⟨?_, ?_⟩
   · intro w4 D4
     rintro _ rfl
     show OpOK _ _ _ _ _ _ _
     exact ok_pure (ro_bf (ro_lss rfl rfl) (decide_eq_false (by omega))) rfl
   refine ⟨?_, ?_⟩
   · intro w5 D5
     rintro _ rfl
     show OpOK _ _ _ _ _ _ _
     exact ok_pure (ro_move (v := .bool _) rfl) rfl
   refine ⟨?_, ?_⟩
   · intro w6 D6
     rintro _ rfl
     show OpOK _ _ _ _ _ _ _
     exact ok_gpure rfl (ro_move (v := .int _ _) rfl) rfl
   refine ⟨?_, ?_⟩
   · intro w7 D7
     rintro _ rfl
     show OpOK _ _ _ _ _ _ _
     exact ok_gpure rfl (ro_load BitsFind_g57 rfl (by exact (hk2.from_ (From.rfl_.next D7)).rd 0 rfl)) rfl
   refine ⟨?_, ?_⟩
   · intro w8 D8
     rintro _ rfl _ rfl
     show OpOK _ _ _ _ _ _ _
     exact ok_gpure rfl (ro_nilCheck rfl) rfl
   refine ⟨?_, ?_⟩
   · intro w9 D9
     rintro _ rfl _ rfl
     show OpOK _ _ _ _ _ _ _
     exact ok_gpure rfl (ro_fieldAddr BitsFind_f77_0 rfl) rfl
   refine ⟨?_, ?_⟩
   · intro w10 D10
     rintro _ rfl _ rfl
     show OpOK _ _ _ _ _ _ _
     exact ok_gpure rfl (ro_fieldAddr BitsFind_f75_1 rfl) rfl
   refine ⟨?_, ?_⟩
   · intro w11 D11
     rintro _ rfl _ rfl
     show OpOK _ _ _ _ _ _ _
     exact ok_gpure rfl (ro_load BitsFind_g3 rfl (by exact (hV.from_ ((From.rfl_.next E2).next D11)).rd 1 rfl)) rfl
   refine ⟨?_, ?_⟩
   · intro w12 D12
     rintro _ rfl
     show OpOK _ _ _ _ _ _ _
     exact ok_gpure rfl (ro_load BitsFind_g57 rfl (by exact (hk2.from_ (From.rfl_.next D12)).rd 0 rfl)) rfl
   refine ⟨?_, ?_⟩
   · intro w13 D13
     rintro _ rfl _ rfl
     show OpOK _ _ _ _ _ _ _
     exact ok_gpure rfl (ro_nilCheck rfl) rfl
   refine ⟨?_, ?_⟩
   · intro w14 D14
     rintro _ rfl _ rfl
     show OpOK _ _ _ _ _ _ _
     exact ok_gpure rfl (ro_fieldAddr BitsFind_f77_2 rfl) rfl
   refine ⟨?_, ?_⟩
   · intro w15 D15
     rintro _ rfl _ rfl
     show OpOK _ _ _ _ _ _ _
     exact ok_gpure rfl (ro_load BitsFind_g3 rfl (by exact (hV.from_ ((From.rfl_.next E2).next D15)).rd 3 rfl)) rfl
   refine ⟨?_, ?_⟩
   · intro w16 D16
     rintro _ rfl _ rfl _ rfl
     show OpOK _ _ _ _ _ _ _
     exact ok_gpure rfl (ro_subN rfl rfl (by omega)) rfl
   refine ⟨?_, ?_⟩
   · intro w17 D17
     rintro _ rfl _ rfl _ rfl
     show OpOK _ _ _ _ _ _ _
     exact ok_gpure rfl (ro_geq rfl rfl) rfl
   refine ⟨?_, ?_⟩
   · intro w18 D18
     rintro _ rfl _ rfl
     show OpOK _ _ _ _ _ _ _
     exact ok_pure (ro_pickF (v := .bool _) rfl rfl) rfl
   exact trivial
  case hend =>
   intro w19 D19
   rintro _ rfl _ rfl _ rfl _ rfl _ rfl _ rfl _ rfl _ rfl _ rfl _ rfl _ rfl _ rfl _ rfl _ rfl _ rfl _ rfl
   show St _ _ _ _ _ _ _
   refine st_nil (nx_then ?_)
   refine cd_cond rfl (fun Q20 => ?_) (fun Q20 => ?_)
   · replace Q20 := of_decide_eq_true Q20
     exfalso; omega
   replace Q20 := of_decide_eq_false Q20
   refine cd_skip (nx_then (cd_seq (cd_region ?_)))
   refine st_val (ro_load BitsFind_g57 rfl (by exact (hk2.from_ (From.rfl_.next D19)).rd 0 rfl)) ?_
   refine mvi rfl ?_
   refine st_val (ro_makeFunc (l1 := []) (l2 := [.tmp 2])) ?_
   refine st_call BitsFind_k58 (find_rt base b k 18446744073709551615 true l 60 [.pointer (some ⟨b2, 0, none⟩)] _ (hvv.from_ ((From.rfl_.next E2).next D19)) rfl BitsFind_k60 (fun w2 j hF2 hj => (ahead0_rt base b b2 j l w2 (hvv.from_ (((From.rfl_.next E2).next D19).next hF2)) (cellF ((From.rfl_.next D19).next hF2) (hk2.rd 0 rfl)) hj).mono fun v w3 h => ⟨h.1, h.2 ▸ From.rfl_⟩) (by rw [hcn]; omega) (hT.from_ ((From.rfl_.next E2).next D19))) ?_
   rintro v25 w21 ⟨p, hp1, hp2, hp3, rfl, E25⟩
   refine asi rfl ?_
   refine asi rfl ?_
   refine st_nil (nx_then (cd_ret ?_))
   refine res2 (v := .int _ _) (v' := .int _ _) rfl rfl rfl ?_
   exact ⟨p, hp1, hp2, hp3, rfl, (((From.rfl_.next E2).next D19).next E25)⟩
set_option maxHeartbeats 400000 in
theorem sel0_out (base b : Nat) (l : List Bool) (w : World) (hv : Vec w base b l) (k : Int) (hk : ¬ (0 ≤ k ∧ k < (cntB (fl l true) l.length : Nat))) :
    Rt Tryd.prog 42 [.pointer (some ⟨b, 0, none⟩), .int .i64 k] w (fun v w' => v = .tuple #[.int .i64 0, .int .i64 3] ∧ From w w') := by
  have hvv := hv
  obtain ⟨gw, Aa, ca, ws, rs, hb0, hg0, hV, hgw, ho, hW, hrl, hrs, hl⟩ := hv
  have hlen := hW.len
  have hrkl := rk_le l l.length
  have hcn := fl_true l l.length
  refine enter (n := 26) Tryd.func42 rfl rfl rfl ?_
  refine cd_seq (cd_region ?_)
  refine st_box (v := .pointer _) rfl ?_
  intro b2 w1 E2 hb2 hk2
  refine asi rfl ?_
  refine asi rfl ?_
  refine st_nil (nx_then (cd_seq (cd_seq ?_)))
  rcases Int.lt_or_le k 0 with hneg | hpos
  · apply cd_drawn 16 [(6, eqp _), (7, eqp _), (8, eqp _), (9, eqp _), (10, eqp _), (11, eqp _), (12, eqp _), (13, eqp _), (14, eqp _), (15, eqp _), (16, eqp _), (17, eqp _), (18, eqp _), (19, eqp _), (20, eqp _), (21, eqp _)] (by kernel_rfl) (by kernel_rfl) ⟨eqp_mono _, eqp_mono _, eqp_mono _, eqp_mono _, eqp_mono _, eqp_mono _, eqp_mono _, eqp_mono _, eqp_mono _, eqp_mono _, eqp_mono _, eqp_mono _, eqp_mono _, eqp_mono _, eqp_mono _, eqp_mono _, trivial⟩
    case hop =>
     refine ⟨?_, ?_⟩
     · intro w3 D3
       show OpOK _ _ _ _ _ _ _
       exact ok_pure (ro_move (v := .int _ _) rfl) rfl
     refine ⟨?_, ?_⟩
     · intro w4 D4
       rintro _ rfl
       show OpOK _ _ _ _ _ _ _
       exact ok_pure (ro_bt (ro_lss rfl rfl) (decide_eq_true (by omega))) rfl
     refine ⟨?_, ?_⟩
     · intro w5 D5
       rintro _ rfl
       show OpOK _ _ _ _ _ _ _
       exact ok_pure (ro_move (v := .bool _) rfl) rfl
     refine ⟨?_, ?_⟩
     · intro w6 D6
       rintro _ rfl
       show OpOK _ _ _ _ _ _ _
       exact ok_gno rfl rfl rfl
     refine ⟨?_, ?_⟩
     · intro w7 D7
       rintro _ rfl
       show OpOK _ _ _ _ _ _ _
       exact ok_gno rfl rfl rfl
     refine ⟨?_, ?_⟩
     · intro w8 D8
       rintro _ rfl _ rfl
       show OpOK _ _ _ _ _ _ _
       exact ok_gno rfl rfl rfl
     refine ⟨?_, ?_⟩
     · intro w9 D9
       rintro _ rfl _ rfl
       show OpOK _ _ _ _ _ _ _
       exact ok_gno rfl rfl rfl
     refine ⟨?_, ?_⟩
     · intro w10 D10
       rintro _ rfl _ rfl
       show OpOK _ _ _ _ _ _ _
       exact ok_gno rfl rfl rfl
     refine ⟨?_, ?_⟩
     · intro w11 D11
       rintro _ rfl _ rfl
       show OpOK _ _ _ _ _ _ _
       exact ok_gno rfl rfl rfl
     refine ⟨?_, ?_⟩
     · intro w12 D12
       rintro _ rfl
       show OpOK _ _ _ _ _ _ _
       exact ok_gno rfl rfl rfl
     refine ⟨?_, ?_⟩
     · intro w13 D13
       rintro _ rfl _ rfl
       show OpOK _ _ _ _ _ _ _
       exact ok_gno rfl rfl rfl
     refine ⟨?_, ?_⟩
     · intro w14 D14
       rintro _ rfl _ rfl
       show OpOK _ _ _ _ _ _ _
       exact ok_gno rfl rfl rfl
     refine ⟨?_, ?_⟩
     · intro w15 D15
       rintro _ rfl _ rfl
       show OpOK _ _ _ _ _ _ _
       exact ok_gno rfl rfl rfl
     refine ⟨?_, ?_⟩
     · intro w16 D16
       rintro _ rfl _ rfl _ rfl
       show OpOK _ _ _ _ _ _ _
       exact ok_gno rfl rfl rfl
     refine ⟨?_, ?_⟩
     · intro w17 D17
       rintro _ rfl _ rfl _ rfl
       show OpOK _ _ _ _ _ _ _
       exact ok_gno rfl rfl rfl
     refine ⟨?_, ?_⟩
     · intro w18 D18
       rintro _ rfl _ rfl
       show OpOK _ _ _ _ _ _ _
       exact ok_pure (ro_pickT (v := .bool _) rfl rfl) rfl
     exact trivial
    case hend =>
     intro w19 D19
     rintro _ rfl _ rfl _ rfl _ rfl _ rfl _ rfl _ rfl _ rfl _ rfl _ rfl _ rfl _ rfl _ rfl _ rfl _ rfl _ rfl
     show St _ _ _ _ _ _ _
     refine st_nil (nx_then ?_)
     refine cd_condT rfl ?_
     refine cd_seq (cd_region ?_)
     refine asi rfl ?_
     refine asi rfl ?_
     refine st_nil (nx_then (cd_ret (rt_then ?_)))
     refine res2 (v := .int _ _) (v' := .int _ _) rfl rfl rfl ?_
     exact ⟨rfl, ((From.rfl_.next E2).next D19)⟩
  apply cd_drawn 16 [(6, eqp _), (7, eqp _), (8, eqp _), (9, eqp _), (10, eqp _), (11, eqp _), (12, eqp _), (13, eqp _), (14, eqp _), (15, eqp _), (16, eqp _), (17, eqp _), (18, eqp _), (19, eqp _), (20, eqp _), (21, eqp _)] (by kernel_rfl) (by kernel_rfl) ⟨eqp_mono _, eqp_mono _, eqp_mono _, eqp_mono _, eqp_mono _, eqp_mono _, eqp_mono _, eqp_mono _, eqp_mono _, eqp_mono _, eqp_mono _, eqp_mono _, eqp_mono _, eqp_mono _, eqp_mono _, eqp_mono _, trivial⟩
  case hop =>
   refine ⟨?_, ?_⟩
   · intro w21 D21
     show OpOK _ _ _ _ _ _ _
     exact ok_pure (ro_move (v := .int _ _) rfl) rfl
   refine ⟨?_, ?_⟩
   · intro w22 D22
     rintro _ rfl
     show OpOK _ _ _ _ _ _ _
     exact ok_pure (ro_bf (ro_lss rfl rfl) (decide_eq_false (by omega))) rfl
   refine ⟨?_, ?_⟩
   · intro w23 D23
     rintro _ rfl
     show OpOK _ _ _ _ _ _ _
     exact ok_pure (ro_move (v := .bool _) rfl) rfl
   refine ⟨?_, ?_⟩
   · intro w24 D24
     rintro _ rfl
     show OpOK _ _ _ _ _ _ _
     exact ok_gpure rfl (ro_move (v := .int _ _) rfl) rfl
   refine ⟨?_, ?_⟩
   · intro w25 D25
     rintro _ rfl
     show OpOK _ _ _ _ _ _ _
     exact ok_gpure rfl (ro_load BitsFind_g57 rfl (by exact (hk2.from_ (From.rfl_.next D25)).rd 0 rfl)) rfl
   refine ⟨?_, ?_⟩
   · intro w26 D26
     rintro _ rfl _ rfl
     show OpOK _ _ _ _ _ _ _
     exact ok_gpure rfl (ro_nilCheck rfl) rfl
   refine ⟨?_, ?_⟩
   · intro w27 D27
     rintro _ rfl _ rfl
     show OpOK _ _ _ _ _ _ _
     exact ok_gpure rfl (ro_fieldAddr BitsFind_f77_0 rfl) rfl
   refine ⟨?_, ?_⟩
   · intro w28 D28
     rintro _ rfl _ rfl
     show OpOK _ _ _ _ _ _ _
     exact ok_gpure rfl (ro_fieldAddr BitsFind_f75_1 rfl) rfl
   refine ⟨?_, ?_⟩
   · intro w29 D29
     rintro _ rfl _ rfl
     show OpOK _ _ _ _ _ _ _
     exact ok_gpure rfl (ro_load BitsFind_g3 rfl (by exact (hV.from_ ((From.rfl_.next E2).next D29)).rd 1 rfl)) rfl
   refine ⟨?_, ?_⟩
   · intro w30 D30
     rintro _ rfl
     show OpOK _ _ _ _ _ _ _
     exact ok_gpure rfl (ro_load BitsFind_g57 rfl (by exact (hk2.from_ (From.rfl_.next D30)).rd 0 rfl)) rfl
   refine ⟨?_, ?_⟩
   · intro w31 D31
     rintro _ rfl _ rfl
     show OpOK _ _ _ _ _ _ _
     exact ok_gpure rfl (ro_nilCheck rfl) rfl
   refine ⟨?_, ?_⟩
   · intro w32 D32
     rintro _ rfl _ rfl
     show OpOK _ _ _ _ _ _ _
     exact ok_gpure rfl (ro_fieldAddr BitsFind_f77_2 rfl) rfl
   refine ⟨?_, ?_⟩
   · intro w33 D33
     rintro _ rfl _ rfl
     show OpOK _ _ _ _ _ _ _
     exact ok_gpure rfl (ro_load BitsFind_g3 rfl (by exact (hV.from_ ((From.rfl_.next E2).next D33)).rd 3 rfl)) rfl
   refine ⟨?_, ?_⟩
   · intro w34 D34
     rintro _ rfl _ rfl _ rfl
     show OpOK _ _ _ _ _ _ _
     exact ok_gpure rfl (ro_subN rfl rfl (by omega)) rfl
   refine ⟨?_, ?_⟩
   · intro w35 D35
     rintro _ rfl _ rfl _ rfl
     show OpOK _ _ _ _ _ _ _
     exact ok_gpure rfl (ro_geq rfl rfl) rfl
   refine ⟨?_, ?_⟩
   · intro w36 D36
     rintro _ rfl _ rfl
     show OpOK _ _ _ _ _ _ _
     exact ok_pure (ro_pickF (v := .bool _) rfl rfl) rfl
   exact trivial
  case hend =>
   intro w37 D37
   rintro _ rfl _ rfl _ rfl _ rfl _ rfl _ rfl _ rfl _ rfl _ rfl _ rfl _ rfl _ rfl _ rfl _ rfl _ rfl _ rfl
   show St _ _ _ _ _ _ _
   refine st_nil (nx_then ?_)
   refine cd_cond rfl (fun Q38 => ?_) (fun Q38 => ?_)
   rotate_left
   · replace Q38 := of_decide_eq_false Q38
     exfalso; omega
   replace Q38 := of_decide_eq_true Q38
   refine cd_seq (cd_region ?_)
   refine asi rfl ?_
   refine asi rfl ?_
   refine st_nil (nx_then (cd_ret (rt_then ?_)))
   refine res2 (v := .int _ _) (v' := .int _ _) rfl rfl rfl ?_
   exact ⟨rfl, ((From.rfl_.next E2).next D37)⟩
end Go.Proofs.YtepdgbglaiimaaaDoor

namespace Go.Proofs.YtepdgbglaiimaaaDoor
open Go.RowKit
open Go.ChangeShapes Go.WideShapes Go.ChangeAt
/-- where the k-th one (nought) stands, if there is one -/
def selP (l : List Bool) (z : Bool) (k : Int) : Int := if 0 ≤ k then ((((List.range l.length).find? fun p => fl l z p && (cntB (fl l z) p == k.toNat)).getD 0 : Nat) : Int) else 0
def selO (l : List Bool) (z : Bool) (k : Int) : Bool := decide (0 ≤ k ∧ k < (cntB (fl l z) l.length : Nat))
def selE (l : List Bool) (z : Bool) (k : Int) : Int := if selO l z k = true then 0 else 3
theorem selP_at {l : List Bool} {z : Bool} {k p : Nat} (h1 : p < l.length) (h2 : fl l z p = true) (h3 : cntB (fl l z) p = k) : selP l z (k : Int) = (p : Nat) := by
  unfold selP
  rw [if_pos (by omega), Int.toNat_natCast]
  cases hf : (List.range l.length).find? fun p => fl l z p && (cntB (fl l z) p == k) with
  | none =>
    have := List.find?_eq_none.1 hf p (List.mem_range.2 h1)
    simp [h2, h3] at this
  | some q =>
    have := List.find?_some hf
    simp only [Bool.and_eq_true, beq_iff_eq] at this
    rw [Option.getD_some, nth_unique this.1 h2 (by rw [this.2, h3])]
theorem selO_at {l : List Bool} {z : Bool} {k p : Nat} (h1 : p < l.length) (h2 : fl l z p = true) (h3 : cntB (fl l z) p = k) : selO l z (k : Int) = true := by
  have := cntB_lt h2 h1
  exact decide_eq_true (by omega)
theorem selP_no {l : List Bool} {z : Bool} {k : Int} (h : selO l z k = false) : selP l z k = 0 := by
  have h1 := of_decide_eq_false h
  unfold selP
  by_cases h0 : 0 ≤ k
  · rw [if_pos h0]
    cases hf : (List.range l.length).find? fun p => fl l z p && (cntB (fl l z) p == k.toNat) with
    | none => rfl
    | some q =>
      have h2 := List.find?_some hf
      have h3 := List.mem_range.1 (List.mem_of_find?_eq_some hf)
      simp only [Bool.and_eq_true, beq_iff_eq] at h2
      have := cntB_lt h2.1 h3
      omega
  · rw [if_neg h0]
theorem sel_rt (base b : Nat) (l : List Bool) (w : World) (hv : Vec w base b l) (hT : TZ w) (k : Int) : Rt Tryd.prog 41 [.pointer (some ⟨b, 0, none⟩), .int .i64 k] w fun v w' => v = .tuple #[.int .i64 (selP l false k), .int .i64 (selE l false k)] ∧ From w w' := by
  cases ho : selO l false k with
  | true =>
    have h1 := of_decide_eq_true ho
    obtain ⟨q, rfl⟩ : ∃ q : Nat, k = (q : Int) := ⟨k.toNat, by omega⟩
    refine Rt.mono (sel_in base b l w hv hT q (by omega)) fun v w' ⟨p, p1, p2, p3, e, hF⟩ => ⟨?_, hF⟩
    rw [e, selP_at p1 p2 p3]
    unfold selE
    rw [if_pos ho]
  | false =>
    refine Rt.mono (sel_out base b l w hv k (of_decide_eq_false ho)) fun v w' ⟨e, hF⟩ => ⟨?_, hF⟩
    rw [e, selP_no ho]
    unfold selE
    rw [if_neg (by rw [ho]; decide)]
theorem sel0_rt (base b : Nat) (l : List Bool) (w : World) (hv : Vec w base b l) (hT : TZ w) (k : Int) : Rt Tryd.prog 42 [.pointer (some ⟨b, 0, none⟩), .int .i64 k] w fun v w' => v = .tuple #[.int .i64 (selP l true k), .int .i64 (selE l true k)] ∧ From w w' := by
  cases ho : selO l true k with
  | true =>
    have h1 := of_decide_eq_true ho
    obtain ⟨q, rfl⟩ : ∃ q : Nat, k = (q : Int) := ⟨k.toNat, by omega⟩
    refine Rt.mono (sel0_in base b l w hv hT q (by omega)) fun v w' ⟨p, p1, p2, p3, e, hF⟩ => ⟨?_, hF⟩
    rw [e, selP_at p1 p2 p3]
    unfold selE
    rw [if_pos ho]
  | false =>
    refine Rt.mono (sel0_out base b l w hv k (of_decide_eq_false ho)) fun v w' ⟨e, hF⟩ => ⟨?_, hF⟩
    rw [e, selP_no ho]
    unfold selE
    rw [if_neg (by rw [ho]; decide)]
theorem sel1_is (base b i : Nat) (l : List Bool) (w : World) (hv : Vec w base b l) (hT : TZ w) (hi : i < l.length) (hb : bt l i = true) : Rt Tryd.prog 41 [.pointer (some ⟨b, 0, none⟩), .int .i64 (rk l i : Nat)] w fun v w' => v = .tuple #[.int .i64 (i : Nat), .int .i64 0] ∧ From w w' := by
  have h2 : fl l false i = true := by unfold fl; rw [hb]; rfl
  refine Rt.mono (sel_rt base b l w hv hT (rk l i : Nat)) fun v w' ⟨e, hF⟩ => ⟨?_, hF⟩
  rw [e, selP_at hi h2 (fl_false l i)]
  unfold selE
  rw [if_pos (selO_at hi h2 (fl_false l i))]
theorem sel0_is (base b i : Nat) (l : List Bool) (w : World) (hv : Vec w base b l) (hT : TZ w) (hi : i < l.length) (hb : bt l i = false) : Rt Tryd.prog 42 [.pointer (some ⟨b, 0, none⟩), .int .i64 ((i - rk l i : Nat) : Int)] w fun v w' => v = .tuple #[.int .i64 (i : Nat), .int .i64 0] ∧ From w w' := by
  have h2 : fl l true i = true := by unfold fl; rw [hb]; rfl
  refine Rt.mono (sel0_rt base b l w hv hT ((i - rk l i : Nat) : Int)) fun v w' ⟨e, hF⟩ => ⟨?_, hF⟩
  rw [e, selP_at hi h2 (fl_true l i)]
  unfold selE
  rw [if_pos (selO_at hi h2 (fl_true l i))]
theorem table_of {W : World} (h : laidMetH Tryd.prog Rows.fmTreeRow.laid W) : TZ W := by
  have gTab : Tryd.prog.globalNamed "math/bits.deBruijn64tab" = some 0 := by kernel_rfl
  have gType : (Tryd.prog.globals[0]?).map (·.type) = some 142 := by kernel_rfl
  have c1 : Tryd.prog.cellsOf 5 = 1 := by kernel_rfl
  have c64 : Tryd.prog.cellsOf 142 = 64 := by kernel_rfl
  have ht : Lib.TabIs Tryd.prog W "math/bits.deBruijn64tab" .u8 (tz.map fun (x : Nat) => (x : Int)) :=
    Lib.tabIs_of_head (rest := []) gTab gType Tryd.underlying142 Tryd.underlying5 c1 c64 h
  intro i hi
  rw [ht.cell gTab i (by rw [List.length_map]; exact hi)]
  simp [hi]
theorem walk_laid {H : Type} {enc : TypeId × Value → H} {F : FuncId} {T : TypeId} (t u : Ty) (hf : (Ty.pr t u).fits Tryd.prog (.inl T) = true) (laid : List (String × DataW Unit)) (hl : ∀ W, laidMetH Tryd.prog laid W → TZ W)
    (h : ∀ (cs : Array Value) (x : (Ty.pr t u).den) (w : World), cs.size = (Ty.pr t u).size → (Ty.pr t u).At w (fun j => cs[j]?) x → TZ w → Rt Tryd.prog F [.agg cs] w fun v w' => v = .bool true ∧ From w w')
    (W : World) (base : Nat) (v : Value) (d : DataW H) (p : List MemPlace) (hL : laidMetH Tryd.prog laid W) (_ : W.ShapedOpen Tryd.prog) (hok : Value.okWide Tryd.prog W .any base T v) (ht : DataW.Trod enc Tryd.prog W 0 (fun _ => true) true T v d p) (hsz : ∀ n ∈ d.weights Tryd.prog T, n ≤ 140737488351232) :
    Calls Tryd.prog F #[v] W fun e W' => e = .returned (.bool true) ∧ From W W' := by
  obtain ⟨cs, x, rfl, hs, ha⟩ := arg_st t u hf hok ht hsz
  exact Rt.to (h cs x W hs ha (hl W hL))
end Go.Proofs.YtepdgbglaiimaaaDoor

namespace Go.Proofs.YtepdgbglaiimaaaDoor

/-- which places hold c -/
def cb (L : List Nat) (c : Nat) : List Bool := L.map fun x => decide (x = c)
theorem cb_len (L : List Nat) (c : Nat) : (cb L c).length = L.length := List.length_map _
theorem cb_at {L : List Nat} {c q : Nat} (h : q < L.length) : bt (cb L c) q = decide (L[q] = c) := by
  unfold bt cb
  rw [List.getD_eq_getElem?_getD, List.getElem?_map, List.getElem?_eq_getElem h]
  rfl
theorem cb_rk {L : List Nat} {c : Nat} : ∀ q, q ≤ L.length → rk (cb L c) q = cntC L c q
  | 0, _ => by simp [rk, cntB, cntC]
  | q + 1, h => by
    have ih := cb_rk (L := L) (c := c) q (by omega)
    have e := rk_succ (cb L c) q
    rw [e, ih, cb_at (by omega)]
    unfold cntC
    rw [List.take_succ_eq_append_getElem (by omega), List.countP_append, List.countP_cons]
    by_cases hx : L[q] = c
    · simp [hx]
    · simp [hx]
theorem cb_cnt {L : List Nat} {c q : Nat} (h : q ≤ L.length) : cntB (fl (cb L c) false) q = cntC L c q := by rw [fl_false, cb_rk q h]
theorem cb_fl {L : List Nat} {c q : Nat} (h : q < L.length) : fl (cb L c) false q = decide (L[q] = c) := by
  unfold fl
  rw [cb_at h]
  simp
theorem cnt_diff {L : List Nat} {c : Nat} : cntLt L (c + 1) = cntLt L c + cntC L c L.length := by
  unfold cntLt cntC
  rw [List.take_length]
  induction L with
  | nil => rfl
  | cons x r ih =>
    simp only [List.countP_cons]
    by_cases h1 : x < c
    · have h2 : x < c + 1 := by omega
      have h3 : ¬ x = c := by omega
      simp [h1, h2, h3]; omega
    · by_cases h2 : x = c
      · have h3 : x < c + 1 := by omega
        simp [h2, ih]; omega
      · have h3 : ¬ x < c + 1 := by omega
        simp [h1, h2, h3]; omega
/-- the occurrence that has j ahead of it -/
theorem occ_at {L : List Nat} {c j : Nat} (h : j < cntC L c L.length) : ∃ q, ∃ h : q < L.length, L[q] = c ∧ cntC L c q = j ∧ selP (cb L c) false (j : Nat) = (q : Nat) ∧ selO (cb L c) false (j : Nat) = true := by
  obtain ⟨q, h1, h2, h3⟩ := exists_nth (fl (cb L c) false) j L.length (by rw [cb_cnt (Nat.le_refl _)]; exact h)
  refine ⟨q, h1, ?_, ?_, selP_at (by rw [cb_len]; exact h1) h2 h3, selO_at (by rw [cb_len]; exact h1) h2 h3⟩
  · rw [cb_fl h1] at h2
    exact of_decide_eq_true h2
  · rw [← h3, cb_cnt (by omega)]
theorem occ_out {L : List Nat} {c : Nat} {j : Int} (h : ¬ (0 ≤ j ∧ j < (cntC L c L.length : Nat))) : selO (cb L c) false j = false := by
  unfold selO
  rw [cb_len, cb_cnt (Nat.le_refl _)]
  exact decide_eq_false h
end Go.Proofs.YtepdgbglaiimaaaDoor
