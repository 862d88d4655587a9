/- wavelet: New, walked. -/
import Derived.Test.YtmiclfhpenjjfaaDoorWavNew
namespace Go.Proofs.YtmiclfhpenjjfaaDoor
open Go.RowKit
open Go.ChangeShapes Go.WideShapes Go.ChangeAt
theorem WavMake_q43 : litQ Tryd.prog 43 = some (49, 3, 24, (.agg #[.pointer none, .int .i64 0, .int .i64 0])) := by kernel_rfl
theorem WavMake_g49 : aggQ Tryd.prog 49 = some true := by kernel_rfl
theorem WavMake_z49 : sizeQ Tryd.prog 49 = some 3 := by kernel_rfl
theorem WavMake_g43 : aggQ Tryd.prog 43 = some false := by kernel_rfl
theorem WavMake_s3 : (Tryd.prog.underlying 3).isSome = true := by kernel_rfl
theorem WavMake_i54 : Tryd.prog.underlying 54 = some (.int .u64) := by kernel_rfl
theorem WavMake_k24 : callable Tryd.prog 24 = true := by kernel_rfl
theorem WavMake_k25 : callable Tryd.prog 25 = true := by kernel_rfl
theorem WavMake_b45_1_2 : ∀ (a0 : Option Addr) (a1 a2 : Nat) (a3 : Int), Tryd.prog.built 45 [(1, .slice a0 a1 a2), (2, .int .i64 a3)] = some #[.slice none 0 0, .slice a0 a1 a2, .int .i64 a3] := by intros; kernel_rfl
theorem WavMake_k26 : callable Tryd.prog 26 = true := by kernel_rfl
theorem WavMake_k27 : callable Tryd.prog 27 = true := by kernel_rfl
theorem WavMake_o49 : zeroQ Tryd.prog 49 = some (.agg #[.pointer none, .int .i64 0, .int .i64 0]) := by kernel_rfl
theorem WavMake_f45_0 : fieldQ Tryd.prog 45 0 = some 0 := by kernel_rfl
theorem WavMake_z43 : sizeQ Tryd.prog 43 = some 1 := by kernel_rfl
theorem fillL (v z s : Nat) : Instr.fill (fun i => some (i * 3, 3)) ((Array.range (1 * 3)).map ((Value.agg #[.pointer none, .int .i64 0, .int .i64 0]).cells[· % (Value.agg #[.pointer none, .int .i64 0, .int .i64 0]).cells.size]!)) [(0, .agg (lvlV v z s).toArray)] = some (lvlV v z s).toArray := by
  first
    | kernel_rfl
    | rfl
theorem SymR.off {w0 w w' : World} {A B : Option Addr} {L : List Nat} {bs m c : Nat} {xs : List Value} (h : SymR w0 w A L) (ho : w.ownsRow bs 49 3 (.slice B m c) m xs) (hbs : w0.heap.size ≤ bs) (hg : w.grownBy w' (B.map (·.block))) : SymR w0 w' A L := by
  have hne : ∀ q, 0 < L.length → A.map (·.block) = some q → some q ≠ B.map (·.block) := fun q h0 hq e => by
    rcases h.2 q h0 hq with a | ⟨cs, hb⟩
    · have := (own_at ho q e.symm).1; omega
    · exact own_off ho hb (by decide) q e.symm rfl
  refine ⟨fun h0 => ?_, fun q h0 hq => (h.2 q h0 hq).imp id fun ⟨cs, hb⟩ => ⟨cs, hb.grown hg fun k hk e => hne q h0 hq (by rw [hk, e])⟩⟩
  obtain ⟨b, o, hA, hc⟩ := h.1 h0
  exact ⟨b, o, hA, fun i hi => hg.cell (hc i hi) (hne b h0 (by rw [hA]; rfl))⟩
theorem SymR.only {w0 w w' : World} {A : Option Addr} {L : List Nat} {g t : Nat} {cs0 : Array Value} (h : SymR w0 w A L) (o : Only g w w') (hb : Blk w g t cs0) (ht : t ≠ 3) (hg : w0.heap.size ≤ g) : SymR w0 w' A L := by
  have hne : ∀ q, 0 < L.length → A.map (·.block) = some q → q ≠ g := fun q h0 hq e => by
    subst e
    rcases h.2 q h0 hq with a | ⟨cs, hb2⟩
    · omega
    · unfold Blk at hb hb2
      rw [hb] at hb2
      simp only [Option.some.injEq, Obj.cells.injEq] at hb2
      exact ht hb2.2.1
  refine ⟨fun h0 => ?_, fun q h0 hq => (h.2 q h0 hq).imp id fun ⟨cs, hb2⟩ => ⟨cs, hb2.only o (hne q h0 hq)⟩⟩
  obtain ⟨b, o', hA, hc⟩ := h.1 h0
  exact ⟨b, o', hA, fun i hi => (o.cell (hne b h0 (by rw [hA]; rfl))).trans (hc i hi)⟩
theorem split_n (A : Option Addr) (c n : Nat) (L : List Nat) (w : World) (hn : n = L.length) (hr : RowOf nV w A L) (hl : n ≤ 131072) (s : Nat) (hs : s ≤ 9) (h10 : ∀ x ∈ L, x < 1024) : Rt Tryd.prog 27 [.slice A n c, .int .i64 (s : Nat)] w
    fun v w' => (∃ b A' c', v = .tuple #[.agg (lvlV b (zerosL s L).length s).toArray, .slice A' n c', .int .i64 0] ∧ Vec w' w.heap.size b (L.map (bitN s)) ∧ w'.ownsRow w.heap.size 3 1 (.slice A' n c') n ((partL s L).map nV)) ∧ From w w' := by
  subst hn
  exact split_rt A c L w hr hl s hs h10
theorem less_n (k : Nat) (hk : k ≤ 512) (A : Option Addr) (c n : Nat) (L : List Nat) (w : World) (hn : n = L.length) (hr : RowOf nV w A L) (hl : n ≤ 131072) (hlt : ∀ x ∈ L, x < k) : Rt Tryd.prog 25 [.int .i64 (k : Nat), .slice A n c] w
    fun v w' => (∃ g, v = .slice (some ⟨g, 0, none⟩) (k + 1) (k + 1) ∧ w.heap.size ≤ g ∧ Blk w' g 3 (tab (k + 1) (cntLt L))) ∧ From w w' := by
  subst hn
  exact countLess_rt k hk A c L w hr hl hlt
theorem check_n (k : Int) (A : Option Addr) (c n : Nat) (xs : List Int) (w : World) (hn : n = xs.length) (hr : RowOf iV w A xs) (hl : xs.length * 8 ≤ 140737488351232) : Rt Tryd.prog 24 [.int .i64 k, .slice A n c] w fun v w' => v = .int .i64 (chkW k xs) ∧ w = w' := by
  subst hn
  exact check_rt k A c xs w hr hl
set_option maxRecDepth 100000 in
set_option maxHeartbeats 1500000 in
theorem new_w (k : Int) (A : Option Addr) (c nn : Nat) (xs : List Int) (w : World) (hr : RowOf iV w A xs) (hnn : nn = xs.length) (hl : xs.length * 8 ≤ 140737488351232) (hA0 : ∀ q, 0 < xs.length → A.map (·.block) = some q → q < w.heap.size) :
    Rt Tryd.prog 12 [.int .i64 k, .slice A nn c] w (fun v w' => ((chkW k xs ≠ 0 ∧ v = .tuple #[.pointer none, .int .i64 (chkW k xs)]) ∨ (∃ (K : Nat) (L : List Nat) (b : Nat), k = (K : Nat) ∧ xs = L.map (fun x : Nat => (x : Int)) ∧ v = .tuple #[.pointer (some ⟨b, 0, none⟩), .int .i64 0] ∧ TreeAt w' w.heap.size b K L)) ∧ From w w') := by
  refine enter (n := 57) Tryd.func12 rfl rfl rfl ?_
  refine cd_seq ?_
  refine cd_region ?_
  refine st_val (ro_assign (v := .pointer _) rfl) ?_
  refine st_val (ro_assign (v := .int _ _) rfl) ?_
  refine st_nil ?_
  refine nx_then ?_
  refine cd_seq ?_
  refine cd_seq ?_
  refine cd_region ?_
  refine st_val (ro_move (v := .int _ _) rfl) ?_
  refine st_val (ro_move (v := .slice _ _ _) rfl) ?_
  refine st_call WavMake_k24 (check_n k A c nn xs _ hnn (hr.from_ From.rfl_) hl) ?_
  rintro v15 w1 ⟨rfl, rfl⟩
  refine st_val (ro_assign (v := .int _ _) rfl) ?_
  refine st_nil ?_
  refine nx_then ?_
  refine cd_seq ?_
  refine cd_region ?_
  refine st_val (ro_move (v := .int _ _) rfl) ?_
  refine st_val (ro_neq rfl rfl) ?_
  refine st_nil ?_
  refine nx_then ?_
  refine cd_cond rfl (fun Q2 => ?_) (fun Q2 => ?_)
  · (try with_reducible first | replace Q2 := of_decide_eq_true Q2 | replace Q2 := of_decide_eq_false Q2 | replace Q2 := bn_t Q2 | replace Q2 := bn_f Q2)
    (try with_reducible first | replace Q2 := of_decide_eq_true Q2 | replace Q2 := of_decide_eq_false Q2 | replace Q2 := bx_t Q2 | replace Q2 := bx_f Q2 | replace Q2 := be_t Q2 | replace Q2 := be_f Q2)
    have hch1 : chkW k xs ≠ 0 := by simpa using Q2
    refine cd_seq ?_
    refine cd_region ?_
    refine st_val (ro_move (v := .int _ _) rfl) ?_
    refine st_val (ro_assign (v := .pointer _) rfl) ?_
    refine st_val (ro_assign (v := .int _ _) rfl) ?_
    refine st_nil ?_
    refine nx_then ?_
    refine cd_ret ?_
    refine rt_then ?_
    refine res2 (v := .pointer _) (v' := .int _ _) rfl rfl rfl ?_
    exact ⟨.inl ⟨hch1, rfl⟩, From.rfl_⟩
  · (try with_reducible first | replace Q2 := of_decide_eq_true Q2 | replace Q2 := of_decide_eq_false Q2 | replace Q2 := bn_t Q2 | replace Q2 := bn_f Q2)
    (try with_reducible first | replace Q2 := of_decide_eq_true Q2 | replace Q2 := of_decide_eq_false Q2 | replace Q2 := bx_t Q2 | replace Q2 := bx_f Q2 | replace Q2 := be_t Q2 | replace Q2 := be_f Q2)
    have hch0 : chkW k xs = 0 := by simpa using Q2
    obtain ⟨K, L, rfl, hxs, hK1, hK2, hlt, hLl⟩ := xs_nat hch0
    have hrn : RowOf nV w A L := row_nat (hxs ▸ hr)
    have hnL : nn = L.length := by rw [hnn, hxs, List.length_map]
    have hnl : nn ≤ 131072 := by omega
    have hArow : ∀ q, 0 < L.length → A.map (·.block) = some q → q < w.heap.size ∨ ∃ cs, Blk w q 3 cs := fun q h0 hq => .inl (hA0 q (by rw [hxs, List.length_map]; exact h0) hq)
    refine cd_skip ?_
    refine nx_then ?_
    refine cd_seq ?_
    refine cd_region ?_
    refine st_val (ro_move (v := .int _ _) rfl) ?_
    refine st_val (ro_move (v := .slice _ _ _) rfl) ?_
    refine st_call WavMake_k25 (less_n K hK2 A c nn L _ hnL (hrn.from_ From.rfl_) hnl hlt) ?_
    rintro v21 w3 ⟨⟨g, rfl, hg0, hgB⟩, E21⟩
    refine st_val (ro_move (v := .int _ _) rfl) ?_
    refine st_val (ro_build (l := [(1, .tmp 21), (2, .tmp 22)]) (WavMake_b45_1_2 _ _ _ _)) ?_
    refine st_box (v := .agg _) rfl ?_
    intro b24 w4 E24 hb24 hk24
    have hl24 := hk24.lt
    have hg24 : w.heap.size ≤ b24 := by rw [hb24]; exact ((From.rfl_.next E21)).size
    have hgb : g ≠ b24 := by have := hgB.lt; omega
    have hArow : ∀ q, 0 < L.length → A.map (·.block) = some q → q < w.heap.size ∨ ∃ cs, Blk w4 q 3 cs := fun q h0 hq => .inl (hA0 q (by rw [hxs, List.length_map]; exact h0) hq)
    refine st_val (ro_assign (v := .pointer _) rfl) ?_
    refine st_nil ?_
    refine nx_then ?_
    refine cd_seq ?_
    refine cd_region ?_
    refine st_val (ro_move (v := .slice _ _ _) rfl) ?_
    refine st_val (ro_assign (v := .slice _ _ _) rfl) ?_
    refine st_nil ?_
    refine nx_then ?_
    refine cd_seq ?_
    refine cd_seq ?_
    refine cd_region ?_
    refine st_val (ro_move (v := .int _ _) rfl) ?_
    refine st_val (ro_subN (a := K) (b := 1) rfl rfl ⟨hK1, by omega⟩) ?_
    refine st_val (ro_conv64 WavMake_s3 WavMake_i54 rfl (by omega)) ?_
    refine st_call WavMake_k26 (len_rt (K - 1) _ (by omega)) ?_
    rintro v29 w5 ⟨rfl, rfl⟩
    refine st_val (ro_sub64 rfl rfl (by show _ ≤ ((nlv K : Nat) : Int) - 1 ∧ ((nlv K : Nat) : Int) - 1 ≤ _; have := nlv_le hK2; omega)) ?_
    refine st_val (ro_assign (v := .int _ _) rfl) ?_
    refine st_nil ?_
    refine nx_then ?_
    refine cd_block ?_
    refine cd_loop (G := Nat × Option Addr × Nat × Option Addr × Nat × (Nat → Nat)) [4, 5, 10, 11, 12, 31, 32, 33, 34, 35, 36, 37, 38, 39, 40, 41, 42, 43, 44, 45, 46, 47, 48, 49, 50, 51, 52, 53, 54, 55] (fun (j, A8, c8, _, _, _) => [(8, .slice A8 nn c8), (9, .int .i64 ((nlv K : Nat) - 1 - (j : Nat) : Int))]) (fun (j, A8, c8, AT, cT, vs) w' => j ≤ nlv K ∧ SymR w w' A8 (lvl (nlv K) L j) ∧ Blk w' b24 45 #[.slice AT j cT, .slice (some ⟨g, 0, none⟩) (K + 1) (K + 1), .int .i64 (K : Nat)] ∧ w'.ownsRow w.heap.size 49 3 (.slice AT j cT) j (lvlsV (nlv K) L vs j) ∧ (∀ i, i < j → Vec w' w.heap.size (vs i) ((lvl (nlv K) L i).map (bitN (nlv K - 1 - i)))) ∧ Blk w' g 3 (tab (K + 1) (cntLt L)) ∧ From w w') (fun (j, _, _, _, _, _) => nlv K - j) ((0, A, c, none, 0, fun _ => 0)) ⟨rfl, (int_eq (by show _ = _; simp [nlv])), trivial⟩ ?_ ?_
    · exact ⟨Nat.zero_le _, ⟨hrn.from_ ((From.rfl_.next E21).next E24), hArow⟩, hk24, World.ownsRow_nil _ _ _ _, fun i h => absurd h (by omega), hgB.from_ E24, ((From.rfl_.next E21).next E24)⟩
    rintro ⟨j, A8, c8, AT, cT, vs⟩ ρ6 w6 ⟨hj, hS, hT, ho, hVs, hg2, hB⟩
    refine cd_seq ?_
    refine cd_seq ?_
    refine cd_region ?_
    refine st_val (ro_move (v := .int _ _) rfl) ?_
    refine st_val (ro_geq rfl rfl) ?_
    refine st_nil ?_
    refine nx_then ?_
    refine cd_cond rfl (fun Q7 => ?_) (fun Q7 => ?_)
    · (try with_reducible first | replace Q7 := of_decide_eq_true Q7 | replace Q7 := of_decide_eq_false Q7 | replace Q7 := bn_t Q7 | replace Q7 := bn_f Q7)
      (try with_reducible first | replace Q7 := of_decide_eq_true Q7 | replace Q7 := of_decide_eq_false Q7 | replace Q7 := bx_t Q7 | replace Q7 := bx_f Q7 | replace Q7 := be_t Q7 | replace Q7 := be_f Q7)
      have hjn : j < nlv K := by omega
      refine cd_skip ?_
      refine nx_then ?_
      refine cd_seq ?_
      refine cd_block ?_
      refine cd_seq ?_
      refine cd_region ?_
      refine st_val (ro_move (v := .slice _ _ _) rfl) ?_
      refine st_val (ro_move (v := .int _ _) rfl) ?_
      refine st_spell (t := 37) (v := .int _ _) (v' := .int .i64 ((nlv K - 1 - j : Nat) : Int)) rfl (by refine int_eq ?_; omega) ?_
      have hB38 : From w w6 := hB
      refine st_call WavMake_k27 (split_n A8 c8 nn (lvl (nlv K) L j) _ (by rw [lvl_len]; exact hnL) (hS.from_ From.rfl_).1 hnl (nlv K - 1 - j) (by have := nlv_le hK2; omega) (fun x hx => by have := hlt x (lvl_mem hx); omega)) ?_
      rintro v38 w8 ⟨⟨v38, A40, c40, rfl, hV38, hn40⟩, E38⟩
      refine st_val (ro_move (v := .tuple _) rfl) ?_
      refine st_val (ro_extract rfl rfl) ?_
      refine st_val (ro_extract rfl rfl) ?_
      refine st_val (ro_extract rfl rfl) ?_
      refine st_alloc WavMake_o49 ?_
      intro b10 w9 E10 hb10 hk10
      have hF10 := E38.next E10
      refine st_putW (vs := [_, _, _]) WavMake_z49 rfl rfl (by simp [Value.oneCell']) (hk10) rfl ?_
      intro w10 O9 P9
      have hF9 : From _ w10 := hF10.only O9 (by rw [hb10]; exact E38.size)
      have hF9n : From _ w10 := E10.only O9 (by rw [hb10]; exact Nat.le_refl _)
      have hTq := hT.from_ hF9
      have hoq := ho.kept_from hF9
      have hVq : ∀ i, i < j → Vec w10 w.heap.size (vs i) ((lvl (nlv K) L i).map (bitN (nlv K - 1 - i))) := fun i hi => (hVs i hi).from_ hF9
      have hg2q := hg2.from_ hF9
      have hVn := (hV38.from_ hF9n).le hB38.size
      replace hn40 := (own_le hn40 hB38.size).kept_from hF9n
      have hBq : From w w10 := hB38.next hF9
      refine st_val (ro_assign (v := .slice _ _ _) rfl) ?_
      refine st_val (ro_assign (v := .int _ _) rfl) ?_
      refine st_nil ?_
      refine nx_then ?_
      refine cd_seq ?_
      refine cd_seq ?_
      refine cd_region ?_
      refine st_val (ro_move (v := .int _ _) rfl) ?_
      refine st_val (ro_bf (ro_neq rfl rfl) rfl) ?_
      refine st_nil ?_
      refine nx_then ?_
      refine cd_condF rfl ?_
      refine cd_skip ?_
      refine nx_then ?_
      refine cd_seq ?_
      apply cd_mu9 10 7 [51] [(45, eqp _), (46, eqp _), (47, eqp _), (48, eqp _), (49, eqp _), (50, eqp (.agg (lvlV v38 (zerosL (nlv K - 1 - j) (lvl (nlv K) L j)).length (nlv K - 1 - j)).toArray)), (51, fun v w' => ∃ q, v = .slice (some ⟨q, 0, none⟩) 1 1 ∧ Blk w' q 49 (lvlV v38 (zerosL (nlv K - 1 - j) (lvl (nlv K) L j)).length (nlv K - 1 - j)).toArray), (52, fun v w' => ∃ A2 c2, v = .slice A2 (j + 1) c2 ∧ w'.ownsRow w.heap.size 49 3 (.slice A2 (j + 1) c2) (j + 1) (lvlsV (nlv K) L vs j ++ (lvlV v38 (zerosL (nlv K - 1 - j) (lvl (nlv K) L j)).length (nlv K - 1 - j)))), (53, eqp _), (54, eqp _)] (fun w' => From w10 w') (fun w' => (w10).grownBy w' (AT.map (·.block))) (by repeat first | exact pq_body | refine pq_then ?_ | refine pq_block ?_) (by kernel_rfl) (by kernel_rfl) (by kernel_rfl) ⟨eqp_mono _, eqp_mono _, eqp_mono _, eqp_mono _, eqp_mono _, eqp_mono _, (fun _ _ _ hF ⟨q, h1, h2⟩ => ⟨q, h1, h2.from_ hF⟩), (fun _ _ _ hF ⟨A2, c2, h1, h2⟩ => ⟨A2, c2, h1, h2.kept_from hF⟩), eqp_mono _, eqp_mono _, trivial⟩ (From.rfl_.d1) (From.rfl_.d1.grown _) (fun _ _ hF h => h.next hF) (fun _ _ hF h => grown_trans h (hF.grown _))
      case hop =>
       refine ⟨?_, ?_⟩
       · rintro - w12 hG12
         show OpOK _ _ _ _ _ _ _
         exact ok_pure (ro_move (v := .pointer _) rfl) rfl
       refine ⟨?_, ?_⟩
       · rintro - w13 hG13
         show OpOK _ _ _ _ _ _ _
         exact ok_pure (ro_move (v := .pointer _) rfl) rfl
       refine ⟨?_, ?_⟩
       · rintro - w14 hG14
         rintro _ rfl
         show OpOK _ _ _ _ _ _ _
         exact ok_pure (ro_nilCheck rfl) rfl
       refine ⟨?_, ?_⟩
       · rintro - w15 D15
         rintro _ rfl
         show OpOK _ _ _ _ _ _ _
         exact ok_pure (ro_fieldAddr WavMake_f45_0 rfl) rfl
       refine ⟨?_, ?_⟩
       · rintro - w16 D16
         rintro _ rfl
         show OpOK _ _ _ _ _ _ _
         exact ok_pure (ro_load WavMake_g43 rfl ((hTq.from_ D16).rd 0 rfl)) rfl
       refine ⟨?_, ?_⟩
       · rintro - w17 D17
         show OpOK _ _ _ _ _ _ _
         exact ok_pure (ro_loadA (cs := (lvlV v38 (zerosL (nlv K - 1 - j) (lvl (nlv K) L j)).length (nlv K - 1 - j))) WavMake_g49 WavMake_z49 rfl ((P9.from_ D17).whole)) rfl
       refine ⟨?_, ?_⟩
       · rintro - w18 D18
         rintro v18_50 rfl
         show OpOK _ _ _ _ _ _ _
         exact ok_val (ro_lit (l := [(0, .tmp 50)]) (cells := (lvlV v38 (zerosL (nlv K - 1 - j) (lvl (nlv K) L j)).length (nlv K - 1 - j)).toArray) WavMake_q43 rfl rfl (fillL _ _ _)) (From.rfl_.new _) ⟨_, rfl, Blk.new _ _ _⟩
       refine ⟨?_, ?_⟩
       · intro h; cases h
       refine ⟨?_, ?_⟩
       · rintro - w20 hG20
         rintro _ rfl
         show OpOK _ _ _ _ _ _ _
         exact ok_pure (ro_nilCheck rfl) rfl
       refine ⟨?_, ?_⟩
       · rintro - w21 hG21
         rintro _ rfl
         show OpOK _ _ _ _ _ _ _
         exact ok_pure (ro_fieldAddr WavMake_f45_0 rfl) rfl
       exact trivial
      case hmu =>
       rintro w22 D22
       rintro _ rfl v22_51 ⟨q22, rfl, hq22⟩
       show MuOK _ _ _ _ _ _ _
       have hoD := hoq.kept_from D22
       have hbz : w.heap.size ≤ (w10).heap.size := hBq.size
       refine mu_append WavMake_q43 rfl (by decide) rfl hoD (Nat.le_trans hbz D22.size) rfl rfl ⟨_, _, rfl, hq22.whole⟩ (by simp [lvlV, Value.oneCell']) (by have := nlv_le hK2; omega) (by have := nlv_le hK2; omega) ?_
       intro A3 c3 w3 ho3 hg3
       exact ⟨grown_trans (D22.grown _) hg3, ⟨A3, c3, rfl, ho3⟩, fun t u ht h => muR_look (by repeat first | exact trivial | refine ⟨.inl rfl, ?_⟩ | refine ⟨.inr (fun _ h => h), ?_⟩) t u ht h⟩
      case hend =>
       rintro w23 hG23
       rintro _ rfl _ rfl _ rfl _ rfl _ rfl v50 rfl v51 _ v52 ⟨A52, c52, rfl, ho52⟩ _ rfl _ rfl
       show St _ _ _ _ _ _ _
       have hgq := hG23
       have hTb2 := hTq.grown hgq (own_off hoq hTq (by decide))
       have hBg : From w _ := hBq.grew hgq (fun k hk => (own_at hoq k hk).1)
       refine st_put (v := .slice _ _ _) WavMake_z43 rfl rfl rfl (hTb2) (by show 0 < 3; decide) ?_
       intro w24 O12 P12
       refine st_nil ?_
       refine nx_then ?_
       refine cd_region ?_
       refine st_val (ro_move (v := .slice _ _ _) rfl) ?_
       refine st_val (ro_assign (v := .slice _ _ _) rfl) ?_
       refine st_nil ?_
       refine nx_block ?_
       refine nx_then ?_
       refine cd_region ?_
       refine st_val (ro_move (v := .int _ _) rfl) ?_
       refine st_val (ro_sub64 rfl rfl (by have := nlv_le hK2; omega)) ?_
       refine st_val (ro_assign (v := .int _ _) rfl) ?_
       refine st_nil ?_
       refine nx_cut ((j + 1, A40, c40, A52, c52, fun i => if i = j then v38 else vs i)) ⟨rfl, (by first | rfl | (refine int_eq ?_; omega)), trivial⟩ (by (iterate 62 refine agr_cons rfl ?_); exact agr_rfl) ⟨?_, ?_⟩
       · have hTb := hTq
         refine ⟨by omega, ?_, P12, ?_, fun i hi => ?_, ?_, (hBg.only O12 hg24)⟩
         · exact ((symR_own (w0 := w) hn40).off hoq (Nat.le_refl _) hgq).only O12 hTb2 (by decide) hg24
         · rw [lvls_succ]; exact own_only3 ho52 O12 (own_off ho52 hTb2 (by decide))
         · by_cases hij : i = j
           · subst hij; simp only [if_true]; exact (hVn.off hoq hgq).only O12 hTb2 (by decide) (by decide) (by decide)
           · simp only [if_neg hij]; exact ((hVq i (by omega)).off hoq hgq).only O12 hTb2 (by decide) (by decide) (by decide)
         · exact (hg2q.grown hgq (own_off hoq hg2q (by decide))).only O12 hgb
       · show nlv K - (j + 1) < nlv K - j; omega
    · (try with_reducible first | replace Q7 := of_decide_eq_true Q7 | replace Q7 := of_decide_eq_false Q7 | replace Q7 := bn_t Q7 | replace Q7 := bn_f Q7)
      (try with_reducible first | replace Q7 := of_decide_eq_true Q7 | replace Q7 := of_decide_eq_false Q7 | replace Q7 := bx_t Q7 | replace Q7 := bx_f Q7 | replace Q7 := be_t Q7 | replace Q7 := be_f Q7)
      refine cd_exit ?_
      refine ex_then ?_
      refine ex_then ?_
      refine ex_block ?_
      refine nx_then ?_
      refine cd_seq ?_
      refine cd_region ?_
      refine st_val (ro_move (v := .pointer _) rfl) ?_
      refine st_val (ro_assign (v := .pointer _) rfl) ?_
      refine st_val (ro_assign (v := .int _ _) rfl) ?_
      refine st_nil ?_
      refine nx_then ?_
      refine cd_ret ?_
      refine res2 (v := .pointer _) (v' := .int _ _) rfl rfl rfl ?_
      obtain rfl : j = nlv K := by omega
      exact ⟨.inr ⟨K, L, b24, rfl, hxs, rfl, hg24, AT, cT, g, vs, hT, ho, hVs, hg0, hg2, hK1, hK2, hlt, by omega⟩, hB⟩
end Go.Proofs.YtmiclfhpenjjfaaDoor
