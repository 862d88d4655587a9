/- The law FmFinds. -/
import Derived.Test.YtepdgbglaiimaaaMgFmLawF4
import Derived.Test.YtepdgbglaiimaaaMgFmLawF2
import Derived.Test.YtepdgbglaiimaaaMgFmLawF1
import Derived.Sort.OwnSortedInts
import Derived.Test.YtepdgbglaiimaaaMgFmLawF3
set_option maxRecDepth 100000
namespace Go.Proofs.Ytepdgbglaiimaaa
open Go.RowKit Go.Shelf
attribute [local go_sem] Oper.semAt_some

def BackRdI (Bs b o m c : Nat) (f : Nat → Int) (W : World) : Prop := W.cell? ⟨Bs, 0, none⟩ = some (.slice (some ⟨b, o, none⟩) m c) ∧ ∀ j, j < m → W.cell? ⟨b, o + j, none⟩ = some (.int .i64 (f j))
set_option maxHeartbeats 4000000 in
theorem back_iterI (Bs b o m c : Nat) (f : Nat → Int) (hm : m ≤ 1000000) :
    IterOS Try.prog 43 #[.pointer (some ⟨Bs, 0, none⟩)] (fun k => .int .i64 ((m - 1 - k : Nat) : Int)) (fun k => .int .i64 (f (m - 1 - k))) m (BackRdI Bs b o m c f) := by
  refine ⟨fun l J JS W hRd hY h0 => ?_⟩
  refine callsIn_of_wp Try.func43 rfl trivial ?_ rfl
  simp only [Try.ntmps43, List.size_toArray, List.length_cons, List.length_nil, Nat.reduceAdd, Nat.reduceSub, Array.replicate_succ, Array.replicate_zero, List.push_toArray, List.append_toArray, List.nil_append, List.cons_append]
  have hBs := (hRd 0 W h0).1
  gi_wp2
  gi_loopw [3] (fun i wr => ∃ k : Nat, k ≤ m ∧ i = .int .i64 ((m : Int) - 1 - k) ∧ J k wr) (fun i _ => (intOf i + 1).toNat)
  case atStart => exact ⟨0, Nat.zero_le _, by simp, h0⟩
  case round =>
    obtain ⟨k, hk, rfl, hJ⟩ := hrel
    by_cases hlt : k < m
    · obtain ⟨i, e1, e2, him⟩ : ∃ i : Nat, ((m : Int) - 1 - k) = (i : Int) ∧ m - 1 - k = i ∧ i < m := ⟨m - 1 - k, by omega, rfl, by omega⟩
      have hy := hY k wr hlt hJ
      simp only [e2] at hy
      obtain ⟨fn, tmps, assign, body, hy, hR⟩ := hy
      have hBk := (hRd k wr hJ).1
      have hck := (hRd k wr hJ).2 i him
      clear e2
      rw [e1]
      gi_wp2
      refine hR.mono ?_
      rintro e W3 (⟨rfl, hJ3⟩ | ⟨rfl, hS3⟩)
      · gi_wp2
        go_roundw
        case rel => exact ⟨k + 1, by omega, by congr 1; omega, hJ3⟩
        case measure => simp [intOf]
      · gi_wp2
        refine ⟨rfl, _, results_none ?_ _ _ _, ⟨_, rfl⟩, .inr hS3⟩
        rfl
    · obtain rfl : k = m := by omega
      have e1 : ((k : Int) - 1 - k) = -1 := by omega
      rw [e1]
      gi_wp2
      go_end0
      exact ⟨⟨_, rfl⟩, .inl hJ⟩
end Go.Proofs.Ytepdgbglaiimaaa

namespace Go.Proofs.Ytepdgbglaiimaaa
open Go.RowKit
section
variable {l : Nat} {P : Program} {Q : Exit → Act → World → Prop} {n : Fr} {L : List (Nat × Value)} {w : World}
theorem cr_cond {c : Operand} {x y : Code} {t : Bool} (hc : ev n L c = .bool t) (ht : t = true → CdR l P x Q n L w) (hf : t = false → CdR l P y Q n L w) : CdR l P (.cond c x y) Q n L w :=
  ⟨wpIn_cond_split (by rw [eval_mkA]; exact hc) (fun h => (ht h).out) (fun h => (hf h).out)⟩
theorem cr_skip (h : Q .normal (mkA n L) w) : CdR l P .skip Q n L w := ⟨wpIn_skip h⟩
theorem pq_rpostS {K S : World → Prop} : PQ (RPostS K S) := ⟨fun _ _ _ _ _ h => h⟩
theorem cr_drawnD {r : List Oper} {id : Nat} (K : Nat) (RL : List (Nat × (Value → World → Prop))) (hQ : PQ Q) (hm : P.follows .mixedOrders = true) (hc : monoD r K = true) (hmono : MonoR RL) (hd : noDef r = true) (hL : ¬ LetsOut Q)
    (hop : OpsOK8 P r.toArray n L (From w) (lookR RL) (lookR RL) r K r.length 0 (r.take K)) (hend : ∀ w', From w w' → AllF (lookR RL) w' (preOf r K) fun M => St P r.toArray Q (r.drop K) n (M ++ L) w') : CdR l P (.region id r.toArray true) Q n L w := by
  have hKl : K ≤ r.length := of_decide_eq_true (Bool.and_eq_true_iff.1 (Bool.and_eq_true_iff.1 hc).1).1
  have := mono_mu (Q := Q) (mu := r.length) (I1 := From w) (I2 := From w) (R1 := lookR RL) hQ hc (fun _ _ hF h => h.next hF) (fun _ _ hF h => h.next hF) (lookR_mono hmono) (lookR_mono hmono) hop (fun _ _ _ h => h) (fun h => absurd h (by omega)) (by simp [MuAt]) hend r.length (Array.replicate r.length false) L { w with drawn := w.drawn + 1 } (closed_none r _) (by simp) (by simp)
    (fun j _ hj => by simp [Array.getD, hj]) From.rfl_.d1 (fun _ => From.rfl_.d1) (fun _ _ => rfl) (fun i o d hi _ hl => by
      have : i < r.length := by omega
      simp [Array.getD, this] at hl) (fun _ i o d hi _ hl => by
      have : i < r.length := by omega
      simp [Array.getD, this] at hl)
  exact ⟨wpIn_region_any hm (any_in (by simpa using hd) hL _ _ _ _ (by simpa using this))⟩
theorem cr_ret (h : Q .ret (mkA n L) w) : CdR l P .ret Q n L w := ⟨wpIn_ret h⟩
end
section
variable {P : Program} {fn : Func} {m D : Nat} {L : List (Nat × Value)} {w : World} {r r' r'' : ResultVar} {R : Value → World → Prop} {v v' v'' : Value}
theorem res3_run (hr : fn.results = #[r, r', r'']) (h1 : RV P ⟨m, []⟩ L w r v) (h2 : RV P ⟨m, []⟩ L w r' v') (h3 : RV P ⟨m, []⟩ L w r'' v'') : (results fn (mkT m L)).run P w = .ok (.tuple #[v, v', v'']) w := by
  have e1 := h1.out
  have e2 := h2.out
  have e3 := h3.out
  cases r <;> cases r' <;> cases r'' <;> simp_all only [] <;> (try obtain ⟨_, _, _⟩ := e1) <;> (try obtain ⟨_, _, _⟩ := e2) <;> (try obtain ⟨_, _, _⟩ := e3) <;> simp_all [results, asAddr]
/-- ahead of the loop -/
theorem retM0 (hr : fn.results = #[r, r', r'']) (h1 : RV P ⟨m, []⟩ L w r v) (h2 : RV P ⟨m, []⟩ L w r' v') (h3 : RV P ⟨m, []⟩ L w r'' v'') (h : R (.tuple #[v, v', v'']) w) :
    bodyM P fn (fun e w' => ∃ v, e = .returned v ∧ R v w') .ret (mkA ⟨m, []⟩ L) w :=
  ⟨_, res3_run hr h1 h2 h3, _, rfl, h⟩
/-- within the loop, and behind it -/
theorem retM1 (hr : fn.results = #[r, r', r'']) (hD : w.heap[D]? = some (.deferred (some []))) (h : ∀ w', Only D w w' → RV P ⟨m, []⟩ L w' r v ∧ RV P ⟨m, []⟩ L w' r' v' ∧ RV P ⟨m, []⟩ L w' r'' v'' ∧ R (.tuple #[v, v', v'']) w') :
    bodyM P fn (fun e w' => ∃ v, e = .returned v ∧ R v w') .ret (mkA ⟨m, [{ target := .collected D, args := #[] }]⟩ L) w := by
  obtain ⟨h1, h2, h3, hR⟩ := h _ only_putObj
  exact ⟨by simp, .inl ⟨D, _, rfl, run_takeDeferred hD, ⟨_, res3_run hr h1 h2 h3, _, rfl, hR⟩⟩⟩
end
end Go.Proofs.Ytepdgbglaiimaaa

namespace Go.Proofs.Ytepdgbglaiimaaa
open Go.RowKit
open Go.ChangeShapes Go.WideShapes Go.ChangeAt
open Go.Proofs.Ytepdgbglaiimaaa.SA
theorem FmRows_e22 : elemQ Try.prog 22 = some (3, 1) := by kernel_rfl
theorem FmRows_g3 : aggQ Try.prog 3 = some false := by kernel_rfl
theorem FmRows_z3 : sizeQ Try.prog 3 = some 1 := by kernel_rfl
theorem FmRows_z34 : sizeQ Try.prog 34 = some 1 := by kernel_rfl
theorem FmRows_o3 : zeroQ Try.prog 3 = some (.int .i64 0) := by kernel_rfl
theorem FmRows_o34 : zeroQ Try.prog 34 = some (.int .i64 0) := by kernel_rfl
theorem FmRows_l22 : (elemQ Try.prog 22).isSome = true := by kernel_rfl
theorem FmRows_g34 : aggQ Try.prog 34 = some false := by kernel_rfl
theorem FmRows_g27 : aggQ Try.prog 27 = some false := by kernel_rfl
theorem FmRows_k30 : callable Try.prog 30 = true := by kernel_rfl
theorem FmRows_f56_0 : fieldQ Try.prog 56 0 = some 0 := by kernel_rfl
theorem FmRows_g52 : aggQ Try.prog 52 = some false := by kernel_rfl
theorem FmRows_k31 : callable Try.prog 31 = true := by kernel_rfl
theorem FmRows_k32 : callable Try.prog 32 = true := by kernel_rfl
theorem FmRows_k33 : callable Try.prog 33 = true := by kernel_rfl
theorem FmRows_k34 : callable Try.prog 34 = true := by kernel_rfl
set_option maxHeartbeats 400000 in
theorem backwardI_rt (A : Option Addr) (m c : Nat) (w : World) :
    Rt Try.prog 33 [.slice A m c] w (fun v w' => (∃ Bs, v = .func (.func 43) #[] #[.pointer (some ⟨Bs, 0, none⟩)] ∧ w.heap.size ≤ Bs ∧ Blk w' Bs 22 #[.slice A m c]) ∧ From w w') := by
  refine enter (n := 4) Try.func33 rfl rfl rfl ?_
  refine cd_seq (cd_region ?_)
  refine st_box (v := .slice _ _ _) rfl ?_
  intro b1 w1 E1 hb1 hk1
  refine st_val (ro_assign (v := _) rfl) ?_
  refine st_nil (nx_then (cd_seq (cd_region ?_)))
  refine st_val (ro_makeFunc (l1 := []) (l2 := [.tmp 1])) ?_
  refine st_val (ro_assign (v := _) rfl) ?_
  refine st_nil (nx_then (cd_ret ?_))
  refine res1 (v := .func _ _ _) rfl rfl ?_
  exact ⟨⟨b1, rfl, Nat.le_of_eq hb1.symm, hk1⟩, (From.rfl_.next E1)⟩
/-- what Rows is to tell -/
def RowsIs (K : Nat) (L : List Nat) (q : List Int) (fr to e : Int) : Prop :=
  (q = [] ∧ fr = 0 ∧ to = 0 ∧ e = 5) ∨ (q ≠ [] ∧ q.all (okS (K : Nat)) = false ∧ fr = 0 ∧ to = 0 ∧ e = 1) ∨
  (∃ p : List Nat, q = cI p ∧ p ≠ [] ∧ (∀ x ∈ p, x < K) ∧ fr = ((rwF L p : Nat) : Int) ∧ to = ((rwT L p : Nat) : Int) ∧ e = 0)
theorem nat_listK {K : Nat} : ∀ {xs : List Int}, xs.all (okS (K : Nat)) = true → ∃ L : List Nat, xs = cI L ∧ ∀ x ∈ L, x < K
  | [], _ => ⟨[], rfl, fun _ h => (by cases h)⟩
  | x :: xs, h => by
    rw [List.all_cons, Bool.and_eq_true] at h
    obtain ⟨L, e, hL⟩ := nat_listK h.2
    obtain ⟨h1, h2⟩ := okS_iff.1 h.1
    refine ⟨x.toNat :: L, ?_, fun y hy => ?_⟩
    · rw [cI, List.map_cons, ← cI, ← e, Int.toNat_of_nonneg h1]
    · rcases List.mem_cons.1 hy with rfl | hy
      · omega
      · exact hL y hy
theorem drop_cons {p : List Nat} {k : Nat} (h : k < p.length) : p.drop (p.length - (k + 1)) = p.getD (p.length - 1 - k) 0 :: p.drop (p.length - k) := by
  rw [List.drop_eq_getElem_cons (show p.length - (k + 1) < p.length by omega), List.getD_eq_getElem?_getD, List.getElem?_eq_getElem (show p.length - 1 - k < p.length by omega)]
  congr 1
  · show _ = p[p.length - 1 - k]
    congr 1
    omega
  · congr 1
    omega
/-- the variables of Rows, behind the symbols q -/
structure RwI (w : World) (b b2 b4 b5 b6 Bs n c : Nat) (A : Option Addr) (fr to : Nat) (W : World) : Prop where
  hF : From w W
  h2 : Blk W b2 27 #[.pointer (some ⟨b, 0, none⟩)]
  h4 : Blk W b4 3 #[.int .i64 (fr : Nat)]
  h5 : Blk W b5 3 #[.int .i64 (to : Nat)]
  h6 : Blk W b6 34 #[.int .i64 0]
  hs : Blk W Bs 22 #[.slice A n c]
section
variable {w W W' : World} {b b2 b4 b5 b6 Bs n c fr to : Nat} {A : Option Addr}
theorem RwI.from_ (h : RwI w b b2 b4 b5 b6 Bs n c A fr to W) (hF : From W W') : RwI w b b2 b4 b5 b6 Bs n c A fr to W' := ⟨h.hF.next hF, h.h2.from_ hF, h.h4.from_ hF, h.h5.from_ hF, h.h6.from_ hF, h.hs.from_ hF⟩
theorem RwI.aside {q : Nat} {o : Obj} (h : RwI w b b2 b4 b5 b6 Bs n c A fr to W) (hq : W.heap[q]? = some o) (ho : o.isCells = false) (hO : Only q W W') (hw : w.heap.size ≤ q) : RwI w b b2 b4 b5 b6 Bs n c A fr to W' :=
  ⟨h.hF.only hO hw, h.h2.only hO (blk_aside h.h2 hq ho), h.h4.only hO (blk_aside h.h4 hq ho), h.h5.only hO (blk_aside h.h5 hq ho), h.h6.only hO (blk_aside h.h6 hq ho), h.hs.only hO (blk_aside h.hs hq ho)⟩
end
set_option maxHeartbeats 4000000 in
theorem fmRows_rt (base b K a : Nat) (L B F : List Nat) (w : World) (hf : FmAt w base b K a L B F) (A : Option Addr) (c n : Nat) (q : List Int) (hr : RowOf iV w A q) (hn : n = q.length) (hl : n ≤ 1000000) :
    Rt Try.prog 13 [.pointer (some ⟨b, 0, none⟩), .slice A n c] w (fun v w' => (∃ fr to e, v = .tuple #[.int .i64 fr, .int .i64 to, .int .i64 e] ∧ RowsIs K L q fr to e) ∧ From w w') := by
  have hff := hf
  obtain ⟨hb0, hSA, hbw, hLn, hK, tb, AS, cs, gr, hX, hT, ho, hR, hgr⟩ := hf
  have hBl := hbw.len
  refine enterM (n := 60) Try.func13 rfl rfl rfl ?_
  refine cd_seq (cd_region ?_)
  refine st_box (v := .pointer _) rfl ?_
  intro b2 w1 E2 hb2 hk2
  refine st_alloc FmRows_o3 ?_
  intro b4 w2 E4 hb4 hk4
  refine st_alloc FmRows_o3 ?_
  intro b5 w3 E5 hb5 hk5
  refine st_alloc FmRows_o34 ?_
  intro b6 w4 E6 hb6 hk6
  have hg2 : w.heap.size ≤ b2 := by rw [hb2]; exact Nat.le_refl _
  have hg4 : w.heap.size ≤ b4 := by rw [hb4]; exact E2.size
  have hg5 : w.heap.size ≤ b5 := by rw [hb5]; exact (E2.next E4).size
  have hg6 : w.heap.size ≤ b6 := by rw [hb6]; exact (E2.next (E4.next E5)).size
  have h24 : b2 < b4 := by rw [hb4]; exact hk2.lt
  have h45 : b4 < b5 := by rw [hb5]; exact hk4.lt
  have h56 : b5 < b6 := by rw [hb6]; exact hk5.lt
  replace hk2 : Blk _ b2 27 #[.pointer (some ⟨b, 0, none⟩)] := hk2
  replace hk4 : Blk _ b4 3 #[.int .i64 0] := hk4
  replace hk5 : Blk _ b5 3 #[.int .i64 0] := hk5
  replace hk6 : Blk _ b6 34 #[.int .i64 0] := hk6
  refine st_nil (nx_then (cd_seq (cd_seq (cd_region ?_))))
  refine mvs rfl ?_
  refine st_val (ro_len FmRows_l22 rfl) ?_
  refine st_val (ro_eql rfl rfl) ?_
  refine st_nil (nx_then ?_)
  refine cd_cond rfl (fun Q5 => ?_) (fun Q5 => ?_)
  · with_reducible replace Q5 := of_decide_eq_true Q5
    refine cd_seq (cd_region ?_)
    refine st_put (v := .int _ _) FmRows_z3 rfl rfl rfl ((hk4.from_ (E5.next E6))) (by simp) ?_
    intro w6 O2a P2a
    refine st_put (v := .int _ _) FmRows_z3 rfl rfl rfl (((hk5.from_ E6).only O2a (by omega))) (by simp) ?_
    intro w7 O2b P2b
    refine st_put (v := .int _ _) FmRows_z34 rfl rfl rfl (((hk6.only O2a (by omega)).only O2b (by omega))) (by simp) ?_
    intro w8 O2c P2c
    have hr4 := (P2a.only O2b (by omega)).only O2c (by omega)
    have hr5 := P2b.only O2c (by omega)
    have hr6 := P2c
    refine st_nil (nx_then (cd_ret (rt_then ?_)))
    refine retM0 rfl (rv_cell FmRows_g3 rfl (by first | exact hr4.rd 0 rfl | exact (hr4.only OX (blk_aside hr4 hK15 rfl)).rd 0 rfl | exact (hI.h4.only OX (blk_aside hI.h4 hK rfl)).rd 0 rfl)) (rv_cell FmRows_g3 rfl (by first | exact hr5.rd 0 rfl | exact (hr5.only OX (blk_aside hr5 hK15 rfl)).rd 0 rfl | exact (hI.h5.only OX (blk_aside hI.h5 hK rfl)).rd 0 rfl)) (rv_cell FmRows_g34 rfl (by first | exact hr6.rd 0 rfl | exact (hr6.only OX (blk_aside hr6 hK15 rfl)).rd 0 rfl | exact (hI.h6.only OX (blk_aside hI.h6 hK rfl)).rd 0 rfl)) ?_
    exact ⟨⟨0, 0, 5, rfl, .inl ⟨List.eq_nil_of_length_eq_zero (by omega), rfl, rfl, rfl⟩⟩, (((((((From.rfl_.next E2).next E4).next E5).next E6).only O2a (hg4)).only O2b (hg5)).only O2c (hg6))⟩
  with_reducible replace Q5 := of_decide_eq_false Q5
  refine cd_skip (nx_then (cd_seq (cd_seq (cd_region ?_))))
  refine mvs rfl ?_
  refine st_val (ro_len FmRows_l22 rfl) ?_
  refine mvi rfl ?_
  refine st_nil (nx_then (cd_block ?_))
  refine cd_loop (G := Nat) [8, 17, 18, 19, 20, 21, 22, 23, 24, 25, 26, 27, 28, 29, 30, 31, 32, 33, 34, 35, 36] (fun k => [(16, .int .i64 (k : Nat))]) (fun k w' => k ≤ n ∧ (q.take k).all (okS (K : Nat)) = true ∧ From w w' ∧ Blk w' b2 27 #[.pointer (some ⟨b, 0, none⟩)] ∧ Blk w' b4 3 #[.int .i64 0] ∧ Blk w' b5 3 #[.int .i64 0] ∧ Blk w' b6 34 #[.int .i64 0]) (fun k => n - k) (0) ⟨rfl, trivial⟩ ?_ ?_
  · exact ⟨Nat.zero_le _, rfl, ((((From.rfl_.next E2).next E4).next E5).next E6), hk2.from_ (E4.next (E5.next E6)), hk4.from_ (E5.next E6), hk5.from_ E6, hk6⟩
  rintro k ρ9 w9 ⟨hk, hall, hB, h2, h4, h5, h6⟩
  refine cd_seq (cd_region ?_)
  refine st_val (ro_lss rfl rfl) ?_
  refine st_nil (nx_then (cd_seq ?_))
  refine cd_cond rfl (fun Q10 => ?_) (fun Q10 => ?_)
  · with_reducible replace Q10 := of_decide_eq_true Q10
    have hkx : k < q.length := by omega
    obtain ⟨bp, op, rfl, hcq⟩ := hr (by omega)
    have hcqk := hcq k hkx
    refine cd_skip (nx_then (cd_seq (cd_block (cd_seq (cd_region ?_)))))
    refine st_val (ro_indexAddr1 FmRows_e22 rfl rfl (by omega)) ?_
    refine st_val (ro_load FmRows_g3 rfl (by exact cellF hB hcqk)) ?_
    refine asi rfl ?_
    refine st_nil (nx_then (cd_seq (cd_region ?_)))
    refine st_val (ro_load FmRows_g27 rfl (by exact (h2.from_ From.rfl_).rd 0 rfl)) ?_
    refine st_call FmRows_k30 (size_rt base b K a L B F _ (hff.from_ hB)) ?_
    rintro v21 w11 ⟨rfl, E21⟩
    have h4q := h4.from_ (From.rfl_.next E21)
    have h5q := h5.from_ (From.rfl_.next E21)
    have h6q := h6.from_ (From.rfl_.next E21)
    refine st_val (ro_lss rfl rfl) ?_
    refine mvb rfl ?_
    refine st_split (t := 23) rfl (fun Q12 => ?_) (fun Q12 => ?_)
    · with_reducible replace Q12 := of_decide_eq_true Q12
      exfalso; omega
    with_reducible replace Q12 := of_decide_eq_false Q12
    refine st_unguard rfl ?_
    refine mvi rfl ?_
    refine st_unguard rfl ?_
    refine st_val (ro_lss rfl rfl) ?_
    refine st_val (ro_pickF (v := .bool _) rfl rfl) ?_
    refine mvb rfl ?_
    refine st_split (t := 27) rfl (fun Q16 => ?_) (fun Q16 => ?_)
    · with_reducible replace Q16 := of_decide_eq_true Q16
      refine st_gno rfl rfl ?_
      refine st_gno rfl rfl ?_
      refine st_gno rfl rfl ?_
      refine st_gno rfl rfl ?_
      refine st_gno rfl rfl ?_
      refine st_gno rfl rfl ?_
      refine st_gno rfl rfl ?_
      refine st_val (ro_pickT (v := .bool _) rfl rfl) ?_
      refine st_nil (nx_then ?_)
      refine cd_condT rfl ?_
      refine cd_seq (cd_region ?_)
      refine st_put (v := .int _ _) FmRows_z3 rfl rfl rfl (h4q) (by simp) ?_
      intro w17 O7a P7a
      refine st_put (v := .int _ _) FmRows_z3 rfl rfl rfl ((h5q.only O7a (by omega))) (by simp) ?_
      intro w18 O7b P7b
      refine st_put (v := .int _ _) FmRows_z34 rfl rfl rfl (((h6q.only O7a (by omega)).only O7b (by omega))) (by simp) ?_
      intro w19 O7c P7c
      have hr4 := (P7a.only O7b (by omega)).only O7c (by omega)
      have hr5 := P7b.only O7c (by omega)
      have hr6 := P7c
      refine st_nil (nx_then (cd_ret (rt_block (rt_then (rt_then (rt_block (rt_then ?_)))))))
      refine retM0 rfl (rv_cell FmRows_g3 rfl (by first | exact hr4.rd 0 rfl | exact (hr4.only OX (blk_aside hr4 hK15 rfl)).rd 0 rfl | exact (hI.h4.only OX (blk_aside hI.h4 hK rfl)).rd 0 rfl)) (rv_cell FmRows_g3 rfl (by first | exact hr5.rd 0 rfl | exact (hr5.only OX (blk_aside hr5 hK15 rfl)).rd 0 rfl | exact (hI.h5.only OX (blk_aside hI.h5 hK rfl)).rd 0 rfl)) (rv_cell FmRows_g34 rfl (by first | exact hr6.rd 0 rfl | exact (hr6.only OX (blk_aside hr6 hK15 rfl)).rd 0 rfl | exact (hI.h6.only OX (blk_aside hI.h6 hK rfl)).rd 0 rfl)) ?_
      exact ⟨⟨0, 0, 1, rfl, .inr (.inl ⟨fun e => by subst e; simp at hkx, all_no hkx (okS_no (by omega)), rfl, rfl, rfl⟩)⟩, ((((hB.next E21).only O7a (hg4)).only O7b (hg5)).only O7c (hg6))⟩
    with_reducible replace Q16 := of_decide_eq_false Q16
    refine st_unguard rfl ?_
    refine mvi rfl ?_
    refine st_unguard rfl ?_
    refine st_val (ro_load FmRows_g27 rfl (by exact (h2.from_ (From.rfl_.next E21)).rd 0 rfl)) ?_
    refine st_unguard rfl ?_
    refine st_val (ro_nilCheck rfl) ?_
    refine st_unguard rfl ?_
    refine st_val (ro_fieldAddr FmRows_f56_0 rfl) ?_
    refine st_unguard rfl ?_
    refine st_val (ro_load FmRows_g52 rfl (by exact (hX.from_ (hB.next E21)).rd 0 rfl)) ?_
    refine st_unguard rfl ?_
    refine st_call FmRows_k31 (kindsT base tb K B _ (hT.from_ (hB.next E21))) ?_
    rintro v33 w20 ⟨rfl, rfl⟩
    refine st_unguard rfl ?_
    refine st_val (ro_geq rfl rfl) ?_
    refine st_val (ro_pickF (v := .bool _) rfl rfl) ?_
    refine st_nil (nx_then ?_)
    refine cd_cond rfl (fun Q21 => ?_) (fun Q21 => ?_)
    · with_reducible replace Q21 := of_decide_eq_true Q21
      refine cd_seq (cd_region ?_)
      refine st_put (v := .int _ _) FmRows_z3 rfl rfl rfl (h4q) (by simp) ?_
      intro w22 O7a P7a
      refine st_put (v := .int _ _) FmRows_z3 rfl rfl rfl ((h5q.only O7a (by omega))) (by simp) ?_
      intro w23 O7b P7b
      refine st_put (v := .int _ _) FmRows_z34 rfl rfl rfl (((h6q.only O7a (by omega)).only O7b (by omega))) (by simp) ?_
      intro w24 O7c P7c
      have hr4 := (P7a.only O7b (by omega)).only O7c (by omega)
      have hr5 := P7b.only O7c (by omega)
      have hr6 := P7c
      refine st_nil (nx_then (cd_ret (rt_block (rt_then (rt_then (rt_block (rt_then ?_)))))))
      refine retM0 rfl (rv_cell FmRows_g3 rfl (by first | exact hr4.rd 0 rfl | exact (hr4.only OX (blk_aside hr4 hK15 rfl)).rd 0 rfl | exact (hI.h4.only OX (blk_aside hI.h4 hK rfl)).rd 0 rfl)) (rv_cell FmRows_g3 rfl (by first | exact hr5.rd 0 rfl | exact (hr5.only OX (blk_aside hr5 hK15 rfl)).rd 0 rfl | exact (hI.h5.only OX (blk_aside hI.h5 hK rfl)).rd 0 rfl)) (rv_cell FmRows_g34 rfl (by first | exact hr6.rd 0 rfl | exact (hr6.only OX (blk_aside hr6 hK15 rfl)).rd 0 rfl | exact (hI.h6.only OX (blk_aside hI.h6 hK rfl)).rd 0 rfl)) ?_
      exact ⟨⟨0, 0, 1, rfl, .inr (.inl ⟨fun e => by subst e; simp at hkx, all_no hkx (okS_no (by omega)), rfl, rfl, rfl⟩)⟩, ((((hB.next E21).only O7a (hg4)).only O7b (hg5)).only O7c (hg6))⟩
    with_reducible replace Q21 := of_decide_eq_false Q21
    refine cd_skip (nx_block (nx_then (cd_region ?_)))
    refine st_val (ro_add64 rfl rfl (by omega)) ?_
    refine mvi rfl ?_
    refine st_nil ?_
    refine nx_cut (k + 1) ⟨(by first | rfl | (refine int_eq ?_; omega)), trivial⟩ (by (iterate 46 refine agr_cons rfl ?_); exact agr_rfl) ⟨?_, ?_⟩
    · exact ⟨by omega, all_take hkx hall (okS_yes (by omega) (by omega)), (hB.next E21), h2.from_ (From.rfl_.next E21), h4.from_ (From.rfl_.next E21), h5.from_ (From.rfl_.next E21), h6.from_ (From.rfl_.next E21)⟩
    · show n - (k + 1) < n - k; omega
  with_reducible replace Q10 := of_decide_eq_false Q10
  obtain ⟨p, hqp, hpK⟩ := nat_listK (all_end (show ¬ k < q.length by omega) hall)
  have hpn : p.length = n := by rw [hn, hqp, List.length_map]
  obtain ⟨bp, op, rfl, hcp⟩ := rowD (show RowOf iV w A (cI p) by rw [← hqp]; exact hr) (by omega)
  have hd0 : p.drop (n - 0) = [] := by rw [Nat.sub_zero, ← hpn, List.drop_length]
  refine cd_exit ?_
  refine ex_then (ex_then (ex_block (nx_then (cd_seq (cd_region ?_)))))
  refine st_val (ro_load FmRows_g27 rfl (by exact (h2.from_ From.rfl_).rd 0 rfl)) ?_
  refine st_val (ro_nilCheck rfl) ?_
  refine st_val (ro_fieldAddr FmRows_f56_0 rfl) ?_
  refine st_val (ro_load FmRows_g52 rfl (by exact (hX.from_ hB).rd 0 rfl)) ?_
  refine st_call FmRows_k32 (lenT base tb K B _ (hT.from_ hB)) ?_
  rintro v41 w25 ⟨rfl, E41⟩
  refine st_val (ro_addN (b := 1) rfl rfl (by omega)) ?_
  have h2r := h2.from_ (From.rfl_.next E41)
  have h4r := h4.from_ (From.rfl_.next E41)
  have h5r := h5.from_ (From.rfl_.next E41)
  have h6r := h6.from_ (From.rfl_.next E41)
  refine st_put (v := .int _ _) FmRows_z3 rfl rfl rfl (h4r) (by simp) ?_
  intro w26 O9a P9a
  refine st_put (v := .int _ _) FmRows_z3 rfl rfl rfl ((h5r.only O9a (by omega))) (by simp) ?_
  intro w27 O9b P9b
  have h2s := (h2r.only O9a (by omega)).only O9b (by omega)
  have h4s := P9a.only O9b (by omega)
  have h5s := P9b
  have h6s := (h6r.only O9a (by omega)).only O9b (by omega)
  refine st_nil (nx_then (cd_seq (cd_seq (cd_region ?_))))
  refine mvs rfl ?_
  refine st_call FmRows_k33 (backwardI_rt _ n c _) ?_
  rintro v44 w28 ⟨⟨Bs, rfl, hgs, hks⟩, E44⟩
  have hBs : b6 < Bs := Nat.lt_of_lt_of_le h6s.lt hgs
  have hI0 : RwI w b b2 b4 b5 b6 Bs n c (some ⟨bp, op, none⟩) (frP L (p.drop (n - 0))) (toP L (p.drop (n - 0))) w28 := ⟨((((hB.next E41).only O9a (hg4)).only O9b (hg5)).next E44), h2s.from_ E44, by rw [hd0, frP_nil]; exact h4s.from_ E44, by rw [hd0, toP_nil, ← hBl]; exact h5s.from_ E44, h6s.from_ E44, hks⟩
  have hz44 := (((((hB.next E41).only O9a (hg4)).only O9b (hg5)).next E44)).size
  refine st_nil (nx_then (cd_block ?_))
  apply cd_range2R (u := fun k => .int .i64 ((n - 1 - k : Nat) : Int)) (v := fun k => .int .i64 ((p.getD (n - 1 - k) 0 : Nat) : Int)) (N := n) (Rd := BackRdI Bs bp op n c fun j => ((p.getD j 0 : Nat) : Int)) rfl (fun _ _ => rfl) (back_iterI Bs bp op n c (fun j => ((p.getD j 0 : Nat) : Int)) hl) (fun k W => RwI w b b2 b4 b5 b6 Bs n c (some ⟨bp, op, none⟩) (frP L (p.drop (n - k))) (toP L (p.drop (n - k))) W ∧ (0 < k → frP L (p.drop (n - k)) < toP L (p.drop (n - k)))) (fun W => RwI w b b2 b4 b5 b6 Bs n c (some ⟨bp, op, none⟩) (0) (0) W ∧ rwF L p = 0 ∧ rwT L p = 0)
  case ha =>
   intro l k W K hK
   refine cr_region rfl (fun ⟨_, _, h⟩ => h) ?_
   refine st_val (ro_assign (v := _) rfl) ?_
   refine st_nil ?_
   exact hK
  case hRd =>
   exact fun k W h => ⟨(h.1.hs).rd 0 rfl, fun j hj => cellF h.1.hF (hcp j (by omega))⟩
  case hF =>
   exact fun k W W' h hF => ⟨h.1.from_ hF, h.2⟩
  case hO =>
   exact fun k W W' q o hq ho hO hw h => ⟨h.1.aside hq ho hO (Nat.le_trans hz44 hw), h.2⟩
  case hSO =>
   exact fun W W' q o hq ho hO hw h => ⟨h.1.aside hq ho hO (Nat.le_trans hz44 hw), h.2⟩
  case h0 =>
   exact ⟨hI0, fun h => absurd h (by omega)⟩
  case hb =>
   intro l k WB hkN hI
   obtain ⟨hI, hlt⟩ := hI
   have hpk : p.drop (n - (k + 1)) = p.getD (n - 1 - k) 0 :: p.drop (n - k) := by have := drop_cons (p := p) (k := k) (by omega); rw [hpn] at this; exact this
   have hck : p.getD (n - 1 - k) 0 < K := getD_lt hpK (by omega)
   have hs1 := frP_step hbw (p.getD (n - 1 - k) 0) (p.drop (n - k))
   have hs2 := toP_step hbw (p.getD (n - 1 - k) 0) (p.drop (n - k))
   rw [← hpk] at hs1 hs2
   have hle1 := frP_le L (p.drop (n - k))
   have hle2 := toP_le L (p.drop (n - k))
   refine cr_block ?_
   refine cr_seq ?_
   apply cr_drawnD 8 [(47, eqp _), (48, eqp _), (49, eqp _), (50, eqp _), (51, eqp _), (52, eqp _), (53, eqp _), (54, eqp _)] (by repeat first | exact pq_rpostS | exact pq_bodyM | refine pq_then ?_ | refine pq_block ?_) (by kernel_rfl) (by kernel_rfl) ⟨eqp_mono _, eqp_mono _, eqp_mono _, eqp_mono _, eqp_mono _, eqp_mono _, eqp_mono _, eqp_mono _, trivial⟩ (by kernel_rfl) (fun ⟨_, _, h⟩ => h)
   case hop =>
    refine ⟨?_, ?_⟩
    · rintro - w30 D30
      show OpOK _ _ _ _ _ _ _
      exact ok_pure (ro_load FmRows_g27 rfl (by exact (hI.h2.from_ D30).rd 0 rfl)) rfl
    refine ⟨?_, ?_⟩
    · rintro - w31 D31
      show OpOK _ _ _ _ _ _ _
      exact ok_pure (ro_move (v := .int _ _) rfl) rfl
    refine ⟨?_, ?_⟩
    · rintro - w32 D32
      show OpOK _ _ _ _ _ _ _
      exact ok_pure (ro_load FmRows_g3 rfl (by exact (hI.h4.from_ D32).rd 0 rfl)) rfl
    refine ⟨?_, ?_⟩
    · rintro - w33 D33
      rintro _ rfl _ rfl _ rfl
      show OpOK _ _ _ _ _ _ _
      refine ok_call FmRows_k34 ((back_rt base b K a L B F _ (hff.from_ (hI.hF.next D33)) (p.getD (n - 1 - k) 0) (frP L (p.drop (n - k))) hck hle1).mono ?_)
      rintro v _ ⟨rfl, E33'⟩; exact ⟨E33', rfl⟩
    refine ⟨?_, ?_⟩
    · rintro - w34 D34
      show OpOK _ _ _ _ _ _ _
      exact ok_pure (ro_load FmRows_g27 rfl (by exact (hI.h2.from_ D34).rd 0 rfl)) rfl
    refine ⟨?_, ?_⟩
    · rintro - w35 D35
      show OpOK _ _ _ _ _ _ _
      exact ok_pure (ro_move (v := .int _ _) rfl) rfl
    refine ⟨?_, ?_⟩
    · rintro - w36 D36
      show OpOK _ _ _ _ _ _ _
      exact ok_pure (ro_load FmRows_g3 rfl (by exact (hI.h5.from_ D36).rd 0 rfl)) rfl
    refine ⟨?_, ?_⟩
    · rintro - w37 D37
      rintro _ rfl _ rfl _ rfl
      show OpOK _ _ _ _ _ _ _
      refine ok_call FmRows_k34 ((back_rt base b K a L B F _ (hff.from_ (hI.hF.next D37)) (p.getD (n - 1 - k) 0) (toP L (p.drop (n - k))) hck hle2).mono ?_)
      rintro v _ ⟨rfl, E37'⟩; exact ⟨E37', rfl⟩
    exact trivial
   case hend =>
    intro w38 D38
    rintro _ rfl _ rfl _ rfl _ rfl _ rfl _ rfl _ rfl _ rfl
    show St _ _ _ _ _ _ _
    have hID := hI.from_ D38
    have hkD : Keeps WB _ := Keeps.from_ D38
    refine st_put (v := .int _ _) FmRows_z3 rfl rfl rfl (hID.h4) (by simp) ?_
    intro w39 O12a P12a
    refine st_put (v := .int _ _) FmRows_z3 rfl rfl rfl ((hID.h5.only O12a (by omega))) (by simp) ?_
    intro w40 O12b P12b
    have hI12 : RwI w b b2 b4 b5 b6 Bs n c (some ⟨bp, op, none⟩) (frP L (p.drop (n - (k + 1)))) (toP L (p.drop (n - (k + 1)))) w40 := ⟨(hID.hF.only O12a hg4).only O12b hg5, (hID.h2.only O12a (by omega)).only O12b (by omega), by rw [hs1]; exact P12a.only O12b (by omega), by rw [hs2]; exact P12b, (hID.h6.only O12a (by omega)).only O12b (by omega), (hID.hs.only O12a (by omega)).only O12b (by omega)⟩
    have hk12 := hkD.trans ((Keeps.only O12a hID.h4).trans (Keeps.only O12b (hID.h5.only O12a (by omega))))
    refine st_nil ?_
    refine nr_then ?_
    refine cr_seq ?_
    refine cr_region rfl (fun ⟨_, _, h⟩ => h) ?_
    refine st_val (ro_load FmRows_g3 rfl (by exact hI12.h4.rd 0 rfl)) ?_
    refine st_val (ro_load FmRows_g3 rfl (by exact hI12.h5.rd 0 rfl)) ?_
    refine st_val (ro_geq rfl rfl) ?_
    refine st_nil ?_
    refine nr_then ?_
    refine cr_cond rfl (fun Q41 => ?_) (fun Q41 => ?_)
    · with_reducible replace Q41 := of_decide_eq_true Q41
      refine cr_seq ?_
      refine cr_region rfl (fun ⟨_, _, h⟩ => h) ?_
      refine st_put (v := .int _ _) FmRows_z3 rfl rfl rfl (hI12.h4) (by simp) ?_
      intro w42 O14a P14a
      refine st_put (v := .int _ _) FmRows_z3 rfl rfl rfl ((hI12.h5.only O14a (by omega))) (by simp) ?_
      intro w43 O14b P14b
      refine st_put (v := .int _ _) FmRows_z34 rfl rfl rfl (((hI12.h6.only O14a (by omega)).only O14b (by omega))) (by simp) ?_
      intro w44 O14c P14c
      have hI14 : RwI w b b2 b4 b5 b6 Bs n c (some ⟨bp, op, none⟩) (0) (0) w44 := ⟨((hI12.hF.only O14a hg4).only O14b hg5).only O14c hg6, ((hI12.h2.only O14a (by omega)).only O14b (by omega)).only O14c (by omega), (P14a.only O14b (by omega)).only O14c (by omega), P14b.only O14c (by omega), P14c, ((hI12.hs.only O14a (by omega)).only O14b (by omega)).only O14c (by omega)⟩
      have hk14 := hk12.trans ((Keeps.only O14a hI12.h4).trans ((Keeps.only O14b (hI12.h5.only O14a (by omega))).trans (Keeps.only O14c ((hI12.h6.only O14a (by omega)).only O14b (by omega)))))
      have hz := rw_none (s := p.take (n - (k + 1))) hSA (show toP L (p.drop (n - (k + 1))) ≤ frP L (p.drop (n - (k + 1))) by omega)
      rw [List.take_append_drop] at hz
      refine st_nil ?_
      refine nr_then ?_
      refine cr_ret ?_
      refine rt_block ?_
      exact ⟨⟨hI14, hz⟩, hk14⟩
    with_reducible replace Q41 := of_decide_eq_false Q41
    refine cr_skip ?_
    refine nx_block ?_
    exact ⟨⟨hI12, fun _ => by omega⟩, hk12⟩
  case hd =>
   intro D WD hD hI hK
   obtain ⟨hI, hlt⟩ := hI
   refine nx_block (nx_then (cd_seq ?_))
   have hU45 : UniT [(0, 58, .int .i64 ((frP L (p.drop (n - n)) : Nat) : Int)), (1, 59, .int .i64 ((toP L (p.drop (n - n)) : Nat) : Int))] := by simp [UniT]
   refine cd_invT [(0, 58, .int .i64 ((frP L (p.drop (n - n)) : Nat) : Int)), (1, 59, .int .i64 ((toP L (p.drop (n - n)) : Nat) : Int))] (fun S w' => RwI w b b2 b4 b5 b6 Bs n c (some ⟨bp, op, none⟩) (frP L (p.drop (n - n))) (toP L (p.drop (n - n))) w' ∧ w'.heap[D]? = some (.deferred (some []))) (by kernel_rfl) (by kernel_rfl) hU45 (by simp) (⟨hI.from_ From.rfl_.d1, Keeps.from_ From.rfl_.d1 _ _ hK rfl⟩) ?_ ?_
   · refine ⟨?_, ?_⟩
     · rintro S L' wS hI hM hS0 ⟨-⟩
       have e4 := hI.1 4 (by simp)
       have hM' := hM
       obtain ⟨hM1, hM2⟩ := hM'
       exact step_ro (ro_load FmRows_g3 e4 (hM1.h4.rd 0 rfl)) ⟨hI.put hU45 (.head _), hM⟩
     refine ⟨?_, ?_⟩
     · rintro S L' wS hI hM hS0 ⟨-⟩
       have e5 := hI.1 5 (by simp)
       have hM' := hM
       obtain ⟨hM1, hM2⟩ := hM'
       exact step_ro (ro_load FmRows_g3 e5 (hM1.h5.rd 0 rfl)) ⟨hI.put hU45 (.tail _ (.head _)), hM⟩
     refine ⟨?_, ?_⟩
     · rintro S L' wS hI hM hS0 ⟨d0, d0, -, -⟩
       have e4 := hI.1 4 (by simp)
       have e58 : look L' 58 = .int .i64 ((frP L (p.drop (n - n)) : Nat) : Int) := hI.get (i := 0) (.head _) d0
       have hM' := hM
       obtain ⟨hM1, hM2⟩ := hM'
       obtain ⟨w2, hR, hO, hb⟩ := rs_put (n := ⟨60, [{ target := .collected D, args := #[] }]⟩) (L := L') (x := .tmp 4) (y := .tmp 58) FmRows_z3 e4 e58 rfl hM1.h4 (by simp)
       exact step_rs hR ⟨hI.skip (by simp), ⟨⟨hM1.hF.only hO hg4, hM1.h2.only hO (by omega), hb, hM1.h5.only hO (by omega), hM1.h6.only hO (by omega), hM1.hs.only hO (by omega)⟩, by rw [hO.block D (by intro e; subst e; exact absurd (hM1.h4.symm.trans hM2) (by simp))]; exact hM2⟩⟩
     refine ⟨?_, ?_⟩
     · rintro S L' wS hI hM hS0 ⟨d1, d2, d0, d1, d2, -⟩
       have e5 := hI.1 5 (by simp)
       have e59 : look L' 59 = .int .i64 ((toP L (p.drop (n - n)) : Nat) : Int) := hI.get (i := 1) (.tail _ (.head _)) d1
       have hM' := hM
       obtain ⟨hM1, hM2⟩ := hM'
       obtain ⟨w2, hR, hO, hb⟩ := rs_put (n := ⟨60, [{ target := .collected D, args := #[] }]⟩) (L := L') (x := .tmp 5) (y := .tmp 59) FmRows_z3 e5 e59 rfl hM1.h5 (by simp)
       exact step_rs hR ⟨hI.skip (by simp), ⟨⟨hM1.hF.only hO hg5, hM1.h2.only hO (by omega), hM1.h4.only hO (by omega), hb, hM1.h6.only hO (by omega), hM1.hs.only hO (by omega)⟩, by rw [hO.block D (by intro e; subst e; exact absurd (hM1.h5.symm.trans hM2) (by simp))]; exact hM2⟩⟩
     refine ⟨?_, ?_⟩
     · rintro S L' wS hI hM hS0 ⟨d3, d0, d1, d2, d3, -⟩
       have e6 := hI.1 6 (by simp)
       have hM' := hM
       obtain ⟨hM1, hM2⟩ := hM'
       obtain ⟨w2, hR, hO, hb⟩ := rs_put (n := ⟨60, [{ target := .collected D, args := #[] }]⟩) (L := L') (x := .tmp 6) (y := .const (.int .i64 0)) FmRows_z34 e6 rfl rfl hM1.h6 (by simp)
       exact step_rs hR ⟨hI.skip (by simp), ⟨⟨hM1.hF.only hO hg6, hM1.h2.only hO (by omega), hM1.h4.only hO (by omega), hM1.h5.only hO (by omega), hb, hM1.hs.only hO (by omega)⟩, by rw [hO.block D (by intro e; subst e; exact absurd (hM1.h6.symm.trans hM2) (by simp))]; exact hM2⟩⟩
     exact trivial
   · intro w46 hM
     obtain ⟨hM1, hM2⟩ := hM
     have hr4 := hM1.h4
     have hr5 := hM1.h5
     have hr6 := hM1.h6
     have hK15 := hM2
     have hD15 := Nat.le_trans hz44 hD
     have hh := hlt (by omega)
     rw [Nat.sub_self, List.drop_zero] at hh hr4 hr5
     obtain ⟨hw1, hw2⟩ := rw_hit hh
     refine nx_then (cd_ret ?_)
     refine retM1 rfl (by first | exact hK15 | exact hK) (fun wX OX => ⟨(rv_cell FmRows_g3 rfl (by first | exact hr4.rd 0 rfl | exact (hr4.only OX (blk_aside hr4 hK15 rfl)).rd 0 rfl | exact (hI.h4.only OX (blk_aside hI.h4 hK rfl)).rd 0 rfl)), (rv_cell FmRows_g3 rfl (by first | exact hr5.rd 0 rfl | exact (hr5.only OX (blk_aside hr5 hK15 rfl)).rd 0 rfl | exact (hI.h5.only OX (blk_aside hI.h5 hK rfl)).rd 0 rfl)), (rv_cell FmRows_g34 rfl (by first | exact hr6.rd 0 rfl | exact (hr6.only OX (blk_aside hr6 hK15 rfl)).rd 0 rfl | exact (hI.h6.only OX (blk_aside hI.h6 hK rfl)).rd 0 rfl)), ?_⟩)
     exact ⟨⟨_, _, _, rfl, .inr (.inr ⟨p, hqp, fun e => by subst e; simp at hpn; omega, hpK, by rw [hw1], by rw [hw2], rfl⟩)⟩, (hM1.hF).only OX hD15⟩
  case hs =>
   intro D WS hD hS hK
   obtain ⟨hI, hz1, hz2⟩ := hS
   refine rt_block (rt_then ?_)
   refine retM1 rfl (by first | exact hK15 | exact hK) (fun wX OX => ⟨(rv_cell FmRows_g3 rfl (by first | exact hr4.rd 0 rfl | exact (hr4.only OX (blk_aside hr4 hK15 rfl)).rd 0 rfl | exact (hI.h4.only OX (blk_aside hI.h4 hK rfl)).rd 0 rfl)), (rv_cell FmRows_g3 rfl (by first | exact hr5.rd 0 rfl | exact (hr5.only OX (blk_aside hr5 hK15 rfl)).rd 0 rfl | exact (hI.h5.only OX (blk_aside hI.h5 hK rfl)).rd 0 rfl)), (rv_cell FmRows_g34 rfl (by first | exact hr6.rd 0 rfl | exact (hr6.only OX (blk_aside hr6 hK15 rfl)).rd 0 rfl | exact (hI.h6.only OX (blk_aside hI.h6 hK rfl)).rd 0 rfl)), ?_⟩)
   exact ⟨⟨_, _, _, rfl, .inr (.inr ⟨p, hqp, fun e => by subst e; simp at hpn; omega, hpK, by rw [hz1], by rw [hz2], rfl⟩)⟩, hI.hF.only OX (Nat.le_trans hz44 hD)⟩
end Go.Proofs.Ytepdgbglaiimaaa

namespace Go.Proofs.Ytepdgbglaiimaaa
open Go.RowKit
def leB (x y : Int) : Bool := decide (x ≤ y)
def srt (L : List Int) : List Int := L.mergeSort leB
def cnt (L : List Int) (x : Int) : Nat := L.countP fun y => decide (x ≤ y)
def med (L : List Int) : Int := (srt L).getD ((L.length - 1) / 2) 0
def Fit (L : List Int) : Prop := 1 ≤ L.length ∧ L.length ≤ 7 ∧ ∀ x ∈ L, 0 ≤ x
theorem srt_perm (L : List Int) : (srt L).Perm L := List.mergeSort_perm L leB
theorem srt_len (L : List Int) : (srt L).length = L.length := (srt_perm L).length_eq
theorem srt_le (L : List Int) : ∀ i j (hi : i < (srt L).length) (hj : j < (srt L).length), i ≤ j → (srt L)[i] ≤ (srt L)[j] := by
  have h := List.pairwise_mergeSort (le := leB) (fun a b c h1 h2 => by simp only [leB, decide_eq_true_eq] at *; omega) (fun a b => by simp only [leB, Bool.or_eq_true, decide_eq_true_eq]; omega) L
  intro i j hi hj hij
  rcases Nat.lt_or_ge i j with h1 | h1
  · have := List.pairwise_iff_getElem.1 h i j hi hj h1
    exact of_decide_eq_true this
  · obtain rfl : i = j := by omega
    exact Int.le_refl _
/-- how many of 1 to n are among the votes -/
def cv (V : List Int) (n : Nat) : Nat := (List.range n).countP fun i => decide (((i + 1 : Nat) : Int) ∈ V)
def vt (V : List Int) (n i : Nat) : Bool := decide (1 ≤ i ∧ i ≤ n ∧ (i : Int) ∈ V)
def vrow (V : List Int) (n : Nat) : List Value := (List.range 8).map fun i => .bool (vt V n i)
end Go.Proofs.Ytepdgbglaiimaaa

namespace Go.Proofs.Ytepdgbglaiimaaa
open Go.RowKit
open Go.ChangeShapes Go.WideShapes Go.ChangeAt
open Go.Proofs.Ytepdgbglaiimaaa.SA
open Go.Shelf
theorem FmFind_m22 : makeQ Try.prog 22 = some (3, 8, (.int .i64 0)) := by kernel_rfl
theorem FmFind_q22 : litQ Try.prog 22 = some (3, 1, 8, (.int .i64 0)) := by kernel_rfl
theorem FmFind_k13 : callable Try.prog 13 = true := by kernel_rfl
theorem FmFind_k35 : callable Try.prog 35 = true := by kernel_rfl
theorem FmFind_k36 : callable Try.prog 36 = true := by kernel_rfl
/-- what Find is to tell -/
def FindIs (K : Nat) (L : List Nat) (q : List Int) (l : List Nat) (e : Int) : Prop :=
  (q = [] ∧ l = [] ∧ e = 5) ∨ (q ≠ [] ∧ q.all (okS (K : Nat)) = false ∧ l = [] ∧ e = 1) ∨ (∃ p : List Nat, q = cI p ∧ p ≠ [] ∧ (∀ x ∈ p, x < K) ∧ l = fndL L p ∧ e = 0)
theorem rows_err {K : Nat} {L : List Nat} {q : List Int} {fr to e : Int} (h : RowsIs K L q fr to e) (he : e ≠ 0) : FindIs K L q [] e := by
  rcases h with ⟨h1, _, _, rfl⟩ | ⟨h1, h2, _, _, rfl⟩ | ⟨p, _, _, _, _, _, rfl⟩
  · exact .inl ⟨h1, rfl, rfl⟩
  · exact .inr (.inl ⟨h1, h2, rfl, rfl⟩)
  · exact absurd rfl he
theorem rows_ok {K : Nat} {L : List Nat} {q : List Int} {fr to : Int} (h : RowsIs K L q fr to 0) : ∃ p : List Nat, q = cI p ∧ p ≠ [] ∧ (∀ x ∈ p, x < K) ∧ fr = ((rwF L p : Nat) : Int) ∧ to = ((rwT L p : Nat) : Int) := by
  rcases h with ⟨_, _, _, e⟩ | ⟨_, _, _, _, e⟩ | ⟨p, h1, h2, h3, h4, h5, _⟩
  · cases e
  · cases e
  · exact ⟨p, h1, h2, h3, h4, h5⟩
theorem sort_some (base c g0 o0 n : Nat) (L : List Int) (w : World) (ho : w.ownsRow base 3 1 (.slice (some ⟨g0, o0, none⟩) n c) n (L.map iV)) (hn : n = L.length) (hl : L.length ≤ 1000000) :
    Rt Try.prog 36 [.slice (some ⟨g0, o0, none⟩) n c] w fun _ w' => w'.ownsRow base 3 1 (.slice (some ⟨g0, o0, none⟩) n c) n ((srt L).map iV) ∧ w.grownBy w' (some g0) := by
  subst hn
  rcases ho.2 with ⟨hz, _⟩ | ⟨g, cap, cur, hv, hbase, hb, h1, h2, h3, h4⟩
  · cases hz
  · simp only [Value.slice.injEq] at hv
    obtain ⟨hA, _, rfl⟩ := hv
    cases hA
    refine Calls.mono (Try.slices_Sort_int g0 0 c L w (holds_of_blockI hb (by simpa using h4)) (Array.getElem?_eq_some_iff.1 hb).1 (by omega)) fun e w' ⟨he, n, os, hw⟩ => ⟨_, he, ?_, ?_⟩
    · rw [hw]; exact ownsRow_sortedI (srt_len L) hbase hb h1 h2 h3
    · rw [hw]; exact grownBy_sortedI _
theorem nat_back : ∀ {l : List Int}, (∀ y ∈ l, 0 ≤ y) → l = cI (l.map Int.toNat)
  | [], _ => rfl
  | y :: l, h => by
    rw [List.map_cons, cI, List.map_cons, ← cI, ← nat_back fun z hz => h z (List.mem_cons_of_mem _ hz), Int.toNat_of_nonneg (h y (List.mem_cons_self ..))]
/-- the places in order are the places as the text tells them -/
theorem srt_plc {L F p : List Nat} (hS : IsSA L F) (hp : p ≠ []) : srt (cI (SA.plc L F (frP L p) (toP L p - frP L p))) = cI (fndL L p) := by
  have hto := toP_le L p
  have hle := fr_le_to L p
  generalize hX : SA.plc L F (frP L p) (toP L p - frP L p) = X
  have hnd : X.Nodup := by rw [← hX]; exact plc_nodup hS (by omega)
  have hmem : ∀ x, x ∈ X ↔ x ∈ fndL L p := fun x => by rw [← hX]; exact plc_mem hS hp
  have hpm := srt_perm (cI X)
  have hnn : ∀ y ∈ srt (cI X), 0 ≤ y := fun y hy => by
    obtain ⟨x, _, rfl⟩ := List.mem_map.1 (hpm.mem_iff.1 hy)
    omega
  have e : srt (cI X) = cI ((srt (cI X)).map Int.toNat) := nat_back hnn
  rw [e]
  congr 1
  refine asc_uniq ?_ (fndL_asc L p) fun x => ?_
  · refine List.pairwise_map.2 (List.pairwise_iff_getElem.2 fun i j hi hj hij => ?_)
    have h1 := srt_le (cI X) i j hi hj (Nat.le_of_lt hij)
    have h2 := hnn _ (List.getElem_mem hi)
    have hndI : (srt (cI X)).Nodup := hpm.nodup_iff.2 (List.pairwise_map.2 (hnd.imp fun a b => by simp only [ne_eq] at *; omega))
    have h3 := List.pairwise_iff_getElem.1 hndI i j hi hj hij
    omega
  · rw [← hmem, List.mem_map]
    constructor
    · rintro ⟨y, hy, rfl⟩
      obtain ⟨z, hz, rfl⟩ := List.mem_map.1 (hpm.mem_iff.1 hy)
      simpa using hz
    · intro hx
      exact ⟨(x : Int), hpm.mem_iff.2 (List.mem_map.2 ⟨x, hx, rfl⟩), by simp⟩
theorem plc_rw (L F p : List Nat) : SA.plc L F (rwF L p) (rwT L p - rwF L p) = SA.plc L F (frP L p) (toP L p - frP L p) := by
  unfold rwF rwT
  by_cases h : frP L p < toP L p
  · rw [if_pos h, if_pos h]
  · rw [if_neg h, if_neg h, show toP L p - frP L p = 0 by omega]
    rfl
theorem own_ne_none {w : World} {base e s n c m : Nat} {A : Option Addr} {xs : List Value} (h : w.ownsRow base e s (.slice A n c) m xs) (hA : A ≠ none) : ∃ g, A = some ⟨g, 0, none⟩ := by
  rcases h.2 with ⟨h0, _⟩ | ⟨g, cap, cur, hv, _⟩
  · simp only [Value.slice.injEq] at h0
    exact absurd h0.1 hA
  · simp only [Value.slice.injEq] at hv
    exact ⟨g, hv.1⟩
theorem plc_own {L F : List Nat} {fr k : Nat} : (cI (SA.plc L F fr (k + 1))).map iV = (cI (SA.plc L F fr k)).map iV ++ [iV ((rowS L F (fr + k) : Nat) : Int)] := by rw [plc_succ]; simp [cI]
set_option maxHeartbeats 2000000 in
theorem find_rt (base b K a : Nat) (L B F : List Nat) (w : World) (hf : FmAt w base b K a L B F) (A : Option Addr) (c n : Nat) (q : List Int) (hr : RowOf iV w A q) (hn : n = q.length) (hl : n ≤ 1000000) :
    Rt Try.prog 18 [.pointer (some ⟨b, 0, none⟩), .slice A n c] w (fun v w' => (∃ l e A' c', FindIs K L q l e ∧ v = .tuple #[.slice A' l.length c', .int .i64 e] ∧ w'.ownsRow w.heap.size 3 1 (.slice A' l.length c') l.length ((cI l).map iV)) ∧ From w w') := by
  have hLn := hf.2.2.2.1
  have hSA := hf.2.1
  refine enter (n := 40) Try.func18 rfl rfl rfl ?_
  refine cd_seq (cd_region ?_)
  refine ass rfl ?_
  refine asi rfl ?_
  refine st_nil (nx_then (cd_seq (cd_region ?_)))
  refine mvp rfl ?_
  refine mvs rfl ?_
  refine st_call FmFind_k13 (fmRows_rt base b K a L B F _ (hf.from_ From.rfl_) A c n q (hr.from_ From.rfl_) hn hl) ?_
  rintro v14 w1 ⟨⟨fr, to, e, rfl, hIs⟩, E14⟩
  refine mvt rfl ?_
  refine st_val (ro_extract rfl rfl) ?_
  refine st_val (ro_extract rfl rfl) ?_
  refine st_val (ro_extract rfl rfl) ?_
  refine asi rfl ?_
  refine asi rfl ?_
  refine asi rfl ?_
  refine st_nil (nx_then (cd_seq (cd_seq (cd_region ?_))))
  refine mvi rfl ?_
  refine st_val (ro_neq rfl rfl) ?_
  refine st_nil (nx_then ?_)
  refine cd_cond rfl (fun Q2 => ?_) (fun Q2 => ?_)
  · with_reducible replace Q2 := bx_t Q2
    have hbad := rows_err hIs (by omega)
    refine cd_seq (cd_region ?_)
    refine mvi rfl ?_
    refine ass rfl ?_
    refine asi rfl ?_
    refine st_nil (nx_then (cd_ret (rt_then ?_)))
    refine res2 (v := .slice _ _ _) (v' := .int _ _) rfl rfl rfl ?_
    exact ⟨⟨[], _, none, 0, hbad, rfl, World.ownsRow_nil _ _ _ _⟩, (From.rfl_.next E14)⟩
  with_reducible replace Q2 := bx_f Q2
  obtain rfl : e = 0 := by omega
  obtain ⟨p, hqp, hp0, hpK, rfl, rfl⟩ := rows_ok hIs
  have hrs := rw_sub L p
  refine cd_skip (nx_then (cd_seq (cd_region ?_)))
  refine mvi rfl ?_
  refine mvi rfl ?_
  refine st_val (ro_subN rfl rfl (by omega)) ?_
  refine st_make0 (m := rwT L p - rwF L p) (base := w.heap.size) FmFind_m22 rfl rfl rfl (by omega) (by omega) ((From.rfl_.next E14).size) ?_
  intro g24 w3 E24 hb24 ho24
  refine ass rfl ?_
  refine st_nil (nx_then (cd_seq (cd_seq (cd_region ?_))))
  refine mvi rfl ?_
  refine asi rfl ?_
  refine st_nil (nx_then (cd_block ?_))
  refine cd_loop (G := Nat × Option Addr × Nat) [26, 27, 28, 29, 30, 31, 32, 33, 34, 35, 36] (fun (j, A2, c2) => [(9, .slice A2 j c2), (10, .int .i64 ((rwF L p + j : Nat) : Int))]) (fun (j, A2, c2) w' => rwF L p + j ≤ rwT L p ∧ w'.ownsRow w.heap.size 3 1 (.slice A2 j c2) j ((cI (SA.plc L F (rwF L p) j)).map iV) ∧ A2 ≠ none ∧ From w w') (fun (j, _, _) => rwT L p - (rwF L p + j)) ((0, some ⟨g24, 0, none⟩, rwT L p - rwF L p)) ⟨rfl, (int_eq (by omega)), trivial⟩ ?_ ?_
  · exact ⟨by omega, ho24, fun h => (by cases h), ((From.rfl_.next E14).next E24)⟩
  rintro ⟨j, A2, c2⟩ ρ4 w4 ⟨hj, ho, hA2, hB⟩
  refine cd_seq (cd_seq (cd_region ?_))
  refine mvi rfl ?_
  refine mvi rfl ?_
  refine st_val (ro_lss rfl rfl) ?_
  refine st_nil (nx_then ?_)
  refine cd_cond rfl (fun Q5 => ?_) (fun Q5 => ?_)
  · with_reducible replace Q5 := of_decide_eq_true Q5
    refine cd_skip (nx_then (cd_seq (cd_block (cd_region ?_))))
    refine mvs rfl ?_
    refine mvp rfl ?_
    refine mvi rfl ?_
    refine st_call FmFind_k35 (start_rt base b K a L B F _ (hf.from_ hB) (rwF L p + j) (by omega)) ?_
    rintro v34 w6 ⟨rfl, E34⟩
    refine st_lit1 (v := .int _ _) FmFind_q22 rfl rfl rfl ?_
    intro b35 w7 E35 hb35 hk35
    refine st_appendB FmFind_q22 rfl (by decide) rfl (A := A2) (xs := (cI (SA.plc L F (rwF L p) j)).map iV) (news := [iV ((rowS L F (rwF L p + j) : Nat) : Int)]) (ho.kept_from ((From.rfl_.next E34).next E35)) (((hB.next E34).next E35).size) rfl rfl (fun _ => ⟨b35, 0, rfl, hk35.whole⟩) (fun h => by cases h) (by simp [Value.oneCell']) (by omega) (by omega) ?_
    intro A36 c36 w8 ho36 hg36
    have HF36 := (((hB.next E34).next E35)).grew hg36 (fun k hk => (own_at (ho.kept_from ((From.rfl_.next E34).next E35)) k hk).1)
    refine ass rfl ?_
    refine st_nil (nx_block (nx_then (cd_region ?_)))
    refine mvi rfl ?_
    refine st_val (ro_addN (b := 1) rfl rfl (by omega)) ?_
    refine asi rfl ?_
    refine st_nil ?_
    refine nx_cut ((j + 1, A36, c36)) ⟨rfl, (int_eq (by omega)), trivial⟩ (by (iterate 26 refine agr_cons rfl ?_); exact agr_rfl) ⟨?_, ?_⟩
    · exact ⟨by omega, by rw [plc_own]; exact ho36.kept_from From.rfl_, by obtain ⟨g, e⟩ := own_some ho36 (by omega); rw [e]; exact fun h => (by cases h), HF36⟩
    · show rwT L p - (rwF L p + (j + 1)) < rwT L p - (rwF L p + j); omega
  with_reducible replace Q5 := of_decide_eq_false Q5
  obtain ⟨g2, rfl⟩ := own_ne_none ho hA2
  refine cd_exit ?_
  refine ex_then (ex_then (ex_block (nx_then (cd_seq (cd_region ?_)))))
  refine mvs rfl ?_
  refine st_call FmFind_k36 (sort_some _ c2 g2 0 j (cI (SA.plc L F (rwF L p) j)) _ (ho.kept_from From.rfl_) (by rw [List.length_map, plc_len]) (by rw [List.length_map, plc_len]; omega)) ?_
  rintro v38 w9 ⟨ho38, hg38⟩
  refine st_nil (nx_then (cd_seq (cd_region ?_)))
  refine mvs rfl ?_
  refine ass rfl ?_
  refine asi rfl ?_
  refine st_nil (nx_then (cd_ret ?_))
  refine res2 (v := .slice _ _ _) (v' := .int _ _) rfl rfl rfl ?_
  obtain rfl : j = rwT L p - rwF L p := by omega
  have hs := srt_plc hSA hp0
  rw [← plc_rw] at hs
  rw [hs] at ho38
  have hl9 : rwT L p - rwF L p = (fndL L p).length := by have := (RowOf.own ho38).1; rwa [List.length_map] at this
  rw [hl9] at ho38 ⊢
  exact ⟨⟨fndL L p, 0, _, _, .inr (.inr ⟨p, hqp, hp0, hpK, rfl, rfl⟩), rfl, ho38.kept_from From.rfl_⟩, ((hB).grew hg38 (fun k hk => (own_at (ho.kept_from From.rfl_) k hk).1))⟩
end Go.Proofs.Ytepdgbglaiimaaa

namespace Go.Proofs.Ytepdgbglaiimaaa
open Go.RowKit
open Go.ChangeShapes Go.WideShapes Go.ChangeAt
open Go.Proofs.Ytepdgbglaiimaaa.SA
/-- what Place tells -/
noncomputable def plV (L F : List Nat) (i : Int) : Int := if 0 ≤ i ∧ i ≤ L.length then ((rowS L F i.toNat : Nat) : Int) else 0
noncomputable def plE (L : List Nat) (i : Int) : Int := if 0 ≤ i ∧ i ≤ L.length then 0 else 3
/-- the cells of a part, as far as it is read -/
def txF (L : List Nat) (fr t i : Nat) : Int := if t ≤ fr + i then ((L.getD (fr + i) 0 : Nat) : Int) else 0
end Go.Proofs.Ytepdgbglaiimaaa

namespace Go.Proofs.Ytepdgbglaiimaaa
open Go.RowKit
open Go.ChangeShapes Go.WideShapes Go.ChangeAt
open Go.Proofs.Ytepdgbglaiimaaa.SA
/-- no list has these symbols with this row -/
def Bad (n : Nat) (at_ : Int) (xs : List Int) : Prop := ∀ (B : List Nat) (a : Nat), xs = cI B → (∀ x ∈ B, x < 512) → at_ = (a : Nat) → a ≤ n → ¬ Circ n (fun i => B.getD i 0) a
/-- what Back tells -/
def BackA (w' : World) (base n : Nat) (at_ : Int) (xs : List Int) (v : Value) : Prop :=
  (∃ B a A', xs = cI B ∧ (∀ x ∈ B, x < 512) ∧ at_ = (a : Nat) ∧ a ≤ n ∧ Circ n (fun i => B.getD i 0) a ∧ v = .tuple #[.slice A' n n, .int .i64 0] ∧ w'.ownsRow base 3 1 (.slice A' n n) n ((wl n (fun i => B.getD i 0) a).map fun x : Nat => iV (x : Nat))) ∨
  (Bad n at_ xs ∧ v = .tuple #[.slice none 0 0, .int .i64 1])
end Go.Proofs.Ytepdgbglaiimaaa

namespace Go.Proofs.Ytepdgbglaiimaaa
open Go.RowKit
open Go.ChangeShapes Go.WideShapes Go.ChangeAt
open Go.Proofs.Ytepdgbglaiimaaa.SA
end Go.Proofs.Ytepdgbglaiimaaa

namespace Go.Proofs.Ytepdgbglaiimaaa
open Go.RowKit
open Go.ChangeShapes Go.WideShapes Go.ChangeAt
open Go.Proofs.Ytepdgbglaiimaaa.SA
theorem FmRef_e22 : elemQ Try.prog 22 = some (3, 1) := by kernel_rfl
theorem FmRef_q22 : litQ Try.prog 22 = some (3, 1, 8, (.int .i64 0)) := by kernel_rfl
theorem FmRef_l22 : (elemQ Try.prog 22).isSome = true := by kernel_rfl
theorem FmRef_g3 : aggQ Try.prog 3 = some false := by kernel_rfl
theorem FmRef_k29 : callable Try.prog 29 = true := by kernel_rfl
theorem bg_no_len {L p : List Nat} {i : Nat} (hi : i ≤ L.length) (h : L.length < i + p.length) : ¬ pBg (endT L) i p := fun hb => by
  have := ((bg_iff hi).1 hb).1
  omega
theorem bg_no_at {L p : List Nat} {i k : Nat} (hi : i ≤ L.length) (hk : k < p.length) (h : L.getD (i + k) 0 ≠ p.getD k 0) : ¬ pBg (endT L) i p := fun hb => h (((bg_iff hi).1 hb).2 k hk)
set_option maxHeartbeats 1000000 in
theorem begins_rt (A D : Option Addr) (ca cp n m i : Nat) (L p : List Nat) (w : World) (hr : RowOf iV w A (cI L)) (hn : n = L.length) (hp : RowOf iV w D (cI p)) (hm : m = p.length) (hi : i ≤ n) (hl : n ≤ 1000000) (hl2 : m ≤ 1000000) :
    Rt Try.prog 29 [.slice A n ca, .int .i64 (i : Nat), .slice D m cp] w (fun v w' => (∃ b : Bool, v = .bool b ∧ (b = true ↔ pBg (endT L) i p)) ∧ From w w') := by
  refine enter (n := 32) Try.func29 rfl rfl rfl ?_
  refine cd_seq (cd_region ?_)
  refine asb rfl ?_
  refine st_nil (nx_then (cd_seq (cd_seq (cd_region ?_))))
  refine mvs rfl ?_
  refine st_val (ro_len FmRef_l22 rfl) ?_
  refine mvs rfl ?_
  refine st_val (ro_len FmRef_l22 rfl) ?_
  refine mvi rfl ?_
  refine st_val (ro_subN rfl rfl (by omega)) ?_
  refine st_val (ro_gtr rfl rfl) ?_
  refine st_nil (nx_then ?_)
  refine cd_cond rfl (fun Q1 => ?_) (fun Q1 => ?_)
  · with_reducible replace Q1 := of_decide_eq_true Q1
    refine cd_seq (cd_region ?_)
    refine asb rfl ?_
    refine st_nil (nx_then (cd_ret (rt_then ?_)))
    refine res1 (v := .bool _) rfl rfl ?_
    exact ⟨⟨false, rfl, fun h => (by cases h), fun h => absurd h (bg_no_len (by omega) (by omega))⟩, From.rfl_⟩
  with_reducible replace Q1 := of_decide_eq_false Q1
  refine cd_skip (nx_then (cd_seq (cd_seq (cd_region ?_))))
  refine asi rfl ?_
  refine st_nil (nx_then (cd_block ?_))
  refine cd_loop (G := Nat) [6, 15, 16, 17, 18, 19, 20, 21, 22, 23, 24, 25, 26, 27, 28, 29, 30, 31] (fun k => [(7, .int .i64 (k : Nat))]) (fun k w' => k ≤ m ∧ (∀ x, x < k → L.getD (i + x) 0 = p.getD x 0) ∧ From w w') (fun k => m - k) (0) ⟨rfl, trivial⟩ ?_ ?_
  · exact ⟨Nat.zero_le _, fun x h => absurd h (by omega), From.rfl_⟩
  rintro k ρ2 w2 ⟨hk, he, hB⟩
  refine cd_seq (cd_seq (cd_region ?_))
  refine mvi rfl ?_
  refine mvs rfl ?_
  refine st_val (ro_len FmRef_l22 rfl) ?_
  refine st_val (ro_lss rfl rfl) ?_
  refine st_nil (nx_then ?_)
  refine cd_cond rfl (fun Q3 => ?_) (fun Q3 => ?_)
  · with_reducible replace Q3 := of_decide_eq_true Q3
    obtain ⟨bA, oA, rfl, hca⟩ := rowD hr (by omega)
    obtain ⟨bD, oD, rfl, hcd⟩ := rowD hp (by omega)
    refine cd_skip (nx_then (cd_seq (cd_block (cd_seq ?_))))
    apply cd_drawn 11 [(21, eqp _), (22, eqp _), (23, eqp _), (24, eqp _), (25, eqp _), (26, eqp _), (27, eqp _), (28, eqp _), (29, eqp _), (30, eqp _), (31, eqp _)] (by kernel_rfl) (by kernel_rfl) ⟨eqp_mono _, eqp_mono _, eqp_mono _, eqp_mono _, eqp_mono _, eqp_mono _, eqp_mono _, eqp_mono _, eqp_mono _, eqp_mono _, eqp_mono _, trivial⟩
    case hop =>
     refine ⟨?_, ?_⟩
     · intro w5 D5
       show OpOK _ _ _ _ _ _ _
       exact ok_pure (ro_move (v := .slice _ _ _) rfl) rfl
     refine ⟨?_, ?_⟩
     · intro w6 D6
       show OpOK _ _ _ _ _ _ _
       exact ok_pure (ro_move (v := .int _ _) rfl) rfl
     refine ⟨?_, ?_⟩
     · intro w7 D7
       show OpOK _ _ _ _ _ _ _
       exact ok_pure (ro_move (v := .int _ _) rfl) rfl
     refine ⟨?_, ?_⟩
     · intro w8 D8
       rintro _ rfl _ rfl
       show OpOK _ _ _ _ _ _ _
       exact ok_pure (ro_addN rfl rfl (by omega)) rfl
     refine ⟨?_, ?_⟩
     · intro w9 D9
       rintro _ rfl _ rfl
       show OpOK _ _ _ _ _ _ _
       exact ok_pure (ro_indexAddr1 FmRef_e22 rfl rfl (by omega)) rfl
     refine ⟨?_, ?_⟩
     · intro w10 D10
       rintro _ rfl
       show OpOK _ _ _ _ _ _ _
       exact ok_pure (ro_load FmRef_g3 rfl (by exact cellF (hB.next D10) (hca (i + k) (by omega)))) rfl
     refine ⟨?_, ?_⟩
     · intro w11 D11
       show OpOK _ _ _ _ _ _ _
       exact ok_pure (ro_move (v := .slice _ _ _) rfl) rfl
     refine ⟨?_, ?_⟩
     · intro w12 D12
       show OpOK _ _ _ _ _ _ _
       exact ok_pure (ro_move (v := .int _ _) rfl) rfl
     refine ⟨?_, ?_⟩
     · intro w13 D13
       rintro _ rfl _ rfl
       show OpOK _ _ _ _ _ _ _
       exact ok_pure (ro_indexAddr1 FmRef_e22 rfl rfl (by omega)) rfl
     refine ⟨?_, ?_⟩
     · intro w14 D14
       rintro _ rfl
       show OpOK _ _ _ _ _ _ _
       exact ok_pure (ro_load FmRef_g3 rfl (by exact cellF (hB.next D14) (hcd k (by omega)))) rfl
     refine ⟨?_, ?_⟩
     · intro w15 D15
       rintro _ rfl _ rfl
       show OpOK _ _ _ _ _ _ _
       exact ok_pure (ro_neq rfl rfl) rfl
     exact trivial
    case hend =>
     intro w16 D16
     rintro _ rfl _ rfl _ rfl _ rfl _ rfl _ rfl _ rfl _ rfl _ rfl _ rfl _ rfl
     show St _ _ _ _ _ _ _
     refine st_nil (nx_then ?_)
     refine cd_cond rfl (fun Q17 => ?_) (fun Q17 => ?_)
     · with_reducible replace Q17 := bx_t Q17
       refine cd_seq (cd_region ?_)
       refine asb rfl ?_
       refine st_nil (nx_then (cd_ret (rt_block (rt_then (rt_then (rt_block (rt_then ?_)))))))
       refine res1 (v := .bool _) rfl rfl ?_
       exact ⟨⟨false, rfl, fun h => (by cases h), fun h => absurd h (bg_no_at (k := k) (by omega) (by omega) (by omega))⟩, (hB.next D16)⟩
     with_reducible replace Q17 := bx_f Q17
     refine cd_skip (nx_block (nx_then (cd_region ?_)))
     refine mvi rfl ?_
     refine st_val (ro_addN (b := 1) rfl rfl (by omega)) ?_
     refine asi rfl ?_
     refine st_nil ?_
     refine nx_cut (k + 1) ⟨(by first | rfl | (refine int_eq ?_; omega)), trivial⟩ (by (iterate 37 refine agr_cons rfl ?_); exact agr_rfl) ⟨?_, ?_⟩
     · exact ⟨by omega, fun x hx => by
         rcases Nat.eq_or_lt_of_le (Nat.le_of_lt_succ hx) with e | e
         · subst e; omega
         · exact he x e, (hB.next D16)⟩
     · show m - (k + 1) < m - k; omega
  with_reducible replace Q3 := of_decide_eq_false Q3
  refine cd_exit ?_
  refine ex_then (ex_then (ex_block (nx_then (cd_seq (cd_region ?_)))))
  refine asb rfl ?_
  refine st_nil (nx_then (cd_ret ?_))
  refine res1 (v := .bool _) rfl rfl ?_
  exact ⟨⟨true, rfl, fun _ => (bg_iff (by omega)).2 ⟨by omega, fun x hx => he x (by omega)⟩, fun _ => rfl⟩, hB⟩
set_option maxHeartbeats 1000000 in
theorem refFind_rt (A D : Option Addr) (ca cp n m : Nat) (L p : List Nat) (w : World) (hr : RowOf iV w A (cI L)) (hn : n = L.length) (hp : RowOf iV w D (cI p)) (hm : m = p.length) (hl : n ≤ 131072) (hl2 : m ≤ 1000000) :
    Rt Try.prog 17 [.slice A n ca, .slice D m cp] w (fun v w' => (∃ A' c', v = .slice A' (fndL L p).length c' ∧ w'.ownsRow w.heap.size 3 1 (.slice A' (fndL L p).length c') (fndL L p).length ((cI (fndL L p)).map iV)) ∧ From w w') := by
  refine enter (n := 22) Try.func17 rfl rfl rfl ?_
  refine cd_seq (cd_region ?_)
  refine ass rfl ?_
  refine st_nil (nx_then (cd_seq (cd_region ?_)))
  refine ass rfl ?_
  refine st_nil (nx_then (cd_seq (cd_seq (cd_region ?_))))
  refine asi rfl ?_
  refine st_nil (nx_then (cd_block ?_))
  refine cd_loop (G := Nat × Option Addr × Nat) [7, 8, 9, 10, 11, 12, 13, 14, 15, 16, 17, 18, 19, 20] (fun (i, A2, c2) => [(5, .slice A2 (fndTo L p i).length c2), (6, .int .i64 (i : Nat))]) (fun (i, A2, c2) w' => i ≤ n ∧ w'.ownsRow w.heap.size 3 1 (.slice A2 (fndTo L p i).length c2) (fndTo L p i).length ((cI (fndTo L p i)).map iV) ∧ From w w') (fun (i, _, _) => n - i) ((0, none, 0)) ⟨rfl, rfl, trivial⟩ ?_ ?_
  · exact ⟨Nat.zero_le _, World.ownsRow_nil _ _ _ _, From.rfl_⟩
  rintro ⟨i, A2, c2⟩ ρ1 w1 ⟨hi, ho, hB⟩
  refine cd_seq (cd_seq (cd_region ?_))
  refine mvi rfl ?_
  refine mvs rfl ?_
  refine st_val (ro_len FmRef_l22 rfl) ?_
  refine st_val (ro_lss rfl rfl) ?_
  refine st_nil (nx_then ?_)
  refine cd_cond rfl (fun Q2 => ?_) (fun Q2 => ?_)
  · with_reducible replace Q2 := of_decide_eq_true Q2
    refine cd_skip (nx_then ?_)
    refine cd_cut (G := Option Addr × Nat) [13, 14, 15, 16, 17, 18, 19, 20] (fun (A2', c2') => [(5, .slice A2' (fndTo L p (i + 1)).length c2')]) (fun (A2', c2') w' => w'.ownsRow w.heap.size 3 1 (.slice A2' (fndTo L p (i + 1)).length c2') (fndTo L p (i + 1)).length ((cI (fndTo L p (i + 1))).map iV) ∧ From w w') ?_ ?_
    · refine cd_block (cd_seq (cd_region ?_))
      refine mvs rfl ?_
      refine mvi rfl ?_
      refine mvs rfl ?_
      refine st_call FmRef_k29 (begins_rt A D ca cp n m i L p _ (hr.from_ hB) hn (hp.from_ hB) hm (by omega) (by omega) hl2) ?_
      rintro v16 w3 ⟨⟨b16, rfl, hb16⟩, E16⟩
      refine st_nil (nx_then ?_)
      refine cd_cond rfl (fun Q4 => ?_) (fun Q4 => ?_)
      · have hbt : b16 = true := Q4
        have hfl := fndTo_le (L := L) (p := p) (k := i)
        refine cd_region ?_
        refine mvs rfl ?_
        refine mvi rfl ?_
        refine st_lit1 (v := .int _ _) FmRef_q22 rfl rfl rfl ?_
        intro b19 w5 E19 hb19 hk19
        refine st_appendB FmRef_q22 rfl (by decide) rfl (A := A2) (xs := (cI (fndTo L p i)).map iV) (news := [iV ((i : Nat) : Int)]) (ho.kept_from ((From.rfl_.next E16).next E19)) (((hB.next E16).next E19).size) rfl rfl (fun _ => ⟨b19, 0, rfl, hk19.whole⟩) (fun h => by cases h) (by simp [Value.oneCell']) (by omega) (by omega) ?_
        intro A20 c20 w6 ho20 hg20
        have HF20 := (((hB.next E16).next E19)).grew hg20 (fun k hk => (own_at (ho.kept_from ((From.rfl_.next E16).next E19)) k hk).1)
        refine ass rfl ?_
        refine st_nil (nx_block ?_)
        refine nx_cut ((A20, c20)) ⟨(by rw [fndTo_yes (hb16.1 hbt), List.length_append]; rfl), trivial⟩ (by (iterate 9 refine agr_cons rfl ?_); exact agr_rfl) ?_
        exact ⟨by rw [fndTo_yes (hb16.1 hbt), List.length_append, cI_push]; exact ho20.kept_from From.rfl_, HF20⟩
      have hbf : ¬ pBg (endT L) i p := fun h => by have := hb16.2 h; simp_all
      refine cd_skip (nx_block ?_)
      refine nx_cut ((A2, c2)) ⟨(by rw [fndTo_no hbf]; rfl), trivial⟩ (by (iterate 4 refine agr_cons rfl ?_); exact agr_rfl) ?_
      exact ⟨by rw [fndTo_no hbf]; exact ho.kept_from (From.rfl_.next E16), (hB.next E16)⟩
    rintro ⟨A2', c2'⟩ ρ7 w7 ⟨ho', hB⟩
    refine cd_region ?_
    refine mvi rfl ?_
    refine st_val (ro_addN (b := 1) rfl rfl (by omega)) ?_
    refine asi rfl ?_
    refine st_nil ?_
    refine nx_cut ((i + 1, A2', c2')) ⟨(by first | rfl | (refine int_eq ?_; omega)), (by first | rfl | (refine int_eq ?_; omega)), trivial⟩ (by (iterate 32 refine agr_cons rfl ?_); exact agr_rfl) ⟨?_, ?_⟩
    · exact ⟨by omega, ho'.kept_from From.rfl_, hB⟩
    · show n - (i + 1) < n - i; omega
  with_reducible replace Q2 := of_decide_eq_false Q2
  refine cd_exit ?_
  refine ex_then (ex_then (ex_block (nx_then (cd_seq (cd_region ?_)))))
  refine mvs rfl ?_
  refine ass rfl ?_
  refine st_nil (nx_then (cd_ret ?_))
  refine res1 (v := .slice _ _ _) rfl rfl ?_
  obtain rfl : n = i := by omega
  rw [hn] at ho ⊢
  exact ⟨⟨A2, c2, rfl, ho.kept_from From.rfl_⟩, hB⟩
end Go.Proofs.Ytepdgbglaiimaaa

namespace Go.Proofs.Ytepdgbglaiimaaa
open Go.RowKit
open Go.ChangeShapes Go.WideShapes Go.ChangeAt
open Go.Proofs.Ytepdgbglaiimaaa.SA
theorem FmHelp_q22 : litQ Try.prog 22 = some (3, 1, 8, (.int .i64 0)) := by kernel_rfl
theorem FmHelp_f25_1 : fieldQ Try.prog 25 1 = some 1 := by kernel_rfl
theorem FmHelp_g22 : aggQ Try.prog 22 = some false := by kernel_rfl
theorem FmHelp_l22 : (elemQ Try.prog 22).isSome = true := by kernel_rfl
theorem FmHelp_f25_2 : fieldQ Try.prog 25 2 = some 2 := by kernel_rfl
theorem FmHelp_g23 : aggQ Try.prog 23 = some false := by kernel_rfl
theorem FmHelp_l23 : (elemQ Try.prog 23).isSome = true := by kernel_rfl
theorem FmHelp_e23 : elemQ Try.prog 23 = some (22, 1) := by kernel_rfl
theorem FmHelp_f25_3 : fieldQ Try.prog 25 3 = some 3 := by kernel_rfl
theorem FmHelp_k28 : callable Try.prog 28 = true := by kernel_rfl
theorem FmHelp_k24 : callable Try.prog 24 = true := by kernel_rfl
theorem FmHelp_k15 : callable Try.prog 15 = true := by kernel_rfl
theorem FmHelp_k18 : callable Try.prog 18 = true := by kernel_rfl
theorem FmHelp_k19 : callable Try.prog 19 = true := by kernel_rfl
theorem FmHelp_k16 : callable Try.prog 16 = true := by kernel_rfl
theorem FmHelp_f25_0 : fieldQ Try.prog 25 0 = some 0 := by kernel_rfl
theorem FmHelp_g3 : aggQ Try.prog 3 = some false := by kernel_rfl
theorem FmHelp_k20 : callable Try.prog 20 = true := by kernel_rfl
theorem FmHelp_k27 : callable Try.prog 27 = true := by kernel_rfl
theorem FmHelp_p27 : Try.prog.underlying 27 = some (.pointer (Try.prog.pointee 27)) := by kernel_rfl
theorem FmHelp_f56_0 : fieldQ Try.prog 56 0 = some 0 := by kernel_rfl
theorem FmHelp_g52 : aggQ Try.prog 52 = some false := by kernel_rfl
theorem FmHelp_p52 : Try.prog.underlying 52 = some (.pointer (Try.prog.pointee 52)) := by kernel_rfl
/-- patterns -/
def PatsAt (w : World) (D : Option Addr) (ps : List (List Int)) : Prop := 0 < ps.length → ∃ b o, D = some ⟨b, o, none⟩ ∧ ∀ (i : Nat) (hi : i < ps.length), ∃ (A : Option Addr) (c : Nat), w.cell? ⟨b, o + i, none⟩ = some (.slice A ps[i].length c) ∧ RowOf iV w A ps[i] ∧ ps[i].length * 8 ≤ 140737488351232 ∧ ps[i].length ≤ c
theorem PatsAt.from_ {w w' : World} {D : Option Addr} {ps : List (List Int)} (h : PatsAt w D ps) (hF : From w w') : PatsAt w' D ps := fun h0 => by
  obtain ⟨b, o, rfl, hc⟩ := h h0
  refine ⟨b, o, rfl, fun i hi => ?_⟩
  obtain ⟨A, c, h1, h2, h3⟩ := hc i hi
  exact ⟨A, c, cellF hF h1, h2.from_ hF, h3⟩
/-- an ask -/
structure AskF (w : World) (k : Int) (A D B : Option Addr) (L : List Int) (ps : List (List Int)) (is : List Int) : Prop where
  rowL : RowOf iV w A L
  lenL : L.length * 8 ≤ 140737488351232
  pats : PatsAt w D ps
  lenP : ps.length * 24 ≤ 140737488351232
  rowI : RowOf iV w B is
  b64 : ∀ x ∈ is, -9223372036854775808 ≤ x ∧ x ≤ 9223372036854775807
  lenI : is.length * 8 ≤ 140737488351232
theorem AskF.from_ {w w' : World} {k : Int} {A D B : Option Addr} {L : List Int} {ps : List (List Int)} {is : List Int} (h : AskF w k A D B L ps is) (hF : From w w') : AskF w' k A D B L ps is := ⟨h.rowL.from_ hF, h.lenL, h.pats.from_ hF, h.lenP, h.rowI.from_ hF, h.b64, h.lenI⟩
theorem ask_of6 {w : World} {cs : Array Value} {x : (Ty.pr (.int .i64) (.pr (.sl (.int .i64)) (.pr (.sl (.sl (.int .i64))) (.pr (.sl (.int .i64)) .unit)))).den} (hs : cs.size = 4) (h : (Ty.pr (.int .i64) (.pr (.sl (.int .i64)) (.pr (.sl (.sl (.int .i64))) (.pr (.sl (.int .i64)) .unit)))).At w (fun j => cs[j]?) x) :
    ∃ (k : Int) (A : Option Addr) (ca : Nat) (L : List Int) (D : Option Addr) (cp : Nat) (ps : List (List Int)) (B : Option Addr) (cb : Nat) (is : List Int), cs = #[.int .i64 k, .slice A L.length ca, .slice D ps.length cp, .slice B is.length cb] ∧ AskF w k A D B L ps is ∧ L.length ≤ ca := by
  obtain ⟨h0, h1, h2, h3, _⟩ := h
  obtain ⟨A, ca, a0, a1, a2, a3, a4⟩ := at_nums h1
  obtain ⟨B, cb, b0, b1, b2, b3, _⟩ := at_nums h3
  obtain ⟨D, cp, d0, d1, _, d3⟩ := h2
  have e : cs[0]? = some _ := h0.1
  have e0 : cs[1]? = some _ := a0
  have e1 : cs[2]? = some _ := d0
  have e2 : cs[3]? = some _ := b0
  refine ⟨x.1, A, ca, x.2.1, D, cp, x.2.2.1, B, cb, x.2.2.2.1, ?_, ⟨a1, a3, ?_, d1, b1, b2, b3⟩, a4⟩
  · obtain ⟨l⟩ := cs
    match l, hs with
    | [a, b, c, d], _ =>
      simp only [List.getElem?_toArray, List.getElem?_cons_zero, List.getElem?_cons_succ, Option.some.injEq] at e e0 e1 e2
      rw [e, e0, e1, e2]
      rfl
  · intro hp
    obtain ⟨b, o, hD, _, hi⟩ := d3 hp
    refine ⟨b, o, hD, fun i hlt => ?_⟩
    obtain ⟨A, c, c0, c1, _, c3, c4⟩ := at_nums (hi i _ (List.getElem?_eq_getElem hlt))
    exact ⟨A, c, by simpa [Ty.size] using c0, c1, c3, c4⟩
/-- few enough to be played -/
structure Light (L : List Int) (ps : List (List Int)) (is : List Int) : Prop where
  l : L.length ≤ 400
  p : ps.length ≤ 40
  i : is.length ≤ 30
  q : ∀ (j : Nat) (hj : j < ps.length), ps[j].length ≤ 400
theorem FmAt.le {w : World} {base base2 b K a : Nat} {L B F : List Nat} (h : FmAt w base b K a L B F) (hl : base2 ≤ base) : FmAt w base2 b K a L B F := by
  obtain ⟨hb0, hSA, hbw, hLn, hK, tb, AS, cs, gr, hI, hT, ho, hR, hgr⟩ := h
  exact ⟨by omega, hSA, hbw, hLn, hK, tb, AS, cs, gr, hI, hT.le hl, own_le ho hl, hR, by omega⟩
theorem any_bad {k : Int} : ∀ {xs : List Int}, xs.any (badSym k) = !xs.all (okS k)
  | [] => rfl
  | x :: xs => by
    rw [List.any_cons, List.all_cons, any_bad]
    have : badSym k x = !okS k x := by
      unfold badSym okS
      by_cases h : 0 ≤ x <;> by_cases h2 : x < k <;> simp [h, h2] <;> omega
    rw [this, Bool.not_and]
/-- what asks tells of a pattern -/
def askE (k : Int) (q : List Int) : Int := if q.length = 0 then 5 else if q.all (okS k) then 0 else 1
set_option maxHeartbeats 400000 in
theorem num_any (e : Int) (w : World) :
    Rt Try.prog 15 [.int .i64 e] w (fun v w' => v = .int .i64 e ∧ w = w') := by
  refine enter (n := 4) Try.func15 rfl rfl rfl ?_
  refine cd_seq (cd_region ?_)
  refine asi rfl ?_
  refine st_nil (nx_then (cd_seq (cd_region ?_)))
  refine mvi rfl ?_
  refine asi rfl ?_
  refine st_nil (nx_then (cd_ret ?_))
  refine res1 (v := .int _ _) rfl rfl ?_
  exact ⟨rfl, rfl⟩
set_option maxHeartbeats 2000000 in
theorem heavy_rt (k : Int) (A D B : Option Addr) (ca cp cb : Nat) (L : List Int) (ps : List (List Int)) (is : List Int) (w : World) (ha : AskF w k A D B L ps is) :
    Rt Try.prog 8 [.agg #[.int .i64 k, .slice A L.length ca, .slice D ps.length cp, .slice B is.length cb]] w (fun v w' => (∃ h : Bool, v = .bool h ∧ (h = false → Light L ps is)) ∧ From w w') := by
  have hlenL := ha.lenL
  have hlenP := ha.lenP
  have hlenI := ha.lenI
  refine enter (n := 42) Try.func8 rfl rfl rfl ?_
  refine cd_seq (cd_region ?_)
  refine st_box (v := .agg _) rfl ?_
  intro b1 w1 E1 hb1 hk1
  refine asb rfl ?_
  refine st_nil (nx_then (cd_seq (cd_region ?_)))
  refine st_val (ro_fieldAddr FmHelp_f25_1 rfl) ?_
  refine st_val (ro_load FmHelp_g22 rfl (by exact (hk1.from_ From.rfl_).rd 1 rfl)) ?_
  refine st_val (ro_len FmHelp_l22 rfl) ?_
  refine asi rfl ?_
  refine st_nil (nx_then (cd_seq (cd_seq (cd_region ?_))))
  refine asi rfl ?_
  refine st_nil (nx_then (cd_block ?_))
  refine cd_loop (G := Nat × Nat) [8, 9, 10, 11, 12, 13, 14, 15, 16, 17, 18, 19, 20, 21, 22, 23, 24, 25, 26, 27] (fun (n, i) => [(3, .int .i64 (n : Nat)), (4, .int .i64 (i : Nat))]) (fun (n, i) w' => i ≤ ps.length ∧ L.length ≤ n ∧ n ≤ 17592186045500 ∧ (∀ (j : Nat) (hj : j < i) (hp : j < ps.length), ps[j].length ≤ n) ∧ Blk w' b1 25 #[.int .i64 k, .slice A L.length ca, .slice D ps.length cp, .slice B is.length cb] ∧ From w w') (fun (_, i) => ps.length - i) ((L.length, 0)) ⟨rfl, rfl, trivial⟩ ?_ ?_
  · exact ⟨Nat.zero_le _, Nat.le_refl _, by omega, fun j h => absurd h (by omega), hk1, (From.rfl_.next E1)⟩
  rintro ⟨n, i⟩ ρ2 w2 ⟨hi, hLn, hnb, hall, hk1, hB⟩
  refine cd_seq (cd_seq (cd_region ?_))
  refine mvi rfl ?_
  refine st_val (ro_fieldAddr FmHelp_f25_2 rfl) ?_
  refine st_val (ro_load FmHelp_g23 rfl (by exact (hk1.from_ From.rfl_).rd 2 rfl)) ?_
  refine st_val (ro_len FmHelp_l23 rfl) ?_
  refine st_val (ro_lss rfl rfl) ?_
  refine mvb rfl ?_
  refine st_split (t := 13) rfl (fun Q3 => ?_) (fun Q3 => ?_)
  · with_reducible replace Q3 := of_decide_eq_true Q3
    refine st_unguard rfl ?_
    refine mvi rfl ?_
    refine st_unguard rfl ?_
    refine st_val (ro_lss rfl rfl) ?_
    refine st_val (ro_pickT (v := .bool _) rfl rfl) ?_
    refine st_nil (nx_then ?_)
    refine cd_cond rfl (fun Q4 => ?_) (fun Q4 => ?_)
    · with_reducible replace Q4 := of_decide_eq_true Q4
      obtain ⟨bD, oD, rfl, hcD⟩ := ha.pats (by omega)
      obtain ⟨A9, c9, hce, _, hce3⟩ := hcD i (by omega)
      refine cd_skip (nx_then (cd_seq (cd_block (cd_region ?_))))
      refine mvi rfl ?_
      refine st_val (ro_fieldAddr FmHelp_f25_2 rfl) ?_
      refine st_val (ro_load FmHelp_g23 rfl (by exact (hk1.from_ From.rfl_).rd 2 rfl)) ?_
      refine mvi rfl ?_
      refine st_val (ro_indexAddr1 FmHelp_e23 rfl rfl (by omega)) ?_
      refine st_val (ro_load FmHelp_g22 rfl (by exact cellF hB hce)) ?_
      refine st_val (ro_len FmHelp_l22 rfl) ?_
      refine st_val (ro_addN rfl rfl (by omega)) ?_
      refine st_val (ro_addN (b := 1) rfl rfl (by omega)) ?_
      refine asi rfl ?_
      refine st_nil (nx_block (nx_then (cd_region ?_)))
      refine mvi rfl ?_
      refine st_val (ro_addN (b := 1) rfl rfl (by omega)) ?_
      refine asi rfl ?_
      refine st_nil ?_
      refine nx_cut ((n + ps[i].length + 1, i + 1)) ⟨(by first | rfl | (refine int_eq ?_; omega)), (by first | rfl | (refine int_eq ?_; omega)), trivial⟩ (by (iterate 45 refine agr_cons rfl ?_); exact agr_rfl) ⟨?_, ?_⟩
      · exact ⟨by omega, by omega, by omega, fun j hj hp => by
          rcases Nat.eq_or_lt_of_le (Nat.le_of_lt_succ hj) with e | e
          · subst e; omega
          · have := hall j e hp; omega, hk1.from_ From.rfl_, hB⟩
      · show ps.length - (i + 1) < ps.length - i; omega
    with_reducible replace Q4 := of_decide_eq_false Q4
    refine cd_exit ?_
    refine ex_then (ex_then (ex_block (nx_then (cd_seq (cd_region ?_)))))
    refine mvi rfl ?_
    refine st_val (ro_gtr rfl rfl) ?_
    refine mvb rfl ?_
    refine st_split (t := 30) rfl (fun Q5 => ?_) (fun Q5 => ?_)
    rotate_left
    · with_reducible replace Q5 := of_decide_eq_false Q5
      exfalso; omega
    with_reducible replace Q5 := of_decide_eq_true Q5
    refine st_gno rfl rfl ?_
    refine st_gno rfl rfl ?_
    refine st_gno rfl rfl ?_
    refine st_gno rfl rfl ?_
    refine st_val (ro_pickT (v := .bool _) rfl rfl) ?_
    refine mvb rfl ?_
    refine st_gno rfl rfl ?_
    refine st_gno rfl rfl ?_
    refine st_gno rfl rfl ?_
    refine st_gno rfl rfl ?_
    refine st_val (ro_pickT (v := .bool _) rfl rfl) ?_
    refine asb rfl ?_
    refine st_nil (nx_then (cd_ret ?_))
    refine res1 (v := .bool _) rfl rfl ?_
    refine ⟨⟨_, rfl, fun h => ?_⟩, hB⟩
    first
      | (cases h; done)
      | (have hq := of_decide_eq_false h; exact ⟨by omega, by omega, by omega, fun j hj => by have := hall j (by omega) hj; omega⟩)
  with_reducible replace Q3 := of_decide_eq_false Q3
  refine st_gno rfl rfl ?_
  refine st_gno rfl rfl ?_
  refine st_val (ro_pickF (v := .bool _) rfl rfl) ?_
  refine st_nil (nx_then ?_)
  refine cd_condF rfl ?_
  refine cd_exit ?_
  refine ex_then (ex_then (ex_block (nx_then (cd_seq (cd_region ?_)))))
  refine mvi rfl ?_
  refine st_val (ro_gtr rfl rfl) ?_
  refine mvb rfl ?_
  refine st_split (t := 30) rfl (fun Q7 => ?_) (fun Q7 => ?_)
  · with_reducible replace Q7 := of_decide_eq_true Q7
    refine st_gno rfl rfl ?_
    refine st_gno rfl rfl ?_
    refine st_gno rfl rfl ?_
    refine st_gno rfl rfl ?_
    refine st_val (ro_pickT (v := .bool _) rfl rfl) ?_
    refine mvb rfl ?_
    refine st_gno rfl rfl ?_
    refine st_gno rfl rfl ?_
    refine st_gno rfl rfl ?_
    refine st_gno rfl rfl ?_
    refine st_val (ro_pickT (v := .bool _) rfl rfl) ?_
    refine asb rfl ?_
    refine st_nil (nx_then (cd_ret ?_))
    refine res1 (v := .bool _) rfl rfl ?_
    refine ⟨⟨_, rfl, fun h => ?_⟩, hB⟩
    first
      | (cases h; done)
      | (have hq := of_decide_eq_false h; exact ⟨by omega, by omega, by omega, fun j hj => by have := hall j (by omega) hj; omega⟩)
  with_reducible replace Q7 := of_decide_eq_false Q7
  refine st_unguard rfl ?_
  refine st_val (ro_fieldAddr FmHelp_f25_2 rfl) ?_
  refine st_unguard rfl ?_
  refine st_val (ro_load FmHelp_g23 rfl (by exact (hk1.from_ From.rfl_).rd 2 rfl)) ?_
  refine st_unguard rfl ?_
  refine st_val (ro_len FmHelp_l23 rfl) ?_
  refine st_unguard rfl ?_
  refine st_val (ro_gtr rfl rfl) ?_
  refine st_val (ro_pickF (v := .bool _) rfl rfl) ?_
  refine mvb rfl ?_
  refine st_split (t := 36) rfl (fun Q8 => ?_) (fun Q8 => ?_)
  · with_reducible replace Q8 := of_decide_eq_true Q8
    refine st_gno rfl rfl ?_
    refine st_gno rfl rfl ?_
    refine st_gno rfl rfl ?_
    refine st_gno rfl rfl ?_
    refine st_val (ro_pickT (v := .bool _) rfl rfl) ?_
    refine asb rfl ?_
    refine st_nil (nx_then (cd_ret ?_))
    refine res1 (v := .bool _) rfl rfl ?_
    refine ⟨⟨_, rfl, fun h => ?_⟩, hB⟩
    first
      | (cases h; done)
      | (have hq := of_decide_eq_false h; exact ⟨by omega, by omega, by omega, fun j hj => by have := hall j (by omega) hj; omega⟩)
  with_reducible replace Q8 := of_decide_eq_false Q8
  refine st_unguard rfl ?_
  refine st_val (ro_fieldAddr FmHelp_f25_3 rfl) ?_
  refine st_unguard rfl ?_
  refine st_val (ro_load FmHelp_g22 rfl (by exact (hk1.from_ From.rfl_).rd 3 rfl)) ?_
  refine st_unguard rfl ?_
  refine st_val (ro_len FmHelp_l22 rfl) ?_
  refine st_unguard rfl ?_
  refine st_val (ro_gtr rfl rfl) ?_
  refine st_val (ro_pickF (v := .bool _) rfl rfl) ?_
  refine asb rfl ?_
  refine st_nil (nx_then (cd_ret ?_))
  refine res1 (v := .bool _) rfl rfl ?_
  refine ⟨⟨_, rfl, fun h => ?_⟩, hB⟩
  first
    | (cases h; done)
    | (have hq := of_decide_eq_false h; exact ⟨by omega, by omega, by omega, fun j hj => by have := hall j (by omega) hj; omega⟩)
set_option maxHeartbeats 400000 in
theorem asks_rt (k : Int) (A : Option Addr) (c n : Nat) (q : List Int) (w : World) (hr : RowOf iV w A q) (hn : n = q.length) (hl : n ≤ 1000000) :
    Rt Try.prog 11 [.int .i64 k, .slice A n c] w (fun v w' => v = .int .i64 (askE k q) ∧ From w w') := by
  refine enter (n := 12) Try.func11 rfl rfl rfl ?_
  refine cd_seq (cd_region ?_)
  refine asi rfl ?_
  refine st_nil (nx_then (cd_seq (cd_seq (cd_region ?_))))
  refine mvs rfl ?_
  refine st_val (ro_len FmHelp_l22 rfl) ?_
  refine st_val (ro_eql rfl rfl) ?_
  refine st_nil (nx_then ?_)
  refine cd_cond rfl (fun Q1 => ?_) (fun Q1 => ?_)
  · replace Q1 := be_t Q1
    refine cd_seq (cd_region ?_)
    refine asi rfl ?_
    refine st_nil (nx_then (cd_ret (rt_then ?_)))
    refine res1 (v := .int _ _) rfl rfl ?_
    exact ⟨int_eq (by unfold askE; rw [if_pos (by omega)]), From.rfl_⟩
  replace Q1 := be_f Q1
  refine cd_skip (nx_then (cd_seq (cd_seq (cd_region ?_))))
  refine mvi rfl ?_
  refine mvs rfl ?_
  refine st_call FmHelp_k28 (may_rt k A c n q _ (hr.from_ From.rfl_) hn (by omega)) ?_
  rintro v10 w2 ⟨rfl, E10⟩
  refine st_val (ro_not rfl) ?_
  refine st_nil (nx_then ?_)
  refine cd_cond rfl (fun Q3 => ?_) (fun Q3 => ?_)
  · replace Q3 := bn_t Q3
    have h11 : q.all (okS k) = false := by simpa using Q3
    refine cd_seq (cd_region ?_)
    refine asi rfl ?_
    refine st_nil (nx_then (cd_ret (rt_then ?_)))
    refine res1 (v := .int _ _) rfl rfl ?_
    exact ⟨int_eq (by unfold askE; rw [if_neg (by omega), h11]; rfl), (From.rfl_.next E10)⟩
  replace Q3 := bn_f Q3
  have h11 : q.all (okS k) = true := by simpa using Q3
  refine cd_skip (nx_then (cd_seq (cd_region ?_)))
  refine asi rfl ?_
  refine st_nil (nx_then (cd_ret ?_))
  refine res1 (v := .int _ _) rfl rfl ?_
  exact ⟨int_eq (by unfold askE; rw [if_neg (by omega), h11]; rfl), (From.rfl_.next E10)⟩
set_option maxHeartbeats 400000 in
theorem refTree_rt (k : Int) (A : Option Addr) (c n : Nat) (xs : List Int) (w : World) (hr : RowOf iV w A xs) (hn : n = xs.length) (hl : n ≤ 1000000) :
    Rt Try.prog 27 [.int .i64 k, .slice A n c] w (fun v w' => v = .int .i64 (chkW k xs) ∧ From w w') := by
  refine enter (n := 20) Try.func27 rfl rfl rfl ?_
  refine cd_seq (cd_region ?_)
  refine asi rfl ?_
  refine st_nil (nx_then (cd_seq (cd_seq (cd_region ?_))))
  refine mvi rfl ?_
  refine st_val (ro_lss rfl rfl) ?_
  refine mvb rfl ?_
  refine st_split (t := 7) rfl (fun Q1 => ?_) (fun Q1 => ?_)
  · replace Q1 := of_decide_eq_true Q1
    refine st_gno rfl rfl ?_
    refine st_gno rfl rfl ?_
    refine st_val (ro_pickT (v := .bool _) rfl rfl) ?_
    refine mvb rfl ?_
    refine st_gno rfl rfl ?_
    refine st_gno rfl rfl ?_
    refine st_gno rfl rfl ?_
    refine st_gno rfl rfl ?_
    refine st_val (ro_pickT (v := .bool _) rfl rfl) ?_
    refine st_nil (nx_then ?_)
    refine cd_condT rfl ?_
    refine cd_seq (cd_region ?_)
    refine asi rfl ?_
    refine st_nil (nx_then (cd_ret (rt_then ?_)))
    refine res1 (v := .int _ _) rfl rfl ?_
    refine ⟨int_eq ?_, From.rfl_⟩
    have h17 : k < 1 ∨ 512 < k ∨ xs.any (badSym k) = true := by first | exact h16 | (left; omega) | (right; left; omega)
    unfold chkW
    by_cases h1 : k < 1 ∨ 512 < k
    · rw [if_pos h1]
    · rw [if_neg h1, if_pos (by rcases h17 with a | a | a <;> first | exact a | omega)]
  replace Q1 := of_decide_eq_false Q1
  refine st_unguard rfl ?_
  refine mvi rfl ?_
  refine st_unguard rfl ?_
  refine st_val (ro_gtr rfl rfl) ?_
  refine st_val (ro_pickF (v := .bool _) rfl rfl) ?_
  refine mvb rfl ?_
  refine st_split (t := 11) rfl (fun Q2 => ?_) (fun Q2 => ?_)
  · replace Q2 := of_decide_eq_true Q2
    refine st_gno rfl rfl ?_
    refine st_gno rfl rfl ?_
    refine st_gno rfl rfl ?_
    refine st_gno rfl rfl ?_
    refine st_val (ro_pickT (v := .bool _) rfl rfl) ?_
    refine st_nil (nx_then ?_)
    refine cd_condT rfl ?_
    refine cd_seq (cd_region ?_)
    refine asi rfl ?_
    refine st_nil (nx_then (cd_ret (rt_then ?_)))
    refine res1 (v := .int _ _) rfl rfl ?_
    refine ⟨int_eq ?_, From.rfl_⟩
    have h17 : k < 1 ∨ 512 < k ∨ xs.any (badSym k) = true := by first | exact h16 | (left; omega) | (right; left; omega)
    unfold chkW
    by_cases h1 : k < 1 ∨ 512 < k
    · rw [if_pos h1]
    · rw [if_neg h1, if_pos (by rcases h17 with a | a | a <;> first | exact a | omega)]
  replace Q2 := of_decide_eq_false Q2
  refine st_unguard rfl ?_
  refine mvi rfl ?_
  refine st_unguard rfl ?_
  refine mvs rfl ?_
  refine st_unguard rfl ?_
  refine st_call FmHelp_k28 (may_rt k A c n xs _ (hr.from_ From.rfl_) hn (by omega)) ?_
  rintro v14 w3 ⟨rfl, E14⟩
  refine st_unguard rfl ?_
  refine st_val (ro_not rfl) ?_
  refine st_val (ro_pickF (v := .bool _) rfl rfl) ?_
  refine st_nil (nx_then ?_)
  refine cd_cond rfl (fun Q4 => ?_) (fun Q4 => ?_)
  · replace Q4 := bn_t Q4
    have h16 : k < 1 ∨ 512 < k ∨ xs.any (badSym k) = true := by first | omega | (right; right; rw [any_bad]; simpa using Q4)
    refine cd_seq (cd_region ?_)
    refine asi rfl ?_
    refine st_nil (nx_then (cd_ret (rt_then ?_)))
    refine res1 (v := .int _ _) rfl rfl ?_
    refine ⟨int_eq ?_, (From.rfl_.next E14)⟩
    have h17 : k < 1 ∨ 512 < k ∨ xs.any (badSym k) = true := by first | exact h16 | (left; omega) | (right; left; omega)
    unfold chkW
    by_cases h1 : k < 1 ∨ 512 < k
    · rw [if_pos h1]
    · rw [if_neg h1, if_pos (by rcases h17 with a | a | a <;> first | exact a | omega)]
  replace Q4 := bn_f Q4
  have h16 : xs.any (badSym k) = false := by rw [any_bad]; simpa using Q4
  refine cd_skip (nx_then (cd_seq (cd_seq (cd_region ?_))))
  refine mvs rfl ?_
  refine st_val (ro_len FmHelp_l22 rfl) ?_
  refine st_val (ro_gtr rfl rfl) ?_
  refine st_nil (nx_then ?_)
  refine cd_cond rfl (fun Q5 => ?_) (fun Q5 => ?_)
  · replace Q5 := of_decide_eq_true Q5
    refine cd_seq (cd_region ?_)
    refine asi rfl ?_
    refine st_nil (nx_then (cd_ret (rt_then ?_)))
    refine res1 (v := .int _ _) rfl rfl ?_
    exact ⟨int_eq (by unfold chkW; rw [if_neg (by omega), if_neg (by rw [h16]; simp), if_pos (by omega)]), (From.rfl_.next E14)⟩
  replace Q5 := of_decide_eq_false Q5
  refine cd_skip (nx_then (cd_seq (cd_region ?_)))
  refine asi rfl ?_
  refine st_nil (nx_then (cd_ret ?_))
  refine res1 (v := .int _ _) rfl rfl ?_
  exact ⟨int_eq (by unfold chkW; rw [if_neg (by omega), if_neg (by rw [h16]; simp), if_neg (by omega)]), (From.rfl_.next E14)⟩
theorem chk10 : chkW 2 [1, 0, 1, 0] = 0 := by decide
theorem fnd10 : fndL [1, 0, 1, 0] [1, 0] = [0, 2] := by
  have b0 : pBg (endT [1, 0, 1, 0]) 0 [1, 0] := (bg_iff (by decide)).2 ⟨by decide, by decide⟩
  have b1 : ¬ pBg (endT [1, 0, 1, 0]) 1 [1, 0] := fun h => absurd ((bg_iff (by decide)).1 h).2 (by decide)
  have b2 : pBg (endT [1, 0, 1, 0]) 2 [1, 0] := (bg_iff (by decide)).2 ⟨by decide, by decide⟩
  have b3 : ¬ pBg (endT [1, 0, 1, 0]) 3 [1, 0] := fun h => absurd ((bg_iff (by decide)).1 h).1 (by decide)
  show fndTo [1, 0, 1, 0] [1, 0] 4 = [0, 2]
  rw [fndTo_no b3, fndTo_yes b2, fndTo_no b1, fndTo_yes b0]
  rfl
theorem row_four {w : World} {g : Nat} {x y z u : Int} (h : Blk w g 3 #[.int .i64 x, .int .i64 y, .int .i64 z, .int .i64 u]) : RowOf iV w (some ⟨g, 0, none⟩) [x, y, z, u] := fun _ => ⟨g, 0, rfl, fun i hi => by
  match i, hi with
  | 0, _ => exact h.rd 0 rfl
  | 1, _ => exact h.rd 1 rfl
  | 2, _ => exact h.rd 2 rfl
  | 3, _ => exact h.rd 3 rfl⟩
theorem build_10 (g : Nat) (w : World) (h : Blk w g 3 #[.int .i64 1, .int .i64 0, .int .i64 1, .int .i64 0]) : Rt Try.prog 24 [.int .i64 2, .slice (some ⟨g, 0, none⟩) 4 4] w fun v w' => (∃ b a B F, FmAt w' w.heap.size b 2 a [1, 0, 1, 0] B F ∧ v = .tuple #[.pointer (some ⟨b, 0, none⟩), .int .i64 0]) ∧ From w w' := by
  refine (build_rt 2 (some ⟨g, 0, none⟩) 4 4 [1, 0, 1, 0] w (row_four h) rfl (by omega)).mono fun v w' h => ?_
  obtain ⟨h, hF⟩ := h
  refine ⟨?_, hF⟩
  rcases h with ⟨h, _⟩ | ⟨_, K, b, a, L, B, F, hK, hL, _, hf, rfl⟩
  · exact absurd chk10 h
  · obtain rfl : K = 2 := by omega
    obtain rfl : L = [1, 0, 1, 0] := cI_inj hL.symm
    exact ⟨b, a, B, F, hf, rfl⟩
theorem find_10 (base b a g : Nat) (B F : List Nat) (w : World) (hf : FmAt w base b 2 a [1, 0, 1, 0] B F) (h : Blk w g 3 #[.int .i64 1, .int .i64 0]) : Rt Try.prog 18 [.pointer (some ⟨b, 0, none⟩), .slice (some ⟨g, 0, none⟩) 2 2] w fun v w' => (∃ A' c', v = .tuple #[.slice A' 2 c', .int .i64 0] ∧ RowOf iV w' A' [0, 2]) ∧ From w w' := by
  refine (find_rt base b 2 a [1, 0, 1, 0] B F w hf (some ⟨g, 0, none⟩) 2 2 [1, 0] (row_two h) rfl (by omega)).mono fun v w' h => ?_
  obtain ⟨⟨l, e, A', c', hi, rfl, ho⟩, hF⟩ := h
  refine ⟨?_, hF⟩
  rcases hi with ⟨h, _⟩ | ⟨_, h, _⟩ | ⟨p, hp, _, _, rfl, rfl⟩
  · cases h
  · exact absurd h (by decide)
  · obtain rfl : p = [1, 0] := cI_inj hp.symm
    rw [fnd10] at ho ⊢
    exact ⟨A', c', rfl, (RowOf.own ho).2⟩
set_option maxHeartbeats 400000 in
theorem wakes_rt (w : World) :
    Rt Try.prog 10 [] w (fun v w' => v = .bool true ∧ From w w') := by
  refine enter (n := 31) Try.func10 rfl rfl rfl ?_
  refine cd_seq (cd_region ?_)
  refine asb rfl ?_
  refine st_nil (nx_then (cd_seq (cd_region ?_)))
  refine st_lits [.const (.int .i64 1), .const (.int .i64 0), .const (.int .i64 1), .const (.int .i64 0)] [.int .i64 1, .int .i64 0, .int .i64 1, .int .i64 0] FmHelp_q22 rfl rfl rfl rfl (by simp [Value.cells]) ?_
  intro b6 w1 E6 hb6 hk6
  refine st_call FmHelp_k24 (build_10 b6 _ hk6) ?_
  rintro v7 w2 ⟨⟨b, a, B7, F7, hf7, rfl⟩, E7⟩
  refine mvt rfl ?_
  refine st_val (ro_extract rfl rfl) ?_
  refine st_val (ro_extract rfl rfl) ?_
  refine asp rfl ?_
  refine asi rfl ?_
  refine st_nil (nx_then (cd_seq (cd_seq (cd_region ?_))))
  refine mvi rfl ?_
  refine st_call FmHelp_k15 (num_any _ _) ?_
  rintro v11 w3 ⟨rfl, rfl⟩
  refine st_val (ro_bf (ro_neq rfl rfl) rfl) ?_
  refine mvb rfl ?_
  refine st_unguard rfl ?_
  refine mvp rfl ?_
  refine st_unguard rfl ?_
  refine st_val (ro_bf (ro_eqlNil (by kernel_rfl) rfl rfl) rfl) ?_
  refine st_val (ro_pickF (v := .bool _) rfl rfl) ?_
  refine st_nil (nx_then ?_)
  refine cd_condF rfl ?_
  refine cd_skip (nx_then (cd_seq (cd_region ?_)))
  refine mvp rfl ?_
  refine st_lits [.const (.int .i64 1), .const (.int .i64 0)] [.int .i64 1, .int .i64 0] FmHelp_q22 rfl rfl rfl rfl (by simp [Value.cells]) ?_
  intro b19 w4 E19 hb19 hk19
  refine st_call FmHelp_k18 (find_10 _ b a b19 B7 F7 _ (hf7.from_ (From.rfl_.next E19)) hk19) ?_
  rintro v20 w5 ⟨⟨A20, c20, rfl, hr20⟩, E20⟩
  refine mvt rfl ?_
  refine st_val (ro_extract rfl rfl) ?_
  refine st_val (ro_extract rfl rfl) ?_
  refine ass rfl ?_
  refine asi rfl ?_
  refine st_nil (nx_then (cd_seq (cd_region ?_)))
  refine mvi rfl ?_
  refine st_call FmHelp_k15 (num_any _ _) ?_
  rintro v24 w6 ⟨rfl, rfl⟩
  refine st_val (ro_bt (ro_eql rfl rfl) rfl) ?_
  refine mvb rfl ?_
  refine st_unguard rfl ?_
  refine mvs rfl ?_
  refine st_unguard rfl ?_
  refine st_lits [.const (.int .i64 0), .const (.int .i64 2)] [.int .i64 0, .int .i64 2] FmHelp_q22 rfl rfl rfl rfl (by simp [Value.cells]) ?_
  intro b28 w7 E28 hb28 hk28
  refine st_unguard rfl ?_
  refine st_call FmHelp_k19 (eq_same A20 (some ⟨b28, 0, none⟩) c20 2 2 2 [0, 2] _ (hr20.from_ E28) (row_two hk28) rfl rfl (by omega)) ?_
  rintro v29 w8 ⟨rfl, E29⟩
  refine st_val (ro_pickT (v := .bool _) rfl rfl) ?_
  refine asb rfl ?_
  refine st_nil (nx_then (cd_ret ?_))
  refine res1 (v := .bool _) rfl rfl ?_
  exact ⟨rfl, ((((((From.rfl_.next E6).next E7).next E19).next E20).next E28).next E29)⟩
theorem TreeAt.grown {w w' : World} {base b k : Nat} {L : List Nat} {r : Option Nat} (h : TreeAt w base b k L) (hg : w.grownBy w' r) (hne : ∀ q, r = some q → q < base) : TreeAt w' base b k L := by
  obtain ⟨hb0, AT, cT, g, vs, hT, ho, hVs, hg0, hg2, hrest⟩ := h
  exact ⟨hb0, AT, cT, g, vs, hT.grown hg (fun q hq => by have := hne q hq; omega), own_kept ho hg hne, fun j hj => (hVs j hj).grown hg hne, hg0, hg2.grown hg (fun q hq => by have := hne q hq; omega), hrest⟩
theorem FmAt.grown {w w' : World} {base b K a : Nat} {L B F : List Nat} {r : Option Nat} (h : FmAt w base b K a L B F) (hg : w.grownBy w' r) (hne : ∀ q, r = some q → q < base) : FmAt w' base b K a L B F := by
  obtain ⟨hb0, hSA, hbw, hLn, hK, tb, AS, cs, gr, hI, hT, ho, hR, hgr⟩ := h
  exact ⟨hb0, hSA, hbw, hLn, hK, tb, AS, cs, gr, hI.grown hg (fun q hq => by have := hne q hq; omega), hT.grown hg hne, own_kept ho hg hne, hR.grown hg (fun q hq => by have := hne q hq; omega), hgr⟩
theorem FmAt.ptr {w : World} {base b K a : Nat} {L B F : List Nat} (h : FmAt w base b K a L B F) : ∃ tb AS cs gr, Blk w b 56 #[.pointer (some ⟨tb, 0, none⟩), .int .i64 (a : Nat), .slice AS (smp L F (L.length + 1)).length cs, .slice (some ⟨gr, 0, none⟩) (L.length / 8 + 1) (L.length / 8 + 1)] := by
  obtain ⟨hb0, hSA, hbw, hLn, hK, tb, AS, cs, gr, hI, hT, ho, hR, hgr⟩ := h
  exact ⟨tb, AS, cs, gr, hI⟩
set_option maxHeartbeats 400000 in
theorem made_rt (k : Int) (A D B : Option Addr) (ca cp cb : Nat) (L : List Int) (ps : List (List Int)) (is : List Int) (w : World) (ha : AskF w k A D B L ps is) (hl : L.length ≤ 400) :
    Rt Try.prog 9 [.agg #[.int .i64 k, .slice A L.length ca, .slice D ps.length cp, .slice B is.length cb]] w (fun v w' => BuildA w' w.heap.size k L v ∧ From w w') := by
  refine enter (n := 49) Try.func9 rfl rfl rfl ?_
  refine cd_seq (cd_region ?_)
  refine st_box (v := .agg _) rfl ?_
  intro b1 w1 E1 hb1 hk1
  refine asp rfl ?_
  refine asi rfl ?_
  refine st_nil (nx_then (cd_seq (cd_region ?_)))
  refine st_val (ro_fieldAddr FmHelp_f25_1 rfl) ?_
  refine st_val (ro_load FmHelp_g22 rfl (by exact (hk1.from_ From.rfl_).rd 1 rfl)) ?_
  have hB10 := (From.rfl_.next E1)
  have hl10 := (hk1.from_ From.rfl_).lt
  refine st_call FmHelp_k16 (copyNums_any A ca L _ (ha.rowL.from_ (From.rfl_.next E1)) ha.lenL) ?_
  rintro v10 w2 ⟨A10, c10, rfl, ho10, E10⟩
  refine ass rfl ?_
  refine st_nil (nx_then (cd_seq (cd_region ?_)))
  refine st_val (ro_fieldAddr FmHelp_f25_0 rfl) ?_
  refine st_val (ro_load FmHelp_g3 rfl (by exact (hk1.from_ (From.rfl_.next E10)).rd 0 rfl)) ?_
  refine mvs rfl ?_
  have hB15 := ((From.rfl_.next E1).next E10)
  refine st_call FmHelp_k24 (build_rt k A10 c10 L.length L _ (RowOf.own ho10).2 rfl (by omega)) ?_
  rintro v15 w3 ⟨hs15, E15⟩
  replace hk1 := hk1.from_ ((From.rfl_.next E10).next E15)
  rcases hs15 with ⟨hck, rfl⟩ | ⟨hck, K, b, a, Ln, Bs, F, hKk, hLn, hlt, hf, rfl⟩
  · have hb33 : (chkW k L != 0) = true := by simpa using hck
    refine mvt rfl ?_
    refine st_val (ro_extract rfl rfl) ?_
    refine st_val (ro_extract rfl rfl) ?_
    refine asp rfl ?_
    refine asi rfl ?_
    refine st_nil (nx_then (cd_seq (cd_region ?_)))
    refine mvs rfl ?_
    refine st_call FmHelp_k20 (spoilNums_any _ A10 c10 L _ (ho10.kept_from E15) ha.lenL (by have := E10.size; have := E15.size; omega)) ?_
    rintro v19 w4 hg19
    replace hk1 := hk1.grown hg19 (fun k hk => by have := own_at ho10 k hk; omega)
    (try replace hf := hf.grown hg19 (fun k hk => (own_at ho10 k hk).2))
    (try obtain ⟨tb, AS, cs, gr, hI⟩ := hf.ptr)
    refine st_nil (nx_then (cd_seq (cd_region ?_)))
    refine st_val (ro_fieldAddr FmHelp_f25_0 rfl) ?_
    refine st_val (ro_load FmHelp_g3 rfl (by exact (hk1.from_ From.rfl_).rd 0 rfl)) ?_
    refine st_val (ro_fieldAddr FmHelp_f25_1 rfl) ?_
    refine st_val (ro_load FmHelp_g22 rfl (by exact (hk1.from_ From.rfl_).rd 1 rfl)) ?_
    refine st_call FmHelp_k27 (refTree_rt k A ca L.length L _ (ha.rowL.from_ ((((From.rfl_.next E1).next E10).next E15).grew hg19 (fun k hk => Nat.le_trans hB10.size (own_at ho10 k hk).1))) rfl (by omega)) ?_
    rintro v24 w5 ⟨rfl, E24⟩
    refine asi rfl ?_
    refine st_nil (nx_then (cd_seq (cd_seq (cd_region ?_))))
    refine mvi rfl ?_
    refine st_call FmHelp_k15 (num_any _ _) ?_
    rintro v26 w6 ⟨rfl, rfl⟩
    refine mvi rfl ?_
    refine st_val (ro_neq rfl rfl) ?_
    refine mvb rfl ?_
    refine st_split (t := 29) rfl (fun Q7 => ?_) (fun Q7 => ?_)
    · replace Q7 := bn_t Q7; replace Q7 := be_f Q7
      first
       | (exfalso; first | (first | omega | (simp [hb33] at *; done); trace "@MK D made_rt:f15.0.g29+ 1") | (contradiction; trace "@MK D made_rt:f15.0.g29+ 2") | ((cases Q7; done); trace "@MK D made_rt:f15.0.g29+ 3"))
       | (trace "@MK D made_rt:f15.0.g29+ 0")
         refine st_gno rfl rfl ?_
         refine st_gno rfl rfl ?_
         refine st_gno rfl rfl ?_
         refine st_gno rfl rfl ?_
         refine st_gno rfl rfl ?_
         refine st_val (ro_pickT (v := .bool _) rfl rfl) ?_
         refine mvb rfl ?_
         refine st_gno rfl rfl ?_
         refine st_gno rfl rfl ?_
         refine st_gno rfl rfl ?_
         refine st_gund rfl ?_
         refine st_gund rfl ?_
         refine st_gund rfl ?_
         refine st_gund rfl ?_
         refine st_gund rfl ?_
         refine st_gno rfl rfl ?_
         refine st_val (ro_pickT (v := .bool _) rfl rfl) ?_
         refine st_nil (nx_then ?_)
         refine cd_condT rfl ?_
         refine cd_seq (cd_region ?_)
         refine asp rfl ?_
         refine asi rfl ?_
         refine st_nil (nx_then (cd_ret (rt_then ?_)))
         refine res2 (v := .pointer _) (v' := .int _ _) rfl rfl rfl ?_
         exfalso; simp_all
    replace Q7 := bn_f Q7; replace Q7 := be_t Q7
    refine st_unguard rfl ?_
    refine mvp rfl ?_
    refine st_unguard rfl ?_
    refine st_val (ro_eqlNil FmHelp_p27 rfl rfl) ?_
    refine st_unguard rfl ?_
    refine mvi rfl ?_
    refine st_unguard rfl ?_
    refine st_val (ro_neq rfl rfl) ?_
    refine st_unguard rfl ?_
    refine st_val (ro_neqB (by kernel_rfl) rfl rfl) ?_
    refine st_val (ro_pickF (v := .bool _) rfl rfl) ?_
    refine mvb rfl ?_
    refine st_split (t := 36) rfl (fun Q8 => ?_) (fun Q8 => ?_)
    · replace Q8 := bn_t Q8; replace Q8 := be_f Q8
      exfalso; first | omega | (simp [hb33] at *; done)
    replace Q8 := bn_f Q8; replace Q8 := be_t Q8
    refine st_unguard rfl ?_
    refine mvp rfl ?_
    refine st_unguard rfl ?_
    refine st_val (ro_neqNil FmHelp_p27 rfl rfl) ?_
    refine st_unguard rfl ?_
    refine mvb rfl ?_
    refine st_split (t := 39) rfl (fun Q9 => ?_) (fun Q9 => ?_)
    · replace Q9 := bn_t Q9
      exfalso; first | omega | (simp [hb33] at *; done)
    replace Q9 := bn_f Q9
    refine st_gno rfl rfl ?_
    refine st_gno rfl rfl ?_
    refine st_gno rfl rfl ?_
    refine st_gno rfl rfl ?_
    refine st_gno rfl rfl ?_
    refine st_unguard rfl ?_
    refine st_val (ro_pickF (v := .bool _) rfl rfl) ?_
    refine st_val (ro_pickF (v := .bool _) rfl rfl) ?_
    refine st_nil (nx_then ?_)
    refine cd_condF rfl ?_
    refine cd_skip (nx_then (cd_seq (cd_region ?_)))
    refine mvp rfl ?_
    refine mvi rfl ?_
    refine asp rfl ?_
    refine asi rfl ?_
    refine st_nil (nx_then (cd_ret ?_))
    refine res2 (v := .pointer _) (v' := .int _ _) rfl rfl rfl ?_
    first
      | exact ⟨.inl ⟨hck, rfl⟩, (((((From.rfl_.next E1).next E10).next E15).grew hg19 (fun k hk => Nat.le_trans hB10.size (own_at ho10 k hk).1)).next E24)⟩
      | exact ⟨.inr ⟨hck, K, b, a, Ln, Bs, F, hKk, hLn, hlt, (hf.from_ (From.rfl_.next E24)).le hB15.size, by rw [hck]⟩, (((((From.rfl_.next E1).next E10).next E15).grew hg19 (fun k hk => Nat.le_trans hB10.size (own_at ho10 k hk).1)).next E24)⟩
  have hb33 : (chkW k L != 0) = false := by rw [hck]; rfl
  refine mvt rfl ?_
  refine st_val (ro_extract rfl rfl) ?_
  refine st_val (ro_extract rfl rfl) ?_
  refine asp rfl ?_
  refine asi rfl ?_
  refine st_nil (nx_then (cd_seq (cd_region ?_)))
  refine mvs rfl ?_
  refine st_call FmHelp_k20 (spoilNums_any _ A10 c10 L _ (ho10.kept_from E15) ha.lenL (by have := E10.size; have := E15.size; omega)) ?_
  rintro v19 w11 hg19
  replace hk1 := hk1.grown hg19 (fun k hk => by have := own_at ho10 k hk; omega)
  (try replace hf := hf.grown hg19 (fun k hk => (own_at ho10 k hk).2))
  (try obtain ⟨tb, AS, cs, gr, hI⟩ := hf.ptr)
  refine st_nil (nx_then (cd_seq (cd_region ?_)))
  refine st_val (ro_fieldAddr FmHelp_f25_0 rfl) ?_
  refine st_val (ro_load FmHelp_g3 rfl (by exact (hk1.from_ From.rfl_).rd 0 rfl)) ?_
  refine st_val (ro_fieldAddr FmHelp_f25_1 rfl) ?_
  refine st_val (ro_load FmHelp_g22 rfl (by exact (hk1.from_ From.rfl_).rd 1 rfl)) ?_
  refine st_call FmHelp_k27 (refTree_rt k A ca L.length L _ (ha.rowL.from_ ((((From.rfl_.next E1).next E10).next E15).grew hg19 (fun k hk => Nat.le_trans hB10.size (own_at ho10 k hk).1))) rfl (by omega)) ?_
  rintro v24 w12 ⟨rfl, E24⟩
  refine asi rfl ?_
  refine st_nil (nx_then (cd_seq (cd_seq (cd_region ?_))))
  refine mvi rfl ?_
  refine st_call FmHelp_k15 (num_any _ _) ?_
  rintro v26 w13 ⟨rfl, rfl⟩
  refine mvi rfl ?_
  refine st_val (ro_neq rfl rfl) ?_
  refine mvb rfl ?_
  refine st_split (t := 29) rfl (fun Q14 => ?_) (fun Q14 => ?_)
  · replace Q14 := bn_t Q14; replace Q14 := be_f Q14
    first
     | (exfalso; first | (first | omega | (simp [hb33] at *; done); trace "@MK D made_rt:f15.1.g29+ 1") | (contradiction; trace "@MK D made_rt:f15.1.g29+ 2") | ((cases Q14; done); trace "@MK D made_rt:f15.1.g29+ 3"))
     | (trace "@MK D made_rt:f15.1.g29+ 0")
       refine st_gno rfl rfl ?_
       refine st_gno rfl rfl ?_
       refine st_gno rfl rfl ?_
       refine st_gno rfl rfl ?_
       refine st_gno rfl rfl ?_
       refine st_val (ro_pickT (v := .bool _) rfl rfl) ?_
       refine mvb rfl ?_
       refine st_gno rfl rfl ?_
       refine st_gno rfl rfl ?_
       refine st_gno rfl rfl ?_
       refine st_gund rfl ?_
       refine st_gund rfl ?_
       refine st_gund rfl ?_
       refine st_gund rfl ?_
       refine st_gund rfl ?_
       refine st_gno rfl rfl ?_
       refine st_val (ro_pickT (v := .bool _) rfl rfl) ?_
       refine st_nil (nx_then ?_)
       refine cd_condT rfl ?_
       refine cd_seq (cd_region ?_)
       refine asp rfl ?_
       refine asi rfl ?_
       refine st_nil (nx_then (cd_ret (rt_then ?_)))
       refine res2 (v := .pointer _) (v' := .int _ _) rfl rfl rfl ?_
       exfalso; simp_all
  replace Q14 := bn_f Q14; replace Q14 := be_t Q14
  refine st_unguard rfl ?_
  refine mvp rfl ?_
  refine st_unguard rfl ?_
  refine st_val (ro_eqlNil FmHelp_p27 rfl rfl) ?_
  refine st_unguard rfl ?_
  refine mvi rfl ?_
  refine st_unguard rfl ?_
  refine st_val (ro_neq rfl rfl) ?_
  refine st_unguard rfl ?_
  refine st_val (ro_neqB (by kernel_rfl) rfl rfl) ?_
  refine st_val (ro_pickF (v := .bool _) rfl rfl) ?_
  refine mvb rfl ?_
  refine st_split (t := 36) rfl (fun Q15 => ?_) (fun Q15 => ?_)
  · replace Q15 := bn_t Q15; replace Q15 := be_f Q15
    exfalso; first | omega | (simp [hb33] at *; done)
  replace Q15 := bn_f Q15; replace Q15 := be_t Q15
  refine st_unguard rfl ?_
  refine mvp rfl ?_
  refine st_unguard rfl ?_
  refine st_val (ro_neqNil FmHelp_p27 rfl rfl) ?_
  refine st_unguard rfl ?_
  refine mvb rfl ?_
  refine st_split (t := 39) rfl (fun Q16 => ?_) (fun Q16 => ?_)
  rotate_left
  · replace Q16 := bn_f Q16
    exfalso; first | omega | (simp [hb33] at *; done)
  replace Q16 := bn_t Q16
  refine st_unguard rfl ?_
  refine mvp rfl ?_
  refine st_unguard rfl ?_
  refine st_val (ro_nilCheck rfl) ?_
  refine st_unguard rfl ?_
  refine st_val (ro_fieldAddr FmHelp_f56_0 rfl) ?_
  refine st_unguard rfl ?_
  refine st_val (ro_load FmHelp_g52 rfl (by exact (hI.from_ (From.rfl_.next E24)).rd 0 rfl)) ?_
  refine st_unguard rfl ?_
  refine st_val (ro_eqlNil FmHelp_p52 rfl rfl) ?_
  refine st_unguard rfl ?_
  refine st_val (ro_pickT (v := .bool _) rfl rfl) ?_
  refine st_val (ro_pickF (v := .bool _) rfl rfl) ?_
  refine st_nil (nx_then ?_)
  refine cd_cond rfl (fun Q17 => ?_) (fun Q17 => ?_)
  · exfalso; first | omega | (simp [hb33] at *; done)
  refine cd_skip (nx_then (cd_seq (cd_region ?_)))
  refine mvp rfl ?_
  refine mvi rfl ?_
  refine asp rfl ?_
  refine asi rfl ?_
  refine st_nil (nx_then (cd_ret ?_))
  refine res2 (v := .pointer _) (v' := .int _ _) rfl rfl rfl ?_
  first
    | exact ⟨.inl ⟨hck, rfl⟩, (((((From.rfl_.next E1).next E10).next E15).grew hg19 (fun k hk => Nat.le_trans hB10.size (own_at ho10 k hk).1)).next E24)⟩
    | exact ⟨.inr ⟨hck, K, b, a, Ln, Bs, F, hKk, hLn, hlt, (hf.from_ (From.rfl_.next E24)).le hB15.size, by rw [hck]⟩, (((((From.rfl_.next E1).next E10).next E15).grew hg19 (fun k hk => Nat.le_trans hB10.size (own_at ho10 k hk).1)).next E24)⟩
end Go.Proofs.Ytepdgbglaiimaaa

namespace Go.Proofs.Ytepdgbglaiimaaa
open Go.RowKit
open Go.ChangeShapes Go.WideShapes Go.ChangeAt
open Go.Proofs.Ytepdgbglaiimaaa.SA
noncomputable def rsF (K : Nat) (L : List Nat) (q : List Int) : Int := if askE (K : Nat) q = 0 then ((rwF L (q.map Int.toNat) : Nat) : Int) else 0
noncomputable def rsT (K : Nat) (L : List Nat) (q : List Int) : Int := if askE (K : Nat) q = 0 then ((rwT L (q.map Int.toNat) : Nat) : Int) else 0
noncomputable def fdL (K : Nat) (L : List Nat) (q : List Int) : List Nat := if askE (K : Nat) q = 0 then fndL L (q.map Int.toNat) else []
theorem cI_toNat (p : List Nat) : (cI p).map Int.toNat = p := by
  unfold cI
  rw [List.map_map]
  refine (List.map_congr_left fun x _ => ?_).trans (List.map_id p)
  rfl
theorem ask_zero {k : Int} {q : List Int} (h : askE k q = 0) : q ≠ [] ∧ q.all (okS k) = true := by
  unfold askE at h
  split at h
  · cases h
  · rename_i h0
    split at h
    · rename_i h1
      exact ⟨fun e => h0 (by rw [e]; rfl), h1⟩
    · cases h
theorem ask_nat {K : Nat} {q : List Int} (h : askE (K : Nat) q = 0) : ∃ p : List Nat, q = cI p ∧ p ≠ [] ∧ (∀ x ∈ p, x < K) := by
  obtain ⟨h0, h1⟩ := ask_zero h
  obtain ⟨p, rfl, hp⟩ := nat_listK h1
  exact ⟨p, rfl, fun e => h0 (by rw [e]; rfl), hp⟩
theorem ask_good {K : Nat} {p : List Nat} (h0 : p ≠ []) (h : ∀ x ∈ p, x < K) : askE (K : Nat) (cI p) = 0 := by
  unfold askE
  rw [if_neg (by rw [List.length_map]; exact fun e => h0 (List.eq_nil_of_length_eq_zero e)), if_pos]
  rw [List.all_eq_true]
  intro y hy
  obtain ⟨x, hx, rfl⟩ := List.mem_map.1 hy
  exact okS_yes (by omega) (by have := h x hx; omega)
theorem find_fn {K : Nat} {L : List Nat} {q : List Int} {l : List Nat} {e : Int} (h : FindIs K L q l e) : l = fdL K L q ∧ e = askE (K : Nat) q := by
  rcases h with ⟨rfl, rfl, rfl⟩ | ⟨h1, h2, rfl, rfl⟩ | ⟨p, rfl, h1, h2, rfl, rfl⟩
  · exact ⟨rfl, rfl⟩
  · have e : askE (K : Nat) q = 1 := by unfold askE; rw [if_neg (fun e => h1 (List.eq_nil_of_length_eq_zero e)), h2]; rfl
    unfold fdL
    rw [e]
    exact ⟨rfl, rfl⟩
  · unfold fdL
    rw [ask_good h1 h2, if_pos rfl, cI_toNat]
    exact ⟨rfl, rfl⟩
theorem fd_le {K : Nat} {L : List Nat} (q : List Int) : (fdL K L q).length ≤ L.length := by
  unfold fdL
  split
  · exact fndTo_le
  · exact Nat.zero_le _
section
variable (base b K a : Nat) (L B F : List Nat) (w : World) (hf : FmAt w base b K a L B F) (A : Option Addr) (c n : Nat) (q : List Int) (hr : RowOf iV w A q) (hn : n = q.length) (hl : n ≤ 1000000)
include hf hr hn hl
theorem find_d : Rt Try.prog 18 [.pointer (some ⟨b, 0, none⟩), .slice A n c] w fun v w' => (∃ A' c', v = .tuple #[.slice A' (fdL K L q).length c', .int .i64 (askE (K : Nat) q)] ∧ w'.ownsRow w.heap.size 3 1 (.slice A' (fdL K L q).length c') (fdL K L q).length ((cI (fdL K L q)).map iV)) ∧ From w w' := by
  refine (find_rt base b K a L B F w hf A c n q hr hn hl).mono fun v w' h => ?_
  obtain ⟨⟨l, e, A', c', hi, rfl, ho⟩, hF⟩ := h
  obtain ⟨rfl, rfl⟩ := find_fn hi
  exact ⟨⟨A', c', rfl, ho⟩, hF⟩
end
section
variable (A D : Option Addr) (ca cp n m : Nat) (xs q : List Int) (K : Nat) (L : List Nat) (w : World) (hr : RowOf iV w A xs) (hL : xs = cI L) (hn : n = xs.length) (hp : RowOf iV w D q) (hm : m = q.length) (hl : n ≤ 131072) (hl2 : m ≤ 1000000) (he : askE (K : Nat) q = 0)
include hr hL hn hp hm hl hl2 he
theorem refFind_d : Rt Try.prog 17 [.slice A n ca, .slice D m cp] w fun v w' => (∃ A' c', v = .slice A' (fdL K L q).length c' ∧ RowOf iV w' A' (cI (fdL K L q))) ∧ From w w' := by
  subst hL
  obtain ⟨p, rfl, h0, hpK⟩ := ask_nat he
  refine (refFind_rt A D ca cp n m L p w hr (by rw [hn, List.length_map]) hp (by rw [hm, List.length_map]) hl hl2).mono fun v w' h => ?_
  obtain ⟨⟨A', c', rfl, ho⟩, hF⟩ := h
  unfold fdL
  rw [he, if_pos rfl, cI_toNat]
  exact ⟨⟨A', c', rfl, (RowOf.own ho).2⟩, hF⟩
end
theorem spoil_c (base : Nat) (A : Option Addr) (c n : Nat) (F : List Nat) (w : World) (ho : w.ownsRow base 3 1 (.slice A n c) n ((cI F).map iV)) (hl : n ≤ 1000000) (hbs : base ≤ w.heap.size) : Rt Try.prog 20 [.slice A n c] w fun _ w' => w.grownBy w' (A.map (·.block)) := by
  refine spoil_n base A c n F w ?_ hl hbs
  rw [show (F.map fun x : Nat => iV (x : Nat)) = (cI F).map iV by simp [cI]]
  exact ho
end Go.Proofs.Ytepdgbglaiimaaa

namespace Go.Proofs.Ytepdgbglaiimaaa
open Go.RowKit
open Go.ChangeShapes Go.WideShapes Go.ChangeAt
open Go.Proofs.Ytepdgbglaiimaaa.SA
theorem FmLawF_g25 : aggQ Try.prog 25 = some true := by kernel_rfl
theorem FmLawF_z25 : sizeQ Try.prog 25 = some 4 := by kernel_rfl
theorem FmLawF_k8 : callable Try.prog 8 = true := by kernel_rfl
theorem FmLawF_k9 : callable Try.prog 9 = true := by kernel_rfl
theorem FmLawF_p27 : Try.prog.underlying 27 = some (.pointer (Try.prog.pointee 27)) := by kernel_rfl
theorem FmLawF_k10 : callable Try.prog 10 = true := by kernel_rfl
theorem FmLawF_f25_2 : fieldQ Try.prog 25 2 = some 2 := by kernel_rfl
theorem FmLawF_g23 : aggQ Try.prog 23 = some false := by kernel_rfl
theorem FmLawF_l23 : (elemQ Try.prog 23).isSome = true := by kernel_rfl
theorem FmLawF_e23 : elemQ Try.prog 23 = some (22, 1) := by kernel_rfl
theorem FmLawF_g22 : aggQ Try.prog 22 = some false := by kernel_rfl
theorem FmLawF_k16 : callable Try.prog 16 = true := by kernel_rfl
theorem FmLawF_f25_0 : fieldQ Try.prog 25 0 = some 0 := by kernel_rfl
theorem FmLawF_g3 : aggQ Try.prog 3 = some false := by kernel_rfl
theorem FmLawF_k11 : callable Try.prog 11 = true := by kernel_rfl
theorem FmLawF_f25_1 : fieldQ Try.prog 25 1 = some 1 := by kernel_rfl
theorem FmLawF_k17 : callable Try.prog 17 = true := by kernel_rfl
theorem FmLawF_k18 : callable Try.prog 18 = true := by kernel_rfl
theorem FmLawF_k15 : callable Try.prog 15 = true := by kernel_rfl
theorem FmLawF_k19 : callable Try.prog 19 = true := by kernel_rfl
theorem FmLawF_k20 : callable Try.prog 20 = true := by kernel_rfl
set_option maxHeartbeats 3000000 in
theorem finds_law (k : Int) (A D B : Option Addr) (ca cp cb : Nat) (L : List Int) (ps : List (List Int)) (is : List Int) (w : World) (ha : AskF w k A D B L ps is) :
    Rt Try.prog 4 [.agg #[.int .i64 k, .slice A L.length ca, .slice D ps.length cp, .slice B is.length cb]] w (fun v w' => v = .bool true ∧ From w w') := by
  have hlenP := ha.lenP
  refine enter (n := 77) Try.func4 rfl rfl rfl ?_
  refine cd_seq (cd_region ?_)
  refine st_box (v := .agg _) rfl ?_
  intro b1 w1 E1 hb1 hk1
  refine asb rfl ?_
  refine st_nil (nx_then (cd_seq (cd_seq (cd_region ?_))))
  refine st_val (ro_loadA (cs := [_, _, _, _]) FmLawF_g25 FmLawF_z25 rfl (by first | (first | exact (hP1.from_ From.rfl_).whole | exact (hP1.from_ From.rfl_).rd 0 rfl | exact (hP1.from_ From.rfl_).rd 1 rfl | exact (hP1.from_ From.rfl_).rd 2 rfl | exact (hP1.from_ From.rfl_).rd 3 rfl) | (first | exact (hk1.from_ From.rfl_).whole | exact (hk1.from_ From.rfl_).rd 0 rfl | exact (hk1.from_ From.rfl_).rd 1 rfl | exact (hk1.from_ From.rfl_).rd 2 rfl | exact (hk1.from_ From.rfl_).rd 3 rfl))) ?_
  refine st_call FmLawF_k8 (heavy_rt k A D B ca cp cb L ps is _ (ha.from_ (From.rfl_.next E1))) ?_
  rintro v12 w2 ⟨⟨hv, rfl, hli⟩, E12⟩
  refine st_nil (nx_then ?_)
  refine cd_cond rfl (fun Q3 => ?_) (fun Q3 => ?_)
  · refine cd_seq (cd_region ?_)
    refine asb rfl ?_
    refine st_nil (nx_then (cd_ret (rt_then ?_)))
    refine res1 (v := .bool _) rfl rfl ?_
    exact ⟨rfl, ((From.rfl_.next E1).next E12)⟩
  replace hli := hli (by simpa using Q3)
  have hl40 := hli.l
  have hp40 := hli.p
  have hi40 := hli.i
  refine cd_skip (nx_then (cd_seq (cd_region ?_)))
  refine st_val (ro_loadA (cs := [_, _, _, _]) FmLawF_g25 FmLawF_z25 rfl (by first | (first | exact (hP1.from_ (From.rfl_.next E12)).whole | exact (hP1.from_ (From.rfl_.next E12)).rd 0 rfl | exact (hP1.from_ (From.rfl_.next E12)).rd 1 rfl | exact (hP1.from_ (From.rfl_.next E12)).rd 2 rfl | exact (hP1.from_ (From.rfl_.next E12)).rd 3 rfl) | (first | exact (hk1.from_ (From.rfl_.next E12)).whole | exact (hk1.from_ (From.rfl_.next E12)).rd 0 rfl | exact (hk1.from_ (From.rfl_.next E12)).rd 1 rfl | exact (hk1.from_ (From.rfl_.next E12)).rd 2 rfl | exact (hk1.from_ (From.rfl_.next E12)).rd 3 rfl))) ?_
  have hz15 := (((From.rfl_.next E1).next E12)).size
  refine st_call FmLawF_k9 (made_rt k A D B ca cp cb L ps is _ (ha.from_ ((From.rfl_.next E1).next E12)) hli.l) ?_
  rintro v15 w4 ⟨hs15, E15⟩
  replace hk1 := hk1.from_ ((From.rfl_.next E12).next E15)
  rcases hs15 with ⟨hck, rfl⟩ | ⟨hck, K, b, a, Ln, Bs, F, rfl, hLn, hlt, hf, rfl⟩
  · refine mvt rfl ?_
    refine st_val (ro_extract rfl rfl) ?_
    refine st_val (ro_extract rfl rfl) ?_
    refine asp rfl ?_
    refine asi rfl ?_
    refine st_nil (nx_then (cd_seq (cd_seq (cd_region ?_))))
    refine mvp rfl ?_
    refine st_val (ro_eqlNil FmLawF_p27 rfl rfl) ?_
    refine st_nil (nx_then ?_)
    refine cd_cond rfl (fun Q5 => ?_) (fun Q5 => ?_)
    rotate_left
    · exfalso; contradiction
    refine cd_seq (cd_region ?_)
    refine mvi rfl ?_
    refine st_val (ro_neq rfl rfl) ?_
    refine mvb rfl ?_
    refine st_split (t := 22) rfl (fun Q19 => ?_) (fun Q19 => ?_)
    rotate_left
    · with_reducible replace Q19 := bx_f Q19
      exfalso; omega
    with_reducible replace Q19 := bx_t Q19
    refine st_unguard rfl ?_
    refine st_call FmLawF_k10 (wakes_rt _) ?_
    rintro v23 w20 ⟨rfl, E23⟩
    refine st_val (ro_pickT (v := .bool _) rfl rfl) ?_
    refine asb rfl ?_
    refine st_nil (nx_then (cd_ret (rt_then ?_)))
    refine res1 (v := .bool _) rfl rfl ?_
    exact ⟨rfl, ((((From.rfl_.next E1).next E12).next E15).next E23)⟩
  replace hf := hf.le hz15
  have hLl : Ln.length = L.length := by rw [hLn, List.length_map]
  refine mvt rfl ?_
  refine st_val (ro_extract rfl rfl) ?_
  refine st_val (ro_extract rfl rfl) ?_
  refine asp rfl ?_
  refine asi rfl ?_
  refine st_nil (nx_then (cd_seq (cd_seq (cd_region ?_))))
  refine mvp rfl ?_
  refine st_val (ro_eqlNil FmLawF_p27 rfl rfl) ?_
  refine st_nil (nx_then ?_)
  refine cd_cond rfl (fun Q21 => ?_) (fun Q21 => ?_)
  · exfalso; contradiction
  refine cd_skip (nx_then (cd_seq (cd_seq (cd_region ?_))))
  refine asi rfl ?_
  refine st_nil (nx_then (cd_block ?_))
  refine cd_loop (G := Nat) [2, 6, 7, 8, 9, 10, 25, 26, 27, 28, 29, 30, 31, 32, 33, 34, 35, 36, 37, 38, 39, 40, 41, 42, 43, 44, 45, 46, 47, 48, 49, 50, 51, 52, 53, 54, 55, 56, 57, 58, 59, 60, 61, 62, 63, 64, 65, 66, 67, 68, 69, 70, 71, 72, 73, 74, 75] (fun i => [(5, .int .i64 (i : Nat))]) (fun i w' => i ≤ ps.length ∧ FmAt w' w.heap.size b K a Ln Bs F ∧ Blk w' b1 25 #[.int .i64 (K : Nat), .slice A L.length ca, .slice D ps.length cp, .slice B is.length cb] ∧ From w w') (fun i => ps.length - i) (0) ⟨rfl, trivial⟩ ?_ ?_
  · exact ⟨Nat.zero_le _, hf.from_ From.rfl_, hk1.from_ From.rfl_, (((From.rfl_.next E1).next E12).next E15)⟩
  rintro i ρ24 w24 ⟨hi, hf, hP1, hB⟩
  refine cd_seq (cd_seq (cd_region ?_))
  refine mvi rfl ?_
  refine st_val (ro_fieldAddr FmLawF_f25_2 rfl) ?_
  refine st_val (ro_load FmLawF_g23 rfl (by first | (first | exact (hP1.from_ From.rfl_).whole | exact (hP1.from_ From.rfl_).rd 0 rfl | exact (hP1.from_ From.rfl_).rd 1 rfl | exact (hP1.from_ From.rfl_).rd 2 rfl | exact (hP1.from_ From.rfl_).rd 3 rfl) | (first | exact (hk1.from_ From.rfl_).whole | exact (hk1.from_ From.rfl_).rd 0 rfl | exact (hk1.from_ From.rfl_).rd 1 rfl | exact (hk1.from_ From.rfl_).rd 2 rfl | exact (hk1.from_ From.rfl_).rd 3 rfl))) ?_
  refine st_val (ro_len FmLawF_l23 rfl) ?_
  refine st_val (ro_lss rfl rfl) ?_
  refine st_nil (nx_then ?_)
  refine cd_cond rfl (fun Q25 => ?_) (fun Q25 => ?_)
  · with_reducible replace Q25 := of_decide_eq_true Q25
    obtain ⟨bD, oD, rfl, hcD⟩ := ha.pats (by omega)
    obtain ⟨A9, c9, hce, hr9, hce3⟩ := hcD i (by omega)
    have hq9 := hli.q i (by omega)
    obtain ⟨q, hq⟩ : ∃ q, q = ps[i] := ⟨_, rfl⟩
    rw [← hq] at hce hr9 hce3 hq9
    refine cd_skip (nx_then (cd_seq (cd_block (cd_seq (cd_region ?_)))))
    refine st_val (ro_fieldAddr FmLawF_f25_2 rfl) ?_
    refine st_val (ro_load FmLawF_g23 rfl (by first | (first | exact (hP1.from_ From.rfl_).whole | exact (hP1.from_ From.rfl_).rd 0 rfl | exact (hP1.from_ From.rfl_).rd 1 rfl | exact (hP1.from_ From.rfl_).rd 2 rfl | exact (hP1.from_ From.rfl_).rd 3 rfl) | (first | exact (hk1.from_ From.rfl_).whole | exact (hk1.from_ From.rfl_).rd 0 rfl | exact (hk1.from_ From.rfl_).rd 1 rfl | exact (hk1.from_ From.rfl_).rd 2 rfl | exact (hk1.from_ From.rfl_).rd 3 rfl))) ?_
    refine mvi rfl ?_
    refine st_val (ro_indexAddr1 FmLawF_e23 rfl rfl (by omega)) ?_
    refine st_val (ro_load FmLawF_g22 rfl (by exact cellF hB hce)) ?_
    refine st_call FmLawF_k16 (copyNums_any A9 c9 q _ (hr9.from_ hB) hce3.1) ?_
    rintro v37 w26 ⟨A37, c37, rfl, ho37, E37⟩
    have hr37 := (RowOf.own ho37).2
    replace hf := hf.from_ E37
    replace hP1 := hP1.from_ E37
    refine ass rfl ?_
    refine st_nil (nx_then (cd_seq (cd_region ?_)))
    refine st_val (ro_fieldAddr FmLawF_f25_0 rfl) ?_
    refine st_val (ro_load FmLawF_g3 rfl (by first | (first | exact (hP1.from_ From.rfl_).whole | exact (hP1.from_ From.rfl_).rd 0 rfl | exact (hP1.from_ From.rfl_).rd 1 rfl | exact (hP1.from_ From.rfl_).rd 2 rfl | exact (hP1.from_ From.rfl_).rd 3 rfl) | (first | exact (hk1.from_ From.rfl_).whole | exact (hk1.from_ From.rfl_).rd 0 rfl | exact (hk1.from_ From.rfl_).rd 1 rfl | exact (hk1.from_ From.rfl_).rd 2 rfl | exact (hk1.from_ From.rfl_).rd 3 rfl))) ?_
    refine mvs rfl ?_
    refine st_call FmLawF_k11 (asks_rt (K : Nat) A37 c37 q.length q _ (hr37.from_ From.rfl_) rfl (by omega)) ?_
    rintro v41 w27 ⟨rfl, E41⟩
    refine asi rfl ?_
    refine st_nil (nx_then (cd_seq (cd_region ?_)))
    refine ass rfl ?_
    refine st_nil (nx_then ?_)
    refine cd_cut (G := Option Addr × Nat) [42, 43, 44, 45, 46, 47] (fun (A8, c8) => [(8, .slice A8 (fdL K Ln q).length c8)]) (fun (A8, c8) w' => RowOf iV w' A8 (cI (fdL K Ln q)) ∧ RowOf iV w' A37 q ∧ FmAt w' w.heap.size b K a Ln Bs F ∧ Blk w' b1 25 #[.int .i64 (K : Nat), .slice A L.length ca, .slice (some ⟨bD, oD, none⟩) ps.length cp, .slice B is.length cb] ∧ From w w') ?_ ?_
    · refine cd_seq (cd_region ?_)
      refine mvi rfl ?_
      refine st_val (ro_eql rfl rfl) ?_
      refine st_nil (nx_then ?_)
      refine cd_cond rfl (fun Q28 => ?_) (fun Q28 => ?_)
      · with_reducible replace Q28 := of_decide_eq_true Q28
        refine cd_region ?_
        refine st_val (ro_fieldAddr FmLawF_f25_1 rfl) ?_
        refine st_val (ro_load FmLawF_g22 rfl (by first | (first | exact (hP1.from_ (From.rfl_.next E41)).whole | exact (hP1.from_ (From.rfl_.next E41)).rd 0 rfl | exact (hP1.from_ (From.rfl_.next E41)).rd 1 rfl | exact (hP1.from_ (From.rfl_.next E41)).rd 2 rfl | exact (hP1.from_ (From.rfl_.next E41)).rd 3 rfl) | (first | exact (hk1.from_ (From.rfl_.next E41)).whole | exact (hk1.from_ (From.rfl_.next E41)).rd 0 rfl | exact (hk1.from_ (From.rfl_.next E41)).rd 1 rfl | exact (hk1.from_ (From.rfl_.next E41)).rd 2 rfl | exact (hk1.from_ (From.rfl_.next E41)).rd 3 rfl))) ?_
        refine mvs rfl ?_
        refine st_call FmLawF_k17 (refFind_d A A37 ca c37 L.length q.length L q K Ln _ (ha.rowL.from_ ((hB.next E37).next E41)) hLn rfl (hr37.from_ (From.rfl_.next E41)) rfl (by omega) (by omega) (by omega)) ?_
        rintro v47 w29 ⟨⟨A47, c47, rfl, hr47⟩, E47⟩
        refine ass rfl ?_
        refine st_nil ?_
        refine nx_cut ((A47, c47)) ⟨rfl, trivial⟩ (by (iterate 7 refine agr_cons rfl ?_); exact agr_rfl) ?_
        exact ⟨hr47.from_ From.rfl_, hr37.from_ ((From.rfl_.next E41).next E47), hf.from_ ((From.rfl_.next E41).next E47), hP1.from_ ((From.rfl_.next E41).next E47), (((hB.next E37).next E41).next E47)⟩
      with_reducible replace Q28 := of_decide_eq_false Q28
      refine cd_skip ?_
      refine nx_cut ((none, 0)) ⟨(by unfold fdL; rw [if_neg (by omega)]; rfl), trivial⟩ (by (iterate 2 refine agr_cons rfl ?_); exact agr_rfl) ?_
      exact ⟨by unfold fdL; rw [if_neg (by omega)]; exact RowOf.nil, hr37.from_ (From.rfl_.next E41), hf.from_ (From.rfl_.next E41), hP1.from_ (From.rfl_.next E41), ((hB.next E37).next E41)⟩
    rintro ⟨A8, c8⟩ ρ30 w30 ⟨hr8, hr37, hf, hP1, hB⟩
    refine cd_seq (cd_region ?_)
    refine mvp rfl ?_
    refine mvs rfl ?_
    have hz51 := (hB).size
    refine st_call FmLawF_k18 (find_d _ b K a Ln Bs F _ (hf.from_ From.rfl_) A37 c37 q.length q (hr37.from_ From.rfl_) rfl (by omega)) ?_
    rintro v51 w31 ⟨⟨A51, c51, rfl, ho51⟩, E51⟩
    have hfl := fd_le (K := K) (L := Ln) q
    have hs51 := E51.size
    refine mvt rfl ?_
    refine st_val (ro_extract rfl rfl) ?_
    refine st_val (ro_extract rfl rfl) ?_
    refine ass rfl ?_
    refine asi rfl ?_
    refine st_nil (nx_then (cd_seq (cd_seq (cd_region ?_))))
    refine mvi rfl ?_
    refine st_call FmLawF_k15 (num_any _ _) ?_
    rintro v55 w32 ⟨rfl, rfl⟩
    refine mvi rfl ?_
    refine st_val (ro_bf (ro_neq rfl rfl) (bne_self_eq_false _)) ?_
    refine mvb rfl ?_
    refine st_unguard rfl ?_
    refine mvs rfl ?_
    refine st_unguard rfl ?_
    refine mvs rfl ?_
    refine st_unguard rfl ?_
    refine st_call FmLawF_k19 (eq_same A51 A8 c51 c8 (fdL K Ln q).length (fdL K Ln q).length (cI (fdL K Ln q)) _ ((RowOf.own ho51).2.from_ From.rfl_) (hr8.from_ (From.rfl_.next E51)) (by rw [List.length_map]) (by rw [List.length_map]) (by omega)) ?_
    rintro v61 w33 ⟨rfl, E61⟩
    refine st_unguard rfl ?_
    refine st_val (ro_bf (ro_not rfl) rfl) ?_
    refine st_val (ro_pickF (v := .bool _) rfl rfl) ?_
    refine mvb rfl ?_
    refine st_unguard rfl ?_
    refine mvs rfl ?_
    refine st_unguard rfl ?_
    refine st_val (ro_fieldAddr FmLawF_f25_2 rfl) ?_
    refine st_unguard rfl ?_
    refine st_val (ro_load FmLawF_g23 rfl (by first | (first | exact (hP1.from_ ((From.rfl_.next E51).next E61)).whole | exact (hP1.from_ ((From.rfl_.next E51).next E61)).rd 0 rfl | exact (hP1.from_ ((From.rfl_.next E51).next E61)).rd 1 rfl | exact (hP1.from_ ((From.rfl_.next E51).next E61)).rd 2 rfl | exact (hP1.from_ ((From.rfl_.next E51).next E61)).rd 3 rfl) | (first | exact (hk1.from_ ((From.rfl_.next E51).next E61)).whole | exact (hk1.from_ ((From.rfl_.next E51).next E61)).rd 0 rfl | exact (hk1.from_ ((From.rfl_.next E51).next E61)).rd 1 rfl | exact (hk1.from_ ((From.rfl_.next E51).next E61)).rd 2 rfl | exact (hk1.from_ ((From.rfl_.next E51).next E61)).rd 3 rfl))) ?_
    refine st_unguard rfl ?_
    refine mvi rfl ?_
    refine st_unguard rfl ?_
    refine st_val (ro_indexAddr1 FmLawF_e23 rfl rfl (by omega)) ?_
    refine st_unguard rfl ?_
    refine st_val (ro_load FmLawF_g22 rfl (by exact cellF ((hB.next E51).next E61) hce)) ?_
    refine st_unguard rfl ?_
    refine st_call FmLawF_k19 (eq_same A37 A9 c37 c9 q.length q.length q _ (hr37.from_ ((From.rfl_.next E51).next E61)) (hr9.from_ ((hB.next E51).next E61)) rfl rfl (by omega)) ?_
    rintro v71 w34 ⟨rfl, E71⟩
    refine st_unguard rfl ?_
    refine st_val (ro_bf (ro_not rfl) rfl) ?_
    refine st_val (ro_pickF (v := .bool _) rfl rfl) ?_
    refine st_nil (nx_then ?_)
    refine cd_condF rfl ?_
    refine cd_skip (nx_then (cd_region ?_))
    refine mvs rfl ?_
    have hM75 := (((From.rfl_.next E51).next E61).next E71)
    refine st_call FmLawF_k20 (spoil_c _ A51 c51 (fdL K Ln q).length (fdL K Ln q) _ (ho51.kept_from (E61.next E71)) (by omega) (Nat.le_trans hs51 (E61.next E71).size)) ?_
    rintro v75 w35 hg75
    have E75 := hM75.grew hg75 (fun k hk => (own_at ho51 k hk).1)
    replace hf := hf.from_ E75
    replace hP1 := hP1.from_ E75
    refine st_nil (nx_block (nx_then (cd_region ?_)))
    refine mvi rfl ?_
    refine st_val (ro_addN (b := 1) rfl rfl (by omega)) ?_
    refine asi rfl ?_
    refine st_nil ?_
    refine nx_cut (i + 1) ⟨(by first | rfl | (refine int_eq ?_; omega)), trivial⟩ (by (iterate 116 refine agr_cons rfl ?_); exact agr_rfl) ⟨?_, ?_⟩
    · exact ⟨by omega, hf.from_ From.rfl_, hP1.from_ From.rfl_, (((((hB.next E51).next E61).next E71)).grew hg75 (fun k hk => Nat.le_trans hz51 (own_at ho51 k hk).1))⟩
    · show ps.length - (i + 1) < ps.length - i; omega
  with_reducible replace Q25 := of_decide_eq_false Q25
  refine cd_exit ?_
  refine ex_then (ex_then (ex_block (nx_then (cd_seq (cd_region ?_)))))
  refine st_call FmLawF_k10 (wakes_rt _) ?_
  rintro v76 w36 ⟨rfl, E76⟩
  refine asb rfl ?_
  refine st_nil (nx_then (cd_ret ?_))
  refine res1 (v := .bool _) rfl rfl ?_
  exact ⟨rfl, (hB.next E76)⟩
theorem finds_arg (cs : Array Value) (x : (Ty.pr (.int .i64) (.pr (.sl (.int .i64)) (.pr (.sl (.sl (.int .i64))) (.pr (.sl (.int .i64)) .unit)))).den) (w : World) (hs : cs.size = 4) (h : (Ty.pr (.int .i64) (.pr (.sl (.int .i64)) (.pr (.sl (.sl (.int .i64))) (.pr (.sl (.int .i64)) .unit)))).At w (fun j => cs[j]?) x) :
    Rt Try.prog 4 [.agg cs] w fun v w' => v = .bool true ∧ From w w' := by
  obtain ⟨k, A, ca, L, D, cp, ps, B, cb, is, rfl, ha, hcap⟩ := ask_of6 hs h
  exact finds_law k A D B ca cp cb L ps is w ha
theorem FmFinds_lifted (os : Os) (started : os.Started) (H : Type) (enc : TypeId × Value → H) :
    ReturnsInHanded {} Try.checked os 4 .any (Rows.fmFindsSpec.pre6 enc Try.prog Try.f4 Rows.fmFindsRow.domain false) (Rows.fmFindsSpec.post enc Try.prog Try.f4 false true false false) := by
  refine returnsInHanded_of_change_sized (C := Try.checked) Try.own started (by kernel_rfl) Try.func4
    (ChangeSpec.witness6 (enc := enc) (C := Try.checked) false ⟨#[], #[.agg #[.int .i64 0, .slice none 0 0, .slice none 0 0, .slice none 0 0]], []⟩ 8 (by kernel_rfl) (by kernel_rfl) (by kernel_rfl) (by kernel_rfl)) ?_
  intro W base args ds gs before hval hW _ hsz _
  exact law_step 4 Try.f4 25 4 Rows.fmFindsSpec Try.params4 (by kernel_rfl) Try.underlying4 rfl (fun _ => rfl) (by kernel_rfl) (of_decide_eq_true (by kernel_rfl)) (walk_struct (.int .i64) (.pr (.sl (.int .i64)) (.pr (.sl (.sl (.int .i64))) (.pr (.sl (.int .i64)) .unit))) (by kernel_rfl) finds_arg) W base args ds gs before hval hW hsz

theorem FmFinds_holds : Rows.FmFindsSaid :=
  OpenClaim.holds_of_wide 4 Try.f4 rfl rfl rfl rfl rfl rfl rfl ⟨rfl, rfl, rfl, rfl, rfl⟩ rfl rfl rfl rfl rfl (by kernel_rfl) Try.func4 (by kernel_rfl)
    (of_decide_eq_true (by kernel_rfl)) (by unfold Func.isWrapper; first | (rw [if_pos (by decide +kernel)]; kernel_rfl) | (rw [if_neg (by decide +kernel)]; exact ⟨rfl, rfl⟩))
    (fun os started H enc _ => FmFinds_lifted os started H enc)
#print axioms FmFinds_holds

end Go.Proofs.Ytepdgbglaiimaaa
