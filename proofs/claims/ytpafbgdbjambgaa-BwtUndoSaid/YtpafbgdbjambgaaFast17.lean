/- A range over an iterator: the judgement of a round's body, the loop's law, and functions whose frame bears the loop's mark. -/
import Derived.RangeFuncLeaves
import Derived.RangeFuncWrites
import Derived.OrdersIn
import Derived.TacticsIn
import Derived.TacticsInMore
import Derived.LoopIn
import Derived.LoopNIn
import Derived.Shelf.Abstract
import Derived.Test.YtpafbgdbjambgaaFast16
namespace Go.Proofs.Ytpafbgdbjambgaa
open Go.RowKit Go.Shelf

theorem rows_wide {n : Nat} {P : Program} {row : String} {args : Array Value} {w : World} {R : Value → World → Prop} (h : Rows P row args w R) : RowsIn Fence.wide n P row args w R := fun c cs _ =>
  let ⟨v, w', r, s⟩ := h c cs
  ⟨v, w', r, stepsIn_wide.2 s⟩
structure CdR (l : Nat) (P : Program) (c : Code) (Q : Exit → Act → World → Prop) (n : Fr) (L : List (Nat × Value)) (w : World) : Prop where
  out : c.wpIn (Fence.wide.inRound l) 0 P Q (mkA n L) w
def noDef (ops : List Oper) : Bool := ops.all fun o => match o.op with | .defer _ => false | _ => true
theorem noDef_at {ops : List Oper} {o : Oper} (h : noDef ops = true) (ho : o ∈ ops) : ∀ c, o.op ≠ .defer c := fun c e => by
  have := List.all_eq_true.1 h o ho
  rw [e] at this
  cases this
section
variable {l : Nat} {P : Program} {ops : Array Oper} {Q : Exit → Act → World → Prop}
theorem op_in {o : Oper} {a : Act} {w : World} {K : Act → World → Prop} (hd : ∀ c, o.op ≠ .defer c) (hQ : ¬ LetsOut Q) (h : o.wp P a w K Q ∨ (o.asks P a w ∧ LetsOut Q)) : o.wpIn (Fence.wide.inRound l) 0 P a w K Q := by
  refine ⟨fun _ _ => trivial, ?_⟩
  rcases h with h | ⟨_, h⟩
  · unfold Oper.wp at h
    rw [Fence.inRound_round, Oper.semAt_some _ _ _ hd]
    generalize (execOp a.eval o).run P w = r at h ⊢
    cases r with
    | ok x w' =>
      cases x <;> first
        | exact h
        | exact ⟨fun h => absurd (show false = true from h) (by decide), (show CallsIn Fence.wide (0 - 1) P _ _ _ _ from callsIn_wide.2 h)⟩
        | exact ⟨fun h => absurd (show false = true from h) (by decide), (show RowsIn Fence.wide (0 - 1) P _ _ _ _ from rows_wide h)⟩
        | exact h.elim
    | halt o w' => cases o <;> exact h
  · exact absurd h hQ
theorem any_in (hd : noDef ops.toList = true) (hQ : ¬ LetsOut Q) : ∀ (fuel : Nat) (listed : Array Bool) (a : Act) (w : World), wpAny P .any ops Q fuel listed a w → wpAnyIn (Fence.wide.inRound l) 0 P .any ops Q fuel listed a w
  | 0, _, _, _, h => h
  | fuel + 1, listed, a, w, h => ⟨h.1, fun i hi => by
    have h2 := h.2 i hi
    unfold wpOp at h2
    unfold wpOpIn
    cases ho : ops[i]? with
    | none => rw [ho] at h2; exact any_in hd hQ fuel _ _ _ h2
    | some o =>
      rw [ho] at h2
      simp only at h2 ⊢
      have hm : o ∈ ops.toList := Array.mem_toList_iff.2 (Array.mem_of_getElem? ho)
      split at h2
      · rename_i hw
        rw [if_pos hw]
        exact op_in (noDef_at hd hm) hQ (h2.imp (Oper.wp_mono fun a w => any_in hd hQ fuel _ a w) id)
      · rename_i hw
        rw [if_neg hw]
        exact ⟨fun _ _ => trivial, any_in hd hQ fuel _ _ _ h2⟩⟩
theorem list_in (hQ : ¬ LetsOut Q) : ∀ {r : List Oper} {a : Act} {w : World}, noDef r = true → wpList P ops Q r a w → wpListIn (Fence.wide.inRound l) 0 P ops Q r a w
  | [], _, _, _, h => h
  | o :: r, a, w, hd, h => by
    have hd2 : noDef r = true := by
      unfold noDef at hd ⊢
      rw [List.all_cons, Bool.and_eq_true] at hd
      exact hd.2
    unfold wpList at h
    unfold wpListIn
    split at h
    · rename_i hw
      rw [if_pos hw]
      exact op_in (noDef_at hd (List.mem_cons_self ..)) hQ (h.imp (Oper.wp_mono fun a w h => list_in hQ hd2 h) id)
    · rename_i hw
      rw [if_neg hw]
      exact ⟨fun _ _ => trivial, list_in hQ hd2 h⟩
variable {n : Fr} {L : List (Nat × Value)} {w : World}
theorem cr_seq {x y : Code} (h : CdR l P x (Exit.then (fun a w => y.wpIn (Fence.wide.inRound l) 0 P Q a w) Q) n L w) : CdR l P (.seq x y) Q n L w := ⟨wpIn_seq h.out⟩
theorem cr_block {id : Nat} {c : Code} (h : CdR l P c (Exit.inBlock id Q) n L w) : CdR l P (.block id c) Q n L w := ⟨wpIn_block h.out⟩
theorem nr_then {y : Code} (h : CdR l P y Q n L w) : Exit.then (fun a w => y.wpIn (Fence.wide.inRound l) 0 P Q a w) Q .normal (mkA n L) w := h.out
theorem cr_region {id : Nat} {r : List Oper} (hd : noDef r = true) (hQ : ¬ LetsOut Q) (h : St P r.toArray Q r n L w) : CdR l P (.region id r.toArray false) Q n L w := ⟨wpIn_region_lit (list_in hQ hd h.out)⟩
theorem cr_drawn {id : Nat} {r : List Oper} (K : Nat) (RL : List (Nat × (Value → World → Prop))) (hm : P.follows .mixedOrders = true) (hc : monoB r K = true) (hmono : MonoR RL) (hd : noDef r = true) (hQ : ¬ LetsOut Q)
    (hop : OpsOK P r.toArray n L w (lookR RL) (preOf r K) (r.take K)) (hend : ∀ w', From w w' → AllF (lookR RL) w' (preOf r K) fun M => St P r.toArray Q (r.drop K) n (M ++ L) w') : CdR l P (.region id r.toArray true) Q n L w := by
  have hKl : K ≤ r.length := of_decide_eq_true (Bool.and_eq_true_iff.1 hc).1
  have := mono_seq (Q := Q) (w := w) hc (lookR_mono hmono) hop hend r.length (Array.replicate r.length false) L { w with drawn := w.drawn + 1 } (by simp) (by simp)
    (fun j _ hj => by simp [Array.getD, hj]) (From.rfl_.d1) (fun _ _ => rfl) (fun i o d hi _ hl => by
      have : i < r.length := by omega
      simp [Array.getD, this] at hl)
  exact ⟨wpIn_region_any hm (any_in (by simpa using hd) hQ _ _ _ _ (by simpa using this))⟩
end
/-- how a round is left -/
def RPost (I : World → Prop) : Exit → Act → World → Prop
  | .normal, _, W => I W
  | _, _, _ => False
/-- whatever is no cells lies as it lay -/
def Keeps (W W' : World) : Prop := ∀ (q : Nat) (o : Obj), W.heap[q]? = some o → o.isCells = false → W'.heap[q]? = some o
theorem Keeps.rfl_ {W : World} : Keeps W W := fun _ _ h _ => h
theorem Keeps.trans {W W1 W2 : World} (h : Keeps W W1) (k : Keeps W1 W2) : Keeps W W2 := fun q o hq ho => k q o (h q o hq ho) ho
theorem Keeps.from_ {W W' : World} (h : From W W') : Keeps W W' := fun q o hq _ => by
  rw [h.block q (Array.getElem?_eq_some_iff.1 hq).1]
  exact hq
theorem Keeps.only {W W' : World} {g t : Nat} {cs : Array Value} (h : Only g W W') (hb : Blk W g t cs) : Keeps W W' := fun q o hq ho => by
  rw [h.block q (fun e => by
    subst e
    unfold Blk at hb
    rw [hb] at hq
    cases hq
    cases ho)]
  exact hq
theorem only_putObj {W : World} {q : Nat} {o : Obj} : Only q W (W.putObj q o) := ⟨rfl, rfl, rfl, by simp, fun k hk => World.putObj_heap_other (fun e => hk (by rw [e]))⟩
theorem blk_aside {W : World} {g t q : Nat} {cs : Array Value} {o : Obj} (hb : Blk W g t cs) (hq : W.heap[q]? = some o) (ho : o.isCells = false) : g ≠ q := fun e => by
  subst e
  unfold Blk at hb
  rw [hb] at hq
  cases hq
  cases ho
/-- an iterator that yields N pairs -/
structure IterOK (P : Program) (gf : Nat) (lb : Array Value) (u v : Nat → Value) (N : Nat) (Rd : World → Prop) : Prop where
  out : ∀ (l : Nat) (J : Nat → World → Prop) (W : World), (∀ k W', J k W' → Rd W') → (∀ k W1, k < N → J k W1 → YieldAt Fence.wide 0 P l #[u k, v k] W1 fun e W' => e = .returned (.bool true) ∧ J (k + 1) W') → J 0 W →
    CallsIn Fence.wide 1 P gf (#[.func (.yield l) #[] #[]] ++ lb) W fun e W' => (∃ v, e = .returned v) ∧ J N W'
theorem cd_range2 {P : Program} {Q : Exit → Act → World → Prop} {n : Fr} {L : List (Nat × Value)} {w : World} {g : Operand} {p1 p2 : Nat} {assign body : Code} {gf : Nat} {lb : Array Value} {u v : Nat → Value} {N : Nat} {Rd : World → Prop}
    (hg : ev n L g = .func (.func gf) #[] lb) (he : ∀ args w, (callFunc gf args).run P w = .ok (.enter gf args) w) (hit : IterOK P gf lb u v N Rd) (I : Nat → World → Prop) (LB : Nat → List (Nat × Value)) (hRd : ∀ k W, I k W → Rd W)
    (hF : ∀ k W W', I k W → From W W' → I k W') (hO : ∀ k W W' q o, W.heap[q]? = some o → o.isCells = false → Only q W W' → w.heap.size ≤ q → I k W → I k W') (h0 : I 0 w)
    (ha : ∀ (l k : Nat) (W : World) (K : Act → World → Prop), K (mkA ⟨n.n, []⟩ (LB k)) W → CdR l P assign (Exit.then K fun _ _ _ => False) ⟨n.n, []⟩ ((p2, v k) :: (p1, u k) :: L) W)
    (hb : ∀ (l k : Nat) (W : World), k < N → I k W → CdR l P body (RPost fun W' => I (k + 1) W' ∧ Keeps W W') ⟨n.n, []⟩ (LB k) W)
    (hd : ∀ (D : Nat) (W : World), w.heap.size ≤ D → I N W → W.heap[D]? = some (.deferred (some [])) → Q .normal (mkA ⟨n.n, { target := .collected D, args := #[] } :: n.ds⟩ L) W) :
    Cd P (.rangeFunc g #[p1, p2] assign body) Q n L w := by
  refine ⟨(wpIn_wide (n := 2)).1 (wpIn_rangeFunc fun fn _ => ?_)⟩
  obtain ⟨rec, hrec⟩ : ∃ rec : LoopState → Option Code → Loop, rec = fun st pe => { state := st, pending := pe, fn, tmps := mkT n.n L, params := #[p1, p2], assign, body, defers := w.heap.size } := ⟨_, rfl⟩
  obtain ⟨D, hD⟩ : ∃ D, D = w.heap.size := ⟨_, rfl⟩
  obtain ⟨W1, hW1⟩ : ∃ W1, (w.alloc (.deferred (some []))).alloc (.loop (rec .ready none)) = W1 := ⟨_, rfl⟩
  have hL1 : W1.heap[D + 1]? = some (.loop (rec .ready none)) := by
    rw [← hW1, hD]
    have := World.alloc_heap_new (w.alloc (.deferred (some []))) (.loop (rec .ready none))
    rwa [World.size_alloc] at this
  have hK1 : W1.heap[D]? = some (.deferred (some [])) := by
    rw [← hW1, hD]
    exact (Below.heap_alloc _ _ _ (by simp)).trans (World.alloc_heap_new w _)
  have hI1 : I 0 W1 := hF 0 w W1 h0 (by rw [← hW1]; exact (From.rfl_.new _).next (From.rfl_.new _))
  refine ⟨D + 1, [{ target := .collected D, args := #[] }], W1, { target := .fn (.func gf) lb, args := #[.func (.yield (D + 1)) #[] #[]] }, W1, gf, #[.func (.yield (D + 1)) #[] #[]] ++ lb, W1, ?_, ?_, fun _ _ => trivial, ?_, (fun h => by cases h), ?_⟩
  · rw [← hW1, hrec, hD]
    exact run_enterLoop_outer _ _ _ _ _
  · simp only [resolve, eval_mkA, hg]
    simp [go_sem, ev]
  · simp [invoke, go_sem, he]
  · refine (hit.out (D + 1) (fun k W => I k W ∧ W.heap[D + 1]? = some (.loop (rec .ready none)) ∧ W.heap[D]? = some (.deferred (some []))) W1 (fun k W' h => hRd k W' h.1) ?_ ⟨hI1, hL1, hK1⟩).mono ?_
    · rintro k W hk ⟨hi, hl, hdf⟩
      have hlt : D + 1 < W.heap.size := (Array.getElem?_eq_some_iff.1 hl).1
      have hy := run_yield (P := P) (args := #[u k, v k]) hl (by rw [hrec]; rfl)
      rw [hrec] at hy
      refine ⟨fn, _, assign, body, hy, roundIn_of_wpIn trivial ?_⟩
      obtain ⟨W2, hW2⟩ : ∃ W2, W.putObj (D + 1) (.loop { rec .ready none with state := .busy }) = W2 := ⟨_, rfl⟩
      have hO2 : Only (D + 1) W W2 := by rw [← hW2]; exact only_putObj
      have hl2 : W2.heap[D + 1]? = some (.loop { rec .ready none with state := .busy }) := by rw [← hW2]; exact World.putObj_heap_same hlt
      have hd2 : W2.heap[D]? = some (.deferred (some [])) := by rw [hO2.block D (by omega)]; exact hdf
      have hi2 : I k W2 := hO k W W2 (D + 1) _ hl rfl hO2 (by omega) hi
      have key := (ha (D + 1) k W (fun a₁ w₁ => ∃ w₂, (Instr.beginRound (D + 1)).run P w₁ = .ok () w₂ ∧ body.wpIn (Fence.wide.inRound (D + 1)) 0 P (roundPost P (D + 1) fun e W' => e = .returned (.bool true) ∧ I (k + 1) W' ∧ W'.heap[D + 1]? = some (.loop (rec .ready none)) ∧ W'.heap[D]? = some (.deferred (some []))) a₁ w₂) ⟨W2, ?_, ?_⟩).out
      · have e : ({ tmps := (Array.foldl (fun tmps (x : Tmp × Value) => tmps.setIfInBounds x.1 x.2) (mkT n.n L) (#[p1, p2].zip #[u k, v k])), defers := [] } : Act) = mkA ⟨n.n, []⟩ ((p2, v k) :: (p1, u k) :: L) := by
          have e1 := put_mkA ⟨n.n, []⟩ L p1 (u k)
          have e2 := put_mkA ⟨n.n, []⟩ ((p1, u k) :: L) p2 (v k)
          rw [← e2, ← e1]
          simp [mkA, Act.put]
        rw [← e] at key
        exact key
      · rw [← hW2]
        exact run_beginRound hl (by rw [hrec])
      · refine wpIn_mono (hb (D + 1) k W2 hk hi2).out fun e a3 W3 hp => ?_
        cases e <;> first | exact hp.elim | skip
        obtain ⟨hi3, hk3⟩ := hp
        have hl3 := hk3 _ _ hl2 rfl
        have hd3 := hk3 _ _ hd2 rfl
        have hlt3 := (Array.getElem?_eq_some_iff.1 hl3).1
        have hr := run_endRound (P := P) none hl3
        refine ⟨_, _, hr, rfl, hO _ W3 _ (D + 1) _ hl3 rfl only_putObj (by omega) hi3, ?_, ?_⟩
        · rw [World.putObj_heap_same hlt3, hrec]
          rfl
        · rw [World.putObj_heap_other (by omega)]
          exact hd3
    · rintro e W2 ⟨⟨x, rfl⟩, hi, hl, hdf⟩
      refine ⟨none, _, by have := run_endLoop (P := P) hl (by rw [hrec]; simp); rw [hrec] at this; exact this, ?_⟩
      exact hd D _ (by omega) (hO _ W2 _ (D + 1) _ hl rfl only_putObj (by omega) hi) ((World.putObj_heap_other (by omega)).trans hdf)
/-! ### functions with such a loop -/
/-- how such a body is left: never by a panic -/
def bodyM (P : Program) (fn : Func) (R : Ending → World → Prop) : Exit → Act → World → Prop
  | .normal, a, w | .ret, a, w => LeavesInM Fence.wide 2 P fn a.tmps R a.defers .returning w
  | _, _, _ => False
theorem pq_bodyM {P : Program} {fn : Func} {R : Ending → World → Prop} : PQ (bodyM P fn R) := ⟨fun _ _ _ _ _ h => h⟩
theorem enterM {P : Program} {f : FuncId} {fn : Func} {c : Code} {l : List Value} {w : World} {R : Value → World → Prop} {n : Nat} (hf : P.funcs[f]? = some fn) (hb : fn.body = some c) (hn : fn.ntmps = n) (hl : Nat.ble l.length n = true)
    (h : Cd P c (bodyM P fn fun e w' => ∃ v, e = .returned v ∧ R v w') ⟨n, []⟩ (argsL 0 l) w) : Rt P f l w R := by
  refine (callsIn_wide (n := 2)).1 (callsIn_of_wp_marks hf hb trivial ?_)
  refine wpIn_wide.2 ?_
  rw [hn, args_mkT n l (Nat.le_of_ble_eq_true hl)]
  exact wp_mono h.out fun e a w q => by
    cases e <;> first | exact q | exact q.elim
theorem resM {P : Program} {fn : Func} {m D : Nat} {L : List (Nat × Value)} {w : World} {t : Nat} {R : Value → World → Prop} {v : Value} (hr : fn.results = #[.tmp t]) (hv : ev ⟨m, [{ target := .collected D, args := #[] }]⟩ L (.tmp t) = v) (hD : w.heap[D]? = some (.deferred (some []))) (h : ∀ w', Only D w w' → R v w') :
    bodyM P fn (fun e w' => ∃ v, e = .returned v ∧ R v w') .ret (mkA ⟨m, [{ target := .collected D, args := #[] }]⟩ L) w := by
  refine ⟨by simp, .inl ⟨D, _, rfl, run_takeDeferred hD, ?_⟩⟩
  refine ⟨_, results_tmp hr _ _ _, v, ?_, h _ only_putObj⟩
  rw [← hv]
  exact congrArg Ending.returned (getD_mkT m L t)
end Go.Proofs.Ytpafbgdbjambgaa
