/- A region that draws its order, by an invariant of what has run: operations, stores among them, in every order that the region lets. -/
import Derived.Test.YtpafbgdbjambgaaFast13
namespace Go.Proofs.Ytpafbgdbjambgaa
open Go.RowKit

def edgesB (l : List Oper) : Bool := (List.range l.length).all fun i => match l[i]? with
  | none => false
  | some o => o.guard.isNone && o.after.toList.all fun e => !Region.binds .any e || decide (e.on < i)
def setB (S : Nat → Bool) (i : Nat) : Nat → Bool := fun j => if j = i then true else S j
/-- one operation runs, and the invariant holds behind it -/
def StepI (P : Program) (n : Fr) (o : Oper) (Inv : List (Nat × Value) → World → Prop) (L' : List (Nat × Value)) (w' : World) : Prop :=
  (∃ d v w'', o.dst = some d ∧ (execOp (ev n L') o).run P w' = .ok (.value v) w'' ∧ Inv ((d, v) :: L') w'') ∨
  (∃ w'', o.dst = none ∧ (execOp (ev n L') o).run P w' = .ok .skip w'' ∧ Inv L' w'') ∨
  (∃ d f args, o.dst = some d ∧ (execOp (ev n L') o).run P w' = .ok (.enter f (List.toArray args)) w' ∧ Rt P f args w' fun v w'' => Inv ((d, v) :: L') w'')
section
variable {P : Program} {Q : Exit → Act → World → Prop} {n : Fr} {L : List (Nat × Value)} {w : World} {l : List Oper}
theorem inv_any {Inv : (Nat → Bool) → List (Nat × Value) → World → Prop} (hwf : edgesB l = true)
    (hstep : ∀ (i : Nat) (o : Oper) (S : Nat → Bool) (L' : List (Nat × Value)) (w' : World), l[i]? = some o → Inv S L' w' → S i = false → (∀ e ∈ o.after, Region.binds .any e = true → S e.on = true) → StepI P n o (Inv (setB S i)) L' w')
    (hend : ∀ L' w', Inv (fun i => decide (i < l.length)) L' w' → Q .normal (mkA n L') w') :
    ∀ (m : Nat) (listed : Array Bool) (L' : List (Nat × Value)) (w' : World), listed.toList.count false = m → listed.size = l.length → Inv (fun i => listed.getD i false) L' w' → wpAny P .any l.toArray Q m listed (mkA n L') w' := by
  have hck := List.all_eq_true.1 hwf
  intro m
  induction m with
  | zero =>
    intro listed L' w' hcount hs hI
    have hall : ∀ i, i < l.length → listed.getD i false = true := fun i hi => by
      have hm : listed[i]'(by omega) ∈ listed.toList := by simp
      cases hb : listed[i]'(by omega) with
      | true => simp [Array.getD, show i < listed.size by omega, hb]
      | false => rw [hb] at hm; exact absurd hcount (Nat.pos_iff_ne_zero.1 (List.count_pos_iff.2 hm))
    have e : (fun i => listed.getD i false) = fun i => decide (i < l.length) := by
      funext i
      by_cases hi : i < l.length
      · rw [hall i hi, decide_eq_true hi]
      · rw [decide_eq_false hi]
        simp [Array.getD, show ¬ i < listed.size by omega]
    rw [e] at hI
    refine ⟨?_, hend L' w' hI⟩
    cases hr : Region.ready .any l.toArray listed with
    | nil => rfl
    | cons i r =>
      exfalso
      obtain ⟨h0, o, ho, _⟩ := mem_ready.1 (show i ∈ Region.ready .any l.toArray listed by rw [hr]; simp)
      rw [List.getElem?_toArray] at ho
      have hil : i < l.length := (List.getElem?_eq_some_iff.1 ho).1
      have := hall i hil
      rw [← getD_true_false (by omega), h0] at this
      cases this
  | succ m ih =>
    intro listed L' w' hcount hs hI
    have hn0 : ∃ i, i < l.length ∧ listed.getD i true = false := by
      have hpos : 0 < listed.toList.count false := by omega
      obtain ⟨i, hi, hb⟩ := List.getElem_of_mem (List.count_pos_iff.1 hpos)
      rw [Array.length_toList] at hi
      refine ⟨i, by omega, ?_⟩
      rw [Array.getElem_toList] at hb
      simp [Array.getD, hi, hb]
    obtain ⟨i0, hi0, hmin⟩ := exists_least (p := fun i => i < l.length ∧ listed.getD i true = false) hn0
    have hready : i0 ∈ Region.ready .any l.toArray listed := by
      refine mem_ready.2 ⟨hi0.2, l[i0]'hi0.1, by rw [List.getElem?_toArray, List.getElem?_eq_getElem hi0.1], fun e he hb => ?_⟩
      have hx := hck i0 (List.mem_range.2 hi0.1)
      rw [List.getElem?_eq_getElem hi0.1] at hx
      simp only [Bool.and_eq_true] at hx
      have he2 := List.all_eq_true.1 hx.2 e (by simpa using he)
      rw [hb] at he2
      simp at he2
      have := hi0.1
      rw [← getD_true_false (by omega)]
      cases hb2 : listed.getD e.on true with
      | true => rfl
      | false => exact absurd (hmin e.on ⟨by omega, hb2⟩) (by omega)
    refine ⟨fun h0 => (by rw [h0] at hready; cases hready), fun i hi => ?_⟩
    obtain ⟨h0, o, ho, hall⟩ := mem_ready.1 hi
    rw [List.getElem?_toArray] at ho
    have hil : i < l.length := (List.getElem?_eq_some_iff.1 ho).1
    have hx := hck i (List.mem_range.2 hil)
    rw [ho] at hx
    simp only [Bool.and_eq_true] at hx
    have hg : o.guard = none := by simpa using hx.1
    have h0f : listed.getD i false = false := by rw [← getD_true_false (by omega)]; exact h0
    have hset : (fun j => (listed.setIfInBounds i true).getD j false) = setB (fun j => listed.getD j false) i := by
      funext j
      unfold setB
      by_cases e : j = i
      · subst e
        simp [Array.getD, show j < listed.size by omega]
      · rw [if_neg e, getD_set_ne false (Ne.symm e)]
    have hcnt : (listed.setIfInBounds i true).toList.count false = m := by
      have hil' : i < listed.size := by omega
      have hfalse : listed.toList[i]? = some false := by
        rw [Array.getElem?_toList, Array.getElem?_eq_getElem hil']
        simp [Array.getD, hil'] at h0
        rw [h0]
      rw [Array.toList_setIfInBounds]
      have := count_set_true (l := listed.toList) (i := i) hfalse
      omega
    have next : ∀ L2 w2, Inv (setB (fun j => listed.getD j false) i) L2 w2 → wpAny P .any l.toArray Q m (listed.setIfInBounds i true) (mkA n L2) w2 := fun L2 w2 h =>
      ih _ L2 w2 hcnt (by simpa using hs) (by rw [hset]; exact h)
    unfold wpOp
    rw [List.getElem?_toArray, ho]
    show if Region.wanted o (yielded l.toArray (mkT n.n L')) = true then _ else _
    rw [if_pos (by unfold Region.wanted; rw [hg])]
    refine .inl ?_
    unfold Oper.wp
    rw [eval_mkA]
    rcases hstep i o _ L' w' ho hI h0f hall with ⟨d, v, w'', hd, hr, hI2⟩ | ⟨w'', hd, hr, hI2⟩ | ⟨d, f, args, hd, hr, hc⟩
    · rw [hr, Oper.upon_value, hd, put_mkA]
      exact next _ _ hI2
    · rw [hr, Oper.upon_skip, hd]
      exact next _ _ hI2
    · rw [hr, Oper.upon_enter, hd]
      refine Calls.mono hc fun e w'' ⟨v, he, hI2⟩ => ?_
      subst he
      show wpAny P .any l.toArray Q m (listed.setIfInBounds i true) ((mkA n L').put (some d) v) w''
      rw [put_mkA]
      exact next _ _ hI2
/-- a region that draws its order, by an invariant -/
theorem cd_inv {id : Nat} (Inv : (Nat → Bool) → List (Nat × Value) → World → Prop) (hm : P.follows .mixedOrders = true) (hwf : edgesB l = true) (h0 : Inv (fun _ => false) L { w with drawn := w.drawn + 1 })
    (hstep : ∀ (i : Nat) (o : Oper) (S : Nat → Bool) (L' : List (Nat × Value)) (w' : World), l[i]? = some o → Inv S L' w' → S i = false → (∀ e ∈ o.after, Region.binds .any e = true → S e.on = true) → StepI P n o (Inv (setB S i)) L' w')
    (hend : ∀ L' w', Inv (fun i => decide (i < l.length)) L' w' → Q .normal (mkA n L') w') : Cd P (.region id l.toArray true) Q n L w := by
  refine ⟨wp_region_any hm ?_⟩
  have := inv_any (Q := Q) hwf hstep hend l.length (Array.replicate l.length false) L { w with drawn := w.drawn + 1 } (by simp) (by simp) (by
    have e : (fun i => (Array.replicate l.length false).getD i false) = fun _ => false := by
      funext i
      by_cases hi : i < l.length <;> simp [Array.getD, hi]
    rw [e]
    exact h0)
  simpa using this
theorem step_ro {d : Nat} {op : Op} {ty : TypeId} {pos : String} {after : Array Edge} {v : Value} {w' w'' : World} {L' : List (Nat × Value)} {Inv : List (Nat × Value) → World → Prop} (h : RO P (ev n L') op w' v w'') (hI : Inv ((d, v) :: L') w'') : StepI P n ⟨some d, op, ty, pos, after, none⟩ Inv L' w' :=
  .inl ⟨d, v, w'', rfl, h _ _ _ _ _, hI⟩
theorem step_rs {op : Op} {ty : TypeId} {pos : String} {after : Array Edge} {w' w'' : World} {L' : List (Nat × Value)} {Inv : List (Nat × Value) → World → Prop} (h : RS P (ev n L') op w' w'') (hI : Inv L' w'') : StepI P n ⟨none, op, ty, pos, after, none⟩ Inv L' w' :=
  .inr (.inl ⟨w'', rfl, h _ _ _ _ _, hI⟩)
theorem step_call {d : Nat} {f : FuncId} {al : List Operand} {ats : Array TypeId} {ty : TypeId} {pos : String} {after : Array Edge} {w' : World} {L' : List (Nat × Value)} {Inv : List (Nat × Value) → World → Prop} (hf : callable P f = true) (hc : Rt P f (al.map (ev n L')) w' fun v w'' => Inv ((d, v) :: L') w'') : StepI P n ⟨some d, .call { callee := .value (.func f), args := al.toArray, argTypes := ats }, ty, pos, after, none⟩ Inv L' w' :=
  .inr (.inr ⟨d, f, al.map (ev n L'), rfl, by rw [exec_call (fun _ => rfl), run_call hf], hc⟩)
/-! ### the values of the slots, by a table: (operation, slot, value) -/
def InvL (L : List (Nat × Value)) (T : List (Nat × Nat × Value)) (S : Nat → Bool) (L' : List (Nat × Value)) : Prop :=
  (∀ t, (∀ p ∈ T, p.2.1 ≠ t) → look L' t = look L t) ∧ (∀ p ∈ T, S p.1 = true → look L' p.2.1 = p.2.2) ∧ ∀ p ∈ T, S p.1 = false → look L' p.2.1 = look L p.2.1
def UniT : List (Nat × Nat × Value) → Prop
  | [] => True
  | p :: r => (∀ q ∈ r, q.1 ≠ p.1 ∧ q.2.1 ≠ p.2.1) ∧ UniT r
theorem uni_eq : ∀ {T : List (Nat × Nat × Value)}, UniT T → ∀ {p q : Nat × Nat × Value}, p ∈ T → q ∈ T → p.1 = q.1 ∨ p.2.1 = q.2.1 → p = q
  | _ :: _, ⟨h1, h2⟩, p, q, hp, hq, he => by
    rcases List.mem_cons.1 hp with rfl | hp' <;> rcases List.mem_cons.1 hq with rfl | hq'
    · rfl
    · rcases he with e | e
      · exact absurd e.symm (h1 _ hq').1
      · exact absurd e.symm (h1 _ hq').2
    · rcases he with e | e
      · exact absurd e (h1 _ hp').1
      · exact absurd e (h1 _ hp').2
    · exact uni_eq h2 hp' hq' he
theorem InvL.put {T : List (Nat × Nat × Value)} {S : Nat → Bool} {L' : List (Nat × Value)} {i d : Nat} {v : Value} (h : InvL L T S L') (hU : UniT T) (hp : (i, d, v) ∈ T) : InvL L T (setB S i) ((d, v) :: L') := by
  refine ⟨fun t ht => ?_, fun p hq hs => ?_, fun p hq hs => ?_⟩
  · rw [look_cons, if_neg (fun e => ht _ hp e.symm)]
    exact h.1 t ht
  · rw [look_cons]
    by_cases e : p.2.1 = d
    · rw [if_pos e, uni_eq hU hq hp (.inr e)]
    · rw [if_neg e]
      refine h.2.1 p hq ?_
      unfold setB at hs
      by_cases e2 : p.1 = i
      · exact absurd (congrArg (·.2.1) (uni_eq hU hq hp (.inl e2))) e
      · rwa [if_neg e2] at hs
  · unfold setB at hs
    by_cases e2 : p.1 = i
    · rw [if_pos e2] at hs; cases hs
    · rw [if_neg e2] at hs
      rw [look_cons, if_neg (fun e => e2 (congrArg (·.1) (uni_eq hU hq hp (.inr e))))]
      exact h.2.2 p hq hs
theorem InvL.skip {T : List (Nat × Nat × Value)} {S : Nat → Bool} {L' : List (Nat × Value)} {i : Nat} (h : InvL L T S L') (hi : ∀ p ∈ T, p.1 ≠ i) : InvL L T (setB S i) L' := by
  refine ⟨h.1, fun p hq hs => h.2.1 p hq ?_, fun p hq hs => h.2.2 p hq ?_⟩ <;> (unfold setB at hs; rwa [if_neg (hi p hq)] at hs)
theorem InvL.get {T : List (Nat × Nat × Value)} {S : Nat → Bool} {L' : List (Nat × Value)} {i d : Nat} {v : Value} (h : InvL L T S L') (hp : (i, d, v) ∈ T) (hs : S i = true) : look L' d = v := h.2.1 _ hp hs
theorem InvL.old {T : List (Nat × Nat × Value)} {S : Nat → Bool} {L' : List (Nat × Value)} {i d : Nat} {v : Value} (h : InvL L T S L') (hp : (i, d, v) ∈ T) (hs : S i = false) : look L' d = look L d := h.2.2 _ hp hs
def EdgesOn (S : Nat → Bool) : List Edge → Prop
  | [] => True
  | e :: r => (bif Region.binds .any e then S e.on = true else True) ∧ EdgesOn S r
theorem edges_on {S : Nat → Bool} : ∀ {es : List Edge}, (∀ e ∈ es, Region.binds .any e = true → S e.on = true) → EdgesOn S es
  | [], _ => trivial
  | e :: r, h => by
    refine ⟨?_, edges_on fun e' he => h e' (.tail _ he)⟩
    cases hb : Region.binds .any e with
    | true => exact h e (.head _) hb
    | false => trivial
def StepsT (P : Program) (n : Fr) (L : List (Nat × Value)) (T : List (Nat × Nat × Value)) (Mem : (Nat → Bool) → World → Prop) : Nat → List Oper → Prop
  | _, [] => True
  | i, o :: r => (∀ S L' w', InvL L T S L' → Mem S w' → S i = false → EdgesOn S o.after.toList → StepI P n o (fun L2 w2 => InvL L T (setB S i) L2 ∧ Mem (setB S i) w2) L' w') ∧ StepsT P n L T Mem (i + 1) r
theorem stepsT_at {T : List (Nat × Nat × Value)} {Mem : (Nat → Bool) → World → Prop} : ∀ {r : List Oper} {k : Nat}, StepsT P n L T Mem k r → ∀ (i : Nat) (o : Oper), r[i]? = some o → ∀ S L' w', InvL L T S L' → Mem S w' → S (k + i) = false → EdgesOn S o.after.toList → StepI P n o (fun L2 w2 => InvL L T (setB S (k + i)) L2 ∧ Mem (setB S (k + i)) w2) L' w'
  | [], _, _, i, o, h => by simp at h
  | x :: r, k, ⟨h1, h2⟩, 0, o, h => by
    simp only [List.getElem?_cons_zero, Option.some.injEq] at h
    subst h
    exact h1
  | x :: r, k, ⟨h1, h2⟩, i + 1, o, h => by
    have := stepsT_at h2 i o (by simpa using h)
    rwa [show k + 1 + i = k + (i + 1) by omega] at this
theorem look_tab {T : List (Nat × Nat × Value)} (hU : UniT T) {L L' : List (Nat × Value)} {S : Nat → Bool} (h : InvL L T S L') (hS : ∀ p ∈ T, S p.1 = true) (t : Nat) : look L' t = look (T.map (fun p => (p.2.1, p.2.2)) ++ L) t := by
  have key : ∀ T' : List (Nat × Nat × Value), (∀ p ∈ T', p ∈ T) → (∃ p ∈ T', p.2.1 = t) ∨ (∀ p ∈ T', p.2.1 ≠ t) → (∃ p ∈ T', p.2.1 = t ∧ look (T'.map (fun p => (p.2.1, p.2.2)) ++ L) t = p.2.2) ∨ ((∀ p ∈ T', p.2.1 ≠ t) ∧ look (T'.map (fun p => (p.2.1, p.2.2)) ++ L) t = look L t) := by
    intro T'
    induction T' with
    | nil => exact fun _ _ => .inr ⟨fun p hp => by simp at hp, rfl⟩
    | cons q r ih =>
      intro hsub _
      rw [List.map_cons, List.cons_append, look_cons]
      by_cases e : q.2.1 = t
      · rw [if_pos e.symm]
        exact .inl ⟨q, .head _, e, rfl⟩
      · rw [if_neg (Ne.symm e)]
        rcases ih (fun p hp => hsub p (.tail _ hp)) (by by_cases hx : ∃ p ∈ r, p.2.1 = t; exact .inl hx; exact .inr fun p hp he => hx ⟨p, hp, he⟩) with ⟨p, hp, h1, h2⟩ | ⟨h1, h2⟩
        · exact .inl ⟨p, .tail _ hp, h1, h2⟩
        · refine .inr ⟨fun p hp => ?_, h2⟩
          rcases List.mem_cons.1 hp with rfl | hp2
          · exact e
          · exact h1 p hp2
  rcases key T (fun _ hp => hp) (by by_cases hx : ∃ p ∈ T, p.2.1 = t; exact .inl hx; exact .inr fun p hp he => hx ⟨p, hp, he⟩) with ⟨p, hp, h1, h2⟩ | ⟨h1, h2⟩
  · rw [h2, ← h1]
    exact h.2.1 p hp (hS p hp)
  · rw [h2]
    exact h.1 t h1
theorem cd_invT {id : Nat} (T : List (Nat × Nat × Value)) (Mem : (Nat → Bool) → World → Prop) (hm : P.follows .mixedOrders = true) (hwf : edgesB l = true) (hU : UniT T) (hlt : ∀ p ∈ T, p.1 < l.length) (h0 : Mem (fun _ => false) { w with drawn := w.drawn + 1 })
    (hstep : StepsT P n L T Mem 0 l) (hend : ∀ w', Mem (fun i => decide (i < l.length)) w' → Q .normal (mkA n (T.map (fun p => (p.2.1, p.2.2)) ++ L)) w') : Cd P (.region id l.toArray true) Q n L w := by
  refine cd_inv (fun S L' w' => InvL L T S L' ∧ Mem S w') hm hwf ⟨⟨fun _ _ => rfl, fun _ _ h => (by cases h), fun _ _ _ => rfl⟩, h0⟩ (fun i o S L' w' ho ⟨hI, hM⟩ hS hE => ?_) fun L' w' ⟨hI, hM⟩ => ?_
  · have := stepsT_at hstep i o ho S L' w' hI hM (by rw [Nat.zero_add]; exact hS) (edges_on fun e he => hE e (by simpa using he))
    rwa [Nat.zero_add] at this
  · have h := hend w' hM
    have e : mkA n L' = mkA n (T.map (fun p => (p.2.1, p.2.2)) ++ L) := by
      unfold mkA
      rw [mkT_congr fun t _ => look_tab hU hI (fun p hp => decide_eq_true (hlt p hp)) t]
    rw [e]
    exact h
theorem rs_put {t : TypeId} {x y : Operand} {g i : Nat} {u : TypeId} {cs : Array Value} {v : Value} (ht : sizeQ P t = some 1) (hx : ev n L x = .pointer (some ⟨g, i, none⟩)) (hy : ev n L y = v) (h1 : v.oneCell' = true) (hb : Blk w g u cs) (hi : i < cs.size) :
    ∃ w', RS P (ev n L) (.store t x y) w w' ∧ Only g w w' ∧ Blk w' g u (cs.setIfInBounds i v) := by
  have hc : w.cell? ⟨g, i, none⟩ = some (cs[i]'hi) := by rw [hb.cell]; simp [hi]
  exact ⟨_, rs_store ht hx hy h1 hc (hb.frozen i), Only.setCell w g i v, hb.set_ i v⟩
end
end Go.Proofs.Ytpafbgdbjambgaa
