/- A region that draws its order, with any number of changes of memory: of each slot a predicate that may ask what has run. -/
import Derived.Test.YtpafbgdbjambgaaFast15
namespace Go.Proofs.Ytpafbgdbjambgaa
open Go.RowKit

abbrev PT := List (Nat × Nat × ((Nat → Bool) → Value → World → Prop))
def InvP (L : List (Nat × Value)) (T : PT) (S : Nat → Bool) (L' : List (Nat × Value)) (w : World) : Prop :=
  (∀ t, (∀ p ∈ T, p.2.1 ≠ t) → look L' t = look L t) ∧ (∀ p ∈ T, S p.1 = true → p.2.2 S (look L' p.2.1) w) ∧ ∀ p ∈ T, S p.1 = false → look L' p.2.1 = look L p.2.1
def UniP : List (Nat × Nat) → Prop
  | [] => True
  | p :: r => (∀ q ∈ r, q.1 ≠ p.1 ∧ q.2 ≠ p.2) ∧ UniP r
def uniB : List (Nat × Nat) → Bool
  | [] => true
  | p :: r => (r.all fun q => !(Nat.beq q.1 p.1) && !(Nat.beq q.2 p.2)) && uniB r
theorem nbeq_f {a b : Nat} : Nat.beq a b = false ↔ a ≠ b := by
  refine ⟨fun h e => ?_, fun h => ?_⟩
  · subst e
    rw [Nat.beq_refl] at h
    cases h
  · rcases hb : Nat.beq a b with _ | _
    · rfl
    · exact absurd (Nat.eq_of_beq_eq_true hb) h
theorem uniP_of : ∀ {l : List (Nat × Nat)}, uniB l = true → UniP l
  | [], _ => trivial
  | p :: r, h => by
    simp only [uniB, Bool.and_eq_true, List.all_eq_true, Bool.not_eq_true', nbeq_f] at h
    exact ⟨fun q hq => h.1 q hq, uniP_of h.2⟩
theorem uniP_eq : ∀ {T : PT}, UniP (T.map fun p => (p.1, p.2.1)) → ∀ {p q : Nat × Nat × ((Nat → Bool) → Value → World → Prop)}, p ∈ T → q ∈ T → p.1 = q.1 ∨ p.2.1 = q.2.1 → p = q
  | _ :: _, ⟨h1, h2⟩, p, q, hp, hq, he => by
    rcases List.mem_cons.1 hp with rfl | hp' <;> rcases List.mem_cons.1 hq with rfl | hq'
    · rfl
    · rcases he with e | e
      · exact absurd e.symm (h1 _ (List.mem_map_of_mem (f := fun p => (p.1, p.2.1)) hq')).1
      · exact absurd e.symm (h1 _ (List.mem_map_of_mem (f := fun p => (p.1, p.2.1)) hq')).2
    · rcases he with e | e
      · exact absurd e (h1 _ (List.mem_map_of_mem (f := fun p => (p.1, p.2.1)) hp')).1
      · exact absurd e (h1 _ (List.mem_map_of_mem (f := fun p => (p.1, p.2.1)) hp')).2
    · exact uniP_eq h2 hp' hq' he
theorem InvP.get {L : List (Nat × Value)} {T : PT} {S : Nat → Bool} {L' : List (Nat × Value)} {w : World} {i d : Nat} {R : (Nat → Bool) → Value → World → Prop} (h : InvP L T S L' w) (hp : (i, d, R) ∈ T) (hs : S i = true) : ∃ v, look L' d = v ∧ R S v w := ⟨_, rfl, h.2.1 _ hp hs⟩
theorem InvP.old {L : List (Nat × Value)} {T : PT} {S : Nat → Bool} {L' : List (Nat × Value)} {w : World} {i d : Nat} {R : (Nat → Bool) → Value → World → Prop} (h : InvP L T S L' w) (hp : (i, d, R) ∈ T) (hs : S i = false) : look L' d = look L d := h.2.2 _ hp hs
theorem setF {S : Nat → Bool} {i k : Nat} (h : setB S i k = false) : S k = false := by
  unfold setB at h
  split at h
  · cases h
  · exact h
theorem setT {S : Nat → Bool} {i k : Nat} (hk : k ≠ i) (h : setB S i k = true) : S k = true := by
  unfold setB at h
  rwa [if_neg hk] at h
theorem setS (S : Nat → Bool) (i : Nat) : setB S i i = true := by unfold setB; rw [if_pos rfl]
theorem setN {S : Nat → Bool} {i k : Nat} (hk : k ≠ i) : setB S i k = S k := by unfold setB; rw [if_neg hk]
/-- what is said of the slots stays, by an operation that only adds -/
def MonoP (Mu : List Nat) : PT → Prop
  | [] => True
  | p :: r => (∀ S i v w1 w2, Mu.elem i = false → From w1 w2 → p.2.2 S v w1 → p.2.2 (setB S i) v w2) ∧ MonoP Mu r
/-- what is said of the other slots stays, by this change -/
def ChP (i : Nat) (S : Nat → Bool) (w1 w2 : World) : PT → Prop
  | [] => True
  | p :: r => (Nat.beq p.1 i = false → S p.1 = true → ∀ v, p.2.2 S v w1 → p.2.2 (setB S i) v w2) ∧ ChP i S w1 w2 r
theorem monoP_at {Mu : List Nat} : ∀ {T : PT}, MonoP Mu T → ∀ p ∈ T, ∀ S i v w1 w2, Mu.elem i = false → From w1 w2 → p.2.2 S v w1 → p.2.2 (setB S i) v w2
  | _ :: _, ⟨h1, h2⟩, p, hp => by
    rcases List.mem_cons.1 hp with rfl | hp
    · exact h1
    · exact monoP_at h2 p hp
theorem chP_at {i : Nat} {S : Nat → Bool} {w1 w2 : World} : ∀ {T : PT}, ChP i S w1 w2 T → ∀ p ∈ T, p.1 ≠ i → S p.1 = true → ∀ v, p.2.2 S v w1 → p.2.2 (setB S i) v w2
  | _ :: _, ⟨h1, h2⟩, p, hp => by
    rcases List.mem_cons.1 hp with rfl | hp
    · exact fun hne => h1 (by rw [nbeq_f]; exact hne)
    · exact chP_at h2 p hp
theorem InvP.next {L : List (Nat × Value)} {T : PT} {S : Nat → Bool} {L' : List (Nat × Value)} {w w' : World} {i d : Nat} {v : Value} {R : (Nat → Bool) → Value → World → Prop} (h : InvP L T S L' w) (hU : UniP (T.map fun p => (p.1, p.2.1))) (hp : (i, d, R) ∈ T) (hR : R (setB S i) v w')
    (hst : ∀ p ∈ T, p.1 ≠ i → S p.1 = true → ∀ v, p.2.2 S v w → p.2.2 (setB S i) v w') : InvP L T (setB S i) ((d, v) :: L') w' := by
  refine ⟨fun t ht => ?_, fun p hq hs => ?_, fun p hq hs => ?_⟩
  · rw [look_cons, if_neg (fun e => ht _ hp e.symm)]
    exact h.1 t ht
  · rw [look_cons]
    by_cases e : p.2.1 = d
    · rw [if_pos e, uniP_eq hU hq hp (.inr e)]
      exact hR
    · rw [if_neg e]
      have e2 : p.1 ≠ i := fun e2 => e (congrArg (·.2.1) (uniP_eq hU hq hp (.inl e2)))
      have hs' := setT e2 hs
      exact hst p hq e2 hs' _ (h.2.1 p hq hs')
  · have hs' := setF hs
    have e2 : p.1 ≠ i := fun e2 => by rw [e2, setS] at hs; cases hs
    rw [look_cons, if_neg (fun e => e2 (congrArg (·.1) (uniP_eq hU hq hp (.inr e))))]
    exact h.2.2 p hq hs'
theorem InvP.same {L : List (Nat × Value)} {T : PT} {S : Nat → Bool} {L' : List (Nat × Value)} {w w' : World} {i : Nat} (h : InvP L T S L' w) (hi : ∀ p ∈ T, p.1 ≠ i)
    (hst : ∀ p ∈ T, p.1 ≠ i → S p.1 = true → ∀ v, p.2.2 S v w → p.2.2 (setB S i) v w') : InvP L T (setB S i) L' w' := by
  refine ⟨h.1, fun p hq hs => ?_, fun p hq hs => h.2.2 p hq (setF hs)⟩
  have hs' := setT (hi p hq) hs
  exact hst p hq (hi p hq) hs' _ (h.2.1 p hq hs')
/-- the slots that an operation looks at, with their values -/
def AgrM (L' : List (Nat × Value)) : List (Nat × Value) → Prop
  | [] => True
  | (t, v) :: r => look L' t = v ∧ AgrM L' r
theorem agrM_look {L' : List (Nat × Value)} : ∀ {M : List (Nat × Value)}, AgrM L' M → ∀ t, (M.map Prod.fst).elem t = true → look M t = look L' t
  | (k, v) :: r, ⟨h1, h2⟩, t, ht => by
    rw [look_cons]
    by_cases e : t = k
    · rw [if_pos e, e, h1]
    · rw [if_neg e]
      refine agrM_look h2 t ?_
      simpa [e] using ht
section
variable {P : Program} {Q : Exit → Act → World → Prop} {n : Fr} {L L' M : List (Nat × Value)} {w w' w'' : World} {l : List Oper} {T : PT} {Mem : (Nat → Bool) → World → Prop} {Mu : List Nat} {S : Nat → Bool} {op : Op} {ty : TypeId} {pos : String} {after : Array Edge} {i d : Nat} {v : Value} {R : (Nat → Bool) → Value → World → Prop}
theorem exec_agr {dst : Option Nat} (hs : isSelect op = false) (hk : (((⟨dst, op, ty, pos, after, none⟩ : Oper).looksAt #[]).all fun t => (M.map Prod.fst).elem t) = true) (hag : AgrM L' M) : execOp (ev n L') ⟨dst, op, ty, pos, after, none⟩ = execOp (ev n M) ⟨dst, op, ty, pos, after, none⟩ := by
  have h : ∀ t, ((⟨dst, op, ty, pos, after, none⟩ : Oper).looksAt #[]).elem t = true → look M t = look L' t := fun t ht =>
    agrM_look hag t (List.all_eq_true.1 hk t (List.elem_iff.1 ht))
  exact (looksAt_agree (n := n) (ops := #[]) (o := ⟨dst, op, ty, pos, after, none⟩) hs h).1.symm
abbrev StepJ (P : Program) (n : Fr) (L : List (Nat × Value)) (T : PT) (Mem : (Nat → Bool) → World → Prop) (S : Nat → Bool) (i : Nat) (o : Oper) (L' : List (Nat × Value)) (w' : World) : Prop := StepI P n o (fun L2 w2 => InvP L T (setB S i) L2 w2 ∧ Mem (setB S i) w2) L' w'
theorem quietP (hmo : MonoP Mu T) (hq : Mu.elem i = false) (hF : From w' w'') : ∀ p ∈ T, p.1 ≠ i → S p.1 = true → ∀ v, p.2.2 S v w' → p.2.2 (setB S i) v w'' := fun p hp _ _ v h => monoP_at hmo p hp S i v w' w'' hq hF h
theorem stepQ_ro (M : List (Nat × Value)) (hU : UniP (T.map fun p => (p.1, p.2.1))) (hmo : MonoP Mu T) (hme : ∀ S i w1 w2, Mu.elem i = false → From w1 w2 → Mem S w1 → Mem (setB S i) w2) (hI : InvP L T S L' w') (hM : Mem S w') (hp : (i, d, R) ∈ T) (hq : Mu.elem i = false)
    (hs : isSelect op = false) (hk : (((⟨some d, op, ty, pos, after, none⟩ : Oper).looksAt #[]).all fun t => (M.map Prod.fst).elem t) = true) (hag : AgrM L' M) (hr : RO P (ev n M) op w' v w'') (hF : From w' w'') (hR : R (setB S i) v w'') : StepJ P n L T Mem S i ⟨some d, op, ty, pos, after, none⟩ L' w' :=
  .inl ⟨d, v, w'', rfl, by rw [exec_agr hs hk hag]; exact hr _ _ _ _ _, hI.next hU hp hR (quietP hmo hq hF), hme S i _ _ hq hF hM⟩
theorem stepQ_call (M : List (Nat × Value)) {f : FuncId} {al : List Operand} {ats : Array TypeId} (hU : UniP (T.map fun p => (p.1, p.2.1))) (hmo : MonoP Mu T) (hme : ∀ S i w1 w2, Mu.elem i = false → From w1 w2 → Mem S w1 → Mem (setB S i) w2) (hI : InvP L T S L' w') (hM : Mem S w') (hp : (i, d, R) ∈ T) (hq : Mu.elem i = false)
    (hk : (((⟨some d, .call { callee := .value (.func f), args := al.toArray, argTypes := ats }, ty, pos, after, none⟩ : Oper).looksAt #[]).all fun t => (M.map Prod.fst).elem t) = true) (hag : AgrM L' M) (hf : callable P f = true) (hc : Rt P f (al.map (ev n M)) w' fun v w'' => From w' w'' ∧ R (setB S i) v w'') :
    StepJ P n L T Mem S i ⟨some d, .call { callee := .value (.func f), args := al.toArray, argTypes := ats }, ty, pos, after, none⟩ L' w' :=
  .inr (.inr ⟨d, f, al.map (ev n M), rfl, by rw [exec_agr rfl hk hag, exec_call (fun _ => rfl), run_call hf], Calls.mono hc fun e w2 ⟨v, he, hF, hR⟩ => ⟨v, he, hI.next hU hp hR (quietP hmo hq hF), hme S i _ _ hq hF hM⟩⟩)
theorem stepM_ro (M : List (Nat × Value)) (hU : UniP (T.map fun p => (p.1, p.2.1))) (hI : InvP L T S L' w') (hp : (i, d, R) ∈ T)
    (hs : isSelect op = false) (hk : (((⟨some d, op, ty, pos, after, none⟩ : Oper).looksAt #[]).all fun t => (M.map Prod.fst).elem t) = true) (hag : AgrM L' M) (hr : RO P (ev n M) op w' v w'') (hM : Mem (setB S i) w'') (hR : R (setB S i) v w'') (hC : ChP i S w' w'' T) : StepJ P n L T Mem S i ⟨some d, op, ty, pos, after, none⟩ L' w' :=
  .inl ⟨d, v, w'', rfl, by rw [exec_agr hs hk hag]; exact hr _ _ _ _ _, hI.next hU hp hR (chP_at hC), hM⟩
theorem stepM_call (M : List (Nat × Value)) {f : FuncId} {al : List Operand} {ats : Array TypeId} (hU : UniP (T.map fun p => (p.1, p.2.1))) (hI : InvP L T S L' w') (hp : (i, d, R) ∈ T)
    (hk : (((⟨some d, .call { callee := .value (.func f), args := al.toArray, argTypes := ats }, ty, pos, after, none⟩ : Oper).looksAt #[]).all fun t => (M.map Prod.fst).elem t) = true) (hag : AgrM L' M) (hf : callable P f = true) (hc : Rt P f (al.map (ev n M)) w' fun v w'' => Mem (setB S i) w'' ∧ R (setB S i) v w'' ∧ ChP i S w' w'' T) :
    StepJ P n L T Mem S i ⟨some d, .call { callee := .value (.func f), args := al.toArray, argTypes := ats }, ty, pos, after, none⟩ L' w' :=
  .inr (.inr ⟨d, f, al.map (ev n M), rfl, by rw [exec_agr rfl hk hag, exec_call (fun _ => rfl), run_call hf], Calls.mono hc fun e w2 ⟨v, he, hM, hR, hC⟩ => ⟨v, he, hI.next hU hp hR (chP_at hC), hM⟩⟩)
theorem stepM_rs (M : List (Nat × Value)) (hI : InvP L T S L' w') (hi : ∀ p ∈ T, p.1 ≠ i)
    (hs : isSelect op = false) (hk : (((⟨none, op, ty, pos, after, none⟩ : Oper).looksAt #[]).all fun t => (M.map Prod.fst).elem t) = true) (hag : AgrM L' M) (hr : RS P (ev n M) op w' w'') (hM : Mem (setB S i) w'') (hC : ChP i S w' w'' T) : StepJ P n L T Mem S i ⟨none, op, ty, pos, after, none⟩ L' w' :=
  .inr (.inl ⟨w'', rfl, by rw [exec_agr hs hk hag]; exact hr _ _ _ _ _, hI.same hi (chP_at hC), hM⟩)
/-- for whatever values of the slots that fit -/
def AllP (S : Nat → Bool) (w : World) : PT → (List (Nat × Value) → Prop) → Prop
  | [], K => K []
  | p :: r, K => ∀ v, p.2.2 S v w → AllP S w r fun M => K ((p.2.1, v) :: M)
theorem allP_nil {S : Nat → Bool} {w : World} {K : List (Nat × Value) → Prop} (h : K []) : AllP S w [] K := h
theorem allP_at {S : Nat → Bool} {w : World} (ρ : Nat → Value) : ∀ (l : PT) {K : List (Nat × Value) → Prop}, (∀ p ∈ l, p.2.2 S (ρ p.2.1) w) → AllP S w l K → K (l.map fun p => (p.2.1, ρ p.2.1))
  | [], _, _, h => h
  | p :: r, _, hr, h => allP_at ρ r (fun e he => hr e (List.mem_cons_of_mem _ he)) (h (ρ p.2.1) (hr p (List.mem_cons_self ..)))
theorem look_mapP (ρ : Nat → Value) (T : PT) (L : List (Nat × Value)) (t : Nat) : ((∃ p ∈ T, p.2.1 = t) ∧ look (T.map (fun p => (p.2.1, ρ p.2.1)) ++ L) t = ρ t) ∨ ((∀ p ∈ T, p.2.1 ≠ t) ∧ look (T.map (fun p => (p.2.1, ρ p.2.1)) ++ L) t = look L t) := by
  induction T with
  | nil => exact .inr ⟨fun p hp => by simp at hp, rfl⟩
  | cons q r ih =>
    rw [List.map_cons, List.cons_append, look_cons]
    by_cases e : t = q.2.1
    · rw [if_pos e, ← e]
      exact .inl ⟨⟨q, .head _, e.symm⟩, rfl⟩
    · rw [if_neg e]
      rcases ih with ⟨⟨p, hp, h1⟩, h2⟩ | ⟨h1, h2⟩
      · exact .inl ⟨⟨p, .tail _ hp, h1⟩, h2⟩
      · refine .inr ⟨fun p hp => ?_, h2⟩
        rcases List.mem_cons.1 hp with rfl | hp2
        · exact fun e2 => e e2.symm
        · exact h1 p hp2
theorem outP {T : PT} {t : Nat} (h : (T.map fun p => p.2.1).elem t = false) : ∀ p ∈ T, p.2.1 ≠ t := fun p hp e => by
  have : t ∈ T.map fun p => p.2.1 := List.mem_map.2 ⟨p, hp, e⟩
  rw [List.elem_eq_mem, decide_eq_false_iff_not] at h
  exact h this
theorem idxP {T : PT} {i : Nat} (h : (T.map fun p => p.1).elem i = false) : ∀ p ∈ T, p.1 ≠ i := fun p hp e => by
  have : i ∈ T.map fun p => p.1 := List.mem_map.2 ⟨p, hp, e⟩
  rw [List.elem_eq_mem, decide_eq_false_iff_not] at h
  exact h this
theorem StepI.mono {o : Oper} {I1 I2 : List (Nat × Value) → World → Prop} (hi : ∀ L2 w2, I1 L2 w2 → I2 L2 w2) (h : StepI P n o I1 L' w') : StepI P n o I2 L' w' := by
  rcases h with ⟨d, v, w2, h1, h2, h3⟩ | ⟨w2, h1, h2, h3⟩ | ⟨d, f, args, h1, h2, h3⟩
  · exact .inl ⟨d, v, w2, h1, h2, hi _ _ h3⟩
  · exact .inr (.inl ⟨w2, h1, h2, hi _ _ h3⟩)
  · exact .inr (.inr ⟨d, f, args, h1, h2, Calls.mono h3 fun e w2 ⟨v, he, h⟩ => ⟨v, he, hi _ _ h⟩⟩)
/-- what has run has all run that it waits for -/
def ClosedI (l : List Oper) (S : Nat → Bool) : Prop := ∀ j o, l[j]? = some o → S j = true → ∀ e ∈ o.after, Region.binds .any e = true → S e.on = true
theorem closed_old {j i : Nat} {o : Oper} (hC : ClosedI l S) (ho : l[j]? = some o) (he : (o.after.toList.any fun e => Region.binds .any e && Nat.beq e.on i) = true) (hS : S i = false) : S j = false := by
  rcases hj : S j with _ | _
  · rfl
  · obtain ⟨e, h1, h2⟩ := List.any_eq_true.1 he
    rw [Bool.and_eq_true] at h2
    have := hC j o ho hj e (by simpa using h1) h2.1
    rw [Nat.eq_of_beq_eq_true h2.2, hS] at this
    cases this
theorem closedI_set {i : Nat} {o : Oper} (hC : ClosedI l S) (ho : l[i]? = some o) (hE : ∀ e ∈ o.after, Region.binds .any e = true → S e.on = true) : ClosedI l (setB S i) := fun j o' hj hs e he hb => by
  have up : ∀ k, S k = true → setB S i k = true := fun k hk => by
    unfold setB
    split
    · rfl
    · exact hk
  by_cases hji : j = i
  · subst hji
    rw [ho] at hj
    cases hj
    exact up _ (hE e he hb)
  · exact up _ (hC j o' hj (setT hji hs) e he hb)
def StepsP (P : Program) (n : Fr) (L : List (Nat × Value)) (T : PT) (Mu : List Nat) (Mem : (Nat → Bool) → World → Prop) (l : List Oper) : Nat → List Oper → Prop
  | _, [] => True
  | i, o :: r => (∀ S L' w', UniP (T.map fun p => (p.1, p.2.1)) → MonoP Mu T → (∀ S i w1 w2, Mu.elem i = false → From w1 w2 → Mem S w1 → Mem (setB S i) w2) → InvP L T S L' w' → Mem S w' → ClosedI l S → S i = false → EdgesOn S o.after.toList → StepJ P n L T Mem S i o L' w') ∧ StepsP P n L T Mu Mem l (i + 1) r
theorem stepsP_at {L0 : List (Nat × Value)} {l0 : List Oper} : ∀ {r : List Oper} {k : Nat}, StepsP P n L0 T Mu Mem l0 k r → UniP (T.map fun p => (p.1, p.2.1)) → MonoP Mu T → (∀ S i w1 w2, Mu.elem i = false → From w1 w2 → Mem S w1 → Mem (setB S i) w2) → ∀ (i : Nat) (o : Oper), r[i]? = some o → ∀ S L' w', InvP L0 T S L' w' → Mem S w' → ClosedI l0 S → S (k + i) = false → EdgesOn S o.after.toList → StepJ P n L0 T Mem S (k + i) o L' w'
  | [], _, _, _, _, _, i, o, h => by simp at h
  | x :: r, k, ⟨h1, h2⟩, a, b, c, 0, o, h => by
    simp only [List.getElem?_cons_zero, Option.some.injEq] at h
    subst h
    exact fun S L' w' => h1 S L' w' a b c
  | x :: r, k, ⟨h1, h2⟩, a, b, c, i + 1, o, h => by
    have := stepsP_at h2 a b c i o (by simpa using h)
    rwa [show k + 1 + i = k + (i + 1) by omega] at this
theorem cd_invP {id : Nat} (T : PT) (Mu : List Nat) (Mem : (Nat → Bool) → World → Prop) (hm : P.follows .mixedOrders = true) (hwf : edgesB l = true) (hlt : (T.all fun p => Nat.blt p.1 l.length) = true) (hU : uniB (T.map fun p => (p.1, p.2.1)) = true) (hmo : MonoP Mu T) (hme : ∀ S i w1 w2, Mu.elem i = false → From w1 w2 → Mem S w1 → Mem (setB S i) w2) (h0 : Mem (fun _ => false) { w with drawn := w.drawn + 1 })
    (hstep : StepsP P n L T Mu Mem l 0 l) (hend : ∀ w', Mem (fun i => decide (i < l.length)) w' → AllP (fun i => decide (i < l.length)) w' T fun M => Q .normal (mkA n (M ++ L)) w') : Cd P (.region id l.toArray true) Q n L w :=
  cd_inv (fun S L' w' => InvP L T S L' w' ∧ Mem S w' ∧ ClosedI l S) hm hwf ⟨⟨fun _ _ => rfl, fun _ _ h => (by cases h), fun _ _ _ => rfl⟩, h0, fun _ _ _ h => by cases h⟩ (fun i o S L' w' ho ⟨hI, hM, hC⟩ hS hE => by
    have := stepsP_at hstep (uniP_of hU) hmo hme i o ho S L' w' hI hM hC (by rw [Nat.zero_add]; exact hS) (edges_on fun e he => hE e (by simpa using he))
    rw [Nat.zero_add] at this
    exact StepI.mono (fun L2 w2 h => ⟨h.1, h.2, closedI_set hC ho hE⟩) this) fun L' w' ⟨hI, hM, _⟩ => by
    have hlt' : ∀ p ∈ T, p.1 < l.length := fun p hp => by
      have := List.all_eq_true.1 hlt p hp
      exact Nat.le_of_ble_eq_true this
    have h := allP_at (look L') T (fun p hp => hI.2.1 p hp (decide_eq_true (hlt' p hp))) (hend w' hM)
    have e : mkA n L' = mkA n (T.map (fun p => (p.2.1, look L' p.2.1)) ++ L) := by
      unfold mkA
      rw [mkT_congr fun t _ => ?_]
      rcases look_mapP (look L') T L t with ⟨_, h2⟩ | ⟨h1, h2⟩
      · exact h2.symm
      · rw [h2]; exact hI.1 t h1
    rw [e]
    exact h
end
end Go.Proofs.Ytpafbgdbjambgaa
