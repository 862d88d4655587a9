/- A region that draws its order and makes memory: blocks in any order, apart from one another. -/
import Derived.Test.YtgihpoggeaanjaaSufData
namespace Go.Proofs.Ytgihpoggeaanjaa
open Go.RowKit

abbrev Gh := Nat → Nat
def updG (g : Gh) (i h : Nat) : Gh := fun j => bif Nat.beq j i then h else g j
theorem updG_same (g : Gh) (i h : Nat) : updG g i h i = h := by unfold updG; rw [Nat.beq_refl]; rfl
theorem updG_ne (g : Gh) {i j : Nat} (h : Nat) (e : j ≠ i) : updG g i h j = g j := by unfold updG; rw [nbeq_f.2 e]; rfl
abbrev GT := List (Nat × Nat × (Gh → Value))
abbrev tabG (T : GT) (g : Gh) : List (Nat × Nat × Value) := T.map fun p => (p.1, p.2.1, p.2.2 g)
abbrev MT := List (Nat × TypeId × Array Value)
/-- the blocks that have been made -/
structure MemG (w0 : World) (MK : MT) (S : Nat → Bool) (g : Gh) (w' : World) : Prop where
  from_ : From w0 w'
  blk : ∀ p ∈ MK, S p.1 = true → Blk w' (g p.1) p.2.1 p.2.2
  ge : ∀ p ∈ MK, S p.1 = true → w0.heap.size ≤ g p.1
  ne : ∀ p ∈ MK, ∀ q ∈ MK, p.1 ≠ q.1 → S p.1 = true → S q.1 = true → g p.1 ≠ g q.1
theorem uniT_of : ∀ {T : GT} {g : Gh}, UniP (T.map fun p => (p.1, p.2.1)) → UniT (tabG T g)
  | [], _, _ => trivial
  | p :: r, g, h => ⟨fun q hq => by
      obtain ⟨y, hy, rfl⟩ := List.mem_map.1 hq
      exact h.1 (y.1, y.2.1) (List.mem_map.2 ⟨y, hy, rfl⟩), uniT_of h.2⟩
def IndG (S : Nat → Bool) (g g' : Gh) : GT → Prop
  | [] => True
  | p :: r => (S p.1 = true → p.2.2 g' = p.2.2 g) ∧ IndG S g g' r
theorem indG_at {S : Nat → Bool} {g g' : Gh} : ∀ {T : GT}, IndG S g g' T → ∀ p ∈ T, S p.1 = true → p.2.2 g' = p.2.2 g
  | _ :: _, ⟨h1, h2⟩, p, hp => by
    rcases List.mem_cons.1 hp with rfl | hp
    · exact h1
    · exact indG_at h2 p hp
section
variable {P : Program} {Q : Exit → Act → World → Prop} {n : Fr} {L L' M : List (Nat × Value)} {w w' w'' w0 : World} {l : List Oper} {T : GT} {MK : MT} {S : Nat → Bool} {op : Op} {ty : TypeId} {pos : String} {after : Array Edge} {i d : Nat} {f : Gh → Value} {g : Gh}
theorem InvG.get (h : InvL L (tabG T g) S L') (hp : (i, d, f) ∈ T) (hs : S i = true) : look L' d = f g := h.get (i := i) (d := d) (List.mem_map.2 ⟨_, hp, rfl⟩) hs
theorem InvG.old (h : InvL L (tabG T g) S L') (hp : (i, d, f) ∈ T) (hs : S i = false) : look L' d = look L d := h.old (i := i) (d := d) (v := f g) (List.mem_map.2 ⟨_, hp, rfl⟩) hs
theorem InvG.out {t : Nat} (h : InvL L (tabG T g) S L') (ht : (T.map fun p => p.2.1).elem t = false) : look L' t = look L t := h.1 t fun p hp e => by
  obtain ⟨y, hy, rfl⟩ := List.mem_map.1 hp
  have : t ∈ T.map fun p => p.2.1 := List.mem_map.2 ⟨y, hy, e⟩
  rw [List.elem_eq_mem, decide_eq_false_iff_not] at ht
  exact ht this
theorem InvG.chg {g' : Gh} (h : InvL L (tabG T g) S L') (hc : ∀ p ∈ T, S p.1 = true → p.2.2 g' = p.2.2 g) : InvL L (tabG T g') S L' := by
  refine ⟨fun t ht => h.1 t fun p hp => ?_, fun p hp hs => ?_, fun p hp hs => ?_⟩
  · obtain ⟨y, hy, rfl⟩ := List.mem_map.1 hp
    exact ht (y.1, y.2.1, y.2.2 g') (List.mem_map.2 ⟨y, hy, rfl⟩)
  · obtain ⟨y, hy, rfl⟩ := List.mem_map.1 hp
    have := h.2.1 (y.1, y.2.1, y.2.2 g) (List.mem_map.2 ⟨y, hy, rfl⟩) hs
    rw [this]
    exact (hc y hy hs).symm
  · obtain ⟨y, hy, rfl⟩ := List.mem_map.1 hp
    exact h.2.2 (y.1, y.2.1, y.2.2 g) (List.mem_map.2 ⟨y, hy, rfl⟩) hs
abbrev StepG (P : Program) (n : Fr) (L : List (Nat × Value)) (T : GT) (MK : MT) (w0 : World) (S : Nat → Bool) (i : Nat) (o : Oper) (L' : List (Nat × Value)) (w' : World) : Prop := StepI P n o (fun L2 w2 => ∃ g, InvL L (tabG T g) (setB S i) L2 ∧ MemG w0 MK (setB S i) g w2) L' w'
theorem mk_uniq : ∀ {MK : MT}, UniP (MK.map fun p => (p.1, p.1)) → ∀ {p q}, p ∈ MK → q ∈ MK → p.1 = q.1 → p = q
  | _ :: _, ⟨h1, h2⟩, p, q, hp, hq, he => by
    rcases List.mem_cons.1 hp with rfl | hp' <;> rcases List.mem_cons.1 hq with rfl | hq'
    · rfl
    · exact absurd he.symm (h1 _ (List.mem_map_of_mem (f := fun p : Nat × TypeId × Array Value => (p.1, p.1)) hq')).1
    · exact absurd he (h1 _ (List.mem_map_of_mem (f := fun p : Nat × TypeId × Array Value => (p.1, p.1)) hp')).1
    · exact mk_uniq h2 hp' hq' he
theorem stepG_ro (M : List (Nat × Value)) (hU : UniP (T.map fun p => (p.1, p.2.1))) (hI : InvL L (tabG T g) S L') (hM : MemG w0 MK S g w') (hp : (i, d, f) ∈ T) (hmk : (MK.map fun p => p.1).elem i = false)
    (hs : isSelect op = false) (hk : (((⟨some d, op, ty, pos, after, none⟩ : Oper).looksAt #[]).all fun t => (M.map Prod.fst).elem t) = true) (hag : AgrM L' M) (hr : RO P (ev n M) op w' (f g) w') : StepG P n L T MK w0 S i ⟨some d, op, ty, pos, after, none⟩ L' w' := by
  have hi : ∀ p ∈ MK, p.1 ≠ i := fun p hp e => by
    have : i ∈ MK.map fun p => p.1 := List.mem_map.2 ⟨p, hp, e⟩
    rw [List.elem_eq_mem, decide_eq_false_iff_not] at hmk
    exact hmk this
  exact .inl ⟨d, f g, w', rfl, by rw [exec_agr hs hk hag]; exact hr _ _ _ _ _, g, hI.put (uniT_of hU) (List.mem_map.2 ⟨_, hp, rfl⟩),
    ⟨hM.from_, fun p hp h => hM.blk p hp (setT (hi p hp) h), fun p hp h => hM.ge p hp (setT (hi p hp) h), fun p hp q hq hn h1 h2 => hM.ne p hp q hq hn (setT (hi p hp) h1) (setT (hi q hq) h2)⟩⟩
theorem stepG_make (M : List (Nat × Value)) {e : TypeId} {cs : Array Value} (hU : UniP (T.map fun p => (p.1, p.2.1))) (hV : UniP (MK.map fun p => (p.1, p.1))) (hI : InvL L (tabG T g) S L') (hM : MemG w0 MK S g w') (hS : S i = false) (hp : (i, d, f) ∈ T) (hq : (i, e, cs) ∈ MK)
    (hs : isSelect op = false) (hk : (((⟨some d, op, ty, pos, after, none⟩ : Oper).looksAt #[]).all fun t => (M.map Prod.fst).elem t) = true) (hag : AgrM L' M) (hr : RO P (ev n M) op w' (f (updG g i w'.heap.size)) w'') (hF : From w' w'') (hb : Blk w'' w'.heap.size e cs)
    (hc : IndG S g (updG g i w'.heap.size) T) : StepG P n L T MK w0 S i ⟨some d, op, ty, pos, after, none⟩ L' w' := by
  have hlt : ∀ p ∈ MK, S p.1 = true → g p.1 < w'.heap.size := fun p hp h => (hM.blk p hp h).lt
  have hne : ∀ p ∈ MK, p.1 ≠ i → updG g i w'.heap.size p.1 = g p.1 := fun p _ e => updG_ne g _ e
  refine .inl ⟨d, f (updG g i w'.heap.size), w'', rfl, by rw [exec_agr hs hk hag]; exact hr _ _ _ _ _, updG g i w'.heap.size, (InvG.chg hI (indG_at hc)).put (uniT_of hU) (List.mem_map.2 ⟨_, hp, rfl⟩), ⟨hM.from_.next hF, fun p hp h => ?_, fun p hp h => ?_, fun p hp q hq hn h1 h2 => ?_⟩⟩
  · by_cases e1 : p.1 = i
    · rw [mk_uniq hV hp hq e1, updG_same]
      exact hb
    · rw [hne p hp e1]
      exact (hM.blk p hp (setT e1 h)).from_ hF
  · by_cases e1 : p.1 = i
    · rw [e1, updG_same]
      exact hM.from_.size
    · rw [hne p hp e1]
      exact hM.ge p hp (setT e1 h)
  · by_cases e1 : p.1 = i
    · have e2 : q.1 ≠ i := fun e2 => hn (by rw [e1, e2])
      rw [e1, updG_same, hne q hq e2]
      have := hlt q hq (setT e2 h2)
      omega
    · rw [hne p hp e1]
      have := hlt p hp (setT e1 h1)
      by_cases e2 : q.1 = i
      · rw [e2, updG_same]
        omega
      · rw [hne q hq e2]
        exact hM.ne p hp q hq hn (setT e1 h1) (setT e2 h2)
def StepsG (P : Program) (n : Fr) (L : List (Nat × Value)) (T : GT) (MK : MT) (w0 : World) (l : List Oper) : Nat → List Oper → Prop
  | _, [] => True
  | i, o :: r => (∀ S L' w' g, UniP (T.map fun p => (p.1, p.2.1)) → UniP (MK.map fun p => (p.1, p.1)) → InvL L (tabG T g) S L' → MemG w0 MK S g w' → ClosedI l S → S i = false → EdgesOn S o.after.toList → StepG P n L T MK w0 S i o L' w') ∧ StepsG P n L T MK w0 l (i + 1) r
theorem stepsG_at {L0 : List (Nat × Value)} {l0 : List Oper} : ∀ {r : List Oper} {k : Nat}, StepsG P n L0 T MK w0 l0 k r → UniP (T.map fun p => (p.1, p.2.1)) → UniP (MK.map fun p => (p.1, p.1)) → ∀ (i : Nat) (o : Oper), r[i]? = some o → ∀ S L' w' g, InvL L0 (tabG T g) S L' → MemG w0 MK S g w' → ClosedI l0 S → S (k + i) = false → EdgesOn S o.after.toList → StepG P n L0 T MK w0 S (k + i) o L' w'
  | [], _, _, _, _, i, o, h => by simp at h
  | x :: r, k, ⟨h1, h2⟩, a, b, 0, o, h => by
    simp only [List.getElem?_cons_zero, Option.some.injEq] at h
    subst h
    exact fun S L' w' g => h1 S L' w' g a b
  | x :: r, k, ⟨h1, h2⟩, a, b, i + 1, o, h => by
    have := stepsG_at h2 a b i o (by simpa using h)
    rwa [show k + 1 + i = k + (i + 1) by omega] at this
theorem cd_makes {id : Nat} (T : GT) (MK : MT) (hm : P.follows .mixedOrders = true) (hwf : edgesB l = true) (hlt : (T.all fun p => Nat.blt p.1 l.length) = true) (hU : uniB (T.map fun p => (p.1, p.2.1)) = true) (hV : uniB (MK.map fun p => (p.1, p.1)) = true)
    (hstep : StepsG P n L T MK w l 0 l) (hend : ∀ g w', MemG w MK (fun i => decide (i < l.length)) g w' → Q .normal (mkA n ((tabG T g).map (fun p => (p.2.1, p.2.2)) ++ L)) w') : Cd P (.region id l.toArray true) Q n L w :=
  cd_inv (fun S L' w' => (∃ g, InvL L (tabG T g) S L' ∧ MemG w MK S g w') ∧ ClosedI l S) hm hwf ⟨⟨fun _ => 0, ⟨fun _ _ => rfl, fun _ _ h => (by cases h), fun _ _ _ => rfl⟩, ⟨From.rfl_.d1, fun _ _ h => (by cases h), fun _ _ h => (by cases h), fun _ _ _ _ _ h => (by cases h)⟩⟩, fun _ _ _ h => by cases h⟩ (fun i o S L' w' ho ⟨⟨g, hI, hM⟩, hC⟩ hS hE => by
    have := stepsG_at hstep (uniP_of hU) (uniP_of hV) i o ho S L' w' g hI hM hC (by rw [Nat.zero_add]; exact hS) (edges_on fun e he => hE e (by simpa using he))
    rw [Nat.zero_add] at this
    exact StepI.mono (fun L2 w2 h => ⟨h, closedI_set hC ho hE⟩) this) fun L' w' ⟨⟨g, hI, hM⟩, _⟩ => by
    have h := hend g w' hM
    have hlt' : ∀ p ∈ tabG T g, decide (p.1 < l.length) = true := fun p hp => by
      obtain ⟨y, hy, rfl⟩ := List.mem_map.1 hp
      exact decide_eq_true (Nat.le_of_ble_eq_true (List.all_eq_true.1 hlt y hy))
    rw [inv_mkA (uniT_of (uniP_of hU)) hlt' hI]
    exact h
end
end Go.Proofs.Ytgihpoggeaanjaa
