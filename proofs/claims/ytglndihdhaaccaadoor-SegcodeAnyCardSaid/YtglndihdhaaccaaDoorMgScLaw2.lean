/- suffix: symbols, withEnd, Clone; the reference: May. -/
import Derived.Test.YtglndihdhaaccaaDoorMgScLaw1
import Derived.Laws.CopyRow
import Derived.Lib.LazyBuf
import Derived.Lib.AppendZerosOnto
import Derived.Lib.Overlaps
import Derived.Laws.StructEq
import Derived.Deep.AppendLies
import Derived.Sort.Walk0
import Derived.Lib.Bytealg
set_option maxRecDepth 100000
namespace Go.Proofs.YtglndihdhaaccaaDoor
open Go.RowKit

/-- of the slots Ex nothing is claimed any more -/
def lookE (Ex : List Nat) (RL : List (Nat × (Value → World → Prop))) (t : Nat) : Value → World → Prop := bif Ex.elem t then fun _ _ => True else lookR RL t
theorem lookE_mono {Ex : List Nat} {l : List (Nat × (Value → World → Prop))} (h : MonoR l) : ∀ t v w1 w2, From w1 w2 → lookE Ex l t v w1 → lookE Ex l t v w2 := by
  intro t v w1 w2 hF h1
  unfold lookE at h1 ⊢
  cases hb : Ex.elem t with
  | true => trivial
  | false => rw [hb] at h1; exact lookR_mono h t v w1 w2 hF h1
theorem lookE_of {Ex : List Nat} {l : List (Nat × (Value → World → Prop))} : ∀ t v w, lookR l t v w → lookE Ex l t v w := by
  intro t v w h
  unfold lookE
  cases hb : Ex.elem t with
  | true => trivial
  | false => exact h
/-- what the slots' predicates bear of the change: from w1 to w2; d is the slot that the change yields -/
def MuR (Ex : List Nat) (d : Nat) (w1 w2 : World) : List (Nat × (Value → World → Prop)) → Prop
  | [] => True
  | (k, R) :: r => ((Ex.elem k || Nat.beq k d) = true ∨ ∀ u, R u w1 → R u w2) ∧ MuR Ex d w1 w2 r
theorem muR_look {Ex : List Nat} {d : Nat} {w1 w2 : World} : ∀ {RL : List (Nat × (Value → World → Prop))}, MuR Ex d w1 w2 RL → ∀ t u, t ≠ d → lookR RL t u w1 → lookE Ex RL t u w2
  | [], _, t, u, _, _ => by unfold lookE; cases Ex.elem t <;> trivial
  | (k, R) :: r, ⟨h1, h2⟩, t, u, hd, h => by
    have e : lookR ((k, R) :: r) t = bif Nat.beq t k then R else lookR r t := rfl
    have ih := muR_look h2 t u hd
    unfold lookE at ih ⊢
    rw [e] at h ⊢
    cases hx : Ex.elem t with
    | true => trivial
    | false =>
      rw [hx] at ih
      simp only [cond_false] at ih ⊢
      cases hb : Nat.beq t k with
      | true =>
        have hk : t = k := Nat.eq_of_beq_eq_true hb
        subst hk
        rw [hb] at h
        rcases h1 with h1 | h1
        · rw [hx, Bool.false_or] at h1
          exact absurd (Nat.eq_of_beq_eq_true h1) hd
        · exact h1 u h
      | false => rw [hb] at h; exact ih h
/-- it waits for j: itself, or by one that it waits for -/
def dep2 (l : List Oper) (o : Oper) (j : Nat) : Bool := hasEdge o j || o.after.toList.any fun e => Region.binds .any e && match l[e.on]? with | some o' => hasEdge o' j | none => false
/-- what is done has all done that it waited for -/
def ClosedD (l : List Oper) (listed : Array Bool) : Prop := ∀ i o, l[i]? = some o → listed.getD i false = true → ∀ e ∈ o.after, Region.binds .any e = true → listed.getD e.on false = true
theorem dep_listed {l : List Oper} {listed : Array Bool} (hcl : ClosedD l listed) {o : Oper} {j : Nat} (hall : ∀ e ∈ o.after, Region.binds .any e = true → listed.getD e.on false = true) (h : dep2 l o j = true) : listed.getD j false = true := by
  have direct : ∀ (x : Oper), (∀ e ∈ x.after, Region.binds .any e = true → listed.getD e.on false = true) → hasEdge x j = true → listed.getD j false = true := by
    intro x hx he
    obtain ⟨e, he, he2⟩ := List.any_eq_true.1 he
    simp only [Bool.and_eq_true, beq_iff_eq] at he2
    have := hx e (by simpa using he) he2.1
    rwa [he2.2] at this
  unfold dep2 at h
  rcases Bool.or_eq_true_iff.1 h with h | h
  · exact direct o hall h
  · obtain ⟨e, he, he2⟩ := List.any_eq_true.1 h
    simp only [Bool.and_eq_true] at he2
    have h1 := hall e (by simpa using he) he2.1
    cases ho : l[e.on]? with
    | none => rw [ho] at he2; cases he2.2
    | some o' =>
      rw [ho] at he2
      exact direct o' (hcl e.on o' ho h1) he2.2
theorem closed_set {l : List Oper} {listed : Array Bool} (hcl : ClosedD l listed) {i : Nat} {o : Oper} (ho : l[i]? = some o) (hall : ∀ e ∈ o.after, Region.binds .any e = true → listed.getD e.on false = true) : ClosedD l (listed.setIfInBounds i true) := by
  have up : ∀ k, listed.getD k false = true → (listed.setIfInBounds i true).getD k false = true := by
    intro k hk
    by_cases e : i = k
    · subst e
      have : i < listed.size := by
        rcases Nat.lt_or_ge i listed.size with h | h
        · exact h
        · simp [Array.getD, show ¬ i < listed.size by omega] at hk
      simp [this]
    · rw [getD_set_ne false e]; exact hk
  intro k x hx hk e he hb
  by_cases h : i = k
  · subst h
    rw [ho] at hx
    cases hx
    exact up _ (hall e he hb)
  · rw [getD_set_ne false h] at hk
    exact up _ (hcl k x hx hk e he hb)
theorem closed_none (l : List Oper) (n : Nat) : ClosedD l (Array.replicate n false) := by
  intro i o _ h
  simp [Array.getD] at h
/-- the slots that operation i of the head looks at as its writer has left them (not those whose writer waits for i) -/
def oldD (l : List Oper) (K i t : Nat) : Bool := (List.range K).any fun j => match l[j]? with | some oj => (oj.dst == some t) && dep2 l oj i | none => false
def slotsD (l : List Oper) (K i : Nat) (o : Oper) : List Nat := (preOf l K).filter fun t => (o.looksAt l.toArray).elem t && !oldD l K i t
def OpsOK8 (P : Program) (ops : Array Oper) (n : Fr) (L : List (Nat × Value)) (I2 : World → Prop) (R1 R2 : Nat → Value → World → Prop) (l0 : List Oper) (K : Nat) (mu : Nat) : Nat → List Oper → Prop
  | _, [] => True
  | i, o :: r => (Nat.beq i mu = false → ∀ w', I2 w' → AllF R2 w' (slotsD l0 K i o) fun M => OpOK P ops n (M ++ L) o w' (R1 (o.dst.getD 0))) ∧ OpsOK8 P ops n L I2 R1 R2 l0 K mu (i + 1) r
theorem opsOK8_at {P : Program} {ops : Array Oper} {n : Fr} {L : List (Nat × Value)} {I2 : World → Prop} {R1 R2 : Nat → Value → World → Prop} {l0 : List Oper} {K mu : Nat} : ∀ {l : List Oper} {k : Nat}, OpsOK8 P ops n L I2 R1 R2 l0 K mu k l → ∀ (i : Nat) (o : Oper), l[i]? = some o → k + i ≠ mu →
    ∀ w', I2 w' → AllF R2 w' (slotsD l0 K (k + i) o) fun M => OpOK P ops n (M ++ L) o w' (R1 (o.dst.getD 0))
  | [], _, _, i, o, h, _ => by simp at h
  | x :: r, k, ⟨h1, h2⟩, 0, o, h, hne => by
    simp only [List.getElem?_cons_zero, Option.some.injEq] at h
    subst h
    rw [Nat.add_zero] at hne ⊢
    refine h1 ?_
    rw [← Bool.not_eq_true]
    intro hb
    exact hne (Nat.eq_of_beq_eq_true hb)
  | x :: r, k, ⟨h1, h2⟩, i + 1, o, h, hne => by
    have := opsOK8_at h2 i o (by simpa using h) (by omega)
    rwa [show k + 1 + i = k + (i + 1) by omega] at this
theorem opsOK8_at0 {P : Program} {ops : Array Oper} {n : Fr} {L : List (Nat × Value)} {I2 : World → Prop} {R1 R2 : Nat → Value → World → Prop} {l0 : List Oper} {K mu : Nat} {l : List Oper} (h : OpsOK8 P ops n L I2 R1 R2 l0 K mu 0 l) (i : Nat) (o : Oper) (ho : l[i]? = some o) (hne : i ≠ mu)
    (w' : World) (hw : I2 w') : AllF R2 w' (slotsD l0 K i o) fun M => OpOK P ops n (M ++ L) o w' (R1 (o.dst.getD 0)) := by
  have := opsOK8_at h i o ho (by rw [Nat.zero_add]; exact hne) w' hw
  rwa [Nat.zero_add] at this
/-- the change: it yields a value, in a world, so -/
def MuOK (P : Program) (ops : Array Oper) (n : Fr) (L : List (Nat × Value)) (o : Oper) (w : World) (post : Value → World → Prop) : Prop :=
  Region.wanted o (yielded ops (mkT n.n L)) = true ∧ ((∃ v w', (execOp (ev n L) o).run P w = .ok (.value v) w' ∧ post v w') ∨ (∃ f l, (execOp (ev n L) o).run P w = .ok (.enter f (List.toArray l)) w ∧ Rt P f l w post))
def MuAt (P : Program) (ops : Array Oper) (n : Fr) (L : List (Nat × Value)) (I1 I2 : World → Prop) (R1 R2 : Nat → Value → World → Prop) (l0 : List Oper) (K mu : Nat) : Option Oper → Prop
  | none => True
  | some o => ∀ w', I1 w' → AllF R1 w' (slotsD l0 K mu o) fun M => MuOK P ops n (M ++ L) o w' fun v w'' => I2 w'' ∧ R2 (o.dst.getD 0) v w'' ∧ ∀ t u, t ≠ o.dst.getD 0 → R1 t u w' → R2 t u w''
def isLateD (l : List Oper) (K j : Nat) : Bool := (List.range l.length).any fun i => decide (K ≤ i) && (match l[i]? with | some o => !dep2 l o j | none => false)
def lateD (l : List Oper) (K : Nat) : Bool :=
  (List.range K).all fun j => !isLateD l K j || match l[j]? with
    | none => false
    | some o => lateK o.op && o.guard.isNone && o.dst.isSome && (List.range l.length).all fun i => i == j || match l[i]? with
      | none => false
      | some y => (if i < K then !isLateD l K i else dep2 l y j) || o.apart l.toArray y
/-- the region's shape -/
def monoD (l : List Oper) (K : Nat) : Bool :=
  let ops := l.toArray
  let dst (i : Nat) : Option Nat := (l[i]?).bind (·.dst)
  (decide (K ≤ l.length) &&
  (List.range l.length).all fun i => match l[i]? with
    | none => false
    | some o =>
      (o.after.toList.all fun e => !Region.binds .any e || decide (e.on < i)) && !isSelect o.op &&
      (if i < K then
        (match o.dst with
         | none => false
         | some d => (List.range K).all (fun j => j == i || dst j != some d) && !((o.looksAt ops).elem d)) &&
        (List.range K).all (fun j => match dst j with
          | none => false
          | some d => !(o.looksAt ops).elem d || oldD l K i d || (decide (j < i) && dep2 l o j))
       else (List.range i).all (fun j => dep2 l o j || decide (j < K)))) && lateD l K

section late
variable {P : Program} {Q : Exit → Act → World → Prop} {n : Fr} {L : List (Nat × Value)} {w : World} {l : List Oper} {K : Nat} {R : Nat → Value → World → Prop}
theorem late_specD (hc : lateD l K = true) {j : Nat} {o : Oper} (hj : j < K) (ho : l[j]? = some o) (hl : isLateD l K j = true) :
    lateK o.op = true ∧ o.guard = none ∧ ∀ i y, l[i]? = some y → i ≠ j → ((i < K ∧ isLateD l K i = true) ∨ (K ≤ i ∧ dep2 l y j = false)) → o.apart l.toArray y = true := by
  have h := List.all_eq_true.1 hc j (List.mem_range.2 hj)
  rw [hl, ho] at h
  simp only [Bool.not_true, Bool.false_or, Bool.and_eq_true] at h
  refine ⟨h.1.1.1, by simpa using h.1.1.2, fun i y hi hne hcase => ?_⟩
  have h2 := List.all_eq_true.1 h.2 i (List.mem_range.2 (List.getElem?_eq_some_iff.1 hi).1)
  rw [hi] at h2
  simp only [beq_iff_eq, hne, Bool.or_eq_true, false_or] at h2
  rcases hcase with ⟨h3, h4⟩ | ⟨h3, h4⟩
  · simp [h3, h4] at h2
    exact h2
  · simp [show ¬ i < K by omega, h4] at h2
    exact h2
theorem nonlate_edgeD {i j : Nat} {o : Oper} (hl : isLateD l K j = false) (ho : l[i]? = some o) (hi : K ≤ i) : dep2 l o j = true := by
  unfold isLateD at hl
  have := List.any_eq_false.1 hl i (List.mem_range.2 (List.getElem?_eq_some_iff.1 ho).1)
  rw [ho] at this
  simpa [hi] using this
/-- behind the head: one order, but for the late ones -/
theorem tail_lateD (hQ : PQ Q) (hc : monoD l K = true) {f : Nat → Value} : ∀ (m k : Nat) (listed : Array Bool) (U : List Nat) (a : Act) (w' : World), ClosedD l listed → listed.toList.count false = m → listed.size = l.length → K ≤ k → k ≤ l.length →
    (∀ j, K ≤ j → j < l.length → listed.getD j true = decide (j < k)) → U.Nodup → (∀ j, j < K → (listed.getD j true = false ↔ j ∈ U)) → (∀ j ∈ U, j < K ∧ isLateD l K j = true ∧ ∃ o, l[j]? = some o ∧ Yields P l.toArray o (f j) a) →
    wpList P l.toArray Q (l.drop k) (pend l f U a) w' → wpAny P .any l.toArray Q m listed a w' := by
  have hc1 := (Bool.and_eq_true_iff.1 hc).1
  have hlate := (Bool.and_eq_true_iff.1 hc).2
  have hKl : K ≤ l.length := of_decide_eq_true (Bool.and_eq_true_iff.1 hc1).1
  have hck := (List.all_eq_true.1 (Bool.and_eq_true_iff.1 hc1).2)
  intro m
  induction m with
  | zero =>
    intro k listed U a w' hcl hcount hs hK hkl htail hn hU hUl h
    have hall : ∀ j, j < l.length → listed.getD j true = true := by
      intro j hj
      have hm : listed[j]'(by omega) ∈ listed.toList := by simp
      cases hb : listed[j]'(by omega) with
      | true => simp [Array.getD, show j < listed.size by omega, hb]
      | false =>
        rw [hb] at hm
        exact absurd hcount (Nat.pos_iff_ne_zero.1 (List.count_pos_iff.2 hm))
    have hU0 : U = [] := by
      rw [List.eq_nil_iff_forall_not_mem]
      intro j hj
      have h1 := (hU j (hUl j hj).1).2 hj
      rw [hall j (by have := (hUl j hj).1; omega)] at h1
      cases h1
    have hke : k = l.length := by
      rcases Nat.lt_or_ge k l.length with hlt | hge
      · have h1 := htail k hK hlt
        rw [hall k hlt] at h1
        simp at h1
      · omega
    subst hU0 hke
    refine ⟨?_, by simpa [pend, wpList] using h⟩
    rw [List.eq_nil_iff_forall_not_mem]
    intro j hj
    obtain ⟨h0, o, ho, _⟩ := mem_ready.1 hj
    rw [List.getElem?_toArray] at ho
    rw [hall j (List.getElem?_eq_some_iff.1 ho).1] at h0
    cases h0
  | succ m ih =>
    intro k listed U a w' hcl hcount hs hK hkl htail hn hU hUl h
    have hex : ∃ i, i < l.length ∧ listed.getD i true = false := by
      obtain ⟨i, hi, hb⟩ := List.mem_iff_getElem.1 (List.count_pos_iff.1 (by rw [hcount]; omega : 0 < listed.toList.count false))
      have hi' : i < listed.size := by simpa using hi
      exact ⟨i, by omega, by simpa [Array.getD, hi'] using hb⟩
    obtain ⟨i0, hi0, hmin⟩ := exists_least hex
    have hready : i0 ∈ Region.ready .any l.toArray listed := by
      refine mem_ready.2 ⟨hi0.2, l[i0]'hi0.1, by rw [List.getElem?_toArray, List.getElem?_eq_getElem hi0.1], fun e he hb => ?_⟩
      have hx := hck i0 (List.mem_range.2 hi0.1)
      rw [List.getElem?_eq_getElem hi0.1] at hx
      simp only [Bool.and_eq_true] at hx
      have he2 := List.all_eq_true.1 hx.1.1 e (by simpa using he)
      rw [hb] at he2
      simp at he2
      rw [← getD_true_false (by omega)]
      cases hb2 : listed.getD e.on true with
      | true => rfl
      | false => exact absurd (hmin e.on ⟨by omega, hb2⟩) (by omega)
    refine ⟨fun h0 => (by rw [h0] at hready; cases hready), fun i hi => ?_⟩
    obtain ⟨h0, o, ho, hall⟩ := mem_ready.1 hi
    rw [List.getElem?_toArray] at ho
    have hil : i < l.length := (List.getElem?_eq_some_iff.1 ho).1
    have hx := hck i (List.mem_range.2 hil)
    rw [ho] at hx
    simp only [Bool.and_eq_true] at hx
    have hsel : isSelect o.op = false := by simpa using hx.1.2
    have hcnt : (listed.setIfInBounds i true).toList.count false = m := by
      have hil' : i < listed.size := by omega
      have hfalse : listed.toList[i]? = some false := by
        rw [Array.getElem?_toList, Array.getElem?_eq_getElem hil']
        simp [Array.getD, hil'] at h0
        rw [h0]
      rw [Array.toList_setIfInBounds]
      have := count_set_true (l := listed.toList) (i := i) hfalse
      omega
    by_cases hiK : i < K
    · -- a late one
      have hiU := (hU i hiK).1 h0
      obtain ⟨_, hil8, o', ho', hy⟩ := hUl i hiU
      rw [ho] at ho'
      cases ho'
      obtain ⟨_, _, hap⟩ := late_specD hlate hiK ho hil8
      refine Yields.wpOp (by rw [List.getElem?_toArray]; exact ho) hy ?_
      have he : a.put o.dst (f i) = a.put ((l[i]?).bind (·.dst)) (f i) := by rw [ho]; rfl
      refine ih k _ (U.erase i) _ w' (closed_set hcl ho hall) hcnt (by simpa using hs) hK hkl (fun j h1 h2 => by rw [getD_set_ne true (by omega)]; exact htail j h1 h2) (hn.erase i) (fun j hj => ?_) (fun j hj => ?_) ?_
      · by_cases e : i = j
        · subst e
          simp [hs, hil, hn.not_mem_erase]
        · rw [getD_set_ne true e, hU j hj]
          exact (List.mem_erase_of_ne (Ne.symm e)).symm
      · have hjU := List.mem_of_mem_erase hj
        obtain ⟨h1, h2, oj, h3, h4⟩ := hUl j hjU
        have hne : i ≠ j := fun e => by subst e; exact (hn.not_mem_erase) hj
        obtain ⟨_, _, hapj⟩ := late_specD hlate h1 h3 h2
        have hxj := hck j (List.mem_range.2 (by omega))
        rw [h3] at hxj
        simp only [Bool.and_eq_true] at hxj
        exact ⟨h1, h2, oj, h3, (yields_put (by simpa using hxj.1.2) (hapj i o ho hne (.inl ⟨hiK, hil8⟩))).2 h4⟩
      · rw [he, pend_erase U a hiU hn (fun j hj hne d hd => ?_)]
        · exact h
        · obtain ⟨h1, h2, oj, h3, h4⟩ := hUl j hj
          have h5 := (Oper.apart_spec (hap j oj h3 hne (.inl ⟨h1, h2⟩))).2.1 d (by rw [ho] at hd; exact hd)
          rw [h3]
          exact h5
    · -- the next of the tail
      have hik : i = k := by
        rw [htail i (by omega) hil] at h0
        have h0' : k ≤ i := by simpa using h0
        rcases Nat.eq_or_lt_of_le h0' with e | hlt
        · exact e.symm
        · exfalso
          have h3 := hx.2
          rw [if_neg hiK] at h3
          have h4 := List.all_eq_true.1 h3 k (List.mem_range.2 hlt)
          simp only [show ¬ k < K by omega, decide_false, Bool.or_false] at h4
          have h5 := dep_listed hcl hall h4
          rw [← getD_true_false (by omega), htail k hK (by omega)] at h5
          simp at h5
      subst hik
      have hdrop : l.drop i = o :: l.drop (i + 1) := by
        rw [List.drop_eq_getElem_cons hil]
        rw [List.getElem?_eq_getElem hil] at ho
        cases ho
        rfl
      rw [hdrop] at h
      have hk2 : wpOp P l.toArray Q i (wpList P l.toArray Q (l.drop (i + 1))) (pend l f U a) w' := by
        unfold wpOp
        rw [List.getElem?_toArray, ho]
        exact h
      have hne : ∀ j ∈ U, j ≠ i := fun j hj e => by have := (hUl j hj).1; omega
      have hk3 := wpOp_pend hQ ho hsel U _ a hn (fun j hj => by
        obtain ⟨h1, h2, oj, h3, h4⟩ := hUl j hj
        obtain ⟨_, _, hapj⟩ := late_specD hlate h1 h3 h2
        have hxj := hck j (List.mem_range.2 (by omega))
        rw [h3] at hxj
        simp only [Bool.and_eq_true] at hxj
        refine ⟨oj, h3, by simpa using hxj.1.2, hapj i o ho (Ne.symm (hne j hj)) (.inr ⟨by omega, ?_⟩), h4, fun j' hj' hne' => ?_⟩
        · cases hE : dep2 l o j with
          | false => rfl
          | true =>
            have h5 := dep_listed hcl hall hE
            rw [← getD_true_false (by omega), (hU j h1).2 hj] at h5
            cases h5
        · obtain ⟨h1', h2', oj', h3', _⟩ := hUl j' hj'
          exact ⟨oj', h3', hapj j' oj' h3' hne' (.inl ⟨h1', h2'⟩)⟩) hk2
      refine wpOp_mono (fun a' w'' hh => ?_) hk3
      refine ih (i + 1) _ U a' w'' (closed_set hcl ho hall) hcnt (by simpa using hs) (by omega) (by omega) (fun j h1 h2 => ?_) hn (fun j hj => ?_) (fun j hj => ?_) hh.2
      · by_cases e : i = j
        · subst e
          simp [hs, hil]
        · rw [getD_set_ne true e, htail j h1 h2]
          have : (j < i + 1) ↔ (j < i) := by omega
          simp [this]
      · rw [getD_set_ne true (by omega)]
        exact hU j hj
      · obtain ⟨h1, h2, oj, h3, _⟩ := hUl j hj
        exact ⟨h1, h2, oj, h3, hh.1 j hj oj h3⟩
end late
section late
variable {P : Program} {Q : Exit → Act → World → Prop} {n : Fr} {L : List (Nat × Value)} {w : World} {l : List Oper} {K mu : Nat} {I1 I2 : World → Prop} {R1 R : Nat → Value → World → Prop}
theorem uniqD (hc : monoD l K = true) {j j' : Nat} {oj oj' : Oper} {t : Nat} (hj : j < K) (hj' : j' < K) (hoj : l[j]? = some oj) (hoj' : l[j']? = some oj') (hd : oj.dst = some t) (hd' : oj'.dst = some t) : j = j' := by
  have hc1 := (Bool.and_eq_true_iff.1 hc).1
  have hck := (List.all_eq_true.1 (Bool.and_eq_true_iff.1 hc1).2)
  have hx := hck j' (List.mem_range.2 (List.getElem?_eq_some_iff.1 hoj').1)
  rw [hoj'] at hx
  simp only [Bool.and_eq_true] at hx
  have h3 := hx.2
  rw [if_pos hj'] at h3
  simp only [Bool.and_eq_true] at h3
  have h3a := h3.1
  rw [hd'] at h3a
  simp only [Bool.and_eq_true] at h3a
  have h5 := List.all_eq_true.1 h3a.1 j (List.mem_range.2 hj)
  rw [hoj] at h5
  simpa [hd] using h5
theorem oldD_spec {i t : Nat} (h : oldD l K i t = true) : ∃ j oj, j < K ∧ l[j]? = some oj ∧ oj.dst = some t ∧ dep2 l oj i = true := by
  obtain ⟨j, hj, h2⟩ := List.any_eq_true.1 h
  cases hoj : l[j]? with
  | none => rw [hoj] at h2; cases h2
  | some oj =>
    rw [hoj] at h2
    simp only [Bool.and_eq_true, beq_iff_eq] at h2
    exact ⟨j, oj, List.mem_range.1 hj, hoj, h2.1, h2.2⟩
theorem slotsD_spec (hc : monoD l K = true) {i t : Nat} {o : Oper} (hi : i < K) (ho : l[i]? = some o) (ht : t ∈ slotsD l K i o) : (o.looksAt l.toArray).elem t = true ∧ ∃ j oj, j < K ∧ l[j]? = some oj ∧ oj.dst = some t ∧ j < i ∧ dep2 l o j = true := by
  obtain ⟨ht1, ht2⟩ := List.mem_filter.1 ht
  simp only [Bool.and_eq_true, Bool.not_eq_true'] at ht2
  obtain ⟨oj, hoj, hdj⟩ := List.mem_filterMap.1 ht1
  obtain ⟨j, hj⟩ := List.mem_iff_getElem?.1 hoj
  rw [List.getElem?_take] at hj
  split at hj
  · rename_i hjK
    refine ⟨ht2.1, j, oj, hjK, hj, hdj, ?_⟩
    have hc1 := (Bool.and_eq_true_iff.1 hc).1
    have hck := (List.all_eq_true.1 (Bool.and_eq_true_iff.1 hc1).2)
    have hx := hck i (List.mem_range.2 (List.getElem?_eq_some_iff.1 ho).1)
    rw [ho] at hx
    simp only [Bool.and_eq_true] at hx
    have h3 := hx.2
    rw [if_pos hi] at h3
    simp only [Bool.and_eq_true] at h3
    have h5 := List.all_eq_true.1 h3.2 j (List.mem_range.2 hjK)
    rw [hj] at h5
    have h6 : t ∈ o.looksAt l.toArray := by simpa using ht2.1
    simpa [hdj, h6, ht2.2] using h5
  · cases hj
theorem looksD (hc : monoD l K = true) {listed : Array Bool} (hcl : ClosedD l listed) (hs : listed.size = l.length) {i : Nat} {o : Oper} (_ho : l[i]? = some o) (hil : i < l.length) (h0 : listed.getD i true = false) {L' : List (Nat × Value)}
    (hfr : ∀ t, (∀ i o, i < K → l[i]? = some o → listed.getD i true = true → o.dst ≠ some t) → look L' t = look L t) : ∀ t, (o.looksAt l.toArray).elem t = true → look ((slotsD l K i o).map (fun d => (d, look L' d)) ++ L) t = look L' t := by
  intro t ht
  rw [look_map]
  split
  · rfl
  · rename_i hne
    refine (hfr t fun j oj hj hoj hlj hd => ?_).symm
    have hmem : t ∈ preOf l K := List.mem_filterMap.2 ⟨oj, List.mem_iff_getElem?.2 ⟨j, by rw [List.getElem?_take, if_pos hj]; exact hoj⟩, hd⟩
    cases hb : oldD l K i t with
    | false =>
      apply hne
      simp only [List.elem_eq_mem, decide_eq_true_eq]
      exact List.mem_filter.2 ⟨hmem, by rw [ht, hb]; rfl⟩
    | true =>
      obtain ⟨j', oj', hj', hoj', hd', hdep⟩ := oldD_spec hb
      have hjj := uniqD hc hj hj' hoj hoj' hd hd'
      subst hjj
      rw [hoj] at hoj'
      cases hoj'
      have hjl : j < l.length := (List.getElem?_eq_some_iff.1 hoj).1
      have h1 := dep_listed hcl (hcl j oj hoj (by rw [← getD_true_false (by omega)]; exact hlj)) hdep
      rw [← getD_true_false (by omega), h0] at h1
      cases h1
theorem late_fin8 (hQ : PQ Q) (hc : monoD l K = true) (hop : OpsOK8 P l.toArray n L I2 R1 R l K mu 0 (l.take K)) (h12 : ∀ t v w, R1 t v w → R t v w) (hmuL : mu < K → isLateD l K mu = false)
    (hend : ∀ w', I2 w' → AllF R w' (preOf l K) fun M => St P l.toArray Q (l.drop K) n (M ++ L) w') (m : Nat) (listed : Array Bool) (L' : List (Nat × Value)) (w' : World) (hcl : ClosedD l listed) (hcount : listed.toList.count false = m) (hs : listed.size = l.length)
    (htail : ∀ j, K ≤ j → j < l.length → listed.getD j true = false) (hF : I2 w')
    (hfr : ∀ t, (∀ i o, i < K → l[i]? = some o → listed.getD i true = true → o.dst ≠ some t) → look L' t = look L t)
    (hR : ∀ i o d, i < K → l[i]? = some o → listed.getD i true = true → o.dst = some d → R d (look L' d) w') (hpre : ∀ i, i < K → listed.getD i true = false → isLateD l K i = true) : wpAny P .any l.toArray Q m listed (mkA n L') w' := by
  have hc1 := (Bool.and_eq_true_iff.1 hc).1
  have hlate := (Bool.and_eq_true_iff.1 hc).2
  have hKl : K ≤ l.length := of_decide_eq_true (Bool.and_eq_true_iff.1 hc1).1
  have hck := (List.all_eq_true.1 (Bool.and_eq_true_iff.1 hc1).2)
  -- what is known of an operation of the head
  have hhead : ∀ i, i < K → ∃ o d, l[i]? = some o ∧ o.dst = some d ∧ isSelect o.op = false ∧ (∀ j oj, j < K → j ≠ i → l[j]? = some oj → oj.dst ≠ some d) := by
    intro i hi
    have hil : i < l.length := by omega
    have hx := hck i (List.mem_range.2 hil)
    rw [List.getElem?_eq_getElem hil] at hx
    simp only [Bool.and_eq_true] at hx
    have h3 := hx.2
    rw [if_pos hi] at h3
    simp only [Bool.and_eq_true] at h3
    obtain ⟨h3a, h3b⟩ := h3
    cases hod : (l[i]).dst with
    | none => rw [hod] at h3a; cases h3a
    | some d =>
      rw [hod] at h3a
      simp only [Bool.and_eq_true] at h3a
      refine ⟨l[i], d, List.getElem?_eq_getElem hil, hod, by simpa using hx.1.2, fun j oj hj hne hoj e => ?_⟩
      have h5 := List.all_eq_true.1 h3a.1 j (List.mem_range.2 hj)
      rw [hoj] at h5
      simp [hne, e] at h5
  -- the values of those that are still to come
  have hval : ∀ i, i < K → listed.getD i true = false → ∃ v, ∀ o d, l[i]? = some o → o.dst = some d → Yields P l.toArray o v (mkA n L') ∧ R d v w' := by
    intro i hi hf
    have hil8 := hpre i hi hf
    obtain ⟨o, d, ho, hd, hsel, _⟩ := hhead i hi
    obtain ⟨hk, hg, hap⟩ := late_specD hlate hi ho hil8
    have hfact : ∀ t ∈ slotsD l K i o, R t (look L' t) w' := by
      intro t ht
      obtain ⟨ht2, j, oj, hjK, hj, hdj, hji, _⟩ := slotsD_spec hc hi ho ht
      refine hR j oj t hjK hj ?_ hdj
      cases hb : listed.getD j true with
      | true => rfl
      | false =>
        have h6 := hpre j hjK hb
        have h7 := (Oper.apart_spec (hap j oj hj (by omega) (.inl ⟨hjK, h6⟩))).2.2 t hdj
        exact absurd (by simpa using ht2) h7
    have hlooks := looksD (L := L) hc hcl hs ho (by omega) hf hfr
    have hok := allF_at (look L') _ hfact (opsOK8_at0 hop i o (by rw [List.getElem?_take, if_pos hi]; exact ho) (by intro e; rw [e, hmuL (by omega)] at hil8; cases hil8) w' hF)
    obtain ⟨hE, hW⟩ := looksAt_agree (n := n) (ops := l.toArray) (o := o) hsel hlooks
    rw [hd] at hok
    simp only [Option.getD_some] at hok
    have hyl : ∃ v, Yields P l.toArray o v (mkA n L') ∧ R d v w' := by
      unfold OpOK at hok
      rw [hE, hW] at hok
      rcases hok with ⟨hw, ⟨v, w'', hr, hF', hRv⟩ | ⟨f, args, hr, hcall⟩⟩ | ⟨hw, hRv⟩
      · obtain ⟨rfl, hall⟩ := late_run hk hr
        refine ⟨v, .inl ⟨hw, fun w2 => ?_⟩, h12 _ _ _ hRv⟩
        rw [eval_mkA]
        exact hall w2
      · exfalso
        obtain ⟨dst, op, ty, pos, after, guard⟩ := o
        cases op <;> simp only [lateK, Bool.false_eq_true] at hk <;> simp only [execOp, Sem.run_pure, Sem.run_bind, Result.ok.injEq] at hr
        · cases hr.1
        · cases hr.1
        · rename_i x i'
          cases hx : ev n L' x <;> simp only [hx, Instr.extract] at hr <;> (try (simp at hr; done))
          rename_i vs
          cases hv : vs[i']? <;> simp [hv] at hr
      · exact ⟨undef, .inr ⟨hw, rfl⟩, h12 _ _ _ hRv⟩
    obtain ⟨v, hv1, hv2⟩ := hyl
    refine ⟨v, fun o' d' ho' hd' => ?_⟩
    rw [ho] at ho'
    cases ho'
    rw [hd] at hd'
    cases hd'
    exact ⟨hv1, hv2⟩
  obtain ⟨f, hf⟩ : ∃ f : Nat → Value, ∀ i, i < K → listed.getD i true = false → ∀ o d, l[i]? = some o → o.dst = some d → Yields P l.toArray o (f i) (mkA n L') ∧ R d (f i) w' := by
    refine ⟨fun i => open Classical in if h : ∃ v, ∀ o d, l[i]? = some o → o.dst = some d → Yields P l.toArray o v (mkA n L') ∧ R d v w' then h.choose else undef, fun i hi hl => ?_⟩
    have h := hval i hi hl
    simp only [dif_pos h]
    exact h.choose_spec
  have hUm : ∀ i, i ∈ (List.range K).filter (fun i => !listed.getD i true) ↔ i < K ∧ listed.getD i true = false := fun i => by
    rw [List.mem_filter, List.mem_range]
    simp
  obtain ⟨U, hU, hUn⟩ : ∃ U : List Nat, (∀ i, i ∈ U ↔ i < K ∧ listed.getD i true = false) ∧ U.Nodup := ⟨_, hUm, List.nodup_range.sublist (List.filter_sublist ..)⟩
  have hbind : ∀ {i : Nat} {o : Oper}, l[i]? = some o → (l[i]?).bind (·.dst) = o.dst := fun h => by rw [h]; rfl
  -- the frame with all of them
  have hRall : ∀ d ∈ preOf l K, R d (look ((U.filterMap fun i => ((l[i]?).bind (·.dst)).map fun d => (d, f i)) ++ L') d) w' := by
    intro d hd
    obtain ⟨o, ho, hod⟩ := List.mem_filterMap.1 hd
    obtain ⟨i, hi⟩ := List.mem_iff_getElem?.1 ho
    rw [List.getElem?_take] at hi
    split at hi
    · rename_i hiK
      obtain ⟨o', d', ho', hd', _, hdist⟩ := hhead i hiK
      rw [hi] at ho'
      cases ho'
      rw [hod] at hd'
      cases hd'
      have hne : ∀ j ∈ U, j ≠ i → (l[j]?).bind (·.dst) ≠ some d := fun j hj hji => by
        have hjK := ((hU j).1 hj).1
        obtain ⟨oj, dj, hoj, _⟩ := hhead j hjK
        rw [hbind hoj]
        exact hdist j oj hjK hji hoj
      cases hb : listed.getD i true with
      | true =>
        rw [look_pend U fun j hj => hne j hj (fun e => by subst e; have := ((hU j).1 hj).2; rw [hb] at this; cases this)]
        exact hR i o d hiK hi hb hod
      | false =>
        rw [look_pend_at U ((hU i).2 ⟨hiK, hb⟩) ((hbind hi).trans hod) hne]
        exact (hf i hiK hb o d hi hod).2
    · cases hi
  have he := allF_at _ (preOf l K) hRall (hend w' hF)
  have hL : mkA n ((preOf l K).map (fun d => (d, look ((U.filterMap fun i => ((l[i]?).bind (·.dst)).map fun d => (d, f i)) ++ L') d)) ++ L) = pend l f U (mkA n L') := by
    rw [pend_mkA]
    refine mkA_congr fun t _ => ?_
    rw [look_map]
    split
    · rfl
    · rename_i hne
      have hnd : ∀ i, i < K → ∀ o, l[i]? = some o → o.dst ≠ some t := fun i hi o ho hod => hne (by
        simp only [List.elem_eq_mem, decide_eq_true_eq]
        exact List.mem_filterMap.2 ⟨o, List.mem_iff_getElem?.2 ⟨i, by rw [List.getElem?_take, if_pos hi]; exact ho⟩, hod⟩)
      rw [look_pend U fun j hj => by
        have hjK := ((hU j).1 hj).1
        obtain ⟨oj, dj, hoj, _⟩ := hhead j hjK
        rw [hbind hoj]
        exact hnd j hjK oj hoj]
      exact (hfr t fun i o hi ho _ hod => hnd i hi o ho hod).symm
  replace he := he.out
  rw [hL] at he
  refine tail_lateD hQ hc m K listed U _ w' hcl hcount hs (Nat.le_refl _) hKl (fun j h1 h2 => by rw [htail j h1 h2]; simp [h1]) hUn (fun j hj => ⟨fun h => (hU j).2 ⟨hj, h⟩, fun h => ((hU j).1 h).2⟩) (fun j hj => ?_) he
  obtain ⟨h1, h2⟩ := (hU j).1 hj
  obtain ⟨oj, dj, hoj, hdj, _⟩ := hhead j h1
  exact ⟨h1, hpre j h1 h2, oj, hoj, (hf j h1 h2 oj dj hoj hdj).1⟩
theorem mono_mu (hQ : PQ Q) (hc : monoD l K = true) (hm1 : ∀ w1 w2, From w1 w2 → I1 w1 → I1 w2) (hm2 : ∀ w1 w2, From w1 w2 → I2 w1 → I2 w2) (hmono1 : ∀ t v w1 w2, From w1 w2 → R1 t v w1 → R1 t v w2) (hmono : ∀ t v w1 w2, From w1 w2 → R t v w1 → R t v w2)
    (hop : OpsOK8 P l.toArray n L I2 R1 R l K mu 0 (l.take K)) (h12 : ∀ t v w, R1 t v w → R t v w) (hmuL : mu < K → isLateD l K mu = false) (hmu : MuAt P l.toArray n L I1 I2 R1 R l K mu l[mu]?)
    (hend : ∀ w', I2 w' → AllF R w' (preOf l K) fun M => St P l.toArray Q (l.drop K) n (M ++ L) w') :
    ∀ (m : Nat) (listed : Array Bool) (L' : List (Nat × Value)) (w' : World), ClosedD l listed → listed.toList.count false = m → listed.size = l.length → (∀ j, K ≤ j → j < l.length → listed.getD j true = false) → I2 w' → (listed.getD mu true = false → I1 w') →
      (∀ t, (∀ i o, i < K → l[i]? = some o → listed.getD i true = true → o.dst ≠ some t) → look L' t = look L t) →
      (∀ i o d, i < K → l[i]? = some o → listed.getD i true = true → o.dst = some d → R d (look L' d) w') → (listed.getD mu true = false → ∀ i o d, i < K → l[i]? = some o → listed.getD i true = true → o.dst = some d → R1 d (look L' d) w') → wpAny P .any l.toArray Q m listed (mkA n L') w' := by
  have hc1 := (Bool.and_eq_true_iff.1 hc).1
  have hlate := (Bool.and_eq_true_iff.1 hc).2
  have hKl : K ≤ l.length := of_decide_eq_true (Bool.and_eq_true_iff.1 hc1).1
  have hck := (List.all_eq_true.1 (Bool.and_eq_true_iff.1 hc1).2)
  intro m
  induction m with
  | zero =>
    intro listed L' w' hcl hcount hs htail hF hF1 hfr hR hR1
    exact late_fin8 hQ hc hop h12 hmuL hend 0 listed L' w' hcl hcount hs htail hF hfr hR (fun i hi h => by
      have hm : listed[i]'(by omega) ∈ listed.toList := by simp
      have hb : listed[i]'(by omega) = false := by simpa [Array.getD, show i < listed.size by omega] using h
      rw [hb] at hm
      exact absurd hcount (Nat.pos_iff_ne_zero.1 (List.count_pos_iff.2 hm)))
  | succ m ih =>
    intro listed L' w' hcl hcount hs htail hF hF1 hfr hR hR1
    by_cases hpre : ∀ i, i < K → listed.getD i true = false → isLateD l K i = true
    · exact late_fin8 hQ hc hop h12 hmuL hend (m + 1) listed L' w' hcl hcount hs htail hF hfr hR hpre
    · -- some operation of the head is still to come
      have hn0 : ∃ i, i < K ∧ listed.getD i true = false ∧ isLateD l K i = false := by
        refine Classical.byContradiction fun hno => hpre fun i hi hf => ?_
        cases hb : isLateD l K i with
        | true => rfl
        | false => exact absurd ⟨i, hi, hf, hb⟩ hno
      obtain ⟨n0, hn0⟩ := hn0
      obtain ⟨i0, hi0, hmin⟩ := exists_least (p := fun i => i < K ∧ listed.getD i true = false) ⟨n0, hn0.1, hn0.2.1⟩
      have hi0l : i0 < l.length := by omega
      have hready : i0 ∈ Region.ready .any l.toArray listed := by
        refine mem_ready.2 ⟨hi0.2, l[i0], by rw [List.getElem?_toArray, List.getElem?_eq_getElem hi0l], fun e he hb => ?_⟩
        have hx := hck i0 (List.mem_range.2 hi0l)
        rw [List.getElem?_eq_getElem hi0l] at hx
        simp only [Bool.and_eq_true] at hx
        have he2 := List.all_eq_true.1 hx.1.1 e (by simpa using he)
        rw [hb] at he2
        simp at he2
        rw [← getD_true_false (by omega)]
        cases hb2 : listed.getD e.on true with
        | true => rfl
        | false => exact absurd (hmin e.on ⟨by omega, hb2⟩) (by omega)
      refine ⟨fun h0 => (by rw [h0] at hready; cases hready), fun i hi => ?_⟩
      obtain ⟨h0, o, ho, hall⟩ := mem_ready.1 hi
      rw [List.getElem?_toArray] at ho
      have hil : i < l.length := (List.getElem?_eq_some_iff.1 ho).1
      have hx := hck i (List.mem_range.2 hil)
      rw [ho] at hx
      simp only [Bool.and_eq_true] at hx
      have hiK : i < K := by
        rcases Nat.lt_or_ge i K with h | h
        · exact h
        · exfalso
          have h5 := dep_listed hcl hall (nonlate_edgeD hn0.2.2 ho h)
          rw [← getD_true_false (by omega), hn0.2.1] at h5
          cases h5
      have h3 := hx.2
      rw [if_pos hiK] at h3
      simp only [Bool.and_eq_true] at h3
      obtain ⟨h3a, h3b⟩ := h3
      cases hod : o.dst with
      | none => rw [hod] at h3a; cases h3a
      | some d =>
        rw [hod] at h3a
        simp only [Bool.and_eq_true] at h3a
        have hlooks := looksD (L := L) hc hcl hs ho hil h0 hfr
        have hfactG : ∀ (RR : Nat → Value → World → Prop), (∀ i o d, i < K → l[i]? = some o → listed.getD i true = true → o.dst = some d → RR d (look L' d) w') → ∀ t ∈ slotsD l K i o, RR t (look L' t) w' := by
          intro RR hRR t ht
          obtain ⟨_, j, oj, hjK, hj, hd, _, hdep⟩ := slotsD_spec hc hiK ho ht
          have h6 := dep_listed hcl hall hdep
          exact hRR j oj t hjK hj (by rw [getD_true_false (by omega)]; exact h6) hd
        have hsel : isSelect o.op = false := by simpa using hx.1.2
        obtain ⟨hE, hW⟩ := looksAt_agree (n := n) (ops := l.toArray) (o := o) hsel hlooks
        have next : ∀ v w'', I2 w'' → (i ≠ mu → listed.getD mu true = false → I1 w'') → R d v w'' → (i ≠ mu → R1 d v w'') → (∀ t u, t ≠ d → R t u w' → (i = mu → R1 t u w') → R t u w'') → (i ≠ mu → ∀ t u, R1 t u w' → R1 t u w'') → wpAny P .any l.toArray Q m (listed.setIfInBounds i true) ((mkA n L').put (some d) v) w'' := by
          intro v w'' hI2' hI1' hRv hR1v hst hst1
          rw [put_mkA]
          have hne : ∀ j oj d', j < K → l[j]? = some oj → j ≠ i → oj.dst = some d' → d' ≠ d := by
            intro j oj d' hj hoj hji hd e
            have h5 := List.all_eq_true.1 h3a.1 j (List.mem_range.2 hj)
            rw [hoj] at h5
            simp [hji, hd, e] at h5
          refine ih _ _ w'' (closed_set hcl ho hall) ?_ (by simpa using hs) (fun j hj1 hj2 => ?_) hI2' (fun hml => ?_) (fun t ht => ?_) (fun j oj d' hj hoj hlj hd => ?_) (fun hml j oj d' hj hoj hlj hd => ?_)
          · have hil' : i < listed.size := by omega
            have hfalse : listed.toList[i]? = some false := by
              rw [Array.getElem?_toList, Array.getElem?_eq_getElem hil']
              simp [Array.getD, hil'] at h0
              rw [h0]
            rw [Array.toList_setIfInBounds]
            have := count_set_true (l := listed.toList) (i := i) hfalse
            omega
          · rw [getD_set_ne true (by omega)]
            exact htail j hj1 hj2
          · have him : i ≠ mu := fun e => by subst e; simp [show i < listed.size by omega] at hml
            rw [getD_set_ne true him] at hml
            exact hI1' him hml
          · have htd : t ≠ d := fun e => ht i o hiK ho (by simp [show i < listed.size by omega]) (by rw [hod, e])
            rw [look_cons, if_neg htd]
            refine hfr t fun j oj hj hoj hlj => ht j oj hj hoj ?_
            by_cases e : i = j
            · subst e; rw [h0] at hlj; cases hlj
            · rw [getD_set_ne true e]; exact hlj
          · rw [look_cons]
            by_cases e : j = i
            · subst e
              rw [ho] at hoj
              cases hoj
              rw [hod] at hd
              cases hd
              rw [if_pos rfl]
              exact hRv
            · have hdd := hne j oj d' hj hoj e hd
              rw [if_neg hdd]
              rw [getD_set_ne true (Ne.symm e)] at hlj
              refine hst _ _ hdd (hR j oj d' hj hoj hlj hd) (fun e2 => ?_)
              subst e2
              exact hR1 h0 j oj d' hj hoj hlj hd
          · have him : i ≠ mu := fun e => by subst e; simp [show i < listed.size by omega] at hml
            rw [getD_set_ne true him] at hml
            rw [look_cons]
            by_cases e : j = i
            · subst e
              rw [ho] at hoj
              cases hoj
              rw [hod] at hd
              cases hd
              rw [if_pos rfl]
              exact hR1v him
            · rw [if_neg (hne j oj d' hj hoj e hd)]
              rw [getD_set_ne true (Ne.symm e)] at hlj
              exact hst1 him _ _ (hR1 hml j oj d' hj hoj hlj hd)
        unfold wpOp
        rw [List.getElem?_toArray, ho]
        show if Region.wanted o (yielded l.toArray (mkT n.n L')) = true then _ else _
        by_cases him : i = mu
        · subst him
          rw [ho] at hmu
          have hok := allF_at (look L') _ (hfactG R1 (hR1 h0)) (hmu w' (hF1 h0))
          rw [hod] at hok
          simp only [Option.getD_some] at hok
          unfold MuOK at hok
          rw [hE, hW] at hok
          obtain ⟨hw, ⟨v, w'', hr, hI, hRv, hst⟩ | ⟨f, args, hr, hcall⟩⟩ := hok
          · rw [if_pos hw]
            refine .inl ?_
            unfold Oper.wp
            rw [eval_mkA, hr, Oper.upon_value, hod]
            exact next v w'' hI (fun h => absurd rfl h) hRv (fun h => absurd rfl h) (fun t u ht _ h1 => hst t u ht (h1 rfl)) (fun h => absurd rfl h)
          · rw [if_pos hw]
            refine .inl ?_
            unfold Oper.wp
            rw [eval_mkA, hr, Oper.upon_enter, hod]
            refine Calls.mono hcall fun e w'' ⟨v, he, hI, hRv, hst⟩ => ?_
            subst he
            exact next v w'' hI (fun h => absurd rfl h) hRv (fun h => absurd rfl h) (fun t u ht _ h1 => hst t u ht (h1 rfl)) (fun h => absurd rfl h)
        · have hok := allF_at (look L') _ (hfactG R hR) (opsOK8_at0 hop i o (by rw [List.getElem?_take, if_pos hiK]; exact ho) him w' hF)
          rw [hod] at hok
          simp only [Option.getD_some] at hok
          unfold OpOK at hok
          rw [hE, hW] at hok
          have next' : ∀ v w'', From w' w'' → R1 d v w'' → wpAny P .any l.toArray Q m (listed.setIfInBounds i true) ((mkA n L').put (some d) v) w'' := fun v w'' hF' hRv =>
            next v w'' (hm2 _ _ hF' hF) (fun _ h => hm1 _ _ hF' (hF1 h)) (h12 _ _ _ hRv) (fun _ => hRv) (fun t u _ h _ => hmono _ _ _ _ hF' h) (fun _ t u h => hmono1 _ _ _ _ hF' h)
          rcases hok with ⟨hw, ⟨v, w'', hr, hF', hRv⟩ | ⟨f, args, hr, hcall⟩⟩ | ⟨hw, hRv⟩
          · rw [if_pos hw]
            refine .inl ?_
            unfold Oper.wp
            rw [eval_mkA, hr, Oper.upon_value, hod]
            exact next' v w'' hF' hRv
          · rw [if_pos hw]
            refine .inl ?_
            unfold Oper.wp
            rw [eval_mkA, hr, Oper.upon_enter, hod]
            refine Calls.mono hcall fun e w'' ⟨v, he, hF', hRv⟩ => ?_
            subst he
            exact next' v w'' hF' hRv
          · rw [if_neg (by rw [hw]; simp), hod]
            exact next' undef w' From.rfl_ hRv

/-- a region that draws its order, with one change -/
theorem cd_mu {id : Nat} (K mu : Nat) (Ex : List Nat) (RL : List (Nat × (Value → World → Prop))) (I1 I2 : World → Prop) (hQ : PQ Q) (hm : P.follows .mixedOrders = true) (hc : monoD l K = true) (hl : isLateD l K mu = false) (hmono : MonoR RL)
    (h0 : I1 { w with drawn := w.drawn + 1 }) (h0' : I2 { w with drawn := w.drawn + 1 }) (hm1 : ∀ w1 w2, From w1 w2 → I1 w1 → I1 w2) (hm2 : ∀ w1 w2, From w1 w2 → I2 w1 → I2 w2)
    (hop : OpsOK8 P l.toArray n L I2 (lookR RL) (lookE Ex RL) l K mu 0 (l.take K)) (hmu : MuAt P l.toArray n L I1 I2 (lookR RL) (lookE Ex RL) l K mu l[mu]?)
    (hend : ∀ w', I2 w' → AllF (lookE Ex RL) w' (preOf l K) fun M => St P l.toArray Q (l.drop K) n (M ++ L) w') : Cd P (.region id l.toArray true) Q n L w := by
  refine ⟨wp_region_any hm ?_⟩
  have hKl : K ≤ l.length := of_decide_eq_true (Bool.and_eq_true_iff.1 (Bool.and_eq_true_iff.1 hc).1).1
  have := mono_mu (Q := Q) hQ hc hm1 hm2 (lookR_mono hmono) (lookE_mono hmono) hop lookE_of (fun _ => hl) hmu hend l.length (Array.replicate l.length false) L { w with drawn := w.drawn + 1 } (closed_none l _) (by simp) (by simp)
    (fun j _ hj => by simp [Array.getD, hj]) h0' (fun _ => h0) (fun _ _ => rfl) (fun i o d hi _ hl => by
      have : i < l.length := by omega
      simp [Array.getD, this] at hl) (fun _ i o d hi _ hl => by
      have : i < l.length := by omega
      simp [Array.getD, this] at hl)
  simpa using this
/-- a region that draws its order, with late operations; what waits for one that waits for another waits for that other -/
theorem cd_drawnD {id : Nat} (K : Nat) (RL : List (Nat × (Value → World → Prop))) (hQ : PQ Q) (hm : P.follows .mixedOrders = true) (hc : monoD l K = true) (hmono : MonoR RL)
    (hop : OpsOK8 P l.toArray n L (From w) (lookR RL) (lookR RL) l K l.length 0 (l.take K)) (hend : ∀ w', From w w' → AllF (lookR RL) w' (preOf l K) fun M => St P l.toArray Q (l.drop K) n (M ++ L) w') : Cd P (.region id l.toArray true) Q n L w := by
  refine ⟨wp_region_any hm ?_⟩
  have hKl : K ≤ l.length := of_decide_eq_true (Bool.and_eq_true_iff.1 (Bool.and_eq_true_iff.1 hc).1).1
  have := mono_mu (Q := Q) (mu := l.length) (I1 := From w) (I2 := From w) (R1 := lookR RL) hQ hc (fun _ _ hF h => h.next hF) (fun _ _ hF h => h.next hF) (lookR_mono hmono) (lookR_mono hmono) hop (fun _ _ _ h => h) (fun h => absurd h (by omega)) (by simp [MuAt]) hend l.length (Array.replicate l.length false) L { w with drawn := w.drawn + 1 } (closed_none l _) (by simp) (by simp)
    (fun j _ hj => by simp [Array.getD, hj]) From.rfl_.d1 (fun _ => From.rfl_.d1) (fun _ _ => rfl) (fun i o d hi _ hl => by
      have : i < l.length := by omega
      simp [Array.getD, this] at hl) (fun _ i o d hi _ hl => by
      have : i < l.length := by omega
      simp [Array.getD, this] at hl)
  simpa using this
end late
section
variable {P : Program} {ρ : Operand → Value} {w : World} {t yt : TypeId} {x y : Operand}
theorem ro_addU {a b : Nat} (hx : ρ x = .int .u64 (a : Nat)) (hy : ρ y = .int .u64 (b : Nat)) (h : a + b < 2 ^ 64) : RO P ρ (.binOp .add t x y yt) w (.int .u64 ((a + b : Nat) : Int)) w := by
  have := ro_add (P := P) (ρ := ρ) (w := w) (t := t) (yt := yt) hx hy
  rwa [show IntKind.u64.wrap ((a : Nat) + (b : Nat) : Int) = ((a + b : Nat) : Int) by rw [IntKind.wrap_u64]; omega] at this
theorem bits_i64 {a b : Nat} (ha : a < 2 ^ 63) (hb : b < 2 ^ 63) : bits .and .i64 (a : Int) (b : Int) = ((a &&& b : Nat) : Int) := by
  have e1 : (BitVec.ofInt 64 (a : Int)).toNat = a := by rw [BitVec.ofInt_natCast, BitVec.toNat_ofNat]; exact Nat.mod_eq_of_lt (by omega)
  have e2 : (BitVec.ofInt 64 (b : Int)).toNat = b := by rw [BitVec.ofInt_natCast, BitVec.toNat_ofNat]; exact Nat.mod_eq_of_lt (by omega)
  show IntKind.i64.wrap ((BitVec.ofInt 64 (a : Int) &&& BitVec.ofInt 64 (b : Int)).toNat : Int) = _
  have h : a &&& b < 2 ^ 63 := Nat.and_lt_two_pow _ hb
  rw [BitVec.toNat_and, e1, e2, IntKind.wrap_i64]; generalize a &&& b = c at *; omega
theorem ro_andI {a b : Nat} (hx : ρ x = .int .i64 (a : Nat)) (hy : ρ y = .int .i64 (b : Nat)) (h : a < 2 ^ 63 ∧ b < 2 ^ 63) : RO P ρ (.binOp .and t x y yt) w (.int .i64 ((a &&& b : Nat) : Int)) w := by
  have := ro_and (P := P) (ρ := ρ) (w := w) (t := t) (yt := yt) hx hy; rwa [bits_i64 h.1 h.2] at this
end
/-- an append onto a row of the call's own, run -/
theorem ro_appendB {P : Program} {ρ : Operand → Value} {w : World} {s x : Operand} {t base : Nat} {A A2 : Option Addr} {m j cap c2 e size by_ : Nat} {z : Value} {xs news : List Value} (hq : litQ P t = some (e, size, by_, z)) (hzs : z.cells.size = size) (hs0 : 0 < size)
    (hs : ρ s = .slice A m cap) (hown : w.ownsRow base e size (.slice A m cap) m xs) (hB : base ≤ w.heap.size)
    (hx : ρ x = .slice A2 j c2) (hl : news.length = j * size) (hsrc : ∃ b o, A2 = some ⟨b, o, none⟩ ∧ w.rangeAt b o news) (h1 : ∀ u ∈ news, u.oneCell' = true) (h63 : m + j ≤ 9223372036854775807) (hby : (m + j) * by_ ≤ 140737488355328) :
    ∃ A' cap' w', RO P ρ (.call { callee := .builtin .append, args := #[s, x], argTypes := #[t, t] }) w (.slice A' (m + j) cap') w' ∧ w'.ownsRow base e size (.slice A' (m + j) cap') (m + j) (xs ++ news) ∧ w.grownBy w' (A.map (·.block)) := by
  obtain ⟨i, hu, hi, hsz, hb, hz⟩ := lit_of hq
  obtain ⟨b, o, rfl, hr⟩ := hsrc
  have hobl : (Value.slice A m cap).ownBlock = A.map (·.block) := by cases A <;> rfl
  have key : ∀ ty, ∃ v' w', (Builtin.append_ #[t, t] ty #[.slice A m cap, .slice (some ⟨b, o, none⟩) j c2]).run P w = .ok v' w' ∧ w'.ownsRow base e size v' (m + j) (xs ++ news) ∧ w.grownBy w' (A.map (·.block)) := fun ty => by
    obtain ⟨v', w', h1, h2, h3, _⟩ := run_append_own (P := P) w base t ty e i z size by_ hu hi hz hsz hb hzs hs0 _ m xs hown ⟨b, o, none⟩ j c2 news hl (fun i u hu => by rw [Addr.add_mid]; exact hr i u hu) h1 (by unfold maxLen; omega) hby hB
    exact ⟨v', w', h1, h2, by rw [← hobl]; exact h3⟩
  obtain ⟨v', w', hrun, hown', hg⟩ := key 0
  obtain ⟨A', cap', rfl⟩ := own_form hown'
  refine ⟨A', cap', w', fun dst ty pos after g => ?_, hown', hg⟩
  have hty : (Builtin.append_ #[t, t] ty #[.slice A m cap, .slice (some ⟨b, o, none⟩) j c2]).run P w = (Builtin.append_ #[t, t] 0 #[.slice A m cap, .slice (some ⟨b, o, none⟩) j c2]).run P w := rfl
  unfold execOp
  simp only [resolve, invoke, builtin, Sem.run_bind, Sem.run_pure, Result.andThen_ok, List.map_toArray, List.map_cons, List.map_nil, hs, hx, hty, hrun]
end Go.Proofs.YtglndihdhaaccaaDoor
namespace Go.Proofs.YtglndihdhaaccaaDoor
open Go.RowKit
section
variable {P : Program} {ops : Array Oper} {n : Fr} {L : List (Nat × Value)} {w : World} {ty : TypeId} {pos : String} {after : Array Edge} {dst : Option Nat} {t : TypeId} {x s : Operand}
theorem ro_lit1 {ρ : Operand → Value} {e by_ : Nat} {z v : Value} (hq : litQ P t = some (e, 1, by_, z)) (hz : z.cells.size = 1) (hx : ρ x = v) (hv : v.cells = #[v]) : RO P ρ (.buildSlice t 1 #[(0, x)]) w (.slice (some ⟨w.heap.size, 0, none⟩) 1 1) (w.alloc (.cells #[v] e)) := by
  refine ro_lit (l := [(0, x)]) (cells := #[v]) hq rfl rfl ?_
  have e1 : (Array.range (1 * 1)).map (z.cells[· % z.cells.size]!) = #[z.cells[0]!] := by
    rw [show Array.range (1 * 1) = #[0] from rfl]
    simp
  rw [e1]
  simp [Instr.fill, hx, hv]
/-- an append, as the change of a region -/
theorem mu_append {post : Value → World → Prop} {base : Nat} {A A2 : Option Addr} {m j cap c2 e size by_ : Nat} {z : Value} {xs news : List Value} (hq : litQ P t = some (e, size, by_, z)) (hzs : z.cells.size = size) (hs0 : 0 < size)
    (hs : ev n L s = .slice A m cap) (hown : w.ownsRow base e size (.slice A m cap) m xs) (hB : base ≤ w.heap.size)
    (hx : ev n L x = .slice A2 j c2) (hl : news.length = j * size) (hsrc : ∃ b o, A2 = some ⟨b, o, none⟩ ∧ w.rangeAt b o news) (h1 : ∀ u ∈ news, u.oneCell' = true) (h63 : m + j ≤ 9223372036854775807) (hby : (m + j) * by_ ≤ 140737488355328)
    (k : ∀ A' cap' w', w'.ownsRow base e size (.slice A' (m + j) cap') (m + j) (xs ++ news) → w.grownBy w' (A.map (·.block)) → post (.slice A' (m + j) cap') w') :
    MuOK P ops n L ⟨dst, .call { callee := .builtin .append, args := #[s, x], argTypes := #[t, t] }, ty, pos, after, none⟩ w post := by
  obtain ⟨A', cap', w', hr, ho, hg⟩ := ro_appendB (P := P) (ρ := ev n L) hq hzs hs0 hs hown hB hx hl hsrc h1 h63 hby
  exact ⟨rfl, .inl ⟨_, w', hr _ _ _ _ _, k A' cap' w' ho hg⟩⟩
end
theorem own_at {w : World} {bs e s n c m : Nat} {A : Option Addr} {l : List Value} (h : w.ownsRow bs e s (.slice A n c) m l) : ∀ k, A.map (·.block) = some k → bs ≤ k ∧ k < w.heap.size := fun k hk => h.lt k (by rw [← hk]; cases A <;> rfl)
end Go.Proofs.YtglndihdhaaccaaDoor

namespace Go.Proofs.YtglndihdhaaccaaDoor
open Go.RowKit
section
variable {P : Program} {ops : Array Oper} {Q : Exit → Act → World → Prop} {rest : List Oper} {n : Fr} {L : List (Nat × Value)} {w : World} {ty : TypeId} {pos : String} {after : Array Edge} {d : Nat} {x : Operand}
theorem ro_makeFunc {ρ : Operand → Value} {f : FuncId} {l1 l2 : List Operand} : RO P ρ (.makeFunc (.func f) l1.toArray l2.toArray) w (.func (.func f) (l1.map ρ).toArray (l2.map ρ).toArray) w := fun _ _ _ _ _ => by
  simp [execOp, Instr.makeFunc]
end
end Go.Proofs.YtglndihdhaaccaaDoor

namespace Go.Proofs.YtglndihdhaaccaaDoor
open Go.RowKit Go.ChangeShapes Go.WideShapes Go.ChangeAt
/-- a guard over an operation that was passed over itself, in a drawn region -/
theorem ok_gund {P : Program} {ops : Array Oper} {n : Fr} {L : List (Nat × Value)} {w : World} {op : Op} {ty : TypeId} {pos : String} {after : Array Edge} {d : Option Nat} {R : Value → World → Prop} {j : Nat} {b : Bool} (hg : wantQ ops n L j = undef) (hR : R undef w) : OpOK P ops n L ⟨d, op, ty, pos, after, some (j, b)⟩ w R :=
  .inr ⟨by show (yielded ops (mkT n.n L) j == some b) = false; rw [yielded_undef hg]; rfl, hR⟩
/-- a row's block is not one of another type -/
theorem own_off {w : World} {base e s n c m g t : Nat} {A : Option Addr} {xs : List Value} {cs : Array Value} (h : w.ownsRow base e s (.slice A n c) m xs) (hb : Blk w g t cs) (hne : t ≠ e) : ∀ k, A.map (·.block) = some k → k ≠ g := by
  rintro k hk rfl
  rcases h.2 with ⟨h0, _⟩ | ⟨g', cap, cur, hv, hg, hh, r⟩
  · simp only [Value.slice.injEq] at h0
    rw [h0.1] at hk
    cases hk
  · simp only [Value.slice.injEq] at hv
    rw [hv.1] at hk
    simp only [Option.map_some, Option.some.injEq] at hk
    subst hk
    unfold Blk at hb
    rw [hh] at hb
    simp only [Option.some.injEq, Obj.cells.injEq] at hb
    exact hne hb.2.1.symm
theorem own_only3 {w w' : World} {base e s n c g : Nat} {A : Option Addr} {xs : List Value} (h : w.ownsRow base e s (.slice A n c) n xs) (o : Only g w w') (hne : ∀ k, A.map (·.block) = some k → k ≠ g) : w'.ownsRow base e s (.slice A n c) n xs := by
  refine ⟨h.1, ?_⟩
  rcases h.2 with h2 | ⟨g', cap, cur, hv, hg, hh, r⟩
  · exact .inl h2
  · refine .inr ⟨g', cap, cur, hv, hg, ?_, r⟩
    simp only [Value.slice.injEq] at hv
    rw [o.block g' (hne g' (by rw [hv.1]; rfl))]
    exact hh
theorem own_le {w : World} {base base' size n : Nat} {e : TypeId} {v : Value} {xs : List Value} (h : w.ownsRow base e size v n xs) (hb : base' ≤ base) : w.ownsRow base' e size v n xs := by
  refine ⟨h.1, ?_⟩
  rcases h.2 with h0 | ⟨g, cap, cur, hv, hg, r⟩
  · exact .inl h0
  · exact .inr ⟨g, cap, cur, hv, by omega, r⟩
end Go.Proofs.YtglndihdhaaccaaDoor

namespace Go.Proofs.YtglndihdhaaccaaDoor
open Go.RowKit

/-! ### lists of elements, flat -/
section
variable {α : Type} {f : α → List Value} {s : Nat}
theorem flat_len (hf : ∀ x, (f x).length = s) : ∀ (L : List α), (L.flatMap f).length = L.length * s
  | [] => by simp
  | x :: r => by rw [List.flatMap_cons, List.length_append, hf, flat_len hf r, List.length_cons, Nat.succ_mul]; omega
theorem flat_take (hf : ∀ x, (f x).length = s) : ∀ (L : List α) (k : Nat), (L.flatMap f).take (k * s) = (L.take k).flatMap f
  | [], k => by simp
  | x :: r, 0 => by simp
  | x :: r, k + 1 => by
    rw [List.flatMap_cons, List.take_succ_cons, List.flatMap_cons, ← flat_take hf r k, List.take_append, hf]
    rw [show (k + 1) * s - s = k * s by rw [Nat.succ_mul]; omega, List.take_of_length_le (by rw [hf, Nat.succ_mul]; omega)]
theorem flat_drop (hf : ∀ x, (f x).length = s) : ∀ (L : List α) (k : Nat), (L.flatMap f).drop (k * s) = (L.drop k).flatMap f
  | [], k => by simp
  | x :: r, 0 => by simp
  | x :: r, k + 1 => by
    rw [List.flatMap_cons, List.drop_succ_cons, ← flat_drop hf r k, List.drop_append, hf]
    rw [show (k + 1) * s - s = k * s by rw [Nat.succ_mul]; omega, List.drop_of_length_le (by rw [hf, Nat.succ_mul]; omega), List.nil_append]
theorem flat_at (hf : ∀ x, (f x).length = s) (L : List α) (i : Nat) (hi : i < L.length) (j : Nat) (hj : j < s) : (L.flatMap f)[i * s + j]? = (f L[i])[j]? := by
  have h1 : ((L.flatMap f).drop (i * s))[j]? = (L.flatMap f)[i * s + j]? := by rw [List.getElem?_drop]
  rw [← h1, flat_drop hf, List.drop_eq_getElem_cons hi, List.flatMap_cons, List.getElem?_append_left (by rw [hf]; exact hj)]
theorem flat_one {L : List α} (h : ∀ x ∈ L, ∀ u ∈ f x, u.oneCell' = true) : ∀ u ∈ L.flatMap f, u.oneCell' = true := fun u hu => by
  obtain ⟨x, hx, hu⟩ := List.mem_flatMap.1 hu
  exact h x hx u hu
/-- from this address on lie these, s cells each -/
def RowK (s : Nat) (f : α → List Value) (w : World) (A : Option Addr) (L : List α) : Prop := 0 < L.length → ∃ b o, A = some ⟨b, o, none⟩ ∧ ∀ i (h : i < L.length), w.rangeAt b (o + i * s) (f L[i])
theorem RowK.from_ {w w' : World} {A : Option Addr} {L : List α} (h : RowK s f w A L) (hF : From w w') : RowK s f w' A L := fun h0 =>
  let ⟨b, o, hA, hc⟩ := h h0
  ⟨b, o, hA, fun i hi => rangeF hF (hc i hi)⟩
theorem RowK.flat (hf : ∀ x, (f x).length = s) {w : World} {A : Option Addr} {L : List α} (h : RowK s f w A L) : 0 < L.length → ∃ b o, A = some ⟨b, o, none⟩ ∧ w.rangeAt b o (L.flatMap f) := fun h0 => by
  obtain ⟨b, o, hA, hc⟩ := h h0
  refine ⟨b, o, hA, fun j v hv => ?_⟩
  have hlt : j < L.length * s := by
    rw [← flat_len hf]
    rcases Nat.lt_or_ge j (L.flatMap f).length with a | a
    · exact a
    · rw [List.getElem?_eq_none a] at hv; cases hv
  have hs : 0 < s := by
    rcases Nat.eq_zero_or_pos s with h | h
    · subst h; omega
    · exact h
  have hi : j / s < L.length := by rw [Nat.div_lt_iff_lt_mul hs]; exact hlt
  have hj : j / s * s + j % s = j := by rw [Nat.mul_comm]; exact Nat.div_add_mod j s
  rw [← hj, flat_at hf L _ hi _ (Nat.mod_lt _ hs)] at hv
  have := hc _ hi _ v hv
  rwa [Nat.add_assoc, hj] at this
theorem RowK.own (hf : ∀ x, (f x).length = s) (hs : 0 < s) {w : World} {base e n c : Nat} {A : Option Addr} {L : List α} (h : w.ownsRow base e s (.slice A n c) n (L.flatMap f)) : L.length = n ∧ RowK s f w A L := by
  have hn : L.length = n := by
    have := h.1
    rw [flat_len hf] at this
    exact Nat.eq_of_mul_eq_mul_right hs this
  refine ⟨hn, fun h0 => ?_⟩
  obtain ⟨g, rfl⟩ := own_some h (by omega)
  refine ⟨g, 0, rfl, fun i hi j v hv => ?_⟩
  have hj : j < s := by
    rw [← hf L[i]]
    rcases Nat.lt_or_ge j (f L[i]).length with a | a
    · exact a
    · rw [List.getElem?_eq_none a] at hv; cases hv
  have hlt : i * s + j < n * s := by
    have : (i + 1) * s ≤ n * s := Nat.mul_le_mul_right s (by omega)
    rw [Nat.succ_mul] at this
    omega
  rw [Nat.zero_add, h.cellAt _ hlt, flat_at hf L i hi j hj]
  exact hv
end

/-! ### an own row as a block -/
theorem own_blk {w : World} {base e size n c : Nat} {A : Option Addr} {xs : List Value} (h : w.ownsRow base e size (.slice A n c) n xs) (hn : 0 < n) :
    ∃ g cur, A = some ⟨g, 0, none⟩ ∧ base ≤ g ∧ Blk w g e (List.toArray cur) ∧ n ≤ c ∧ c ≤ maxLen ∧ cur.length = c * size ∧ cur.take (n * size) = xs := by
  rcases h.2 with ⟨_, h0⟩ | ⟨g, cap, cur, hv, hg, hh, h1, h2, h3, h4⟩
  · omega
  · simp only [Value.slice.injEq, true_and] at hv
    obtain ⟨rfl, rfl⟩ := hv
    exact ⟨g, cur.toList, rfl, hg, by simpa [Blk] using hh, h1, h2, by simpa using h3, h4⟩
theorem own_of {w : World} {base e size n c g : Nat} {cur xs : List Value} (hg : base ≤ g) (hb : Blk w g e cur.toArray) (h1 : n ≤ c) (h2 : c ≤ maxLen) (h3 : cur.length = c * size) (h4 : cur.take (n * size) = xs) :
    w.ownsRow base e size (.slice (some ⟨g, 0, none⟩) n c) n xs := by
  refine ⟨?_, .inr ⟨g, c, cur.toArray, rfl, hg, hb, h1, h2, by simpa using h3, by simpa using h4⟩⟩
  rw [← h4, List.length_take, h3]
  exact Nat.min_eq_left (Nat.mul_le_mul_right _ h1)
theorem over_nil (cs : List Value) (o : Nat) : over cs o [] = cs := by simp [over]
section
variable {P : Program} {ρ : Operand → Value} {w : World}
theorem sz_of {t s : Nat} (h : sizeQ P t = some s) : ∃ i, P.info? t = some i ∧ i.size = s := by
  unfold sizeQ at h
  cases hi : P.info? t with
  | none => simp [hi] at h
  | some i => exact ⟨i, rfl, by simpa [hi] using h⟩
/-- cells written over a block that is known whole -/
theorem run_overB {g o : Nat} {u : TypeId} {cur vs : List Value} {A : Option Addr} (hA : 0 < vs.length → A = some ⟨g, o, none⟩) (hb : Blk w g u cur.toArray) (hfit : o + vs.length ≤ cur.length) (h1 : ∀ v ∈ vs, v.oneCell' = true) :
    ∃ w', (match A with | some a => storeCells a vs | none => (pure () : Sem Unit)).run P w = .ok () w' ∧ Only g w w' ∧ Blk w' g u (over cur o vs).toArray := by
  cases vs with
  | nil =>
    refine ⟨w, ?_, Only.rfl_, by rw [over_nil]; exact hb⟩
    cases A <;> simp [storeCells]
  | cons v vs =>
    obtain rfl := hA (by simp)
    have := run_storeCells_at P g o u (v :: vs) 0 cur.toArray w hb (by simpa using hfit) h1
    refine ⟨_, this, ?_, ?_⟩
    · exact ⟨rfl, rfl, rfl, by simp [World.setRow], fun k hk => setRow_other w g k _ hk⟩
    · have h2 := setRow_heap w g cur.toArray ((cur.toArray.toList.take (o + 0) ++ (v :: vs) ++ cur.toArray.toList.drop (o + 0 + (v :: vs).length)).toArray) u (0, 0) hb
      exact h2
theorem run_loadB {cs : List Value} {n : Nat} {A : Option Addr} (hn : cs.length = n) (h : 0 < cs.length → ∃ b o, A = some ⟨b, o, none⟩ ∧ w.rangeAt b o cs) :
    (match A with | some a => loadCells a n | none => (pure #[] : Sem (Array Value))).run P w = .ok cs.toArray w := by
  subst hn
  cases cs with
  | nil => cases A <;> simp [loadCells, loadCellsFrom]
  | cons c cs =>
    obtain ⟨b, o, rfl, hr⟩ := h (by simp)
    exact run_loadCells_list (P := P) w ⟨b, o, none⟩ (c :: cs) (fun j v hv => by rw [Addr.add_mid]; exact hr j v hv)
/-- copy(dst, src) into a block that is known whole -/
theorem ro_copyB {d s : Operand} {dT sT e size g o m c j c2 : Nat} {A A2 : Option Addr} {u : TypeId} {cur news : List Value} (ht : elemQ P dT = some (e, size)) (hd : ρ d = .slice A m c) (hs : ρ s = .slice A2 j c2) (hn : news.length = min j m * size)
    (hA : 0 < news.length → A = some ⟨g, o, none⟩) (hsrc : 0 < news.length → ∃ b o, A2 = some ⟨b, o, none⟩ ∧ w.rangeAt b o news) (hb : Blk w g u cur.toArray) (hfit : o + news.length ≤ cur.length) (h1 : ∀ v ∈ news, v.oneCell' = true) :
    ∃ w', RO P ρ (.call { callee := .builtin .copy, args := #[d, s], argTypes := #[dT, sT] }) w (.int .i64 (min j m : Nat)) w' ∧ Only g w w' ∧ Blk w' g u (over cur o news).toArray := by
  obtain ⟨hu, hsz⟩ := elem_of ht
  obtain ⟨i, hi, hs2⟩ := sz_of hsz
  subst hs2
  obtain ⟨w', hst, ho, hbl⟩ := run_overB (P := P) (A := A) hA hb hfit h1
  have hl := run_loadB (P := P) (n := min j m * i.size) hn hsrc
  have key : ∀ ty, (Builtin.copy_ #[dT, sT] ty #[.slice A m c, .slice A2 j c2]).run P w = .ok (.int .i64 (min j m : Nat)) w' := fun ty => by
    have e1 : Nat.min j m = min j m := rfl
    cases A2 with
    | none =>
      cases A with
      | none => simp_all [Builtin.copy_, run_underlying hu, Builtin.lenOf, Builtin.firstCells, sizeOf, typeInfo, hi, goInt]
      | some a => simp_all [Builtin.copy_, run_underlying hu, Builtin.lenOf, Builtin.firstCells, sizeOf, typeInfo, hi, goInt]
    | some a2 =>
      simp only at hl
      cases A with
      | none => simp_all [Builtin.copy_, run_underlying hu, Builtin.lenOf, Builtin.firstCells, sizeOf, typeInfo, hi, goInt]
      | some a => simp_all [Builtin.copy_, run_underlying hu, Builtin.lenOf, Builtin.firstCells, sizeOf, typeInfo, hi, goInt]
  refine ⟨w', fun dst ty pos after gg => ?_, ho, hbl⟩
  unfold execOp
  simp only [resolve, invoke, builtin, Sem.run_bind, Sem.run_pure, Result.andThen_ok, List.map_toArray, List.map_cons, List.map_nil, hd, hs, key]
end
end Go.Proofs.YtglndihdhaaccaaDoor

namespace Go.Proofs.YtglndihdhaaccaaDoor
open Go.RowKit
section
variable {P : Program} {ops : Array Oper} {Q : Exit → Act → World → Prop} {rest : List Oper} {n : Fr} {L : List (Nat × Value)} {w : World} {ty : TypeId} {pos : String} {after : Array Edge} {d : Nat} {t : TypeId} {x s : Operand}
theorem ro_lit0 {ρ : Operand → Value} {e size by_ : Nat} {z : Value} (hq : litQ P t = some (e, size, by_, z)) : RO P ρ (.buildSlice t 0 #[]) w (.slice (some ⟨w.heap.size, 0, none⟩) 0 0) (w.alloc (.cells #[] e)) := fun _ _ _ _ _ => by
  obtain ⟨i, hu, hi, hs, _, hz⟩ := lit_of hq
  simp [execOp, Instr.buildSlice, run_underlying hu, sizeOf, typeInfo, hi, zeroValue, hz, Instr.fill, newRow]
  have : (Array.range 0) = #[] := by simp [Array.range]
  rw [this, Array.map_empty]
theorem st_lit0 {e size by_ : Nat} {z : Value} (hq : litQ P t = some (e, size, by_, z)) (base : Nat) (hbs : base ≤ w.heap.size) (k : ∀ g w', From w w' → g = w.heap.size → w'.ownsRow base e size (.slice (some ⟨g, 0, none⟩) 0 0) 0 [] → St P ops Q rest n ((d, .slice (some ⟨g, 0, none⟩) 0 0) :: L) w') :
    St P ops Q (⟨some d, .buildSlice t 0 #[], ty, pos, after, none⟩ :: rest) n L w :=
  st_val (ro_lit0 hq) (k _ _ (From.rfl_.new _) rfl ⟨by simp, .inr ⟨w.heap.size, 0, #[], rfl, hbs, heap_alloc_new w _, Nat.le_refl _, by decide, by simp, by simp⟩⟩)
theorem ro_eqlNilS {ρ : Operand → Value} {e yt : TypeId} {y : Operand} {a : Option Addr} {m c : Nat} (ht : P.underlying t = some (.slice e)) (hx : ρ x = .slice a m c) (hy : ρ y = .slice none 0 0) : RO P ρ (.binOp .eql t x y yt) w (.bool a.isNone) w :=
  ro_bin hx hy (by unfold eqGuard; cases a <;> rfl) (run_eql_slice_nil w t e a m c ht)
end
/-! ### an own row written over -/
section
variable {P : Program} {ops : Array Oper} {Q : Exit → Act → World → Prop} {rest : List Oper} {n : Fr} {L : List (Nat × Value)} {w : World} {ty : TypeId} {pos : String} {after : Array Edge} {t : TypeId} {x y : Operand}
end
section
variable {α : Type} {f : α → List Value} {s : Nat}
end
end Go.Proofs.YtglndihdhaaccaaDoor
namespace Go.Proofs.YtglndihdhaaccaaDoor
open Go.RowKit
theorem own_cap {w : World} {base e s n c m : Nat} {A : Option Addr} {xs : List Value} (h : w.ownsRow base e s (.slice A n c) m xs) : m ≤ c := by
  rcases h.2 with ⟨_, h0⟩ | ⟨g, cap, cur, hv, _, _, h3, _⟩
  · omega
  · simp only [Value.slice.injEq] at hv
    omega
end Go.Proofs.YtglndihdhaaccaaDoor

namespace Go.Proofs.YtglndihdhaaccaaDoor
open Go.RowKit
def depMu (l : List Oper) (K mu i : Nat) : Bool := Nat.blt mu K && match l[mu]? with | some om => dep2 l om i | none => false
theorem depMu_spec {l : List Oper} {K mu i : Nat} (h : depMu l K mu i = true) : mu < K ∧ ∃ om, l[mu]? = some om ∧ dep2 l om i = true := by
  unfold depMu at h
  rw [Bool.and_eq_true] at h
  refine ⟨Nat.le_of_ble_eq_true h.1, ?_⟩
  have h2 := h.2
  split at h2
  · rename_i om hom
    exact ⟨om, hom, h2⟩
  · cases h2
def OpsOK9 (P : Program) (ops : Array Oper) (n : Fr) (L : List (Nat × Value)) (I1 I2 : World → Prop) (R1 R2 : Nat → Value → World → Prop) (l0 : List Oper) (K : Nat) (mu : Nat) : Nat → List Oper → Prop
  | _, [] => True
  | i, o :: r => (Nat.beq i mu = false → match depMu l0 K mu i with
      | true => ∀ w', I1 w' → AllF R1 w' (slotsD l0 K i o) fun M => OpOK P ops n (M ++ L) o w' (R1 (o.dst.getD 0))
      | false => ∀ w', I2 w' → AllF R2 w' (slotsD l0 K i o) fun M => OpOK P ops n (M ++ L) o w' (R1 (o.dst.getD 0))) ∧ OpsOK9 P ops n L I1 I2 R1 R2 l0 K mu (i + 1) r
theorem opsOK9_at {P : Program} {ops : Array Oper} {n : Fr} {L : List (Nat × Value)} {I1 I2 : World → Prop} {R1 R2 : Nat → Value → World → Prop} {l0 : List Oper} {K mu : Nat} : ∀ {l : List Oper} {k : Nat}, OpsOK9 P ops n L I1 I2 R1 R2 l0 K mu k l → ∀ (i : Nat) (o : Oper), l[i]? = some o → k + i ≠ mu →
    match depMu l0 K mu (k + i) with
      | true => ∀ w', I1 w' → AllF R1 w' (slotsD l0 K (k + i) o) fun M => OpOK P ops n (M ++ L) o w' (R1 (o.dst.getD 0))
      | false => ∀ w', I2 w' → AllF R2 w' (slotsD l0 K (k + i) o) fun M => OpOK P ops n (M ++ L) o w' (R1 (o.dst.getD 0))
  | [], _, _, i, o, h, _ => by simp at h
  | x :: r, k, ⟨h1, h2⟩, 0, o, h, hne => by
    simp only [List.getElem?_cons_zero, Option.some.injEq] at h
    subst h
    rw [Nat.add_zero] at hne ⊢
    refine h1 ?_
    rw [← Bool.not_eq_true]
    intro hb
    exact hne (Nat.eq_of_beq_eq_true hb)
  | x :: r, k, ⟨h1, h2⟩, i + 1, o, h, hne => by
    have := opsOK9_at h2 i o (by simpa using h) (by omega)
    rwa [show k + 1 + i = k + (i + 1) by omega] at this
theorem opsOK9_at2 {P : Program} {ops : Array Oper} {n : Fr} {L : List (Nat × Value)} {I1 I2 : World → Prop} {R1 R2 : Nat → Value → World → Prop} {l0 : List Oper} {K mu : Nat} {l : List Oper} (h : OpsOK9 P ops n L I1 I2 R1 R2 l0 K mu 0 l) (i : Nat) (o : Oper) (ho : l[i]? = some o) (hne : i ≠ mu) (hd : depMu l0 K mu i = false)
    (w' : World) (hw : I2 w') : AllF R2 w' (slotsD l0 K i o) fun M => OpOK P ops n (M ++ L) o w' (R1 (o.dst.getD 0)) := by
  have := opsOK9_at h i o ho (by rw [Nat.zero_add]; exact hne)
  rw [Nat.zero_add, hd] at this
  exact this w' hw
theorem opsOK9_at1 {P : Program} {ops : Array Oper} {n : Fr} {L : List (Nat × Value)} {I1 I2 : World → Prop} {R1 R2 : Nat → Value → World → Prop} {l0 : List Oper} {K mu : Nat} {l : List Oper} (h : OpsOK9 P ops n L I1 I2 R1 R2 l0 K mu 0 l) (i : Nat) (o : Oper) (ho : l[i]? = some o) (hne : i ≠ mu) (hd : depMu l0 K mu i = true)
    (w' : World) (hw : I1 w') : AllF R1 w' (slotsD l0 K i o) fun M => OpOK P ops n (M ++ L) o w' (R1 (o.dst.getD 0)) := by
  have := opsOK9_at h i o ho (by rw [Nat.zero_add]; exact hne)
  rw [Nat.zero_add, hd] at this
  exact this w' hw
section late
variable {P : Program} {Q : Exit → Act → World → Prop} {n : Fr} {L : List (Nat × Value)} {w : World} {l : List Oper} {K mu : Nat} {I1 I2 : World → Prop} {R1 R : Nat → Value → World → Prop}
theorem late_fin9 (hQ : PQ Q) (hc : monoD l K = true) (hop : OpsOK9 P l.toArray n L I1 I2 R1 R l K mu 0 (l.take K)) (h12 : ∀ t v w, R1 t v w → R t v w) (hmuL : mu < K → isLateD l K mu = false)
    (hend : ∀ w', I2 w' → AllF R w' (preOf l K) fun M => St P l.toArray Q (l.drop K) n (M ++ L) w') (m : Nat) (listed : Array Bool) (L' : List (Nat × Value)) (w' : World) (hcl : ClosedD l listed) (hcount : listed.toList.count false = m) (hs : listed.size = l.length)
    (htail : ∀ j, K ≤ j → j < l.length → listed.getD j true = false) (hF : I2 w')
    (hfr : ∀ t, (∀ i o, i < K → l[i]? = some o → listed.getD i true = true → o.dst ≠ some t) → look L' t = look L t)
    (hR : ∀ i o d, i < K → l[i]? = some o → listed.getD i true = true → o.dst = some d → R d (look L' d) w') (hpre : ∀ i, i < K → listed.getD i true = false → isLateD l K i = true) : wpAny P .any l.toArray Q m listed (mkA n L') w' := by
  have hc1 := (Bool.and_eq_true_iff.1 hc).1
  have hlate := (Bool.and_eq_true_iff.1 hc).2
  have hKl : K ≤ l.length := of_decide_eq_true (Bool.and_eq_true_iff.1 hc1).1
  have hck := (List.all_eq_true.1 (Bool.and_eq_true_iff.1 hc1).2)
  -- what is known of an operation of the head
  have hhead : ∀ i, i < K → ∃ o d, l[i]? = some o ∧ o.dst = some d ∧ isSelect o.op = false ∧ (∀ j oj, j < K → j ≠ i → l[j]? = some oj → oj.dst ≠ some d) := by
    intro i hi
    have hil : i < l.length := by omega
    have hx := hck i (List.mem_range.2 hil)
    rw [List.getElem?_eq_getElem hil] at hx
    simp only [Bool.and_eq_true] at hx
    have h3 := hx.2
    rw [if_pos hi] at h3
    simp only [Bool.and_eq_true] at h3
    obtain ⟨h3a, h3b⟩ := h3
    cases hod : (l[i]).dst with
    | none => rw [hod] at h3a; cases h3a
    | some d =>
      rw [hod] at h3a
      simp only [Bool.and_eq_true] at h3a
      refine ⟨l[i], d, List.getElem?_eq_getElem hil, hod, by simpa using hx.1.2, fun j oj hj hne hoj e => ?_⟩
      have h5 := List.all_eq_true.1 h3a.1 j (List.mem_range.2 hj)
      rw [hoj] at h5
      simp [hne, e] at h5
  -- the values of those that are still to come
  have hval : ∀ i, i < K → listed.getD i true = false → ∃ v, ∀ o d, l[i]? = some o → o.dst = some d → Yields P l.toArray o v (mkA n L') ∧ R d v w' := by
    intro i hi hf
    have hil8 := hpre i hi hf
    obtain ⟨o, d, ho, hd, hsel, _⟩ := hhead i hi
    obtain ⟨hk, hg, hap⟩ := late_specD hlate hi ho hil8
    have hfact : ∀ t ∈ slotsD l K i o, R t (look L' t) w' := by
      intro t ht
      obtain ⟨ht2, j, oj, hjK, hj, hdj, hji, _⟩ := slotsD_spec hc hi ho ht
      refine hR j oj t hjK hj ?_ hdj
      cases hb : listed.getD j true with
      | true => rfl
      | false =>
        have h6 := hpre j hjK hb
        have h7 := (Oper.apart_spec (hap j oj hj (by omega) (.inl ⟨hjK, h6⟩))).2.2 t hdj
        exact absurd (by simpa using ht2) h7
    have hlooks := looksD (L := L) hc hcl hs ho (by omega) hf hfr
    have hnd : depMu l K mu i = false := by
      rw [← Bool.not_eq_true]
      intro hd
      obtain ⟨hmK, om, hom, hdep⟩ := depMu_spec hd
      have hml : listed.getD mu true = true := by
        cases hb : listed.getD mu true with
        | true => rfl
        | false => exact absurd (hpre mu hmK hb) (by rw [hmuL hmK]; simp)
      have hml2 : listed.getD mu false = true := by rw [← getD_true_false (by omega)]; exact hml
      have := dep_listed hcl (fun e he hb => hcl mu om hom hml2 e he hb) hdep
      rw [← getD_true_false (by omega), hf] at this
      cases this
    have hok := allF_at (look L') _ hfact (opsOK9_at2 hop i o (by rw [List.getElem?_take, if_pos hi]; exact ho) (by intro e; rw [e, hmuL (by omega)] at hil8; cases hil8) hnd w' hF)
    obtain ⟨hE, hW⟩ := looksAt_agree (n := n) (ops := l.toArray) (o := o) hsel hlooks
    rw [hd] at hok
    simp only [Option.getD_some] at hok
    have hyl : ∃ v, Yields P l.toArray o v (mkA n L') ∧ R d v w' := by
      unfold OpOK at hok
      rw [hE, hW] at hok
      rcases hok with ⟨hw, ⟨v, w'', hr, hF', hRv⟩ | ⟨f, args, hr, hcall⟩⟩ | ⟨hw, hRv⟩
      · obtain ⟨rfl, hall⟩ := late_run hk hr
        refine ⟨v, .inl ⟨hw, fun w2 => ?_⟩, h12 _ _ _ hRv⟩
        rw [eval_mkA]
        exact hall w2
      · exfalso
        obtain ⟨dst, op, ty, pos, after, guard⟩ := o
        cases op <;> simp only [lateK, Bool.false_eq_true] at hk <;> simp only [execOp, Sem.run_pure, Sem.run_bind, Result.ok.injEq] at hr
        · cases hr.1
        · cases hr.1
        · rename_i x i'
          cases hx : ev n L' x <;> simp only [hx, Instr.extract] at hr <;> (try (simp at hr; done))
          rename_i vs
          cases hv : vs[i']? <;> simp [hv] at hr
      · exact ⟨undef, .inr ⟨hw, rfl⟩, h12 _ _ _ hRv⟩
    obtain ⟨v, hv1, hv2⟩ := hyl
    refine ⟨v, fun o' d' ho' hd' => ?_⟩
    rw [ho] at ho'
    cases ho'
    rw [hd] at hd'
    cases hd'
    exact ⟨hv1, hv2⟩
  obtain ⟨f, hf⟩ : ∃ f : Nat → Value, ∀ i, i < K → listed.getD i true = false → ∀ o d, l[i]? = some o → o.dst = some d → Yields P l.toArray o (f i) (mkA n L') ∧ R d (f i) w' := by
    refine ⟨fun i => open Classical in if h : ∃ v, ∀ o d, l[i]? = some o → o.dst = some d → Yields P l.toArray o v (mkA n L') ∧ R d v w' then h.choose else undef, fun i hi hl => ?_⟩
    have h := hval i hi hl
    simp only [dif_pos h]
    exact h.choose_spec
  have hUm : ∀ i, i ∈ (List.range K).filter (fun i => !listed.getD i true) ↔ i < K ∧ listed.getD i true = false := fun i => by
    rw [List.mem_filter, List.mem_range]
    simp
  obtain ⟨U, hU, hUn⟩ : ∃ U : List Nat, (∀ i, i ∈ U ↔ i < K ∧ listed.getD i true = false) ∧ U.Nodup := ⟨_, hUm, List.nodup_range.sublist (List.filter_sublist ..)⟩
  have hbind : ∀ {i : Nat} {o : Oper}, l[i]? = some o → (l[i]?).bind (·.dst) = o.dst := fun h => by rw [h]; rfl
  -- the frame with all of them
  have hRall : ∀ d ∈ preOf l K, R d (look ((U.filterMap fun i => ((l[i]?).bind (·.dst)).map fun d => (d, f i)) ++ L') d) w' := by
    intro d hd
    obtain ⟨o, ho, hod⟩ := List.mem_filterMap.1 hd
    obtain ⟨i, hi⟩ := List.mem_iff_getElem?.1 ho
    rw [List.getElem?_take] at hi
    split at hi
    · rename_i hiK
      obtain ⟨o', d', ho', hd', _, hdist⟩ := hhead i hiK
      rw [hi] at ho'
      cases ho'
      rw [hod] at hd'
      cases hd'
      have hne : ∀ j ∈ U, j ≠ i → (l[j]?).bind (·.dst) ≠ some d := fun j hj hji => by
        have hjK := ((hU j).1 hj).1
        obtain ⟨oj, dj, hoj, _⟩ := hhead j hjK
        rw [hbind hoj]
        exact hdist j oj hjK hji hoj
      cases hb : listed.getD i true with
      | true =>
        rw [look_pend U fun j hj => hne j hj (fun e => by subst e; have := ((hU j).1 hj).2; rw [hb] at this; cases this)]
        exact hR i o d hiK hi hb hod
      | false =>
        rw [look_pend_at U ((hU i).2 ⟨hiK, hb⟩) ((hbind hi).trans hod) hne]
        exact (hf i hiK hb o d hi hod).2
    · cases hi
  have he := allF_at _ (preOf l K) hRall (hend w' hF)
  have hL : mkA n ((preOf l K).map (fun d => (d, look ((U.filterMap fun i => ((l[i]?).bind (·.dst)).map fun d => (d, f i)) ++ L') d)) ++ L) = pend l f U (mkA n L') := by
    rw [pend_mkA]
    refine mkA_congr fun t _ => ?_
    rw [look_map]
    split
    · rfl
    · rename_i hne
      have hnd : ∀ i, i < K → ∀ o, l[i]? = some o → o.dst ≠ some t := fun i hi o ho hod => hne (by
        simp only [List.elem_eq_mem, decide_eq_true_eq]
        exact List.mem_filterMap.2 ⟨o, List.mem_iff_getElem?.2 ⟨i, by rw [List.getElem?_take, if_pos hi]; exact ho⟩, hod⟩)
      rw [look_pend U fun j hj => by
        have hjK := ((hU j).1 hj).1
        obtain ⟨oj, dj, hoj, _⟩ := hhead j hjK
        rw [hbind hoj]
        exact hnd j hjK oj hoj]
      exact (hfr t fun i o hi ho _ hod => hnd i hi o ho hod).symm
  replace he := he.out
  rw [hL] at he
  refine tail_lateD hQ hc m K listed U _ w' hcl hcount hs (Nat.le_refl _) hKl (fun j h1 h2 => by rw [htail j h1 h2]; simp [h1]) hUn (fun j hj => ⟨fun h => (hU j).2 ⟨hj, h⟩, fun h => ((hU j).1 h).2⟩) (fun j hj => ?_) he
  obtain ⟨h1, h2⟩ := (hU j).1 hj
  obtain ⟨oj, dj, hoj, hdj, _⟩ := hhead j h1
  exact ⟨h1, hpre j h1 h2, oj, hoj, (hf j h1 h2 oj dj hoj hdj).1⟩
theorem mono_mu9 (hQ : PQ Q) (hc : monoD l K = true) (hm1 : ∀ w1 w2, From w1 w2 → I1 w1 → I1 w2) (hm2 : ∀ w1 w2, From w1 w2 → I2 w1 → I2 w2) (hmono1 : ∀ t v w1 w2, From w1 w2 → R1 t v w1 → R1 t v w2) (hmono : ∀ t v w1 w2, From w1 w2 → R t v w1 → R t v w2)
    (hop : OpsOK9 P l.toArray n L I1 I2 R1 R l K mu 0 (l.take K)) (h12 : ∀ t v w, R1 t v w → R t v w) (hmuL : mu < K → isLateD l K mu = false) (hmu : MuAt P l.toArray n L I1 I2 R1 R l K mu l[mu]?)
    (hend : ∀ w', I2 w' → AllF R w' (preOf l K) fun M => St P l.toArray Q (l.drop K) n (M ++ L) w') :
    ∀ (m : Nat) (listed : Array Bool) (L' : List (Nat × Value)) (w' : World), ClosedD l listed → listed.toList.count false = m → listed.size = l.length → (∀ j, K ≤ j → j < l.length → listed.getD j true = false) → I2 w' → (listed.getD mu true = false → I1 w') →
      (∀ t, (∀ i o, i < K → l[i]? = some o → listed.getD i true = true → o.dst ≠ some t) → look L' t = look L t) →
      (∀ i o d, i < K → l[i]? = some o → listed.getD i true = true → o.dst = some d → R d (look L' d) w') → (listed.getD mu true = false → ∀ i o d, i < K → l[i]? = some o → listed.getD i true = true → o.dst = some d → R1 d (look L' d) w') → wpAny P .any l.toArray Q m listed (mkA n L') w' := by
  have hc1 := (Bool.and_eq_true_iff.1 hc).1
  have hlate := (Bool.and_eq_true_iff.1 hc).2
  have hKl : K ≤ l.length := of_decide_eq_true (Bool.and_eq_true_iff.1 hc1).1
  have hck := (List.all_eq_true.1 (Bool.and_eq_true_iff.1 hc1).2)
  intro m
  induction m with
  | zero =>
    intro listed L' w' hcl hcount hs htail hF hF1 hfr hR hR1
    exact late_fin9 hQ hc hop h12 hmuL hend 0 listed L' w' hcl hcount hs htail hF hfr hR (fun i hi h => by
      have hm : listed[i]'(by omega) ∈ listed.toList := by simp
      have hb : listed[i]'(by omega) = false := by simpa [Array.getD, show i < listed.size by omega] using h
      rw [hb] at hm
      exact absurd hcount (Nat.pos_iff_ne_zero.1 (List.count_pos_iff.2 hm)))
  | succ m ih =>
    intro listed L' w' hcl hcount hs htail hF hF1 hfr hR hR1
    by_cases hpre : ∀ i, i < K → listed.getD i true = false → isLateD l K i = true
    · exact late_fin9 hQ hc hop h12 hmuL hend (m + 1) listed L' w' hcl hcount hs htail hF hfr hR hpre
    · -- some operation of the head is still to come
      have hn0 : ∃ i, i < K ∧ listed.getD i true = false ∧ isLateD l K i = false := by
        refine Classical.byContradiction fun hno => hpre fun i hi hf => ?_
        cases hb : isLateD l K i with
        | true => rfl
        | false => exact absurd ⟨i, hi, hf, hb⟩ hno
      obtain ⟨n0, hn0⟩ := hn0
      obtain ⟨i0, hi0, hmin⟩ := exists_least (p := fun i => i < K ∧ listed.getD i true = false) ⟨n0, hn0.1, hn0.2.1⟩
      have hi0l : i0 < l.length := by omega
      have hready : i0 ∈ Region.ready .any l.toArray listed := by
        refine mem_ready.2 ⟨hi0.2, l[i0], by rw [List.getElem?_toArray, List.getElem?_eq_getElem hi0l], fun e he hb => ?_⟩
        have hx := hck i0 (List.mem_range.2 hi0l)
        rw [List.getElem?_eq_getElem hi0l] at hx
        simp only [Bool.and_eq_true] at hx
        have he2 := List.all_eq_true.1 hx.1.1 e (by simpa using he)
        rw [hb] at he2
        simp at he2
        rw [← getD_true_false (by omega)]
        cases hb2 : listed.getD e.on true with
        | true => rfl
        | false => exact absurd (hmin e.on ⟨by omega, hb2⟩) (by omega)
      refine ⟨fun h0 => (by rw [h0] at hready; cases hready), fun i hi => ?_⟩
      obtain ⟨h0, o, ho, hall⟩ := mem_ready.1 hi
      rw [List.getElem?_toArray] at ho
      have hil : i < l.length := (List.getElem?_eq_some_iff.1 ho).1
      have hx := hck i (List.mem_range.2 hil)
      rw [ho] at hx
      simp only [Bool.and_eq_true] at hx
      have hiK : i < K := by
        rcases Nat.lt_or_ge i K with h | h
        · exact h
        · exfalso
          have h5 := dep_listed hcl hall (nonlate_edgeD hn0.2.2 ho h)
          rw [← getD_true_false (by omega), hn0.2.1] at h5
          cases h5
      have h3 := hx.2
      rw [if_pos hiK] at h3
      simp only [Bool.and_eq_true] at h3
      obtain ⟨h3a, h3b⟩ := h3
      cases hod : o.dst with
      | none => rw [hod] at h3a; cases h3a
      | some d =>
        rw [hod] at h3a
        simp only [Bool.and_eq_true] at h3a
        have hlooks := looksD (L := L) hc hcl hs ho hil h0 hfr
        have hfactG : ∀ (RR : Nat → Value → World → Prop), (∀ i o d, i < K → l[i]? = some o → listed.getD i true = true → o.dst = some d → RR d (look L' d) w') → ∀ t ∈ slotsD l K i o, RR t (look L' t) w' := by
          intro RR hRR t ht
          obtain ⟨_, j, oj, hjK, hj, hd, _, hdep⟩ := slotsD_spec hc hiK ho ht
          have h6 := dep_listed hcl hall hdep
          exact hRR j oj t hjK hj (by rw [getD_true_false (by omega)]; exact h6) hd
        have hsel : isSelect o.op = false := by simpa using hx.1.2
        obtain ⟨hE, hW⟩ := looksAt_agree (n := n) (ops := l.toArray) (o := o) hsel hlooks
        have next : ∀ v w'', I2 w'' → (i ≠ mu → listed.getD mu true = false → I1 w'') → R d v w'' → (i ≠ mu → R1 d v w'') → (∀ t u, t ≠ d → R t u w' → (i = mu → R1 t u w') → R t u w'') → (i ≠ mu → ∀ t u, R1 t u w' → R1 t u w'') → wpAny P .any l.toArray Q m (listed.setIfInBounds i true) ((mkA n L').put (some d) v) w'' := by
          intro v w'' hI2' hI1' hRv hR1v hst hst1
          rw [put_mkA]
          have hne : ∀ j oj d', j < K → l[j]? = some oj → j ≠ i → oj.dst = some d' → d' ≠ d := by
            intro j oj d' hj hoj hji hd e
            have h5 := List.all_eq_true.1 h3a.1 j (List.mem_range.2 hj)
            rw [hoj] at h5
            simp [hji, hd, e] at h5
          refine ih _ _ w'' (closed_set hcl ho hall) ?_ (by simpa using hs) (fun j hj1 hj2 => ?_) hI2' (fun hml => ?_) (fun t ht => ?_) (fun j oj d' hj hoj hlj hd => ?_) (fun hml j oj d' hj hoj hlj hd => ?_)
          · have hil' : i < listed.size := by omega
            have hfalse : listed.toList[i]? = some false := by
              rw [Array.getElem?_toList, Array.getElem?_eq_getElem hil']
              simp [Array.getD, hil'] at h0
              rw [h0]
            rw [Array.toList_setIfInBounds]
            have := count_set_true (l := listed.toList) (i := i) hfalse
            omega
          · rw [getD_set_ne true (by omega)]
            exact htail j hj1 hj2
          · have him : i ≠ mu := fun e => by subst e; simp [show i < listed.size by omega] at hml
            rw [getD_set_ne true him] at hml
            exact hI1' him hml
          · have htd : t ≠ d := fun e => ht i o hiK ho (by simp [show i < listed.size by omega]) (by rw [hod, e])
            rw [look_cons, if_neg htd]
            refine hfr t fun j oj hj hoj hlj => ht j oj hj hoj ?_
            by_cases e : i = j
            · subst e; rw [h0] at hlj; cases hlj
            · rw [getD_set_ne true e]; exact hlj
          · rw [look_cons]
            by_cases e : j = i
            · subst e
              rw [ho] at hoj
              cases hoj
              rw [hod] at hd
              cases hd
              rw [if_pos rfl]
              exact hRv
            · have hdd := hne j oj d' hj hoj e hd
              rw [if_neg hdd]
              rw [getD_set_ne true (Ne.symm e)] at hlj
              refine hst _ _ hdd (hR j oj d' hj hoj hlj hd) (fun e2 => ?_)
              subst e2
              exact hR1 h0 j oj d' hj hoj hlj hd
          · have him : i ≠ mu := fun e => by subst e; simp [show i < listed.size by omega] at hml
            rw [getD_set_ne true him] at hml
            rw [look_cons]
            by_cases e : j = i
            · subst e
              rw [ho] at hoj
              cases hoj
              rw [hod] at hd
              cases hd
              rw [if_pos rfl]
              exact hR1v him
            · rw [if_neg (hne j oj d' hj hoj e hd)]
              rw [getD_set_ne true (Ne.symm e)] at hlj
              exact hst1 him _ _ (hR1 hml j oj d' hj hoj hlj hd)
        unfold wpOp
        rw [List.getElem?_toArray, ho]
        show if Region.wanted o (yielded l.toArray (mkT n.n L')) = true then _ else _
        by_cases him : i = mu
        · subst him
          rw [ho] at hmu
          have hok := allF_at (look L') _ (hfactG R1 (hR1 h0)) (hmu w' (hF1 h0))
          rw [hod] at hok
          simp only [Option.getD_some] at hok
          unfold MuOK at hok
          rw [hE, hW] at hok
          obtain ⟨hw, ⟨v, w'', hr, hI, hRv, hst⟩ | ⟨f, args, hr, hcall⟩⟩ := hok
          · rw [if_pos hw]
            refine .inl ?_
            unfold Oper.wp
            rw [eval_mkA, hr, Oper.upon_value, hod]
            exact next v w'' hI (fun h => absurd rfl h) hRv (fun h => absurd rfl h) (fun t u ht _ h1 => hst t u ht (h1 rfl)) (fun h => absurd rfl h)
          · rw [if_pos hw]
            refine .inl ?_
            unfold Oper.wp
            rw [eval_mkA, hr, Oper.upon_enter, hod]
            refine Calls.mono hcall fun e w'' ⟨v, he, hI, hRv, hst⟩ => ?_
            subst he
            exact next v w'' hI (fun h => absurd rfl h) hRv (fun h => absurd rfl h) (fun t u ht _ h1 => hst t u ht (h1 rfl)) (fun h => absurd rfl h)
        · have hok : OpOK P l.toArray n (((slotsD l K i o).map fun d => (d, look L' d)) ++ L) o w' (R1 (o.dst.getD 0)) := by
            cases hdm : depMu l K mu i with
            | false => exact allF_at (look L') _ (hfactG R hR) (opsOK9_at2 hop i o (by rw [List.getElem?_take, if_pos hiK]; exact ho) him hdm w' hF)
            | true =>
              have hml : listed.getD mu true = false := by
                obtain ⟨hmK, om, hom, hdep⟩ := depMu_spec hdm
                rw [← Bool.not_eq_true]
                intro hml
                have hml2 : listed.getD mu false = true := by rw [← getD_true_false (by omega)]; exact hml
                have := dep_listed hcl (fun e he hb => hcl mu om hom hml2 e he hb) hdep
                rw [← getD_true_false (by omega), h0] at this
                cases this
              exact allF_at (look L') _ (hfactG R1 (hR1 hml)) (opsOK9_at1 hop i o (by rw [List.getElem?_take, if_pos hiK]; exact ho) him hdm w' (hF1 hml))
          rw [hod] at hok
          simp only [Option.getD_some] at hok
          unfold OpOK at hok
          rw [hE, hW] at hok
          have next' : ∀ v w'', From w' w'' → R1 d v w'' → wpAny P .any l.toArray Q m (listed.setIfInBounds i true) ((mkA n L').put (some d) v) w'' := fun v w'' hF' hRv =>
            next v w'' (hm2 _ _ hF' hF) (fun _ h => hm1 _ _ hF' (hF1 h)) (h12 _ _ _ hRv) (fun _ => hRv) (fun t u _ h _ => hmono _ _ _ _ hF' h) (fun _ t u h => hmono1 _ _ _ _ hF' h)
          rcases hok with ⟨hw, ⟨v, w'', hr, hF', hRv⟩ | ⟨f, args, hr, hcall⟩⟩ | ⟨hw, hRv⟩
          · rw [if_pos hw]
            refine .inl ?_
            unfold Oper.wp
            rw [eval_mkA, hr, Oper.upon_value, hod]
            exact next' v w'' hF' hRv
          · rw [if_pos hw]
            refine .inl ?_
            unfold Oper.wp
            rw [eval_mkA, hr, Oper.upon_enter, hod]
            refine Calls.mono hcall fun e w'' ⟨v, he, hF', hRv⟩ => ?_
            subst he
            exact next' v w'' hF' hRv
          · rw [if_neg (by rw [hw]; simp), hod]
            exact next' undef w' From.rfl_ hRv

/-- a region that draws its order, with one change -/
theorem cd_mu9 {id : Nat} (K mu : Nat) (Ex : List Nat) (RL : List (Nat × (Value → World → Prop))) (I1 I2 : World → Prop) (hQ : PQ Q) (hm : P.follows .mixedOrders = true) (hc : monoD l K = true) (hl : isLateD l K mu = false) (hmono : MonoR RL)
    (h0 : I1 { w with drawn := w.drawn + 1 }) (h0' : I2 { w with drawn := w.drawn + 1 }) (hm1 : ∀ w1 w2, From w1 w2 → I1 w1 → I1 w2) (hm2 : ∀ w1 w2, From w1 w2 → I2 w1 → I2 w2)
    (hop : OpsOK9 P l.toArray n L I1 I2 (lookR RL) (lookE Ex RL) l K mu 0 (l.take K)) (hmu : MuAt P l.toArray n L I1 I2 (lookR RL) (lookE Ex RL) l K mu l[mu]?)
    (hend : ∀ w', I2 w' → AllF (lookE Ex RL) w' (preOf l K) fun M => St P l.toArray Q (l.drop K) n (M ++ L) w') : Cd P (.region id l.toArray true) Q n L w := by
  refine ⟨wp_region_any hm ?_⟩
  have hKl : K ≤ l.length := of_decide_eq_true (Bool.and_eq_true_iff.1 (Bool.and_eq_true_iff.1 hc).1).1
  have := mono_mu9 (Q := Q) hQ hc hm1 hm2 (lookR_mono hmono) (lookE_mono hmono) hop lookE_of (fun _ => hl) hmu hend l.length (Array.replicate l.length false) L { w with drawn := w.drawn + 1 } (closed_none l _) (by simp) (by simp)
    (fun j _ hj => by simp [Array.getD, hj]) h0' (fun _ => h0) (fun _ _ => rfl) (fun i o d hi _ hl => by
      have : i < l.length := by omega
      simp [Array.getD, this] at hl) (fun _ i o d hi _ hl => by
      have : i < l.length := by omega
      simp [Array.getD, this] at hl)
  simpa using this
end late
section
variable {P : Program} {ops : Array Oper} {n : Fr} {L : List (Nat × Value)} {w : World} {ty : TypeId} {pos : String} {after : Array Edge} {dst : Option Nat}
/-- an operation that changes memory by itself, as the change of a region -/
theorem mu_ro {op : Op} {v : Value} {w' : World} {post : Value → World → Prop} (hr : RO P (ev n L) op w v w') (h : post v w') : MuOK P ops n L ⟨dst, op, ty, pos, after, none⟩ w post := ⟨rfl, .inl ⟨v, w', hr _ _ _ _ _, h⟩⟩
end
end Go.Proofs.YtglndihdhaaccaaDoor

namespace Go.Proofs.YtglndihdhaaccaaDoor
open Go.RowKit

abbrev cmdV (k c s : Int) (i t : ByteArray) : Value := .agg #[.int .i64 k, .int .i64 c, .int .i64 s, .string i, .string t]
abbrev cmdL (k c s : Int) (i t : ByteArray) : List Value := [.int .i64 k, .int .i64 c, .int .i64 s, .string i, .string t]
theorem toList_inj {a b : ByteArray} : a.toList = b.toList ↔ a = b := by
  refine ⟨fun hh => ?_, fun h => by rw [h]⟩
  rw [ByteArray.toList_eq, ByteArray.toList_eq] at hh
  obtain ⟨⟨x⟩⟩ := a
  obtain ⟨⟨y⟩⟩ := b
  simp_all
section
variable {ρ : Operand → Value} {w : World} {yt : TypeId} {x y : Operand}
theorem ro_convStr {v : Value} {l : List Nat} (hl : ∀ b ∈ l, b < 256) (hx : ρ x = v) (hr : RowC w v (bytesV l)) : RO Tryd.prog ρ (.convert 23 9 x) w (.string (strOf l)) w := fun _ _ _ _ _ => by
  subst hx
  have h := conv_str (src := 23) (dst := 9) (e := 5) (by kernel_rfl) (by kernel_rfl) (by kernel_rfl) hl hr
  simp [execOp, h]
end
/-! ### which commands may be -/
def OkC (k c s : Int) (i t : ByteArray) : Prop := (k = 1 ∧ c = 0 ∧ s = 0 ∧ i.size = 0 ∧ t.size = 0) ∨ (k ≠ 1 ∧ (1 ≤ c ∧ c < 1099511627776) ∧ (1 ≤ s ∧ s < 1099511627776) ∧ i.size + t.size ≤ 2048 ∧ (k = 2 ∨ (k = 3 ∧ t.size = 0) ∨ (k = 4 ∧ i.size = 0 ∧ t.size = 0)))
instance (k c s : Int) (i t : ByteArray) : Decidable (OkC k c s i t) := by unfold OkC; exact inferInstance
end Go.Proofs.YtglndihdhaaccaaDoor

namespace Go.Proofs.YtglndihdhaaccaaDoor
open Go.RowKit

def edgesB (l : List Oper) : Bool := (List.range l.length).all fun i => match l[i]? with
  | none => false
  | some o => o.guard.isNone && o.after.toList.all fun e => !Region.binds .any e || decide (e.on < i)
def setB (S : Nat → Bool) (i : Nat) : Nat → Bool := fun j => if j = i then true else S j
/-- one operation runs, and the invariant holds behind it -/
def StepI (P : Program) (n : Fr) (o : Oper) (Inv : List (Nat × Value) → World → Prop) (L' : List (Nat × Value)) (w' : World) : Prop :=
  (∃ d v w'', o.dst = some d ∧ (execOp (ev n L') o).run P w' = .ok (.value v) w'' ∧ Inv ((d, v) :: L') w'') ∨
  (∃ w'', o.dst = none ∧ (execOp (ev n L') o).run P w' = .ok .skip w'' ∧ Inv L' w'') ∨
  (∃ d f args, o.dst = some d ∧ (execOp (ev n L') o).run P w' = .ok (.enter f (List.toArray args)) w' ∧ Rt P f args w' fun v w'' => Inv ((d, v) :: L') w'')
section
variable {P : Program} {Q : Exit → Act → World → Prop} {n : Fr} {L : List (Nat × Value)} {w : World} {l : List Oper}
theorem inv_any {Inv : (Nat → Bool) → List (Nat × Value) → World → Prop} (hwf : edgesB l = true)
    (hstep : ∀ (i : Nat) (o : Oper) (S : Nat → Bool) (L' : List (Nat × Value)) (w' : World), l[i]? = some o → Inv S L' w' → S i = false → (∀ e ∈ o.after, Region.binds .any e = true → S e.on = true) → StepI P n o (Inv (setB S i)) L' w')
    (hend : ∀ L' w', Inv (fun i => decide (i < l.length)) L' w' → Q .normal (mkA n L') w') :
    ∀ (m : Nat) (listed : Array Bool) (L' : List (Nat × Value)) (w' : World), listed.toList.count false = m → listed.size = l.length → Inv (fun i => listed.getD i false) L' w' → wpAny P .any l.toArray Q m listed (mkA n L') w' := by
  have hck := List.all_eq_true.1 hwf
  intro m
  induction m with
  | zero =>
    intro listed L' w' hcount hs hI
    have hall : ∀ i, i < l.length → listed.getD i false = true := fun i hi => by
      have hm : listed[i]'(by omega) ∈ listed.toList := by simp
      cases hb : listed[i]'(by omega) with
      | true => simp [Array.getD, show i < listed.size by omega, hb]
      | false => rw [hb] at hm; exact absurd hcount (Nat.pos_iff_ne_zero.1 (List.count_pos_iff.2 hm))
    have e : (fun i => listed.getD i false) = fun i => decide (i < l.length) := by
      funext i
      by_cases hi : i < l.length
      · rw [hall i hi, decide_eq_true hi]
      · rw [decide_eq_false hi]
        simp [Array.getD, show ¬ i < listed.size by omega]
    rw [e] at hI
    refine ⟨?_, hend L' w' hI⟩
    cases hr : Region.ready .any l.toArray listed with
    | nil => rfl
    | cons i r =>
      exfalso
      obtain ⟨h0, o, ho, _⟩ := mem_ready.1 (show i ∈ Region.ready .any l.toArray listed by rw [hr]; simp)
      rw [List.getElem?_toArray] at ho
      have hil : i < l.length := (List.getElem?_eq_some_iff.1 ho).1
      have := hall i hil
      rw [← getD_true_false (by omega), h0] at this
      cases this
  | succ m ih =>
    intro listed L' w' hcount hs hI
    have hn0 : ∃ i, i < l.length ∧ listed.getD i true = false := by
      have hpos : 0 < listed.toList.count false := by omega
      obtain ⟨i, hi, hb⟩ := List.getElem_of_mem (List.count_pos_iff.1 hpos)
      rw [Array.length_toList] at hi
      refine ⟨i, by omega, ?_⟩
      rw [Array.getElem_toList] at hb
      simp [Array.getD, hi, hb]
    obtain ⟨i0, hi0, hmin⟩ := exists_least (p := fun i => i < l.length ∧ listed.getD i true = false) hn0
    have hready : i0 ∈ Region.ready .any l.toArray listed := by
      refine mem_ready.2 ⟨hi0.2, l[i0]'hi0.1, by rw [List.getElem?_toArray, List.getElem?_eq_getElem hi0.1], fun e he hb => ?_⟩
      have hx := hck i0 (List.mem_range.2 hi0.1)
      rw [List.getElem?_eq_getElem hi0.1] at hx
      simp only [Bool.and_eq_true] at hx
      have he2 := List.all_eq_true.1 hx.2 e (by simpa using he)
      rw [hb] at he2
      simp at he2
      have := hi0.1
      rw [← getD_true_false (by omega)]
      cases hb2 : listed.getD e.on true with
      | true => rfl
      | false => exact absurd (hmin e.on ⟨by omega, hb2⟩) (by omega)
    refine ⟨fun h0 => (by rw [h0] at hready; cases hready), fun i hi => ?_⟩
    obtain ⟨h0, o, ho, hall⟩ := mem_ready.1 hi
    rw [List.getElem?_toArray] at ho
    have hil : i < l.length := (List.getElem?_eq_some_iff.1 ho).1
    have hx := hck i (List.mem_range.2 hil)
    rw [ho] at hx
    simp only [Bool.and_eq_true] at hx
    have hg : o.guard = none := by simpa using hx.1
    have h0f : listed.getD i false = false := by rw [← getD_true_false (by omega)]; exact h0
    have hset : (fun j => (listed.setIfInBounds i true).getD j false) = setB (fun j => listed.getD j false) i := by
      funext j
      unfold setB
      by_cases e : j = i
      · subst e
        simp [Array.getD, show j < listed.size by omega]
      · rw [if_neg e, getD_set_ne false (Ne.symm e)]
    have hcnt : (listed.setIfInBounds i true).toList.count false = m := by
      have hil' : i < listed.size := by omega
      have hfalse : listed.toList[i]? = some false := by
        rw [Array.getElem?_toList, Array.getElem?_eq_getElem hil']
        simp [Array.getD, hil'] at h0
        rw [h0]
      rw [Array.toList_setIfInBounds]
      have := count_set_true (l := listed.toList) (i := i) hfalse
      omega
    have next : ∀ L2 w2, Inv (setB (fun j => listed.getD j false) i) L2 w2 → wpAny P .any l.toArray Q m (listed.setIfInBounds i true) (mkA n L2) w2 := fun L2 w2 h =>
      ih _ L2 w2 hcnt (by simpa using hs) (by rw [hset]; exact h)
    unfold wpOp
    rw [List.getElem?_toArray, ho]
    show if Region.wanted o (yielded l.toArray (mkT n.n L')) = true then _ else _
    rw [if_pos (by unfold Region.wanted; rw [hg])]
    refine .inl ?_
    unfold Oper.wp
    rw [eval_mkA]
    rcases hstep i o _ L' w' ho hI h0f hall with ⟨d, v, w'', hd, hr, hI2⟩ | ⟨w'', hd, hr, hI2⟩ | ⟨d, f, args, hd, hr, hc⟩
    · rw [hr, Oper.upon_value, hd, put_mkA]
      exact next _ _ hI2
    · rw [hr, Oper.upon_skip, hd]
      exact next _ _ hI2
    · rw [hr, Oper.upon_enter, hd]
      refine Calls.mono hc fun e w'' ⟨v, he, hI2⟩ => ?_
      subst he
      show wpAny P .any l.toArray Q m (listed.setIfInBounds i true) ((mkA n L').put (some d) v) w''
      rw [put_mkA]
      exact next _ _ hI2
/-- a region that draws its order, by an invariant -/
theorem cd_inv {id : Nat} (Inv : (Nat → Bool) → List (Nat × Value) → World → Prop) (hm : P.follows .mixedOrders = true) (hwf : edgesB l = true) (h0 : Inv (fun _ => false) L { w with drawn := w.drawn + 1 })
    (hstep : ∀ (i : Nat) (o : Oper) (S : Nat → Bool) (L' : List (Nat × Value)) (w' : World), l[i]? = some o → Inv S L' w' → S i = false → (∀ e ∈ o.after, Region.binds .any e = true → S e.on = true) → StepI P n o (Inv (setB S i)) L' w')
    (hend : ∀ L' w', Inv (fun i => decide (i < l.length)) L' w' → Q .normal (mkA n L') w') : Cd P (.region id l.toArray true) Q n L w := by
  refine ⟨wp_region_any hm ?_⟩
  have := inv_any (Q := Q) hwf hstep hend l.length (Array.replicate l.length false) L { w with drawn := w.drawn + 1 } (by simp) (by simp) (by
    have e : (fun i => (Array.replicate l.length false).getD i false) = fun _ => false := by
      funext i
      by_cases hi : i < l.length <;> simp [Array.getD, hi]
    rw [e]
    exact h0)
  simpa using this
/-! ### the values of the slots, by a table: (operation, slot, value) -/
def InvL (L : List (Nat × Value)) (T : List (Nat × Nat × Value)) (S : Nat → Bool) (L' : List (Nat × Value)) : Prop :=
  (∀ t, (∀ p ∈ T, p.2.1 ≠ t) → look L' t = look L t) ∧ (∀ p ∈ T, S p.1 = true → look L' p.2.1 = p.2.2) ∧ ∀ p ∈ T, S p.1 = false → look L' p.2.1 = look L p.2.1
def UniT : List (Nat × Nat × Value) → Prop
  | [] => True
  | p :: r => (∀ q ∈ r, q.1 ≠ p.1 ∧ q.2.1 ≠ p.2.1) ∧ UniT r
def EdgesOn (S : Nat → Bool) : List Edge → Prop
  | [] => True
  | e :: r => (bif Region.binds .any e then S e.on = true else True) ∧ EdgesOn S r
theorem edges_on {S : Nat → Bool} : ∀ {es : List Edge}, (∀ e ∈ es, Region.binds .any e = true → S e.on = true) → EdgesOn S es
  | [], _ => trivial
  | e :: r, h => by
    refine ⟨?_, edges_on fun e' he => h e' (.tail _ he)⟩
    cases hb : Region.binds .any e with
    | true => exact h e (.head _) hb
    | false => trivial
def StepsT (P : Program) (n : Fr) (L : List (Nat × Value)) (T : List (Nat × Nat × Value)) (Mem : (Nat → Bool) → World → Prop) : Nat → List Oper → Prop
  | _, [] => True
  | i, o :: r => (∀ S L' w', InvL L T S L' → Mem S w' → S i = false → EdgesOn S o.after.toList → StepI P n o (fun L2 w2 => InvL L T (setB S i) L2 ∧ Mem (setB S i) w2) L' w') ∧ StepsT P n L T Mem (i + 1) r
end
end Go.Proofs.YtglndihdhaaccaaDoor

namespace Go.Proofs.YtglndihdhaaccaaDoor
open Go.RowKit

/-- a row of the call's own, from an offset on, of one cell an element -/
def OwnO (w : World) (base : Nat) (e : TypeId) (A : Option Addr) (n c : Nat) (xs : List Value) : Prop :=
  xs.length = n ∧ n ≤ c ∧ c ≤ maxLen ∧ ∃ g off cs, A = some ⟨g, off, none⟩ ∧ base ≤ g ∧ Blk w g e cs ∧ off + c ≤ cs.size ∧ (cs.toList.drop off).take n = xs
/-! ### a drawn region by an invariant, operation by operation -/
section
variable {P : Program} {Q : Exit → Act → World → Prop} {n : Fr} {L : List (Nat × Value)} {w : World} {l : List Oper}
def StepsI (P : Program) (n : Fr) (Inv : (Nat → Bool) → List (Nat × Value) → World → Prop) : Nat → List Oper → Prop
  | _, [] => True
  | i, o :: r => (∀ S L' w', Inv S L' w' → S i = false → EdgesOn S o.after.toList → StepI P n o (Inv (setB S i)) L' w') ∧ StepsI P n Inv (i + 1) r
end
section
variable {P : Program} {ρ : Operand → Value} {w : World} {t : TypeId} {x : Operand} {e g off c n : Nat}
theorem ro_takeN {m : Nat} {y : Operand} {k : IntKind} (ht : elemQ P t = some (e, 1)) (hx : ρ x = .slice (some ⟨g, off, none⟩) n c) (hy : ρ y = .int k (m : Nat)) (hm : m ≤ c) : RO P ρ (.slice t x none (some y) none) w (.slice (some ⟨g, off, none⟩) m c) w := by
  have := ro_slice (P := P) (ρ := ρ) (w := w) (l := 0) (h := m) ht (lo := none) (hi := some y) hx (.inl ⟨rfl, rfl⟩) (.inr ⟨y, k, rfl, hy⟩) (Nat.zero_le _) hm
  simpa using this
theorem ro_dropN {m : Nat} {y : Operand} {k : IntKind} (ht : elemQ P t = some (e, 1)) (hx : ρ x = .slice (some ⟨g, off, none⟩) n c) (hy : ρ y = .int k (m : Nat)) (hm : m ≤ n) (hn : n ≤ c) : RO P ρ (.slice t x (some y) none none) w (.slice (some ⟨g, if c = m then off else off + m, none⟩) (n - m) (c - m)) w := by
  have := ro_slice (P := P) (ρ := ρ) (w := w) (l := m) (h := n) ht (lo := some y) (hi := none) hx (.inr ⟨y, k, rfl, hy⟩) (.inl ⟨rfl, rfl⟩) hm hn
  simpa using this
end
/-- append, and where the row lies behind it -/
theorem ro_appendL {P : Program} {ρ : Operand → Value} {w : World} {s x : Operand} {t base : Nat} {A A2 : Option Addr} {m j cap c2 e size by_ : Nat} {z : Value} {xs news : List Value} (hq : litQ P t = some (e, size, by_, z)) (hzs : z.cells.size = size) (hs0 : 0 < size)
    (hs : ρ s = .slice A m cap) (hown : w.ownsRow base e size (.slice A m cap) m xs) (hB : base ≤ w.heap.size)
    (hx : ρ x = .slice A2 j c2) (hl : news.length = j * size) (hsrc : ∃ b o, A2 = some ⟨b, o, none⟩ ∧ w.rangeAt b o news) (h1 : ∀ u ∈ news, u.oneCell' = true) (h63 : m + j ≤ 9223372036854775807) (hby : (m + j) * by_ ≤ 140737488355328) :
    ∃ A' cap' w', RO P ρ (.call { callee := .builtin .append, args := #[s, x], argTypes := #[t, t] }) w (.slice A' (m + j) cap') w' ∧ w'.ownsRow base e size (.slice A' (m + j) cap') (m + j) (xs ++ news) ∧ w.grownBy w' (A.map (·.block)) ∧ (A'.map (·.block) = A.map (·.block) ∨ A'.map (·.block) = some w.heap.size) := by
  obtain ⟨i, hu, hi, hsz, hb, hz⟩ := lit_of hq
  obtain ⟨b, o, rfl, hr⟩ := hsrc
  have hobl : ∀ (A : Option Addr) (m c : Nat), (Value.slice A m c).ownBlock = A.map (·.block) := fun A m c => by cases A <;> rfl
  obtain ⟨v', w', hrun, hown', hg, _, h5⟩ := run_append_own_at (P := P) w base t 0 e i z size by_ hu hi hz hsz hb hzs hs0 _ m xs hown ⟨b, o, none⟩ j c2 news hl (fun i u hu => by rw [Addr.add_mid]; exact hr i u hu) h1 (by unfold maxLen; omega) hby hB
  obtain ⟨A', cap', rfl⟩ := own_form hown'
  rw [hobl, hobl] at h5
  refine ⟨A', cap', w', fun dst ty pos after g => ?_, hown', by rw [← hobl A m cap]; exact hg, h5⟩
  have hty : (Builtin.append_ #[t, t] ty #[.slice A m cap, .slice (some ⟨b, o, none⟩) j c2]).run P w = (Builtin.append_ #[t, t] 0 #[.slice A m cap, .slice (some ⟨b, o, none⟩) j c2]).run P w := rfl
  unfold execOp
  simp only [resolve, invoke, builtin, Sem.run_bind, Sem.run_pure, Result.andThen_ok, List.map_toArray, List.map_cons, List.map_nil, hs, hx, hty, hrun]
end Go.Proofs.YtglndihdhaaccaaDoor

namespace Go.Proofs.YtglndihdhaaccaaDoor
open Go.RowKit

abbrev PT := List (Nat × Nat × ((Nat → Bool) → Value → World → Prop))
def InvP (L : List (Nat × Value)) (T : PT) (S : Nat → Bool) (L' : List (Nat × Value)) (w : World) : Prop :=
  (∀ t, (∀ p ∈ T, p.2.1 ≠ t) → look L' t = look L t) ∧ (∀ p ∈ T, S p.1 = true → p.2.2 S (look L' p.2.1) w) ∧ ∀ p ∈ T, S p.1 = false → look L' p.2.1 = look L p.2.1
def UniP : List (Nat × Nat) → Prop
  | [] => True
  | p :: r => (∀ q ∈ r, q.1 ≠ p.1 ∧ q.2 ≠ p.2) ∧ UniP r
def uniB : List (Nat × Nat) → Bool
  | [] => true
  | p :: r => (r.all fun q => !(Nat.beq q.1 p.1) && !(Nat.beq q.2 p.2)) && uniB r
theorem nbeq_f {a b : Nat} : Nat.beq a b = false ↔ a ≠ b := by
  refine ⟨fun h e => ?_, fun h => ?_⟩
  · subst e
    rw [Nat.beq_refl] at h
    cases h
  · rcases hb : Nat.beq a b with _ | _
    · rfl
    · exact absurd (Nat.eq_of_beq_eq_true hb) h
theorem uniP_of : ∀ {l : List (Nat × Nat)}, uniB l = true → UniP l
  | [], _ => trivial
  | p :: r, h => by
    simp only [uniB, Bool.and_eq_true, List.all_eq_true, Bool.not_eq_true', nbeq_f] at h
    exact ⟨fun q hq => h.1 q hq, uniP_of h.2⟩
theorem uniP_eq : ∀ {T : PT}, UniP (T.map fun p => (p.1, p.2.1)) → ∀ {p q : Nat × Nat × ((Nat → Bool) → Value → World → Prop)}, p ∈ T → q ∈ T → p.1 = q.1 ∨ p.2.1 = q.2.1 → p = q
  | _ :: _, ⟨h1, h2⟩, p, q, hp, hq, he => by
    rcases List.mem_cons.1 hp with rfl | hp' <;> rcases List.mem_cons.1 hq with rfl | hq'
    · rfl
    · rcases he with e | e
      · exact absurd e.symm (h1 _ (List.mem_map_of_mem (f := fun p => (p.1, p.2.1)) hq')).1
      · exact absurd e.symm (h1 _ (List.mem_map_of_mem (f := fun p => (p.1, p.2.1)) hq')).2
    · rcases he with e | e
      · exact absurd e (h1 _ (List.mem_map_of_mem (f := fun p => (p.1, p.2.1)) hp')).1
      · exact absurd e (h1 _ (List.mem_map_of_mem (f := fun p => (p.1, p.2.1)) hp')).2
    · exact uniP_eq h2 hp' hq' he
theorem InvP.get {L : List (Nat × Value)} {T : PT} {S : Nat → Bool} {L' : List (Nat × Value)} {w : World} {i d : Nat} {R : (Nat → Bool) → Value → World → Prop} (h : InvP L T S L' w) (hp : (i, d, R) ∈ T) (hs : S i = true) : ∃ v, look L' d = v ∧ R S v w := ⟨_, rfl, h.2.1 _ hp hs⟩
theorem InvP.old {L : List (Nat × Value)} {T : PT} {S : Nat → Bool} {L' : List (Nat × Value)} {w : World} {i d : Nat} {R : (Nat → Bool) → Value → World → Prop} (h : InvP L T S L' w) (hp : (i, d, R) ∈ T) (hs : S i = false) : look L' d = look L d := h.2.2 _ hp hs
theorem setF {S : Nat → Bool} {i k : Nat} (h : setB S i k = false) : S k = false := by
  unfold setB at h
  split at h
  · cases h
  · exact h
theorem setT {S : Nat → Bool} {i k : Nat} (hk : k ≠ i) (h : setB S i k = true) : S k = true := by
  unfold setB at h
  rwa [if_neg hk] at h
theorem setS (S : Nat → Bool) (i : Nat) : setB S i i = true := by unfold setB; rw [if_pos rfl]
/-- what is said of the slots stays, by an operation that only adds -/
def MonoP (Mu : List Nat) : PT → Prop
  | [] => True
  | p :: r => (∀ S i v w1 w2, Mu.elem i = false → From w1 w2 → p.2.2 S v w1 → p.2.2 (setB S i) v w2) ∧ MonoP Mu r
/-- what is said of the other slots stays, by this change -/
def ChP (i : Nat) (S : Nat → Bool) (w1 w2 : World) : PT → Prop
  | [] => True
  | p :: r => (Nat.beq p.1 i = false → S p.1 = true → ∀ v, p.2.2 S v w1 → p.2.2 (setB S i) v w2) ∧ ChP i S w1 w2 r
theorem monoP_at {Mu : List Nat} : ∀ {T : PT}, MonoP Mu T → ∀ p ∈ T, ∀ S i v w1 w2, Mu.elem i = false → From w1 w2 → p.2.2 S v w1 → p.2.2 (setB S i) v w2
  | _ :: _, ⟨h1, h2⟩, p, hp => by
    rcases List.mem_cons.1 hp with rfl | hp
    · exact h1
    · exact monoP_at h2 p hp
theorem chP_at {i : Nat} {S : Nat → Bool} {w1 w2 : World} : ∀ {T : PT}, ChP i S w1 w2 T → ∀ p ∈ T, p.1 ≠ i → S p.1 = true → ∀ v, p.2.2 S v w1 → p.2.2 (setB S i) v w2
  | _ :: _, ⟨h1, h2⟩, p, hp => by
    rcases List.mem_cons.1 hp with rfl | hp
    · exact fun hne => h1 (by rw [nbeq_f]; exact hne)
    · exact chP_at h2 p hp
theorem InvP.next {L : List (Nat × Value)} {T : PT} {S : Nat → Bool} {L' : List (Nat × Value)} {w w' : World} {i d : Nat} {v : Value} {R : (Nat → Bool) → Value → World → Prop} (h : InvP L T S L' w) (hU : UniP (T.map fun p => (p.1, p.2.1))) (hp : (i, d, R) ∈ T) (hR : R (setB S i) v w')
    (hst : ∀ p ∈ T, p.1 ≠ i → S p.1 = true → ∀ v, p.2.2 S v w → p.2.2 (setB S i) v w') : InvP L T (setB S i) ((d, v) :: L') w' := by
  refine ⟨fun t ht => ?_, fun p hq hs => ?_, fun p hq hs => ?_⟩
  · rw [look_cons, if_neg (fun e => ht _ hp e.symm)]
    exact h.1 t ht
  · rw [look_cons]
    by_cases e : p.2.1 = d
    · rw [if_pos e, uniP_eq hU hq hp (.inr e)]
      exact hR
    · rw [if_neg e]
      have e2 : p.1 ≠ i := fun e2 => e (congrArg (·.2.1) (uniP_eq hU hq hp (.inl e2)))
      have hs' := setT e2 hs
      exact hst p hq e2 hs' _ (h.2.1 p hq hs')
  · have hs' := setF hs
    have e2 : p.1 ≠ i := fun e2 => by rw [e2, setS] at hs; cases hs
    rw [look_cons, if_neg (fun e => e2 (congrArg (·.1) (uniP_eq hU hq hp (.inr e))))]
    exact h.2.2 p hq hs'
/-- the slots that an operation looks at, with their values -/
def AgrM (L' : List (Nat × Value)) : List (Nat × Value) → Prop
  | [] => True
  | (t, v) :: r => look L' t = v ∧ AgrM L' r
theorem agrM_look {L' : List (Nat × Value)} : ∀ {M : List (Nat × Value)}, AgrM L' M → ∀ t, (M.map Prod.fst).elem t = true → look M t = look L' t
  | (k, v) :: r, ⟨h1, h2⟩, t, ht => by
    rw [look_cons]
    by_cases e : t = k
    · rw [if_pos e, e, h1]
    · rw [if_neg e]
      refine agrM_look h2 t ?_
      simpa [e] using ht
section
variable {P : Program} {Q : Exit → Act → World → Prop} {n : Fr} {L L' M : List (Nat × Value)} {w w' w'' : World} {l : List Oper} {T : PT} {Mem : (Nat → Bool) → World → Prop} {Mu : List Nat} {S : Nat → Bool} {op : Op} {ty : TypeId} {pos : String} {after : Array Edge} {i d : Nat} {v : Value} {R : (Nat → Bool) → Value → World → Prop}
theorem exec_agr {dst : Option Nat} (hs : isSelect op = false) (hk : (((⟨dst, op, ty, pos, after, none⟩ : Oper).looksAt #[]).all fun t => (M.map Prod.fst).elem t) = true) (hag : AgrM L' M) : execOp (ev n L') ⟨dst, op, ty, pos, after, none⟩ = execOp (ev n M) ⟨dst, op, ty, pos, after, none⟩ := by
  have h : ∀ t, ((⟨dst, op, ty, pos, after, none⟩ : Oper).looksAt #[]).elem t = true → look M t = look L' t := fun t ht =>
    agrM_look hag t (List.all_eq_true.1 hk t (List.elem_iff.1 ht))
  exact (looksAt_agree (n := n) (ops := #[]) (o := ⟨dst, op, ty, pos, after, none⟩) hs h).1.symm
abbrev StepJ (P : Program) (n : Fr) (L : List (Nat × Value)) (T : PT) (Mem : (Nat → Bool) → World → Prop) (S : Nat → Bool) (i : Nat) (o : Oper) (L' : List (Nat × Value)) (w' : World) : Prop := StepI P n o (fun L2 w2 => InvP L T (setB S i) L2 w2 ∧ Mem (setB S i) w2) L' w'
theorem quietP (hmo : MonoP Mu T) (hq : Mu.elem i = false) (hF : From w' w'') : ∀ p ∈ T, p.1 ≠ i → S p.1 = true → ∀ v, p.2.2 S v w' → p.2.2 (setB S i) v w'' := fun p hp _ _ v h => monoP_at hmo p hp S i v w' w'' hq hF h
theorem stepQ_ro (M : List (Nat × Value)) (hU : UniP (T.map fun p => (p.1, p.2.1))) (hmo : MonoP Mu T) (hme : ∀ S i w1 w2, Mu.elem i = false → From w1 w2 → Mem S w1 → Mem (setB S i) w2) (hI : InvP L T S L' w') (hM : Mem S w') (hp : (i, d, R) ∈ T) (hq : Mu.elem i = false)
    (hs : isSelect op = false) (hk : (((⟨some d, op, ty, pos, after, none⟩ : Oper).looksAt #[]).all fun t => (M.map Prod.fst).elem t) = true) (hag : AgrM L' M) (hr : RO P (ev n M) op w' v w'') (hF : From w' w'') (hR : R (setB S i) v w'') : StepJ P n L T Mem S i ⟨some d, op, ty, pos, after, none⟩ L' w' :=
  .inl ⟨d, v, w'', rfl, by rw [exec_agr hs hk hag]; exact hr _ _ _ _ _, hI.next hU hp hR (quietP hmo hq hF), hme S i _ _ hq hF hM⟩
theorem stepM_ro (M : List (Nat × Value)) (hU : UniP (T.map fun p => (p.1, p.2.1))) (hI : InvP L T S L' w') (hp : (i, d, R) ∈ T)
    (hs : isSelect op = false) (hk : (((⟨some d, op, ty, pos, after, none⟩ : Oper).looksAt #[]).all fun t => (M.map Prod.fst).elem t) = true) (hag : AgrM L' M) (hr : RO P (ev n M) op w' v w'') (hM : Mem (setB S i) w'') (hR : R (setB S i) v w'') (hC : ChP i S w' w'' T) : StepJ P n L T Mem S i ⟨some d, op, ty, pos, after, none⟩ L' w' :=
  .inl ⟨d, v, w'', rfl, by rw [exec_agr hs hk hag]; exact hr _ _ _ _ _, hI.next hU hp hR (chP_at hC), hM⟩
/-- for whatever values of the slots that fit -/
def AllP (S : Nat → Bool) (w : World) : PT → (List (Nat × Value) → Prop) → Prop
  | [], K => K []
  | p :: r, K => ∀ v, p.2.2 S v w → AllP S w r fun M => K ((p.2.1, v) :: M)
theorem allP_nil {S : Nat → Bool} {w : World} {K : List (Nat × Value) → Prop} (h : K []) : AllP S w [] K := h
theorem allP_at {S : Nat → Bool} {w : World} (ρ : Nat → Value) : ∀ (l : PT) {K : List (Nat × Value) → Prop}, (∀ p ∈ l, p.2.2 S (ρ p.2.1) w) → AllP S w l K → K (l.map fun p => (p.2.1, ρ p.2.1))
  | [], _, _, h => h
  | p :: r, _, hr, h => allP_at ρ r (fun e he => hr e (List.mem_cons_of_mem _ he)) (h (ρ p.2.1) (hr p (List.mem_cons_self ..)))
theorem look_mapP (ρ : Nat → Value) (T : PT) (L : List (Nat × Value)) (t : Nat) : ((∃ p ∈ T, p.2.1 = t) ∧ look (T.map (fun p => (p.2.1, ρ p.2.1)) ++ L) t = ρ t) ∨ ((∀ p ∈ T, p.2.1 ≠ t) ∧ look (T.map (fun p => (p.2.1, ρ p.2.1)) ++ L) t = look L t) := by
  induction T with
  | nil => exact .inr ⟨fun p hp => by simp at hp, rfl⟩
  | cons q r ih =>
    rw [List.map_cons, List.cons_append, look_cons]
    by_cases e : t = q.2.1
    · rw [if_pos e, ← e]
      exact .inl ⟨⟨q, .head _, e.symm⟩, rfl⟩
    · rw [if_neg e]
      rcases ih with ⟨⟨p, hp, h1⟩, h2⟩ | ⟨h1, h2⟩
      · exact .inl ⟨⟨p, .tail _ hp, h1⟩, h2⟩
      · refine .inr ⟨fun p hp => ?_, h2⟩
        rcases List.mem_cons.1 hp with rfl | hp2
        · exact fun e2 => e e2.symm
        · exact h1 p hp2
theorem outP {T : PT} {t : Nat} (h : (T.map fun p => p.2.1).elem t = false) : ∀ p ∈ T, p.2.1 ≠ t := fun p hp e => by
  have : t ∈ T.map fun p => p.2.1 := List.mem_map.2 ⟨p, hp, e⟩
  rw [List.elem_eq_mem, decide_eq_false_iff_not] at h
  exact h this
theorem StepI.mono {o : Oper} {I1 I2 : List (Nat × Value) → World → Prop} (hi : ∀ L2 w2, I1 L2 w2 → I2 L2 w2) (h : StepI P n o I1 L' w') : StepI P n o I2 L' w' := by
  rcases h with ⟨d, v, w2, h1, h2, h3⟩ | ⟨w2, h1, h2, h3⟩ | ⟨d, f, args, h1, h2, h3⟩
  · exact .inl ⟨d, v, w2, h1, h2, hi _ _ h3⟩
  · exact .inr (.inl ⟨w2, h1, h2, hi _ _ h3⟩)
  · exact .inr (.inr ⟨d, f, args, h1, h2, Calls.mono h3 fun e w2 ⟨v, he, h⟩ => ⟨v, he, hi _ _ h⟩⟩)
/-- what has run has all run that it waits for -/
def ClosedI (l : List Oper) (S : Nat → Bool) : Prop := ∀ j o, l[j]? = some o → S j = true → ∀ e ∈ o.after, Region.binds .any e = true → S e.on = true
theorem closed_old {j i : Nat} {o : Oper} (hC : ClosedI l S) (ho : l[j]? = some o) (he : (o.after.toList.any fun e => Region.binds .any e && Nat.beq e.on i) = true) (hS : S i = false) : S j = false := by
  rcases hj : S j with _ | _
  · rfl
  · obtain ⟨e, h1, h2⟩ := List.any_eq_true.1 he
    rw [Bool.and_eq_true] at h2
    have := hC j o ho hj e (by simpa using h1) h2.1
    rw [Nat.eq_of_beq_eq_true h2.2, hS] at this
    cases this
theorem closedI_set {i : Nat} {o : Oper} (hC : ClosedI l S) (ho : l[i]? = some o) (hE : ∀ e ∈ o.after, Region.binds .any e = true → S e.on = true) : ClosedI l (setB S i) := fun j o' hj hs e he hb => by
  have up : ∀ k, S k = true → setB S i k = true := fun k hk => by
    unfold setB
    split
    · rfl
    · exact hk
  by_cases hji : j = i
  · subst hji
    rw [ho] at hj
    cases hj
    exact up _ (hE e he hb)
  · exact up _ (hC j o' hj (setT hji hs) e he hb)
def StepsP (P : Program) (n : Fr) (L : List (Nat × Value)) (T : PT) (Mu : List Nat) (Mem : (Nat → Bool) → World → Prop) (l : List Oper) : Nat → List Oper → Prop
  | _, [] => True
  | i, o :: r => (∀ S L' w', UniP (T.map fun p => (p.1, p.2.1)) → MonoP Mu T → (∀ S i w1 w2, Mu.elem i = false → From w1 w2 → Mem S w1 → Mem (setB S i) w2) → InvP L T S L' w' → Mem S w' → ClosedI l S → S i = false → EdgesOn S o.after.toList → StepJ P n L T Mem S i o L' w') ∧ StepsP P n L T Mu Mem l (i + 1) r
theorem stepsP_at {L0 : List (Nat × Value)} {l0 : List Oper} : ∀ {r : List Oper} {k : Nat}, StepsP P n L0 T Mu Mem l0 k r → UniP (T.map fun p => (p.1, p.2.1)) → MonoP Mu T → (∀ S i w1 w2, Mu.elem i = false → From w1 w2 → Mem S w1 → Mem (setB S i) w2) → ∀ (i : Nat) (o : Oper), r[i]? = some o → ∀ S L' w', InvP L0 T S L' w' → Mem S w' → ClosedI l0 S → S (k + i) = false → EdgesOn S o.after.toList → StepJ P n L0 T Mem S (k + i) o L' w'
  | [], _, _, _, _, _, i, o, h => by simp at h
  | x :: r, k, ⟨h1, h2⟩, a, b, c, 0, o, h => by
    simp only [List.getElem?_cons_zero, Option.some.injEq] at h
    subst h
    exact fun S L' w' => h1 S L' w' a b c
  | x :: r, k, ⟨h1, h2⟩, a, b, c, i + 1, o, h => by
    have := stepsP_at h2 a b c i o (by simpa using h)
    rwa [show k + 1 + i = k + (i + 1) by omega] at this
theorem cd_invP {id : Nat} (T : PT) (Mu : List Nat) (Mem : (Nat → Bool) → World → Prop) (hm : P.follows .mixedOrders = true) (hwf : edgesB l = true) (hlt : (T.all fun p => Nat.blt p.1 l.length) = true) (hU : uniB (T.map fun p => (p.1, p.2.1)) = true) (hmo : MonoP Mu T) (hme : ∀ S i w1 w2, Mu.elem i = false → From w1 w2 → Mem S w1 → Mem (setB S i) w2) (h0 : Mem (fun _ => false) { w with drawn := w.drawn + 1 })
    (hstep : StepsP P n L T Mu Mem l 0 l) (hend : ∀ w', Mem (fun i => decide (i < l.length)) w' → AllP (fun i => decide (i < l.length)) w' T fun M => Q .normal (mkA n (M ++ L)) w') : Cd P (.region id l.toArray true) Q n L w :=
  cd_inv (fun S L' w' => InvP L T S L' w' ∧ Mem S w' ∧ ClosedI l S) hm hwf ⟨⟨fun _ _ => rfl, fun _ _ h => (by cases h), fun _ _ _ => rfl⟩, h0, fun _ _ _ h => by cases h⟩ (fun i o S L' w' ho ⟨hI, hM, hC⟩ hS hE => by
    have := stepsP_at hstep (uniP_of hU) hmo hme i o ho S L' w' hI hM hC (by rw [Nat.zero_add]; exact hS) (edges_on fun e he => hE e (by simpa using he))
    rw [Nat.zero_add] at this
    exact StepI.mono (fun L2 w2 h => ⟨h.1, h.2, closedI_set hC ho hE⟩) this) fun L' w' ⟨hI, hM, _⟩ => by
    have hlt' : ∀ p ∈ T, p.1 < l.length := fun p hp => by
      have := List.all_eq_true.1 hlt p hp
      exact Nat.le_of_ble_eq_true this
    have h := allP_at (look L') T (fun p hp => hI.2.1 p hp (decide_eq_true (hlt' p hp))) (hend w' hM)
    have e : mkA n L' = mkA n (T.map (fun p => (p.2.1, look L' p.2.1)) ++ L) := by
      unfold mkA
      rw [mkT_congr fun t _ => ?_]
      rcases look_mapP (look L') T L t with ⟨_, h2⟩ | ⟨h1, h2⟩
      · exact h2.symm
      · rw [h2]; exact hI.1 t h1
    rw [e]
    exact h
end
end Go.Proofs.YtglndihdhaaccaaDoor

namespace Go.Proofs.YtglndihdhaaccaaDoor
open Go.RowKit Go.ChangeShapes Go.WideShapes Go.ChangeAt
/-! ### strings -/
/-- the order of strings -/
def sLt (a b : ByteArray) : Prop := a.toList < b.toList
theorem sLt_dec (a b : ByteArray) : Op.bytesLess a.toList b.toList = true ↔ sLt a b := by
  rw [Go.Proofs.bytesLess_eq]
  exact decide_eq_true_iff
theorem str_inj {a b : ByteArray} (h : a.toList = b.toList) : a = b := by
  have := congrArg List.toArray h
  rw [Lib.toList_data, Lib.toList_data] at this
  exact ByteArray.ext (by simpa using this)
theorem str_eq {a b : ByteArray} : (a.toList == b.toList) = true ↔ a = b := ⟨fun h => str_inj (eq_of_beq h), fun h => by rw [h]; exact beq_self_eq_true _⟩
theorem str_size (a : ByteArray) : a.toList.length = a.size := by rw [Lib.toList_data]; rfl
/-! ### documents -/
abbrev Dc := ByteArray × ByteArray
def dV (d : Dc) : List Value := [.string d.1, .string d.2]
theorem dV_len (d : Dc) : (dV d).length = 2 := rfl
theorem dV_one (l : List Dc) : ∀ u ∈ l.flatMap dV, u.oneCell' = true := flat_one fun x _ u hu => by
  rcases List.mem_cons.1 hu with rfl | hu
  · rfl
  · rcases List.mem_cons.1 hu with rfl | hu
    · rfl
    · cases hu
/-- the bytes of a text, each by one more -/
def txt (s : ByteArray) : List Nat := s.toList.map fun b => b.toNat + 1
theorem txt_len (s : ByteArray) : (txt s).length = s.size := by rw [txt, List.length_map, str_size]
theorem txt_lt (s : ByteArray) : ∀ x ∈ txt s, x < 257 := fun x h => by
  obtain ⟨b, _, rfl⟩ := List.mem_map.1 h
  have := b.toNat_lt
  omega
def syms : List Dc → List Nat
  | [] => []
  | d :: ds => txt d.2 ++ 0 :: syms ds
theorem syms_lt : ∀ (ds : List Dc), ∀ x ∈ syms ds, x < 257
  | [], x, h => by cases h
  | d :: ds, x, h => by
    rcases List.mem_append.1 h with h | h
    · exact txt_lt _ x h
    · rcases List.mem_cons.1 h with rfl | h
      · omega
      · exact syms_lt ds x h
/-- the bytes of all texts -/
def dsz : List Dc → Nat
  | [] => 0
  | d :: ds => d.2.size + dsz ds
theorem syms_len : ∀ (ds : List Dc), (syms ds).length = dsz ds + ds.length
  | [] => rfl
  | d :: ds => by
    rw [syms, List.length_append, List.length_cons, txt_len, syms_len ds, dsz, List.length_cons]
    omega
theorem syms_app : ∀ (a b : List Dc), syms (a ++ b) = syms a ++ syms b
  | [], b => rfl
  | d :: a, b => by rw [List.cons_append, syms, syms, syms_app a b, List.append_assoc, List.cons_append]
theorem dsz_app : ∀ (a b : List Dc), dsz (a ++ b) = dsz a + dsz b
  | [], b => (Nat.zero_add _).symm
  | d :: a, b => by rw [List.cons_append, dsz, dsz, dsz_app a b, Nat.add_assoc]
/-- the places in one text -/
def ks (t q : List Nat) : List Nat := (List.range (t.length + 1)).filter fun i => q.isPrefixOf (t.drop i)
/-- the document of an offset, and the offset in its text -/
def loc : List Dc → Nat → Nat × Nat
  | [], at_ => (0, at_)
  | d :: ds, at_ => if at_ ≤ d.2.size then (0, at_) else ((loc ds (at_ - (d.2.size + 1))).1 + 1, (loc ds (at_ - (d.2.size + 1))).2)
abbrev Ht := ByteArray × Int
def hV (h : Ht) : List Value := [.string h.1, .int .i64 h.2]
/-- all hits -/
def hits : List Dc → ByteArray → List Ht
  | [], _ => []
  | d :: ds, p => (ks (txt d.2) (txt p)).map (fun k => (d.1, ((k : Nat) : Int))) ++ hits ds p
def hitAt (ds : List Dc) (at_ : Nat) : Ht := ((ds.getD (loc ds at_).1 (⟨#[]⟩, ⟨#[]⟩)).1, (((loc ds at_).2 : Nat) : Int))
end Go.Proofs.YtglndihdhaaccaaDoor

namespace Go.Proofs.YtglndihdhaaccaaDoor
open Go.RowKit
open Go.ChangeShapes Go.WideShapes Go.ChangeAt
theorem ScNums_k20 : callable Tryd.prog 20 = true := by kernel_rfl
theorem ScNums_s52 : (Tryd.prog.underlying 52).isSome = true := by kernel_rfl
theorem ScNums_i5 : Tryd.prog.underlying 5 = some (.int .u8) := by kernel_rfl
theorem ScNums_q23 : litQ Tryd.prog 23 = some (5, 1, 1, (.int .u8 0)) := by kernel_rfl
theorem put_w (A : Option Addr) (c n : Nat) (ts : List ByteArray) (w : World) (hn : n = ts.length) (hr : RowC w (.slice A n c) (ts.map .string)) (hs : ∀ s ∈ ts, s.size ≤ 140737488351232) (hfit : (putB ts).length ≤ 1048576) : Rt Tryd.prog 18 [.slice A n c] w fun v w' => ∃ A c, v = .tuple #[.slice A (putB ts).length c, .int .i64 0] ∧ w'.ownsRow w.heap.size 5 1 (.slice A (putB ts).length c) (putB ts).length (bytesV (putB ts)) ∧ From w w' := by
  refine Calls.mono (put_any _ ts w hr hs hfit) fun e w' ⟨v', he, ho, hF⟩ => ?_
  have hr := RowC.of_own ho
  obtain ⟨A, c, hv, _, _⟩ := hr.2
  rw [bytesV_length] at hv
  subst hv
  exact ⟨_, he, A, c, rfl, ho, hF⟩
def GotR (w w' : World) (v : Value) (l : List Nat) : Prop := (getB l = none ∧ v = .tuple #[.slice none 0 0, .int .i64 1]) ∨ ∃ ss A c, getB l = some ss ∧ v = .tuple #[.slice A ss.length c, .int .i64 0] ∧ w'.ownsRow w.heap.size 9 1 (.slice A ss.length c) ss.length (ss.map .string)
theorem get_w (A : Option Addr) (c n : Nat) (l : List Nat) (hl : ∀ b ∈ l, b < 256) (w : World) (hr : RowC w (.slice A n c) (bytesV l)) : Rt Tryd.prog 14 [.slice A n c] w fun v w' => GotR w w' v l ∧ From w w' := by
  refine Calls.mono (get_any _ l hl w hr) fun e w' ⟨hg, hF⟩ => ?_
  cases hb : getB l with
  | none => rw [hb] at hg; exact ⟨_, hg, .inl ⟨hb, rfl⟩, hF⟩
  | some ss =>
    rw [hb] at hg
    obtain ⟨v', he, ho⟩ := hg
    obtain ⟨A, c, hv, _, _⟩ := (RowC.of_own ho).2
    rw [List.length_map] at hv
    subst hv
    exact ⟨_, he, .inr ⟨ss, A, c, hb, rfl, ho⟩, hF⟩
theorem sum_w (A : Option Addr) (c n : Nat) (l : List Nat) (w : World) (hr : RowC w (.slice A n c) (bytesV l)) (hl : ∀ b ∈ l, b < 256) (hlen : l.length ≤ 140737488351232) (hT : Table w) : Rt Tryd.prog 20 [.int .u32 0, .slice A n c] w fun v w' => v = .int .u32 (((sumF 0#32 l).toNat : Nat) : Int) ∧ From w w' :=
  Calls.mono (sum_any 0#32 _ l w hr.1 hl hlen hT) fun e w' ⟨he, hF⟩ => ⟨_, he, rfl, hF⟩
/-- the four bytes of the checksum -/
def ck (l : List Nat) : List Nat := let s := (sumF 0#32 l).toNat; [s % 256, s / 2 ^ 8 % 256, s / 2 ^ 16 % 256, s / 2 ^ 24 % 256]
theorem ck_len (l : List Nat) : (ck l).length = 4 := rfl
theorem ck_byte (l : List Nat) : ∀ b ∈ ck l, b < 256 := by
  intro b hb
  simp only [ck, List.mem_cons, List.not_mem_nil, or_false] at hb
  omega
theorem strOf_inj {l m : List Nat} (hl : ∀ b ∈ l, b < 256) (hm : ∀ b ∈ m, b < 256) : ((strOf l).toList == (strOf m).toList) = decide (l = m) := by
  rw [Bool.eq_iff_iff, beq_iff_eq, decide_eq_true_eq, toList_inj]
  exact ⟨fun h => by rw [← strB_strOf hl, h, strB_strOf hm], fun h => by rw [h]⟩

set_option maxHeartbeats 400000 in
theorem ck_r (A : Option Addr) (c n : Nat) (l : List Nat) (w : World) (hr : RowC w (.slice A n c) (bytesV l)) (hl : ∀ b ∈ l, b < 256) (hlen : l.length ≤ 140737488351232) (hT : Table w) :
    Rt Tryd.prog 13 [.slice A n c] w (fun v w' => (∃ g, v = .slice (some ⟨g, 0, none⟩) 4 4 ∧ w.heap.size ≤ g ∧ Blk w' g 5 ((ck l).map bV).toArray) ∧ From w w') := by
  refine enter (n := 18) Tryd.func13 rfl rfl rfl ?_
  refine cd_seq (cd_region ?_)
  refine ass rfl ?_
  refine st_nil (nx_then (cd_seq (cd_region ?_)))
  refine mvs rfl ?_
  refine st_call ScNums_k20 (sum_w A c n l _ (hr.from_ From.rfl_) hl hlen hT) ?_
  rintro v5 w1 ⟨rfl, E5⟩
  refine asi rfl ?_
  refine st_nil (nx_then (cd_seq (cd_region ?_)))
  refine mvi rfl ?_
  refine st_val (ro_conv8 ScNums_s52 ScNums_i5 rfl) ?_
  refine mvi rfl ?_
  refine st_val (ro_shrN (b := 8) rfl rfl (by decide)) ?_
  refine st_val (ro_conv8 ScNums_s52 ScNums_i5 rfl) ?_
  refine mvi rfl ?_
  refine st_val (ro_shrN (b := 16) rfl rfl (by decide)) ?_
  refine st_val (ro_conv8 ScNums_s52 ScNums_i5 rfl) ?_
  refine mvi rfl ?_
  refine st_val (ro_shrN (b := 24) rfl rfl (by decide)) ?_
  refine st_val (ro_conv8 ScNums_s52 ScNums_i5 rfl) ?_
  refine st_lits [.tmp 7, .tmp 10, .tmp 13, .tmp 16] [.int _ _, .int _ _, .int _ _, .int _ _] ScNums_q23 rfl rfl rfl rfl (by simp [Value.cells]) ?_
  intro b17 w2 E17 hb17 hk17
  refine ass rfl ?_
  refine st_nil (nx_then (cd_ret ?_))
  refine res1 (v := .slice _ _ _) rfl rfl ?_
  exact ⟨⟨b17, rfl, by rw [hb17]; exact E5.size, hk17⟩, ((From.rfl_.next E5).next E17)⟩
set_option maxHeartbeats 400000 in
theorem equal_r (A B : Option Addr) (ca cb n m : Nat) (l k : List Nat) (w : World) (hr : RowC w (.slice A n ca) (bytesV l)) (hr2 : RowC w (.slice B m cb) (bytesV k)) (hl : ∀ b ∈ l, b < 256) (hk : ∀ b ∈ k, b < 256) :
    Rt Tryd.prog 12 [.slice A n ca, .slice B m cb] w (fun v w' => v = .bool (decide (l = k)) ∧ w = w') := by
  refine enter (n := 10) Tryd.func12 rfl rfl rfl ?_
  refine cd_seq (cd_region ?_)
  refine asb rfl ?_
  refine st_nil (nx_then (cd_seq (cd_region ?_)))
  refine mvs rfl ?_
  refine st_val (ro_convStr (l := l) hl rfl hr) ?_
  refine mvs rfl ?_
  refine st_val (ro_convStr (l := k) hk rfl hr2) ?_
  refine st_val (ro_eq (ro_eqlS rfl rfl) (congrArg Value.bool (strOf_inj hl hk))) ?_
  refine asb rfl ?_
  refine st_nil (nx_then (cd_ret ?_))
  refine res1 (v := .bool _) rfl rfl ?_
  exact ⟨rfl, rfl⟩
end Go.Proofs.YtglndihdhaaccaaDoor

namespace Go.Proofs.YtglndihdhaaccaaDoor
open Go.RowKit Go.ChangeShapes Go.WideShapes Go.ChangeAt
section
variable {P : Program} {ρ : Operand → Value} {x y : Operand} {t yt : TypeId} {s s' : ByteArray} {w : World}
theorem ro_geqS (hx : ρ x = .string s) (hy : ρ y = .string s') : RO P ρ (.binOp .geq t x y yt) w (.bool !(Op.bytesLess s.toList s'.toList)) w :=
  ro_bin hx hy (by unfold eqGuard; rfl) (by simp [binOp, Op.stringOp])
end
theorem str_at {s : ByteArray} {i : Nat} (h : i < s.size) : ∃ u : UInt8, s[((i : Nat) : Int).toNat]? = some u ∧ (txt s).getD i 0 = u.toNat + 1 ∧ s.toList[i]? = some u := by
  have h1 : i < s.toList.length := by rw [str_size]; exact h
  have h2 : s.toList[i]? = some s.toList[i] := List.getElem?_eq_getElem h1
  refine ⟨s.toList[i], ?_, ?_, h2⟩
  · rw [Int.toNat_natCast]
    have e : s[i]? = s.toList[i]? := by
      rw [h2, getElem?_pos s i h]
      congr 1
      simp only [Lib.toList_data, Array.getElem_toList]
      rfl
    rw [e, h2]
  · unfold txt
    rw [List.getD_eq_getElem?_getD, List.getElem?_map, h2]
    rfl
/-- what the library's comparison tells -/
def cmpS (a b : ByteArray) : Int := Lib.compareBytes a.toList b.toList
end Go.Proofs.YtglndihdhaaccaaDoor

namespace Go.Proofs.YtglndihdhaaccaaDoor.SA
open Classical
/-! ### counting -/
noncomputable def cnt : Nat → (Nat → Prop) → Nat
  | 0, _ => 0
  | n + 1, p => cnt n p + if p n then 1 else 0
theorem cnt_le_n (n : Nat) (p : Nat → Prop) : cnt n p ≤ n := by
  induction n with
  | zero => exact Nat.le_refl _
  | succ n ih => unfold cnt; split <;> omega
theorem cnt_mono {n : Nat} {p q : Nat → Prop} (h : ∀ i, i < n → p i → q i) : cnt n p ≤ cnt n q := by
  induction n with
  | zero => exact Nat.le_refl _
  | succ n ih =>
    have ih := ih fun i hi => h i (by omega)
    have := h n (by omega)
    unfold cnt
    by_cases a : p n
    · rw [if_pos a, if_pos (this a)]; omega
    · rw [if_neg a]; omega
theorem cnt_congr {n : Nat} {p q : Nat → Prop} (h : ∀ i, i < n → (p i ↔ q i)) : cnt n p = cnt n q :=
  Nat.le_antisymm (cnt_mono fun i hi => (h i hi).1) (cnt_mono fun i hi => (h i hi).2)
theorem cnt_or {n : Nat} {p q : Nat → Prop} (h : ∀ i, i < n → p i → ¬ q i) : cnt n (fun i => p i ∨ q i) = cnt n p + cnt n q := by
  induction n with
  | zero => rfl
  | succ n ih =>
    have ih := ih fun i hi => h i (by omega)
    have := h n (by omega)
    unfold cnt
    rw [ih]
    by_cases a : p n
    · rw [if_pos a, if_pos (.inl a), if_neg (this a)]; omega
    · by_cases b : q n
      · rw [if_neg a, if_pos b, if_pos (.inr b)]; omega
      · rw [if_neg a, if_neg b, if_neg (fun c => c.elim a b)]; omega
theorem cnt_is {n x : Nat} (hx : x < n) : cnt n (fun i => i = x) = 1 := by
  induction n with
  | zero => omega
  | succ n ih =>
    unfold cnt
    by_cases h : n = x
    · subst h
      rw [if_pos rfl, cnt_congr (q := fun _ => False) (fun i hi => ⟨fun e => by omega, fun e => e.elim⟩)]
      have : ∀ m, cnt m (fun _ => False) = 0 := by
        intro m
        induction m with
        | zero => rfl
        | succ m ih => unfold cnt; rw [ih, if_neg (fun h => h)]
      rw [this]
    · rw [if_neg h, ih (by omega)]
theorem cnt_add {n x : Nat} {p q : Nat → Prop} (hx : x < n) (hp : ¬ p x) (h : ∀ i, i < n → (q i ↔ p i ∨ i = x)) : cnt n q = cnt n p + 1 := by
  rw [cnt_congr h, cnt_or (p := p) (q := fun i => i = x) (fun i _ a b => hp (by subst b; exact a)), cnt_is hx]
theorem cnt_lt {n x : Nat} {p q : Nat → Prop} (h : ∀ i, i < n → p i → q i) (hx : x < n) (hp : ¬ p x) (hq : q x) : cnt n p < cnt n q := by
  have := cnt_add (p := p) (q := fun i => p i ∨ i = x) hx hp (fun i _ => Iff.rfl)
  have h2 : cnt n (fun i => p i ∨ i = x) ≤ cnt n q := cnt_mono fun i hi a => a.elim (h i hi) (fun e => e ▸ hq)
  omega
theorem cnt_full {n : Nat} {p : Nat → Prop} (h : cnt n p = n) : ∀ i, i < n → p i := by
  intro i hi
  by_cases a : p i
  · exact a
  · have h1 := cnt_lt (p := p) (q := fun _ => True) (fun _ _ _ => trivial) hi a trivial
    have := cnt_le_n n (fun _ => True)
    omega
theorem surj {n : Nat} {f : Nat → Nat} (hf : ∀ i, i < n → f i < n) (hi : ∀ i j, i < n → j < n → f i = f j → i = j) : ∀ r, r < n → ∃ i, i < n ∧ f i = r := by
  have key : ∀ m, m ≤ n → cnt n (fun r => ∃ i, i < m ∧ f i = r) = m := by
    intro m
    induction m with
    | zero =>
      intro _
      have := cnt_mono (n := n) (p := fun r => ∃ i, i < 0 ∧ f i = r) (q := fun r => r < 0 ∧ False) (fun r _ ⟨i, h, _⟩ => by omega)
      have h2 : ∀ k, cnt k (fun r => r < 0 ∧ False) = 0 := by
        intro k
        induction k with
        | zero => rfl
        | succ k ih => unfold cnt; rw [ih, if_neg (fun h => h.2)]
      rw [h2] at this
      omega
    | succ m ih =>
      intro hm
      rw [cnt_add (p := fun r => ∃ i, i < m ∧ f i = r) (x := f m) (hf m (by omega)) (fun ⟨i, h1, h2⟩ => by have := hi i m (by omega) (by omega) h2; omega), ih (by omega)]
      intro r _
      constructor
      · rintro ⟨i, h1, h2⟩
        by_cases e : i = m
        · subst e; exact .inr h2.symm
        · exact .inl ⟨i, by omega, h2⟩
      · rintro (⟨i, h1, h2⟩ | h)
        · exact ⟨i, by omega, h2⟩
        · exact ⟨m, by omega, h.symm⟩
  exact cnt_full (key n (Nat.le_refl _))
/-! ### lists of numbers in their order -/
def lx : List Nat → List Nat → Prop
  | [], [] => False
  | [], _ :: _ => True
  | _ :: _, [] => False
  | a :: x, b :: y => a < b ∨ (a = b ∧ lx x y)
theorem lx_irr : ∀ x, ¬ lx x x
  | [], h => h
  | a :: x, h => by
    rcases h with h | ⟨_, h⟩
    · omega
    · exact lx_irr x h
theorem lx_trans : ∀ {x y z : List Nat}, lx x y → lx y z → lx x z
  | [], [], _, h, _ => h.elim
  | [], _ :: _, [], _, h => h.elim
  | [], _ :: _, _ :: _, _, _ => trivial
  | _ :: _, [], _, h, _ => h.elim
  | _ :: _, _ :: _, [], _, h => h.elim
  | a :: x, b :: y, c :: z, h, k => by
    rcases h with h | ⟨rfl, h⟩
    · rcases k with k | ⟨rfl, k⟩
      · exact .inl (by omega)
      · exact .inl h
    · rcases k with k | ⟨rfl, k⟩
      · exact .inl k
      · exact .inr ⟨rfl, lx_trans h k⟩
theorem lx_tri : ∀ {x y : List Nat}, x ≠ y → lx x y ∨ lx y x
  | [], [], h => (h rfl).elim
  | [], _ :: _, _ => .inl trivial
  | _ :: _, [], _ => .inr trivial
  | a :: x, b :: y, h => by
    rcases Nat.lt_trichotomy a b with h1 | rfl | h1
    · exact .inl (.inl h1)
    · rcases lx_tri (x := x) (y := y) (fun e => h (by rw [e])) with h2 | h2
      · exact .inl (.inr ⟨rfl, h2⟩)
      · exact .inr (.inr ⟨rfl, h2⟩)
    · exact .inr (.inl h1)
theorem lx_asymm {x y : List Nat} (h : lx x y) : ¬ lx y x := fun k => lx_irr _ (lx_trans h k)
theorem lx_cons {a : Nat} {x y : List Nat} : lx (a :: x) (a :: y) ↔ lx x y :=
  ⟨fun h => h.elim (fun h => absurd h (Nat.lt_irrefl _)) (fun h => h.2), fun h => .inr ⟨rfl, h⟩⟩
theorem lx_head {a b : Nat} {x y : List Nat} (h : a < b) : lx (a :: x) (b :: y) := .inl h
theorem lx_head_no {a b : Nat} {x y : List Nat} (h : b < a) : ¬ lx (a :: x) (b :: y) := fun k => by
  rcases k with k | ⟨k, _⟩ <;> omega
/-! ### suffixes of a text that ends with its only least symbol -/
structure Txt (n : Nat) (t : Nat → Nat) : Prop where
  pos : 0 < n
  last : t (n - 1) = 0
  more : ∀ i, i + 1 < n → 0 < t i
section
variable {n : Nat} {t : Nat → Nat}
/-- the suffix i is less than the suffix j -/
def sl (n : Nat) (t : Nat → Nat) (i j : Nat) : Prop := ∃ k, (∀ m, m < k → t (i + m) = t (j + m)) ∧ i + k < n ∧ j + k < n ∧ t (i + k) < t (j + k)
theorem sl_iff {i j : Nat} : sl n t i j ↔ (i < n ∧ j < n ∧ t i < t j) ∨ (t i = t j ∧ sl n t (i + 1) (j + 1)) := by
  constructor
  · rintro ⟨k, h1, h2, h3, h4⟩
    cases k with
    | zero => exact .inl ⟨h2, h3, h4⟩
    | succ k =>
      refine .inr ⟨h1 0 (by omega), k, fun m hm => ?_, by omega, by omega, ?_⟩
      · have := h1 (m + 1) (by omega)
        rw [show i + (m + 1) = i + 1 + m by omega, show j + (m + 1) = j + 1 + m by omega] at this
        exact this
      · rw [show i + (k + 1) = i + 1 + k by omega, show j + (k + 1) = j + 1 + k by omega] at h4
        exact h4
  · rintro (⟨h1, h2, h3⟩ | ⟨h, k, h1, h2, h3, h4⟩)
    · exact ⟨0, fun m hm => by omega, h1, h2, h3⟩
    · refine ⟨k + 1, fun m hm => ?_, by omega, by omega, ?_⟩
      · cases m with
        | zero => exact h
        | succ m =>
          rw [show i + (m + 1) = i + 1 + m by omega, show j + (m + 1) = j + 1 + m by omega]
          exact h1 m (by omega)
      · rw [show i + (k + 1) = i + 1 + k by omega, show j + (k + 1) = j + 1 + k by omega]
        exact h4
theorem sl_lt {i j : Nat} (h : sl n t i j) : i < n ∧ j < n := by
  obtain ⟨k, _, h2, h3, _⟩ := h
  omega
theorem sl_irr (i : Nat) : ¬ sl n t i i := fun ⟨_, _, _, _, h⟩ => Nat.lt_irrefl _ h
theorem sl_asymm {i j : Nat} (h : sl n t i j) : ¬ sl n t j i := by
  rintro ⟨k', g1, g2, g3, g4⟩
  obtain ⟨k, h1, h2, h3, h4⟩ := h
  rcases Nat.lt_trichotomy k k' with a | a | a
  · have := g1 k a; omega
  · subst a; omega
  · have := h1 k' a; omega
theorem Txt.zero (h : Txt n t) {i : Nat} (hi : i < n) (h0 : t i = 0) : i = n - 1 := by
  by_cases e : i + 1 < n
  · have := h.more i e; omega
  · omega
theorem sl_tri (h : Txt n t) : ∀ {m i j : Nat}, m = n - i → i < n → j < n → i ≠ j → sl n t i j ∨ sl n t j i := by
  intro m
  induction m with
  | zero => intro i j hm hi; omega
  | succ m ih =>
    intro i j hm hi hj hne
    rcases Nat.lt_trichotomy (t i) (t j) with a | a | a
    · exact .inl (sl_iff.2 (.inl ⟨hi, hj, a⟩))
    · have h1 : i + 1 < n := by
        rcases Nat.lt_or_ge (i + 1) n with b | b
        · exact b
        · have hi0 : i = n - 1 := by omega
          rw [hi0, h.last] at a
          have := h.zero hj a.symm
          omega
      have h2 : j + 1 < n := by
        rcases Nat.lt_or_ge (j + 1) n with b | b
        · exact b
        · have hj0 : j = n - 1 := by omega
          rw [hj0, h.last] at a
          have := h.zero hi a
          omega
      rcases ih (i := i + 1) (j := j + 1) (by omega) h1 h2 (by omega) with b | b
      · exact .inl (sl_iff.2 (.inr ⟨a, b⟩))
      · exact .inr (sl_iff.2 (.inr ⟨a.symm, b⟩))
    · exact .inr (sl_iff.2 (.inl ⟨hj, hi, a⟩))
/-- rising: less than the next one -/
def rz (n : Nat) (t : Nat → Nat) (i : Nat) : Prop := i + 1 = n ∨ sl n t i (i + 1)
theorem rz_last (h : Txt n t) : rz n t (n - 1) := .inl (by have := h.pos; omega)
theorem rz_iff (h : Txt n t) {i : Nat} (hi : i + 1 < n) : rz n t i ↔ t i < t (i + 1) ∨ (t i = t (i + 1) ∧ rz n t (i + 1)) := by
  unfold rz
  constructor
  · rintro (a | a)
    · omega
    · rcases sl_iff.1 a with ⟨_, _, b⟩ | ⟨b, c⟩
      · exact .inl b
      · exact .inr ⟨b, .inr c⟩
  · rintro (a | ⟨a, b⟩)
    · exact .inr (sl_iff.2 (.inl ⟨by omega, hi, a⟩))
    · rcases b with b | b
      · have := h.last
        rw [show n - 1 = i + 1 by omega] at this
        have := h.more i hi
        omega
      · exact .inr (sl_iff.2 (.inr ⟨a, b⟩))
theorem fall_lt (_ : Txt n t) {i : Nat} (hi : i < n) (hf : ¬ rz n t i) : i + 1 < n := by
  rcases Nat.lt_or_ge (i + 1) n with a | a
  · exact a
  · exact absurd (.inl (by omega)) hf
theorem fall_ge (h : Txt n t) {i : Nat} (hi : i < n) (hf : ¬ rz n t i) : t (i + 1) ≤ t i ∧ (t (i + 1) = t i → ¬ rz n t (i + 1)) := by
  have h1 := fall_lt h hi hf
  rw [rz_iff h h1] at hf
  refine ⟨?_, fun e r => hf (.inr ⟨e.symm, r⟩)⟩
  rcases Nat.lt_or_ge (t i) (t (i + 1)) with a | a
  · exact absurd (.inl a) hf
  · exact a
theorem rise_le (h : Txt n t) {i : Nat} (hi : i + 1 < n) (hr : rz n t i) : t i ≤ t (i + 1) ∧ (t i = t (i + 1) → rz n t (i + 1)) := by
  rcases (rz_iff h hi).1 hr with a | ⟨a, b⟩
  · exact ⟨by omega, fun e => by omega⟩
  · exact ⟨by omega, fun _ => b⟩
/-- of equal symbols the falling suffix is less -/
theorem fall_rise (h : Txt n t) : ∀ {m i j : Nat}, m = n - i → i < n → j < n → t i = t j → ¬ rz n t i → rz n t j → sl n t i j := by
  intro m
  induction m with
  | zero => intro i j hm hi; omega
  | succ m ih =>
    intro i j hm hi hj he hf hr
    have h1 := fall_lt h hi hf
    have h2 : j + 1 < n := by
      rcases Nat.lt_or_ge (j + 1) n with b | b
      · exact b
      · have hj0 : j = n - 1 := by omega
        rw [hj0, h.last] at he
        have := h.more i h1
        omega
    obtain ⟨a1, a2⟩ := fall_ge h hi hf
    obtain ⟨b1, b2⟩ := rise_le h h2 hr
    refine sl_iff.2 (.inr ⟨he, ?_⟩)
    rcases Nat.lt_or_ge (t (i + 1)) (t (j + 1)) with c | c
    · exact sl_iff.2 (.inl ⟨h1, h2, c⟩)
    · exact ih (by omega) h1 h2 (by omega) (a2 (by omega)) (b2 (by omega))
end
end Go.Proofs.YtglndihdhaaccaaDoor.SA

namespace Go.Proofs.YtglndihdhaaccaaDoor.SA
open Classical
section
variable {n : Nat} {t idx : Nat → Nat}
/-- a start: the first of several rising suffixes, not the suffix 0 -/
def lms (n : Nat) (t : Nat → Nat) (i : Nat) : Prop := 0 < i ∧ i < n ∧ rz n t i ∧ ¬ rz n t (i - 1)
/-- what the passes sort by -/
noncomputable def kL (n : Nat) (t idx : Nat → Nat) : Nat → Nat → List Nat
  | 0, _ => []
  | m + 1, i => if rz n t i then [2 * t i + 1, idx i] else 2 * t i :: kL n t idx m (i + 1)
noncomputable def keyL (n : Nat) (t idx : Nat → Nat) (i : Nat) : List Nat := kL n t idx (n - i) i
noncomputable def kS (n : Nat) (t idx : Nat → Nat) : Nat → Nat → List Nat
  | 0, _ => []
  | m + 1, i => if rz n t i then (if i + 1 = n then [1] else (2 * t i + 1) :: kS n t idx m (i + 1)) else kL n t idx (m + 1) i
noncomputable def keyS (n : Nat) (t idx : Nat → Nat) (i : Nat) : List Nat := kS n t idx (n - i) i
theorem keyL_r {i : Nat} (hi : i < n) (h : rz n t i) : keyL n t idx i = [2 * t i + 1, idx i] := by
  unfold keyL
  rw [show n - i = (n - (i + 1)) + 1 by omega]
  unfold kL
  rw [if_pos h]
theorem keyL_f {i : Nat} (hi : i < n) (h : ¬ rz n t i) : keyL n t idx i = 2 * t i :: keyL n t idx (i + 1) := by
  unfold keyL
  rw [show n - i = (n - (i + 1)) + 1 by omega]
  conv => lhs; unfold kL
  rw [if_neg h]
theorem keyS_f {i : Nat} (hi : i < n) (h : ¬ rz n t i) : keyS n t idx i = keyL n t idx i := by
  unfold keyS keyL
  rw [show n - i = (n - (i + 1)) + 1 by omega]
  unfold kS
  rw [if_neg h]
theorem keyS_r {i : Nat} (hi : i + 1 < n) (h : rz n t i) : keyS n t idx i = (2 * t i + 1) :: keyS n t idx (i + 1) := by
  unfold keyS
  rw [show n - i = (n - (i + 1)) + 1 by omega]
  conv => lhs; unfold kS
  rw [if_pos h, if_neg (by omega)]
theorem keyS_last (h : Txt n t) : keyS n t idx (n - 1) = [1] := by
  have := h.pos
  unfold keyS
  rw [show n - (n - 1) = 0 + 1 by omega]
  unfold kS
  rw [if_pos (rz_last h), if_pos (by omega)]
theorem keyS_head (h : Txt n t) {i : Nat} (hi : i < n) (hr : rz n t i) : ∃ x, keyS n t idx i = (2 * t i + 1) :: x := by
  rcases Nat.lt_or_ge (i + 1) n with a | a
  · exact ⟨_, keyS_r a hr⟩
  · obtain rfl : i = n - 1 := by omega
    exact ⟨[], by rw [keyS_last h, h.last]⟩
/-- where the first pass puts starts: what is asked of the order -/
structure Ord (n : Nat) (t idx : Nat → Nat) : Prop where
  inj : ∀ i j, lms n t i → lms n t j → idx i = idx j → i = j
/-- the falling ones, and the starts -/
def FS (n : Nat) (t : Nat → Nat) (i : Nat) : Prop := i < n ∧ (¬ rz n t i ∨ lms n t i)
theorem FS_next (h : Txt n t) {i : Nat} (hi : i < n) (hf : ¬ rz n t i) : FS n t (i + 1) := by
  have h1 := fall_lt h hi hf
  refine ⟨h1, ?_⟩
  by_cases hr : rz n t (i + 1)
  · exact .inr ⟨by omega, h1, hr, by simpa using hf⟩
  · exact .inl hr
theorem FS_lms {i : Nat} (h : FS n t i) (hr : rz n t i) : lms n t i := h.2.elim (fun a => absurd hr a) id
theorem keyL_inj (h : Txt n t) (ho : Ord n t idx) : ∀ {m i j : Nat}, m = n - i → FS n t i → FS n t j → keyL n t idx i = keyL n t idx j → i = j := by
  intro m
  induction m with
  | zero => intro i j hm hi; have := hi.1; omega
  | succ m ih =>
    intro i j hm hi hj he
    by_cases a : rz n t i <;> by_cases b : rz n t j
    · rw [keyL_r hi.1 a, keyL_r hj.1 b] at he
      simp only [List.cons.injEq, and_true] at he
      exact ho.inj i j (FS_lms hi a) (FS_lms hj b) he.2
    · rw [keyL_r hi.1 a, keyL_f hj.1 b] at he
      simp only [List.cons.injEq] at he
      omega
    · rw [keyL_f hi.1 a, keyL_r hj.1 b] at he
      simp only [List.cons.injEq] at he
      omega
    · rw [keyL_f hi.1 a, keyL_f hj.1 b] at he
      simp only [List.cons.injEq] at he
      have := ih (i := i + 1) (j := j + 1) (by omega) (FS_next h hi.1 a) (FS_next h hj.1 b) he.2
      omega
theorem keyS_inj (h : Txt n t) (ho : Ord n t idx) : ∀ {m i j : Nat}, m = n - i → i < n → j < n → keyS n t idx i = keyS n t idx j → i = j := by
  intro m
  induction m with
  | zero => intro i j hm hi; omega
  | succ m ih =>
    intro i j hm hi hj he
    by_cases a : rz n t i <;> by_cases b : rz n t j
    · rcases Nat.lt_or_ge (i + 1) n with a1 | a1
      · rcases Nat.lt_or_ge (j + 1) n with b1 | b1
        · rw [keyS_r a1 a, keyS_r b1 b] at he
          simp only [List.cons.injEq] at he
          have := ih (i := i + 1) (j := j + 1) (by omega) a1 b1 he.2
          omega
        · obtain rfl : j = n - 1 := by omega
          rw [keyS_r a1 a, keyS_last h] at he
          simp only [List.cons.injEq] at he
          have := h.more i a1
          omega
      · obtain rfl : i = n - 1 := by omega
        rcases Nat.lt_or_ge (j + 1) n with b1 | b1
        · rw [keyS_r b1 b, keyS_last h] at he
          simp only [List.cons.injEq] at he
          have := h.more j b1
          omega
        · omega
    · obtain ⟨x, hx⟩ := keyS_head (idx := idx) h hi a
      rw [hx, keyS_f hj b, keyL_f hj b] at he
      simp only [List.cons.injEq] at he
      omega
    · obtain ⟨x, hx⟩ := keyS_head (idx := idx) h hj b
      rw [hx, keyS_f hi a, keyL_f hi a] at he
      simp only [List.cons.injEq] at he
      omega
    · rw [keyS_f hi a, keyS_f hj b] at he
      exact keyL_inj h ho rfl ⟨hi, .inl a⟩ ⟨hj, .inl b⟩ he
/-- the row of a suffix -/
noncomputable def pos (n : Nat) (t idx : Nat → Nat) (i : Nat) : Nat := cnt n fun j => lx (keyS n t idx j) (keyS n t idx i)
/-- how many symbols are less -/
noncomputable def less (n : Nat) (t : Nat → Nat) (c : Nat) : Nat := cnt n fun j => t j < c
theorem less_succ (c : Nat) : less n t (c + 1) = less n t c + cnt n (fun j => t j = c) := by
  unfold less
  rw [← cnt_or (fun i _ a b => by omega)]
  exact cnt_congr fun i _ => by omega
theorem less_mono {c d : Nat} (h : c ≤ d) : less n t c ≤ less n t d := cnt_mono fun i _ a => by omega
theorem pos_lt {i : Nat} (hi : i < n) : pos n t idx i < n := by
  have h1 := cnt_lt (n := n) (p := fun j => lx (keyS n t idx j) (keyS n t idx i)) (q := fun _ => True) (fun _ _ _ => trivial) hi (lx_irr _) trivial
  have := cnt_le_n n (fun _ => True)
  unfold pos
  omega
theorem pos_mono {i j : Nat} (hi : i < n) (h : lx (keyS n t idx i) (keyS n t idx j)) : pos n t idx i < pos n t idx j :=
  cnt_lt (fun _ _ a => lx_trans a h) hi (lx_irr _) h
theorem pos_inj (h : Txt n t) (ho : Ord n t idx) {i j : Nat} (hi : i < n) (hj : j < n) (he : pos n t idx i = pos n t idx j) : i = j := by
  by_cases e : keyS n t idx i = keyS n t idx j
  · exact keyS_inj h ho rfl hi hj e
  · rcases lx_tri e with a | a
    · have := pos_mono hi a; omega
    · have := pos_mono hj a; omega
theorem pos_iff (h : Txt n t) (ho : Ord n t idx) {i j : Nat} (hi : i < n) (hj : j < n) : pos n t idx i < pos n t idx j ↔ lx (keyS n t idx i) (keyS n t idx j) := by
  refine ⟨fun a => ?_, pos_mono hi⟩
  by_cases e : keyS n t idx i = keyS n t idx j
  · have := keyS_inj h ho rfl hi hj e
    subst this
    omega
  · rcases lx_tri e with b | b
    · exact b
    · have := pos_mono hj b; omega
/-- every row has its suffix -/
theorem pos_surj (h : Txt n t) (ho : Ord n t idx) {r : Nat} (hr : r < n) : ∃ i, i < n ∧ pos n t idx i = r :=
  surj (fun _ hi => pos_lt hi) (fun _ _ hi hj e => pos_inj h ho hi hj e) r hr
theorem key_char (h : Txt n t) {i j : Nat} (hi : i < n) (hj : j < n) (hc : t i < t j) : lx (keyS n t idx i) (keyS n t idx j) := by
  by_cases a : rz n t i <;> by_cases b : rz n t j
  · obtain ⟨x, hx⟩ := keyS_head (idx := idx) h hi a
    obtain ⟨y, hy⟩ := keyS_head (idx := idx) h hj b
    rw [hx, hy]; exact lx_head (by omega)
  · obtain ⟨x, hx⟩ := keyS_head (idx := idx) h hi a
    rw [hx, keyS_f hj b, keyL_f hj b]; exact lx_head (by omega)
  · obtain ⟨y, hy⟩ := keyS_head (idx := idx) h hj b
    rw [hy, keyS_f hi a, keyL_f hi a]; exact lx_head (by omega)
  · rw [keyS_f hi a, keyL_f hi a, keyS_f hj b, keyL_f hj b]; exact lx_head (by omega)
theorem key_type (h : Txt n t) {i j : Nat} (hi : i < n) (hj : j < n) (hc : t i = t j) (a : ¬ rz n t i) (b : rz n t j) : lx (keyS n t idx i) (keyS n t idx j) := by
  obtain ⟨y, hy⟩ := keyS_head (idx := idx) h hj b
  rw [hy, keyS_f hi a, keyL_f hi a]; exact lx_head (by omega)
/-- the row of a falling suffix, by its symbol's rows -/
theorem pos_fall (h : Txt n t) {i : Nat} (hi : i < n) (hf : ¬ rz n t i) : pos n t idx i = less n t (t i) + cnt n (fun j => ¬ rz n t j ∧ t j = t i ∧ lx (keyS n t idx j) (keyS n t idx i)) := by
  unfold pos less
  rw [← cnt_or (fun j _ a b => by omega)]
  refine cnt_congr fun j hj => ⟨fun a => ?_, fun a => ?_⟩
  · rcases Nat.lt_trichotomy (t j) (t i) with c | c | c
    · exact .inl c
    · by_cases r : rz n t j
      · exact absurd a (lx_asymm (key_type h hi hj c.symm hf r))
      · exact .inr ⟨r, c, a⟩
    · exact absurd a (lx_asymm (key_char h hi hj c))
  · rcases a with a | ⟨_, _, a⟩
    · exact key_char h hj hi a
    · exact a
/-- the row of a rising suffix -/
theorem pos_rise (h : Txt n t) (ho : Ord n t idx) {i : Nat} (hi : i < n) (hr : rz n t i) : pos n t idx i + 1 + cnt n (fun j => rz n t j ∧ t j = t i ∧ lx (keyS n t idx i) (keyS n t idx j)) = less n t (t i + 1) := by
  have e1 : cnt n (fun j => lx (keyS n t idx j) (keyS n t idx i) ∨ j = i) = pos n t idx i + 1 := by
    unfold pos
    exact cnt_add hi (lx_irr _) fun _ _ => Iff.rfl
  rw [← e1, ← cnt_or]
  · unfold less
    refine cnt_congr fun j hj => ⟨fun a => ?_, fun a => ?_⟩
    · rcases a with (a | a) | ⟨_, a, _⟩
      · rcases Nat.lt_or_ge (t i) (t j) with c | c
        · exact absurd a (lx_asymm (key_char h hi hj c))
        · omega
      · subst a; omega
      · omega
    · rcases Nat.lt_or_ge (t j) (t i) with c | c
      · exact .inl (.inl (key_char h hj hi c))
      · have hc : t j = t i := by omega
        by_cases r : rz n t j
        · by_cases e : j = i
          · exact .inl (.inr e)
          · rcases lx_tri (fun e2 => e (keyS_inj h ho rfl hj hi e2)) with b | b
            · exact .inl (.inl b)
            · exact .inr ⟨r, hc, b⟩
        · exact .inl (.inl (key_type h hj hi hc r hr))
  · intro j hj a ⟨_, _, b⟩
    rcases a with a | a
    · exact lx_asymm a b
    · subst a; exact lx_irr _ b
end
end Go.Proofs.YtglndihdhaaccaaDoor.SA

namespace Go.Proofs.YtglndihdhaaccaaDoor.SA
open Classical
section
variable {n : Nat} {t idx : Nat → Nat}
/-- where the first pass puts a start -/
noncomputable def pos1 (n : Nat) (t idx : Nat → Nat) (s : Nat) : Nat := less n t (t s + 1) - 1 - cnt n fun x => lms n t x ∧ t x = t s ∧ idx s < idx x
theorem less_same {c : Nat} {p : Nat → Prop} {x : Nat} (h : ∀ i, i < n → p i → t i = c) (hx : x < n) (hp : ¬ p x) (hc : t x = c) : cnt n p + 1 ≤ cnt n (fun j => t j = c) := cnt_lt h hx hp hc
theorem pos1_eq {s : Nat} (hs : lms n t s) : pos1 n t idx s + 1 + cnt n (fun x => lms n t x ∧ t x = t s ∧ idx s < idx x) = less n t (t s + 1) ∧ less n t (t s) ≤ pos1 n t idx s := by
  have h1 := less_same (c := t s) (p := fun x => lms n t x ∧ t x = t s ∧ idx s < idx x) (x := s) (fun i _ a => a.2.1) hs.2.1 (fun a => Nat.lt_irrefl _ a.2.2) rfl
  have h2 := less_succ (n := n) (t := t) (t s)
  unfold pos1
  omega
theorem fall_row (h : Txt n t) {i : Nat} (hi : i < n) (hf : ¬ rz n t i) : pos n t idx i < less n t (t i) + cnt n (fun j => ¬ rz n t j ∧ t j = t i) := by
  rw [pos_fall h hi hf]
  have := cnt_lt (n := n) (p := fun j => ¬ rz n t j ∧ t j = t i ∧ lx (keyS n t idx j) (keyS n t idx i)) (q := fun j => ¬ rz n t j ∧ t j = t i) (x := i) (fun j _ a => ⟨a.1, a.2.1⟩) hi (fun a => lx_irr _ a.2.2) ⟨hf, rfl⟩
  omega
theorem fall_top (c : Nat) : cnt n (fun j => ¬ rz n t j ∧ t j = c) ≤ cnt n (fun j => t j = c) := cnt_mono fun _ _ a => a.2
theorem fall_lms (c : Nat) : cnt n (fun j => ¬ rz n t j ∧ t j = c) + cnt n (fun j => lms n t j ∧ t j = c) ≤ cnt n (fun j => t j = c) := by
  rw [← cnt_or (fun j _ a b => a.1 b.1.2.2.1)]
  exact cnt_mono fun j _ a => a.elim (fun a => a.2) (fun a => a.2)
/-- where the second pass has a falling suffix, or a start -/
noncomputable def p2 (n : Nat) (t idx : Nat → Nat) (i : Nat) : Nat := if rz n t i then pos1 n t idx i else pos n t idx i
theorem p2_r {i : Nat} (h : rz n t i) : p2 n t idx i = pos1 n t idx i := if_pos h
theorem p2_f {i : Nat} (h : ¬ rz n t i) : p2 n t idx i = pos n t idx i := if_neg h
theorem p2_mono (h : Txt n t) {i j : Nat} (hi : FS n t i) (hj : FS n t j) (hk : lx (keyL n t idx i) (keyL n t idx j)) : p2 n t idx i < p2 n t idx j := by
  have m1 := less_succ (n := n) (t := t) (t i)
  have m2 := less_succ (n := n) (t := t) (t j)
  have m3 := fall_top (n := n) (t := t) (t i)
  by_cases a : rz n t i <;> by_cases b : rz n t j
  · have li := FS_lms hi a
    have lj := FS_lms hj b
    obtain ⟨e1, e2⟩ := pos1_eq (idx := idx) li
    obtain ⟨e3, e4⟩ := pos1_eq (idx := idx) lj
    rw [keyL_r hi.1 a, keyL_r hj.1 b] at hk
    rw [p2_r a, p2_r b]
    rcases hk with hk | ⟨hk, hk2⟩
    · have := less_mono (n := n) (t := t) (show t i + 1 ≤ t j by omega)
      omega
    · have hc : t i = t j := by omega
      have hx : idx i < idx j := by
        rcases hk2 with c | ⟨_, c⟩
        · exact c
        · exact c.elim
      have := cnt_lt (n := n) (p := fun x => lms n t x ∧ t x = t j ∧ idx j < idx x) (q := fun x => lms n t x ∧ t x = t i ∧ idx i < idx x) (x := j) (fun x _ a => ⟨a.1, by omega, by omega⟩) hj.1 (fun a => Nat.lt_irrefl _ a.2.2) ⟨lj, by omega, hx⟩
      rw [hc] at e1 this
      omega
  · have li := FS_lms hi a
    obtain ⟨e1, e2⟩ := pos1_eq (idx := idx) li
    rw [keyL_r hi.1 a, keyL_f hj.1 b] at hk
    rw [p2_r a, p2_f b, pos_fall h hj.1 b]
    have hc : t i < t j := by
      rcases hk with hk | ⟨hk, _⟩ <;> omega
    have := less_mono (n := n) (t := t) (show t i + 1 ≤ t j by omega)
    omega
  · have lj := FS_lms hj b
    obtain ⟨e3, e4⟩ := pos1_eq (idx := idx) lj
    have f1 := fall_row (idx := idx) h hi.1 a
    rw [keyL_f hi.1 a, keyL_r hj.1 b] at hk
    rw [p2_f a, p2_r b]
    rcases Nat.lt_or_ge (t i) (t j) with c | c
    · have := less_mono (n := n) (t := t) (show t i + 1 ≤ t j by omega)
      omega
    · have hc : t i = t j := by
        rcases hk with hk | ⟨hk, _⟩ <;> omega
      have f2 := fall_lms (n := n) (t := t) (t j)
      have f3 := cnt_lt (n := n) (p := fun x => lms n t x ∧ t x = t j ∧ idx j < idx x) (q := fun x => lms n t x ∧ t x = t j) (x := j) (fun x _ a => ⟨a.1, a.2.1⟩) hj.1 (fun a => Nat.lt_irrefl _ a.2.2) ⟨lj, rfl⟩
      rw [hc] at f1
      omega
  · rw [p2_f a, p2_f b]
    rw [← keyS_f hi.1 a, ← keyS_f hj.1 b] at hk
    exact pos_mono hi.1 hk
theorem p2_inj (h : Txt n t) (ho : Ord n t idx) {i j : Nat} (hi : FS n t i) (hj : FS n t j) (he : p2 n t idx i = p2 n t idx j) : i = j := by
  by_cases e : keyL n t idx i = keyL n t idx j
  · exact keyL_inj h ho rfl hi hj e
  · rcases lx_tri e with a | a
    · have := p2_mono h hi hj a; omega
    · have := p2_mono h hj hi a; omega
theorem p2_iff (h : Txt n t) (ho : Ord n t idx) {i j : Nat} (hi : FS n t i) (hj : FS n t j) : p2 n t idx i < p2 n t idx j ↔ lx (keyL n t idx i) (keyL n t idx j) := by
  refine ⟨fun a => ?_, p2_mono h hi hj⟩
  by_cases e : keyL n t idx i = keyL n t idx j
  · have := keyL_inj h ho rfl hi hj e
    subst this
    omega
  · rcases lx_tri e with b | b
    · exact b
    · have := p2_mono h hj hi b; omega
theorem pos1_lt {s : Nat} (hs : lms n t s) : pos1 n t idx s < n := by
  obtain ⟨e1, _⟩ := pos1_eq (idx := idx) hs
  have := cnt_le_n n (fun j => t j < t s + 1)
  unfold less at e1
  omega
theorem keyL_step (h : Txt n t) : ∀ {m j : Nat}, m = n - j → j < n → ¬ rz n t j → lx (keyL n t idx (j + 1)) (keyL n t idx j) := by
  intro m
  induction m with
  | zero => intro j hm hj; omega
  | succ m ih =>
    intro j hm hj hf
    have h1 := fall_lt h hj hf
    obtain ⟨a1, a2⟩ := fall_ge h hj hf
    rw [keyL_f hj hf]
    by_cases r : rz n t (j + 1)
    · rw [keyL_r h1 r]
      refine lx_head ?_
      have : t (j + 1) ≠ t j := fun e => a2 e r
      omega
    · have hi := ih (j := j + 1) (by omega) h1 r
      rcases Nat.lt_or_ge (t (j + 1)) (t j) with c | c
      · rw [keyL_f h1 r]; exact lx_head (by omega)
      · have e : t j = t (j + 1) := by omega
        rw [e]
        conv => arg 1; rw [keyL_f h1 r]
        exact lx_cons.2 hi
theorem keyS_step (h : Txt n t) : ∀ {m j : Nat}, m = n - j → j + 1 < n → rz n t j → lx (keyS n t idx j) (keyS n t idx (j + 1)) := by
  intro m
  induction m with
  | zero => intro j hm hj; omega
  | succ m ih =>
    intro j hm hj hr
    obtain ⟨a1, a2⟩ := rise_le h hj hr
    rcases Nat.lt_or_ge (t j) (t (j + 1)) with c | c
    · exact key_char h (by omega) hj c
    · have e : t j = t (j + 1) := by omega
      have r2 := a2 e
      have h2 : j + 1 + 1 < n := by
        rcases Nat.lt_or_ge (j + 1 + 1) n with b | b
        · exact b
        · have hl := h.last
          rw [show n - 1 = j + 1 by omega] at hl
          have := h.more j hj
          omega
      have hi := ih (j := j + 1) (by omega) h2 r2
      rw [keyS_r hj hr, e]
      conv => arg 2; rw [keyS_r h2 r2]
      exact lx_cons.2 hi
/-! ### the passes -/
def upd (f : Nat → Int) (k : Nat) (v : Int) : Nat → Int := fun x => if x = k then v else f x
theorem upd_same (f : Nat → Int) (k : Nat) (v : Int) : upd f k v k = v := if_pos rfl
theorem upd_ne (f : Nat → Int) {k x : Nat} (v : Int) (h : x ≠ k) : upd f k v x = f x := if_neg h
/-- the first pass, behind the starts whose numbers in the order are at least q -/
structure Inv1 (n : Nat) (t idx : Nat → Nat) (q : Nat) (xs ts : Nat → Int) : Prop where
  there : ∀ s, lms n t s → q ≤ idx s → xs (pos1 n t idx s) = s
  none : ∀ x, x < n → (∀ s, lms n t s → q ≤ idx s → pos1 n t idx s ≠ x) → xs x = -1
  tails : ∀ c, ts c = (less n t (c + 1) : Nat) - (cnt n (fun s => lms n t s ∧ t s = c ∧ q ≤ idx s) : Nat)
theorem cnt_none {p : Nat → Prop} (h : ∀ i, i < n → ¬ p i) : cnt n p = 0 := by
  have h1 := cnt_mono (n := n) (p := p) (q := fun _ => False) (fun i hi a => h i hi a)
  have h2 : ∀ k, cnt k (fun _ => False) = 0 := by
    intro k
    induction k with
    | zero => rfl
    | succ k ih => unfold cnt; rw [ih, if_neg (fun h => h)]
  rw [h2] at h1
  omega
theorem inv1_start {q : Nat} (hq : ∀ s, lms n t s → idx s < q) : Inv1 n t idx q (fun _ => -1) (fun c => (less n t (c + 1) : Nat)) := by
  refine ⟨fun s hs h => ?_, fun _ _ _ => rfl, fun c => ?_⟩
  · have := hq s hs; omega
  · have := cnt_none (n := n) (p := fun s => lms n t s ∧ t s = c ∧ q ≤ idx s) (fun i _ a => by have := hq i a.1; omega)
    simp only [this]
    omega
theorem inv1_put (h : Txt n t) (ho : Ord n t idx) {q s : Nat} {xs ts : Nat → Int} (hI : Inv1 n t idx (q + 1) xs ts) (hs : lms n t s) (hq : idx s = q) :
    ts (t s) - 1 = (pos1 n t idx s : Nat) ∧ Inv1 n t idx q (upd xs (pos1 n t idx s) s) (upd ts (t s) (ts (t s) - 1)) := by
  obtain ⟨e1, e2⟩ := pos1_eq (idx := idx) hs
  have e3 := hI.tails (t s)
  have e4 : cnt n (fun x => lms n t x ∧ t x = t s ∧ q + 1 ≤ idx x) = cnt n (fun x => lms n t x ∧ t x = t s ∧ idx s < idx x) := cnt_congr fun x _ => by rw [hq]; exact ⟨fun a => ⟨a.1, a.2.1, by omega⟩, fun a => ⟨a.1, a.2.1, by omega⟩⟩
  have p1 : ∀ s', lms n t s' → pos1 n t idx s' = pos1 n t idx s → s' = s := fun s' h' he => p2_inj h ho ⟨h'.2.1, .inr h'⟩ ⟨hs.2.1, .inr hs⟩ (by rw [p2_r h'.2.2.1, p2_r hs.2.2.1, he])
  refine ⟨by omega, fun s' h' hq' => ?_, fun x hx hn => ?_, fun c => ?_⟩
  · by_cases e : pos1 n t idx s' = pos1 n t idx s
    · rw [e, upd_same, p1 s' h' e]
    · rw [upd_ne _ _ e]
      refine hI.there s' h' ?_
      rcases Nat.lt_or_ge q (idx s') with a | a
      · exact a
      · exact absurd (congrArg _ (ho.inj s' s h' hs (by omega))) e
  · have hne := hn s hs (by omega)
    rw [upd_ne _ _ (Ne.symm hne)]
    exact hI.none x hx fun s' h' hq' => hn s' h' (by omega)
  · by_cases e : c = t s
    · subst e
      rw [upd_same, e3]
      have := cnt_add (n := n) (p := fun x => lms n t x ∧ t x = t s ∧ q + 1 ≤ idx x) (q := fun x => lms n t x ∧ t x = t s ∧ q ≤ idx x) (x := s) hs.2.1 (fun a => by omega) (fun i hi => ⟨fun a => by
        rcases Nat.lt_or_ge q (idx i) with b | b
        · exact .inl ⟨a.1, a.2.1, b⟩
        · exact .inr (ho.inj i s a.1 hs (by omega)), fun a => a.elim (fun a => ⟨a.1, a.2.1, by omega⟩) (fun a => by subst a; exact ⟨hs, rfl, by omega⟩)⟩)
      omega
    · rw [upd_ne _ _ e, hI.tails c]
      have : cnt n (fun x => lms n t x ∧ t x = c ∧ q + 1 ≤ idx x) = cnt n (fun x => lms n t x ∧ t x = c ∧ q ≤ idx x) := cnt_congr fun i _ => ⟨fun a => ⟨a.1, a.2.1, by omega⟩, fun a => ⟨a.1, a.2.1, by
        rcases Nat.lt_or_ge q (idx i) with b | b
        · exact b
        · have := ho.inj i s a.1 hs (by omega)
          subst this
          exact absurd a.2.1.symm e⟩⟩
      rw [this]
/-- the second pass, at row r -/
structure Inv2 (n : Nat) (t idx : Nat → Nat) (r : Nat) (xs hs : Nat → Int) : Prop where
  fall : ∀ i, i < n → ¬ rz n t i → p2 n t idx (i + 1) < r → xs (pos n t idx i) = i
  starts : ∀ s, lms n t s → xs (pos1 n t idx s) = s
  none : ∀ x, x < n → (∀ i, i < n → ¬ rz n t i → p2 n t idx (i + 1) < r → pos n t idx i ≠ x) → (∀ s, lms n t s → pos1 n t idx s ≠ x) → xs x = -1
  heads : ∀ c, hs c = (less n t c : Nat) + (cnt n (fun i => ¬ rz n t i ∧ t i = c ∧ p2 n t idx (i + 1) < r) : Nat)
theorem inv2_start {xs ts : Nat → Int} (hI : Inv1 n t idx 0 xs ts) : Inv2 n t idx 0 xs (fun c => (less n t c : Nat)) := by
  refine ⟨fun i _ _ h => by omega, fun s hs => hI.there s hs (Nat.zero_le _), fun x hx _ h => hI.none x hx fun s hs _ => h s hs, fun c => ?_⟩
  have := cnt_none (n := n) (p := fun i => ¬ rz n t i ∧ t i = c ∧ p2 n t idx (i + 1) < 0) (fun i _ a => by omega)
  rw [this]
  omega
theorem inv2_at (h : Txt n t) {r : Nat} {xs hs : Nat → Int} (hI : Inv2 n t idx r xs hs) (hr : r < n) :
    (∃ j, FS n t j ∧ p2 n t idx j = r ∧ xs r = j) ∨ (xs r = -1 ∧ ∀ j, FS n t j → p2 n t idx j ≠ r) := by
  by_cases e : ∃ j, FS n t j ∧ p2 n t idx j = r
  · obtain ⟨j, hj, rfl⟩ := e
    refine .inl ⟨j, hj, rfl, ?_⟩
    by_cases a : rz n t j
    · rw [p2_r a]; exact hI.starts j (FS_lms hj a)
    · have := hI.fall j hj.1 a (p2_mono h (FS_next h hj.1 a) hj (keyL_step h rfl hj.1 a))
      rw [p2_f a]; exact this
  · have hno : ∀ j, FS n t j → p2 n t idx j ≠ r := fun j hj he => e ⟨j, hj, he⟩
    refine .inr ⟨hI.none r hr (fun i hi hf _ he => hno i ⟨hi, .inl hf⟩ (by rw [p2_f hf, he])) (fun s hs he => hno s ⟨hs.2.1, .inr hs⟩ (by rw [p2_r hs.2.2.1, he])), hno⟩
theorem inv2_skip {r : Nat} {xs hs : Nat → Int} (hI : Inv2 n t idx r xs hs) (hno : ∀ i, i < n → ¬ rz n t i → p2 n t idx (i + 1) ≠ r) : Inv2 n t idx (r + 1) xs hs := by
  refine ⟨fun i hi hf hp => hI.fall i hi hf (by have := hno i hi hf; omega), hI.starts, fun x hx h1 h2 => hI.none x hx (fun i hi hf hp => h1 i hi hf (by omega)) h2, fun c => ?_⟩
  rw [hI.heads c, cnt_congr (p := fun i => ¬ rz n t i ∧ t i = c ∧ p2 n t idx (i + 1) < r) (q := fun i => ¬ rz n t i ∧ t i = c ∧ p2 n t idx (i + 1) < r + 1)]
  exact fun i hi => ⟨fun a => ⟨a.1, a.2.1, by omega⟩, fun a => ⟨a.1, a.2.1, by have := hno i hi a.1; omega⟩⟩
theorem inv2_put (h : Txt n t) (ho : Ord n t idx) {r i : Nat} {xs hs : Nat → Int} (hI : Inv2 n t idx r xs hs) (hi : i < n) (hf : ¬ rz n t i) (hp : p2 n t idx (i + 1) = r) :
    hs (t i) = (pos n t idx i : Nat) ∧ Inv2 n t idx (r + 1) (upd xs (pos n t idx i) i) (upd hs (t i) (hs (t i) + 1)) := by
  have e1 := hI.heads (t i)
  have e2 := pos_fall (idx := idx) h hi hf
  have e3 : cnt n (fun j => ¬ rz n t j ∧ t j = t i ∧ p2 n t idx (j + 1) < r) = cnt n (fun j => ¬ rz n t j ∧ t j = t i ∧ lx (keyS n t idx j) (keyS n t idx i)) := by
    refine cnt_congr fun j hj => and_congr_right fun a => and_congr_right fun b => ?_
    rw [← hp, p2_iff h ho (FS_next h hj a) (FS_next h hi hf), keyS_f hj a, keyS_f hi hf, keyL_f hj a, keyL_f hi hf, b, lx_cons]
  have pin : ∀ j, j < n → pos n t idx j = pos n t idx i → j = i := fun j hj he => pos_inj h ho hj hi he
  have pnx : ∀ j, j < n → ¬ rz n t j → p2 n t idx (j + 1) = r → j = i := fun j hj a he => by
    have := p2_inj h ho (FS_next h hj a) (FS_next h hi hf) (by rw [he, hp])
    omega
  refine ⟨by omega, fun j hj a hq => ?_, fun s hs => ?_, fun x hx h1 h2 => ?_, fun c => ?_⟩
  · by_cases e : j = i
    · subst e; exact upd_same _ _ _
    · rw [upd_ne _ _ (fun e2 => e (pin j hj e2))]
      exact hI.fall j hj a (by
        have : p2 n t idx (j + 1) ≠ r := fun e2 => e (pnx j hj a e2)
        omega)
  · have : pos1 n t idx s ≠ pos n t idx i := fun e => by
      have := p2_inj h ho ⟨hs.2.1, .inr hs⟩ ⟨hi, .inl hf⟩ (by rw [p2_r hs.2.2.1, p2_f hf, e])
      subst this
      exact hf hs.2.2.1
    rw [upd_ne _ _ this]
    exact hI.starts s hs
  · rw [upd_ne _ _ (Ne.symm (h1 i hi hf (by omega)))]
    exact hI.none x hx (fun j hj a hq => h1 j hj a (by omega)) h2
  · by_cases e : c = t i
    · subst e
      rw [upd_same, e1, cnt_add (n := n) (p := fun j => ¬ rz n t j ∧ t j = t i ∧ p2 n t idx (j + 1) < r) (q := fun j => ¬ rz n t j ∧ t j = t i ∧ p2 n t idx (j + 1) < r + 1) (x := i) hi (fun a => by omega)]
      · omega
      · intro j hj
        constructor
        · rintro ⟨a, b, c⟩
          by_cases e2 : j = i
          · exact .inr e2
          · have : p2 n t idx (j + 1) ≠ r := fun e3 => e2 (pnx j hj a e3)
            exact .inl ⟨a, b, by omega⟩
        · rintro (⟨a, b, c⟩ | rfl)
          · exact ⟨a, b, by omega⟩
          · exact ⟨hf, rfl, by omega⟩
    · rw [upd_ne _ _ e, hI.heads c, cnt_congr (p := fun i => ¬ rz n t i ∧ t i = c ∧ p2 n t idx (i + 1) < r) (q := fun i => ¬ rz n t i ∧ t i = c ∧ p2 n t idx (i + 1) < r + 1)]
      exact fun j hj => ⟨fun a => ⟨a.1, a.2.1, by omega⟩, fun a => ⟨a.1, a.2.1, by
        have : p2 n t idx (j + 1) ≠ r := fun e3 => by
          have := pnx j hj a.1 e3
          subst this
          exact e a.2.1.symm
        omega⟩⟩
/-- the third pass, behind the rows from r on -/
structure Inv3 (n : Nat) (t idx : Nat → Nat) (r : Nat) (xs ts : Nat → Int) : Prop where
  fall : ∀ i, i < n → ¬ rz n t i → xs (pos n t idx i) = i
  rise : ∀ i, i + 1 < n → rz n t i → r ≤ pos n t idx (i + 1) → xs (pos n t idx i) = i
  last : xs (pos n t idx (n - 1)) = (n - 1 : Nat)
  tails : ∀ c, ts c = (less n t (c + 1) : Nat) - (cnt n (fun i => i + 1 < n ∧ rz n t i ∧ t i = c ∧ r ≤ pos n t idx (i + 1)) : Nat)
theorem lms_last (h : Txt n t) (h2 : 2 ≤ n) : lms n t (n - 1) := by
  refine ⟨by omega, by omega, rz_last h, fun hr => ?_⟩
  have h3 : n - 1 - 1 + 1 < n := by omega
  have := (rise_le h h3 hr).1
  rw [show n - 1 - 1 + 1 = n - 1 by omega, h.last] at this
  have := h.more (n - 1 - 1) h3
  omega
theorem less_one (h : Txt n t) : less n t 1 = 1 := by
  unfold less
  rw [cnt_congr (q := fun i => i = n - 1)]
  · exact cnt_is (by have := h.pos; omega)
  · exact fun i hi => ⟨fun a => h.zero hi (by omega), fun a => by rw [a, h.last]; omega⟩
theorem pos_last (h : Txt n t) (h2 : 2 ≤ n) : pos n t idx (n - 1) = 0 ∧ pos1 n t idx (n - 1) = 0 := by
  constructor
  · unfold pos
    refine cnt_none fun i hi a => ?_
    rw [keyS_last h] at a
    by_cases e : i = n - 1
    · rw [e, keyS_last h] at a; exact lx_irr _ a
    · have hm := h.more i (by omega)
      by_cases r : rz n t i
      · obtain ⟨x, hx⟩ := keyS_head (idx := idx) h hi r
        rw [hx] at a
        exact lx_head_no (by omega) a
      · rw [keyS_f hi r, keyL_f hi r] at a
        exact lx_head_no (by omega) a
  · obtain ⟨e1, _⟩ := pos1_eq (idx := idx) (lms_last h h2)
    rw [h.last, Nat.zero_add, less_one h] at e1
    omega
theorem inv3_start (h : Txt n t) (h2 : 2 ≤ n) {xs hs : Nat → Int} (hI : Inv2 n t idx n xs hs) : Inv3 n t idx n xs (fun c => (less n t (c + 1) : Nat)) := by
  refine ⟨fun i hi hf => hI.fall i hi hf ?_, fun i hi _ hp => ?_, ?_, fun c => ?_⟩
  · have hn := FS_next h hi hf
    by_cases r : rz n t (i + 1)
    · rw [p2_r r]; exact pos1_lt (FS_lms hn r)
    · rw [p2_f r]; exact pos_lt hn.1
  · have := pos_lt (idx := idx) (t := t) hi; omega
  · have := hI.starts _ (lms_last h h2)
    obtain ⟨a, b⟩ := pos_last (idx := idx) h h2
    rw [b] at this
    rw [a]; exact this
  · have := cnt_none (n := n) (p := fun i => i + 1 < n ∧ rz n t i ∧ t i = c ∧ n ≤ pos n t idx (i + 1)) (fun i _ a => by have := pos_lt (idx := idx) (t := t) a.1; omega)
    simp only [this]
    omega
theorem inv3_at (h : Txt n t) (ho : Ord n t idx) {r : Nat} {xs ts : Nat → Int} (hI : Inv3 n t idx (r + 1) xs ts) (hr : r < n) : ∃ j, j < n ∧ pos n t idx j = r ∧ xs r = j := by
  obtain ⟨j, hj, rfl⟩ := pos_surj h ho hr
  refine ⟨j, hj, rfl, ?_⟩
  by_cases a : rz n t j
  · rcases Nat.lt_or_ge (j + 1) n with b | b
    · exact hI.rise j b a (pos_mono hj (keyS_step h rfl b a))
    · obtain rfl : j = n - 1 := by omega
      exact hI.last
  · exact hI.fall j hj a
theorem inv3_skip {r : Nat} {xs ts : Nat → Int} (hI : Inv3 n t idx (r + 1) xs ts) (hno : ∀ i, i + 1 < n → rz n t i → pos n t idx (i + 1) ≠ r) : Inv3 n t idx r xs ts := by
  refine ⟨hI.fall, fun i hi hr hp => hI.rise i hi hr (by have := hno i hi hr; omega), hI.last, fun c => ?_⟩
  rw [hI.tails c, cnt_congr (p := fun i => i + 1 < n ∧ rz n t i ∧ t i = c ∧ r + 1 ≤ pos n t idx (i + 1)) (q := fun i => i + 1 < n ∧ rz n t i ∧ t i = c ∧ r ≤ pos n t idx (i + 1))]
  exact fun i hi => ⟨fun a => ⟨a.1, a.2.1, a.2.2.1, by omega⟩, fun a => ⟨a.1, a.2.1, a.2.2.1, by have := hno i a.1 a.2.1; omega⟩⟩
theorem inv3_put (h : Txt n t) (ho : Ord n t idx) {r i : Nat} {xs ts : Nat → Int} (hI : Inv3 n t idx (r + 1) xs ts) (hi : i + 1 < n) (hz : rz n t i) (hp : pos n t idx (i + 1) = r) :
    ts (t i) - 1 = (pos n t idx i : Nat) ∧ Inv3 n t idx r (upd xs (pos n t idx i) i) (upd ts (t i) (ts (t i) - 1)) := by
  have hin : i < n := by omega
  have e1 := hI.tails (t i)
  have e2 := pos_rise (idx := idx) h ho hin hz
  have nl : ∀ j, j < n → t j = t i → j + 1 < n := fun j hj he => by
    rcases Nat.lt_or_ge (j + 1) n with b | b
    · exact b
    · obtain rfl : j = n - 1 := by omega
      rw [h.last] at he
      have := h.more i hi
      omega
  have e3 : cnt n (fun j => j + 1 < n ∧ rz n t j ∧ t j = t i ∧ r + 1 ≤ pos n t idx (j + 1)) = cnt n (fun j => rz n t j ∧ t j = t i ∧ lx (keyS n t idx i) (keyS n t idx j)) := by
    refine cnt_congr fun j hj => ⟨fun ⟨a, b, c, d⟩ => ⟨b, c, ?_⟩, fun ⟨b, c, d⟩ => ⟨nl j hj c, b, c, ?_⟩⟩
    · rw [keyS_r hi hz, keyS_r a b, c, lx_cons, ← pos_iff h ho hi a]
      omega
    · have a := nl j hj c
      rw [keyS_r hi hz, keyS_r a b, c, lx_cons, ← pos_iff h ho hi a] at d
      omega
  have pin : ∀ j, j < n → pos n t idx j = pos n t idx i → j = i := fun j hj he => pos_inj h ho hj hin he
  have pnx : ∀ j, j + 1 < n → pos n t idx (j + 1) = r → j = i := fun j hj he => by
    have := pos_inj h ho hj hi (by rw [he, hp])
    omega
  refine ⟨by omega, fun j hj a => ?_, fun j hj a hq => ?_, ?_, fun c => ?_⟩
  · rw [upd_ne _ _ (fun e => by have := pin j hj e; subst this; exact a hz)]
    exact hI.fall j hj a
  · by_cases e : j = i
    · subst e; exact upd_same _ _ _
    · rw [upd_ne _ _ (fun e2 => e (pin j (by omega) e2))]
      exact hI.rise j hj a (by
        have : pos n t idx (j + 1) ≠ r := fun e2 => e (pnx j hj e2)
        omega)
  · rw [upd_ne _ _ (fun e => by have := pin _ (by omega) e; omega)]
    exact hI.last
  · by_cases e : c = t i
    · subst e
      rw [upd_same, e1, cnt_add (n := n) (p := fun j => j + 1 < n ∧ rz n t j ∧ t j = t i ∧ r + 1 ≤ pos n t idx (j + 1)) (q := fun j => j + 1 < n ∧ rz n t j ∧ t j = t i ∧ r ≤ pos n t idx (j + 1)) (x := i) hin (fun a => by omega)]
      · omega
      · intro j hj
        constructor
        · rintro ⟨a, b, c, d⟩
          by_cases e2 : j = i
          · exact .inr e2
          · have : pos n t idx (j + 1) ≠ r := fun e3 => e2 (pnx j a e3)
            exact .inl ⟨a, b, c, by omega⟩
        · rintro (⟨a, b, c, d⟩ | rfl)
          · exact ⟨a, b, c, by omega⟩
          · exact ⟨hi, hz, rfl, by omega⟩
    · rw [upd_ne _ _ e, hI.tails c, cnt_congr (p := fun i => i + 1 < n ∧ rz n t i ∧ t i = c ∧ r + 1 ≤ pos n t idx (i + 1)) (q := fun i => i + 1 < n ∧ rz n t i ∧ t i = c ∧ r ≤ pos n t idx (i + 1))]
      exact fun j hj => ⟨fun a => ⟨a.1, a.2.1, a.2.2.1, by omega⟩, fun a => ⟨a.1, a.2.1, a.2.2.1, by
        have : pos n t idx (j + 1) ≠ r := fun e3 => by
          have := pnx j a.1 e3
          subst this
          exact e a.2.2.1.symm
        omega⟩⟩
/-- behind the passes every suffix is in its row -/
theorem inv3_end {xs ts : Nat → Int} (hI : Inv3 n t idx 0 xs ts) : ∀ i, i < n → xs (pos n t idx i) = i := fun i hi => by
  by_cases a : rz n t i
  · rcases Nat.lt_or_ge (i + 1) n with b | b
    · exact hI.rise i b a (Nat.zero_le _)
    · obtain rfl : i = n - 1 := by omega
      exact hI.last
  · exact hI.fall i hi a
end
end Go.Proofs.YtglndihdhaaccaaDoor.SA

namespace Go.Proofs.YtglndihdhaaccaaDoor.SA
open Classical
section
variable {n : Nat} {t idx : Nat → Nat}
theorem sl_trans {i j k : Nat} (h : sl n t i j) (g : sl n t j k) : sl n t i k := by
  obtain ⟨a, h1, h2, h3, h4⟩ := h
  obtain ⟨b, g1, g2, g3, g4⟩ := g
  rcases Nat.lt_trichotomy a b with c | c | c
  · exact ⟨a, fun m hm => (h1 m hm).trans (g1 m (by omega)), h2, by omega, by rw [← g1 a c]; exact h4⟩
  · subst c
    exact ⟨a, fun m hm => (h1 m hm).trans (g1 m hm), h2, g3, by omega⟩
  · exact ⟨b, fun m hm => (h1 m (by omega)).trans (g1 m hm), by omega, g3, by rw [h1 b c]; exact g4⟩
/-! ### starts in the order of their suffixes -/
def Sorted (n : Nat) (t idx : Nat → Nat) : Prop := ∀ i j, lms n t i → lms n t j → sl n t i j → idx i < idx j
theorem keyL_sl (h : Txt n t) (hso : Sorted n t idx) : ∀ {m i j : Nat}, m = n - i → FS n t i → FS n t j → sl n t i j → lx (keyL n t idx i) (keyL n t idx j) := by
  intro m
  induction m with
  | zero => intro i j hm hi; have := hi.1; omega
  | succ m ih =>
    intro i j hm hi hj hs
    rcases sl_iff.1 hs with ⟨_, _, c⟩ | ⟨c, d⟩
    · by_cases a : rz n t i <;> by_cases b : rz n t j
      · rw [keyL_r hi.1 a, keyL_r hj.1 b]; exact lx_head (by omega)
      · rw [keyL_r hi.1 a, keyL_f hj.1 b]; exact lx_head (by omega)
      · rw [keyL_f hi.1 a, keyL_r hj.1 b]; exact lx_head (by omega)
      · rw [keyL_f hi.1 a, keyL_f hj.1 b]; exact lx_head (by omega)
    · by_cases a : rz n t i <;> by_cases b : rz n t j
      · rw [keyL_r hi.1 a, keyL_r hj.1 b, c]
        exact lx_cons.2 (lx_head (hso i j (FS_lms hi a) (FS_lms hj b) hs))
      · exact absurd (fall_rise h rfl hj.1 hi.1 c.symm b a) (sl_asymm hs)
      · rw [keyL_f hi.1 a, keyL_r hj.1 b]; exact lx_head (by omega)
      · rw [keyL_f hi.1 a, keyL_f hj.1 b, c]
        exact lx_cons.2 (ih (by omega) (FS_next h hi.1 a) (FS_next h hj.1 b) d)
theorem keyS_sl (h : Txt n t) (hso : Sorted n t idx) : ∀ {m i j : Nat}, m = n - i → i < n → j < n → sl n t i j → lx (keyS n t idx i) (keyS n t idx j) := by
  intro m
  induction m with
  | zero => intro i j hm hi; omega
  | succ m ih =>
    intro i j hm hi hj hs
    rcases sl_iff.1 hs with ⟨_, _, c⟩ | ⟨c, d⟩
    · exact key_char h hi hj c
    · obtain ⟨d1, d2⟩ := sl_lt d
      by_cases a : rz n t i <;> by_cases b : rz n t j
      · rw [keyS_r d1 a, keyS_r d2 b, c]
        exact lx_cons.2 (ih (by omega) d1 d2 d)
      · exact absurd (fall_rise h rfl hj hi c.symm b a) (sl_asymm hs)
      · exact key_type h hi hj c a b
      · rw [keyS_f hi a, keyS_f hj b]
        exact keyL_sl h hso rfl ⟨hi, .inl a⟩ ⟨hj, .inl b⟩ hs
theorem keyS_iff (h : Txt n t) (hso : Sorted n t idx) {i j : Nat} (hi : i < n) (hj : j < n) : lx (keyS n t idx i) (keyS n t idx j) ↔ sl n t i j := by
  refine ⟨fun a => ?_, keyS_sl h hso rfl hi hj⟩
  by_cases e : i = j
  · subst e; exact absurd a (lx_irr _)
  · rcases sl_tri h rfl hi hj e with b | b
    · exact b
    · exact absurd a (lx_asymm (keyS_sl h hso rfl hj hi b))
/-- how many suffixes are less -/
noncomputable def rank (n : Nat) (t : Nat → Nat) (i : Nat) : Nat := cnt n fun j => sl n t j i
theorem pos_rank (h : Txt n t) (hso : Sorted n t idx) {i : Nat} (hi : i < n) : pos n t idx i = rank n t i :=
  cnt_congr fun _ hj => keyS_iff h hso hj hi
theorem rank_mono {i j : Nat} (h : sl n t i j) : rank n t i < rank n t j := cnt_lt (fun _ _ a => sl_trans a h) (sl_lt h).1 (sl_irr _) h
theorem rank_sorted : Sorted n t (rank n t) := fun _ _ _ _ h => rank_mono h
theorem rank_iff (h : Txt n t) {i j : Nat} (hi : i < n) (hj : j < n) : rank n t i < rank n t j ↔ sl n t i j := by
  refine ⟨fun a => ?_, rank_mono⟩
  by_cases e : i = j
  · subst e; omega
  · rcases sl_tri h rfl hi hj e with b | b
    · exact b
    · have := rank_mono b; omega
theorem rank_lt {i : Nat} (hi : i < n) : rank n t i < n := by
  have h1 := cnt_lt (n := n) (p := fun j => sl n t j i) (q := fun _ => True) (fun _ _ _ => trivial) hi (sl_irr _) trivial
  have := cnt_le_n n (fun _ => True)
  unfold rank
  omega
theorem rank_inj (h : Txt n t) {i j : Nat} (hi : i < n) (hj : j < n) (he : rank n t i = rank n t j) : i = j := by
  by_cases e : i = j
  · exact e
  · rcases sl_tri h rfl hi hj e with b | b
    · have := rank_mono b; omega
    · have := rank_mono b; omega
/-! ### pieces: from a start to the next one -/
noncomputable def gL (n : Nat) (t : Nat → Nat) (e : Nat → List Nat) : Nat → Nat → List Nat
  | 0, _ => []
  | m + 1, i => if rz n t i then (2 * t i + 1) :: e i else 2 * t i :: gL n t e m (i + 1)
noncomputable def gS (n : Nat) (t : Nat → Nat) (e : Nat → List Nat) : Nat → Nat → List Nat
  | 0, _ => []
  | m + 1, i => if rz n t i then (if i + 1 = n then [1] else (2 * t i + 1) :: gS n t e m (i + 1)) else gL n t e (m + 1) i
theorem gL_key : ∀ (m i : Nat), kL n t idx m i = gL n t (fun i => [idx i]) m i
  | 0, _ => rfl
  | m + 1, i => by unfold kL gL; rw [gL_key m]
theorem gS_key : ∀ (m i : Nat), kS n t idx m i = gS n t (fun i => [idx i]) m i
  | 0, _ => rfl
  | m + 1, i => by unfold kS gS; rw [gS_key m, gL_key]
/-- where a run ends -/
noncomputable def eL (n : Nat) (t : Nat → Nat) : Nat → Nat → Nat
  | 0, i => i
  | m + 1, i => if rz n t i then i else eL n t m (i + 1)
noncomputable def eS (n : Nat) (t : Nat → Nat) : Nat → Nat → Nat
  | 0, i => i
  | m + 1, i => if rz n t i then (if i + 1 = n then i else eS n t m (i + 1)) else eL n t (m + 1) i
abbrev nil_ : Nat → List Nat := fun _ => []
theorem gL_two (h : Txt n t) : ∀ {m1 m2 i j : Nat}, m1 = n - i → m2 = n - j → FS n t i → FS n t j →
    (gL n t nil_ m1 i = gL n t nil_ m2 j ∧ ∀ e, lx (gL n t e m1 i) (gL n t e m2 j) ↔ lx (e (eL n t m1 i)) (e (eL n t m2 j))) ∨
    (gL n t nil_ m1 i ≠ gL n t nil_ m2 j ∧ ∀ e e', lx (gL n t e m1 i) (gL n t e m2 j) ↔ lx (gL n t e' m1 i) (gL n t e' m2 j)) := by
  have heads : ∀ {a b : Nat} (_ : a ≠ b) (x y x' y' : List Nat), lx (a :: x) (b :: y) ↔ lx (a :: x') (b :: y') := fun {a b} hab x y x' y' => by
    rcases Nat.lt_or_ge a b with c | c
    · exact ⟨fun _ => lx_head c, fun _ => lx_head c⟩
    · have : b < a := by omega
      exact ⟨fun k => absurd k (lx_head_no this), fun k => absurd k (lx_head_no this)⟩
  intro m1
  induction m1 with
  | zero => intro m2 i j h1 h2 hi; have := hi.1; omega
  | succ m1 ih =>
    intro m2 i j h1 h2 hi hj
    have hj1 := hj.1
    obtain ⟨m2, rfl⟩ : ∃ k, m2 = k + 1 := ⟨m2 - 1, by omega⟩
    unfold gL eL
    by_cases a : rz n t i <;> by_cases b : rz n t j
    · simp only [if_pos a, if_pos b]
      by_cases c : 2 * t i + 1 = 2 * t j + 1
      · refine .inl ⟨by rw [c], fun e => by rw [c]; exact lx_cons⟩
      · exact .inr ⟨fun k => c (by simp only [List.cons.injEq] at k; exact k.1), fun e e' => heads c _ _ _ _⟩
    · simp only [if_pos a, if_neg b]
      have c : 2 * t i + 1 ≠ 2 * t j := by omega
      exact .inr ⟨fun k => c (by simp only [List.cons.injEq] at k; exact k.1), fun e e' => heads c _ _ _ _⟩
    · simp only [if_neg a, if_pos b]
      have c : 2 * t i ≠ 2 * t j + 1 := by omega
      exact .inr ⟨fun k => c (by simp only [List.cons.injEq] at k; exact k.1), fun e e' => heads c _ _ _ _⟩
    · simp only [if_neg a, if_neg b]
      by_cases c : 2 * t i = 2 * t j
      · rw [c]
        rcases ih (m2 := m2) (i := i + 1) (j := j + 1) (by omega) (by omega) (FS_next h hi.1 a) (FS_next h hj.1 b) with ⟨d1, d2⟩ | ⟨d1, d2⟩
        · exact .inl ⟨by rw [d1], fun e => lx_cons.trans (d2 e)⟩
        · refine .inr ⟨fun k => d1 (by simp only [List.cons.injEq] at k; exact k.2), fun e e' => ?_⟩
          rw [lx_cons, lx_cons]
          exact d2 e e'
      · exact .inr ⟨fun k => c (by simp only [List.cons.injEq] at k; exact k.1), fun e e' => heads c _ _ _ _⟩
theorem gS_two (h : Txt n t) : ∀ {m1 m2 i j : Nat}, m1 = n - i → m2 = n - j → i < n → j < n →
    (gS n t nil_ m1 i = gS n t nil_ m2 j ∧ (i = j ∨ ∀ e, lx (gS n t e m1 i) (gS n t e m2 j) ↔ lx (e (eS n t m1 i)) (e (eS n t m2 j)))) ∨
    (gS n t nil_ m1 i ≠ gS n t nil_ m2 j ∧ ∀ e e', lx (gS n t e m1 i) (gS n t e m2 j) ↔ lx (gS n t e' m1 i) (gS n t e' m2 j)) := by
  have heads : ∀ {a b : Nat} (_ : a ≠ b) (x y x' y' : List Nat), lx (a :: x) (b :: y) ↔ lx (a :: x') (b :: y') := fun {a b} hab x y x' y' => by
    rcases Nat.lt_or_ge a b with c | c
    · exact ⟨fun _ => lx_head c, fun _ => lx_head c⟩
    · have : b < a := by omega
      exact ⟨fun k => absurd k (lx_head_no this), fun k => absurd k (lx_head_no this)⟩
  intro m1
  induction m1 with
  | zero => intro m2 i j h1 h2 hi; omega
  | succ m1 ih =>
    intro m2 i j h1 h2 hi hj
    obtain ⟨m2, rfl⟩ : ∃ k, m2 = k + 1 := ⟨m2 - 1, by omega⟩
    by_cases a : rz n t i <;> by_cases b : rz n t j
    · unfold gS eS
      simp only [if_pos a, if_pos b]
      by_cases e1 : i + 1 = n <;> by_cases e2 : j + 1 = n
      · simp only [if_pos e1, if_pos e2]
        exact .inl ⟨trivial, .inl (by omega)⟩
      · simp only [if_pos e1, if_neg e2]
        have := h.more j (by omega)
        have c : 1 ≠ 2 * t j + 1 := by omega
        exact .inr ⟨fun k => c (by simp only [List.cons.injEq] at k; exact k.1), fun e e' => heads c _ _ _ _⟩
      · simp only [if_neg e1, if_pos e2]
        have := h.more i (by omega)
        have c : 2 * t i + 1 ≠ 1 := by omega
        exact .inr ⟨fun k => c (by simp only [List.cons.injEq] at k; exact k.1), fun e e' => heads c _ _ _ _⟩
      · simp only [if_neg e1, if_neg e2]
        by_cases c : 2 * t i + 1 = 2 * t j + 1
        · rw [c]
          rcases ih (m2 := m2) (i := i + 1) (j := j + 1) (by omega) (by omega) (by omega) (by omega) with ⟨d1, d2⟩ | ⟨d1, d2⟩
          · refine .inl ⟨by rw [d1], ?_⟩
            rcases d2 with d2 | d2
            · exact .inl (by omega)
            · exact .inr fun e => lx_cons.trans (d2 e)
          · refine .inr ⟨fun k => d1 (by simp only [List.cons.injEq] at k; exact k.2), fun e e' => ?_⟩
            rw [lx_cons, lx_cons]
            exact d2 e e'
        · exact .inr ⟨fun k => c (by simp only [List.cons.injEq] at k; exact k.1), fun e e' => heads c _ _ _ _⟩
    · unfold gS gL
      simp only [if_pos a, if_neg b]
      by_cases e1 : i + 1 = n
      · simp only [if_pos e1]
        have c : 1 ≠ 2 * t j := by omega
        exact .inr ⟨fun k => c (by simp only [List.cons.injEq] at k; exact k.1), fun e e' => heads c _ _ _ _⟩
      · simp only [if_neg e1]
        have c : 2 * t i + 1 ≠ 2 * t j := by omega
        exact .inr ⟨fun k => c (by simp only [List.cons.injEq] at k; exact k.1), fun e e' => heads c _ _ _ _⟩
    · unfold gS gL
      simp only [if_neg a, if_pos b]
      by_cases e2 : j + 1 = n
      · simp only [if_pos e2]
        have c : 2 * t i ≠ 1 := by omega
        exact .inr ⟨fun k => c (by simp only [List.cons.injEq] at k; exact k.1), fun e e' => heads c _ _ _ _⟩
      · simp only [if_neg e2]
        have c : 2 * t i ≠ 2 * t j + 1 := by omega
        exact .inr ⟨fun k => c (by simp only [List.cons.injEq] at k; exact k.1), fun e e' => heads c _ _ _ _⟩
    · have ex : ∀ e, gS n t e (m1 + 1) i = gL n t e (m1 + 1) i := fun e => by unfold gS; rw [if_neg a]
      have ey : ∀ e, gS n t e (m2 + 1) j = gL n t e (m2 + 1) j := fun e => by unfold gS; rw [if_neg b]
      have ez : eS n t (m1 + 1) i = eL n t (m1 + 1) i := by unfold eS; rw [if_neg a]
      have ew : eS n t (m2 + 1) j = eL n t (m2 + 1) j := by unfold eS; rw [if_neg b]
      simp only [ex, ey, ez, ew]
      rcases gL_two h h1 h2 ⟨hi, .inl a⟩ ⟨hj, .inl b⟩ with ⟨d1, d2⟩ | d
      · exact .inl ⟨d1, .inr d2⟩
      · exact .inr d
/-- the piece of a suffix, where it ends -/
noncomputable def piece (n : Nat) (t : Nat → Nat) (i : Nat) : List Nat := gS n t nil_ (n - i) i
noncomputable def pend (n : Nat) (t : Nat → Nat) (i : Nat) : Nat := eS n t (n - i) i
/-- pieces that differ tell the order, whatever the starts' order is -/
theorem piece_ne (h : Txt n t) {i j : Nat} (hi : i < n) (hj : j < n) (hne : piece n t i ≠ piece n t j) :
    (lx (keyS n t idx i) (keyS n t idx j) ↔ sl n t i j) ∧ (lx (keyS n t idx i) (keyS n t idx j) ↔ lx (piece n t i) (piece n t j)) := by
  rcases gS_two h rfl rfl hi hj with ⟨d, _⟩ | ⟨_, d⟩
  · exact absurd d hne
  · have e1 : ∀ x, keyS n t idx x = gS n t (fun i => [idx i]) (n - x) x := fun x => gS_key _ _
    have e2 : ∀ x, keyS n t (rank n t) x = gS n t (fun i => [rank n t i]) (n - x) x := fun x => gS_key _ _
    rw [← keyS_iff h rank_sorted hi hj, e1, e1, e2, e2]
    exact ⟨d _ _, d _ _⟩
/-- of equal pieces the ends tell the order -/
theorem piece_eq (h : Txt n t) {i j : Nat} (hi : i < n) (hj : j < n) (he : piece n t i = piece n t j) (hne : i ≠ j) (p1 : pend n t i < n) (p2 : pend n t j < n) : sl n t i j ↔ sl n t (pend n t i) (pend n t j) := by
  rcases gS_two h rfl rfl hi hj with ⟨_, d | d⟩ | ⟨d, _⟩
  · exact absurd d hne
  · have e2 : ∀ x, keyS n t (rank n t) x = gS n t (fun i => [rank n t i]) (n - x) x := fun x => gS_key _ _
    rw [← keyS_iff h rank_sorted hi hj, e2, e2, d (fun i => [rank n t i]), ← rank_iff h p1 p2]
    exact ⟨fun a => a.elim id (fun a => a.2.elim), fun a => .inl a⟩
  · exact absurd he d
/-- a piece between two others -/
theorem piece_mid (h : Txt n t) {i j k : Nat} (hi : i < n) (hj : j < n) (hk : k < n) (he : piece n t i = piece n t k) (h1 : lx (keyS n t idx i) (keyS n t idx j)) (h2 : lx (keyS n t idx j) (keyS n t idx k)) : piece n t i = piece n t j := by
  by_cases e : piece n t i = piece n t j
  · exact e
  · have a := (piece_ne (idx := idx) h hi hj e).2.1 h1
    have b := (piece_ne (idx := idx) h hj hk (fun x => e (he.trans x.symm))).2.1 h2
    rw [he] at a
    exact absurd a (lx_asymm b)
end
end Go.Proofs.YtglndihdhaaccaaDoor.SA

namespace Go.Proofs.YtglndihdhaaccaaDoor.SA
open Classical
section
variable {n : Nat} {t idx : Nat → Nat}
theorem eL_spec (h : Txt n t) : ∀ {m i : Nat}, m = n - i → FS n t i → lms n t (eL n t m i) ∧ i ≤ eL n t m i ∧ ∀ x, i ≤ x → x < eL n t m i → ¬ rz n t x := by
  intro m
  induction m with
  | zero => intro i hm hi; have := hi.1; omega
  | succ m ih =>
    intro i hm hi
    unfold eL
    by_cases a : rz n t i
    · simp only [if_pos a]
      exact ⟨FS_lms hi a, Nat.le_refl _, fun x h1 h2 => by omega⟩
    · simp only [if_neg a]
      obtain ⟨h1, h2, h3⟩ := ih (i := i + 1) (by omega) (FS_next h hi.1 a)
      refine ⟨h1, by omega, fun x g1 g2 => ?_⟩
      by_cases e : x = i
      · subst e; exact a
      · exact h3 x (by omega) g2
theorem eS_spec (h : Txt n t) : ∀ {m i : Nat}, m = n - i → i + 1 < n → lms n t (eS n t m i) ∧ i < eS n t m i ∧ ∀ x, i < x → x < eS n t m i → ¬ lms n t x := by
  intro m
  induction m with
  | zero => intro i hm hi; omega
  | succ m ih =>
    intro i hm hi
    by_cases a : rz n t i
    · have hi2 : i + 1 + 1 < n := by
        rcases Nat.lt_or_ge (i + 1 + 1) n with b | b
        · exact b
        · have h1 := (rise_le h hi a).1
          rw [show i + 1 = n - 1 by omega, h.last] at h1
          have := h.more i hi
          omega
      have e : eS n t (m + 1) i = eS n t m (i + 1) := by
        conv => lhs; unfold eS
        rw [if_pos a, if_neg (by omega)]
      rw [e]
      obtain ⟨h1, h2, h3⟩ := ih (i := i + 1) (by omega) hi2
      refine ⟨h1, by omega, fun x g1 g2 => ?_⟩
      by_cases e : x = i + 1
      · subst e; exact fun l => l.2.2.2 (by simpa using a)
      · exact h3 x (by omega) g2
    · have e : eS n t (m + 1) i = eL n t m (i + 1) := by
        conv => lhs; unfold eS
        rw [if_neg a]
        conv => lhs; unfold eL
        rw [if_neg a]
      rw [e]
      obtain ⟨h1, h2, h3⟩ := eL_spec h (m := m) (i := i + 1) (by omega) (FS_next h (by omega) a)
      exact ⟨h1, by omega, fun x g1 g2 l => h3 x (by omega) g2 l.2.2.1⟩
theorem pend_spec (h : Txt n t) {i : Nat} (hi : i + 1 < n) : lms n t (pend n t i) ∧ i < pend n t i ∧ ∀ x, i < x → x < pend n t i → ¬ lms n t x := eS_spec h rfl hi
noncomputable def code (n : Nat) (t : Nat → Nat) (i : Nat) : Nat := 2 * t i + (if rz n t i then 1 else 0)
noncomputable def cseg (n : Nat) (t : Nat → Nat) : Nat → Nat → List Nat
  | _, 0 => []
  | i, m + 1 => code n t i :: cseg n t (i + 1) m
theorem gL_seg (h : Txt n t) : ∀ {m i : Nat}, m = n - i → FS n t i → gL n t nil_ m i = cseg n t i (eL n t m i - i + 1) := by
  intro m
  induction m with
  | zero => intro i hm hi; have := hi.1; omega
  | succ m ih =>
    intro i hm hi
    unfold gL eL
    by_cases a : rz n t i
    · simp only [if_pos a, Nat.sub_self]
      unfold cseg code cseg
      rw [if_pos a]
    · simp only [if_neg a]
      obtain ⟨_, h2, _⟩ := eL_spec h (m := m) (i := i + 1) (by omega) (FS_next h hi.1 a)
      rw [ih (i := i + 1) (by omega) (FS_next h hi.1 a), show eL n t m (i + 1) - i + 1 = (eL n t m (i + 1) - (i + 1) + 1) + 1 by omega]
      conv => rhs; unfold cseg code
      rw [if_neg a]
      rfl
theorem gS_seg (h : Txt n t) : ∀ {m i : Nat}, m = n - i → i + 1 < n → gS n t nil_ m i = cseg n t i (eS n t m i - i + 1) := by
  intro m
  induction m with
  | zero => intro i hm hi; omega
  | succ m ih =>
    intro i hm hi
    by_cases a : rz n t i
    · have hi2 : i + 1 + 1 < n := by
        rcases Nat.lt_or_ge (i + 1 + 1) n with b | b
        · exact b
        · have h1 := (rise_le h hi a).1
          rw [show i + 1 = n - 1 by omega, h.last] at h1
          have := h.more i hi
          omega
      have e : eS n t (m + 1) i = eS n t m (i + 1) := by
        conv => lhs; unfold eS
        rw [if_pos a, if_neg (by omega)]
      have e2 : gS n t nil_ (m + 1) i = (2 * t i + 1) :: gS n t nil_ m (i + 1) := by
        conv => lhs; unfold gS
        rw [if_pos a, if_neg (by omega)]
      obtain ⟨_, h2, _⟩ := eS_spec h (m := m) (i := i + 1) (by omega) hi2
      rw [e, e2, ih (i := i + 1) (by omega) hi2, show eS n t m (i + 1) - i + 1 = (eS n t m (i + 1) - (i + 1) + 1) + 1 by omega]
      conv => rhs; unfold cseg code
      rw [if_pos a]
    · have e : eS n t (m + 1) i = eL n t (m + 1) i := by unfold eS; rw [if_neg a]
      have e2 : gS n t nil_ (m + 1) i = gL n t nil_ (m + 1) i := by unfold gS; rw [if_neg a]
      rw [e, e2]
      exact gL_seg h hm ⟨by omega, .inl a⟩
theorem cseg_len : ∀ (m i : Nat), (cseg n t i m).length = m
  | 0, _ => rfl
  | m + 1, i => by unfold cseg; rw [List.length_cons, cseg_len m]
theorem cseg_eq : ∀ (m i j : Nat), cseg n t i m = cseg n t j m ↔ ∀ k, k < m → code n t (i + k) = code n t (j + k)
  | 0, _, _ => ⟨fun _ k hk => by omega, fun _ => rfl⟩
  | m + 1, i, j => by
    unfold cseg
    rw [List.cons.injEq, cseg_eq m]
    constructor
    · rintro ⟨a, b⟩ k hk
      cases k with
      | zero => exact a
      | succ k => rw [show i + (k + 1) = i + 1 + k by omega, show j + (k + 1) = j + 1 + k by omega]; exact b k (by omega)
    · intro a
      refine ⟨a 0 (by omega), fun k hk => ?_⟩
      have := a (k + 1) (by omega)
      rwa [show i + (k + 1) = i + 1 + k by omega, show j + (k + 1) = j + 1 + k by omega] at this
/-- equal pieces are equal parts of the text -/
theorem piece_seg (h : Txt n t) {i j : Nat} (hi : i + 1 < n) (hj : j + 1 < n) : piece n t i = piece n t j ↔ pend n t i - i = pend n t j - j ∧ ∀ k, k ≤ pend n t i - i → t (i + k) = t (j + k) := by
  obtain ⟨a1, a2, a3⟩ := pend_spec h hi
  obtain ⟨b1, b2, b3⟩ := pend_spec h hj
  unfold piece
  rw [gS_seg h rfl hi, gS_seg h rfl hj]
  show cseg n t i (pend n t i - i + 1) = cseg n t j (pend n t j - j + 1) ↔ _
  constructor
  · intro e
    have hl := congrArg List.length e
    rw [cseg_len, cseg_len] at hl
    have hd : pend n t i - i = pend n t j - j := by omega
    rw [hd] at e ⊢
    refine ⟨rfl, fun k hk => ?_⟩
    have := (cseg_eq _ _ _).1 e k (by omega)
    unfold code at this
    split at this <;> split at this <;> omega
  · rintro ⟨hd, hk⟩
    rw [hd] at hk ⊢
    rw [cseg_eq]
    have rzs : ∀ d k, k + d = pend n t j - j → (rz n t (i + k) ↔ rz n t (j + k)) := by
      intro d
      induction d with
      | zero =>
        intro k hkd
        rw [show i + k = pend n t i by omega, show j + k = pend n t j by omega]
        exact ⟨fun _ => b1.2.2.1, fun _ => a1.2.2.1⟩
      | succ d ih =>
        intro k hkd
        have e1 := hk k (by omega)
        have e2 := hk (k + 1) (by omega)
        have e3 := ih (k + 1) (by omega)
        rw [rz_iff h (i := i + k) (by have := a1.2.1; omega), rz_iff h (i := j + k) (by have := b1.2.1; omega)]
        rw [show i + k + 1 = i + (k + 1) by omega, show j + k + 1 = j + (k + 1) by omega, e1, e2, e3]
    intro k hk2
    unfold code
    rw [hk k (by omega)]
    have := rzs (pend n t j - j - k) k (by omega)
    by_cases r : rz n t (j + k)
    · rw [if_pos r, if_pos (this.2 r)]
    · rw [if_neg r, if_neg (fun x => r (this.1 x))]
theorem piece_last (h : Txt n t) {i : Nat} (hi : i < n) (he : piece n t i = piece n t (n - 1)) : i = n - 1 := by
  have e1 : piece n t (n - 1) = [1] := by
    have := h.pos
    unfold piece
    rw [show n - (n - 1) = 0 + 1 by omega]
    unfold gS
    rw [if_pos (rz_last h), if_pos (by omega)]
  rw [e1] at he
  rcases Nat.lt_or_ge (i + 1) n with a | a
  · unfold piece at he
    rw [gS_seg h rfl a] at he
    unfold cseg code at he
    simp only [List.cons.injEq] at he
    have := h.more i a
    omega
  · omega
/-! ### the starts, one behind the other -/
structure Starts (n : Nat) (t : Nat → Nat) (m : Nat) (ss : Nat → Nat) : Prop where
  is : ∀ k, k < m → lms n t (ss k)
  up : ∀ a b, a < b → b < m → ss a < ss b
  all : ∀ s, lms n t s → ∃ k, k < m ∧ ss k = s
variable {m : Nat} {ss : Nat → Nat}
theorem Starts.inj (H : Starts n t m ss) {a b : Nat} (ha : a < m) (hb : b < m) (he : ss a = ss b) : a = b := by
  rcases Nat.lt_trichotomy a b with c | c | c
  · have := H.up a b c hb; omega
  · exact c
  · have := H.up b a c ha; omega
theorem Starts.pos (H : Starts n t m ss) (h : Txt n t) (h2 : 2 ≤ n) : 0 < m := by
  obtain ⟨k, hk, _⟩ := H.all _ (lms_last h h2)
  omega
theorem Starts.last (H : Starts n t m ss) (h : Txt n t) (h2 : 2 ≤ n) : ss (m - 1) = n - 1 := by
  obtain ⟨k, hk, e⟩ := H.all _ (lms_last h h2)
  by_cases c : k = m - 1
  · rw [← c]; exact e
  · have := H.up k (m - 1) (by omega) (by omega)
    have := (H.is (m - 1) (by omega)).2.1
    omega
theorem Starts.next (H : Starts n t m ss) (h : Txt n t) {k : Nat} (hk : k + 1 < m) : ss k + 1 < n ∧ pend n t (ss k) = ss (k + 1) := by
  have h1 := H.up k (k + 1) (by omega) hk
  have h2 := (H.is (k + 1) hk).2.1
  have h3 : ss k + 1 < n := by omega
  obtain ⟨a1, a2, a3⟩ := pend_spec h h3
  obtain ⟨q, hq, e⟩ := H.all _ a1
  refine ⟨h3, ?_⟩
  rcases Nat.lt_trichotomy q (k + 1) with c | c | c
  · rcases Nat.lt_or_ge q k with d | d
    · have := H.up q k d (by omega); omega
    · obtain rfl : q = k := by omega
      omega
  · subst c; exact e.symm
  · have := H.up (k + 1) q c hq
    exact absurd (H.is (k + 1) hk) (a3 _ h1 (by omega))
theorem Starts.less (H : Starts n t m ss) (h : Txt n t) (h2 : 2 ≤ n) : m < n := by
  have : ∀ k, k < m → k + 1 ≤ ss k := by
    intro k
    induction k with
    | zero => intro hk; have := (H.is 0 hk).1; omega
    | succ k ih => intro hk; have := ih (by omega); have := H.up k (k + 1) (by omega) hk; omega
  have hm := H.pos h h2
  have := this (m - 1) (by omega)
  rw [H.last h h2] at this
  omega
/-! ### names of pieces -/
def updN (f : Nat → Nat) (k v : Nat) : Nat → Nat := fun x => if x = k then v else f x
theorem updN_same (f : Nat → Nat) (k v : Nat) : updN f k v k = v := if_pos rfl
theorem updN_ne (f : Nat → Nat) {k x : Nat} (v : Nat) (h : x ≠ k) : updN f k v x = f x := if_neg h
structure InvN (n : Nat) (t idx : Nat → Nat) (m : Nat) (ss : Nat → Nat) (r : Nat) (nm : Nat → Nat) (kinds : Nat) : Prop where
  eq : ∀ a b, a < m → b < m → pos n t idx (ss a) < r → pos n t idx (ss b) < r → (nm a = nm b ↔ piece n t (ss a) = piece n t (ss b))
  le : ∀ a b, a < m → b < m → pos n t idx (ss a) < r → pos n t idx (ss b) < r → pos n t idx (ss a) ≤ pos n t idx (ss b) → nm a ≤ nm b
  top : ∀ a, a < m → pos n t idx (ss a) < r → nm a ≤ kinds
  some : ∀ c, c ≤ kinds → (∃ a, a < m ∧ pos n t idx (ss a) < r) → ∃ a, a < m ∧ pos n t idx (ss a) < r ∧ nm a = c
  none : (∀ a, a < m → r ≤ pos n t idx (ss a)) → kinds = 0
/-- the last one that was named -/
def LastN (n : Nat) (t idx : Nat → Nat) (m : Nat) (ss : Nat → Nat) (r : Nat) (nm : Nat → Nat) (kinds b : Nat) : Prop := b < m ∧ pos n t idx (ss b) < r ∧ nm b = kinds ∧ ∀ a, a < m → pos n t idx (ss a) < r → pos n t idx (ss a) ≤ pos n t idx (ss b)
theorem invN_start : InvN n t idx m ss 0 (fun _ => 0) 0 :=
  ⟨fun _ _ _ _ h => by omega, fun _ _ _ _ h => by omega, fun _ _ h => by omega, fun _ _ ⟨_, _, h⟩ => by omega, fun _ => rfl⟩
theorem invN_skip {r : Nat} {nm : Nat → Nat} {kinds : Nat} (hI : InvN n t idx m ss r nm kinds) (hno : ∀ a, a < m → pos n t idx (ss a) ≠ r) : InvN n t idx m ss (r + 1) nm kinds ∧ ∀ b, LastN n t idx m ss r nm kinds b → LastN n t idx m ss (r + 1) nm kinds b := by
  have k : ∀ a, a < m → pos n t idx (ss a) < r + 1 → pos n t idx (ss a) < r := fun a ha hp => by have := hno a ha; omega
  refine ⟨⟨fun a b ha hb p q => hI.eq a b ha hb (k a ha p) (k b hb q), fun a b ha hb p q => hI.le a b ha hb (k a ha p) (k b hb q), fun a ha p => hI.top a ha (k a ha p), fun c hc ⟨a, ha, p⟩ => ?_, fun h => hI.none fun a ha => by have := h a ha; omega⟩, fun b hb => ⟨hb.1, by have := hb.2.1; omega, hb.2.2.1, fun a ha p => hb.2.2.2 a ha (k a ha p)⟩⟩
  obtain ⟨x, x1, x2, x3⟩ := hI.some c hc ⟨a, ha, k a ha p⟩
  exact ⟨x, x1, by omega, x3⟩
theorem invN_put (h : Txt n t) (ho : Ord n t idx) (H : Starts n t m ss) {r : Nat} {nm : Nat → Nat} {kinds kinds2 s : Nat} (hI : InvN n t idx m ss r nm kinds) (hs : s < m) (hp : pos n t idx (ss s) = r)
    (hk : (kinds2 = 0 ∧ ∀ a, a < m → r ≤ pos n t idx (ss a)) ∨ ∃ b, LastN n t idx m ss r nm kinds b ∧ ((piece n t (ss b) = piece n t (ss s) ∧ kinds2 = kinds) ∨ (piece n t (ss b) ≠ piece n t (ss s) ∧ kinds2 = kinds + 1))) :
    InvN n t idx m ss (r + 1) (updN nm s kinds2) kinds2 ∧ LastN n t idx m ss (r + 1) (updN nm s kinds2) kinds2 s := by
  have lt : ∀ a, a < m → lms n t (ss a) := H.is
  have pin : ∀ a, a < m → pos n t idx (ss a) = r → a = s := fun a ha he => H.inj ha hs (pos_inj h ho (lt a ha).2.1 (lt s hs).2.1 (by rw [he, hp]))
  have old : ∀ a, a < m → pos n t idx (ss a) < r + 1 → a ≠ s → pos n t idx (ss a) < r := fun a ha p e => by
    have : pos n t idx (ss a) ≠ r := fun e2 => e (pin a ha e2)
    omega
  have ne : ∀ a, a < m → pos n t idx (ss a) < r → a ≠ s := fun a _ p e => by subst e; omega
  -- what is known of those that were named
  have key : ∀ a, a < m → pos n t idx (ss a) < r → nm a ≤ kinds2 ∧ (nm a = kinds2 ↔ piece n t (ss a) = piece n t (ss s)) := by
    intro a ha p
    rcases hk with ⟨_, hn⟩ | ⟨b, hb, hk⟩
    · have := hn a ha; omega
    · have e1 := hI.eq a b ha hb.1 p hb.2.1
      have e2 := hI.top a ha p
      rw [hb.2.2.1] at e1
      rcases hk with ⟨g1, rfl⟩ | ⟨g1, rfl⟩
      · exact ⟨e2, by rw [e1, g1]⟩
      · refine ⟨by omega, ⟨fun e => by omega, fun e => ?_⟩⟩
        exfalso
        have hb3 := hb.2.2.2 a ha p
        by_cases c : a = b
        · subst c; exact g1 e
        · have hlt : pos n t idx (ss a) < pos n t idx (ss b) := by
            have : pos n t idx (ss a) ≠ pos n t idx (ss b) := fun x => c (H.inj ha hb.1 (pos_inj h ho (lt a ha).2.1 (lt b hb.1).2.1 x))
            omega
          have m1 := (pos_iff h ho (lt a ha).2.1 (lt b hb.1).2.1).1 hlt
          have m2 := (pos_iff h ho (lt b hb.1).2.1 (lt s hs).2.1).1 (by have := hb.2.1; omega)
          exact g1 ((piece_mid h (lt a ha).2.1 (lt b hb.1).2.1 (lt s hs).2.1 e m1 m2).symm.trans e)
  refine ⟨⟨fun a b ha hb p q => ?_, fun a b ha hb p q o => ?_, fun a ha p => ?_, fun c hc _ => ?_, fun hn => ?_⟩, hs, by omega, updN_same _ _ _, fun a ha p => by omega⟩
  · by_cases e1 : a = s <;> by_cases e2 : b = s
    · subst e1; subst e2; simp
    · subst e1
      rw [updN_same, updN_ne _ _ e2]
      have := (key b hb (old b hb q e2)).2
      exact ⟨fun x => (this.1 x.symm).symm, fun x => (this.2 x.symm).symm⟩
    · subst e2
      rw [updN_same, updN_ne _ _ e1]
      exact (key a ha (old a ha p e1)).2
    · rw [updN_ne _ _ e1, updN_ne _ _ e2]
      exact hI.eq a b ha hb (old a ha p e1) (old b hb q e2)
  · by_cases e1 : a = s <;> by_cases e2 : b = s
    · subst e1; subst e2; exact Nat.le_refl _
    · subst e1
      have := old b hb q e2
      omega
    · subst e2
      rw [updN_same, updN_ne _ _ e1]
      exact (key a ha (old a ha p e1)).1
    · rw [updN_ne _ _ e1, updN_ne _ _ e2]
      exact hI.le a b ha hb (old a ha p e1) (old b hb q e2) o
  · by_cases e1 : a = s
    · subst e1; rw [updN_same]; exact Nat.le_refl _
    · rw [updN_ne _ _ e1]
      exact (key a ha (old a ha p e1)).1
  · by_cases e : c = kinds2
    · exact ⟨s, hs, by omega, by rw [updN_same, e]⟩
    · rcases hk with ⟨g0, _⟩ | ⟨b, hb, hk⟩
      · omega
      · obtain ⟨a, a1, a2, a3⟩ := hI.some c (by omega) ⟨b, hb.1, hb.2.1⟩
        exact ⟨a, a1, by omega, by rw [updN_ne _ _ (ne a a1 a2)]; exact a3⟩
  · have := hn s hs; omega
/-! ### the text of names -/
theorem red_txt (h : Txt n t) (h2 : 2 ≤ n) (ho : Ord n t idx) (H : Starts n t m ss) {nm : Nat → Nat} {kinds : Nat} (hI : InvN n t idx m ss n nm kinds) : Txt m nm ∧ ∀ k, k < m → nm k ≤ kinds := by
  have hm := H.pos h h2
  have hl := H.last h h2
  have pl : ∀ a, a < m → pos n t idx (ss a) < n := fun a ha => pos_lt (H.is a ha).2.1
  obtain ⟨a, a1, a2, a3⟩ := hI.some 0 (Nat.zero_le _) ⟨0, hm, pl 0 hm⟩
  have hz : nm (m - 1) = 0 := by
    have := hI.le (m - 1) a (by omega) a1 (pl _ (by omega)) a2 (by rw [hl, (pos_last h h2).1]; exact Nat.zero_le _)
    omega
  refine ⟨⟨hm, hz, fun i hi => ?_⟩, fun k hk => hI.top k hk (pl k hk)⟩
  rcases Nat.eq_zero_or_pos (nm i) with e | e
  · have e2 := (hI.eq i (m - 1) (by omega) (by omega) (pl _ (by omega)) (pl _ (by omega))).1 (by rw [e, hz])
    rw [hl] at e2
    have e3 := piece_last h (H.is i (by omega)).2.1 e2
    have := H.up i (m - 1) (by omega) (by omega)
    omega
  · exact e
theorem red_sl (h : Txt n t) (h2 : 2 ≤ n) (ho : Ord n t idx) (H : Starts n t m ss) {nm : Nat → Nat} {kinds : Nat} (hI : InvN n t idx m ss n nm kinds) :
    ∀ {d a b : Nat}, d = m - a → a < m → b < m → sl m nm a b → sl n t (ss a) (ss b) := by
  have pl : ∀ a, a < m → pos n t idx (ss a) < n := fun a ha => pos_lt (H.is a ha).2.1
  have ln : ∀ a, a < m → ss a < n := fun a ha => (H.is a ha).2.1
  intro d
  induction d with
  | zero => intro a b hd ha; omega
  | succ d ih =>
    intro a b hd ha hb hs
    rcases sl_iff.1 hs with ⟨_, _, c⟩ | ⟨c, g⟩
    · have hne : piece n t (ss a) ≠ piece n t (ss b) := fun e => by
        have := (hI.eq a b ha hb (pl a ha) (pl b hb)).2 e; omega
      refine (piece_ne (idx := idx) h (ln a ha) (ln b hb) hne).1.1 ?_
      rw [← pos_iff h ho (ln a ha) (ln b hb)]
      rcases Nat.lt_or_ge (pos n t idx (ss a)) (pos n t idx (ss b)) with x | x
      · exact x
      · have := hI.le b a hb ha (pl b hb) (pl a ha) x; omega
    · obtain ⟨g1, g2⟩ := sl_lt g
      have he := (hI.eq a b ha hb (pl a ha) (pl b hb)).1 c
      obtain ⟨a1, a2⟩ := H.next h g1
      obtain ⟨b1, b2⟩ := H.next h g2
      have hne : ss a ≠ ss b := fun e => by
        have := H.inj ha hb e
        subst this
        exact sl_irr _ hs
      rw [piece_eq h (ln a ha) (ln b hb) he hne (by rw [a2]; exact ln _ g1) (by rw [b2]; exact ln _ g2), a2, b2]
      exact ih (by omega) g1 g2 g
theorem red_iff (h : Txt n t) (h2 : 2 ≤ n) (ho : Ord n t idx) (H : Starts n t m ss) {nm : Nat → Nat} {kinds : Nat} (hI : InvN n t idx m ss n nm kinds) {a b : Nat} (ha : a < m) (hb : b < m) : sl m nm a b ↔ sl n t (ss a) (ss b) := by
  refine ⟨red_sl h h2 ho H hI rfl ha hb, fun hs => ?_⟩
  by_cases e : a = b
  · subst e; exact absurd hs (sl_irr _)
  · rcases sl_tri (red_txt h h2 ho H hI).1 rfl ha hb e with c | c
    · exact c
    · exact absurd (red_sl h h2 ho H hI rfl hb ha c) (sl_asymm hs)
/-- where all names differ, the pieces' order is the suffixes' -/
theorem names_sorted (h : Txt n t) (ho : Ord n t idx) (H : Starts n t m ss) {nm : Nat → Nat} {kinds : Nat} (hI : InvN n t idx m ss n nm kinds) (hk : kinds + 1 = m) {a b : Nat} (ha : a < m) (hb : b < m) : pos n t idx (ss a) < pos n t idx (ss b) ↔ sl n t (ss a) (ss b) := by
  have pl : ∀ a, a < m → pos n t idx (ss a) < n := fun a ha => pos_lt (H.is a ha).2.1
  have ln : ∀ a, a < m → ss a < n := fun a ha => (H.is a ha).2.1
  rw [pos_iff h ho (ln a ha) (ln b hb)]
  by_cases e : a = b
  · subst e; exact ⟨fun x => absurd x (lx_irr _), fun x => absurd x (sl_irr _)⟩
  · refine (piece_ne (idx := idx) h (ln a ha) (ln b hb) fun he => ?_).1
    have hnm := (hI.eq a b ha hb (pl a ha) (pl b hb)).2 he
    -- each name has a start: so no two have one
    have hs : ∀ c, c < m → ∃ x, x < m ∧ nm x = c := fun c hc => by
      obtain ⟨x, x1, _, x3⟩ := hI.some c (by omega) ⟨a, ha, pl a ha⟩
      exact ⟨x, x1, x3⟩
    let g : Nat → Nat := fun c => if hc : c < m then Classical.choose (hs c hc) else 0
    have hg : ∀ c, c < m → g c < m ∧ nm (g c) = c := fun c hc => by
      have := Classical.choose_spec (hs c hc)
      show (if hc : c < m then Classical.choose (hs c hc) else 0) < m ∧ nm (if hc : c < m then Classical.choose (hs c hc) else 0) = c
      rw [dif_pos hc]; exact this
    have sg := surj (n := m) (f := g) (fun c hc => (hg c hc).1) (fun c d hc hd x => by
      have h1 := (hg c hc).2
      have h2 := (hg d hd).2
      rw [x] at h1
      omega)
    obtain ⟨c, c1, c2⟩ := sg a ha
    obtain ⟨d, d1, d2⟩ := sg b hb
    have h1 := (hg c c1).2
    have h2 := (hg d d1).2
    rw [c2] at h1
    rw [d2] at h2
    have : c = d := by omega
    subst this
    omega
end
end Go.Proofs.YtglndihdhaaccaaDoor.SA

namespace Go.Proofs.YtglndihdhaaccaaDoor
open Go.RowKit
open Go.Proofs.YtglndihdhaaccaaDoor.SA
abbrev jV (x : Int) : Value := .int .i32 x
def tabJ (n : Nat) (f : Nat → Int) : Array Value := ((List.range n).map fun i => jV (f i)).toArray
def tabB (n : Nat) (f : Nat → Bool) : Array Value := ((List.range n).map fun i => Value.bool (f i)).toArray
def tabI (n : Nat) (f : Nat → Int) : Array Value := ((List.range n).map fun i => iV (f i)).toArray
theorem tabJ_size {n : Nat} {f : Nat → Int} : (tabJ n f).size = n := by simp [tabJ]
theorem tabB_size {n : Nat} {f : Nat → Bool} : (tabB n f).size = n := by simp [tabB]
theorem tabI_size {n : Nat} {f : Nat → Int} : (tabI n f).size = n := by simp [tabI]
theorem tabJ_at {n i : Nat} {f : Nat → Int} (h : i < n) : (tabJ n f)[i]? = some (jV (f i)) := by simp [tabJ, h]
theorem tabB_at {n i : Nat} {f : Nat → Bool} (h : i < n) : (tabB n f)[i]? = some (.bool (f i)) := by simp [tabB, h]
theorem tabI_at {n i : Nat} {f : Nat → Int} (h : i < n) : (tabI n f)[i]? = some (iV (f i)) := by simp [tabI, h]
theorem tabJ_congr {n : Nat} {f g : Nat → Int} (h : ∀ i, i < n → f i = g i) : tabJ n f = tabJ n g := by
  unfold tabJ
  congr 1
  exact List.map_congr_left fun i hi => by rw [h i (List.mem_range.1 hi)]
theorem tabB_congr {n : Nat} {f g : Nat → Bool} (h : ∀ i, i < n → f i = g i) : tabB n f = tabB n g := by
  unfold tabB
  congr 1
  exact List.map_congr_left fun i hi => by rw [h i (List.mem_range.1 hi)]
theorem tabI_congr {n : Nat} {f g : Nat → Int} (h : ∀ i, i < n → f i = g i) : tabI n f = tabI n g := by
  unfold tabI
  congr 1
  exact List.map_congr_left fun i hi => by rw [h i (List.mem_range.1 hi)]
theorem tabJ_set {n i : Nat} {f : Nat → Int} {v : Int} : (tabJ n f).setIfInBounds i (jV v) = tabJ n (upd f i v) := by
  apply Array.ext_getElem?
  intro j
  rw [Array.getElem?_setIfInBounds, tabJ_size]
  by_cases hj : j < n
  · rw [tabJ_at hj, tabJ_at hj]
    by_cases e : i = j
    · subst e; rw [if_pos rfl, if_pos hj, upd_same]
    · rw [if_neg e, upd_ne _ _ (fun h => e h.symm)]
  · rw [Array.getElem?_eq_none (xs := tabJ n (upd f i v)) (by rw [tabJ_size]; omega), Array.getElem?_eq_none (xs := tabJ n f) (by rw [tabJ_size]; omega)]
    split
    · rw [if_neg (by omega)]
    · rfl
theorem tabI_set {n i : Nat} {f : Nat → Int} {v : Int} : (tabI n f).setIfInBounds i (iV v) = tabI n (upd f i v) := by
  apply Array.ext_getElem?
  intro j
  rw [Array.getElem?_setIfInBounds, tabI_size]
  by_cases hj : j < n
  · rw [tabI_at hj, tabI_at hj]
    by_cases e : i = j
    · subst e; rw [if_pos rfl, if_pos hj, upd_same]
    · rw [if_neg e, upd_ne _ _ (fun h => e h.symm)]
  · rw [Array.getElem?_eq_none (xs := tabI n (upd f i v)) (by rw [tabI_size]; omega), Array.getElem?_eq_none (xs := tabI n f) (by rw [tabI_size]; omega)]
    split
    · rw [if_neg (by omega)]
    · rfl
def updB (f : Nat → Bool) (k : Nat) (v : Bool) : Nat → Bool := fun x => if x = k then v else f x
theorem tabB_set {n i : Nat} {f : Nat → Bool} {v : Bool} : (tabB n f).setIfInBounds i (Value.bool v) = tabB n (updB f i v) := by
  apply Array.ext_getElem?
  intro j
  rw [Array.getElem?_setIfInBounds, tabB_size]
  by_cases hj : j < n
  · rw [tabB_at hj, tabB_at hj]
    unfold updB
    by_cases e : i = j
    · subst e; rw [if_pos rfl, if_pos hj, if_pos rfl]
    · rw [if_neg e, if_neg (fun h => e h.symm)]
  · rw [Array.getElem?_eq_none (xs := tabB n (updB f i v)) (by rw [tabB_size]; omega), Array.getElem?_eq_none (xs := tabB n f) (by rw [tabB_size]; omega)]
    split
    · rw [if_neg (by omega)]
    · rfl
theorem tabJ_zero (n : Nat) : (List.replicate n (Value.int .i32 0)).toArray = tabJ n fun _ => 0 := by
  apply Array.ext_getElem?
  intro j
  by_cases hj : j < n
  · rw [tabJ_at hj]; simp [hj]
  · rw [Array.getElem?_eq_none (xs := tabJ n fun _ => 0) (by rw [tabJ_size]; omega), Array.getElem?_eq_none (by simpa using hj)]
theorem tabI_zero (n : Nat) : (List.replicate n (Value.int .i64 0)).toArray = tabI n fun _ => 0 := by
  apply Array.ext_getElem?
  intro j
  by_cases hj : j < n
  · rw [tabI_at hj]; simp [hj]
  · rw [Array.getElem?_eq_none (xs := tabI n fun _ => 0) (by rw [tabI_size]; omega), Array.getElem?_eq_none (by simpa using hj)]
theorem tabB_zero (n : Nat) : (List.replicate n (Value.bool false)).toArray = tabB n fun _ => false := by
  apply Array.ext_getElem?
  intro j
  by_cases hj : j < n
  · rw [tabB_at hj]; simp [hj]
  · rw [Array.getElem?_eq_none (xs := tabB n fun _ => false) (by rw [tabB_size]; omega), Array.getElem?_eq_none (by simpa using hj)]
/-- a block whose first cells are numbers of 32 bits -/
def VJ (w : World) (g K : Nat) (f : Nat → Int) : Prop := ∃ cur : Array Value, Blk w g 21 cur ∧ K ≤ cur.size ∧ ∀ i, i < K → cur[i]? = some (jV (f i))
theorem VJ.of_blk {w : World} {g n : Nat} {f : Nat → Int} (h : Blk w g 21 (tabJ n f)) : VJ w g n f := ⟨_, h, by rw [tabJ_size]; exact Nat.le_refl _, fun _ hi => tabJ_at hi⟩
theorem VJ.congr {w : World} {g K : Nat} {f f2 : Nat → Int} (h : VJ w g K f) (e : ∀ i, i < K → f i = f2 i) : VJ w g K f2 := by
  obtain ⟨cur, h1, h2, h3⟩ := h
  exact ⟨cur, h1, h2, fun i hi => by rw [h3 i hi, e i hi]⟩
theorem VJ.rd {w : World} {g K i : Nat} {f : Nat → Int} (h : VJ w g K f) (hi : i < K) : w.cell? ⟨g, i, none⟩ = some (jV (f i)) := by
  obtain ⟨cur, h1, h2, h3⟩ := h
  exact h1.rd i (h3 i hi)
theorem VJ.from_ {w w' : World} {g K : Nat} {f : Nat → Int} (h : VJ w g K f) (hF : From w w') : VJ w' g K f := by
  obtain ⟨cur, h1, h2⟩ := h
  exact ⟨cur, h1.from_ hF, h2⟩
theorem VJ.only {w w' : World} {g g2 K : Nat} {f : Nat → Int} (h : VJ w g K f) (o : Only g2 w w') (hne : g ≠ g2) : VJ w' g K f := by
  obtain ⟨cur, h1, h2⟩ := h
  exact ⟨cur, h1.only o hne, h2⟩
theorem VJ.grown {w w' : World} {g K : Nat} {f : Nat → Int} {r : Option Nat} (h : VJ w g K f) (hg : w.grownBy w' r) (hne : ∀ q, r = some q → q ≠ g) : VJ w' g K f := by
  obtain ⟨cur, h1, h2⟩ := h
  exact ⟨cur, h1.grown hg hne, h2⟩
theorem VJ.put {w : World} {g K i : Nat} {f : Nat → Int} {v : Int} {cur : Array Value} (h : Blk w g 21 (cur.setIfInBounds i (jV v))) (hs : K ≤ cur.size) (hc : ∀ i, i < K → cur[i]? = some (jV (f i))) (hi : i < K) : VJ w g K (upd f i v) := by
  refine ⟨_, h, by rw [Array.size_setIfInBounds]; exact hs, fun j hj => ?_⟩
  rw [Array.getElem?_setIfInBounds]
  by_cases e : i = j
  · subst e; rw [if_pos rfl, if_pos (by omega), upd_same]
  · rw [if_neg e, upd_ne _ _ (fun h => e h.symm)]; exact hc j hj
theorem VJ.range {w : World} {g K k : Nat} {f : Nat → Int} (h : VJ w g K f) (hk : k ≤ K) : w.rangeAt g 0 ((List.range k).map fun i => jV (f i)) := fun j v hv => by
  have hj : j < k := by
    rcases Nat.lt_or_ge j k with a | a
    · exact a
    · rw [List.getElem?_eq_none (by simpa using a)] at hv
      cases hv
  have e := h.rd (show j < K by omega)
  simp [hj] at hv
  rw [Nat.zero_add, e, ← hv]
theorem VJ.lt {w : World} {g K : Nat} {f : Nat → Int} (h : VJ w g K f) : g < w.heap.size := by
  obtain ⟨cur, h1, _⟩ := h
  exact h1.lt
theorem VJ.own {w : World} {base g K c : Nat} {f : Nat → Int} (h : w.ownsRow base 21 1 (.slice (some ⟨g, 0, none⟩) K c) K (((List.range K).map f).map jV)) (h0 : 0 < K) : VJ w g K f ∧ base ≤ g := by
  obtain ⟨g', cur, hA, hg, hb, h1, h2, h3, h4⟩ := own_blk h h0
  cases hA
  refine ⟨⟨_, hb, by rw [List.size_toArray, h3]; omega, fun i hi => ?_⟩, hg⟩
  rw [List.getElem?_toArray]
  have e := congrArg (fun l => l[i]?) h4
  rw [List.getElem?_take, if_pos (by omega)] at e
  rw [e]
  simp [hi]
section
variable {P : Program} {ρ : Operand → Value} {w : World} {t yt : TypeId} {x y : Operand}
theorem i32_in {a : Int} (h : -2147483648 ≤ a ∧ a ≤ 2147483647) : IntKind.i32.wrap a = a := by
  have e : ((2 : Int) ^ IntKind.i32.bits) = 4294967296 := by decide
  have e2 : ((2 : Int) ^ (IntKind.i32.bits - 1)) = 2147483648 := by decide
  unfold IntKind.wrap
  simp only [e, e2, show IntKind.i32.signed = true from rfl, Bool.true_and, decide_eq_true_eq]
  split <;> omega
theorem ro_add32 {a b r : Int} (hx : ρ x = .int .i32 a) (hy : ρ y = .int .i32 b) (he : a + b = r) (h : -2147483648 ≤ r ∧ r ≤ 2147483647) : RO P ρ (.binOp .add t x y yt) w (.int .i32 r) w := by
  have := ro_add (P := P) (ρ := ρ) (w := w) (t := t) (yt := yt) hx hy
  rwa [he, i32_in h] at this
theorem ro_sub32 {a b r : Int} (hx : ρ x = .int .i32 a) (hy : ρ y = .int .i32 b) (he : a - b = r) (h : -2147483648 ≤ r ∧ r ≤ 2147483647) : RO P ρ (.binOp .sub t x y yt) w (.int .i32 r) w := by
  have := ro_sub (P := P) (ρ := ρ) (w := w) (t := t) (yt := yt) hx hy
  rwa [he, i32_in h] at this
theorem ro_conv32 {src dst : TypeId} {k : IntKind} {a : Int} (hs : (P.underlying src).isSome = true) (hd : P.underlying dst = some (.int .i32)) (hx : ρ x = .int k a) (h : -2147483648 ≤ a ∧ a ≤ 2147483647) : RO P ρ (.convert src dst x) w (.int .i32 a) w :=
  ro_conv' hs hd hx (i32_in h)
theorem ro_make {e by_ m : Nat} {z : Value} {kl kc : IntKind} (ht : makeQ P t = some (e, by_, z)) (hz : z.cells = #[z]) (hx : ρ x = .int kl (m : Nat)) (hy : ρ y = .int kc (m : Nat)) (hm : m ≤ 9223372036854775807) (hb : by_ * m ≤ 281474976710656) :
    RO P ρ (.makeSlice t x y) w (.slice (some ⟨w.heap.size, 0, none⟩) m m) (w.alloc (.cells (List.replicate m z).toArray e)) := by
  unfold makeQ at ht
  split at ht
  · rename_i e' hu
    cases hi : P.info? e' with
    | none => simp [hi] at ht
    | some i =>
      rw [hi] at ht
      simp only [Option.bind_some] at ht
      split at ht
      · rename_i hs
        cases hzz : i.zero with
        | none => simp [hzz] at ht
        | some z' =>
          simp only [hzz, Option.map_some, Option.some.injEq, Prod.mk.injEq] at ht
          obtain ⟨rfl, rfl, rfl⟩ := ht
          have hr := run_make (P := P) w t e' i z' hu hi hzz kl kc (m : Int) (m : Int) (by omega) (Int.le_refl _) (by
            have : ((i.bytes * m : Nat) : Int) ≤ 281474976710656 := by omega
            rwa [Int.natCast_mul] at this) (by omega)
          have hcells : madeCells z'.cells ((m : Int).toNat * i.size) = (List.replicate m z').toArray := by
            rw [hs, Int.toNat_natCast, Nat.mul_one, hz]
            apply Array.ext_getElem?
            intro j
            simp only [madeCells, Array.getElem?_map]
            by_cases hj : j < m
            · simp [hj, Nat.mod_one]
            · simp [hj]
          rw [hcells, Int.toNat_natCast] at hr
          exact fun _ _ _ _ _ => by simp [execOp, hx, hy, hr]
      · cases ht
  · cases ht
end
/-! ### a text -/
section
open Classical
noncomputable def rb (n : Nat) (t : Nat → Nat) (i : Nat) : Bool := decide (rz n t i)
theorem rb_iff {n i : Nat} {t : Nat → Nat} : rb n t i = true ↔ rz n t i := decide_eq_true_iff
theorem rb_not {n i : Nat} {t : Nat → Nat} : rb n t i = false ↔ ¬ rz n t i := decide_eq_false_iff_not
end
def TextAt (w : World) (b n K : Nat) (t : Nat → Nat) (m : Nat) (ss : Nat → Nat) : Prop := ∃ gl gr AS cs ge, Blk w b 124 #[.slice (some ⟨gl, 0, none⟩) n n, .int .i64 (K : Nat), .slice (some ⟨gr, 0, none⟩) n n, .slice AS m cs, .slice (some ⟨ge, 0, none⟩) K K] ∧
  VJ w gl n (fun i => (t i : Nat)) ∧ Blk w gr 4 (tabB n (rb n t)) ∧ (0 < m → ∃ g, AS = some ⟨g, 0, none⟩ ∧ VJ w g m (fun k => (ss k : Nat))) ∧ VJ w ge K (fun c => (less n t (c + 1) : Nat))
theorem TextAt.from_ {w w' : World} {b n K m : Nat} {t ss : Nat → Nat} (h : TextAt w b n K t m ss) (hF : From w w') : TextAt w' b n K t m ss := by
  obtain ⟨gl, gr, AS, cs, ge, h1, h2, h3, h4, h5⟩ := h
  exact ⟨gl, gr, AS, cs, ge, h1.from_ hF, h2.from_ hF, h3.from_ hF, fun h0 => (let ⟨g, a, b⟩ := h4 h0; ⟨g, a, b.from_ hF⟩), h5.from_ hF⟩
end Go.Proofs.YtglndihdhaaccaaDoor

namespace Go.Proofs.YtglndihdhaaccaaDoor
open Go.RowKit
open Go.ChangeShapes Go.WideShapes Go.ChangeAt
open Go.Proofs.YtglndihdhaaccaaDoor.SA
theorem SufWalks_e60 : elemQ Tryd.prog 60 = some (3, 1) := by kernel_rfl
theorem SufWalks_e81 : elemQ Tryd.prog 81 = some (21, 1) := by kernel_rfl
theorem SufWalks_l60 : (elemQ Tryd.prog 60).isSome = true := by kernel_rfl
theorem SufWalks_g3 : aggQ Tryd.prog 3 = some false := by kernel_rfl
theorem SufWalks_m81 : makeQ Tryd.prog 81 = some (21, 4, (.int .i32 0)) := by kernel_rfl
theorem SufWalks_s3 : (Tryd.prog.underlying 3).isSome = true := by kernel_rfl
theorem SufWalks_i21 : Tryd.prog.underlying 21 = some (.int .i32) := by kernel_rfl
theorem SufWalks_z21 : sizeQ Tryd.prog 21 = some 1 := by kernel_rfl
theorem SufWalks_q81 : litQ Tryd.prog 81 = some (21, 1, 4, (.int .i32 0)) := by kernel_rfl
theorem SufWalks_u81 : Tryd.prog.underlying 81 = some (.slice 21) := by kernel_rfl
def okS (k x : Int) : Bool := decide (0 ≤ x) && decide (x < k)
theorem okS_no {k x : Int} (h : x < 0 ∨ k ≤ x) : okS k x = false := by
  unfold okS
  rcases h with h | h
  · rw [decide_eq_false (by omega)]; rfl
  · rw [decide_eq_false (p := x < k) (by omega), Bool.and_false]
theorem okS_yes {k x : Int} (h : 0 ≤ x) (g : x < k) : okS k x = true := by
  unfold okS
  rw [decide_eq_true h, decide_eq_true g]; rfl
theorem okS_iff {k x : Int} : okS k x = true ↔ 0 ≤ x ∧ x < k := by simp [okS]
theorem all_take {p : Int → Bool} {l : List Int} {i : Nat} (hi : i < l.length) (h : (l.take i).all p = true) (hp : p l[i] = true) : (l.take (i + 1)).all p = true := by
  rw [List.take_succ_eq_append_getElem hi, List.all_append, h]; simp [hp]
theorem all_end {p : Int → Bool} {l : List Int} {i : Nat} (hi : ¬ i < l.length) (h : (l.take i).all p = true) : l.all p = true := by
  rwa [List.take_of_length_le (by omega)] at h
theorem all_no {p : Int → Bool} {l : List Int} {i : Nat} (hi : i < l.length) (hp : p l[i] = false) : l.all p = false := by
  rw [Bool.eq_false_iff]
  intro h
  have := List.all_eq_true.1 h _ (List.getElem_mem hi)
  rw [hp] at this
  cases this
set_option maxHeartbeats 400000 in
theorem symbols_rt (A : Option Addr) (c n : Nat) (xs : List Int) (w : World) (hr : RowOf iV w A xs) (hn : n = xs.length) (hl : n ≤ 1000000000000) :
    Rt Tryd.prog 39 [.slice A n c] w (fun v w' => v = .bool (xs.all (okS 512)) ∧ From w w') := by
  refine enter (n := 18) Tryd.func39 rfl rfl rfl ?_
  refine cd_seq (cd_region ?_)
  refine asb rfl ?_
  refine st_nil (nx_then (cd_seq (cd_seq (cd_region ?_))))
  refine mvs rfl ?_
  refine st_val (ro_len SufWalks_l60 rfl) ?_
  refine mvi rfl ?_
  refine st_nil (nx_then (cd_block ?_))
  refine cd_loop (G := Nat) [2, 4, 8, 9, 10, 11, 12, 13, 14, 15, 16, 17] (fun k => [(7, .int .i64 (k : Nat))]) (fun k w' => k ≤ n ∧ (xs.take k).all (okS 512) = true ∧ From w w') (fun k => n - k) (0) ⟨rfl, trivial⟩ ?_ ?_
  · exact ⟨Nat.zero_le _, rfl, From.rfl_⟩
  rintro k ρ1 w1 ⟨hk, ht, hB⟩
  refine cd_seq (cd_region ?_)
  refine st_val (ro_lss rfl rfl) ?_
  refine st_nil (nx_then (cd_seq ?_))
  refine cd_cond rfl (fun Q2 => ?_) (fun Q2 => ?_)
  · with_reducible replace Q2 := of_decide_eq_true Q2
    have hkn : k < xs.length := by omega
    obtain ⟨ba, oa, rfl, hca⟩ := hr (by omega)
    refine cd_skip (nx_then (cd_seq (cd_block (cd_seq (cd_region ?_)))))
    refine st_val (ro_indexAddr1 SufWalks_e60 rfl rfl (by omega)) ?_
    refine st_val (ro_load SufWalks_g3 rfl (by exact cellF hB (hca k hkn))) ?_
    refine asi rfl ?_
    refine st_nil (nx_then (cd_seq (cd_region ?_)))
    refine mvi rfl ?_
    refine st_val (ro_lss rfl rfl) ?_
    refine mvb rfl ?_
    refine st_split (t := 13) rfl (fun Q3 => ?_) (fun Q3 => ?_)
    · with_reducible replace Q3 := of_decide_eq_true Q3
      refine st_gno rfl rfl ?_
      refine st_gno rfl rfl ?_
      refine st_val (ro_pickT (v := .bool _) rfl rfl) ?_
      refine st_nil (nx_then ?_)
      refine cd_condT rfl ?_
      refine cd_seq (cd_region ?_)
      refine asb rfl ?_
      refine st_nil (nx_then (cd_ret (rt_block (rt_then (rt_then (rt_block (rt_then ?_)))))))
      refine res1 (v := .bool _) rfl rfl ?_
      exact ⟨by rw [all_no hkn (okS_no (by omega))], hB⟩
    with_reducible replace Q3 := of_decide_eq_false Q3
    refine st_unguard rfl ?_
    refine mvi rfl ?_
    refine st_unguard rfl ?_
    refine st_val (ro_geq rfl rfl) ?_
    refine st_val (ro_pickF (v := .bool _) rfl rfl) ?_
    refine st_nil (nx_then ?_)
    refine cd_cond rfl (fun Q4 => ?_) (fun Q4 => ?_)
    · with_reducible replace Q4 := of_decide_eq_true Q4
      refine cd_seq (cd_region ?_)
      refine asb rfl ?_
      refine st_nil (nx_then (cd_ret (rt_block (rt_then (rt_then (rt_block (rt_then ?_)))))))
      refine res1 (v := .bool _) rfl rfl ?_
      exact ⟨by rw [all_no hkn (okS_no (by omega))], hB⟩
    with_reducible replace Q4 := of_decide_eq_false Q4
    refine cd_skip (nx_block (nx_then (cd_region ?_)))
    refine st_val (ro_addN (b := 1) rfl rfl (by omega)) ?_
    refine mvi rfl ?_
    refine st_nil ?_
    refine nx_cut (k + 1) ⟨(by first | rfl | (refine int_eq ?_; omega)), trivial⟩ (by (iterate 26 refine agr_cons rfl ?_); exact agr_rfl) ⟨?_, ?_⟩
    · exact ⟨by omega, all_take hkn ht (okS_yes (by omega) (by omega)), hB⟩
    · show n - (k + 1) < n - k; omega
  with_reducible replace Q2 := of_decide_eq_false Q2
  refine cd_exit ?_
  refine ex_then (ex_then (ex_block (nx_then (cd_seq (cd_region ?_)))))
  refine asb rfl ?_
  refine st_nil (nx_then (cd_ret ?_))
  refine res1 (v := .bool _) rfl rfl ?_
  exact ⟨by rw [all_end (by omega) ht], hB⟩
/-- a list with its end, as a text -/
def endT (L : List Nat) (i : Nat) : Nat := if h : i < L.length then L[i] + 1 else 0
def endTo (L : List Nat) (k : Nat) (i : Nat) : Int := if i < k then (endT L i : Int) else 0
theorem endTo_put {L : List Nat} {k n : Nat} : tabJ n (upd (endTo L k) k (endT L k : Nat)) = tabJ n (endTo L (k + 1)) := tabJ_congr fun i _ => by
  unfold upd endTo
  by_cases e : i = k
  · subst e; rw [if_pos rfl, if_pos (by omega)]
  · rw [if_neg e]
    by_cases h : i < k
    · rw [if_pos h, if_pos (by omega)]
    · rw [if_neg h, if_neg (by omega)]
theorem endTo_all {L : List Nat} : tabJ (L.length + 1) (endTo L L.length) = tabJ (L.length + 1) fun i => (endT L i : Nat) := tabJ_congr fun i hi => by
  unfold endTo
  by_cases h : i < L.length
  · rw [if_pos h]
  · rw [if_neg h]; unfold endT; rw [dif_neg h]; rfl
theorem endT_txt (L : List Nat) : Txt (L.length + 1) (endT L) := ⟨by omega, by unfold endT; rw [dif_neg (by omega)], fun i hi => by unfold endT; rw [dif_pos (by omega)]; omega⟩
set_option maxHeartbeats 400000 in
theorem withEnd_rt (A : Option Addr) (c n : Nat) (L : List Nat) (w : World) (hr : RowOf iV w A (L.map fun x : Nat => (x : Int))) (hn : n = L.length) (hl : n ≤ 131072) (hx : ∀ x ∈ L, x < 512) :
    Rt Tryd.prog 45 [.slice A n c] w (fun v w' => (∃ g, v = .slice (some ⟨g, 0, none⟩) (n + 1) (n + 1) ∧ w.heap.size ≤ g ∧ Blk w' g 21 (tabJ (n + 1) fun i => (endT L i : Nat))) ∧ From w w') := by
  refine enter (n := 25) Tryd.func45 rfl rfl rfl ?_
  refine cd_seq (cd_region ?_)
  refine ass rfl ?_
  refine st_nil (nx_then (cd_seq (cd_region ?_)))
  refine mvs rfl ?_
  refine st_val (ro_len SufWalks_l60 rfl) ?_
  refine st_val (ro_addN (b := 1) rfl rfl (by omega)) ?_
  refine st_make SufWalks_m81 rfl rfl rfl (by omega) (by omega) ?_
  intro b9 w1 E9 hb9 hk9
  have hg9 : w.heap.size ≤ b9 := Nat.le_of_eq hb9.symm
  refine ass rfl ?_
  refine st_nil (nx_then (cd_seq (cd_seq (cd_region ?_))))
  refine mvs rfl ?_
  refine st_val (ro_len SufWalks_l60 rfl) ?_
  refine mvi rfl ?_
  refine st_nil (nx_then (cd_block ?_))
  refine cd_loop (G := Nat) [4, 5, 13, 14, 15, 16, 17, 18, 19, 20, 21, 22, 23] (fun k => [(12, .int .i64 (k : Nat))]) (fun k w' => k ≤ n ∧ Blk w' b9 21 (tabJ (n + 1) (endTo L k)) ∧ From w w') (fun k => n - k) (0) ⟨rfl, trivial⟩ ?_ ?_
  · refine ⟨Nat.zero_le _, ?_, (From.rfl_.next E9)⟩
    rw [tabJ_zero] at hk9
    exact hk9
  rintro k ρ2 w2 ⟨hk, hT, hB⟩
  refine cd_seq (cd_region ?_)
  refine st_val (ro_lss rfl rfl) ?_
  refine st_nil (nx_then (cd_seq ?_))
  refine cd_cond rfl (fun Q3 => ?_) (fun Q3 => ?_)
  · with_reducible replace Q3 := of_decide_eq_true Q3
    have hkn : k < L.length := by omega
    obtain ⟨ba, oa, rfl, hca⟩ := hr (by rw [List.length_map]; omega)
    have hck := hca k (by rw [List.length_map]; omega)
    rw [List.getElem_map] at hck
    have hend : endT L k = L[k] + 1 := by unfold endT; rw [dif_pos hkn]
    have hxk := hx _ (List.getElem_mem hkn)
    refine cd_skip (nx_then (cd_seq (cd_block (cd_seq (cd_region ?_)))))
    refine mvi rfl ?_
    refine st_val (ro_indexAddr1 SufWalks_e60 rfl rfl (by omega)) ?_
    refine st_val (ro_load SufWalks_g3 rfl (by exact cellF hB hck)) ?_
    refine asi rfl ?_
    refine asi rfl ?_
    refine st_nil (nx_then (cd_region ?_))
    refine mvs rfl ?_
    refine mvi rfl ?_
    refine mvi rfl ?_
    refine st_val (ro_conv32 SufWalks_s3 SufWalks_i21 rfl (by omega)) ?_
    refine st_val (ro_add32 rfl rfl (r := (endT L k : Nat)) (by rw [hend]; omega) (by rw [hend]; omega)) ?_
    refine st_val (ro_indexAddr0 SufWalks_e81 rfl rfl (by omega)) ?_
    refine st_put (v := .int _ _) SufWalks_z21 rfl rfl rfl (hT) (by rw [tabJ_size]; omega) ?_
    intro w4 O5 P5
    have P5b : Blk w4 b9 21 (tabJ (n + 1) (endTo L (k + 1))) := by rw [← endTo_put, ← tabJ_set]; exact P5
    refine st_nil (nx_block (nx_then (cd_region ?_)))
    refine st_val (ro_addN (b := 1) rfl rfl (by omega)) ?_
    refine mvi rfl ?_
    refine st_nil ?_
    refine nx_cut (k + 1) ⟨(by first | rfl | (refine int_eq ?_; omega)), trivial⟩ (by (iterate 28 refine agr_cons rfl ?_); exact agr_rfl) ⟨?_, ?_⟩
    · exact ⟨by omega, P5b, (hB.only O5 (hg9))⟩
    · show n - (k + 1) < n - k; omega
  with_reducible replace Q3 := of_decide_eq_false Q3
  refine cd_exit ?_
  refine ex_then (ex_then (ex_block (nx_then (cd_seq (cd_region ?_)))))
  refine mvs rfl ?_
  refine ass rfl ?_
  refine st_nil (nx_then (cd_ret ?_))
  refine res1 (v := .slice _ _ _) rfl rfl ?_
  obtain rfl : k = n := by omega
  exact ⟨⟨b9, rfl, hg9, by subst hn; rw [← endTo_all]; exact hT⟩, hB⟩
set_option maxHeartbeats 400000 in
theorem clone32_rt (A : Option Addr) (c n : Nat) (xs : List Value) (w : World) (hx : xs.length = n * 1) (hr : 0 < n → ∃ b o, A = some ⟨b, o, none⟩ ∧ w.rangeAt b o xs) (hn0 : A = none → n = 0 ∧ c = 0) (h1 : ∀ u ∈ xs, u.oneCell' = true) (hl : n ≤ 100000000000) :
    Rt Tryd.prog 52 [.slice A n c] w (fun v w' => (∃ A' c', v = .slice A' n c' ∧ w'.ownsRow w.heap.size 21 1 (.slice A' n c') n xs) ∧ From w w') := by
  refine enter (n := 8) Tryd.func52 rfl rfl rfl ?_
  refine cd_seq (cd_region ?_)
  refine ass rfl ?_
  refine st_nil (nx_then (cd_seq (cd_seq (cd_region ?_))))
  refine mvs rfl ?_
  refine st_val (ro_eqlNilS SufWalks_u81 rfl rfl) ?_
  refine st_nil (nx_then ?_)
  refine cd_cond rfl (fun Q1 => ?_) (fun Q1 => ?_)
  · (try first | (replace Q1 := bn_t Q1; trace "@MK N clone32_rt:c4+ 1.1") | (replace Q1 := bn_f Q1; trace "@MK N clone32_rt:c4+ 1.2"))
    (try first | (replace Q1 := bx_t Q1; trace "@MK N clone32_rt:c4+ 2.1") | (replace Q1 := bx_f Q1; trace "@MK N clone32_rt:c4+ 2.2") | (replace Q1 := be_t Q1; trace "@MK N clone32_rt:c4+ 2.3") | (replace Q1 := be_f Q1; trace "@MK N clone32_rt:c4+ 2.4") | (replace Q1 := of_decide_eq_true Q1; trace "@MK N clone32_rt:c4+ 2.5") | (replace Q1 := of_decide_eq_false Q1; trace "@MK N clone32_rt:c4+ 2.6"))
    obtain rfl : A = none := Option.isNone_iff_eq_none.1 Q1
    obtain ⟨rfl, rfl⟩ := hn0 rfl
    obtain rfl : xs = [] := List.eq_nil_of_length_eq_zero (by omega)
    refine cd_seq (cd_region ?_)
    refine ass rfl ?_
    refine st_nil (nx_then (cd_ret (rt_then ?_)))
    refine res1 (v := .slice _ _ _) rfl rfl ?_
    exact ⟨⟨none, 0, rfl, World.ownsRow_nil _ _ _ _⟩, From.rfl_⟩
  (try first | (replace Q1 := bn_t Q1; trace "@MK N clone32_rt:c4- 1.1") | (replace Q1 := bn_f Q1; trace "@MK N clone32_rt:c4- 1.2"))
  (try first | (replace Q1 := bx_t Q1; trace "@MK N clone32_rt:c4- 2.1") | (replace Q1 := bx_f Q1; trace "@MK N clone32_rt:c4- 2.2") | (replace Q1 := be_t Q1; trace "@MK N clone32_rt:c4- 2.3") | (replace Q1 := be_f Q1; trace "@MK N clone32_rt:c4- 2.4") | (replace Q1 := of_decide_eq_true Q1; trace "@MK N clone32_rt:c4- 2.5") | (replace Q1 := of_decide_eq_false Q1; trace "@MK N clone32_rt:c4- 2.6"))
  have hA4 : A = none → c = 0 := fun h => by rw [h] at Q1; cases Q1
  refine cd_skip (nx_then (cd_seq (cd_region ?_)))
  refine st_lit0 SufWalks_q81 _ (From.rfl_.size) ?_
  intro b5 w2 E5 hb5 ho5
  refine mvs rfl ?_
  refine st_append (a0 := w) SufWalks_q81 rfl (by decide) rfl ho5 (From.rfl_.next E5) rfl hx (fun h => (let ⟨b, o, hA, hc⟩ := hr h; ⟨b, o, hA, rangeF (From.rfl_.next E5) hc⟩)) hA4 h1 (by omega) (by omega) ?_
  intro A7 c7 w3 ho7 B7 hg7
  refine ass rfl ?_
  refine st_nil (nx_then (cd_ret ?_))
  refine res1 (v := .slice _ _ _) rfl rfl ?_
  exact ⟨⟨A7, c7, by rw [Nat.zero_add], by simpa using ho7⟩, B7⟩
theorem clone_vj (g n : Nat) (t : Nat → Int) (w : World) (hb : VJ w g n t) (h0 : 0 < n) (hl : n ≤ 1000000) : Rt Tryd.prog 52 [.slice (some ⟨g, 0, none⟩) n n] w fun v w' => (∃ g2 c2, v = .slice (some ⟨g2, 0, none⟩) n c2 ∧ w.heap.size ≤ g2 ∧ VJ w' g2 n t) ∧ From w w' := by
  refine (clone32_rt (some ⟨g, 0, none⟩) n n (((List.range n).map t).map jV) w (by simp) (fun _ => ⟨g, 0, rfl, fun j v hv => ?_⟩) (fun h => by cases h) (fun u hu => ?_) (by omega)).mono fun v w' h => ?_
  · have hj : j < n := by
      rcases Nat.lt_or_ge j n with a | a
      · exact a
      · rw [List.getElem?_eq_none (by simpa using a)] at hv
        cases hv
    have e := hb.rd hj
    simp [hj] at hv
    rw [Nat.zero_add, e, ← hv]
  · obtain ⟨x, _, rfl⟩ := List.mem_map.1 hu
    rfl
  · obtain ⟨⟨A2, c2, rfl, ho⟩, hF⟩ := h
    obtain ⟨g2, rfl⟩ := own_some ho h0
    exact ⟨⟨g2, c2, rfl, (VJ.own ho h0).2, (VJ.own ho h0).1⟩, hF⟩
end Go.Proofs.YtglndihdhaaccaaDoor
