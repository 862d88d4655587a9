/- A region that draws its order, by an invariant of what has run: operations, stores among them, in every order that the region lets. -/
import Derived.Test.YtpafbgdbjambgaaMgBwtLawR1
import Derived.Test.YtpafbgdbjambgaaRows
import Derived.ProofKit
import Derived.Deep.Slices
import Derived.Deep.Fields
import Derived.ChangeSame
import Derived.SizedLaws
import Derived.Deep.DeepHandedRow
import Derived.Lib.LaidTab
import Derived.OpenShut
import Derived.Laws.CopyRow
import Derived.Lib.LazyBuf
import Derived.Lib.AppendZerosOnto
import Derived.Lib.Overlaps
namespace Go.Proofs.Ytpafbgdbjambgaa
open Go.RowKit

/-- of the slots Ex nothing is claimed any more -/
def lookE (Ex : List Nat) (RL : List (Nat × (Value → World → Prop))) (t : Nat) : Value → World → Prop := bif Ex.elem t then fun _ _ => True else lookR RL t
theorem lookE_mono {Ex : List Nat} {l : List (Nat × (Value → World → Prop))} (h : MonoR l) : ∀ t v w1 w2, From w1 w2 → lookE Ex l t v w1 → lookE Ex l t v w2 := by
  intro t v w1 w2 hF h1
  unfold lookE at h1 ⊢
  cases hb : Ex.elem t with
  | true => trivial
  | false => rw [hb] at h1; exact lookR_mono h t v w1 w2 hF h1
theorem lookE_of {Ex : List Nat} {l : List (Nat × (Value → World → Prop))} : ∀ t v w, lookR l t v w → lookE Ex l t v w := by
  intro t v w h
  unfold lookE
  cases hb : Ex.elem t with
  | true => trivial
  | false => exact h
/-- what the slots' predicates bear of the change: from w1 to w2; d is the slot that the change yields -/
def MuR (Ex : List Nat) (d : Nat) (w1 w2 : World) : List (Nat × (Value → World → Prop)) → Prop
  | [] => True
  | (k, R) :: r => ((Ex.elem k || Nat.beq k d) = true ∨ ∀ u, R u w1 → R u w2) ∧ MuR Ex d w1 w2 r
theorem muR_look {Ex : List Nat} {d : Nat} {w1 w2 : World} : ∀ {RL : List (Nat × (Value → World → Prop))}, MuR Ex d w1 w2 RL → ∀ t u, t ≠ d → lookR RL t u w1 → lookE Ex RL t u w2
  | [], _, t, u, _, _ => by unfold lookE; cases Ex.elem t <;> trivial
  | (k, R) :: r, ⟨h1, h2⟩, t, u, hd, h => by
    have e : lookR ((k, R) :: r) t = bif Nat.beq t k then R else lookR r t := rfl
    have ih := muR_look h2 t u hd
    unfold lookE at ih ⊢
    rw [e] at h ⊢
    cases hx : Ex.elem t with
    | true => trivial
    | false =>
      rw [hx] at ih
      simp only [cond_false] at ih ⊢
      cases hb : Nat.beq t k with
      | true =>
        have hk : t = k := Nat.eq_of_beq_eq_true hb
        subst hk
        rw [hb] at h
        rcases h1 with h1 | h1
        · rw [hx, Bool.false_or] at h1
          exact absurd (Nat.eq_of_beq_eq_true h1) hd
        · exact h1 u h
      | false => rw [hb] at h; exact ih h
/-- it waits for j: itself, or by one that it waits for -/
def dep2 (l : List Oper) (o : Oper) (j : Nat) : Bool := hasEdge o j || o.after.toList.any fun e => Region.binds .any e && match l[e.on]? with | some o' => hasEdge o' j | none => false
/-- what is done has all done that it waited for -/
def ClosedD (l : List Oper) (listed : Array Bool) : Prop := ∀ i o, l[i]? = some o → listed.getD i false = true → ∀ e ∈ o.after, Region.binds .any e = true → listed.getD e.on false = true
theorem dep_listed {l : List Oper} {listed : Array Bool} (hcl : ClosedD l listed) {o : Oper} {j : Nat} (hall : ∀ e ∈ o.after, Region.binds .any e = true → listed.getD e.on false = true) (h : dep2 l o j = true) : listed.getD j false = true := by
  have direct : ∀ (x : Oper), (∀ e ∈ x.after, Region.binds .any e = true → listed.getD e.on false = true) → hasEdge x j = true → listed.getD j false = true := by
    intro x hx he
    obtain ⟨e, he, he2⟩ := List.any_eq_true.1 he
    simp only [Bool.and_eq_true, beq_iff_eq] at he2
    have := hx e (by simpa using he) he2.1
    rwa [he2.2] at this
  unfold dep2 at h
  rcases Bool.or_eq_true_iff.1 h with h | h
  · exact direct o hall h
  · obtain ⟨e, he, he2⟩ := List.any_eq_true.1 h
    simp only [Bool.and_eq_true] at he2
    have h1 := hall e (by simpa using he) he2.1
    cases ho : l[e.on]? with
    | none => rw [ho] at he2; cases he2.2
    | some o' =>
      rw [ho] at he2
      exact direct o' (hcl e.on o' ho h1) he2.2
theorem closed_set {l : List Oper} {listed : Array Bool} (hcl : ClosedD l listed) {i : Nat} {o : Oper} (ho : l[i]? = some o) (hall : ∀ e ∈ o.after, Region.binds .any e = true → listed.getD e.on false = true) : ClosedD l (listed.setIfInBounds i true) := by
  have up : ∀ k, listed.getD k false = true → (listed.setIfInBounds i true).getD k false = true := by
    intro k hk
    by_cases e : i = k
    · subst e
      have : i < listed.size := by
        rcases Nat.lt_or_ge i listed.size with h | h
        · exact h
        · simp [Array.getD, show ¬ i < listed.size by omega] at hk
      simp [this]
    · rw [getD_set_ne false e]; exact hk
  intro k x hx hk e he hb
  by_cases h : i = k
  · subst h
    rw [ho] at hx
    cases hx
    exact up _ (hall e he hb)
  · rw [getD_set_ne false h] at hk
    exact up _ (hcl k x hx hk e he hb)
theorem closed_none (l : List Oper) (n : Nat) : ClosedD l (Array.replicate n false) := by
  intro i o _ h
  simp [Array.getD] at h
/-- the slots that operation i of the head looks at as its writer has left them (not those whose writer waits for i) -/
def oldD (l : List Oper) (K i t : Nat) : Bool := (List.range K).any fun j => match l[j]? with | some oj => (oj.dst == some t) && dep2 l oj i | none => false
def slotsD (l : List Oper) (K i : Nat) (o : Oper) : List Nat := (preOf l K).filter fun t => (o.looksAt l.toArray).elem t && !oldD l K i t
def OpsOK8 (P : Program) (ops : Array Oper) (n : Fr) (L : List (Nat × Value)) (I2 : World → Prop) (R1 R2 : Nat → Value → World → Prop) (l0 : List Oper) (K : Nat) (mu : Nat) : Nat → List Oper → Prop
  | _, [] => True
  | i, o :: r => (Nat.beq i mu = false → ∀ w', I2 w' → AllF R2 w' (slotsD l0 K i o) fun M => OpOK P ops n (M ++ L) o w' (R1 (o.dst.getD 0))) ∧ OpsOK8 P ops n L I2 R1 R2 l0 K mu (i + 1) r
theorem opsOK8_at {P : Program} {ops : Array Oper} {n : Fr} {L : List (Nat × Value)} {I2 : World → Prop} {R1 R2 : Nat → Value → World → Prop} {l0 : List Oper} {K mu : Nat} : ∀ {l : List Oper} {k : Nat}, OpsOK8 P ops n L I2 R1 R2 l0 K mu k l → ∀ (i : Nat) (o : Oper), l[i]? = some o → k + i ≠ mu →
    ∀ w', I2 w' → AllF R2 w' (slotsD l0 K (k + i) o) fun M => OpOK P ops n (M ++ L) o w' (R1 (o.dst.getD 0))
  | [], _, _, i, o, h, _ => by simp at h
  | x :: r, k, ⟨h1, h2⟩, 0, o, h, hne => by
    simp only [List.getElem?_cons_zero, Option.some.injEq] at h
    subst h
    rw [Nat.add_zero] at hne ⊢
    refine h1 ?_
    rw [← Bool.not_eq_true]
    intro hb
    exact hne (Nat.eq_of_beq_eq_true hb)
  | x :: r, k, ⟨h1, h2⟩, i + 1, o, h, hne => by
    have := opsOK8_at h2 i o (by simpa using h) (by omega)
    rwa [show k + 1 + i = k + (i + 1) by omega] at this
theorem opsOK8_at0 {P : Program} {ops : Array Oper} {n : Fr} {L : List (Nat × Value)} {I2 : World → Prop} {R1 R2 : Nat → Value → World → Prop} {l0 : List Oper} {K mu : Nat} {l : List Oper} (h : OpsOK8 P ops n L I2 R1 R2 l0 K mu 0 l) (i : Nat) (o : Oper) (ho : l[i]? = some o) (hne : i ≠ mu)
    (w' : World) (hw : I2 w') : AllF R2 w' (slotsD l0 K i o) fun M => OpOK P ops n (M ++ L) o w' (R1 (o.dst.getD 0)) := by
  have := opsOK8_at h i o ho (by rw [Nat.zero_add]; exact hne) w' hw
  rwa [Nat.zero_add] at this
/-- the change: it yields a value, in a world, so -/
def MuOK (P : Program) (ops : Array Oper) (n : Fr) (L : List (Nat × Value)) (o : Oper) (w : World) (post : Value → World → Prop) : Prop :=
  Region.wanted o (yielded ops (mkT n.n L)) = true ∧ ((∃ v w', (execOp (ev n L) o).run P w = .ok (.value v) w' ∧ post v w') ∨ (∃ f l, (execOp (ev n L) o).run P w = .ok (.enter f (List.toArray l)) w ∧ Rt P f l w post))
def MuAt (P : Program) (ops : Array Oper) (n : Fr) (L : List (Nat × Value)) (I1 I2 : World → Prop) (R1 R2 : Nat → Value → World → Prop) (l0 : List Oper) (K mu : Nat) : Option Oper → Prop
  | none => True
  | some o => ∀ w', I1 w' → AllF R1 w' (slotsD l0 K mu o) fun M => MuOK P ops n (M ++ L) o w' fun v w'' => I2 w'' ∧ R2 (o.dst.getD 0) v w'' ∧ ∀ t u, t ≠ o.dst.getD 0 → R1 t u w' → R2 t u w''
def isLateD (l : List Oper) (K j : Nat) : Bool := (List.range l.length).any fun i => decide (K ≤ i) && (match l[i]? with | some o => !dep2 l o j | none => false)
def lateD (l : List Oper) (K : Nat) : Bool :=
  (List.range K).all fun j => !isLateD l K j || match l[j]? with
    | none => false
    | some o => lateK o.op && o.guard.isNone && o.dst.isSome && (List.range l.length).all fun i => i == j || match l[i]? with
      | none => false
      | some y => (if i < K then !isLateD l K i else dep2 l y j) || o.apart l.toArray y
/-- the region's shape -/
def monoD (l : List Oper) (K : Nat) : Bool :=
  let ops := l.toArray
  let dst (i : Nat) : Option Nat := (l[i]?).bind (·.dst)
  (decide (K ≤ l.length) &&
  (List.range l.length).all fun i => match l[i]? with
    | none => false
    | some o =>
      (o.after.toList.all fun e => !Region.binds .any e || decide (e.on < i)) && !isSelect o.op &&
      (if i < K then
        (match o.dst with
         | none => false
         | some d => (List.range K).all (fun j => j == i || dst j != some d) && !((o.looksAt ops).elem d)) &&
        (List.range K).all (fun j => match dst j with
          | none => false
          | some d => !(o.looksAt ops).elem d || oldD l K i d || (decide (j < i) && dep2 l o j))
       else (List.range i).all (fun j => dep2 l o j || decide (j < K)))) && lateD l K

section late
variable {P : Program} {Q : Exit → Act → World → Prop} {n : Fr} {L : List (Nat × Value)} {w : World} {l : List Oper} {K : Nat} {R : Nat → Value → World → Prop}
theorem late_specD (hc : lateD l K = true) {j : Nat} {o : Oper} (hj : j < K) (ho : l[j]? = some o) (hl : isLateD l K j = true) :
    lateK o.op = true ∧ o.guard = none ∧ ∀ i y, l[i]? = some y → i ≠ j → ((i < K ∧ isLateD l K i = true) ∨ (K ≤ i ∧ dep2 l y j = false)) → o.apart l.toArray y = true := by
  have h := List.all_eq_true.1 hc j (List.mem_range.2 hj)
  rw [hl, ho] at h
  simp only [Bool.not_true, Bool.false_or, Bool.and_eq_true] at h
  refine ⟨h.1.1.1, by simpa using h.1.1.2, fun i y hi hne hcase => ?_⟩
  have h2 := List.all_eq_true.1 h.2 i (List.mem_range.2 (List.getElem?_eq_some_iff.1 hi).1)
  rw [hi] at h2
  simp only [beq_iff_eq, hne, Bool.or_eq_true, false_or] at h2
  rcases hcase with ⟨h3, h4⟩ | ⟨h3, h4⟩
  · simp [h3, h4] at h2
    exact h2
  · simp [show ¬ i < K by omega, h4] at h2
    exact h2
theorem nonlate_edgeD {i j : Nat} {o : Oper} (hl : isLateD l K j = false) (ho : l[i]? = some o) (hi : K ≤ i) : dep2 l o j = true := by
  unfold isLateD at hl
  have := List.any_eq_false.1 hl i (List.mem_range.2 (List.getElem?_eq_some_iff.1 ho).1)
  rw [ho] at this
  simpa [hi] using this
/-- behind the head: one order, but for the late ones -/
theorem tail_lateD (hQ : PQ Q) (hc : monoD l K = true) {f : Nat → Value} : ∀ (m k : Nat) (listed : Array Bool) (U : List Nat) (a : Act) (w' : World), ClosedD l listed → listed.toList.count false = m → listed.size = l.length → K ≤ k → k ≤ l.length →
    (∀ j, K ≤ j → j < l.length → listed.getD j true = decide (j < k)) → U.Nodup → (∀ j, j < K → (listed.getD j true = false ↔ j ∈ U)) → (∀ j ∈ U, j < K ∧ isLateD l K j = true ∧ ∃ o, l[j]? = some o ∧ Yields P l.toArray o (f j) a) →
    wpList P l.toArray Q (l.drop k) (pend l f U a) w' → wpAny P .any l.toArray Q m listed a w' := by
  have hc1 := (Bool.and_eq_true_iff.1 hc).1
  have hlate := (Bool.and_eq_true_iff.1 hc).2
  have hKl : K ≤ l.length := of_decide_eq_true (Bool.and_eq_true_iff.1 hc1).1
  have hck := (List.all_eq_true.1 (Bool.and_eq_true_iff.1 hc1).2)
  intro m
  induction m with
  | zero =>
    intro k listed U a w' hcl hcount hs hK hkl htail hn hU hUl h
    have hall : ∀ j, j < l.length → listed.getD j true = true := by
      intro j hj
      have hm : listed[j]'(by omega) ∈ listed.toList := by simp
      cases hb : listed[j]'(by omega) with
      | true => simp [Array.getD, show j < listed.size by omega, hb]
      | false =>
        rw [hb] at hm
        exact absurd hcount (Nat.pos_iff_ne_zero.1 (List.count_pos_iff.2 hm))
    have hU0 : U = [] := by
      rw [List.eq_nil_iff_forall_not_mem]
      intro j hj
      have h1 := (hU j (hUl j hj).1).2 hj
      rw [hall j (by have := (hUl j hj).1; omega)] at h1
      cases h1
    have hke : k = l.length := by
      rcases Nat.lt_or_ge k l.length with hlt | hge
      · have h1 := htail k hK hlt
        rw [hall k hlt] at h1
        simp at h1
      · omega
    subst hU0 hke
    refine ⟨?_, by simpa [pend, wpList] using h⟩
    rw [List.eq_nil_iff_forall_not_mem]
    intro j hj
    obtain ⟨h0, o, ho, _⟩ := mem_ready.1 hj
    rw [List.getElem?_toArray] at ho
    rw [hall j (List.getElem?_eq_some_iff.1 ho).1] at h0
    cases h0
  | succ m ih =>
    intro k listed U a w' hcl hcount hs hK hkl htail hn hU hUl h
    have hex : ∃ i, i < l.length ∧ listed.getD i true = false := by
      obtain ⟨i, hi, hb⟩ := List.mem_iff_getElem.1 (List.count_pos_iff.1 (by rw [hcount]; omega : 0 < listed.toList.count false))
      have hi' : i < listed.size := by simpa using hi
      exact ⟨i, by omega, by simpa [Array.getD, hi'] using hb⟩
    obtain ⟨i0, hi0, hmin⟩ := exists_least hex
    have hready : i0 ∈ Region.ready .any l.toArray listed := by
      refine mem_ready.2 ⟨hi0.2, l[i0]'hi0.1, by rw [List.getElem?_toArray, List.getElem?_eq_getElem hi0.1], fun e he hb => ?_⟩
      have hx := hck i0 (List.mem_range.2 hi0.1)
      rw [List.getElem?_eq_getElem hi0.1] at hx
      simp only [Bool.and_eq_true] at hx
      have he2 := List.all_eq_true.1 hx.1.1 e (by simpa using he)
      rw [hb] at he2
      simp at he2
      rw [← getD_true_false (by omega)]
      cases hb2 : listed.getD e.on true with
      | true => rfl
      | false => exact absurd (hmin e.on ⟨by omega, hb2⟩) (by omega)
    refine ⟨fun h0 => (by rw [h0] at hready; cases hready), fun i hi => ?_⟩
    obtain ⟨h0, o, ho, hall⟩ := mem_ready.1 hi
    rw [List.getElem?_toArray] at ho
    have hil : i < l.length := (List.getElem?_eq_some_iff.1 ho).1
    have hx := hck i (List.mem_range.2 hil)
    rw [ho] at hx
    simp only [Bool.and_eq_true] at hx
    have hsel : isSelect o.op = false := by simpa using hx.1.2
    have hcnt : (listed.setIfInBounds i true).toList.count false = m := by
      have hil' : i < listed.size := by omega
      have hfalse : listed.toList[i]? = some false := by
        rw [Array.getElem?_toList, Array.getElem?_eq_getElem hil']
        simp [Array.getD, hil'] at h0
        rw [h0]
      rw [Array.toList_setIfInBounds]
      have := count_set_true (l := listed.toList) (i := i) hfalse
      omega
    by_cases hiK : i < K
    · -- a late one
      have hiU := (hU i hiK).1 h0
      obtain ⟨_, hil8, o', ho', hy⟩ := hUl i hiU
      rw [ho] at ho'
      cases ho'
      obtain ⟨_, _, hap⟩ := late_specD hlate hiK ho hil8
      refine Yields.wpOp (by rw [List.getElem?_toArray]; exact ho) hy ?_
      have he : a.put o.dst (f i) = a.put ((l[i]?).bind (·.dst)) (f i) := by rw [ho]; rfl
      refine ih k _ (U.erase i) _ w' (closed_set hcl ho hall) hcnt (by simpa using hs) hK hkl (fun j h1 h2 => by rw [getD_set_ne true (by omega)]; exact htail j h1 h2) (hn.erase i) (fun j hj => ?_) (fun j hj => ?_) ?_
      · by_cases e : i = j
        · subst e
          simp [hs, hil, hn.not_mem_erase]
        · rw [getD_set_ne true e, hU j hj]
          exact (List.mem_erase_of_ne (Ne.symm e)).symm
      · have hjU := List.mem_of_mem_erase hj
        obtain ⟨h1, h2, oj, h3, h4⟩ := hUl j hjU
        have hne : i ≠ j := fun e => by subst e; exact (hn.not_mem_erase) hj
        obtain ⟨_, _, hapj⟩ := late_specD hlate h1 h3 h2
        have hxj := hck j (List.mem_range.2 (by omega))
        rw [h3] at hxj
        simp only [Bool.and_eq_true] at hxj
        exact ⟨h1, h2, oj, h3, (yields_put (by simpa using hxj.1.2) (hapj i o ho hne (.inl ⟨hiK, hil8⟩))).2 h4⟩
      · rw [he, pend_erase U a hiU hn (fun j hj hne d hd => ?_)]
        · exact h
        · obtain ⟨h1, h2, oj, h3, h4⟩ := hUl j hj
          have h5 := (Oper.apart_spec (hap j oj h3 hne (.inl ⟨h1, h2⟩))).2.1 d (by rw [ho] at hd; exact hd)
          rw [h3]
          exact h5
    · -- the next of the tail
      have hik : i = k := by
        rw [htail i (by omega) hil] at h0
        have h0' : k ≤ i := by simpa using h0
        rcases Nat.eq_or_lt_of_le h0' with e | hlt
        · exact e.symm
        · exfalso
          have h3 := hx.2
          rw [if_neg hiK] at h3
          have h4 := List.all_eq_true.1 h3 k (List.mem_range.2 hlt)
          simp only [show ¬ k < K by omega, decide_false, Bool.or_false] at h4
          have h5 := dep_listed hcl hall h4
          rw [← getD_true_false (by omega), htail k hK (by omega)] at h5
          simp at h5
      subst hik
      have hdrop : l.drop i = o :: l.drop (i + 1) := by
        rw [List.drop_eq_getElem_cons hil]
        rw [List.getElem?_eq_getElem hil] at ho
        cases ho
        rfl
      rw [hdrop] at h
      have hk2 : wpOp P l.toArray Q i (wpList P l.toArray Q (l.drop (i + 1))) (pend l f U a) w' := by
        unfold wpOp
        rw [List.getElem?_toArray, ho]
        exact h
      have hne : ∀ j ∈ U, j ≠ i := fun j hj e => by have := (hUl j hj).1; omega
      have hk3 := wpOp_pend hQ ho hsel U _ a hn (fun j hj => by
        obtain ⟨h1, h2, oj, h3, h4⟩ := hUl j hj
        obtain ⟨_, _, hapj⟩ := late_specD hlate h1 h3 h2
        have hxj := hck j (List.mem_range.2 (by omega))
        rw [h3] at hxj
        simp only [Bool.and_eq_true] at hxj
        refine ⟨oj, h3, by simpa using hxj.1.2, hapj i o ho (Ne.symm (hne j hj)) (.inr ⟨by omega, ?_⟩), h4, fun j' hj' hne' => ?_⟩
        · cases hE : dep2 l o j with
          | false => rfl
          | true =>
            have h5 := dep_listed hcl hall hE
            rw [← getD_true_false (by omega), (hU j h1).2 hj] at h5
            cases h5
        · obtain ⟨h1', h2', oj', h3', _⟩ := hUl j' hj'
          exact ⟨oj', h3', hapj j' oj' h3' hne' (.inl ⟨h1', h2'⟩)⟩) hk2
      refine wpOp_mono (fun a' w'' hh => ?_) hk3
      refine ih (i + 1) _ U a' w'' (closed_set hcl ho hall) hcnt (by simpa using hs) (by omega) (by omega) (fun j h1 h2 => ?_) hn (fun j hj => ?_) (fun j hj => ?_) hh.2
      · by_cases e : i = j
        · subst e
          simp [hs, hil]
        · rw [getD_set_ne true e, htail j h1 h2]
          have : (j < i + 1) ↔ (j < i) := by omega
          simp [this]
      · rw [getD_set_ne true (by omega)]
        exact hU j hj
      · obtain ⟨h1, h2, oj, h3, _⟩ := hUl j hj
        exact ⟨h1, h2, oj, h3, hh.1 j hj oj h3⟩
end late
section late
variable {P : Program} {Q : Exit → Act → World → Prop} {n : Fr} {L : List (Nat × Value)} {w : World} {l : List Oper} {K mu : Nat} {I1 I2 : World → Prop} {R1 R : Nat → Value → World → Prop}
theorem uniqD (hc : monoD l K = true) {j j' : Nat} {oj oj' : Oper} {t : Nat} (hj : j < K) (hj' : j' < K) (hoj : l[j]? = some oj) (hoj' : l[j']? = some oj') (hd : oj.dst = some t) (hd' : oj'.dst = some t) : j = j' := by
  have hc1 := (Bool.and_eq_true_iff.1 hc).1
  have hck := (List.all_eq_true.1 (Bool.and_eq_true_iff.1 hc1).2)
  have hx := hck j' (List.mem_range.2 (List.getElem?_eq_some_iff.1 hoj').1)
  rw [hoj'] at hx
  simp only [Bool.and_eq_true] at hx
  have h3 := hx.2
  rw [if_pos hj'] at h3
  simp only [Bool.and_eq_true] at h3
  have h3a := h3.1
  rw [hd'] at h3a
  simp only [Bool.and_eq_true] at h3a
  have h5 := List.all_eq_true.1 h3a.1 j (List.mem_range.2 hj)
  rw [hoj] at h5
  simpa [hd] using h5
theorem oldD_spec {i t : Nat} (h : oldD l K i t = true) : ∃ j oj, j < K ∧ l[j]? = some oj ∧ oj.dst = some t ∧ dep2 l oj i = true := by
  obtain ⟨j, hj, h2⟩ := List.any_eq_true.1 h
  cases hoj : l[j]? with
  | none => rw [hoj] at h2; cases h2
  | some oj =>
    rw [hoj] at h2
    simp only [Bool.and_eq_true, beq_iff_eq] at h2
    exact ⟨j, oj, List.mem_range.1 hj, hoj, h2.1, h2.2⟩
theorem slotsD_spec (hc : monoD l K = true) {i t : Nat} {o : Oper} (hi : i < K) (ho : l[i]? = some o) (ht : t ∈ slotsD l K i o) : (o.looksAt l.toArray).elem t = true ∧ ∃ j oj, j < K ∧ l[j]? = some oj ∧ oj.dst = some t ∧ j < i ∧ dep2 l o j = true := by
  obtain ⟨ht1, ht2⟩ := List.mem_filter.1 ht
  simp only [Bool.and_eq_true, Bool.not_eq_true'] at ht2
  obtain ⟨oj, hoj, hdj⟩ := List.mem_filterMap.1 ht1
  obtain ⟨j, hj⟩ := List.mem_iff_getElem?.1 hoj
  rw [List.getElem?_take] at hj
  split at hj
  · rename_i hjK
    refine ⟨ht2.1, j, oj, hjK, hj, hdj, ?_⟩
    have hc1 := (Bool.and_eq_true_iff.1 hc).1
    have hck := (List.all_eq_true.1 (Bool.and_eq_true_iff.1 hc1).2)
    have hx := hck i (List.mem_range.2 (List.getElem?_eq_some_iff.1 ho).1)
    rw [ho] at hx
    simp only [Bool.and_eq_true] at hx
    have h3 := hx.2
    rw [if_pos hi] at h3
    simp only [Bool.and_eq_true] at h3
    have h5 := List.all_eq_true.1 h3.2 j (List.mem_range.2 hjK)
    rw [hj] at h5
    have h6 : t ∈ o.looksAt l.toArray := by simpa using ht2.1
    simpa [hdj, h6, ht2.2] using h5
  · cases hj
theorem looksD (hc : monoD l K = true) {listed : Array Bool} (hcl : ClosedD l listed) (hs : listed.size = l.length) {i : Nat} {o : Oper} (_ho : l[i]? = some o) (hil : i < l.length) (h0 : listed.getD i true = false) {L' : List (Nat × Value)}
    (hfr : ∀ t, (∀ i o, i < K → l[i]? = some o → listed.getD i true = true → o.dst ≠ some t) → look L' t = look L t) : ∀ t, (o.looksAt l.toArray).elem t = true → look ((slotsD l K i o).map (fun d => (d, look L' d)) ++ L) t = look L' t := by
  intro t ht
  rw [look_map]
  split
  · rfl
  · rename_i hne
    refine (hfr t fun j oj hj hoj hlj hd => ?_).symm
    have hmem : t ∈ preOf l K := List.mem_filterMap.2 ⟨oj, List.mem_iff_getElem?.2 ⟨j, by rw [List.getElem?_take, if_pos hj]; exact hoj⟩, hd⟩
    cases hb : oldD l K i t with
    | false =>
      apply hne
      simp only [List.elem_eq_mem, decide_eq_true_eq]
      exact List.mem_filter.2 ⟨hmem, by rw [ht, hb]; rfl⟩
    | true =>
      obtain ⟨j', oj', hj', hoj', hd', hdep⟩ := oldD_spec hb
      have hjj := uniqD hc hj hj' hoj hoj' hd hd'
      subst hjj
      rw [hoj] at hoj'
      cases hoj'
      have hjl : j < l.length := (List.getElem?_eq_some_iff.1 hoj).1
      have h1 := dep_listed hcl (hcl j oj hoj (by rw [← getD_true_false (by omega)]; exact hlj)) hdep
      rw [← getD_true_false (by omega), h0] at h1
      cases h1
theorem late_fin8 (hQ : PQ Q) (hc : monoD l K = true) (hop : OpsOK8 P l.toArray n L I2 R1 R l K mu 0 (l.take K)) (h12 : ∀ t v w, R1 t v w → R t v w) (hmuL : mu < K → isLateD l K mu = false)
    (hend : ∀ w', I2 w' → AllF R w' (preOf l K) fun M => St P l.toArray Q (l.drop K) n (M ++ L) w') (m : Nat) (listed : Array Bool) (L' : List (Nat × Value)) (w' : World) (hcl : ClosedD l listed) (hcount : listed.toList.count false = m) (hs : listed.size = l.length)
    (htail : ∀ j, K ≤ j → j < l.length → listed.getD j true = false) (hF : I2 w')
    (hfr : ∀ t, (∀ i o, i < K → l[i]? = some o → listed.getD i true = true → o.dst ≠ some t) → look L' t = look L t)
    (hR : ∀ i o d, i < K → l[i]? = some o → listed.getD i true = true → o.dst = some d → R d (look L' d) w') (hpre : ∀ i, i < K → listed.getD i true = false → isLateD l K i = true) : wpAny P .any l.toArray Q m listed (mkA n L') w' := by
  have hc1 := (Bool.and_eq_true_iff.1 hc).1
  have hlate := (Bool.and_eq_true_iff.1 hc).2
  have hKl : K ≤ l.length := of_decide_eq_true (Bool.and_eq_true_iff.1 hc1).1
  have hck := (List.all_eq_true.1 (Bool.and_eq_true_iff.1 hc1).2)
  -- what is known of an operation of the head
  have hhead : ∀ i, i < K → ∃ o d, l[i]? = some o ∧ o.dst = some d ∧ isSelect o.op = false ∧ (∀ j oj, j < K → j ≠ i → l[j]? = some oj → oj.dst ≠ some d) := by
    intro i hi
    have hil : i < l.length := by omega
    have hx := hck i (List.mem_range.2 hil)
    rw [List.getElem?_eq_getElem hil] at hx
    simp only [Bool.and_eq_true] at hx
    have h3 := hx.2
    rw [if_pos hi] at h3
    simp only [Bool.and_eq_true] at h3
    obtain ⟨h3a, h3b⟩ := h3
    cases hod : (l[i]).dst with
    | none => rw [hod] at h3a; cases h3a
    | some d =>
      rw [hod] at h3a
      simp only [Bool.and_eq_true] at h3a
      refine ⟨l[i], d, List.getElem?_eq_getElem hil, hod, by simpa using hx.1.2, fun j oj hj hne hoj e => ?_⟩
      have h5 := List.all_eq_true.1 h3a.1 j (List.mem_range.2 hj)
      rw [hoj] at h5
      simp [hne, e] at h5
  -- the values of those that are still to come
  have hval : ∀ i, i < K → listed.getD i true = false → ∃ v, ∀ o d, l[i]? = some o → o.dst = some d → Yields P l.toArray o v (mkA n L') ∧ R d v w' := by
    intro i hi hf
    have hil8 := hpre i hi hf
    obtain ⟨o, d, ho, hd, hsel, _⟩ := hhead i hi
    obtain ⟨hk, hg, hap⟩ := late_specD hlate hi ho hil8
    have hfact : ∀ t ∈ slotsD l K i o, R t (look L' t) w' := by
      intro t ht
      obtain ⟨ht2, j, oj, hjK, hj, hdj, hji, _⟩ := slotsD_spec hc hi ho ht
      refine hR j oj t hjK hj ?_ hdj
      cases hb : listed.getD j true with
      | true => rfl
      | false =>
        have h6 := hpre j hjK hb
        have h7 := (Oper.apart_spec (hap j oj hj (by omega) (.inl ⟨hjK, h6⟩))).2.2 t hdj
        exact absurd (by simpa using ht2) h7
    have hlooks := looksD (L := L) hc hcl hs ho (by omega) hf hfr
    have hok := allF_at (look L') _ hfact (opsOK8_at0 hop i o (by rw [List.getElem?_take, if_pos hi]; exact ho) (by intro e; rw [e, hmuL (by omega)] at hil8; cases hil8) w' hF)
    obtain ⟨hE, hW⟩ := looksAt_agree (n := n) (ops := l.toArray) (o := o) hsel hlooks
    rw [hd] at hok
    simp only [Option.getD_some] at hok
    have hyl : ∃ v, Yields P l.toArray o v (mkA n L') ∧ R d v w' := by
      unfold OpOK at hok
      rw [hE, hW] at hok
      rcases hok with ⟨hw, ⟨v, w'', hr, hF', hRv⟩ | ⟨f, args, hr, hcall⟩⟩ | ⟨hw, hRv⟩
      · obtain ⟨rfl, hall⟩ := late_run hk hr
        refine ⟨v, .inl ⟨hw, fun w2 => ?_⟩, h12 _ _ _ hRv⟩
        rw [eval_mkA]
        exact hall w2
      · exfalso
        obtain ⟨dst, op, ty, pos, after, guard⟩ := o
        cases op <;> simp only [lateK, Bool.false_eq_true] at hk <;> simp only [execOp, Sem.run_pure, Sem.run_bind, Result.ok.injEq] at hr
        · cases hr.1
        · cases hr.1
        · rename_i x i'
          cases hx : ev n L' x <;> simp only [hx, Instr.extract] at hr <;> (try (simp at hr; done))
          rename_i vs
          cases hv : vs[i']? <;> simp [hv] at hr
      · exact ⟨undef, .inr ⟨hw, rfl⟩, h12 _ _ _ hRv⟩
    obtain ⟨v, hv1, hv2⟩ := hyl
    refine ⟨v, fun o' d' ho' hd' => ?_⟩
    rw [ho] at ho'
    cases ho'
    rw [hd] at hd'
    cases hd'
    exact ⟨hv1, hv2⟩
  obtain ⟨f, hf⟩ : ∃ f : Nat → Value, ∀ i, i < K → listed.getD i true = false → ∀ o d, l[i]? = some o → o.dst = some d → Yields P l.toArray o (f i) (mkA n L') ∧ R d (f i) w' := by
    refine ⟨fun i => open Classical in if h : ∃ v, ∀ o d, l[i]? = some o → o.dst = some d → Yields P l.toArray o v (mkA n L') ∧ R d v w' then h.choose else undef, fun i hi hl => ?_⟩
    have h := hval i hi hl
    simp only [dif_pos h]
    exact h.choose_spec
  have hUm : ∀ i, i ∈ (List.range K).filter (fun i => !listed.getD i true) ↔ i < K ∧ listed.getD i true = false := fun i => by
    rw [List.mem_filter, List.mem_range]
    simp
  obtain ⟨U, hU, hUn⟩ : ∃ U : List Nat, (∀ i, i ∈ U ↔ i < K ∧ listed.getD i true = false) ∧ U.Nodup := ⟨_, hUm, List.nodup_range.sublist (List.filter_sublist ..)⟩
  have hbind : ∀ {i : Nat} {o : Oper}, l[i]? = some o → (l[i]?).bind (·.dst) = o.dst := fun h => by rw [h]; rfl
  -- the frame with all of them
  have hRall : ∀ d ∈ preOf l K, R d (look ((U.filterMap fun i => ((l[i]?).bind (·.dst)).map fun d => (d, f i)) ++ L') d) w' := by
    intro d hd
    obtain ⟨o, ho, hod⟩ := List.mem_filterMap.1 hd
    obtain ⟨i, hi⟩ := List.mem_iff_getElem?.1 ho
    rw [List.getElem?_take] at hi
    split at hi
    · rename_i hiK
      obtain ⟨o', d', ho', hd', _, hdist⟩ := hhead i hiK
      rw [hi] at ho'
      cases ho'
      rw [hod] at hd'
      cases hd'
      have hne : ∀ j ∈ U, j ≠ i → (l[j]?).bind (·.dst) ≠ some d := fun j hj hji => by
        have hjK := ((hU j).1 hj).1
        obtain ⟨oj, dj, hoj, _⟩ := hhead j hjK
        rw [hbind hoj]
        exact hdist j oj hjK hji hoj
      cases hb : listed.getD i true with
      | true =>
        rw [look_pend U fun j hj => hne j hj (fun e => by subst e; have := ((hU j).1 hj).2; rw [hb] at this; cases this)]
        exact hR i o d hiK hi hb hod
      | false =>
        rw [look_pend_at U ((hU i).2 ⟨hiK, hb⟩) ((hbind hi).trans hod) hne]
        exact (hf i hiK hb o d hi hod).2
    · cases hi
  have he := allF_at _ (preOf l K) hRall (hend w' hF)
  have hL : mkA n ((preOf l K).map (fun d => (d, look ((U.filterMap fun i => ((l[i]?).bind (·.dst)).map fun d => (d, f i)) ++ L') d)) ++ L) = pend l f U (mkA n L') := by
    rw [pend_mkA]
    refine mkA_congr fun t _ => ?_
    rw [look_map]
    split
    · rfl
    · rename_i hne
      have hnd : ∀ i, i < K → ∀ o, l[i]? = some o → o.dst ≠ some t := fun i hi o ho hod => hne (by
        simp only [List.elem_eq_mem, decide_eq_true_eq]
        exact List.mem_filterMap.2 ⟨o, List.mem_iff_getElem?.2 ⟨i, by rw [List.getElem?_take, if_pos hi]; exact ho⟩, hod⟩)
      rw [look_pend U fun j hj => by
        have hjK := ((hU j).1 hj).1
        obtain ⟨oj, dj, hoj, _⟩ := hhead j hjK
        rw [hbind hoj]
        exact hnd j hjK oj hoj]
      exact (hfr t fun i o hi ho _ hod => hnd i hi o ho hod).symm
  replace he := he.out
  rw [hL] at he
  refine tail_lateD hQ hc m K listed U _ w' hcl hcount hs (Nat.le_refl _) hKl (fun j h1 h2 => by rw [htail j h1 h2]; simp [h1]) hUn (fun j hj => ⟨fun h => (hU j).2 ⟨hj, h⟩, fun h => ((hU j).1 h).2⟩) (fun j hj => ?_) he
  obtain ⟨h1, h2⟩ := (hU j).1 hj
  obtain ⟨oj, dj, hoj, hdj, _⟩ := hhead j h1
  exact ⟨h1, hpre j h1 h2, oj, hoj, (hf j h1 h2 oj dj hoj hdj).1⟩
theorem mono_mu (hQ : PQ Q) (hc : monoD l K = true) (hm1 : ∀ w1 w2, From w1 w2 → I1 w1 → I1 w2) (hm2 : ∀ w1 w2, From w1 w2 → I2 w1 → I2 w2) (hmono1 : ∀ t v w1 w2, From w1 w2 → R1 t v w1 → R1 t v w2) (hmono : ∀ t v w1 w2, From w1 w2 → R t v w1 → R t v w2)
    (hop : OpsOK8 P l.toArray n L I2 R1 R l K mu 0 (l.take K)) (h12 : ∀ t v w, R1 t v w → R t v w) (hmuL : mu < K → isLateD l K mu = false) (hmu : MuAt P l.toArray n L I1 I2 R1 R l K mu l[mu]?)
    (hend : ∀ w', I2 w' → AllF R w' (preOf l K) fun M => St P l.toArray Q (l.drop K) n (M ++ L) w') :
    ∀ (m : Nat) (listed : Array Bool) (L' : List (Nat × Value)) (w' : World), ClosedD l listed → listed.toList.count false = m → listed.size = l.length → (∀ j, K ≤ j → j < l.length → listed.getD j true = false) → I2 w' → (listed.getD mu true = false → I1 w') →
      (∀ t, (∀ i o, i < K → l[i]? = some o → listed.getD i true = true → o.dst ≠ some t) → look L' t = look L t) →
      (∀ i o d, i < K → l[i]? = some o → listed.getD i true = true → o.dst = some d → R d (look L' d) w') → (listed.getD mu true = false → ∀ i o d, i < K → l[i]? = some o → listed.getD i true = true → o.dst = some d → R1 d (look L' d) w') → wpAny P .any l.toArray Q m listed (mkA n L') w' := by
  have hc1 := (Bool.and_eq_true_iff.1 hc).1
  have hlate := (Bool.and_eq_true_iff.1 hc).2
  have hKl : K ≤ l.length := of_decide_eq_true (Bool.and_eq_true_iff.1 hc1).1
  have hck := (List.all_eq_true.1 (Bool.and_eq_true_iff.1 hc1).2)
  intro m
  induction m with
  | zero =>
    intro listed L' w' hcl hcount hs htail hF hF1 hfr hR hR1
    exact late_fin8 hQ hc hop h12 hmuL hend 0 listed L' w' hcl hcount hs htail hF hfr hR (fun i hi h => by
      have hm : listed[i]'(by omega) ∈ listed.toList := by simp
      have hb : listed[i]'(by omega) = false := by simpa [Array.getD, show i < listed.size by omega] using h
      rw [hb] at hm
      exact absurd hcount (Nat.pos_iff_ne_zero.1 (List.count_pos_iff.2 hm)))
  | succ m ih =>
    intro listed L' w' hcl hcount hs htail hF hF1 hfr hR hR1
    by_cases hpre : ∀ i, i < K → listed.getD i true = false → isLateD l K i = true
    · exact late_fin8 hQ hc hop h12 hmuL hend (m + 1) listed L' w' hcl hcount hs htail hF hfr hR hpre
    · -- some operation of the head is still to come
      have hn0 : ∃ i, i < K ∧ listed.getD i true = false ∧ isLateD l K i = false := by
        refine Classical.byContradiction fun hno => hpre fun i hi hf => ?_
        cases hb : isLateD l K i with
        | true => rfl
        | false => exact absurd ⟨i, hi, hf, hb⟩ hno
      obtain ⟨n0, hn0⟩ := hn0
      obtain ⟨i0, hi0, hmin⟩ := exists_least (p := fun i => i < K ∧ listed.getD i true = false) ⟨n0, hn0.1, hn0.2.1⟩
      have hi0l : i0 < l.length := by omega
      have hready : i0 ∈ Region.ready .any l.toArray listed := by
        refine mem_ready.2 ⟨hi0.2, l[i0], by rw [List.getElem?_toArray, List.getElem?_eq_getElem hi0l], fun e he hb => ?_⟩
        have hx := hck i0 (List.mem_range.2 hi0l)
        rw [List.getElem?_eq_getElem hi0l] at hx
        simp only [Bool.and_eq_true] at hx
        have he2 := List.all_eq_true.1 hx.1.1 e (by simpa using he)
        rw [hb] at he2
        simp at he2
        rw [← getD_true_false (by omega)]
        cases hb2 : listed.getD e.on true with
        | true => rfl
        | false => exact absurd (hmin e.on ⟨by omega, hb2⟩) (by omega)
      refine ⟨fun h0 => (by rw [h0] at hready; cases hready), fun i hi => ?_⟩
      obtain ⟨h0, o, ho, hall⟩ := mem_ready.1 hi
      rw [List.getElem?_toArray] at ho
      have hil : i < l.length := (List.getElem?_eq_some_iff.1 ho).1
      have hx := hck i (List.mem_range.2 hil)
      rw [ho] at hx
      simp only [Bool.and_eq_true] at hx
      have hiK : i < K := by
        rcases Nat.lt_or_ge i K with h | h
        · exact h
        · exfalso
          have h5 := dep_listed hcl hall (nonlate_edgeD hn0.2.2 ho h)
          rw [← getD_true_false (by omega), hn0.2.1] at h5
          cases h5
      have h3 := hx.2
      rw [if_pos hiK] at h3
      simp only [Bool.and_eq_true] at h3
      obtain ⟨h3a, h3b⟩ := h3
      cases hod : o.dst with
      | none => rw [hod] at h3a; cases h3a
      | some d =>
        rw [hod] at h3a
        simp only [Bool.and_eq_true] at h3a
        have hlooks := looksD (L := L) hc hcl hs ho hil h0 hfr
        have hfactG : ∀ (RR : Nat → Value → World → Prop), (∀ i o d, i < K → l[i]? = some o → listed.getD i true = true → o.dst = some d → RR d (look L' d) w') → ∀ t ∈ slotsD l K i o, RR t (look L' t) w' := by
          intro RR hRR t ht
          obtain ⟨_, j, oj, hjK, hj, hd, _, hdep⟩ := slotsD_spec hc hiK ho ht
          have h6 := dep_listed hcl hall hdep
          exact hRR j oj t hjK hj (by rw [getD_true_false (by omega)]; exact h6) hd
        have hsel : isSelect o.op = false := by simpa using hx.1.2
        obtain ⟨hE, hW⟩ := looksAt_agree (n := n) (ops := l.toArray) (o := o) hsel hlooks
        have next : ∀ v w'', I2 w'' → (i ≠ mu → listed.getD mu true = false → I1 w'') → R d v w'' → (i ≠ mu → R1 d v w'') → (∀ t u, t ≠ d → R t u w' → (i = mu → R1 t u w') → R t u w'') → (i ≠ mu → ∀ t u, R1 t u w' → R1 t u w'') → wpAny P .any l.toArray Q m (listed.setIfInBounds i true) ((mkA n L').put (some d) v) w'' := by
          intro v w'' hI2' hI1' hRv hR1v hst hst1
          rw [put_mkA]
          have hne : ∀ j oj d', j < K → l[j]? = some oj → j ≠ i → oj.dst = some d' → d' ≠ d := by
            intro j oj d' hj hoj hji hd e
            have h5 := List.all_eq_true.1 h3a.1 j (List.mem_range.2 hj)
            rw [hoj] at h5
            simp [hji, hd, e] at h5
          refine ih _ _ w'' (closed_set hcl ho hall) ?_ (by simpa using hs) (fun j hj1 hj2 => ?_) hI2' (fun hml => ?_) (fun t ht => ?_) (fun j oj d' hj hoj hlj hd => ?_) (fun hml j oj d' hj hoj hlj hd => ?_)
          · have hil' : i < listed.size := by omega
            have hfalse : listed.toList[i]? = some false := by
              rw [Array.getElem?_toList, Array.getElem?_eq_getElem hil']
              simp [Array.getD, hil'] at h0
              rw [h0]
            rw [Array.toList_setIfInBounds]
            have := count_set_true (l := listed.toList) (i := i) hfalse
            omega
          · rw [getD_set_ne true (by omega)]
            exact htail j hj1 hj2
          · have him : i ≠ mu := fun e => by subst e; simp [show i < listed.size by omega] at hml
            rw [getD_set_ne true him] at hml
            exact hI1' him hml
          · have htd : t ≠ d := fun e => ht i o hiK ho (by simp [show i < listed.size by omega]) (by rw [hod, e])
            rw [look_cons, if_neg htd]
            refine hfr t fun j oj hj hoj hlj => ht j oj hj hoj ?_
            by_cases e : i = j
            · subst e; rw [h0] at hlj; cases hlj
            · rw [getD_set_ne true e]; exact hlj
          · rw [look_cons]
            by_cases e : j = i
            · subst e
              rw [ho] at hoj
              cases hoj
              rw [hod] at hd
              cases hd
              rw [if_pos rfl]
              exact hRv
            · have hdd := hne j oj d' hj hoj e hd
              rw [if_neg hdd]
              rw [getD_set_ne true (Ne.symm e)] at hlj
              refine hst _ _ hdd (hR j oj d' hj hoj hlj hd) (fun e2 => ?_)
              subst e2
              exact hR1 h0 j oj d' hj hoj hlj hd
          · have him : i ≠ mu := fun e => by subst e; simp [show i < listed.size by omega] at hml
            rw [getD_set_ne true him] at hml
            rw [look_cons]
            by_cases e : j = i
            · subst e
              rw [ho] at hoj
              cases hoj
              rw [hod] at hd
              cases hd
              rw [if_pos rfl]
              exact hR1v him
            · rw [if_neg (hne j oj d' hj hoj e hd)]
              rw [getD_set_ne true (Ne.symm e)] at hlj
              exact hst1 him _ _ (hR1 hml j oj d' hj hoj hlj hd)
        unfold wpOp
        rw [List.getElem?_toArray, ho]
        show if Region.wanted o (yielded l.toArray (mkT n.n L')) = true then _ else _
        by_cases him : i = mu
        · subst him
          rw [ho] at hmu
          have hok := allF_at (look L') _ (hfactG R1 (hR1 h0)) (hmu w' (hF1 h0))
          rw [hod] at hok
          simp only [Option.getD_some] at hok
          unfold MuOK at hok
          rw [hE, hW] at hok
          obtain ⟨hw, ⟨v, w'', hr, hI, hRv, hst⟩ | ⟨f, args, hr, hcall⟩⟩ := hok
          · rw [if_pos hw]
            refine .inl ?_
            unfold Oper.wp
            rw [eval_mkA, hr, Oper.upon_value, hod]
            exact next v w'' hI (fun h => absurd rfl h) hRv (fun h => absurd rfl h) (fun t u ht _ h1 => hst t u ht (h1 rfl)) (fun h => absurd rfl h)
          · rw [if_pos hw]
            refine .inl ?_
            unfold Oper.wp
            rw [eval_mkA, hr, Oper.upon_enter, hod]
            refine Calls.mono hcall fun e w'' ⟨v, he, hI, hRv, hst⟩ => ?_
            subst he
            exact next v w'' hI (fun h => absurd rfl h) hRv (fun h => absurd rfl h) (fun t u ht _ h1 => hst t u ht (h1 rfl)) (fun h => absurd rfl h)
        · have hok := allF_at (look L') _ (hfactG R hR) (opsOK8_at0 hop i o (by rw [List.getElem?_take, if_pos hiK]; exact ho) him w' hF)
          rw [hod] at hok
          simp only [Option.getD_some] at hok
          unfold OpOK at hok
          rw [hE, hW] at hok
          have next' : ∀ v w'', From w' w'' → R1 d v w'' → wpAny P .any l.toArray Q m (listed.setIfInBounds i true) ((mkA n L').put (some d) v) w'' := fun v w'' hF' hRv =>
            next v w'' (hm2 _ _ hF' hF) (fun _ h => hm1 _ _ hF' (hF1 h)) (h12 _ _ _ hRv) (fun _ => hRv) (fun t u _ h _ => hmono _ _ _ _ hF' h) (fun _ t u h => hmono1 _ _ _ _ hF' h)
          rcases hok with ⟨hw, ⟨v, w'', hr, hF', hRv⟩ | ⟨f, args, hr, hcall⟩⟩ | ⟨hw, hRv⟩
          · rw [if_pos hw]
            refine .inl ?_
            unfold Oper.wp
            rw [eval_mkA, hr, Oper.upon_value, hod]
            exact next' v w'' hF' hRv
          · rw [if_pos hw]
            refine .inl ?_
            unfold Oper.wp
            rw [eval_mkA, hr, Oper.upon_enter, hod]
            refine Calls.mono hcall fun e w'' ⟨v, he, hF', hRv⟩ => ?_
            subst he
            exact next' v w'' hF' hRv
          · rw [if_neg (by rw [hw]; simp), hod]
            exact next' undef w' From.rfl_ hRv

/-- a region that draws its order, with one change -/
theorem cd_mu {id : Nat} (K mu : Nat) (Ex : List Nat) (RL : List (Nat × (Value → World → Prop))) (I1 I2 : World → Prop) (hQ : PQ Q) (hm : P.follows .mixedOrders = true) (hc : monoD l K = true) (hl : isLateD l K mu = false) (hmono : MonoR RL)
    (h0 : I1 { w with drawn := w.drawn + 1 }) (h0' : I2 { w with drawn := w.drawn + 1 }) (hm1 : ∀ w1 w2, From w1 w2 → I1 w1 → I1 w2) (hm2 : ∀ w1 w2, From w1 w2 → I2 w1 → I2 w2)
    (hop : OpsOK8 P l.toArray n L I2 (lookR RL) (lookE Ex RL) l K mu 0 (l.take K)) (hmu : MuAt P l.toArray n L I1 I2 (lookR RL) (lookE Ex RL) l K mu l[mu]?)
    (hend : ∀ w', I2 w' → AllF (lookE Ex RL) w' (preOf l K) fun M => St P l.toArray Q (l.drop K) n (M ++ L) w') : Cd P (.region id l.toArray true) Q n L w := by
  refine ⟨wp_region_any hm ?_⟩
  have hKl : K ≤ l.length := of_decide_eq_true (Bool.and_eq_true_iff.1 (Bool.and_eq_true_iff.1 hc).1).1
  have := mono_mu (Q := Q) hQ hc hm1 hm2 (lookR_mono hmono) (lookE_mono hmono) hop lookE_of (fun _ => hl) hmu hend l.length (Array.replicate l.length false) L { w with drawn := w.drawn + 1 } (closed_none l _) (by simp) (by simp)
    (fun j _ hj => by simp [Array.getD, hj]) h0' (fun _ => h0) (fun _ _ => rfl) (fun i o d hi _ hl => by
      have : i < l.length := by omega
      simp [Array.getD, this] at hl) (fun _ i o d hi _ hl => by
      have : i < l.length := by omega
      simp [Array.getD, this] at hl)
  simpa using this
/-- a region that draws its order, with late operations; what waits for one that waits for another waits for that other -/
theorem cd_drawnD {id : Nat} (K : Nat) (RL : List (Nat × (Value → World → Prop))) (hQ : PQ Q) (hm : P.follows .mixedOrders = true) (hc : monoD l K = true) (hmono : MonoR RL)
    (hop : OpsOK8 P l.toArray n L (From w) (lookR RL) (lookR RL) l K l.length 0 (l.take K)) (hend : ∀ w', From w w' → AllF (lookR RL) w' (preOf l K) fun M => St P l.toArray Q (l.drop K) n (M ++ L) w') : Cd P (.region id l.toArray true) Q n L w := by
  refine ⟨wp_region_any hm ?_⟩
  have hKl : K ≤ l.length := of_decide_eq_true (Bool.and_eq_true_iff.1 (Bool.and_eq_true_iff.1 hc).1).1
  have := mono_mu (Q := Q) (mu := l.length) (I1 := From w) (I2 := From w) (R1 := lookR RL) hQ hc (fun _ _ hF h => h.next hF) (fun _ _ hF h => h.next hF) (lookR_mono hmono) (lookR_mono hmono) hop (fun _ _ _ h => h) (fun h => absurd h (by omega)) (by simp [MuAt]) hend l.length (Array.replicate l.length false) L { w with drawn := w.drawn + 1 } (closed_none l _) (by simp) (by simp)
    (fun j _ hj => by simp [Array.getD, hj]) From.rfl_.d1 (fun _ => From.rfl_.d1) (fun _ _ => rfl) (fun i o d hi _ hl => by
      have : i < l.length := by omega
      simp [Array.getD, this] at hl) (fun _ i o d hi _ hl => by
      have : i < l.length := by omega
      simp [Array.getD, this] at hl)
  simpa using this
end late
section
variable {P : Program} {ρ : Operand → Value} {w : World} {t yt : TypeId} {x y : Operand}
theorem ro_addU {a b : Nat} (hx : ρ x = .int .u64 (a : Nat)) (hy : ρ y = .int .u64 (b : Nat)) (h : a + b < 2 ^ 64) : RO P ρ (.binOp .add t x y yt) w (.int .u64 ((a + b : Nat) : Int)) w := by
  have := ro_add (P := P) (ρ := ρ) (w := w) (t := t) (yt := yt) hx hy
  rwa [show IntKind.u64.wrap ((a : Nat) + (b : Nat) : Int) = ((a + b : Nat) : Int) by rw [IntKind.wrap_u64]; omega] at this
theorem ro_subU {a b : Nat} (hx : ρ x = .int .u64 (a : Nat)) (hy : ρ y = .int .u64 (b : Nat)) (h : b ≤ a ∧ a < 2 ^ 64) : RO P ρ (.binOp .sub t x y yt) w (.int .u64 ((a - b : Nat) : Int)) w := by
  have := ro_sub (P := P) (ρ := ρ) (w := w) (t := t) (yt := yt) hx hy
  rwa [show IntKind.u64.wrap ((a : Nat) - (b : Nat) : Int) = ((a - b : Nat) : Int) by rw [IntKind.wrap_u64]; omega] at this
theorem bits_i64 {a b : Nat} (ha : a < 2 ^ 63) (hb : b < 2 ^ 63) : bits .and .i64 (a : Int) (b : Int) = ((a &&& b : Nat) : Int) := by
  have e1 : (BitVec.ofInt 64 (a : Int)).toNat = a := by rw [BitVec.ofInt_natCast, BitVec.toNat_ofNat]; exact Nat.mod_eq_of_lt (by omega)
  have e2 : (BitVec.ofInt 64 (b : Int)).toNat = b := by rw [BitVec.ofInt_natCast, BitVec.toNat_ofNat]; exact Nat.mod_eq_of_lt (by omega)
  show IntKind.i64.wrap ((BitVec.ofInt 64 (a : Int) &&& BitVec.ofInt 64 (b : Int)).toNat : Int) = _
  have h : a &&& b < 2 ^ 63 := Nat.and_lt_two_pow _ hb
  rw [BitVec.toNat_and, e1, e2, IntKind.wrap_i64]; generalize a &&& b = c at *; omega
theorem ro_andI {a b : Nat} (hx : ρ x = .int .i64 (a : Nat)) (hy : ρ y = .int .i64 (b : Nat)) (h : a < 2 ^ 63 ∧ b < 2 ^ 63) : RO P ρ (.binOp .and t x y yt) w (.int .i64 ((a &&& b : Nat) : Int)) w := by
  have := ro_and (P := P) (ρ := ρ) (w := w) (t := t) (yt := yt) hx hy; rwa [bits_i64 h.1 h.2] at this
end
/-- an append onto a row of the call's own, run -/
theorem ro_appendB {P : Program} {ρ : Operand → Value} {w : World} {s x : Operand} {t base : Nat} {A A2 : Option Addr} {m j cap c2 e size by_ : Nat} {z : Value} {xs news : List Value} (hq : litQ P t = some (e, size, by_, z)) (hzs : z.cells.size = size) (hs0 : 0 < size)
    (hs : ρ s = .slice A m cap) (hown : w.ownsRow base e size (.slice A m cap) m xs) (hB : base ≤ w.heap.size)
    (hx : ρ x = .slice A2 j c2) (hl : news.length = j * size) (hsrc : ∃ b o, A2 = some ⟨b, o, none⟩ ∧ w.rangeAt b o news) (h1 : ∀ u ∈ news, u.oneCell' = true) (h63 : m + j ≤ 9223372036854775807) (hby : (m + j) * by_ ≤ 140737488355328) :
    ∃ A' cap' w', RO P ρ (.call { callee := .builtin .append, args := #[s, x], argTypes := #[t, t] }) w (.slice A' (m + j) cap') w' ∧ w'.ownsRow base e size (.slice A' (m + j) cap') (m + j) (xs ++ news) ∧ w.grownBy w' (A.map (·.block)) := by
  obtain ⟨i, hu, hi, hsz, hb, hz⟩ := lit_of hq
  obtain ⟨b, o, rfl, hr⟩ := hsrc
  have hobl : (Value.slice A m cap).ownBlock = A.map (·.block) := by cases A <;> rfl
  have key : ∀ ty, ∃ v' w', (Builtin.append_ #[t, t] ty #[.slice A m cap, .slice (some ⟨b, o, none⟩) j c2]).run P w = .ok v' w' ∧ w'.ownsRow base e size v' (m + j) (xs ++ news) ∧ w.grownBy w' (A.map (·.block)) := fun ty => by
    obtain ⟨v', w', h1, h2, h3, _⟩ := run_append_own (P := P) w base t ty e i z size by_ hu hi hz hsz hb hzs hs0 _ m xs hown ⟨b, o, none⟩ j c2 news hl (fun i u hu => by rw [Addr.add_mid]; exact hr i u hu) h1 (by unfold maxLen; omega) hby hB
    exact ⟨v', w', h1, h2, by rw [← hobl]; exact h3⟩
  obtain ⟨v', w', hrun, hown', hg⟩ := key 0
  obtain ⟨A', cap', rfl⟩ := own_form hown'
  refine ⟨A', cap', w', fun dst ty pos after g => ?_, hown', hg⟩
  have hty : (Builtin.append_ #[t, t] ty #[.slice A m cap, .slice (some ⟨b, o, none⟩) j c2]).run P w = (Builtin.append_ #[t, t] 0 #[.slice A m cap, .slice (some ⟨b, o, none⟩) j c2]).run P w := rfl
  unfold execOp
  simp only [resolve, invoke, builtin, Sem.run_bind, Sem.run_pure, Result.andThen_ok, List.map_toArray, List.map_cons, List.map_nil, hs, hx, hty, hrun]
end Go.Proofs.Ytpafbgdbjambgaa
namespace Go.Proofs.Ytpafbgdbjambgaa
open Go.RowKit
section
variable {P : Program} {ops : Array Oper} {n : Fr} {L : List (Nat × Value)} {w : World} {ty : TypeId} {pos : String} {after : Array Edge} {dst : Option Nat} {t : TypeId} {x s : Operand}
theorem ro_lit1 {ρ : Operand → Value} {e by_ : Nat} {z v : Value} (hq : litQ P t = some (e, 1, by_, z)) (hz : z.cells.size = 1) (hx : ρ x = v) (hv : v.cells = #[v]) : RO P ρ (.buildSlice t 1 #[(0, x)]) w (.slice (some ⟨w.heap.size, 0, none⟩) 1 1) (w.alloc (.cells #[v] e)) := by
  refine ro_lit (l := [(0, x)]) (cells := #[v]) hq rfl rfl ?_
  have e1 : (Array.range (1 * 1)).map (z.cells[· % z.cells.size]!) = #[z.cells[0]!] := by
    rw [show Array.range (1 * 1) = #[0] from rfl]
    simp
  rw [e1]
  simp [Instr.fill, hx, hv]
/-- an append, as the change of a region -/
theorem mu_append {post : Value → World → Prop} {base : Nat} {A A2 : Option Addr} {m j cap c2 e size by_ : Nat} {z : Value} {xs news : List Value} (hq : litQ P t = some (e, size, by_, z)) (hzs : z.cells.size = size) (hs0 : 0 < size)
    (hs : ev n L s = .slice A m cap) (hown : w.ownsRow base e size (.slice A m cap) m xs) (hB : base ≤ w.heap.size)
    (hx : ev n L x = .slice A2 j c2) (hl : news.length = j * size) (hsrc : ∃ b o, A2 = some ⟨b, o, none⟩ ∧ w.rangeAt b o news) (h1 : ∀ u ∈ news, u.oneCell' = true) (h63 : m + j ≤ 9223372036854775807) (hby : (m + j) * by_ ≤ 140737488355328)
    (k : ∀ A' cap' w', w'.ownsRow base e size (.slice A' (m + j) cap') (m + j) (xs ++ news) → w.grownBy w' (A.map (·.block)) → post (.slice A' (m + j) cap') w') :
    MuOK P ops n L ⟨dst, .call { callee := .builtin .append, args := #[s, x], argTypes := #[t, t] }, ty, pos, after, none⟩ w post := by
  obtain ⟨A', cap', w', hr, ho, hg⟩ := ro_appendB (P := P) (ρ := ev n L) hq hzs hs0 hs hown hB hx hl hsrc h1 h63 hby
  exact ⟨rfl, .inl ⟨_, w', hr _ _ _ _ _, k A' cap' w' ho hg⟩⟩
end
theorem own_at {w : World} {bs e s n c m : Nat} {A : Option Addr} {l : List Value} (h : w.ownsRow bs e s (.slice A n c) m l) : ∀ k, A.map (·.block) = some k → bs ≤ k ∧ k < w.heap.size := fun k hk => h.lt k (by rw [← hk]; cases A <;> rfl)
end Go.Proofs.Ytpafbgdbjambgaa

namespace Go.Proofs.Ytpafbgdbjambgaa
open Go.RowKit
section
variable {P : Program} {ops : Array Oper} {Q : Exit → Act → World → Prop} {rest : List Oper} {n : Fr} {L : List (Nat × Value)} {w : World} {ty : TypeId} {pos : String} {after : Array Edge} {d : Nat} {x : Operand}
theorem ro_makeFunc {ρ : Operand → Value} {f : FuncId} {l1 l2 : List Operand} : RO P ρ (.makeFunc (.func f) l1.toArray l2.toArray) w (.func (.func f) (l1.map ρ).toArray (l2.map ρ).toArray) w := fun _ _ _ _ _ => by
  simp [execOp, Instr.makeFunc]
theorem ro_mulU {ρ : Operand → Value} {t yt : TypeId} {y : Operand} {a b : Nat} (hx : ρ x = .int .u64 (a : Nat)) (hy : ρ y = .int .u64 (b : Nat)) : RO P ρ (.binOp .mul t x y yt) w (.int .u64 ((a * b % 2 ^ 64 : Nat) : Int)) w := by
  have := ro_mul (P := P) (ρ := ρ) (w := w) (t := t) (yt := yt) hx hy
  rwa [show IntKind.u64.wrap ((a : Nat) * (b : Nat) : Int) = ((a * b % 2 ^ 64 : Nat) : Int) by rw [IntKind.wrap_u64, ← Int.natCast_mul]; generalize a * b = c; omega] at this
theorem exec_callF {ρ : Operand → Value} {f : FuncId} {l : List Operand} {caps : List Value} {ats : Array TypeId} {g : Option (Nat × Bool)} {dst : Option Tmp} (hx : ρ x = .func (.func f) #[] caps.toArray) :
    execOp ρ ⟨dst, .call { callee := .value x, args := l.toArray, argTypes := ats }, ty, pos, after, g⟩ = callFunc f (l.map ρ ++ caps).toArray := by
  have : execOp ρ ⟨dst, .call { callee := .value x, args := l.toArray, argTypes := ats }, ty, pos, after, g⟩ = (do let d ← Deferred.ofValue (ρ x) (l.toArray.map ρ); invoke d.target d.args) := rfl
  rw [this, hx]
  show callFunc f (#[] ++ l.toArray.map ρ ++ caps.toArray) = _
  simp
theorem st_callF {f : FuncId} {l : List Operand} {caps : List Value} {ats : Array TypeId} {R : Value → World → Prop} (hx : ev n L x = .func (.func f) #[] caps.toArray) (hf : callable P f = true) (hc : Rt P f (l.map (ev n L) ++ caps) w R) (k : ∀ v w', R v w' → St P ops Q rest n ((d, v) :: L) w') :
    St P ops Q (⟨some d, .call { callee := .value x, args := l.toArray, argTypes := ats }, ty, pos, after, none⟩ :: rest) n L w := by
  refine ⟨wpList_plain rfl fun K hK => ?_⟩
  unfold Oper.wp
  rw [eval_mkA, exec_callF hx, run_call hf, Oper.upon_enter]
  refine Calls.mono hc fun e w' ⟨v, he, hR⟩ => ?_
  subst he
  show K ((mkA n L).put (some d) v) w'
  rw [put_mkA]
  exact hK _ _ (k v w' hR).out
theorem ok_callF {f : FuncId} {l : List Operand} {caps : List Value} {ats : Array TypeId} {R : Value → World → Prop} {dst : Option Nat} (hx : ev n L x = .func (.func f) #[] caps.toArray) (hf : callable P f = true) (hc : Rt P f (l.map (ev n L) ++ caps) w fun v w' => From w w' ∧ R v w') :
    OpOK P ops n L ⟨dst, .call { callee := .value x, args := l.toArray, argTypes := ats }, ty, pos, after, none⟩ w R :=
  .inl ⟨rfl, .inr ⟨f, l.map (ev n L) ++ caps, by rw [exec_callF hx, run_call hf], hc⟩⟩
end
end Go.Proofs.Ytpafbgdbjambgaa

namespace Go.Proofs.Ytpafbgdbjambgaa
open Go.ChangeShapes Go.WideShapes Go.ChangeAt Go.RowKit

theorem Try.own : ownKnob Try.prog.godebug = none := by kernel_rfl
theorem Try.laidOut : laidOutB Try.prog = true := by kernel_rfl

section
variable {H : Type} {enc : TypeId × Value → H} {P : Program}
theorem post_of_below {f : Func} {s : ChangeSpec} {apart fresh handsOn again : Bool} {W W' : World} {args : Array Value} {v : Value} {ds gs : List (DataW H)} {before pa pv : List MemPlace}
    (hW : DataW.Whole enc P f.params.toList s.vars apart W args.toList ds gs before)
    (hres : ∀ (b : Nat) (sp : Nat → Bool) (hd : Bool), DataW.TrodAll enc P W' b sp hd f.resultTypes.toList (v.resultList f.resultTypes.size) (s.fn H (ds ++ gs)).results [])
    (hargs : ∀ sp : Nat → Bool, (∀ p ∈ before, sp p.block = true) → DataW.TrodAll enc P W' 0 sp true f.params.toList args.toList (s.fn H (ds ++ gs)).args pa)
    (hvars : ∀ sp : Nat → Bool, (∀ p ∈ before, sp p.block = true) → DataW.TrodVars enc P W' sp s.vars (s.fn H (ds ++ gs)).vars pv)
    (hps : before = pa ++ pv) (hb : Below W.heap.size W W')
    (hok : ∀ (j : Nat) (t : TypeId) (r : Value), f.resultTypes[j]? = some t → (v.resultList f.resultTypes.size)[j]? = some r → Value.okWide P W' .any 0 t r) :
    s.post enc P f apart fresh handsOn again W args v W' := by
  have hlt : ∀ p ∈ before, p.block < W.heap.size := fun p hp => hW.lt p hp
  have hold : ∀ p ∈ before, (fun b => decide (b < W.heap.size)) p.block = true := fun p hp => by simpa using hlt p hp
  refine ⟨ds, gs, before, [], pa, pv, hW, hres _ _ _, hargs _ hold, hvars _ hold, World.keptBut_mono (fun p hp => ⟨hp, ?_⟩) (hb.frame (· ∈ before)), fun _ => ?_⟩
  · rw [hps, List.mem_append] at hp
    exact Or.inr hp
  · obtain ⟨_, _, _, _, _, hz, hn⟩ := hW
    refine ⟨hok, _, _, ([] ++ pa) ++ pv, ⟨[] ++ pa, pv, trodAll_append (hargs _ (fun _ _ => rfl)) (hres _ _ _), hvars _ (fun _ _ => rfl), rfl, ?_, ?_⟩, ?_⟩
    · intro b off hp
      have hin : MemPlace.cell b off ∈ before := by rw [hps]; simpa using hp
      rw [hb.frozen (hlt _ hin)]
      exact hz b off hin
    · intro ha
      have := hn ha
      rw [hps] at this
      simpa using this
    · intro p hp _
      rw [hps]
      simpa using hp
end

/-- THE STEP of a law with one argument. -/
theorem law_step {H : Type} {enc : TypeId × Value → H} (F : FuncId) (f : Func) (T Tb : TypeId) (s : ChangeSpec) (hp : f.params = #[T]) (hr : f.resultTypes = #[Tb]) (hTb : Try.prog.underlying Tb = some .bool)
    (hvars : s.vars = []) (hfn : ∀ d : DataW H, s.fn H [d] = { results := [.lit (.bool true)], args := [d] }) (hrec : Try.prog.readableRec T = true) (hrow : T < Try.prog.types.size)
    (walk : ∀ (W : World) (base : Nat) (v : Value) (d : DataW H) (p : List MemPlace), Value.okWide Try.prog W .any base T v → DataW.Trod enc Try.prog W 0 (fun _ => true) true T v d p → (∀ n ∈ d.weights Try.prog T, n ≤ 140737488351232) →
      Calls Try.prog F #[v] W fun e W' => e = .returned (.bool true) ∧ From W W')
    (W : World) (base : Nat) (args : Array Value) (ds gs : List (DataW H)) (before : List MemPlace)
    (hval0 : ∀ (j : Nat) t v, f.params[j]? = some t → args[j]? = some v → Value.okWide Try.prog W .any base t v)
    (hW : DataW.Whole enc Try.prog f.params.toList s.vars false W args.toList ds gs before)
    (hsz : (DataW.weightsEach Try.prog (f.params.toList ++ s.plain.varTypes Try.prog) (ds ++ gs)).all (· ≤ reachBytes) = true) :
    Calls Try.prog F args W fun e W' => ∃ v, e = .returned v ∧ s.post enc Try.prog f false true false false W args v W' := by
  have hlt : ∀ x ∈ before, x.block < W.heap.size := fun x hx => hW.lt x hx
  have hW' := hW
  obtain ⟨p, q, hA, hV, rfl, hfz, hnd⟩ := hW
  rw [hp] at hA hval0 hsz
  rw [hvars] at hV
  obtain ⟨v0, d0, rfl, rfl, h0⟩ := trodAll_one hA
  obtain ⟨rfl, rfl⟩ := trodVars_none hV
  simp only [List.append_nil] at hW' hlt
  refine (walk W base v0 d0 p (hval0 0 T v0 rfl rfl) h0 (fun n hn => Nat.le_trans (by simpa using List.all_eq_true.1 hsz n (DataW.weights_mem_each (j := 0) (t := T) (d := d0) rfl rfl n hn)) (show reachBytes ≤ 140737488351232 by decide))).mono fun e W' ⟨he, hb⟩ => ?_
  subst he
  refine ⟨_, rfl, post_of_below (pa := p) (pv := []) hW' ?_ ?_ ?_ (by simp) hb ?_⟩
  · intro b sp hd
    rw [List.append_nil, hfn, hr]
    exact trodAll_mk1 (shut_bool hTb _)
  · intro sp hsp
    rw [List.append_nil, hfn, hp]
    exact trodAll_mk1 (WideElems.Trod_stays Try.laidOut hrec hrow h0 (fun x hx => hb.same (hlt x hx)) hsp)
  · intro sp hsp
    rw [List.append_nil, hfn, hvars]
    simp [DataW.TrodVars]
  · exact ok_one hr rfl (okWide_bool_mk hTb _)

/-- THE STEP of a law with one argument, over variables that are laid. -/
theorem law_step_laid {H : Type} {enc : TypeId × Value → H} (F : FuncId) (f : Func) (T Tb : TypeId) (s : ChangeSpec) (hp : f.params = #[T]) (hr : f.resultTypes = #[Tb]) (hTb : Try.prog.underlying Tb = some .bool)
    (hvars : s.vars = []) (hfn : ∀ d : DataW H, s.fn H [d] = { results := [.lit (.bool true)], args := [d] }) (hrec : Try.prog.readableRec T = true) (hrow : T < Try.prog.types.size) (laid : List (String × DataW Unit))
    (walk : ∀ (W : World) (base : Nat) (v : Value) (d : DataW H) (p : List MemPlace), laidMetH Try.prog laid W → W.ShapedOpen Try.prog → Value.okWide Try.prog W .any base T v → DataW.Trod enc Try.prog W 0 (fun _ => true) true T v d p → (∀ n ∈ d.weights Try.prog T, n ≤ 140737488351232) →
      Calls Try.prog F #[v] W fun e W' => e = .returned (.bool true) ∧ From W W')
    (W : World) (base : Nat) (args : Array Value) (ds gs : List (DataW H)) (before : List MemPlace)
    (hval0 : ∀ (j : Nat) t v, f.params[j]? = some t → args[j]? = some v → Value.okWide Try.prog W .any base t v)
    (hW : DataW.Whole enc Try.prog f.params.toList s.vars false W args.toList ds gs before)
    (hsz : (DataW.weightsEach Try.prog (f.params.toList ++ s.plain.varTypes Try.prog) (ds ++ gs)).all (· ≤ reachBytes) = true)
    (hL : laidMetH Try.prog laid W) (hS : W.ShapedOpen Try.prog) :
    Calls Try.prog F args W fun e W' => ∃ v, e = .returned v ∧ s.post enc Try.prog f false true false false W args v W' := by
  have hlt : ∀ x ∈ before, x.block < W.heap.size := fun x hx => hW.lt x hx
  have hW' := hW
  obtain ⟨p, q, hA, hV, rfl, hfz, hnd⟩ := hW
  rw [hp] at hA hval0 hsz
  rw [hvars] at hV
  obtain ⟨v0, d0, rfl, rfl, h0⟩ := trodAll_one hA
  obtain ⟨rfl, rfl⟩ := trodVars_none hV
  simp only [List.append_nil] at hW' hlt
  refine (walk W base v0 d0 p hL hS (hval0 0 T v0 rfl rfl) h0 (fun n hn => Nat.le_trans (by simpa using List.all_eq_true.1 hsz n (DataW.weights_mem_each (j := 0) (t := T) (d := d0) rfl rfl n hn)) (show reachBytes ≤ 140737488351232 by decide))).mono fun e W' ⟨he, hb⟩ => ?_
  subst he
  refine ⟨_, rfl, post_of_below (pa := p) (pv := []) hW' ?_ ?_ ?_ (by simp) hb ?_⟩
  · intro b sp hd
    rw [List.append_nil, hfn, hr]
    exact trodAll_mk1 (shut_bool hTb _)
  · intro sp hsp
    rw [List.append_nil, hfn, hp]
    exact trodAll_mk1 (WideElems.Trod_stays Try.laidOut hrec hrow h0 (fun x hx => hb.same (hlt x hx)) hsp)
  · intro sp hsp
    rw [List.append_nil, hfn, hvars]
    simp [DataW.TrodVars]
  · exact ok_one hr rfl (okWide_bool_mk hTb _)
end Go.Proofs.Ytpafbgdbjambgaa

namespace Go.Proofs.Ytpafbgdbjambgaa
open Go.ChangeShapes Go.WideShapes Go.ChangeAt Go.RowKit

/-- a shape; a struct is its fields in a row of 'pr', closed by 'unit' -/
inductive Ty where
  | int (k : IntKind) | bool | str | sl (t : Ty) | pr (t u : Ty) | unit

def Ty.den : Ty → Type
  | .int _ => Int | .bool => Bool | .str => ByteArray | .sl t => List t.den | .pr t u => t.den × u.den | .unit => Unit

def Ty.size : Ty → Nat
  | .pr t u => t.size + u.size | .unit => 0 | _ => 1

/-- at least so many bytes -/
def Ty.bytes : Ty → Nat
  | .int .i8 | .int .u8 | .bool => 1 | .int .i16 | .int .u16 => 2 | .int .i32 | .int .u32 => 4 | .int _ => 8 | .str => 16 | .sl _ => 24 | .pr t u => t.bytes + u.bytes | .unit => 0

/-- does this shape fit a type (inl), or the fields from this offset on (inr)? -/
def Ty.fits (P : Program) : Ty → TypeId ⊕ (List Field × Nat) → Bool
  | .int k, .inl T => match P.underlying T with | some (.int k') => decide (k' = k) | _ => false
  | .bool, .inl T => match P.underlying T with | some .bool => true | _ => false
  | .str, .inl T => match P.underlying T with | some .string => true | _ => false
  | .sl t, .inl T => match P.underlying T with | some (.slice e) => t.fits P (.inl e) && P.cellsOf e == t.size && decide (0 < t.size) && decide (t.bytes ≤ P.bytesOf e) | _ => false
  | .pr t u, .inl T => match P.underlying T with
    | some (.struct fs) => match fs.toList with
      | f :: r => f.offset == 0 && P.cellsOf f.type == t.size && t.fits P (.inl f.type) && u.fits P (.inr (r, t.size)) && P.cellsOf T == t.size + u.size
      | [] => false
    | _ => false
  | .pr t u, .inr (f :: r, o) => f.offset == o && P.cellsOf f.type == t.size && t.fits P (.inl f.type) && u.fits P (.inr (r, o + t.size))
  | .unit, .inr _ => true
  | _, _ => false

/-- the cells 'c' read as this -/
def Ty.At (w : World) : (t : Ty) → (Nat → Option Value) → t.den → Prop
  | .int k, c, n => c 0 = some (.int k n) ∧ (Lit.int k n).wf = true
  | .bool, c, b => c 0 = some (.bool b)
  | .str, c, s => c 0 = some (.string s) ∧ ByteArray.size s ≤ 140737488351232
  | .sl t, c, xs => ∃ (A : Option Addr) (cap : Nat), c 0 = some (.slice A (List.length xs) cap) ∧ List.length xs * t.bytes ≤ 140737488351232 ∧ (List.length xs ≤ cap ∧ cap ≤ 9223372036854775807 ∧ (A = none → cap = 0)) ∧
      (0 < List.length xs → ∃ b o, A = some ⟨b, o, none⟩ ∧ b < w.heap.size ∧ ∀ (i : Nat) (x : t.den), @getElem? (List t.den) Nat t.den _ _ xs i = some x → Ty.At w t (fun j => w.cell? ⟨b, o + i * t.size + j, none⟩) x)
  | .pr t u, c, x => Ty.At w t c x.1 ∧ Ty.At w u (fun j => c (t.size + j)) x.2
  | .unit, _, _ => True

theorem Ty.At.congr {w : World} : ∀ (t : Ty) {c c' : Nat → Option Value} {x : t.den}, (∀ j, j < t.size → c' j = c j) → t.At w c x → t.At w c' x
  | .int k, c, c', n, hc, h => ⟨(hc 0 (by simp [Ty.size])).trans h.1, h.2⟩
  | .bool, c, c', n, hc, h => (hc 0 (by simp [Ty.size])).trans h
  | .str, c, c', n, hc, h => ⟨(hc 0 (by simp [Ty.size])).trans h.1, h.2⟩
  | .sl t, c, c', n, hc, h => by
    obtain ⟨A, cap, h0, r⟩ := h
    exact ⟨A, cap, (hc 0 (by simp [Ty.size])).trans h0, r⟩
  | .pr t u, c, c', x, hc, h => ⟨Ty.At.congr t (fun j hj => hc j (by simp only [Ty.size]; omega)) h.1, Ty.At.congr u (fun j hj => hc _ (by simp only [Ty.size]; omega)) h.2⟩
  | .unit, _, _, _, _, _ => trivial

/-- what reads, reads as it did in a world that only grew -/
theorem Ty.At.from_ {w w' : World} (hw : From w w') : ∀ (t : Ty) {c : Nat → Option Value} {x : t.den}, t.At w c x → t.At w' c x
  | .int k, c, n, h => h
  | .bool, c, n, h => h
  | .str, c, n, h => h
  | .sl t, c, n, h => by
    obtain ⟨A, cap, h0, h1, h2, h3⟩ := h
    refine ⟨A, cap, h0, h1, h2, fun hp => ?_⟩
    obtain ⟨b, o, hA, hb, hi⟩ := h3 hp
    refine ⟨b, o, hA, Nat.lt_of_lt_of_le hb hw.size, fun i x hx => ?_⟩
    exact Ty.At.congr t (fun j _ => Below.cell (p := ⟨b, o + i * t.size + j, none⟩) hw hb) (Ty.At.from_ hw t (hi i x hx))
  | .pr t u, c, x, h => ⟨Ty.At.from_ hw t h.1, Ty.At.from_ hw u h.2⟩
  | .unit, _, _, _ => trivial

theorem lt_of_cell {w : World} {a : Addr} {v : Value} (h : w.cell? a = some v) : a.block < w.heap.size := by
  rcases Nat.lt_or_ge a.block w.heap.size with hlt | hge
  · exact hlt
  · unfold World.cell? at h
    rw [Array.getElem?_eq_none hge] at h
    cases h

section
variable {H : Type} {enc : TypeId × Value → H} {P : Program} {w : World} {base : Nat} {spare : Nat → Bool} {held : Bool}

theorem exists_list {α : Type} {n : Nat} {p : Nat → α → Prop} (h : ∀ i, i < n → ∃ x, p i x) : ∃ xs : List α, xs.length = n ∧ ∀ i x, xs[i]? = some x → p i x := by
  induction n with
  | zero => exact ⟨[], rfl, fun i x hx => by simp at hx⟩
  | succ n ih =>
    obtain ⟨xs, hl, hx⟩ := ih fun i hi => h i (by omega)
    obtain ⟨x, hp⟩ := h n (by omega)
    refine ⟨xs ++ [x], by simp [hl], fun i y hy => ?_⟩
    rcases Nat.lt_or_ge i xs.length with hlt | hge
    · rw [List.getElem?_append_left hlt] at hy
      exact hx i y hy
    · rw [List.getElem?_append_right hge] at hy
      have h0 : i - xs.length = 0 := by
        rcases Nat.eq_zero_or_pos (i - xs.length) with h0 | h0
        · exact h0
        · rw [List.getElem?_eq_none (by simp; omega)] at hy; cases hy
      rw [h0] at hy
      simp at hy
      subst hy
      obtain rfl : i = n := by omega
      exact hp

theorem weights_all {H : Type} {P : Program} {e : TypeId} : ∀ (l : List (DataW H)) (d : DataW H), d ∈ l → ∀ q ∈ d.weights P e, q ∈ DataW.weightsAll P e l
  | x :: r, d, h, q, hq => by
    simp only [DataW.weightsAll, List.mem_append]
    rcases List.mem_cons.1 h with rfl | h
    · exact .inl hq
    · exact .inr (weights_all r d h q hq)

/-- DOWN: what the row reads, and what the struct's fields read, this shape reads. -/
theorem Ty.of_trod : ∀ (t : Ty),
    (∀ (T : TypeId), t.fits P (.inl T) = true → ∀ (fuel : Nat) (cs : List Value) (y : DataW H × List MemPlace), DataW.trod enc P w base spare held fuel T cs = some y → (∀ n ∈ y.1.weights P T, n ≤ 140737488351232) → ∃ x, t.At w (fun j => cs[j]?) x) ∧
    (∀ (fs : List Field) (o : Nat), t.fits P (.inr (fs, o)) = true → ∀ (cs : List Value), cs.length = o + t.size → (∀ (j : Nat) (f : Field), fs[j]? = some f → ∃ (fuel : Nat) (y : DataW H × List MemPlace), DataW.trod enc P w base spare held fuel f.type ((cs.drop f.offset).take (P.cellsOf f.type)) = some y ∧ ∀ n ∈ y.1.weights P f.type, n ≤ 140737488351232) →
      ∃ x, t.At w (fun j => cs[o + j]?) x)
  | .int k => by
    refine ⟨fun T hf fuel cs y h hsz => ?_, fun fs o hf => by simp [Ty.fits] at hf⟩
    simp only [Ty.fits] at hf
    split at hf
    · rename_i k' hu
      obtain rfl : k' = k := by simpa using hf
      obtain ⟨n, rfl, _, hn⟩ := DataW.trod_int hu h
      exact ⟨n, rfl, hn⟩
    · cases hf
  | .bool => by
    refine ⟨fun T hf fuel cs y h hsz => ?_, fun fs o hf => by simp [Ty.fits] at hf⟩
    simp only [Ty.fits] at hf
    split at hf
    · rename_i hu
      obtain ⟨n, rfl, _⟩ := DataW.trod_bool hu h
      exact ⟨n, rfl⟩
    · cases hf
  | .str => by
    refine ⟨fun T hf fuel cs y h hsz => ?_, fun fs o hf => by simp [Ty.fits] at hf⟩
    simp only [Ty.fits] at hf
    split at hf
    · rename_i hu
      obtain ⟨n, rfl, rfl, hn⟩ := DataW.trod_string hu h
      exact ⟨n, rfl, by have := hsz n.data.toList.length (by simp [DataW.weights]); simpa using this⟩
    · cases hf
  | .sl t => by
    refine ⟨fun T hf fuel cs y h hsz => ?_, fun fs o hf => by simp [Ty.fits] at hf⟩
    simp only [Ty.fits] at hf
    split at hf
    · rename_i e hu
      simp only [Bool.and_eq_true, beq_iff_eq, decide_eq_true_eq] at hf
      obtain ⟨⟨⟨hft, hC⟩, hpos⟩, hby⟩ := hf
      rcases Go.Deep.open_slice hu h with ⟨rfl, _⟩ | ⟨a, len, cap, m, n, D, Pl, rfl, hb, hl, hm, hmm, rfl, hi⟩
      · exact ⟨[], none, 0, rfl, by simp, by simp, fun h0 => absurd h0 (by simp)⟩
      · have hlm : len ≤ m := by rw [hmm]; split <;> omega
        have key : ∀ i, i < len → ∃ x, t.At w (fun j => w.cell? ((a.add (i * t.size)).add j)) x := by
          intro i hil
          obtain ⟨cs', hc, ht'⟩ := hi i (by omega)
          obtain ⟨_, hcl, hat⟩ := World.cells?_some hc
          obtain ⟨x, hx⟩ := (Ty.of_trod t).1 e hft n cs' _ ht' (fun q hq => hsz q (by
            simp only [DataW.weights, hu, List.mem_cons, List.mem_append]
            exact .inr (.inl (weights_all ((List.range len).map D) (D i) (List.mem_map.2 ⟨i, List.mem_range.2 hil, rfl⟩) q hq))))
          rw [hC] at hat hcl
          exact ⟨x, Ty.At.congr t (fun j hj => hat j hj) hx⟩
        obtain ⟨xs, hxl, hxs⟩ := exists_list key
        have hwt := hsz ((((List.range len).map D).length + ((List.range (m - len)).map fun j => D (len + j)).length) * P.bytesOf e) (by simp [DataW.weights, hu])
        have hwt2 : len * t.bytes ≤ 140737488351232 := by
          refine Nat.le_trans (Nat.mul_le_mul ?_ hby) hwt
          simp
        unfold maxLen at hm
        refine ⟨xs, some a, cap, by rw [hxl]; rfl, by rw [hxl]; exact hwt2, ⟨by omega, by omega, fun hn => by cases hn⟩, fun h0 => ?_⟩
        have hc0 : ∃ v, w.cell? (a.add 0) = some v := by
          obtain ⟨cs', hc, _⟩ := hi 0 (by omega)
          obtain ⟨_, hcl, hat⟩ := World.cells?_some hc
          have h1 := hat 0 (by omega)
          rw [Go.Deep.add_add] at h1
          simp only [Nat.zero_mul, Nat.add_zero] at h1
          exact ⟨cs'[0]'(by omega), by rw [h1, List.getElem?_eq_getElem (by omega)]⟩
        obtain ⟨v, hv⟩ := hc0
        obtain ⟨b, o, spot⟩ := a
        have hspot : spot = none := by simpa [Addr.add] using World.cell?_spot hv
        subst hspot
        have hblt : b < w.heap.size := by simpa [Addr.add] using lt_of_cell hv
        refine ⟨b, o, rfl, hblt, fun i x hx => ?_⟩
        refine Ty.At.congr t (fun j hj => ?_) (hxs i x hx)
        rw [Go.Deep.add_add, Go.WideShapes.add_plain, Nat.add_assoc]
    · cases hf
  | .pr t u => by
    have main : ∀ (f : Field) (r : List Field) (o : Nat), (f.offset == o && P.cellsOf f.type == t.size && t.fits P (.inl f.type) && u.fits P (.inr (r, o + t.size))) = true → ∀ (cs : List Value), cs.length = o + (t.size + u.size) →
        (∀ (j : Nat) (g : Field), (f :: r)[j]? = some g → ∃ (fuel : Nat) (y : DataW H × List MemPlace), DataW.trod enc P w base spare held fuel g.type ((cs.drop g.offset).take (P.cellsOf g.type)) = some y ∧ ∀ n ∈ y.1.weights P g.type, n ≤ 140737488351232) →
        ∃ x, Ty.At w (.pr t u) (fun j => cs[o + j]?) x := by
      intro f r o hf cs hcs hall
      simp only [Bool.and_eq_true, beq_iff_eq] at hf
      obtain ⟨⟨⟨ho, hc⟩, ht⟩, hu⟩ := hf
      obtain ⟨fuel, y, hy, hyw⟩ := hall 0 f rfl
      obtain ⟨x1, h1⟩ := (Ty.of_trod t).1 _ ht _ _ _ hy hyw
      obtain ⟨x2, h2⟩ := (Ty.of_trod u).2 r (o + t.size) hu cs (by omega) (fun j g hg => hall (j + 1) g (by simpa using hg))
      refine ⟨(x1, x2), Ty.At.congr t (fun j hj => ?_) h1, Ty.At.congr u (fun j hj => ?_) h2⟩
      · simp only [hc, ho]
        rw [List.getElem?_take, if_pos hj, List.getElem?_drop]
      · simp only [Nat.add_assoc]
    refine ⟨fun T hf fuel cs y h hsz => ?_, fun fs o hf cs hcs hall => ?_⟩
    · simp only [Ty.fits] at hf
      split at hf
      · rename_i fs hu
        split at hf
        · rename_i f r hfs
          simp only [Bool.and_eq_true, beq_iff_eq] at hf
          obtain ⟨⟨⟨⟨ho, hc⟩, ht⟩, hu'⟩, hsz⟩ := hf
          obtain ⟨ys, n', _, rfl, hlen, _, hall⟩ := DataW.trod_struct hu h
          have hm := main f r 0 (by simp [ho, hc, ht, hu']) cs (by omega) (fun j g hg => by
            have hg' : fs[j]? = some g := by rw [← hfs] at hg; simpa using hg
            have := hall j g hg'
            have hjl : j < ys.length := by
              have : j < fs.size := (Array.getElem?_eq_some_iff.1 hg').1
              omega
            refine ⟨n', ys[j], by rw [hall j g hg', List.getElem?_eq_getElem hjl], fun q hq => hsz q ?_⟩
            simp only [DataW.weights, hu]
            exact DataW.weights_mem_each (j := j) (t := g.type) (d := ys[j].1) (by rw [List.getElem?_map, Array.getElem?_toList, hg']; rfl) (by rw [List.getElem?_map, List.getElem?_eq_getElem hjl]; rfl) q hq)
          simpa using hm
        · cases hf
      · cases hf
    · match fs, hf with
      | f :: r, hf =>
        simp only [Ty.fits] at hf
        exact main f r o hf cs (by simpa [Ty.size] using hcs) hall
      | [], hf => simp [Ty.fits] at hf
  | .unit => by
    refine ⟨fun T hf => by simp [Ty.fits] at hf, fun fs o hf cs hcs hall => ⟨(), trivial⟩⟩

end

/-- AN ARGUMENT that is a slice: it is of this form, and its elements read. -/
theorem arg_sl {H : Type} {enc : TypeId × Value → H} {w : World} {base : Nat} {T : TypeId} {v : Value} {d : DataW H} {p : List MemPlace} (t : Ty) (hf : (Ty.sl t).fits Try.prog (.inl T) = true)
    (hv : Value.okWide Try.prog w .any base T v) (h : DataW.Trod enc Try.prog w 0 (fun _ => true) true T v d p) (hsz : ∀ n ∈ d.weights Try.prog T, n ≤ 140737488351232) :
    ∃ (A : Option Addr) (cap : Nat) (xs : List t.den), v = .slice A xs.length cap ∧ xs.length * t.bytes ≤ 140737488351232 ∧ (xs.length ≤ cap ∧ cap ≤ 9223372036854775807) ∧
      (0 < xs.length → ∃ b o, A = some ⟨b, o, none⟩ ∧ b < w.heap.size ∧ ∀ (i : Nat) (x : t.den), xs[i]? = some x → t.At w (fun j => w.cell? ⟨b, o + i * t.size + j, none⟩) x) := by
  have hu : ∃ e, Try.prog.underlying T = some (.slice e) := by
    simp only [Ty.fits] at hf
    split at hf
    · rename_i e hu
      exact ⟨e, hu⟩
    · cases hf
  obtain ⟨e, hu⟩ := hu
  obtain ⟨a, len, cap, rfl⟩ := okWide_slice hu hv
  obtain ⟨fuel, hfu⟩ := h
  obtain ⟨xs, A, cap', h0, h1, h2, h3⟩ := (Ty.of_trod (.sl t)).1 T hf fuel _ _ hfu hsz
  refine ⟨A, cap', xs, ?_, h1, ⟨h2.1, h2.2.1⟩, h3⟩
  simpa [Value.cells] using h0

/-- AN ARGUMENT that is a struct by value: its cells read. -/
theorem arg_st {H : Type} {enc : TypeId × Value → H} {w : World} {base : Nat} {T : TypeId} {v : Value} {d : DataW H} {p : List MemPlace} (t u : Ty) (hf : (Ty.pr t u).fits Try.prog (.inl T) = true)
    (hv : Value.okWide Try.prog w .any base T v) (h : DataW.Trod enc Try.prog w 0 (fun _ => true) true T v d p) (hsz : ∀ n ∈ d.weights Try.prog T, n ≤ 140737488351232) :
    ∃ (cs : Array Value) (x : (Ty.pr t u).den), v = .agg cs ∧ cs.size = (Ty.pr t u).size ∧ (Ty.pr t u).At w (fun j => cs[j]?) x := by
  have hu : ∃ fs, Try.prog.underlying T = some (.struct fs) ∧ Try.prog.cellsOf T = (Ty.pr t u).size := by
    have hf' := hf
    simp only [Ty.fits] at hf'
    split at hf'
    · rename_i fs hu
      split at hf'
      · simp only [Bool.and_eq_true, beq_iff_eq] at hf'
        exact ⟨fs, hu, hf'.2⟩
      · cases hf'
    · cases hf'
  obtain ⟨fs, hu, hC⟩ := hu
  obtain ⟨cs, rfl, hcs⟩ := okWide_struct hu hv
  obtain ⟨fuel, hfu⟩ := h
  obtain ⟨x, hx⟩ := (Ty.of_trod (.pr t u)).1 T hf fuel _ _ hfu hsz
  refine ⟨cs, x, rfl, hcs.trans hC, ?_⟩
  simpa [Value.cells] using hx

/-- a slice of integers that reads: its value, its numbers -/
theorem at_ints {w : World} {k : IntKind} {c : Nat → Option Value} {xs : List Int} (h : (Ty.sl (.int k)).At w c xs) :
    ∃ (A : Option Addr) (cap : Nat), c 0 = some (.slice A xs.length cap) ∧ Row w (.slice A xs.length cap) (xs.map fun x => .int k x) ∧ (∀ x ∈ xs, (Lit.int k x).wf = true) ∧ xs.length * (Ty.int k).bytes ≤ 140737488351232 ∧ (xs.length ≤ cap ∧ cap ≤ 9223372036854775807) := by
  obtain ⟨A, cap, h0, h1, h2, h3⟩ := h
  refine ⟨A, cap, h0, ⟨A, cap, by rw [List.length_map], fun hp => ?_⟩, ?_, h1, ⟨h2.1, h2.2.1⟩⟩
  · obtain ⟨b, o, hA, hb, hi⟩ := h3 (by rw [List.length_map] at hp; exact hp)
    refine ⟨b, o, hA, hb, fun i u hu => ?_⟩
    rw [List.getElem?_map] at hu
    cases hx : xs[i]? with
    | none => rw [hx] at hu; cases hu
    | some x =>
      rw [hx] at hu
      simp only [Option.map_some, Option.some.injEq] at hu
      subst hu
      have := (hi i x hx).1
      simpa [Ty.size] using this
  · intro x hx
    obtain ⟨i, hi, rfl⟩ := List.mem_iff_getElem.1 hx
    obtain ⟨b, o, hA, hb, hii⟩ := h3 (Nat.lt_of_le_of_lt (Nat.zero_le _) hi)
    exact (hii i _ (List.getElem?_eq_getElem hi)).2

/-- a slice of bytes that reads -/
theorem at_bytes {w : World} {c : Nat → Option Value} {xs : List Int} (h : (Ty.sl (.int .u8)).At w c xs) :
    ∃ (A : Option Addr) (cap : Nat) (l : List Nat), c 0 = some (.slice A l.length cap) ∧ Row w (.slice A l.length cap) (l.map fun (x : Nat) => .int .u8 x) ∧ (∀ x ∈ l, x < 256) ∧ l.length ≤ 140737488351232 ∧ (l.length ≤ cap ∧ cap ≤ 9223372036854775807) := by
  obtain ⟨A, cap, h0, h1, h2, h3, h4⟩ := at_ints h
  have hr : ∀ x ∈ xs, 0 ≤ x ∧ x ≤ 255 := fun x hx => bounds_u8 (h2 x hx)
  have hm : (xs.map (·.toNat)).map (fun (x : Nat) => Value.int .u8 x) = xs.map fun x => .int .u8 x := by
    rw [List.map_map]
    refine List.map_congr_left fun x hx => ?_
    have := hr x hx
    simp only [Function.comp]
    congr 1
    omega
  refine ⟨A, cap, xs.map (·.toNat), by rw [List.length_map]; exact h0, by rw [List.length_map, hm]; exact h1, fun y hy => ?_, ?_, by rw [List.length_map]; exact h4⟩
  · simp only [List.mem_map] at hy
    obtain ⟨x, hx, rfl⟩ := hy
    have := hr x hx
    omega
  · rw [List.length_map]
    simpa [Ty.bytes] using h3

/-- a slice that reads is nil where it has no address -/
theorem at_nil {w : World} {t : Ty} {c : Nat → Option Value} {xs : List t.den} (h : (Ty.sl t).At w c xs) {m k : Nat} (h0 : c 0 = some (.slice none m k)) : m = 0 ∧ k = 0 := by
  obtain ⟨A, cap, h1, _, h2, h3⟩ := h
  rw [h0] at h1
  simp only [Option.some.injEq, Value.slice.injEq] at h1
  obtain ⟨rfl, rfl, rfl⟩ := h1
  have := h2.2.2 rfl
  omega

/-- a slice of strings that reads -/
theorem at_strs {w : World} {c : Nat → Option Value} {xs : List ByteArray} (h : (Ty.sl .str).At w c xs) :
    ∃ (A : Option Addr) (cap : Nat) (ts : List ByteArray), c 0 = some (.slice A ts.length cap) ∧ Row w (.slice A ts.length cap) (ts.map .string) ∧ (∀ x ∈ ts, ByteArray.size x ≤ 140737488351232) ∧ ts.length * 16 ≤ 140737488351232 ∧ (ts.length ≤ cap ∧ cap ≤ 9223372036854775807) := by
  obtain ⟨A, cap, h0, h1, h2, h3⟩ := h
  refine ⟨A, cap, xs, h0, ⟨A, cap, by rw [List.length_map], fun hp => ?_⟩, ?_, h1, ⟨h2.1, h2.2.1⟩⟩
  · obtain ⟨b, o, hA, hb, hi⟩ := h3 (by rw [List.length_map] at hp; exact hp)
    refine ⟨b, o, hA, hb, fun i u hu => ?_⟩
    rw [List.getElem?_map] at hu
    cases hx : xs[i]? with
    | none => rw [hx] at hu; cases hu
    | some x =>
      rw [hx] at hu
      simp only [Option.map_some, Option.some.injEq] at hu
      subst hu
      have := (hi i x hx).1
      simpa [Ty.size] using this
  · intro x hx
    obtain ⟨i, hi, rfl⟩ := List.mem_iff_getElem.1 hx
    obtain ⟨b, o, hA, hb, hii⟩ := h3 (Nat.lt_of_le_of_lt (Nat.zero_le _) hi)
    exact (hii i _ (List.getElem?_eq_getElem hi)).2

theorem at_int {w : World} {k : IntKind} {c : Nat → Option Value} {n : Int} (h : (Ty.int k).At w c n) : c 0 = some (.int k n) ∧ (Lit.int k n).wf = true := h
end Go.Proofs.Ytpafbgdbjambgaa

namespace Go.Proofs.Ytpafbgdbjambgaa
open Go.RowKit Go.ChangeShapes Go.WideShapes Go.ChangeAt

/-- a slice of unsigned integers that reads -/
theorem at_nats {w : World} {k : IntKind} {c : Nat → Option Value} {xs : List Int} (h : (Ty.sl (.int k)).At w c xs) (hk : ∀ x, (Lit.int k x).wf = true → 0 ≤ x) :
    ∃ (A : Option Addr) (cap : Nat) (l : List Nat), c 0 = some (.slice A l.length cap) ∧ RowOf (fun x : Nat => .int k x) w A l ∧ (∀ x ∈ l, (Lit.int k (x : Nat)).wf = true) ∧ l.length * (Ty.int k).bytes ≤ 140737488351232 ∧ xs = l.map (fun x : Nat => (x : Int)) ∧ l.length ≤ cap := by
  obtain ⟨A, cap, h0, hr, hw, hb, hc⟩ := at_ints h
  have hm : (xs.map (·.toNat)).map (fun x : Nat => (x : Int)) = xs := by
    rw [List.map_map]
    refine (List.map_congr_left fun x hx => ?_).trans (List.map_id xs)
    have := hk x (hw x hx)
    simp only [Function.comp, id]
    omega
  have hm2 : (xs.map (·.toNat)).map (fun (x : Nat) => Value.int k x) = xs.map fun x => .int k x := by
    have := congrArg (List.map fun x : Int => Value.int k x) hm
    rwa [List.map_map] at this
  have hr2 : Row w (.slice A (xs.map (·.toNat)).length cap) ((xs.map (·.toNat)).map (fun (x : Nat) => Value.int k x)) := by rw [List.length_map, hm2]; exact hr
  refine ⟨A, cap, xs.map (·.toNat), by rw [List.length_map]; exact h0, (RowOf.of_row hr2).2, fun y hy => ?_, by rw [List.length_map]; exact hb, hm.symm, by rw [List.length_map]; exact hc.1⟩
  obtain ⟨x, hx, rfl⟩ := List.mem_map.1 hy
  have h1 := hw x hx
  have h2 := hk x h1
  rwa [Int.toNat_of_nonneg h2]
theorem wf_bounds {k : IntKind} {x : Int} (h : (Lit.int k x).wf = true) : k.min ≤ x ∧ x ≤ k.max := by simpa [Lit.wf] using h
theorem wf_u64 {x : Int} (h : (Lit.int .u64 x).wf = true) : 0 ≤ x ∧ x < 18446744073709551616 := by
  have := wf_bounds h
  have e1 : IntKind.u64.min = 0 := by decide
  have e2 : IntKind.u64.max = 18446744073709551615 := by decide
  omega
theorem wf_u8 {x : Int} (h : (Lit.int .u8 x).wf = true) : 0 ≤ x ∧ x < 256 := by
  have := wf_bounds h
  have e1 : IntKind.u8.min = 0 := by decide
  have e2 : IntKind.u8.max = 255 := by decide
  omega
theorem wf_i64 {x : Int} (h : (Lit.int .i64 x).wf = true) : -9223372036854775808 ≤ x ∧ x ≤ 9223372036854775807 := by
  have := wf_bounds h
  have e1 : IntKind.i64.min = -9223372036854775808 := by decide
  have e2 : IntKind.i64.max = 9223372036854775807 := by decide
  omega
theorem at_longs {w : World} {c : Nat → Option Value} {xs : List Int} (h : (Ty.sl (.int .u64)).At w c xs) :
    ∃ (A : Option Addr) (cap : Nat) (l : List Nat), c 0 = some (.slice A l.length cap) ∧ RowOf uV w A l ∧ (∀ x ∈ l, x < 2 ^ 64) ∧ l.length * 8 ≤ 140737488351232 ∧ l.length ≤ cap := by
  obtain ⟨A, cap, l, h0, hr, hw, hb, _, hc⟩ := at_nats h (fun x hx => (wf_u64 hx).1)
  exact ⟨A, cap, l, h0, hr, fun x hx => by have := wf_u64 (hw x hx); omega, hb, hc⟩
theorem at_bytes' {w : World} {c : Nat → Option Value} {xs : List Int} (h : (Ty.sl (.int .u8)).At w c xs) :
    ∃ (A : Option Addr) (cap : Nat) (l : List Nat), c 0 = some (.slice A l.length cap) ∧ RowOf bV w A l ∧ (∀ x ∈ l, x < 256) ∧ l.length ≤ 140737488351232 ∧ l.length ≤ cap := by
  obtain ⟨A, cap, l, h0, hr, hw, hb, _, hc⟩ := at_nats h (fun x hx => (wf_u8 hx).1)
  exact ⟨A, cap, l, h0, hr, fun x hx => by have := wf_u8 (hw x hx); omega, by simpa [Ty.bytes] using hb, hc⟩
/-- a slice of numbers -/
theorem at_nums {w : World} {c : Nat → Option Value} {xs : List Int} (h : (Ty.sl (.int .i64)).At w c xs) :
    ∃ (A : Option Addr) (cap : Nat), c 0 = some (.slice A xs.length cap) ∧ RowOf iV w A xs ∧ (∀ x ∈ xs, -9223372036854775808 ≤ x ∧ x ≤ 9223372036854775807) ∧ xs.length * 8 ≤ 140737488351232 ∧ xs.length ≤ cap := by
  obtain ⟨A, cap, h0, hr, hw, hb, hc⟩ := at_ints h
  exact ⟨A, cap, h0, (RowOf.of_row hr).2, fun x hx => wf_i64 (hw x hx), hb, hc.1⟩
theorem Blk.grown {w w' : World} {g : Nat} {t : TypeId} {cs : Array Value} {r : Option Nat} (h : Blk w g t cs) (hg : w.grownBy w' r) (hne : ∀ k, r = some k → k ≠ g) : Blk w' g t cs :=
  (hg.block g h.lt (fun e => hne g e.symm rfl)).trans h
end Go.Proofs.Ytpafbgdbjambgaa
namespace Go.Proofs.Ytpafbgdbjambgaa
open Go.RowKit Go.ChangeShapes Go.WideShapes Go.ChangeAt
/-- a law over a slice: what the frame asks, out of the walk -/
theorem walk_sl {H : Type} {enc : TypeId × Value → H} {F : FuncId} {T : TypeId} (t : Ty) (hf : (Ty.sl t).fits Try.prog (.inl T) = true)
    (h : ∀ (A : Option Addr) (c : Nat) (xs : List t.den) (w : World), xs.length * t.bytes ≤ 140737488351232 → (0 < xs.length → ∃ b o, A = some ⟨b, o, none⟩ ∧ ∀ (i : Nat) (hi : i < xs.length), t.At w (fun j => w.cell? ⟨b, o + i * t.size + j, none⟩) xs[i]) →
      Rt Try.prog F [.slice A xs.length c] w fun v w' => v = .bool true ∧ From w w')
    (W : World) (base : Nat) (v : Value) (d : DataW H) (p : List MemPlace) (hok : Value.okWide Try.prog W .any base T v) (ht : DataW.Trod enc Try.prog W 0 (fun _ => true) true T v d p) (hsz : ∀ n ∈ d.weights Try.prog T, n ≤ 140737488351232) :
    Calls Try.prog F #[v] W fun e W' => e = .returned (.bool true) ∧ From W W' := by
  obtain ⟨A, cap, xs, rfl, hb, _, he⟩ := arg_sl t hf hok ht hsz
  refine Rt.to (h A cap xs W hb fun h0 => ?_)
  obtain ⟨b, o, hA, _, hi⟩ := he h0
  exact ⟨b, o, hA, fun i h => hi i _ (List.getElem?_eq_getElem h)⟩
theorem range4 {w : World} {b a : Nat} {v0 v1 v2 v3 : Value} (h0 : w.cell? ⟨b, a, none⟩ = some v0) (h1 : w.cell? ⟨b, a + 1, none⟩ = some v1) (h2 : w.cell? ⟨b, a + 2, none⟩ = some v2) (h3 : w.cell? ⟨b, a + 3, none⟩ = some v3) : w.rangeAt b a [v0, v1, v2, v3] := fun j v hv => by
  match j, hv with
  | 0, hv => simp at hv; subst hv; exact h0
  | 1, hv => simp at hv; subst hv; exact h1
  | 2, hv => simp at hv; subst hv; exact h2
  | 3, hv => simp at hv; subst hv; exact h3
  | j + 4, hv => simp at hv
end Go.Proofs.Ytpafbgdbjambgaa

namespace Go.Proofs.Ytpafbgdbjambgaa
open Go.RowKit Go.ChangeShapes Go.WideShapes Go.ChangeAt
/-- a guard over an operation that was passed over itself, in a drawn region -/
theorem ok_gund {P : Program} {ops : Array Oper} {n : Fr} {L : List (Nat × Value)} {w : World} {op : Op} {ty : TypeId} {pos : String} {after : Array Edge} {d : Option Nat} {R : Value → World → Prop} {j : Nat} {b : Bool} (hg : wantQ ops n L j = undef) (hR : R undef w) : OpOK P ops n L ⟨d, op, ty, pos, after, some (j, b)⟩ w R :=
  .inr ⟨by show (yielded ops (mkT n.n L) j == some b) = false; rw [yielded_undef hg]; rfl, hR⟩
/-- a row's block is not one of another type -/
theorem own_off {w : World} {base e s n c m g t : Nat} {A : Option Addr} {xs : List Value} {cs : Array Value} (h : w.ownsRow base e s (.slice A n c) m xs) (hb : Blk w g t cs) (hne : t ≠ e) : ∀ k, A.map (·.block) = some k → k ≠ g := by
  rintro k hk rfl
  rcases h.2 with ⟨h0, _⟩ | ⟨g', cap, cur, hv, hg, hh, r⟩
  · simp only [Value.slice.injEq] at h0
    rw [h0.1] at hk
    cases hk
  · simp only [Value.slice.injEq] at hv
    rw [hv.1] at hk
    simp only [Option.map_some, Option.some.injEq] at hk
    subst hk
    unfold Blk at hb
    rw [hh] at hb
    simp only [Option.some.injEq, Obj.cells.injEq] at hb
    exact hne hb.2.1.symm
theorem own_only3 {w w' : World} {base e s n c g : Nat} {A : Option Addr} {xs : List Value} (h : w.ownsRow base e s (.slice A n c) n xs) (o : Only g w w') (hne : ∀ k, A.map (·.block) = some k → k ≠ g) : w'.ownsRow base e s (.slice A n c) n xs := by
  refine ⟨h.1, ?_⟩
  rcases h.2 with h2 | ⟨g', cap, cur, hv, hg, hh, r⟩
  · exact .inl h2
  · refine .inr ⟨g', cap, cur, hv, hg, ?_, r⟩
    simp only [Value.slice.injEq] at hv
    rw [o.block g' (hne g' (by rw [hv.1]; rfl))]
    exact hh
theorem own_le {w : World} {base base' size n : Nat} {e : TypeId} {v : Value} {xs : List Value} (h : w.ownsRow base e size v n xs) (hb : base' ≤ base) : w.ownsRow base' e size v n xs := by
  refine ⟨h.1, ?_⟩
  rcases h.2 with h0 | ⟨g, cap, cur, hv, hg, r⟩
  · exact .inl h0
  · exact .inr ⟨g, cap, cur, hv, by omega, r⟩
theorem arr_get {α : Type} {f : α → Value} {l : List α} (i : Nat) (h : i < l.length) : (l.map f).toArray[i]? = some (f l[i]) := by simp [h]
theorem walk_struct {H : Type} {enc : TypeId × Value → H} {F : FuncId} {T : TypeId} (t u : Ty) (hf : (Ty.pr t u).fits Try.prog (.inl T) = true)
    (h : ∀ (cs : Array Value) (x : (Ty.pr t u).den) (w : World), cs.size = (Ty.pr t u).size → (Ty.pr t u).At w (fun j => cs[j]?) x → Rt Try.prog F [.agg cs] w fun v w' => v = .bool true ∧ From w w')
    (W : World) (base : Nat) (v : Value) (d : DataW H) (p : List MemPlace) (hok : Value.okWide Try.prog W .any base T v) (ht : DataW.Trod enc Try.prog W 0 (fun _ => true) true T v d p) (hsz : ∀ n ∈ d.weights Try.prog T, n ≤ 140737488351232) :
    Calls Try.prog F #[v] W fun e W' => e = .returned (.bool true) ∧ From W W' := by
  obtain ⟨cs, x, rfl, hs, ha⟩ := arg_st t u hf hok ht hsz
  exact Rt.to (h cs x W hs ha)
end Go.Proofs.Ytpafbgdbjambgaa

namespace Go.Proofs.Ytpafbgdbjambgaa
open Go.RowKit

/-! ### lists of elements, flat -/
section
variable {α : Type} {f : α → List Value} {s : Nat}
theorem flat_len (hf : ∀ x, (f x).length = s) : ∀ (L : List α), (L.flatMap f).length = L.length * s
  | [] => by simp
  | x :: r => by rw [List.flatMap_cons, List.length_append, hf, flat_len hf r, List.length_cons, Nat.succ_mul]; omega
theorem flat_take (hf : ∀ x, (f x).length = s) : ∀ (L : List α) (k : Nat), (L.flatMap f).take (k * s) = (L.take k).flatMap f
  | [], k => by simp
  | x :: r, 0 => by simp
  | x :: r, k + 1 => by
    rw [List.flatMap_cons, List.take_succ_cons, List.flatMap_cons, ← flat_take hf r k, List.take_append, hf]
    rw [show (k + 1) * s - s = k * s by rw [Nat.succ_mul]; omega, List.take_of_length_le (by rw [hf, Nat.succ_mul]; omega)]
theorem flat_drop (hf : ∀ x, (f x).length = s) : ∀ (L : List α) (k : Nat), (L.flatMap f).drop (k * s) = (L.drop k).flatMap f
  | [], k => by simp
  | x :: r, 0 => by simp
  | x :: r, k + 1 => by
    rw [List.flatMap_cons, List.drop_succ_cons, ← flat_drop hf r k, List.drop_append, hf]
    rw [show (k + 1) * s - s = k * s by rw [Nat.succ_mul]; omega, List.drop_of_length_le (by rw [hf, Nat.succ_mul]; omega), List.nil_append]
theorem flat_at (hf : ∀ x, (f x).length = s) (L : List α) (i : Nat) (hi : i < L.length) (j : Nat) (hj : j < s) : (L.flatMap f)[i * s + j]? = (f L[i])[j]? := by
  have h1 : ((L.flatMap f).drop (i * s))[j]? = (L.flatMap f)[i * s + j]? := by rw [List.getElem?_drop]
  rw [← h1, flat_drop hf, List.drop_eq_getElem_cons hi, List.flatMap_cons, List.getElem?_append_left (by rw [hf]; exact hj)]
theorem flat_one {L : List α} (h : ∀ x ∈ L, ∀ u ∈ f x, u.oneCell' = true) : ∀ u ∈ L.flatMap f, u.oneCell' = true := fun u hu => by
  obtain ⟨x, hx, hu⟩ := List.mem_flatMap.1 hu
  exact h x hx u hu
/-- from this address on lie these, s cells each -/
def RowK (s : Nat) (f : α → List Value) (w : World) (A : Option Addr) (L : List α) : Prop := 0 < L.length → ∃ b o, A = some ⟨b, o, none⟩ ∧ ∀ i (h : i < L.length), w.rangeAt b (o + i * s) (f L[i])
theorem RowK.from_ {w w' : World} {A : Option Addr} {L : List α} (h : RowK s f w A L) (hF : From w w') : RowK s f w' A L := fun h0 =>
  let ⟨b, o, hA, hc⟩ := h h0
  ⟨b, o, hA, fun i hi => rangeF hF (hc i hi)⟩
theorem RowK.nil {w : World} {A : Option Addr} : RowK s f w A [] := fun h => absurd h (by simp)
theorem RowK.flat (hf : ∀ x, (f x).length = s) {w : World} {A : Option Addr} {L : List α} (h : RowK s f w A L) : 0 < L.length → ∃ b o, A = some ⟨b, o, none⟩ ∧ w.rangeAt b o (L.flatMap f) := fun h0 => by
  obtain ⟨b, o, hA, hc⟩ := h h0
  refine ⟨b, o, hA, fun j v hv => ?_⟩
  have hlt : j < L.length * s := by
    rw [← flat_len hf]
    rcases Nat.lt_or_ge j (L.flatMap f).length with a | a
    · exact a
    · rw [List.getElem?_eq_none a] at hv; cases hv
  have hs : 0 < s := by
    rcases Nat.eq_zero_or_pos s with h | h
    · subst h; omega
    · exact h
  have hi : j / s < L.length := by rw [Nat.div_lt_iff_lt_mul hs]; exact hlt
  have hj : j / s * s + j % s = j := by rw [Nat.mul_comm]; exact Nat.div_add_mod j s
  rw [← hj, flat_at hf L _ hi _ (Nat.mod_lt _ hs)] at hv
  have := hc _ hi _ v hv
  rwa [Nat.add_assoc, hj] at this
theorem RowK.drop {w : World} {b o : Nat} {L : List α} (h : RowK s f w (some ⟨b, o, none⟩) L) (k : Nat) (hk : k ≤ L.length) : RowK s f w (some ⟨b, o + k * s, none⟩) (L.drop k) := fun h0 => by
  rw [List.length_drop] at h0
  obtain ⟨b', o', hA, hc⟩ := h (by omega)
  simp only [Option.some.injEq, Addr.mk.injEq, and_true] at hA
  obtain ⟨rfl, rfl⟩ := hA
  refine ⟨b, o + k * s, rfl, fun i hi => ?_⟩
  rw [List.getElem_drop]
  have := hc (k + i) (by rw [List.length_drop] at hi; omega)
  rwa [Nat.add_mul, ← Nat.add_assoc] at this
theorem RowK.take {w : World} {A : Option Addr} {L : List α} (h : RowK s f w A L) (k : Nat) : RowK s f w A (L.take k) := fun h0 => by
  rw [List.length_take] at h0
  obtain ⟨b, o, hA, hc⟩ := h (by omega)
  refine ⟨b, o, hA, fun i hi => ?_⟩
  rw [List.getElem_take]
  exact hc i (by rw [List.length_take] at hi; omega)
theorem RowK.own (hf : ∀ x, (f x).length = s) (hs : 0 < s) {w : World} {base e n c : Nat} {A : Option Addr} {L : List α} (h : w.ownsRow base e s (.slice A n c) n (L.flatMap f)) : L.length = n ∧ RowK s f w A L := by
  have hn : L.length = n := by
    have := h.1
    rw [flat_len hf] at this
    exact Nat.eq_of_mul_eq_mul_right hs this
  refine ⟨hn, fun h0 => ?_⟩
  obtain ⟨g, rfl⟩ := own_some h (by omega)
  refine ⟨g, 0, rfl, fun i hi j v hv => ?_⟩
  have hj : j < s := by
    rw [← hf L[i]]
    rcases Nat.lt_or_ge j (f L[i]).length with a | a
    · exact a
    · rw [List.getElem?_eq_none a] at hv; cases hv
  have hlt : i * s + j < n * s := by
    have : (i + 1) * s ≤ n * s := Nat.mul_le_mul_right s (by omega)
    rw [Nat.succ_mul] at this
    omega
  rw [Nat.zero_add, h.cellAt _ hlt, flat_at hf L i hi j hj]
  exact hv
end

/-! ### an own row as a block -/
theorem own_blk {w : World} {base e size n c : Nat} {A : Option Addr} {xs : List Value} (h : w.ownsRow base e size (.slice A n c) n xs) (hn : 0 < n) :
    ∃ g cur, A = some ⟨g, 0, none⟩ ∧ base ≤ g ∧ Blk w g e (List.toArray cur) ∧ n ≤ c ∧ c ≤ maxLen ∧ cur.length = c * size ∧ cur.take (n * size) = xs := by
  rcases h.2 with ⟨_, h0⟩ | ⟨g, cap, cur, hv, hg, hh, h1, h2, h3, h4⟩
  · omega
  · simp only [Value.slice.injEq, true_and] at hv
    obtain ⟨rfl, rfl⟩ := hv
    exact ⟨g, cur.toList, rfl, hg, by simpa [Blk] using hh, h1, h2, by simpa using h3, h4⟩
theorem own_of {w : World} {base e size n c g : Nat} {cur xs : List Value} (hg : base ≤ g) (hb : Blk w g e cur.toArray) (h1 : n ≤ c) (h2 : c ≤ maxLen) (h3 : cur.length = c * size) (h4 : cur.take (n * size) = xs) :
    w.ownsRow base e size (.slice (some ⟨g, 0, none⟩) n c) n xs := by
  refine ⟨?_, .inr ⟨g, c, cur.toArray, rfl, hg, hb, h1, h2, by simpa using h3, by simpa using h4⟩⟩
  rw [← h4, List.length_take, h3]
  exact Nat.min_eq_left (Nat.mul_le_mul_right _ h1)
theorem over_len (cs vs : List Value) (o : Nat) (h : o + vs.length ≤ cs.length) : (over cs o vs).length = cs.length := by simp [over]; omega
theorem over_take (cs vs : List Value) (o k : Nat) (h : o + vs.length ≤ k) (hk : k ≤ cs.length) : (over cs o vs).take k = over (cs.take k) o vs := by
  unfold over
  rw [List.take_append, List.take_of_length_le (by simp; omega)]
  rw [List.take_take, Nat.min_eq_left (by omega), List.drop_take]
  congr 2
  simp
  omega
theorem over_take_lo (cs vs : List Value) (o k : Nat) (h : k ≤ o) (ho : o ≤ cs.length) : (over cs o vs).take k = cs.take k := by
  unfold over
  rw [List.append_assoc, List.take_append_of_le_length (by simp; omega), List.take_take, Nat.min_eq_left h]
theorem over_nil (cs : List Value) (o : Nat) : over cs o [] = cs := by simp [over]
theorem over_at (cs vs : List Value) (o j : Nat) (h : o + vs.length ≤ cs.length) : (over cs o vs)[j]? = if o ≤ j ∧ j < o + vs.length then vs[j - o]? else cs[j]? := by
  unfold over
  by_cases h1 : j < o
  · rw [if_neg (by omega), List.append_assoc, List.getElem?_append_left (by simp; omega), List.getElem?_take_of_lt h1]
  · by_cases h2 : j < o + vs.length
    · rw [if_pos ⟨by omega, h2⟩, List.append_assoc, List.getElem?_append_right (by simp; omega), List.getElem?_append_left (by simp; omega)]
      congr 1
      simp
      omega
    · rw [if_neg (by omega), List.getElem?_append_right (by simp; omega), List.getElem?_drop]
      congr 1
      simp
      omega

section
variable {P : Program} {ρ : Operand → Value} {w : World}
theorem sz_of {t s : Nat} (h : sizeQ P t = some s) : ∃ i, P.info? t = some i ∧ i.size = s := by
  unfold sizeQ at h
  cases hi : P.info? t with
  | none => simp [hi] at h
  | some i => exact ⟨i, rfl, by simpa [hi] using h⟩
/-- cells written over a block that is known whole -/
theorem run_overB {g o : Nat} {u : TypeId} {cur vs : List Value} {A : Option Addr} (hA : 0 < vs.length → A = some ⟨g, o, none⟩) (hb : Blk w g u cur.toArray) (hfit : o + vs.length ≤ cur.length) (h1 : ∀ v ∈ vs, v.oneCell' = true) :
    ∃ w', (match A with | some a => storeCells a vs | none => (pure () : Sem Unit)).run P w = .ok () w' ∧ Only g w w' ∧ Blk w' g u (over cur o vs).toArray := by
  cases vs with
  | nil =>
    refine ⟨w, ?_, Only.rfl_, by rw [over_nil]; exact hb⟩
    cases A <;> simp [storeCells]
  | cons v vs =>
    obtain rfl := hA (by simp)
    have := run_storeCells_at P g o u (v :: vs) 0 cur.toArray w hb (by simpa using hfit) h1
    refine ⟨_, this, ?_, ?_⟩
    · exact ⟨rfl, rfl, rfl, by simp [World.setRow], fun k hk => setRow_other w g k _ hk⟩
    · have h2 := setRow_heap w g cur.toArray ((cur.toArray.toList.take (o + 0) ++ (v :: vs) ++ cur.toArray.toList.drop (o + 0 + (v :: vs).length)).toArray) u (0, 0) hb
      exact h2
theorem run_loadB {cs : List Value} {n : Nat} {A : Option Addr} (hn : cs.length = n) (h : 0 < cs.length → ∃ b o, A = some ⟨b, o, none⟩ ∧ w.rangeAt b o cs) :
    (match A with | some a => loadCells a n | none => (pure #[] : Sem (Array Value))).run P w = .ok cs.toArray w := by
  subst hn
  cases cs with
  | nil => cases A <;> simp [loadCells, loadCellsFrom]
  | cons c cs =>
    obtain ⟨b, o, rfl, hr⟩ := h (by simp)
    exact run_loadCells_list (P := P) w ⟨b, o, none⟩ (c :: cs) (fun j v hv => by rw [Addr.add_mid]; exact hr j v hv)
/-- copy(dst, src) into a block that is known whole -/
theorem ro_copyB {d s : Operand} {dT sT e size g o m c j c2 : Nat} {A A2 : Option Addr} {u : TypeId} {cur news : List Value} (ht : elemQ P dT = some (e, size)) (hd : ρ d = .slice A m c) (hs : ρ s = .slice A2 j c2) (hn : news.length = min j m * size)
    (hA : 0 < news.length → A = some ⟨g, o, none⟩) (hsrc : 0 < news.length → ∃ b o, A2 = some ⟨b, o, none⟩ ∧ w.rangeAt b o news) (hb : Blk w g u cur.toArray) (hfit : o + news.length ≤ cur.length) (h1 : ∀ v ∈ news, v.oneCell' = true) :
    ∃ w', RO P ρ (.call { callee := .builtin .copy, args := #[d, s], argTypes := #[dT, sT] }) w (.int .i64 (min j m : Nat)) w' ∧ Only g w w' ∧ Blk w' g u (over cur o news).toArray := by
  obtain ⟨hu, hsz⟩ := elem_of ht
  obtain ⟨i, hi, hs2⟩ := sz_of hsz
  subst hs2
  obtain ⟨w', hst, ho, hbl⟩ := run_overB (P := P) (A := A) hA hb hfit h1
  have hl := run_loadB (P := P) (n := min j m * i.size) hn hsrc
  have key : ∀ ty, (Builtin.copy_ #[dT, sT] ty #[.slice A m c, .slice A2 j c2]).run P w = .ok (.int .i64 (min j m : Nat)) w' := fun ty => by
    have e1 : Nat.min j m = min j m := rfl
    cases A2 with
    | none =>
      cases A with
      | none => simp_all [Builtin.copy_, run_underlying hu, Builtin.lenOf, Builtin.firstCells, sizeOf, typeInfo, hi, goInt]
      | some a => simp_all [Builtin.copy_, run_underlying hu, Builtin.lenOf, Builtin.firstCells, sizeOf, typeInfo, hi, goInt]
    | some a2 =>
      simp only at hl
      cases A with
      | none => simp_all [Builtin.copy_, run_underlying hu, Builtin.lenOf, Builtin.firstCells, sizeOf, typeInfo, hi, goInt]
      | some a => simp_all [Builtin.copy_, run_underlying hu, Builtin.lenOf, Builtin.firstCells, sizeOf, typeInfo, hi, goInt]
  refine ⟨w', fun dst ty pos after gg => ?_, ho, hbl⟩
  unfold execOp
  simp only [resolve, invoke, builtin, Sem.run_bind, Sem.run_pure, Result.andThen_ok, List.map_toArray, List.map_cons, List.map_nil, hd, hs, key]
/-- clear(s), s within a block that is known whole -/
theorem ro_clearB {s : Operand} {t e size by_ g o n c : Nat} {A : Option Addr} {u : TypeId} {z : Value} {cur : List Value} (hq : litQ P t = some (e, size, by_, z)) (hzs : z.cells.size = size) (hs : ρ s = .slice A n c)
    (hA : 0 < n * size → A = some ⟨g, o, none⟩) (hb : Blk w g u cur.toArray) (hfit : o + n * size ≤ cur.length) (h1 : ∀ v ∈ z.cells.toList, v.oneCell' = true) :
    ∃ w' zs, RO P ρ (.call { callee := .builtin .clear, args := #[s], argTypes := #[t] }) w (.tuple #[]) w' ∧ Only g w w' ∧ zs.length = n * size ∧ Blk w' g u (over cur o zs).toArray := by
  obtain ⟨i, hu, hi, hsz, _, hz⟩ := lit_of hq
  have hzc : (Builtin.zeroCells z.cells n).toList.length = n * size := by simp [Builtin.zeroCells, hzs]
  have hz1 : ∀ v ∈ (Builtin.zeroCells z.cells n).toList, v.oneCell' = true := fun v hv => by
    simp only [Builtin.zeroCells, Array.toList_map, List.mem_map, Array.toList_range, List.mem_range] at hv
    obtain ⟨k, hk, rfl⟩ := hv
    have hz0 : 0 < z.cells.size := by
      rcases Nat.eq_zero_or_pos z.cells.size with h | h
      · rw [h] at hk; omega
      · exact h
    refine h1 _ ?_
    rw [getElem!_pos z.cells (k % z.cells.size) (Nat.mod_lt _ hz0)]
    exact Array.mem_toList_iff.2 (Array.getElem_mem _)
  obtain ⟨w', hst, ho, hbl⟩ := run_overB (P := P) (A := A) (vs := (Builtin.zeroCells z.cells n).toList) (by rw [hzc]; exact hA) hb (by rw [hzc]; exact hfit) hz1
  have hzv : (zeroValue e).run P w = .ok z w := by simp [zeroValue, typeInfo, hi, hz]
  by_cases h0 : n = 0
  · subst h0
    refine ⟨w, [], fun dst ty pos after gg => ?_, Only.rfl_, by simp, by rw [over_nil]; exact hb⟩
    unfold execOp
    cases A <;> simp [resolve, invoke, builtin, hs, Builtin.clear_, run_underlying hu]
  · obtain ⟨k, rfl⟩ : ∃ k, n = k + 1 := ⟨n - 1, by omega⟩
    refine ⟨w', _, fun dst ty pos after gg => ?_, ho, hzc, hbl⟩
    unfold execOp
    cases A with
    | none => simp_all [resolve, invoke, builtin, Builtin.clear_, run_underlying hu]
    | some a => simp_all [resolve, invoke, builtin, Builtin.clear_, run_underlying hu]
/-- append(s, x...) where there is room, in place -/
theorem ro_appendR {s x : Operand} {t e size g m cap j c2 : Nat} {A2 : Option Addr} {cur news : List Value} (ht : elemQ P t = some (e, size)) (hs : ρ s = .slice (some ⟨g, 0, none⟩) m cap) (hx : ρ x = .slice A2 j c2) (hl : news.length = j * size)
    (hsrc : 0 < news.length → ∃ b o, A2 = some ⟨b, o, none⟩ ∧ w.rangeAt b o news) (hb : Blk w g e cur.toArray) (h1 : ∀ v ∈ news, v.oneCell' = true) (hroom : m + j ≤ cap) (hfit : m * size + news.length ≤ cur.length) :
    ∃ w', RO P ρ (.call { callee := .builtin .append, args := #[s, x], argTypes := #[t, t] }) w (.slice (some ⟨g, 0, none⟩) (m + j) cap) w' ∧ Only g w w' ∧ Blk w' g e (over cur (m * size) news).toArray := by
  obtain ⟨hu, hsz⟩ := elem_of ht
  obtain ⟨i, hi, hs2⟩ := sz_of hsz
  subst hs2
  obtain ⟨w', hst, ho, hbl⟩ := run_overB (P := P) (A := some ⟨g, m * i.size, none⟩) (o := m * i.size) (fun _ => rfl) hb hfit h1
  have hld := run_loadB (P := P) (n := j * i.size) hl hsrc
  have key : ∀ ty, (Builtin.append_ #[t, t] ty #[.slice (some ⟨g, 0, none⟩) m cap, .slice A2 j c2]).run P w = .ok (.slice (some ⟨g, 0, none⟩) (m + j) cap) w' := fun ty => by
    have hf : (Builtin.firstCells i.size j (.slice A2 j c2)).run P w = .ok news.toArray w := by cases A2 <;> exact hld
    simp only at hst
    simp [Builtin.append_, run_underlying hu, sizeOf, typeInfo, hi, Builtin.lenOf, hroom, hf, Addr.add_lit, hst]
  refine ⟨w', fun dst ty pos after gg => ?_, ho, hbl⟩
  unfold execOp
  simp only [resolve, invoke, builtin, Sem.run_bind, Sem.run_pure, Result.andThen_ok, List.map_toArray, List.map_cons, List.map_nil, hs, hx, key]
/-- append(s, make(T, k)...) beyond the room -/
theorem ro_appendZ {s x : Operand} {t tn e size by_ m cap k : Nat} {A : Option Addr} {z : Value} {kn : IntKind} {olds : List Value} (hq : litQ P t = some (e, size, by_, z)) (htn : P.underlying tn = some (.int kn)) (hzs : z.cells.size = size) (hs0 : 0 < size)
    (hs : ρ s = .slice A m cap) (hx : ρ x = .int .i64 (k : Nat)) (hol : olds.length = m * size) (hold : 0 < olds.length → ∃ b o, A = some ⟨b, o, none⟩ ∧ w.rangeAt b o olds) (h0 : 0 < k) (hg : cap < m + k) (h63 : m + k ≤ maxLen) (hby : (m + k) * by_ ≤ 140737488355328) (hmc : m ≤ cap) :
    ∃ c' w' cur, RO P ρ (.call { callee := .builtin .append, args := #[s, x], argTypes := #[t, tn] }) w (.slice (some ⟨w.heap.size, 0, none⟩) (m + k) c') w' ∧ From w w' ∧ Blk w' w.heap.size e (List.toArray cur) ∧ m + k ≤ c' ∧ c' ≤ maxLen ∧ cur.length = c' * size ∧ cur.take (m * size) = olds := by
  obtain ⟨i, hu, hi, hsz, hb, hz⟩ := lit_of hq
  subst hsz
  subst hb
  have hld : (Builtin.firstCells i.size m (.slice A m cap)).run P w.drew = .ok olds.toArray w.drew := by
    have := run_loadB (P := P) (w := w.drew) (n := m * i.size) hol (fun h => let ⟨b, o, h1, h2⟩ := hold h; ⟨b, o, h1, fun j v hv => h2 j v hv⟩)
    cases A <;> exact this
  have hnx : Builtin.nextslicecap (m + k) cap * i.bytes ≤ 281474976710656 := growslice_fits hg hby
  have hrun := fun ty => Lib.run_append_grow_zeros (P := P) w t tn ty e i z .i64 kn hu htn hi hz A m cap olds hld k h0 hs0 hg (by unfold maxLen at h63; omega) (by
    have : k * i.bytes ≤ (m + k) * i.bytes := Nat.mul_le_mul_right _ (by omega)
    omega) hnx
  have hcge := grownCap_ge w (m + k) cap e
  have hcle := grownCap_le_maxLen w (m + k) cap e h63
  generalize grownCap w (m + k) cap e = c' at hrun hcge hcle
  refine ⟨c', w.drew.alloc (.cells (olds.toArray ++ Builtin.zeroCells z.cells k ++ Builtin.zeroCells z.cells (c' - (m + k))) e), olds ++ (Builtin.zeroCells z.cells k).toList ++ (Builtin.zeroCells z.cells (c' - (m + k))).toList, fun dst ty pos after gg => ?_, From.rfl_.d1.new _, ?_, hcge, hcle, ?_, ?_⟩
  · unfold execOp
    simp only [resolve, invoke, builtin, Sem.run_bind, Sem.run_pure, Result.andThen_ok, List.map_toArray, List.map_cons, List.map_nil, hs, hx, hrun]
  · have := Blk.new w.drew e (olds.toArray ++ Builtin.zeroCells z.cells k ++ Builtin.zeroCells z.cells (c' - (m + k)))
    have e1 : (olds ++ (Builtin.zeroCells z.cells k).toList ++ (Builtin.zeroCells z.cells (c' - (m + k))).toList).toArray = olds.toArray ++ Builtin.zeroCells z.cells k ++ Builtin.zeroCells z.cells (c' - (m + k)) := by
      apply Array.toList_inj.1
      simp
    rw [e1]
    exact this
  · simp only [List.length_append, Array.length_toList, size_zeroCells, hzs, hol, ← Nat.add_mul]
    congr 1
    omega
  · rw [List.append_assoc, List.take_append_of_le_length (by omega), List.take_of_length_le (by omega)]
end
end Go.Proofs.Ytpafbgdbjambgaa

namespace Go.Proofs.Ytpafbgdbjambgaa
open Go.RowKit
section
variable {P : Program} {ops : Array Oper} {Q : Exit → Act → World → Prop} {rest : List Oper} {n : Fr} {L : List (Nat × Value)} {w : World} {ty : TypeId} {pos : String} {after : Array Edge} {d : Nat} {t : TypeId} {x s : Operand}
theorem st_valN {op : Op} {v : Value} {w' : World} (hr : RO P (ev n L) op w v w') (k : St P ops Q rest n L w') : St P ops Q (⟨none, op, ty, pos, after, none⟩ :: rest) n L w := by
  refine ⟨wpList_plain rfl fun K hK => ?_⟩
  unfold Oper.wp
  rw [eval_mkA, hr, Oper.upon_value]
  exact hK _ _ k.out
theorem st_copyB {dT sT e size g o m c j c2 : Nat} {A A2 : Option Addr} {u : TypeId} {cur news : List Value} (ht : elemQ P dT = some (e, size)) (hd : ev n L x = .slice A m c) (hs : ev n L s = .slice A2 j c2) (hn : news.length = min j m * size)
    (hA : 0 < news.length → A = some ⟨g, o, none⟩) (hsrc : 0 < news.length → ∃ b o, A2 = some ⟨b, o, none⟩ ∧ w.rangeAt b o news) (hb : Blk w g u cur.toArray) (hfit : o + news.length ≤ cur.length) (h1 : ∀ v ∈ news, v.oneCell' = true)
    (k : ∀ w', Only g w w' → Blk w' g u (over cur o news).toArray → St P ops Q rest n ((d, .int .i64 (min j m : Nat)) :: L) w') :
    St P ops Q (⟨some d, .call { callee := .builtin .copy, args := #[x, s], argTypes := #[dT, sT] }, ty, pos, after, none⟩ :: rest) n L w :=
  let ⟨w', hr, ho, hb'⟩ := ro_copyB (sT := sT) ht hd hs hn hA hsrc hb hfit h1
  st_val hr (k w' ho hb')
theorem st_copyBN {dT sT e size g o m c j c2 : Nat} {A A2 : Option Addr} {u : TypeId} {cur news : List Value} (ht : elemQ P dT = some (e, size)) (hd : ev n L x = .slice A m c) (hs : ev n L s = .slice A2 j c2) (hn : news.length = min j m * size)
    (hA : 0 < news.length → A = some ⟨g, o, none⟩) (hsrc : 0 < news.length → ∃ b o, A2 = some ⟨b, o, none⟩ ∧ w.rangeAt b o news) (hb : Blk w g u cur.toArray) (hfit : o + news.length ≤ cur.length) (h1 : ∀ v ∈ news, v.oneCell' = true)
    (k : ∀ w', Only g w w' → Blk w' g u (over cur o news).toArray → St P ops Q rest n L w') :
    St P ops Q (⟨none, .call { callee := .builtin .copy, args := #[x, s], argTypes := #[dT, sT] }, ty, pos, after, none⟩ :: rest) n L w :=
  let ⟨w', hr, ho, hb'⟩ := ro_copyB (sT := sT) ht hd hs hn hA hsrc hb hfit h1
  st_valN hr (k w' ho hb')
theorem st_clearB {e size by_ g o m c : Nat} {A : Option Addr} {u : TypeId} {z : Value} {cur : List Value} (hq : litQ P t = some (e, size, by_, z)) (hzs : z.cells.size = size) (hs : ev n L s = .slice A m c)
    (hA : 0 < m * size → A = some ⟨g, o, none⟩) (hb : Blk w g u cur.toArray) (hfit : o + m * size ≤ cur.length) (h1 : ∀ v ∈ z.cells.toList, v.oneCell' = true)
    (k : ∀ w' zs, Only g w w' → zs.length = m * size → Blk w' g u (over cur o zs).toArray → St P ops Q rest n L w') :
    St P ops Q (⟨none, .call { callee := .builtin .clear, args := #[s], argTypes := #[t] }, ty, pos, after, none⟩ :: rest) n L w :=
  let ⟨w', zs, hr, ho, hl, hb'⟩ := ro_clearB hq hzs hs hA hb hfit h1
  st_valN hr (k w' zs ho hl hb')
theorem st_appendR {e size g m cap j c2 : Nat} {A2 : Option Addr} {cur news : List Value} (ht : elemQ P t = some (e, size)) (hs : ev n L s = .slice (some ⟨g, 0, none⟩) m cap) (hx : ev n L x = .slice A2 j c2) (hl : news.length = j * size)
    (hsrc : 0 < news.length → ∃ b o, A2 = some ⟨b, o, none⟩ ∧ w.rangeAt b o news) (hb : Blk w g e cur.toArray) (h1 : ∀ v ∈ news, v.oneCell' = true) (hroom : m + j ≤ cap) (hfit : m * size + news.length ≤ cur.length)
    (k : ∀ w', Only g w w' → Blk w' g e (over cur (m * size) news).toArray → St P ops Q rest n ((d, .slice (some ⟨g, 0, none⟩) (m + j) cap) :: L) w') :
    St P ops Q (⟨some d, .call { callee := .builtin .append, args := #[s, x], argTypes := #[t, t] }, ty, pos, after, none⟩ :: rest) n L w :=
  let ⟨w', hr, ho, hb'⟩ := ro_appendR ht hs hx hl hsrc hb h1 hroom hfit
  st_val hr (k w' ho hb')
theorem st_appendZ {tn e size by_ m cap k0 : Nat} {A : Option Addr} {z : Value} {kn : IntKind} {olds : List Value} (hq : litQ P t = some (e, size, by_, z)) (htn : P.underlying tn = some (.int kn)) (hzs : z.cells.size = size) (hs0 : 0 < size)
    (hs : ev n L s = .slice A m cap) (hx : ev n L x = .int .i64 (k0 : Nat)) (hol : olds.length = m * size) (hold : 0 < olds.length → ∃ b o, A = some ⟨b, o, none⟩ ∧ w.rangeAt b o olds) (h0 : 0 < k0) (hg : cap < m + k0) (h63 : m + k0 ≤ maxLen) (hby : (m + k0) * by_ ≤ 140737488355328) (hmc : m ≤ cap)
    (k : ∀ g c' w' cur, g = w.heap.size → From w w' → Blk w' g e (List.toArray cur) → m + k0 ≤ c' → c' ≤ maxLen → cur.length = c' * size → cur.take (m * size) = olds → St P ops Q rest n ((d, .slice (some ⟨g, 0, none⟩) (m + k0) c') :: L) w') :
    St P ops Q (⟨some d, .call { callee := .builtin .append, args := #[s, x], argTypes := #[t, tn] }, ty, pos, after, none⟩ :: rest) n L w :=
  let ⟨c', w', cur, hr, hF, hb, h1, h2, h3, h4⟩ := ro_appendZ hq htn hzs hs0 hs hx hol hold h0 hg h63 hby hmc
  st_val hr (k _ c' w' cur rfl hF hb h1 h2 h3 h4)
theorem ro_cap {ρ : Operand → Value} {A : Option Addr} {m c : Nat} (ht : (elemQ P t).isSome = true) (hx : ρ x = .slice A m c) : RO P ρ (.call { callee := .builtin .cap, args := #[x], argTypes := #[t] }) w (.int .i64 c) w := fun _ _ _ _ _ => by
  obtain ⟨⟨e, sz⟩, he⟩ := Option.isSome_iff_exists.mp ht
  obtain ⟨hu, _⟩ := elem_of he
  simp [BigFrame.execOp_builtin, BigFrame.builtin_cap, Builtin.cap_, run_underlying hu, hx, goInt]
/-- a slice of three indexes -/
theorem ro_slice3 {ρ : Operand → Value} {e sz l h mx m c : Nat} {A : Option Addr} {y1 y2 y3 : Operand} {k1 k2 k3 : IntKind} (ht : elemQ P t = some (e, sz)) (hx : ρ x = .slice A m c) (hl : ρ y1 = .int k1 (l : Nat)) (hh : ρ y2 = .int k2 (h : Nat)) (hm : ρ y3 = .int k3 (mx : Nat)) (h1 : l ≤ h) (h2 : h ≤ mx) (h3 : mx ≤ c) :
    RO P ρ (.slice t x (some y1) (some y2) (some y3)) w (.slice (restOf A mx l sz) (h - l) (mx - l)) w := fun _ _ _ _ _ => by
  obtain ⟨hu, hs⟩ := elem_of ht
  have hE : P.elem t = e := by simp [Program.elem, hu]
  have hu' : P.underlying t = some (.slice (P.elem t)) := by rw [hE]; exact hu
  simp only [execOp, hx, hl, hh, hm, Option.map_some, Sem.run_bind]
  rw [run_sliceAt_slice w t _ _ _ _ hu', run_slice_lhm w t _ m c hu' k1 k2 k3 (l : Int) (h : Int) (mx : Int) (by omega) (by omega) (by omega) (by omega), hE, sizeOf_of hs, Result.andThen_ok]
  simp only [Int.toNat_natCast, sliced, restOf]
  rfl
/-- slices.overlaps of two blocks -/
theorem ro_overlaps {f : FuncId} {fn : Func} {tS tR e size : Nat} {a b : Operand} {ats : Array TypeId} {g1 o1 g2 o2 la ca lb cb : Nat} {t1 t2 : TypeId} {cs1 cs2 : Array Value} (hf : P.funcs[f]? = some fn) (hname : (fn.name == "runtime.NumGoroutine") = false)
    (hb : fn.body.isNone = true) (hnx : Extern.findNext fn = none) (he : Extern.find fn = some (Extern.SlicesOverlaps.overlaps #[tS, tS] #[tR])) (ht : elemQ P tS = some (e, size)) (ha : ev n L a = .slice (some ⟨g1, o1, none⟩) la ca) (hb2 : ev n L b = .slice (some ⟨g2, o2, none⟩) lb cb) (hne : g1 ≠ g2)
    (hA : Blk w g1 t1 cs1) (hB : Blk w g2 t2 cs2) (h0 : cs2.size ≠ 0) : RO P (ev n L) (.call { callee := .value (.func f), args := #[a, b], argTypes := ats }) w (.bool false) w := fun dst ty pos after g => by
  obtain ⟨hu, hs⟩ := elem_of ht
  have h1 := Lib.run_overlaps_apart (P := P) w tS tR e hu size (fun w => sizeOf_of hs) ⟨g1, o1, none⟩ ⟨g2, o2, none⟩ la ca lb cb hne t1 t2 cs1.size cs2.size (by unfold Blk at hA; simp [World.shape?, hA]) (by unfold Blk at hB; simp [World.shape?, hB]) h0 (hA.frozen _) (hA.frozen _)
  rw [show (#[a, b] : Array Operand) = [a, b].toArray from rfl, exec_call (fun _ => rfl)]
  simp only [List.map_cons, List.map_nil, ha, hb2]
  rw [run_callFunc_extern hf hname hb hnx he, h1]
  rfl
theorem ro_lit0 {ρ : Operand → Value} {e size by_ : Nat} {z : Value} (hq : litQ P t = some (e, size, by_, z)) : RO P ρ (.buildSlice t 0 #[]) w (.slice (some ⟨w.heap.size, 0, none⟩) 0 0) (w.alloc (.cells #[] e)) := fun _ _ _ _ _ => by
  obtain ⟨i, hu, hi, hs, _, hz⟩ := lit_of hq
  simp [execOp, Instr.buildSlice, run_underlying hu, sizeOf, typeInfo, hi, zeroValue, hz, Instr.fill, newRow]
  have : (Array.range 0) = #[] := by simp [Array.range]
  rw [this, Array.map_empty]
theorem st_lit0 {e size by_ : Nat} {z : Value} (hq : litQ P t = some (e, size, by_, z)) (base : Nat) (hbs : base ≤ w.heap.size) (k : ∀ g w', From w w' → g = w.heap.size → w'.ownsRow base e size (.slice (some ⟨g, 0, none⟩) 0 0) 0 [] → St P ops Q rest n ((d, .slice (some ⟨g, 0, none⟩) 0 0) :: L) w') :
    St P ops Q (⟨some d, .buildSlice t 0 #[], ty, pos, after, none⟩ :: rest) n L w :=
  st_val (ro_lit0 hq) (k _ _ (From.rfl_.new _) rfl ⟨by simp, .inr ⟨w.heap.size, 0, #[], rfl, hbs, heap_alloc_new w _, Nat.le_refl _, by decide, by simp, by simp⟩⟩)
theorem ro_eqlNilS {ρ : Operand → Value} {e yt : TypeId} {y : Operand} {a : Option Addr} {m c : Nat} (ht : P.underlying t = some (.slice e)) (hx : ρ x = .slice a m c) (hy : ρ y = .slice none 0 0) : RO P ρ (.binOp .eql t x y yt) w (.bool a.isNone) w :=
  ro_bin hx hy (by unfold eqGuard; cases a <;> rfl) (run_eql_slice_nil w t e a m c ht)
theorem ro_neqNilS {ρ : Operand → Value} {e yt : TypeId} {y : Operand} {a : Option Addr} {m c : Nat} (ht : P.underlying t = some (.slice e)) (hx : ρ x = .slice a m c) (hy : ρ y = .slice none 0 0) : RO P ρ (.binOp .neq t x y yt) w (.bool (!a.isNone)) w :=
  ro_bin hx hy (by unfold eqGuard; cases a <;> rfl) (run_neq_slice_nil w t e a m c ht)
end
/-! ### an own row written over -/
theorem own_over {w w' : World} {base e size n c g o : Nat} {xs vs : List Value} (h : w.ownsRow base e size (.slice (some ⟨g, 0, none⟩) n c) n xs) (hn : 0 < n) (hv : o + vs.length ≤ n * size) (hb : ∀ cur, Blk w g e (List.toArray cur) → o + vs.length ≤ cur.length → Blk w' g e (over cur o vs).toArray) :
    w'.ownsRow base e size (.slice (some ⟨g, 0, none⟩) n c) n (over xs o vs) := by
  obtain ⟨g', cur, hA, hg, hbk, h1, h2, h3, h4⟩ := own_blk h hn
  simp only [Option.some.injEq, Addr.mk.injEq, and_true] at hA
  subst hA
  have hle : n * size ≤ cur.length := by rw [h3]; exact Nat.mul_le_mul_right _ h1
  refine own_of hg (hb cur hbk (by omega)) h1 h2 ?_ ?_
  · rw [over_len _ _ _ (by omega), h3]
  · rw [over_take _ _ _ _ hv hle, h4]
section
variable {P : Program} {ops : Array Oper} {Q : Exit → Act → World → Prop} {rest : List Oper} {n : Fr} {L : List (Nat × Value)} {w : World} {ty : TypeId} {pos : String} {after : Array Edge} {t : TypeId} {x y : Operand}
/-- an element of an own row, written over -/
theorem st_putOwnK {base e size m c g o : Nat} {xs vs : List Value} (ht : sizeQ P t = some vs.length) (hx : ev n L x = .pointer (some ⟨g, o, none⟩)) (hy : ev n L y = .agg vs.toArray) (h1 : ∀ v ∈ vs, v.oneCell' = true)
    (ho : w.ownsRow base e size (.slice (some ⟨g, 0, none⟩) m c) m xs) (hm : 0 < m) (hi : o + vs.length ≤ m * size)
    (k : ∀ w', Only g w w' → w'.ownsRow base e size (.slice (some ⟨g, 0, none⟩) m c) m (over xs o vs) → St P ops Q rest n L w') : St P ops Q (⟨none, .store t x y, ty, pos, after, none⟩ :: rest) n L w := by
  obtain ⟨g', cur, hA, hg, hbk, h2, h3, h4, h5⟩ := own_blk ho hm
  simp only [Option.some.injEq, Addr.mk.injEq, and_true] at hA
  subst hA
  have hle : m * size ≤ cur.length := by rw [h4]; exact Nat.mul_le_mul_right _ h2
  refine st_store (rs_storeA ht hx hy h1 (hbk.there o vs.length (by simp; omega))) (k _ (Only.sets vs o w) ?_)
  exact own_over ho hm hi fun cur' hb' hl => Blk.sets vs o hb' hl
theorem st_putOwnC {base e size m c g o : Nat} {xs : List Value} {v : Value} (ht : sizeQ P t = some 1) (hx : ev n L x = .pointer (some ⟨g, o, none⟩)) (hy : ev n L y = v) (h1 : v.oneCell' = true)
    (ho : w.ownsRow base e size (.slice (some ⟨g, 0, none⟩) m c) m xs) (hi : o < m * size)
    (k : ∀ w', Only g w w' → w'.ownsRow base e size (.slice (some ⟨g, 0, none⟩) m c) m (xs.set o v) → St P ops Q rest n L w') : St P ops Q (⟨none, .store t x y, ty, pos, after, none⟩ :: rest) n L w := by
  have hlen : xs.length = m * size := ho.1
  have hc : w.cell? ⟨g, o, none⟩ = some (xs[o]'(by omega)) := by rw [ho.cellAt o hi]; simp [hlen, hi]
  exact st_store (rs_store ht hx hy h1 hc (ho.frozenAt o)) (k _ (Only.setCell w g o v) (ho.stored o v).1)
end
section
variable {α : Type} {f : α → List Value} {s : Nat}
theorem over_flat (hf : ∀ x, (f x).length = s) (L : List α) (i : Nat) (hi : i < L.length) (x : α) : over (L.flatMap f) (i * s) (f x) = (L.set i x).flatMap f := by
  unfold over
  rw [flat_take hf, hf, ← Nat.succ_mul, flat_drop hf]
  conv => rhs; rw [List.set_eq_take_append_cons_drop, if_pos hi]
  simp
theorem set_flat (hf : ∀ x, (f x).length = s) (L : List α) (i j : Nat) (hi : i < L.length) (hj : j < s) (x : α) (v : Value) (hx : f x = (f L[i]).set j v) : (L.flatMap f).set (i * s + j) v = (L.set i x).flatMap f := by
  have hL : L.flatMap f = (L.take i).flatMap f ++ (f L[i] ++ (L.drop (i + 1)).flatMap f) := by
    have h0 : L = L.take i ++ L[i] :: L.drop (i + 1) := by rw [← List.drop_eq_getElem_cons hi, List.take_append_drop]
    exact (congrArg (List.flatMap f) h0).trans (by rw [List.flatMap_append, List.flatMap_cons])
  have ht : ((L.take i).flatMap f).length = i * s := by rw [flat_len hf, List.length_take, Nat.min_eq_left (by omega)]
  rw [hL, List.set_append_right _ _ (by omega), ht, Nat.add_sub_cancel_left, List.set_append_left _ _ (by rw [hf]; exact hj), ← hx]
  conv => rhs; rw [List.set_eq_take_append_cons_drop, if_pos hi]
  simp
/-- in place: what a Delete leaves -/
theorem del_take {cur xs zs : List Value} {n i j c : Nat} (hij : i ≤ j) (hj : j ≤ n) (hc : n ≤ c) (h3 : cur.length = c * s) (h4 : cur.take (n * s) = xs) (hz : zs.length = (j - i) * s) :
    (over (over cur (i * s) (xs.drop (j * s))) ((i + (n - j)) * s) zs).take ((i + (n - j)) * s) = xs.take (i * s) ++ xs.drop (j * s) := by
  have hxl : xs.length = n * s := by rw [← h4, List.length_take, h3]; exact Nat.min_eq_left (Nat.mul_le_mul_right _ hc)
  have hd : (xs.drop (j * s)).length = (n - j) * s := by rw [List.length_drop, hxl, Nat.sub_mul]
  have e1 : (i + (n - j)) * s = i * s + (n - j) * s := Nat.add_mul ..
  have e2 : n * s ≤ c * s := Nat.mul_le_mul_right _ hc
  have e3 : (i + (n - j)) * s ≤ n * s := Nat.mul_le_mul_right _ (by omega)
  rw [over_take_lo _ _ _ _ (Nat.le_refl _) (by rw [over_len _ _ _ (by omega)]; omega), over_take _ _ _ _ (by omega) (by omega)]
  unfold over
  rw [List.drop_of_length_le (l := List.take ((i + (n - j)) * s) cur) (by rw [List.length_take]; omega), List.append_nil, List.take_take, Nat.min_eq_left (by omega)]
  congr 1
  rw [← h4, List.take_take, Nat.min_eq_left]
  exact Nat.mul_le_mul_right _ (by omega)
/-- in place: what an Insert leaves -/
theorem ins_take {cur xs vs : List Value} {n i m c : Nat} (hi : i ≤ n) (hc : n + m ≤ c) (h3 : cur.length = c * s) (hx : xs.length = n * s) (h4 : cur.take (i * s) = xs.take (i * s)) (hv : vs.length = m * s) :
    (over (over cur ((i + m) * s) (xs.drop (i * s))) (i * s) vs).take ((n + m) * s) = xs.take (i * s) ++ vs ++ xs.drop (i * s) ∧ (over (over cur (i * s) vs) ((i + m) * s) (xs.drop (i * s))).take ((n + m) * s) = xs.take (i * s) ++ vs ++ xs.drop (i * s) := by
  have hd : (xs.drop (i * s)).length = (n - i) * s := by rw [List.length_drop, hx, Nat.sub_mul]
  have e1 : (i + m) * s = i * s + m * s := Nat.add_mul ..
  have e4 : (n + m) * s = (i + m) * s + (n - i) * s := by rw [← Nat.add_mul]; congr 1; omega
  have e5 : (n + m) * s ≤ c * s := Nat.mul_le_mul_right _ hc
  have e6 : i * s ≤ n * s := Nat.mul_le_mul_right _ hi
  have ht : (cur.take (i * s)).length = i * s := by rw [List.length_take]; omega
  have key : ∀ l : List Value, l.length = c * s → (∀ k, k < i * s → l[k]? = xs[k]?) → (∀ k, k < m * s → l[i * s + k]? = vs[k]?) → (∀ k, k < (n - i) * s → l[(i + m) * s + k]? = (xs.drop (i * s))[k]?) → l.take ((n + m) * s) = xs.take (i * s) ++ vs ++ xs.drop (i * s) := by
    intro l hl k1 k2 k3
    apply List.ext_getElem?
    intro k
    rw [List.getElem?_take]
    by_cases h1 : k < i * s
    · rw [if_pos (by omega), k1 k h1, List.append_assoc, List.getElem?_append_left (by rw [List.length_take]; omega), List.getElem?_take_of_lt h1]
    · by_cases h2 : k < (i + m) * s
      · have := k2 (k - i * s) (by omega)
        rw [show i * s + (k - i * s) = k by omega] at this
        rw [if_pos (by omega), this, List.append_assoc, List.getElem?_append_right (by rw [List.length_take]; omega), List.length_take, Nat.min_eq_left (by omega), List.getElem?_append_left (by omega)]
      · by_cases h5 : k < (n + m) * s
        · have := k3 (k - (i + m) * s) (by omega)
          rw [show (i + m) * s + (k - (i + m) * s) = k by omega] at this
          rw [if_pos h5, this, List.getElem?_append_right (by rw [List.length_append, List.length_take]; omega)]
          congr 1
          rw [List.length_append, List.length_take]
          omega
        · rw [if_neg h5, List.getElem?_eq_none (by rw [List.length_append, List.length_append, List.length_take]; omega)]
  have hk : ∀ k, k < i * s → cur[k]? = xs[k]? := fun k hk => by
    have := congrArg (fun l => l[k]?) h4
    simpa [List.getElem?_take_of_lt hk] using this
  have l1 : (over cur ((i + m) * s) (xs.drop (i * s))).length = cur.length := over_len _ _ _ (by omega)
  have l2 : (over cur (i * s) vs).length = cur.length := over_len _ _ _ (by omega)
  refine ⟨key _ (by rw [over_len _ _ _ (by omega), l1, h3]) ?_ ?_ ?_, key _ (by rw [over_len _ _ _ (by omega), l2, h3]) ?_ ?_ ?_⟩
  · intro k hk'
    rw [over_at _ _ _ _ (by omega), if_neg (by omega), over_at _ _ _ _ (by omega), if_neg (by omega)]
    exact hk k hk'
  · intro k hk'
    rw [over_at _ _ _ _ (by omega), if_pos (by omega)]
    congr 1
    omega
  · intro k hk'
    rw [over_at _ _ _ _ (by omega), if_neg (by omega), over_at _ _ _ _ (by omega), if_pos (by omega)]
    congr 1
    omega
  · intro k hk'
    rw [over_at _ _ _ _ (by omega), if_neg (by omega), over_at _ _ _ _ (by omega), if_neg (by omega)]
    exact hk k hk'
  · intro k hk'
    rw [over_at _ _ _ _ (by omega), if_neg (by omega), over_at _ _ _ _ (by omega), if_pos (by omega)]
    congr 1
    omega
  · intro k hk'
    rw [over_at _ _ _ _ (by omega), if_pos (by omega)]
    congr 1
    omega
end
end Go.Proofs.Ytpafbgdbjambgaa
namespace Go.Proofs.Ytpafbgdbjambgaa
open Go.RowKit
theorem restOf_head {A : Option Addr} {c s : Nat} : restOf A c 0 s = A := by
  unfold restOf
  split
  · rfl
  · cases A with
    | none => rfl
    | some a => simp [Addr.add_zero']
theorem restOf_pos {g o c l s : Nat} (h : l < c) : restOf (some ⟨g, o, none⟩) c l s = some ⟨g, o + l * s, none⟩ := by
  unfold restOf
  rw [if_neg (by omega)]
  simp [Addr.add_mid]
theorem own_cap {w : World} {base e s n c m : Nat} {A : Option Addr} {xs : List Value} (h : w.ownsRow base e s (.slice A n c) m xs) : m ≤ c := by
  rcases h.2 with ⟨_, h0⟩ | ⟨g, cap, cur, hv, _, _, h3, _⟩
  · omega
  · simp only [Value.slice.injEq] at hv
    omega
theorem row_drop {w : World} {g e n o : Nat} {cur xs : List Value} (hb : Blk w g e cur.toArray) (hct : cur.take n = xs) : w.rangeAt g o (xs.drop o) := hb.range o _ fun j v hv => by
  rw [List.getElem?_drop, ← hct, List.getElem?_take] at hv
  split at hv
  · exact hv
  · cases hv
theorem row_take {w : World} {g e n o : Nat} {cur xs : List Value} (hb : Blk w g e cur.toArray) (hct : cur.take n = xs) : w.rangeAt g 0 (xs.take o) := hb.range 0 _ fun j v hv => by
  rw [List.getElem?_take] at hv
  rw [Nat.zero_add]
  split at hv
  · rw [← hct, List.getElem?_take] at hv
    split at hv
    · exact hv
    · cases hv
  · cases hv
theorem grown_new {w w1 w2 : World} {r : Option Nat} {g : Nat} (h : w.grownBy w1 r) (o : Only g w1 w2) (hg : w.heap.size ≤ g) : w.grownBy w2 r :=
  ⟨o.os.trans h.os, o.tape.trans h.tape, o.output.trans h.output, by rw [o.size]; exact h.size, fun k hk hr => (o.block k (by omega)).trans (h.block k hk hr)⟩
end Go.Proofs.Ytpafbgdbjambgaa

namespace Go.Proofs.Ytpafbgdbjambgaa
open Go.RowKit
def depMu (l : List Oper) (K mu i : Nat) : Bool := Nat.blt mu K && match l[mu]? with | some om => dep2 l om i | none => false
theorem depMu_spec {l : List Oper} {K mu i : Nat} (h : depMu l K mu i = true) : mu < K ∧ ∃ om, l[mu]? = some om ∧ dep2 l om i = true := by
  unfold depMu at h
  rw [Bool.and_eq_true] at h
  refine ⟨Nat.le_of_ble_eq_true h.1, ?_⟩
  have h2 := h.2
  split at h2
  · rename_i om hom
    exact ⟨om, hom, h2⟩
  · cases h2
def OpsOK9 (P : Program) (ops : Array Oper) (n : Fr) (L : List (Nat × Value)) (I1 I2 : World → Prop) (R1 R2 : Nat → Value → World → Prop) (l0 : List Oper) (K : Nat) (mu : Nat) : Nat → List Oper → Prop
  | _, [] => True
  | i, o :: r => (Nat.beq i mu = false → match depMu l0 K mu i with
      | true => ∀ w', I1 w' → AllF R1 w' (slotsD l0 K i o) fun M => OpOK P ops n (M ++ L) o w' (R1 (o.dst.getD 0))
      | false => ∀ w', I2 w' → AllF R2 w' (slotsD l0 K i o) fun M => OpOK P ops n (M ++ L) o w' (R1 (o.dst.getD 0))) ∧ OpsOK9 P ops n L I1 I2 R1 R2 l0 K mu (i + 1) r
theorem opsOK9_at {P : Program} {ops : Array Oper} {n : Fr} {L : List (Nat × Value)} {I1 I2 : World → Prop} {R1 R2 : Nat → Value → World → Prop} {l0 : List Oper} {K mu : Nat} : ∀ {l : List Oper} {k : Nat}, OpsOK9 P ops n L I1 I2 R1 R2 l0 K mu k l → ∀ (i : Nat) (o : Oper), l[i]? = some o → k + i ≠ mu →
    match depMu l0 K mu (k + i) with
      | true => ∀ w', I1 w' → AllF R1 w' (slotsD l0 K (k + i) o) fun M => OpOK P ops n (M ++ L) o w' (R1 (o.dst.getD 0))
      | false => ∀ w', I2 w' → AllF R2 w' (slotsD l0 K (k + i) o) fun M => OpOK P ops n (M ++ L) o w' (R1 (o.dst.getD 0))
  | [], _, _, i, o, h, _ => by simp at h
  | x :: r, k, ⟨h1, h2⟩, 0, o, h, hne => by
    simp only [List.getElem?_cons_zero, Option.some.injEq] at h
    subst h
    rw [Nat.add_zero] at hne ⊢
    refine h1 ?_
    rw [← Bool.not_eq_true]
    intro hb
    exact hne (Nat.eq_of_beq_eq_true hb)
  | x :: r, k, ⟨h1, h2⟩, i + 1, o, h, hne => by
    have := opsOK9_at h2 i o (by simpa using h) (by omega)
    rwa [show k + 1 + i = k + (i + 1) by omega] at this
theorem opsOK9_at2 {P : Program} {ops : Array Oper} {n : Fr} {L : List (Nat × Value)} {I1 I2 : World → Prop} {R1 R2 : Nat → Value → World → Prop} {l0 : List Oper} {K mu : Nat} {l : List Oper} (h : OpsOK9 P ops n L I1 I2 R1 R2 l0 K mu 0 l) (i : Nat) (o : Oper) (ho : l[i]? = some o) (hne : i ≠ mu) (hd : depMu l0 K mu i = false)
    (w' : World) (hw : I2 w') : AllF R2 w' (slotsD l0 K i o) fun M => OpOK P ops n (M ++ L) o w' (R1 (o.dst.getD 0)) := by
  have := opsOK9_at h i o ho (by rw [Nat.zero_add]; exact hne)
  rw [Nat.zero_add, hd] at this
  exact this w' hw
theorem opsOK9_at1 {P : Program} {ops : Array Oper} {n : Fr} {L : List (Nat × Value)} {I1 I2 : World → Prop} {R1 R2 : Nat → Value → World → Prop} {l0 : List Oper} {K mu : Nat} {l : List Oper} (h : OpsOK9 P ops n L I1 I2 R1 R2 l0 K mu 0 l) (i : Nat) (o : Oper) (ho : l[i]? = some o) (hne : i ≠ mu) (hd : depMu l0 K mu i = true)
    (w' : World) (hw : I1 w') : AllF R1 w' (slotsD l0 K i o) fun M => OpOK P ops n (M ++ L) o w' (R1 (o.dst.getD 0)) := by
  have := opsOK9_at h i o ho (by rw [Nat.zero_add]; exact hne)
  rw [Nat.zero_add, hd] at this
  exact this w' hw
section late
variable {P : Program} {Q : Exit → Act → World → Prop} {n : Fr} {L : List (Nat × Value)} {w : World} {l : List Oper} {K mu : Nat} {I1 I2 : World → Prop} {R1 R : Nat → Value → World → Prop}
theorem late_fin9 (hQ : PQ Q) (hc : monoD l K = true) (hop : OpsOK9 P l.toArray n L I1 I2 R1 R l K mu 0 (l.take K)) (h12 : ∀ t v w, R1 t v w → R t v w) (hmuL : mu < K → isLateD l K mu = false)
    (hend : ∀ w', I2 w' → AllF R w' (preOf l K) fun M => St P l.toArray Q (l.drop K) n (M ++ L) w') (m : Nat) (listed : Array Bool) (L' : List (Nat × Value)) (w' : World) (hcl : ClosedD l listed) (hcount : listed.toList.count false = m) (hs : listed.size = l.length)
    (htail : ∀ j, K ≤ j → j < l.length → listed.getD j true = false) (hF : I2 w')
    (hfr : ∀ t, (∀ i o, i < K → l[i]? = some o → listed.getD i true = true → o.dst ≠ some t) → look L' t = look L t)
    (hR : ∀ i o d, i < K → l[i]? = some o → listed.getD i true = true → o.dst = some d → R d (look L' d) w') (hpre : ∀ i, i < K → listed.getD i true = false → isLateD l K i = true) : wpAny P .any l.toArray Q m listed (mkA n L') w' := by
  have hc1 := (Bool.and_eq_true_iff.1 hc).1
  have hlate := (Bool.and_eq_true_iff.1 hc).2
  have hKl : K ≤ l.length := of_decide_eq_true (Bool.and_eq_true_iff.1 hc1).1
  have hck := (List.all_eq_true.1 (Bool.and_eq_true_iff.1 hc1).2)
  -- what is known of an operation of the head
  have hhead : ∀ i, i < K → ∃ o d, l[i]? = some o ∧ o.dst = some d ∧ isSelect o.op = false ∧ (∀ j oj, j < K → j ≠ i → l[j]? = some oj → oj.dst ≠ some d) := by
    intro i hi
    have hil : i < l.length := by omega
    have hx := hck i (List.mem_range.2 hil)
    rw [List.getElem?_eq_getElem hil] at hx
    simp only [Bool.and_eq_true] at hx
    have h3 := hx.2
    rw [if_pos hi] at h3
    simp only [Bool.and_eq_true] at h3
    obtain ⟨h3a, h3b⟩ := h3
    cases hod : (l[i]).dst with
    | none => rw [hod] at h3a; cases h3a
    | some d =>
      rw [hod] at h3a
      simp only [Bool.and_eq_true] at h3a
      refine ⟨l[i], d, List.getElem?_eq_getElem hil, hod, by simpa using hx.1.2, fun j oj hj hne hoj e => ?_⟩
      have h5 := List.all_eq_true.1 h3a.1 j (List.mem_range.2 hj)
      rw [hoj] at h5
      simp [hne, e] at h5
  -- the values of those that are still to come
  have hval : ∀ i, i < K → listed.getD i true = false → ∃ v, ∀ o d, l[i]? = some o → o.dst = some d → Yields P l.toArray o v (mkA n L') ∧ R d v w' := by
    intro i hi hf
    have hil8 := hpre i hi hf
    obtain ⟨o, d, ho, hd, hsel, _⟩ := hhead i hi
    obtain ⟨hk, hg, hap⟩ := late_specD hlate hi ho hil8
    have hfact : ∀ t ∈ slotsD l K i o, R t (look L' t) w' := by
      intro t ht
      obtain ⟨ht2, j, oj, hjK, hj, hdj, hji, _⟩ := slotsD_spec hc hi ho ht
      refine hR j oj t hjK hj ?_ hdj
      cases hb : listed.getD j true with
      | true => rfl
      | false =>
        have h6 := hpre j hjK hb
        have h7 := (Oper.apart_spec (hap j oj hj (by omega) (.inl ⟨hjK, h6⟩))).2.2 t hdj
        exact absurd (by simpa using ht2) h7
    have hlooks := looksD (L := L) hc hcl hs ho (by omega) hf hfr
    have hnd : depMu l K mu i = false := by
      rw [← Bool.not_eq_true]
      intro hd
      obtain ⟨hmK, om, hom, hdep⟩ := depMu_spec hd
      have hml : listed.getD mu true = true := by
        cases hb : listed.getD mu true with
        | true => rfl
        | false => exact absurd (hpre mu hmK hb) (by rw [hmuL hmK]; simp)
      have hml2 : listed.getD mu false = true := by rw [← getD_true_false (by omega)]; exact hml
      have := dep_listed hcl (fun e he hb => hcl mu om hom hml2 e he hb) hdep
      rw [← getD_true_false (by omega), hf] at this
      cases this
    have hok := allF_at (look L') _ hfact (opsOK9_at2 hop i o (by rw [List.getElem?_take, if_pos hi]; exact ho) (by intro e; rw [e, hmuL (by omega)] at hil8; cases hil8) hnd w' hF)
    obtain ⟨hE, hW⟩ := looksAt_agree (n := n) (ops := l.toArray) (o := o) hsel hlooks
    rw [hd] at hok
    simp only [Option.getD_some] at hok
    have hyl : ∃ v, Yields P l.toArray o v (mkA n L') ∧ R d v w' := by
      unfold OpOK at hok
      rw [hE, hW] at hok
      rcases hok with ⟨hw, ⟨v, w'', hr, hF', hRv⟩ | ⟨f, args, hr, hcall⟩⟩ | ⟨hw, hRv⟩
      · obtain ⟨rfl, hall⟩ := late_run hk hr
        refine ⟨v, .inl ⟨hw, fun w2 => ?_⟩, h12 _ _ _ hRv⟩
        rw [eval_mkA]
        exact hall w2
      · exfalso
        obtain ⟨dst, op, ty, pos, after, guard⟩ := o
        cases op <;> simp only [lateK, Bool.false_eq_true] at hk <;> simp only [execOp, Sem.run_pure, Sem.run_bind, Result.ok.injEq] at hr
        · cases hr.1
        · cases hr.1
        · rename_i x i'
          cases hx : ev n L' x <;> simp only [hx, Instr.extract] at hr <;> (try (simp at hr; done))
          rename_i vs
          cases hv : vs[i']? <;> simp [hv] at hr
      · exact ⟨undef, .inr ⟨hw, rfl⟩, h12 _ _ _ hRv⟩
    obtain ⟨v, hv1, hv2⟩ := hyl
    refine ⟨v, fun o' d' ho' hd' => ?_⟩
    rw [ho] at ho'
    cases ho'
    rw [hd] at hd'
    cases hd'
    exact ⟨hv1, hv2⟩
  obtain ⟨f, hf⟩ : ∃ f : Nat → Value, ∀ i, i < K → listed.getD i true = false → ∀ o d, l[i]? = some o → o.dst = some d → Yields P l.toArray o (f i) (mkA n L') ∧ R d (f i) w' := by
    refine ⟨fun i => open Classical in if h : ∃ v, ∀ o d, l[i]? = some o → o.dst = some d → Yields P l.toArray o v (mkA n L') ∧ R d v w' then h.choose else undef, fun i hi hl => ?_⟩
    have h := hval i hi hl
    simp only [dif_pos h]
    exact h.choose_spec
  have hUm : ∀ i, i ∈ (List.range K).filter (fun i => !listed.getD i true) ↔ i < K ∧ listed.getD i true = false := fun i => by
    rw [List.mem_filter, List.mem_range]
    simp
  obtain ⟨U, hU, hUn⟩ : ∃ U : List Nat, (∀ i, i ∈ U ↔ i < K ∧ listed.getD i true = false) ∧ U.Nodup := ⟨_, hUm, List.nodup_range.sublist (List.filter_sublist ..)⟩
  have hbind : ∀ {i : Nat} {o : Oper}, l[i]? = some o → (l[i]?).bind (·.dst) = o.dst := fun h => by rw [h]; rfl
  -- the frame with all of them
  have hRall : ∀ d ∈ preOf l K, R d (look ((U.filterMap fun i => ((l[i]?).bind (·.dst)).map fun d => (d, f i)) ++ L') d) w' := by
    intro d hd
    obtain ⟨o, ho, hod⟩ := List.mem_filterMap.1 hd
    obtain ⟨i, hi⟩ := List.mem_iff_getElem?.1 ho
    rw [List.getElem?_take] at hi
    split at hi
    · rename_i hiK
      obtain ⟨o', d', ho', hd', _, hdist⟩ := hhead i hiK
      rw [hi] at ho'
      cases ho'
      rw [hod] at hd'
      cases hd'
      have hne : ∀ j ∈ U, j ≠ i → (l[j]?).bind (·.dst) ≠ some d := fun j hj hji => by
        have hjK := ((hU j).1 hj).1
        obtain ⟨oj, dj, hoj, _⟩ := hhead j hjK
        rw [hbind hoj]
        exact hdist j oj hjK hji hoj
      cases hb : listed.getD i true with
      | true =>
        rw [look_pend U fun j hj => hne j hj (fun e => by subst e; have := ((hU j).1 hj).2; rw [hb] at this; cases this)]
        exact hR i o d hiK hi hb hod
      | false =>
        rw [look_pend_at U ((hU i).2 ⟨hiK, hb⟩) ((hbind hi).trans hod) hne]
        exact (hf i hiK hb o d hi hod).2
    · cases hi
  have he := allF_at _ (preOf l K) hRall (hend w' hF)
  have hL : mkA n ((preOf l K).map (fun d => (d, look ((U.filterMap fun i => ((l[i]?).bind (·.dst)).map fun d => (d, f i)) ++ L') d)) ++ L) = pend l f U (mkA n L') := by
    rw [pend_mkA]
    refine mkA_congr fun t _ => ?_
    rw [look_map]
    split
    · rfl
    · rename_i hne
      have hnd : ∀ i, i < K → ∀ o, l[i]? = some o → o.dst ≠ some t := fun i hi o ho hod => hne (by
        simp only [List.elem_eq_mem, decide_eq_true_eq]
        exact List.mem_filterMap.2 ⟨o, List.mem_iff_getElem?.2 ⟨i, by rw [List.getElem?_take, if_pos hi]; exact ho⟩, hod⟩)
      rw [look_pend U fun j hj => by
        have hjK := ((hU j).1 hj).1
        obtain ⟨oj, dj, hoj, _⟩ := hhead j hjK
        rw [hbind hoj]
        exact hnd j hjK oj hoj]
      exact (hfr t fun i o hi ho _ hod => hnd i hi o ho hod).symm
  replace he := he.out
  rw [hL] at he
  refine tail_lateD hQ hc m K listed U _ w' hcl hcount hs (Nat.le_refl _) hKl (fun j h1 h2 => by rw [htail j h1 h2]; simp [h1]) hUn (fun j hj => ⟨fun h => (hU j).2 ⟨hj, h⟩, fun h => ((hU j).1 h).2⟩) (fun j hj => ?_) he
  obtain ⟨h1, h2⟩ := (hU j).1 hj
  obtain ⟨oj, dj, hoj, hdj, _⟩ := hhead j h1
  exact ⟨h1, hpre j h1 h2, oj, hoj, (hf j h1 h2 oj dj hoj hdj).1⟩
theorem mono_mu9 (hQ : PQ Q) (hc : monoD l K = true) (hm1 : ∀ w1 w2, From w1 w2 → I1 w1 → I1 w2) (hm2 : ∀ w1 w2, From w1 w2 → I2 w1 → I2 w2) (hmono1 : ∀ t v w1 w2, From w1 w2 → R1 t v w1 → R1 t v w2) (hmono : ∀ t v w1 w2, From w1 w2 → R t v w1 → R t v w2)
    (hop : OpsOK9 P l.toArray n L I1 I2 R1 R l K mu 0 (l.take K)) (h12 : ∀ t v w, R1 t v w → R t v w) (hmuL : mu < K → isLateD l K mu = false) (hmu : MuAt P l.toArray n L I1 I2 R1 R l K mu l[mu]?)
    (hend : ∀ w', I2 w' → AllF R w' (preOf l K) fun M => St P l.toArray Q (l.drop K) n (M ++ L) w') :
    ∀ (m : Nat) (listed : Array Bool) (L' : List (Nat × Value)) (w' : World), ClosedD l listed → listed.toList.count false = m → listed.size = l.length → (∀ j, K ≤ j → j < l.length → listed.getD j true = false) → I2 w' → (listed.getD mu true = false → I1 w') →
      (∀ t, (∀ i o, i < K → l[i]? = some o → listed.getD i true = true → o.dst ≠ some t) → look L' t = look L t) →
      (∀ i o d, i < K → l[i]? = some o → listed.getD i true = true → o.dst = some d → R d (look L' d) w') → (listed.getD mu true = false → ∀ i o d, i < K → l[i]? = some o → listed.getD i true = true → o.dst = some d → R1 d (look L' d) w') → wpAny P .any l.toArray Q m listed (mkA n L') w' := by
  have hc1 := (Bool.and_eq_true_iff.1 hc).1
  have hlate := (Bool.and_eq_true_iff.1 hc).2
  have hKl : K ≤ l.length := of_decide_eq_true (Bool.and_eq_true_iff.1 hc1).1
  have hck := (List.all_eq_true.1 (Bool.and_eq_true_iff.1 hc1).2)
  intro m
  induction m with
  | zero =>
    intro listed L' w' hcl hcount hs htail hF hF1 hfr hR hR1
    exact late_fin9 hQ hc hop h12 hmuL hend 0 listed L' w' hcl hcount hs htail hF hfr hR (fun i hi h => by
      have hm : listed[i]'(by omega) ∈ listed.toList := by simp
      have hb : listed[i]'(by omega) = false := by simpa [Array.getD, show i < listed.size by omega] using h
      rw [hb] at hm
      exact absurd hcount (Nat.pos_iff_ne_zero.1 (List.count_pos_iff.2 hm)))
  | succ m ih =>
    intro listed L' w' hcl hcount hs htail hF hF1 hfr hR hR1
    by_cases hpre : ∀ i, i < K → listed.getD i true = false → isLateD l K i = true
    · exact late_fin9 hQ hc hop h12 hmuL hend (m + 1) listed L' w' hcl hcount hs htail hF hfr hR hpre
    · -- some operation of the head is still to come
      have hn0 : ∃ i, i < K ∧ listed.getD i true = false ∧ isLateD l K i = false := by
        refine Classical.byContradiction fun hno => hpre fun i hi hf => ?_
        cases hb : isLateD l K i with
        | true => rfl
        | false => exact absurd ⟨i, hi, hf, hb⟩ hno
      obtain ⟨n0, hn0⟩ := hn0
      obtain ⟨i0, hi0, hmin⟩ := exists_least (p := fun i => i < K ∧ listed.getD i true = false) ⟨n0, hn0.1, hn0.2.1⟩
      have hi0l : i0 < l.length := by omega
      have hready : i0 ∈ Region.ready .any l.toArray listed := by
        refine mem_ready.2 ⟨hi0.2, l[i0], by rw [List.getElem?_toArray, List.getElem?_eq_getElem hi0l], fun e he hb => ?_⟩
        have hx := hck i0 (List.mem_range.2 hi0l)
        rw [List.getElem?_eq_getElem hi0l] at hx
        simp only [Bool.and_eq_true] at hx
        have he2 := List.all_eq_true.1 hx.1.1 e (by simpa using he)
        rw [hb] at he2
        simp at he2
        rw [← getD_true_false (by omega)]
        cases hb2 : listed.getD e.on true with
        | true => rfl
        | false => exact absurd (hmin e.on ⟨by omega, hb2⟩) (by omega)
      refine ⟨fun h0 => (by rw [h0] at hready; cases hready), fun i hi => ?_⟩
      obtain ⟨h0, o, ho, hall⟩ := mem_ready.1 hi
      rw [List.getElem?_toArray] at ho
      have hil : i < l.length := (List.getElem?_eq_some_iff.1 ho).1
      have hx := hck i (List.mem_range.2 hil)
      rw [ho] at hx
      simp only [Bool.and_eq_true] at hx
      have hiK : i < K := by
        rcases Nat.lt_or_ge i K with h | h
        · exact h
        · exfalso
          have h5 := dep_listed hcl hall (nonlate_edgeD hn0.2.2 ho h)
          rw [← getD_true_false (by omega), hn0.2.1] at h5
          cases h5
      have h3 := hx.2
      rw [if_pos hiK] at h3
      simp only [Bool.and_eq_true] at h3
      obtain ⟨h3a, h3b⟩ := h3
      cases hod : o.dst with
      | none => rw [hod] at h3a; cases h3a
      | some d =>
        rw [hod] at h3a
        simp only [Bool.and_eq_true] at h3a
        have hlooks := looksD (L := L) hc hcl hs ho hil h0 hfr
        have hfactG : ∀ (RR : Nat → Value → World → Prop), (∀ i o d, i < K → l[i]? = some o → listed.getD i true = true → o.dst = some d → RR d (look L' d) w') → ∀ t ∈ slotsD l K i o, RR t (look L' t) w' := by
          intro RR hRR t ht
          obtain ⟨_, j, oj, hjK, hj, hd, _, hdep⟩ := slotsD_spec hc hiK ho ht
          have h6 := dep_listed hcl hall hdep
          exact hRR j oj t hjK hj (by rw [getD_true_false (by omega)]; exact h6) hd
        have hsel : isSelect o.op = false := by simpa using hx.1.2
        obtain ⟨hE, hW⟩ := looksAt_agree (n := n) (ops := l.toArray) (o := o) hsel hlooks
        have next : ∀ v w'', I2 w'' → (i ≠ mu → listed.getD mu true = false → I1 w'') → R d v w'' → (i ≠ mu → R1 d v w'') → (∀ t u, t ≠ d → R t u w' → (i = mu → R1 t u w') → R t u w'') → (i ≠ mu → ∀ t u, R1 t u w' → R1 t u w'') → wpAny P .any l.toArray Q m (listed.setIfInBounds i true) ((mkA n L').put (some d) v) w'' := by
          intro v w'' hI2' hI1' hRv hR1v hst hst1
          rw [put_mkA]
          have hne : ∀ j oj d', j < K → l[j]? = some oj → j ≠ i → oj.dst = some d' → d' ≠ d := by
            intro j oj d' hj hoj hji hd e
            have h5 := List.all_eq_true.1 h3a.1 j (List.mem_range.2 hj)
            rw [hoj] at h5
            simp [hji, hd, e] at h5
          refine ih _ _ w'' (closed_set hcl ho hall) ?_ (by simpa using hs) (fun j hj1 hj2 => ?_) hI2' (fun hml => ?_) (fun t ht => ?_) (fun j oj d' hj hoj hlj hd => ?_) (fun hml j oj d' hj hoj hlj hd => ?_)
          · have hil' : i < listed.size := by omega
            have hfalse : listed.toList[i]? = some false := by
              rw [Array.getElem?_toList, Array.getElem?_eq_getElem hil']
              simp [Array.getD, hil'] at h0
              rw [h0]
            rw [Array.toList_setIfInBounds]
            have := count_set_true (l := listed.toList) (i := i) hfalse
            omega
          · rw [getD_set_ne true (by omega)]
            exact htail j hj1 hj2
          · have him : i ≠ mu := fun e => by subst e; simp [show i < listed.size by omega] at hml
            rw [getD_set_ne true him] at hml
            exact hI1' him hml
          · have htd : t ≠ d := fun e => ht i o hiK ho (by simp [show i < listed.size by omega]) (by rw [hod, e])
            rw [look_cons, if_neg htd]
            refine hfr t fun j oj hj hoj hlj => ht j oj hj hoj ?_
            by_cases e : i = j
            · subst e; rw [h0] at hlj; cases hlj
            · rw [getD_set_ne true e]; exact hlj
          · rw [look_cons]
            by_cases e : j = i
            · subst e
              rw [ho] at hoj
              cases hoj
              rw [hod] at hd
              cases hd
              rw [if_pos rfl]
              exact hRv
            · have hdd := hne j oj d' hj hoj e hd
              rw [if_neg hdd]
              rw [getD_set_ne true (Ne.symm e)] at hlj
              refine hst _ _ hdd (hR j oj d' hj hoj hlj hd) (fun e2 => ?_)
              subst e2
              exact hR1 h0 j oj d' hj hoj hlj hd
          · have him : i ≠ mu := fun e => by subst e; simp [show i < listed.size by omega] at hml
            rw [getD_set_ne true him] at hml
            rw [look_cons]
            by_cases e : j = i
            · subst e
              rw [ho] at hoj
              cases hoj
              rw [hod] at hd
              cases hd
              rw [if_pos rfl]
              exact hR1v him
            · rw [if_neg (hne j oj d' hj hoj e hd)]
              rw [getD_set_ne true (Ne.symm e)] at hlj
              exact hst1 him _ _ (hR1 hml j oj d' hj hoj hlj hd)
        unfold wpOp
        rw [List.getElem?_toArray, ho]
        show if Region.wanted o (yielded l.toArray (mkT n.n L')) = true then _ else _
        by_cases him : i = mu
        · subst him
          rw [ho] at hmu
          have hok := allF_at (look L') _ (hfactG R1 (hR1 h0)) (hmu w' (hF1 h0))
          rw [hod] at hok
          simp only [Option.getD_some] at hok
          unfold MuOK at hok
          rw [hE, hW] at hok
          obtain ⟨hw, ⟨v, w'', hr, hI, hRv, hst⟩ | ⟨f, args, hr, hcall⟩⟩ := hok
          · rw [if_pos hw]
            refine .inl ?_
            unfold Oper.wp
            rw [eval_mkA, hr, Oper.upon_value, hod]
            exact next v w'' hI (fun h => absurd rfl h) hRv (fun h => absurd rfl h) (fun t u ht _ h1 => hst t u ht (h1 rfl)) (fun h => absurd rfl h)
          · rw [if_pos hw]
            refine .inl ?_
            unfold Oper.wp
            rw [eval_mkA, hr, Oper.upon_enter, hod]
            refine Calls.mono hcall fun e w'' ⟨v, he, hI, hRv, hst⟩ => ?_
            subst he
            exact next v w'' hI (fun h => absurd rfl h) hRv (fun h => absurd rfl h) (fun t u ht _ h1 => hst t u ht (h1 rfl)) (fun h => absurd rfl h)
        · have hok : OpOK P l.toArray n (((slotsD l K i o).map fun d => (d, look L' d)) ++ L) o w' (R1 (o.dst.getD 0)) := by
            cases hdm : depMu l K mu i with
            | false => exact allF_at (look L') _ (hfactG R hR) (opsOK9_at2 hop i o (by rw [List.getElem?_take, if_pos hiK]; exact ho) him hdm w' hF)
            | true =>
              have hml : listed.getD mu true = false := by
                obtain ⟨hmK, om, hom, hdep⟩ := depMu_spec hdm
                rw [← Bool.not_eq_true]
                intro hml
                have hml2 : listed.getD mu false = true := by rw [← getD_true_false (by omega)]; exact hml
                have := dep_listed hcl (fun e he hb => hcl mu om hom hml2 e he hb) hdep
                rw [← getD_true_false (by omega), h0] at this
                cases this
              exact allF_at (look L') _ (hfactG R1 (hR1 hml)) (opsOK9_at1 hop i o (by rw [List.getElem?_take, if_pos hiK]; exact ho) him hdm w' (hF1 hml))
          rw [hod] at hok
          simp only [Option.getD_some] at hok
          unfold OpOK at hok
          rw [hE, hW] at hok
          have next' : ∀ v w'', From w' w'' → R1 d v w'' → wpAny P .any l.toArray Q m (listed.setIfInBounds i true) ((mkA n L').put (some d) v) w'' := fun v w'' hF' hRv =>
            next v w'' (hm2 _ _ hF' hF) (fun _ h => hm1 _ _ hF' (hF1 h)) (h12 _ _ _ hRv) (fun _ => hRv) (fun t u _ h _ => hmono _ _ _ _ hF' h) (fun _ t u h => hmono1 _ _ _ _ hF' h)
          rcases hok with ⟨hw, ⟨v, w'', hr, hF', hRv⟩ | ⟨f, args, hr, hcall⟩⟩ | ⟨hw, hRv⟩
          · rw [if_pos hw]
            refine .inl ?_
            unfold Oper.wp
            rw [eval_mkA, hr, Oper.upon_value, hod]
            exact next' v w'' hF' hRv
          · rw [if_pos hw]
            refine .inl ?_
            unfold Oper.wp
            rw [eval_mkA, hr, Oper.upon_enter, hod]
            refine Calls.mono hcall fun e w'' ⟨v, he, hF', hRv⟩ => ?_
            subst he
            exact next' v w'' hF' hRv
          · rw [if_neg (by rw [hw]; simp), hod]
            exact next' undef w' From.rfl_ hRv

/-- a region that draws its order, with one change -/
theorem cd_mu9 {id : Nat} (K mu : Nat) (Ex : List Nat) (RL : List (Nat × (Value → World → Prop))) (I1 I2 : World → Prop) (hQ : PQ Q) (hm : P.follows .mixedOrders = true) (hc : monoD l K = true) (hl : isLateD l K mu = false) (hmono : MonoR RL)
    (h0 : I1 { w with drawn := w.drawn + 1 }) (h0' : I2 { w with drawn := w.drawn + 1 }) (hm1 : ∀ w1 w2, From w1 w2 → I1 w1 → I1 w2) (hm2 : ∀ w1 w2, From w1 w2 → I2 w1 → I2 w2)
    (hop : OpsOK9 P l.toArray n L I1 I2 (lookR RL) (lookE Ex RL) l K mu 0 (l.take K)) (hmu : MuAt P l.toArray n L I1 I2 (lookR RL) (lookE Ex RL) l K mu l[mu]?)
    (hend : ∀ w', I2 w' → AllF (lookE Ex RL) w' (preOf l K) fun M => St P l.toArray Q (l.drop K) n (M ++ L) w') : Cd P (.region id l.toArray true) Q n L w := by
  refine ⟨wp_region_any hm ?_⟩
  have hKl : K ≤ l.length := of_decide_eq_true (Bool.and_eq_true_iff.1 (Bool.and_eq_true_iff.1 hc).1).1
  have := mono_mu9 (Q := Q) hQ hc hm1 hm2 (lookR_mono hmono) (lookE_mono hmono) hop lookE_of (fun _ => hl) hmu hend l.length (Array.replicate l.length false) L { w with drawn := w.drawn + 1 } (closed_none l _) (by simp) (by simp)
    (fun j _ hj => by simp [Array.getD, hj]) h0' (fun _ => h0) (fun _ _ => rfl) (fun i o d hi _ hl => by
      have : i < l.length := by omega
      simp [Array.getD, this] at hl) (fun _ i o d hi _ hl => by
      have : i < l.length := by omega
      simp [Array.getD, this] at hl)
  simpa using this
end late
section
variable {P : Program} {ops : Array Oper} {n : Fr} {L : List (Nat × Value)} {w : World} {ty : TypeId} {pos : String} {after : Array Edge} {dst : Option Nat}
/-- a call, as the change of a region -/
theorem mu_call {f : FuncId} {l : List Operand} {ats : Array TypeId} {R post : Value → World → Prop} (hf : callable P f = true) (hc : Rt P f (l.map (ev n L)) w R) (k : ∀ v w', R v w' → post v w') :
    MuOK P ops n L ⟨dst, .call { callee := .value (.func f), args := l.toArray, argTypes := ats }, ty, pos, after, none⟩ w post :=
  ⟨rfl, .inr ⟨f, l.map (ev n L), by rw [exec_call (fun _ => rfl), run_call hf], hc.mono k⟩⟩
/-- an operation that changes memory by itself, as the change of a region -/
theorem mu_ro {op : Op} {v : Value} {w' : World} {post : Value → World → Prop} (hr : RO P (ev n L) op w v w') (h : post v w') : MuOK P ops n L ⟨dst, op, ty, pos, after, none⟩ w post := ⟨rfl, .inl ⟨v, w', hr _ _ _ _ _, h⟩⟩
end
end Go.Proofs.Ytpafbgdbjambgaa

namespace Go.Proofs.Ytpafbgdbjambgaa
open Go.RowKit

def edgesB (l : List Oper) : Bool := (List.range l.length).all fun i => match l[i]? with
  | none => false
  | some o => o.guard.isNone && o.after.toList.all fun e => !Region.binds .any e || decide (e.on < i)
def setB (S : Nat → Bool) (i : Nat) : Nat → Bool := fun j => if j = i then true else S j
/-- one operation runs, and the invariant holds behind it -/
def StepI (P : Program) (n : Fr) (o : Oper) (Inv : List (Nat × Value) → World → Prop) (L' : List (Nat × Value)) (w' : World) : Prop :=
  (∃ d v w'', o.dst = some d ∧ (execOp (ev n L') o).run P w' = .ok (.value v) w'' ∧ Inv ((d, v) :: L') w'') ∨
  (∃ w'', o.dst = none ∧ (execOp (ev n L') o).run P w' = .ok .skip w'' ∧ Inv L' w'') ∨
  (∃ d f args, o.dst = some d ∧ (execOp (ev n L') o).run P w' = .ok (.enter f (List.toArray args)) w' ∧ Rt P f args w' fun v w'' => Inv ((d, v) :: L') w'')
section
variable {P : Program} {Q : Exit → Act → World → Prop} {n : Fr} {L : List (Nat × Value)} {w : World} {l : List Oper}
theorem inv_any {Inv : (Nat → Bool) → List (Nat × Value) → World → Prop} (hwf : edgesB l = true)
    (hstep : ∀ (i : Nat) (o : Oper) (S : Nat → Bool) (L' : List (Nat × Value)) (w' : World), l[i]? = some o → Inv S L' w' → S i = false → (∀ e ∈ o.after, Region.binds .any e = true → S e.on = true) → StepI P n o (Inv (setB S i)) L' w')
    (hend : ∀ L' w', Inv (fun i => decide (i < l.length)) L' w' → Q .normal (mkA n L') w') :
    ∀ (m : Nat) (listed : Array Bool) (L' : List (Nat × Value)) (w' : World), listed.toList.count false = m → listed.size = l.length → Inv (fun i => listed.getD i false) L' w' → wpAny P .any l.toArray Q m listed (mkA n L') w' := by
  have hck := List.all_eq_true.1 hwf
  intro m
  induction m with
  | zero =>
    intro listed L' w' hcount hs hI
    have hall : ∀ i, i < l.length → listed.getD i false = true := fun i hi => by
      have hm : listed[i]'(by omega) ∈ listed.toList := by simp
      cases hb : listed[i]'(by omega) with
      | true => simp [Array.getD, show i < listed.size by omega, hb]
      | false => rw [hb] at hm; exact absurd hcount (Nat.pos_iff_ne_zero.1 (List.count_pos_iff.2 hm))
    have e : (fun i => listed.getD i false) = fun i => decide (i < l.length) := by
      funext i
      by_cases hi : i < l.length
      · rw [hall i hi, decide_eq_true hi]
      · rw [decide_eq_false hi]
        simp [Array.getD, show ¬ i < listed.size by omega]
    rw [e] at hI
    refine ⟨?_, hend L' w' hI⟩
    cases hr : Region.ready .any l.toArray listed with
    | nil => rfl
    | cons i r =>
      exfalso
      obtain ⟨h0, o, ho, _⟩ := mem_ready.1 (show i ∈ Region.ready .any l.toArray listed by rw [hr]; simp)
      rw [List.getElem?_toArray] at ho
      have hil : i < l.length := (List.getElem?_eq_some_iff.1 ho).1
      have := hall i hil
      rw [← getD_true_false (by omega), h0] at this
      cases this
  | succ m ih =>
    intro listed L' w' hcount hs hI
    have hn0 : ∃ i, i < l.length ∧ listed.getD i true = false := by
      have hpos : 0 < listed.toList.count false := by omega
      obtain ⟨i, hi, hb⟩ := List.getElem_of_mem (List.count_pos_iff.1 hpos)
      rw [Array.length_toList] at hi
      refine ⟨i, by omega, ?_⟩
      rw [Array.getElem_toList] at hb
      simp [Array.getD, hi, hb]
    obtain ⟨i0, hi0, hmin⟩ := exists_least (p := fun i => i < l.length ∧ listed.getD i true = false) hn0
    have hready : i0 ∈ Region.ready .any l.toArray listed := by
      refine mem_ready.2 ⟨hi0.2, l[i0]'hi0.1, by rw [List.getElem?_toArray, List.getElem?_eq_getElem hi0.1], fun e he hb => ?_⟩
      have hx := hck i0 (List.mem_range.2 hi0.1)
      rw [List.getElem?_eq_getElem hi0.1] at hx
      simp only [Bool.and_eq_true] at hx
      have he2 := List.all_eq_true.1 hx.2 e (by simpa using he)
      rw [hb] at he2
      simp at he2
      have := hi0.1
      rw [← getD_true_false (by omega)]
      cases hb2 : listed.getD e.on true with
      | true => rfl
      | false => exact absurd (hmin e.on ⟨by omega, hb2⟩) (by omega)
    refine ⟨fun h0 => (by rw [h0] at hready; cases hready), fun i hi => ?_⟩
    obtain ⟨h0, o, ho, hall⟩ := mem_ready.1 hi
    rw [List.getElem?_toArray] at ho
    have hil : i < l.length := (List.getElem?_eq_some_iff.1 ho).1
    have hx := hck i (List.mem_range.2 hil)
    rw [ho] at hx
    simp only [Bool.and_eq_true] at hx
    have hg : o.guard = none := by simpa using hx.1
    have h0f : listed.getD i false = false := by rw [← getD_true_false (by omega)]; exact h0
    have hset : (fun j => (listed.setIfInBounds i true).getD j false) = setB (fun j => listed.getD j false) i := by
      funext j
      unfold setB
      by_cases e : j = i
      · subst e
        simp [Array.getD, show j < listed.size by omega]
      · rw [if_neg e, getD_set_ne false (Ne.symm e)]
    have hcnt : (listed.setIfInBounds i true).toList.count false = m := by
      have hil' : i < listed.size := by omega
      have hfalse : listed.toList[i]? = some false := by
        rw [Array.getElem?_toList, Array.getElem?_eq_getElem hil']
        simp [Array.getD, hil'] at h0
        rw [h0]
      rw [Array.toList_setIfInBounds]
      have := count_set_true (l := listed.toList) (i := i) hfalse
      omega
    have next : ∀ L2 w2, Inv (setB (fun j => listed.getD j false) i) L2 w2 → wpAny P .any l.toArray Q m (listed.setIfInBounds i true) (mkA n L2) w2 := fun L2 w2 h =>
      ih _ L2 w2 hcnt (by simpa using hs) (by rw [hset]; exact h)
    unfold wpOp
    rw [List.getElem?_toArray, ho]
    show if Region.wanted o (yielded l.toArray (mkT n.n L')) = true then _ else _
    rw [if_pos (by unfold Region.wanted; rw [hg])]
    refine .inl ?_
    unfold Oper.wp
    rw [eval_mkA]
    rcases hstep i o _ L' w' ho hI h0f hall with ⟨d, v, w'', hd, hr, hI2⟩ | ⟨w'', hd, hr, hI2⟩ | ⟨d, f, args, hd, hr, hc⟩
    · rw [hr, Oper.upon_value, hd, put_mkA]
      exact next _ _ hI2
    · rw [hr, Oper.upon_skip, hd]
      exact next _ _ hI2
    · rw [hr, Oper.upon_enter, hd]
      refine Calls.mono hc fun e w'' ⟨v, he, hI2⟩ => ?_
      subst he
      show wpAny P .any l.toArray Q m (listed.setIfInBounds i true) ((mkA n L').put (some d) v) w''
      rw [put_mkA]
      exact next _ _ hI2
/-- a region that draws its order, by an invariant -/
theorem cd_inv {id : Nat} (Inv : (Nat → Bool) → List (Nat × Value) → World → Prop) (hm : P.follows .mixedOrders = true) (hwf : edgesB l = true) (h0 : Inv (fun _ => false) L { w with drawn := w.drawn + 1 })
    (hstep : ∀ (i : Nat) (o : Oper) (S : Nat → Bool) (L' : List (Nat × Value)) (w' : World), l[i]? = some o → Inv S L' w' → S i = false → (∀ e ∈ o.after, Region.binds .any e = true → S e.on = true) → StepI P n o (Inv (setB S i)) L' w')
    (hend : ∀ L' w', Inv (fun i => decide (i < l.length)) L' w' → Q .normal (mkA n L') w') : Cd P (.region id l.toArray true) Q n L w := by
  refine ⟨wp_region_any hm ?_⟩
  have := inv_any (Q := Q) hwf hstep hend l.length (Array.replicate l.length false) L { w with drawn := w.drawn + 1 } (by simp) (by simp) (by
    have e : (fun i => (Array.replicate l.length false).getD i false) = fun _ => false := by
      funext i
      by_cases hi : i < l.length <;> simp [Array.getD, hi]
    rw [e]
    exact h0)
  simpa using this
theorem step_ro {d : Nat} {op : Op} {ty : TypeId} {pos : String} {after : Array Edge} {v : Value} {w' w'' : World} {L' : List (Nat × Value)} {Inv : List (Nat × Value) → World → Prop} (h : RO P (ev n L') op w' v w'') (hI : Inv ((d, v) :: L') w'') : StepI P n ⟨some d, op, ty, pos, after, none⟩ Inv L' w' :=
  .inl ⟨d, v, w'', rfl, h _ _ _ _ _, hI⟩
theorem step_rs {op : Op} {ty : TypeId} {pos : String} {after : Array Edge} {w' w'' : World} {L' : List (Nat × Value)} {Inv : List (Nat × Value) → World → Prop} (h : RS P (ev n L') op w' w'') (hI : Inv L' w'') : StepI P n ⟨none, op, ty, pos, after, none⟩ Inv L' w' :=
  .inr (.inl ⟨w'', rfl, h _ _ _ _ _, hI⟩)
theorem step_call {d : Nat} {f : FuncId} {al : List Operand} {ats : Array TypeId} {ty : TypeId} {pos : String} {after : Array Edge} {w' : World} {L' : List (Nat × Value)} {Inv : List (Nat × Value) → World → Prop} (hf : callable P f = true) (hc : Rt P f (al.map (ev n L')) w' fun v w'' => Inv ((d, v) :: L') w'') : StepI P n ⟨some d, .call { callee := .value (.func f), args := al.toArray, argTypes := ats }, ty, pos, after, none⟩ Inv L' w' :=
  .inr (.inr ⟨d, f, al.map (ev n L'), rfl, by rw [exec_call (fun _ => rfl), run_call hf], hc⟩)
/-! ### the values of the slots, by a table: (operation, slot, value) -/
def InvL (L : List (Nat × Value)) (T : List (Nat × Nat × Value)) (S : Nat → Bool) (L' : List (Nat × Value)) : Prop :=
  (∀ t, (∀ p ∈ T, p.2.1 ≠ t) → look L' t = look L t) ∧ (∀ p ∈ T, S p.1 = true → look L' p.2.1 = p.2.2) ∧ ∀ p ∈ T, S p.1 = false → look L' p.2.1 = look L p.2.1
def UniT : List (Nat × Nat × Value) → Prop
  | [] => True
  | p :: r => (∀ q ∈ r, q.1 ≠ p.1 ∧ q.2.1 ≠ p.2.1) ∧ UniT r
theorem uni_eq : ∀ {T : List (Nat × Nat × Value)}, UniT T → ∀ {p q : Nat × Nat × Value}, p ∈ T → q ∈ T → p.1 = q.1 ∨ p.2.1 = q.2.1 → p = q
  | _ :: _, ⟨h1, h2⟩, p, q, hp, hq, he => by
    rcases List.mem_cons.1 hp with rfl | hp' <;> rcases List.mem_cons.1 hq with rfl | hq'
    · rfl
    · rcases he with e | e
      · exact absurd e.symm (h1 _ hq').1
      · exact absurd e.symm (h1 _ hq').2
    · rcases he with e | e
      · exact absurd e (h1 _ hp').1
      · exact absurd e (h1 _ hp').2
    · exact uni_eq h2 hp' hq' he
theorem InvL.put {T : List (Nat × Nat × Value)} {S : Nat → Bool} {L' : List (Nat × Value)} {i d : Nat} {v : Value} (h : InvL L T S L') (hU : UniT T) (hp : (i, d, v) ∈ T) : InvL L T (setB S i) ((d, v) :: L') := by
  refine ⟨fun t ht => ?_, fun p hq hs => ?_, fun p hq hs => ?_⟩
  · rw [look_cons, if_neg (fun e => ht _ hp e.symm)]
    exact h.1 t ht
  · rw [look_cons]
    by_cases e : p.2.1 = d
    · rw [if_pos e, uni_eq hU hq hp (.inr e)]
    · rw [if_neg e]
      refine h.2.1 p hq ?_
      unfold setB at hs
      by_cases e2 : p.1 = i
      · exact absurd (congrArg (·.2.1) (uni_eq hU hq hp (.inl e2))) e
      · rwa [if_neg e2] at hs
  · unfold setB at hs
    by_cases e2 : p.1 = i
    · rw [if_pos e2] at hs; cases hs
    · rw [if_neg e2] at hs
      rw [look_cons, if_neg (fun e => e2 (congrArg (·.1) (uni_eq hU hq hp (.inr e))))]
      exact h.2.2 p hq hs
theorem InvL.skip {T : List (Nat × Nat × Value)} {S : Nat → Bool} {L' : List (Nat × Value)} {i : Nat} (h : InvL L T S L') (hi : ∀ p ∈ T, p.1 ≠ i) : InvL L T (setB S i) L' := by
  refine ⟨h.1, fun p hq hs => h.2.1 p hq ?_, fun p hq hs => h.2.2 p hq ?_⟩ <;> (unfold setB at hs; rwa [if_neg (hi p hq)] at hs)
theorem InvL.get {T : List (Nat × Nat × Value)} {S : Nat → Bool} {L' : List (Nat × Value)} {i d : Nat} {v : Value} (h : InvL L T S L') (hp : (i, d, v) ∈ T) (hs : S i = true) : look L' d = v := h.2.1 _ hp hs
theorem InvL.old {T : List (Nat × Nat × Value)} {S : Nat → Bool} {L' : List (Nat × Value)} {i d : Nat} {v : Value} (h : InvL L T S L') (hp : (i, d, v) ∈ T) (hs : S i = false) : look L' d = look L d := h.2.2 _ hp hs
def EdgesOn (S : Nat → Bool) : List Edge → Prop
  | [] => True
  | e :: r => (bif Region.binds .any e then S e.on = true else True) ∧ EdgesOn S r
theorem edges_on {S : Nat → Bool} : ∀ {es : List Edge}, (∀ e ∈ es, Region.binds .any e = true → S e.on = true) → EdgesOn S es
  | [], _ => trivial
  | e :: r, h => by
    refine ⟨?_, edges_on fun e' he => h e' (.tail _ he)⟩
    cases hb : Region.binds .any e with
    | true => exact h e (.head _) hb
    | false => trivial
def StepsT (P : Program) (n : Fr) (L : List (Nat × Value)) (T : List (Nat × Nat × Value)) (Mem : (Nat → Bool) → World → Prop) : Nat → List Oper → Prop
  | _, [] => True
  | i, o :: r => (∀ S L' w', InvL L T S L' → Mem S w' → S i = false → EdgesOn S o.after.toList → StepI P n o (fun L2 w2 => InvL L T (setB S i) L2 ∧ Mem (setB S i) w2) L' w') ∧ StepsT P n L T Mem (i + 1) r
theorem stepsT_at {T : List (Nat × Nat × Value)} {Mem : (Nat → Bool) → World → Prop} : ∀ {r : List Oper} {k : Nat}, StepsT P n L T Mem k r → ∀ (i : Nat) (o : Oper), r[i]? = some o → ∀ S L' w', InvL L T S L' → Mem S w' → S (k + i) = false → EdgesOn S o.after.toList → StepI P n o (fun L2 w2 => InvL L T (setB S (k + i)) L2 ∧ Mem (setB S (k + i)) w2) L' w'
  | [], _, _, i, o, h => by simp at h
  | x :: r, k, ⟨h1, h2⟩, 0, o, h => by
    simp only [List.getElem?_cons_zero, Option.some.injEq] at h
    subst h
    exact h1
  | x :: r, k, ⟨h1, h2⟩, i + 1, o, h => by
    have := stepsT_at h2 i o (by simpa using h)
    rwa [show k + 1 + i = k + (i + 1) by omega] at this
theorem look_tab {T : List (Nat × Nat × Value)} (hU : UniT T) {L L' : List (Nat × Value)} {S : Nat → Bool} (h : InvL L T S L') (hS : ∀ p ∈ T, S p.1 = true) (t : Nat) : look L' t = look (T.map (fun p => (p.2.1, p.2.2)) ++ L) t := by
  have key : ∀ T' : List (Nat × Nat × Value), (∀ p ∈ T', p ∈ T) → (∃ p ∈ T', p.2.1 = t) ∨ (∀ p ∈ T', p.2.1 ≠ t) → (∃ p ∈ T', p.2.1 = t ∧ look (T'.map (fun p => (p.2.1, p.2.2)) ++ L) t = p.2.2) ∨ ((∀ p ∈ T', p.2.1 ≠ t) ∧ look (T'.map (fun p => (p.2.1, p.2.2)) ++ L) t = look L t) := by
    intro T'
    induction T' with
    | nil => exact fun _ _ => .inr ⟨fun p hp => by simp at hp, rfl⟩
    | cons q r ih =>
      intro hsub _
      rw [List.map_cons, List.cons_append, look_cons]
      by_cases e : q.2.1 = t
      · rw [if_pos e.symm]
        exact .inl ⟨q, .head _, e, rfl⟩
      · rw [if_neg (Ne.symm e)]
        rcases ih (fun p hp => hsub p (.tail _ hp)) (by by_cases hx : ∃ p ∈ r, p.2.1 = t; exact .inl hx; exact .inr fun p hp he => hx ⟨p, hp, he⟩) with ⟨p, hp, h1, h2⟩ | ⟨h1, h2⟩
        · exact .inl ⟨p, .tail _ hp, h1, h2⟩
        · refine .inr ⟨fun p hp => ?_, h2⟩
          rcases List.mem_cons.1 hp with rfl | hp2
          · exact e
          · exact h1 p hp2
  rcases key T (fun _ hp => hp) (by by_cases hx : ∃ p ∈ T, p.2.1 = t; exact .inl hx; exact .inr fun p hp he => hx ⟨p, hp, he⟩) with ⟨p, hp, h1, h2⟩ | ⟨h1, h2⟩
  · rw [h2, ← h1]
    exact h.2.1 p hp (hS p hp)
  · rw [h2]
    exact h.1 t h1
theorem cd_invT {id : Nat} (T : List (Nat × Nat × Value)) (Mem : (Nat → Bool) → World → Prop) (hm : P.follows .mixedOrders = true) (hwf : edgesB l = true) (hU : UniT T) (hlt : ∀ p ∈ T, p.1 < l.length) (h0 : Mem (fun _ => false) { w with drawn := w.drawn + 1 })
    (hstep : StepsT P n L T Mem 0 l) (hend : ∀ w', Mem (fun i => decide (i < l.length)) w' → Q .normal (mkA n (T.map (fun p => (p.2.1, p.2.2)) ++ L)) w') : Cd P (.region id l.toArray true) Q n L w := by
  refine cd_inv (fun S L' w' => InvL L T S L' ∧ Mem S w') hm hwf ⟨⟨fun _ _ => rfl, fun _ _ h => (by cases h), fun _ _ _ => rfl⟩, h0⟩ (fun i o S L' w' ho ⟨hI, hM⟩ hS hE => ?_) fun L' w' ⟨hI, hM⟩ => ?_
  · have := stepsT_at hstep i o ho S L' w' hI hM (by rw [Nat.zero_add]; exact hS) (edges_on fun e he => hE e (by simpa using he))
    rwa [Nat.zero_add] at this
  · have h := hend w' hM
    have e : mkA n L' = mkA n (T.map (fun p => (p.2.1, p.2.2)) ++ L) := by
      unfold mkA
      rw [mkT_congr fun t _ => look_tab hU hI (fun p hp => decide_eq_true (hlt p hp)) t]
    rw [e]
    exact h
theorem rs_put {t : TypeId} {x y : Operand} {g i : Nat} {u : TypeId} {cs : Array Value} {v : Value} (ht : sizeQ P t = some 1) (hx : ev n L x = .pointer (some ⟨g, i, none⟩)) (hy : ev n L y = v) (h1 : v.oneCell' = true) (hb : Blk w g u cs) (hi : i < cs.size) :
    ∃ w', RS P (ev n L) (.store t x y) w w' ∧ Only g w w' ∧ Blk w' g u (cs.setIfInBounds i v) := by
  have hc : w.cell? ⟨g, i, none⟩ = some (cs[i]'hi) := by rw [hb.cell]; simp [hi]
  exact ⟨_, rs_store ht hx hy h1 hc (hb.frozen i), Only.setCell w g i v, hb.set_ i v⟩
end
end Go.Proofs.Ytpafbgdbjambgaa
