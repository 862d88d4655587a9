/- Lists of texts as bytes, and back: pure. -/
import Derived.Test.YtjliefglelcooaaDoorMgRpcAny2
import Derived.Laws.CopyRow
import Derived.Lib.LazyBuf
import Derived.Lib.AppendZerosOnto
import Derived.Lib.Overlaps
import Derived.Test.YtjliefglelcooaaDoorMgRpcAny1
import Derived.Lib.AppendStr
import Derived.Laws.AppendOwnNone
import Derived.OwnWalk
namespace Go.Proofs.YtjliefglelcooaaDoor
open Go.RowKit

/-- of the slots Ex nothing is claimed any more -/
def lookE (Ex : List Nat) (RL : List (Nat × (Value → World → Prop))) (t : Nat) : Value → World → Prop := bif Ex.elem t then fun _ _ => True else lookR RL t
theorem lookE_mono {Ex : List Nat} {l : List (Nat × (Value → World → Prop))} (h : MonoR l) : ∀ t v w1 w2, From w1 w2 → lookE Ex l t v w1 → lookE Ex l t v w2 := by
  intro t v w1 w2 hF h1
  unfold lookE at h1 ⊢
  cases hb : Ex.elem t with
  | true => trivial
  | false => rw [hb] at h1; exact lookR_mono h t v w1 w2 hF h1
theorem lookE_of {Ex : List Nat} {l : List (Nat × (Value → World → Prop))} : ∀ t v w, lookR l t v w → lookE Ex l t v w := by
  intro t v w h
  unfold lookE
  cases hb : Ex.elem t with
  | true => trivial
  | false => exact h
/-- what the slots' predicates bear of the change: from w1 to w2; d is the slot that the change yields -/
def MuR (Ex : List Nat) (d : Nat) (w1 w2 : World) : List (Nat × (Value → World → Prop)) → Prop
  | [] => True
  | (k, R) :: r => ((Ex.elem k || Nat.beq k d) = true ∨ ∀ u, R u w1 → R u w2) ∧ MuR Ex d w1 w2 r
theorem muR_look {Ex : List Nat} {d : Nat} {w1 w2 : World} : ∀ {RL : List (Nat × (Value → World → Prop))}, MuR Ex d w1 w2 RL → ∀ t u, t ≠ d → lookR RL t u w1 → lookE Ex RL t u w2
  | [], _, t, u, _, _ => by unfold lookE; cases Ex.elem t <;> trivial
  | (k, R) :: r, ⟨h1, h2⟩, t, u, hd, h => by
    have e : lookR ((k, R) :: r) t = bif Nat.beq t k then R else lookR r t := rfl
    have ih := muR_look h2 t u hd
    unfold lookE at ih ⊢
    rw [e] at h ⊢
    cases hx : Ex.elem t with
    | true => trivial
    | false =>
      rw [hx] at ih
      simp only [cond_false] at ih ⊢
      cases hb : Nat.beq t k with
      | true =>
        have hk : t = k := Nat.eq_of_beq_eq_true hb
        subst hk
        rw [hb] at h
        rcases h1 with h1 | h1
        · rw [hx, Bool.false_or] at h1
          exact absurd (Nat.eq_of_beq_eq_true h1) hd
        · exact h1 u h
      | false => rw [hb] at h; exact ih h
/-- it waits for j: itself, or by one that it waits for -/
def dep2 (l : List Oper) (o : Oper) (j : Nat) : Bool := hasEdge o j || o.after.toList.any fun e => Region.binds .any e && match l[e.on]? with | some o' => hasEdge o' j | none => false
/-- what is done has all done that it waited for -/
def ClosedD (l : List Oper) (listed : Array Bool) : Prop := ∀ i o, l[i]? = some o → listed.getD i false = true → ∀ e ∈ o.after, Region.binds .any e = true → listed.getD e.on false = true
theorem dep_listed {l : List Oper} {listed : Array Bool} (hcl : ClosedD l listed) {o : Oper} {j : Nat} (hall : ∀ e ∈ o.after, Region.binds .any e = true → listed.getD e.on false = true) (h : dep2 l o j = true) : listed.getD j false = true := by
  have direct : ∀ (x : Oper), (∀ e ∈ x.after, Region.binds .any e = true → listed.getD e.on false = true) → hasEdge x j = true → listed.getD j false = true := by
    intro x hx he
    obtain ⟨e, he, he2⟩ := List.any_eq_true.1 he
    simp only [Bool.and_eq_true, beq_iff_eq] at he2
    have := hx e (by simpa using he) he2.1
    rwa [he2.2] at this
  unfold dep2 at h
  rcases Bool.or_eq_true_iff.1 h with h | h
  · exact direct o hall h
  · obtain ⟨e, he, he2⟩ := List.any_eq_true.1 h
    simp only [Bool.and_eq_true] at he2
    have h1 := hall e (by simpa using he) he2.1
    cases ho : l[e.on]? with
    | none => rw [ho] at he2; cases he2.2
    | some o' =>
      rw [ho] at he2
      exact direct o' (hcl e.on o' ho h1) he2.2
theorem closed_set {l : List Oper} {listed : Array Bool} (hcl : ClosedD l listed) {i : Nat} {o : Oper} (ho : l[i]? = some o) (hall : ∀ e ∈ o.after, Region.binds .any e = true → listed.getD e.on false = true) : ClosedD l (listed.setIfInBounds i true) := by
  have up : ∀ k, listed.getD k false = true → (listed.setIfInBounds i true).getD k false = true := by
    intro k hk
    by_cases e : i = k
    · subst e
      have : i < listed.size := by
        rcases Nat.lt_or_ge i listed.size with h | h
        · exact h
        · simp [Array.getD, show ¬ i < listed.size by omega] at hk
      simp [this]
    · rw [getD_set_ne false e]; exact hk
  intro k x hx hk e he hb
  by_cases h : i = k
  · subst h
    rw [ho] at hx
    cases hx
    exact up _ (hall e he hb)
  · rw [getD_set_ne false h] at hk
    exact up _ (hcl k x hx hk e he hb)
theorem closed_none (l : List Oper) (n : Nat) : ClosedD l (Array.replicate n false) := by
  intro i o _ h
  simp [Array.getD] at h
/-- the slots that operation i of the head looks at as its writer has left them (not those whose writer waits for i) -/
def oldD (l : List Oper) (K i t : Nat) : Bool := (List.range K).any fun j => match l[j]? with | some oj => (oj.dst == some t) && dep2 l oj i | none => false
def slotsD (l : List Oper) (K i : Nat) (o : Oper) : List Nat := (preOf l K).filter fun t => (o.looksAt l.toArray).elem t && !oldD l K i t
def OpsOK8 (P : Program) (ops : Array Oper) (n : Nat) (L : List (Nat × Value)) (I2 : World → Prop) (R1 R2 : Nat → Value → World → Prop) (l0 : List Oper) (K : Nat) (mu : Nat) : Nat → List Oper → Prop
  | _, [] => True
  | i, o :: r => (Nat.beq i mu = false → ∀ w', I2 w' → AllF R2 w' (slotsD l0 K i o) fun M => OpOK P ops n (M ++ L) o w' (R1 (o.dst.getD 0))) ∧ OpsOK8 P ops n L I2 R1 R2 l0 K mu (i + 1) r
theorem opsOK8_at {P : Program} {ops : Array Oper} {n : Nat} {L : List (Nat × Value)} {I2 : World → Prop} {R1 R2 : Nat → Value → World → Prop} {l0 : List Oper} {K mu : Nat} : ∀ {l : List Oper} {k : Nat}, OpsOK8 P ops n L I2 R1 R2 l0 K mu k l → ∀ (i : Nat) (o : Oper), l[i]? = some o → k + i ≠ mu →
    ∀ w', I2 w' → AllF R2 w' (slotsD l0 K (k + i) o) fun M => OpOK P ops n (M ++ L) o w' (R1 (o.dst.getD 0))
  | [], _, _, i, o, h, _ => by simp at h
  | x :: r, k, ⟨h1, h2⟩, 0, o, h, hne => by
    simp only [List.getElem?_cons_zero, Option.some.injEq] at h
    subst h
    rw [Nat.add_zero] at hne ⊢
    refine h1 ?_
    rw [← Bool.not_eq_true]
    intro hb
    exact hne (Nat.eq_of_beq_eq_true hb)
  | x :: r, k, ⟨h1, h2⟩, i + 1, o, h, hne => by
    have := opsOK8_at h2 i o (by simpa using h) (by omega)
    rwa [show k + 1 + i = k + (i + 1) by omega] at this
theorem opsOK8_at0 {P : Program} {ops : Array Oper} {n : Nat} {L : List (Nat × Value)} {I2 : World → Prop} {R1 R2 : Nat → Value → World → Prop} {l0 : List Oper} {K mu : Nat} {l : List Oper} (h : OpsOK8 P ops n L I2 R1 R2 l0 K mu 0 l) (i : Nat) (o : Oper) (ho : l[i]? = some o) (hne : i ≠ mu)
    (w' : World) (hw : I2 w') : AllF R2 w' (slotsD l0 K i o) fun M => OpOK P ops n (M ++ L) o w' (R1 (o.dst.getD 0)) := by
  have := opsOK8_at h i o ho (by rw [Nat.zero_add]; exact hne) w' hw
  rwa [Nat.zero_add] at this
/-- the change: it yields a value, in a world, so -/
def MuOK (P : Program) (ops : Array Oper) (n : Nat) (L : List (Nat × Value)) (o : Oper) (w : World) (post : Value → World → Prop) : Prop :=
  Region.wanted o (yielded ops (mkT n L)) = true ∧ ((∃ v w', (execOp (ev n L) o).run P w = .ok (.value v) w' ∧ post v w') ∨ (∃ f l, (execOp (ev n L) o).run P w = .ok (.enter f (List.toArray l)) w ∧ Rt P f l w post))
def MuAt (P : Program) (ops : Array Oper) (n : Nat) (L : List (Nat × Value)) (I1 I2 : World → Prop) (R1 R2 : Nat → Value → World → Prop) (l0 : List Oper) (K mu : Nat) : Option Oper → Prop
  | none => True
  | some o => ∀ w', I1 w' → AllF R1 w' (slotsD l0 K mu o) fun M => MuOK P ops n (M ++ L) o w' fun v w'' => I2 w'' ∧ R2 (o.dst.getD 0) v w'' ∧ ∀ t u, t ≠ o.dst.getD 0 → R1 t u w' → R2 t u w''
def isLateD (l : List Oper) (K j : Nat) : Bool := (List.range l.length).any fun i => decide (K ≤ i) && (match l[i]? with | some o => !dep2 l o j | none => false)
def lateD (l : List Oper) (K : Nat) : Bool :=
  (List.range K).all fun j => !isLateD l K j || match l[j]? with
    | none => false
    | some o => lateK o.op && o.guard.isNone && o.dst.isSome && (List.range l.length).all fun i => i == j || match l[i]? with
      | none => false
      | some y => (if i < K then !isLateD l K i else dep2 l y j) || o.apart l.toArray y
/-- the region's shape -/
def monoD (l : List Oper) (K : Nat) : Bool :=
  let ops := l.toArray
  let dst (i : Nat) : Option Nat := (l[i]?).bind (·.dst)
  (decide (K ≤ l.length) &&
  (List.range l.length).all fun i => match l[i]? with
    | none => false
    | some o =>
      (o.after.toList.all fun e => !Region.binds .any e || decide (e.on < i)) && !isSelect o.op &&
      (if i < K then
        (match o.dst with
         | none => false
         | some d => (List.range K).all (fun j => j == i || dst j != some d) && !((o.looksAt ops).elem d)) &&
        (List.range K).all (fun j => match dst j with
          | none => false
          | some d => !(o.looksAt ops).elem d || oldD l K i d || (decide (j < i) && dep2 l o j))
       else (List.range i).all (fun j => dep2 l o j || decide (j < K)))) && lateD l K

section late
variable {P : Program} {Q : Exit → Act → World → Prop} {n : Nat} {L : List (Nat × Value)} {w : World} {l : List Oper} {K : Nat} {R : Nat → Value → World → Prop}
theorem late_specD (hc : lateD l K = true) {j : Nat} {o : Oper} (hj : j < K) (ho : l[j]? = some o) (hl : isLateD l K j = true) :
    lateK o.op = true ∧ o.guard = none ∧ ∀ i y, l[i]? = some y → i ≠ j → ((i < K ∧ isLateD l K i = true) ∨ (K ≤ i ∧ dep2 l y j = false)) → o.apart l.toArray y = true := by
  have h := List.all_eq_true.1 hc j (List.mem_range.2 hj)
  rw [hl, ho] at h
  simp only [Bool.not_true, Bool.false_or, Bool.and_eq_true] at h
  refine ⟨h.1.1.1, by simpa using h.1.1.2, fun i y hi hne hcase => ?_⟩
  have h2 := List.all_eq_true.1 h.2 i (List.mem_range.2 (List.getElem?_eq_some_iff.1 hi).1)
  rw [hi] at h2
  simp only [beq_iff_eq, hne, Bool.or_eq_true, false_or] at h2
  rcases hcase with ⟨h3, h4⟩ | ⟨h3, h4⟩
  · simp [h3, h4] at h2
    exact h2
  · simp [show ¬ i < K by omega, h4] at h2
    exact h2
theorem nonlate_edgeD {i j : Nat} {o : Oper} (hl : isLateD l K j = false) (ho : l[i]? = some o) (hi : K ≤ i) : dep2 l o j = true := by
  unfold isLateD at hl
  have := List.any_eq_false.1 hl i (List.mem_range.2 (List.getElem?_eq_some_iff.1 ho).1)
  rw [ho] at this
  simpa [hi] using this
/-- behind the head: one order, but for the late ones -/
theorem tail_lateD (hQ : PQ Q) (hc : monoD l K = true) {f : Nat → Value} : ∀ (m k : Nat) (listed : Array Bool) (U : List Nat) (a : Act) (w' : World), ClosedD l listed → listed.toList.count false = m → listed.size = l.length → K ≤ k → k ≤ l.length →
    (∀ j, K ≤ j → j < l.length → listed.getD j true = decide (j < k)) → U.Nodup → (∀ j, j < K → (listed.getD j true = false ↔ j ∈ U)) → (∀ j ∈ U, j < K ∧ isLateD l K j = true ∧ ∃ o, l[j]? = some o ∧ Yields P l.toArray o (f j) a) →
    wpList P l.toArray Q (l.drop k) (pend l f U a) w' → wpAny P .any l.toArray Q m listed a w' := by
  have hc1 := (Bool.and_eq_true_iff.1 hc).1
  have hlate := (Bool.and_eq_true_iff.1 hc).2
  have hKl : K ≤ l.length := of_decide_eq_true (Bool.and_eq_true_iff.1 hc1).1
  have hck := (List.all_eq_true.1 (Bool.and_eq_true_iff.1 hc1).2)
  intro m
  induction m with
  | zero =>
    intro k listed U a w' hcl hcount hs hK hkl htail hn hU hUl h
    have hall : ∀ j, j < l.length → listed.getD j true = true := by
      intro j hj
      have hm : listed[j]'(by omega) ∈ listed.toList := by simp
      cases hb : listed[j]'(by omega) with
      | true => simp [Array.getD, show j < listed.size by omega, hb]
      | false =>
        rw [hb] at hm
        exact absurd hcount (Nat.pos_iff_ne_zero.1 (List.count_pos_iff.2 hm))
    have hU0 : U = [] := by
      rw [List.eq_nil_iff_forall_not_mem]
      intro j hj
      have h1 := (hU j (hUl j hj).1).2 hj
      rw [hall j (by have := (hUl j hj).1; omega)] at h1
      cases h1
    have hke : k = l.length := by
      rcases Nat.lt_or_ge k l.length with hlt | hge
      · have h1 := htail k hK hlt
        rw [hall k hlt] at h1
        simp at h1
      · omega
    subst hU0 hke
    refine ⟨?_, by simpa [pend, wpList] using h⟩
    rw [List.eq_nil_iff_forall_not_mem]
    intro j hj
    obtain ⟨h0, o, ho, _⟩ := mem_ready.1 hj
    rw [List.getElem?_toArray] at ho
    rw [hall j (List.getElem?_eq_some_iff.1 ho).1] at h0
    cases h0
  | succ m ih =>
    intro k listed U a w' hcl hcount hs hK hkl htail hn hU hUl h
    have hex : ∃ i, i < l.length ∧ listed.getD i true = false := by
      obtain ⟨i, hi, hb⟩ := List.mem_iff_getElem.1 (List.count_pos_iff.1 (by rw [hcount]; omega : 0 < listed.toList.count false))
      have hi' : i < listed.size := by simpa using hi
      exact ⟨i, by omega, by simpa [Array.getD, hi'] using hb⟩
    obtain ⟨i0, hi0, hmin⟩ := exists_least hex
    have hready : i0 ∈ Region.ready .any l.toArray listed := by
      refine mem_ready.2 ⟨hi0.2, l[i0]'hi0.1, by rw [List.getElem?_toArray, List.getElem?_eq_getElem hi0.1], fun e he hb => ?_⟩
      have hx := hck i0 (List.mem_range.2 hi0.1)
      rw [List.getElem?_eq_getElem hi0.1] at hx
      simp only [Bool.and_eq_true] at hx
      have he2 := List.all_eq_true.1 hx.1.1 e (by simpa using he)
      rw [hb] at he2
      simp at he2
      rw [← getD_true_false (by omega)]
      cases hb2 : listed.getD e.on true with
      | true => rfl
      | false => exact absurd (hmin e.on ⟨by omega, hb2⟩) (by omega)
    refine ⟨fun h0 => (by rw [h0] at hready; cases hready), fun i hi => ?_⟩
    obtain ⟨h0, o, ho, hall⟩ := mem_ready.1 hi
    rw [List.getElem?_toArray] at ho
    have hil : i < l.length := (List.getElem?_eq_some_iff.1 ho).1
    have hx := hck i (List.mem_range.2 hil)
    rw [ho] at hx
    simp only [Bool.and_eq_true] at hx
    have hsel : isSelect o.op = false := by simpa using hx.1.2
    have hcnt : (listed.setIfInBounds i true).toList.count false = m := by
      have hil' : i < listed.size := by omega
      have hfalse : listed.toList[i]? = some false := by
        rw [Array.getElem?_toList, Array.getElem?_eq_getElem hil']
        simp [Array.getD, hil'] at h0
        rw [h0]
      rw [Array.toList_setIfInBounds]
      have := count_set_true (l := listed.toList) (i := i) hfalse
      omega
    by_cases hiK : i < K
    · -- a late one
      have hiU := (hU i hiK).1 h0
      obtain ⟨_, hil8, o', ho', hy⟩ := hUl i hiU
      rw [ho] at ho'
      cases ho'
      obtain ⟨_, _, hap⟩ := late_specD hlate hiK ho hil8
      refine Yields.wpOp (by rw [List.getElem?_toArray]; exact ho) hy ?_
      have he : a.put o.dst (f i) = a.put ((l[i]?).bind (·.dst)) (f i) := by rw [ho]; rfl
      refine ih k _ (U.erase i) _ w' (closed_set hcl ho hall) hcnt (by simpa using hs) hK hkl (fun j h1 h2 => by rw [getD_set_ne true (by omega)]; exact htail j h1 h2) (hn.erase i) (fun j hj => ?_) (fun j hj => ?_) ?_
      · by_cases e : i = j
        · subst e
          simp [hs, hil, hn.not_mem_erase]
        · rw [getD_set_ne true e, hU j hj]
          exact (List.mem_erase_of_ne (Ne.symm e)).symm
      · have hjU := List.mem_of_mem_erase hj
        obtain ⟨h1, h2, oj, h3, h4⟩ := hUl j hjU
        have hne : i ≠ j := fun e => by subst e; exact (hn.not_mem_erase) hj
        obtain ⟨_, _, hapj⟩ := late_specD hlate h1 h3 h2
        have hxj := hck j (List.mem_range.2 (by omega))
        rw [h3] at hxj
        simp only [Bool.and_eq_true] at hxj
        exact ⟨h1, h2, oj, h3, (yields_put (by simpa using hxj.1.2) (hapj i o ho hne (.inl ⟨hiK, hil8⟩))).2 h4⟩
      · rw [he, pend_erase U a hiU hn (fun j hj hne d hd => ?_)]
        · exact h
        · obtain ⟨h1, h2, oj, h3, h4⟩ := hUl j hj
          have h5 := (Oper.apart_spec (hap j oj h3 hne (.inl ⟨h1, h2⟩))).2.1 d (by rw [ho] at hd; exact hd)
          rw [h3]
          exact h5
    · -- the next of the tail
      have hik : i = k := by
        rw [htail i (by omega) hil] at h0
        have h0' : k ≤ i := by simpa using h0
        rcases Nat.eq_or_lt_of_le h0' with e | hlt
        · exact e.symm
        · exfalso
          have h3 := hx.2
          rw [if_neg hiK] at h3
          have h4 := List.all_eq_true.1 h3 k (List.mem_range.2 hlt)
          simp only [show ¬ k < K by omega, decide_false, Bool.or_false] at h4
          have h5 := dep_listed hcl hall h4
          rw [← getD_true_false (by omega), htail k hK (by omega)] at h5
          simp at h5
      subst hik
      have hdrop : l.drop i = o :: l.drop (i + 1) := by
        rw [List.drop_eq_getElem_cons hil]
        rw [List.getElem?_eq_getElem hil] at ho
        cases ho
        rfl
      rw [hdrop] at h
      have hk2 : wpOp P l.toArray Q i (wpList P l.toArray Q (l.drop (i + 1))) (pend l f U a) w' := by
        unfold wpOp
        rw [List.getElem?_toArray, ho]
        exact h
      have hne : ∀ j ∈ U, j ≠ i := fun j hj e => by have := (hUl j hj).1; omega
      have hk3 := wpOp_pend hQ ho hsel U _ a hn (fun j hj => by
        obtain ⟨h1, h2, oj, h3, h4⟩ := hUl j hj
        obtain ⟨_, _, hapj⟩ := late_specD hlate h1 h3 h2
        have hxj := hck j (List.mem_range.2 (by omega))
        rw [h3] at hxj
        simp only [Bool.and_eq_true] at hxj
        refine ⟨oj, h3, by simpa using hxj.1.2, hapj i o ho (Ne.symm (hne j hj)) (.inr ⟨by omega, ?_⟩), h4, fun j' hj' hne' => ?_⟩
        · cases hE : dep2 l o j with
          | false => rfl
          | true =>
            have h5 := dep_listed hcl hall hE
            rw [← getD_true_false (by omega), (hU j h1).2 hj] at h5
            cases h5
        · obtain ⟨h1', h2', oj', h3', _⟩ := hUl j' hj'
          exact ⟨oj', h3', hapj j' oj' h3' hne' (.inl ⟨h1', h2'⟩)⟩) hk2
      refine wpOp_mono (fun a' w'' hh => ?_) hk3
      refine ih (i + 1) _ U a' w'' (closed_set hcl ho hall) hcnt (by simpa using hs) (by omega) (by omega) (fun j h1 h2 => ?_) hn (fun j hj => ?_) (fun j hj => ?_) hh.2
      · by_cases e : i = j
        · subst e
          simp [hs, hil]
        · rw [getD_set_ne true e, htail j h1 h2]
          have : (j < i + 1) ↔ (j < i) := by omega
          simp [this]
      · rw [getD_set_ne true (by omega)]
        exact hU j hj
      · obtain ⟨h1, h2, oj, h3, _⟩ := hUl j hj
        exact ⟨h1, h2, oj, h3, hh.1 j hj oj h3⟩
end late
section late
variable {P : Program} {Q : Exit → Act → World → Prop} {n : Nat} {L : List (Nat × Value)} {w : World} {l : List Oper} {K mu : Nat} {I1 I2 : World → Prop} {R1 R : Nat → Value → World → Prop}
theorem uniqD (hc : monoD l K = true) {j j' : Nat} {oj oj' : Oper} {t : Nat} (hj : j < K) (hj' : j' < K) (hoj : l[j]? = some oj) (hoj' : l[j']? = some oj') (hd : oj.dst = some t) (hd' : oj'.dst = some t) : j = j' := by
  have hc1 := (Bool.and_eq_true_iff.1 hc).1
  have hck := (List.all_eq_true.1 (Bool.and_eq_true_iff.1 hc1).2)
  have hx := hck j' (List.mem_range.2 (List.getElem?_eq_some_iff.1 hoj').1)
  rw [hoj'] at hx
  simp only [Bool.and_eq_true] at hx
  have h3 := hx.2
  rw [if_pos hj'] at h3
  simp only [Bool.and_eq_true] at h3
  have h3a := h3.1
  rw [hd'] at h3a
  simp only [Bool.and_eq_true] at h3a
  have h5 := List.all_eq_true.1 h3a.1 j (List.mem_range.2 hj)
  rw [hoj] at h5
  simpa [hd] using h5
theorem oldD_spec {i t : Nat} (h : oldD l K i t = true) : ∃ j oj, j < K ∧ l[j]? = some oj ∧ oj.dst = some t ∧ dep2 l oj i = true := by
  obtain ⟨j, hj, h2⟩ := List.any_eq_true.1 h
  cases hoj : l[j]? with
  | none => rw [hoj] at h2; cases h2
  | some oj =>
    rw [hoj] at h2
    simp only [Bool.and_eq_true, beq_iff_eq] at h2
    exact ⟨j, oj, List.mem_range.1 hj, hoj, h2.1, h2.2⟩
theorem slotsD_spec (hc : monoD l K = true) {i t : Nat} {o : Oper} (hi : i < K) (ho : l[i]? = some o) (ht : t ∈ slotsD l K i o) : (o.looksAt l.toArray).elem t = true ∧ ∃ j oj, j < K ∧ l[j]? = some oj ∧ oj.dst = some t ∧ j < i ∧ dep2 l o j = true := by
  obtain ⟨ht1, ht2⟩ := List.mem_filter.1 ht
  simp only [Bool.and_eq_true, Bool.not_eq_true'] at ht2
  obtain ⟨oj, hoj, hdj⟩ := List.mem_filterMap.1 ht1
  obtain ⟨j, hj⟩ := List.mem_iff_getElem?.1 hoj
  rw [List.getElem?_take] at hj
  split at hj
  · rename_i hjK
    refine ⟨ht2.1, j, oj, hjK, hj, hdj, ?_⟩
    have hc1 := (Bool.and_eq_true_iff.1 hc).1
    have hck := (List.all_eq_true.1 (Bool.and_eq_true_iff.1 hc1).2)
    have hx := hck i (List.mem_range.2 (List.getElem?_eq_some_iff.1 ho).1)
    rw [ho] at hx
    simp only [Bool.and_eq_true] at hx
    have h3 := hx.2
    rw [if_pos hi] at h3
    simp only [Bool.and_eq_true] at h3
    have h5 := List.all_eq_true.1 h3.2 j (List.mem_range.2 hjK)
    rw [hj] at h5
    have h6 : t ∈ o.looksAt l.toArray := by simpa using ht2.1
    simpa [hdj, h6, ht2.2] using h5
  · cases hj
theorem looksD (hc : monoD l K = true) {listed : Array Bool} (hcl : ClosedD l listed) (hs : listed.size = l.length) {i : Nat} {o : Oper} (_ho : l[i]? = some o) (hil : i < l.length) (h0 : listed.getD i true = false) {L' : List (Nat × Value)}
    (hfr : ∀ t, (∀ i o, i < K → l[i]? = some o → listed.getD i true = true → o.dst ≠ some t) → look L' t = look L t) : ∀ t, (o.looksAt l.toArray).elem t = true → look ((slotsD l K i o).map (fun d => (d, look L' d)) ++ L) t = look L' t := by
  intro t ht
  rw [look_map]
  split
  · rfl
  · rename_i hne
    refine (hfr t fun j oj hj hoj hlj hd => ?_).symm
    have hmem : t ∈ preOf l K := List.mem_filterMap.2 ⟨oj, List.mem_iff_getElem?.2 ⟨j, by rw [List.getElem?_take, if_pos hj]; exact hoj⟩, hd⟩
    cases hb : oldD l K i t with
    | false =>
      apply hne
      simp only [List.elem_eq_mem, decide_eq_true_eq]
      exact List.mem_filter.2 ⟨hmem, by rw [ht, hb]; rfl⟩
    | true =>
      obtain ⟨j', oj', hj', hoj', hd', hdep⟩ := oldD_spec hb
      have hjj := uniqD hc hj hj' hoj hoj' hd hd'
      subst hjj
      rw [hoj] at hoj'
      cases hoj'
      have hjl : j < l.length := (List.getElem?_eq_some_iff.1 hoj).1
      have h1 := dep_listed hcl (hcl j oj hoj (by rw [← getD_true_false (by omega)]; exact hlj)) hdep
      rw [← getD_true_false (by omega), h0] at h1
      cases h1
theorem late_fin8 (hQ : PQ Q) (hc : monoD l K = true) (hop : OpsOK8 P l.toArray n L I2 R1 R l K mu 0 (l.take K)) (h12 : ∀ t v w, R1 t v w → R t v w) (hmuL : mu < K → isLateD l K mu = false)
    (hend : ∀ w', I2 w' → AllF R w' (preOf l K) fun M => St P l.toArray Q (l.drop K) n (M ++ L) w') (m : Nat) (listed : Array Bool) (L' : List (Nat × Value)) (w' : World) (hcl : ClosedD l listed) (hcount : listed.toList.count false = m) (hs : listed.size = l.length)
    (htail : ∀ j, K ≤ j → j < l.length → listed.getD j true = false) (hF : I2 w')
    (hfr : ∀ t, (∀ i o, i < K → l[i]? = some o → listed.getD i true = true → o.dst ≠ some t) → look L' t = look L t)
    (hR : ∀ i o d, i < K → l[i]? = some o → listed.getD i true = true → o.dst = some d → R d (look L' d) w') (hpre : ∀ i, i < K → listed.getD i true = false → isLateD l K i = true) : wpAny P .any l.toArray Q m listed (mkA n L') w' := by
  have hc1 := (Bool.and_eq_true_iff.1 hc).1
  have hlate := (Bool.and_eq_true_iff.1 hc).2
  have hKl : K ≤ l.length := of_decide_eq_true (Bool.and_eq_true_iff.1 hc1).1
  have hck := (List.all_eq_true.1 (Bool.and_eq_true_iff.1 hc1).2)
  -- what is known of an operation of the head
  have hhead : ∀ i, i < K → ∃ o d, l[i]? = some o ∧ o.dst = some d ∧ isSelect o.op = false ∧ (∀ j oj, j < K → j ≠ i → l[j]? = some oj → oj.dst ≠ some d) := by
    intro i hi
    have hil : i < l.length := by omega
    have hx := hck i (List.mem_range.2 hil)
    rw [List.getElem?_eq_getElem hil] at hx
    simp only [Bool.and_eq_true] at hx
    have h3 := hx.2
    rw [if_pos hi] at h3
    simp only [Bool.and_eq_true] at h3
    obtain ⟨h3a, h3b⟩ := h3
    cases hod : (l[i]).dst with
    | none => rw [hod] at h3a; cases h3a
    | some d =>
      rw [hod] at h3a
      simp only [Bool.and_eq_true] at h3a
      refine ⟨l[i], d, List.getElem?_eq_getElem hil, hod, by simpa using hx.1.2, fun j oj hj hne hoj e => ?_⟩
      have h5 := List.all_eq_true.1 h3a.1 j (List.mem_range.2 hj)
      rw [hoj] at h5
      simp [hne, e] at h5
  -- the values of those that are still to come
  have hval : ∀ i, i < K → listed.getD i true = false → ∃ v, ∀ o d, l[i]? = some o → o.dst = some d → Yields P l.toArray o v (mkA n L') ∧ R d v w' := by
    intro i hi hf
    have hil8 := hpre i hi hf
    obtain ⟨o, d, ho, hd, hsel, _⟩ := hhead i hi
    obtain ⟨hk, hg, hap⟩ := late_specD hlate hi ho hil8
    have hfact : ∀ t ∈ slotsD l K i o, R t (look L' t) w' := by
      intro t ht
      obtain ⟨ht2, j, oj, hjK, hj, hdj, hji, _⟩ := slotsD_spec hc hi ho ht
      refine hR j oj t hjK hj ?_ hdj
      cases hb : listed.getD j true with
      | true => rfl
      | false =>
        have h6 := hpre j hjK hb
        have h7 := (Oper.apart_spec (hap j oj hj (by omega) (.inl ⟨hjK, h6⟩))).2.2 t hdj
        exact absurd (by simpa using ht2) h7
    have hlooks := looksD (L := L) hc hcl hs ho (by omega) hf hfr
    have hok := allF_at (look L') _ hfact (opsOK8_at0 hop i o (by rw [List.getElem?_take, if_pos hi]; exact ho) (by intro e; rw [e, hmuL (by omega)] at hil8; cases hil8) w' hF)
    obtain ⟨hE, hW⟩ := looksAt_agree (n := n) (ops := l.toArray) (o := o) hsel hlooks
    rw [hd] at hok
    simp only [Option.getD_some] at hok
    have hyl : ∃ v, Yields P l.toArray o v (mkA n L') ∧ R d v w' := by
      unfold OpOK at hok
      rw [hE, hW] at hok
      rcases hok with ⟨hw, ⟨v, w'', hr, hF', hRv⟩ | ⟨f, args, hr, hcall⟩⟩ | ⟨hw, hRv⟩
      · obtain ⟨rfl, hall⟩ := late_run hk hr
        refine ⟨v, .inl ⟨hw, fun w2 => ?_⟩, h12 _ _ _ hRv⟩
        rw [eval_mkA]
        exact hall w2
      · exfalso
        obtain ⟨dst, op, ty, pos, after, guard⟩ := o
        cases op <;> simp only [lateK, Bool.false_eq_true] at hk <;> simp only [execOp, Sem.run_pure, Sem.run_bind, Result.ok.injEq] at hr
        · cases hr.1
        · cases hr.1
        · rename_i x i'
          cases hx : ev n L' x <;> simp only [hx, Instr.extract] at hr <;> (try (simp at hr; done))
          rename_i vs
          cases hv : vs[i']? <;> simp [hv] at hr
      · exact ⟨undef, .inr ⟨hw, rfl⟩, h12 _ _ _ hRv⟩
    obtain ⟨v, hv1, hv2⟩ := hyl
    refine ⟨v, fun o' d' ho' hd' => ?_⟩
    rw [ho] at ho'
    cases ho'
    rw [hd] at hd'
    cases hd'
    exact ⟨hv1, hv2⟩
  obtain ⟨f, hf⟩ : ∃ f : Nat → Value, ∀ i, i < K → listed.getD i true = false → ∀ o d, l[i]? = some o → o.dst = some d → Yields P l.toArray o (f i) (mkA n L') ∧ R d (f i) w' := by
    refine ⟨fun i => open Classical in if h : ∃ v, ∀ o d, l[i]? = some o → o.dst = some d → Yields P l.toArray o v (mkA n L') ∧ R d v w' then h.choose else undef, fun i hi hl => ?_⟩
    have h := hval i hi hl
    simp only [dif_pos h]
    exact h.choose_spec
  have hUm : ∀ i, i ∈ (List.range K).filter (fun i => !listed.getD i true) ↔ i < K ∧ listed.getD i true = false := fun i => by
    rw [List.mem_filter, List.mem_range]
    simp
  obtain ⟨U, hU, hUn⟩ : ∃ U : List Nat, (∀ i, i ∈ U ↔ i < K ∧ listed.getD i true = false) ∧ U.Nodup := ⟨_, hUm, List.nodup_range.sublist (List.filter_sublist ..)⟩
  have hbind : ∀ {i : Nat} {o : Oper}, l[i]? = some o → (l[i]?).bind (·.dst) = o.dst := fun h => by rw [h]; rfl
  -- the frame with all of them
  have hRall : ∀ d ∈ preOf l K, R d (look ((U.filterMap fun i => ((l[i]?).bind (·.dst)).map fun d => (d, f i)) ++ L') d) w' := by
    intro d hd
    obtain ⟨o, ho, hod⟩ := List.mem_filterMap.1 hd
    obtain ⟨i, hi⟩ := List.mem_iff_getElem?.1 ho
    rw [List.getElem?_take] at hi
    split at hi
    · rename_i hiK
      obtain ⟨o', d', ho', hd', _, hdist⟩ := hhead i hiK
      rw [hi] at ho'
      cases ho'
      rw [hod] at hd'
      cases hd'
      have hne : ∀ j ∈ U, j ≠ i → (l[j]?).bind (·.dst) ≠ some d := fun j hj hji => by
        have hjK := ((hU j).1 hj).1
        obtain ⟨oj, dj, hoj, _⟩ := hhead j hjK
        rw [hbind hoj]
        exact hdist j oj hjK hji hoj
      cases hb : listed.getD i true with
      | true =>
        rw [look_pend U fun j hj => hne j hj (fun e => by subst e; have := ((hU j).1 hj).2; rw [hb] at this; cases this)]
        exact hR i o d hiK hi hb hod
      | false =>
        rw [look_pend_at U ((hU i).2 ⟨hiK, hb⟩) ((hbind hi).trans hod) hne]
        exact (hf i hiK hb o d hi hod).2
    · cases hi
  have he := allF_at _ (preOf l K) hRall (hend w' hF)
  have hL : mkA n ((preOf l K).map (fun d => (d, look ((U.filterMap fun i => ((l[i]?).bind (·.dst)).map fun d => (d, f i)) ++ L') d)) ++ L) = pend l f U (mkA n L') := by
    rw [pend_mkA]
    refine mkA_congr fun t _ => ?_
    rw [look_map]
    split
    · rfl
    · rename_i hne
      have hnd : ∀ i, i < K → ∀ o, l[i]? = some o → o.dst ≠ some t := fun i hi o ho hod => hne (by
        simp only [List.elem_eq_mem, decide_eq_true_eq]
        exact List.mem_filterMap.2 ⟨o, List.mem_iff_getElem?.2 ⟨i, by rw [List.getElem?_take, if_pos hi]; exact ho⟩, hod⟩)
      rw [look_pend U fun j hj => by
        have hjK := ((hU j).1 hj).1
        obtain ⟨oj, dj, hoj, _⟩ := hhead j hjK
        rw [hbind hoj]
        exact hnd j hjK oj hoj]
      exact (hfr t fun i o hi ho _ hod => hnd i hi o ho hod).symm
  replace he := he.out
  rw [hL] at he
  refine tail_lateD hQ hc m K listed U _ w' hcl hcount hs (Nat.le_refl _) hKl (fun j h1 h2 => by rw [htail j h1 h2]; simp [h1]) hUn (fun j hj => ⟨fun h => (hU j).2 ⟨hj, h⟩, fun h => ((hU j).1 h).2⟩) (fun j hj => ?_) he
  obtain ⟨h1, h2⟩ := (hU j).1 hj
  obtain ⟨oj, dj, hoj, hdj, _⟩ := hhead j h1
  exact ⟨h1, hpre j h1 h2, oj, hoj, (hf j h1 h2 oj dj hoj hdj).1⟩
theorem mono_mu (hQ : PQ Q) (hc : monoD l K = true) (hm1 : ∀ w1 w2, From w1 w2 → I1 w1 → I1 w2) (hm2 : ∀ w1 w2, From w1 w2 → I2 w1 → I2 w2) (hmono1 : ∀ t v w1 w2, From w1 w2 → R1 t v w1 → R1 t v w2) (hmono : ∀ t v w1 w2, From w1 w2 → R t v w1 → R t v w2)
    (hop : OpsOK8 P l.toArray n L I2 R1 R l K mu 0 (l.take K)) (h12 : ∀ t v w, R1 t v w → R t v w) (hmuL : mu < K → isLateD l K mu = false) (hmu : MuAt P l.toArray n L I1 I2 R1 R l K mu l[mu]?)
    (hend : ∀ w', I2 w' → AllF R w' (preOf l K) fun M => St P l.toArray Q (l.drop K) n (M ++ L) w') :
    ∀ (m : Nat) (listed : Array Bool) (L' : List (Nat × Value)) (w' : World), ClosedD l listed → listed.toList.count false = m → listed.size = l.length → (∀ j, K ≤ j → j < l.length → listed.getD j true = false) → I2 w' → (listed.getD mu true = false → I1 w') →
      (∀ t, (∀ i o, i < K → l[i]? = some o → listed.getD i true = true → o.dst ≠ some t) → look L' t = look L t) →
      (∀ i o d, i < K → l[i]? = some o → listed.getD i true = true → o.dst = some d → R d (look L' d) w') → (listed.getD mu true = false → ∀ i o d, i < K → l[i]? = some o → listed.getD i true = true → o.dst = some d → R1 d (look L' d) w') → wpAny P .any l.toArray Q m listed (mkA n L') w' := by
  have hc1 := (Bool.and_eq_true_iff.1 hc).1
  have hlate := (Bool.and_eq_true_iff.1 hc).2
  have hKl : K ≤ l.length := of_decide_eq_true (Bool.and_eq_true_iff.1 hc1).1
  have hck := (List.all_eq_true.1 (Bool.and_eq_true_iff.1 hc1).2)
  intro m
  induction m with
  | zero =>
    intro listed L' w' hcl hcount hs htail hF hF1 hfr hR hR1
    exact late_fin8 hQ hc hop h12 hmuL hend 0 listed L' w' hcl hcount hs htail hF hfr hR (fun i hi h => by
      have hm : listed[i]'(by omega) ∈ listed.toList := by simp
      have hb : listed[i]'(by omega) = false := by simpa [Array.getD, show i < listed.size by omega] using h
      rw [hb] at hm
      exact absurd hcount (Nat.pos_iff_ne_zero.1 (List.count_pos_iff.2 hm)))
  | succ m ih =>
    intro listed L' w' hcl hcount hs htail hF hF1 hfr hR hR1
    by_cases hpre : ∀ i, i < K → listed.getD i true = false → isLateD l K i = true
    · exact late_fin8 hQ hc hop h12 hmuL hend (m + 1) listed L' w' hcl hcount hs htail hF hfr hR hpre
    · -- some operation of the head is still to come
      have hn0 : ∃ i, i < K ∧ listed.getD i true = false ∧ isLateD l K i = false := by
        refine Classical.byContradiction fun hno => hpre fun i hi hf => ?_
        cases hb : isLateD l K i with
        | true => rfl
        | false => exact absurd ⟨i, hi, hf, hb⟩ hno
      obtain ⟨n0, hn0⟩ := hn0
      obtain ⟨i0, hi0, hmin⟩ := exists_least (p := fun i => i < K ∧ listed.getD i true = false) ⟨n0, hn0.1, hn0.2.1⟩
      have hi0l : i0 < l.length := by omega
      have hready : i0 ∈ Region.ready .any l.toArray listed := by
        refine mem_ready.2 ⟨hi0.2, l[i0], by rw [List.getElem?_toArray, List.getElem?_eq_getElem hi0l], fun e he hb => ?_⟩
        have hx := hck i0 (List.mem_range.2 hi0l)
        rw [List.getElem?_eq_getElem hi0l] at hx
        simp only [Bool.and_eq_true] at hx
        have he2 := List.all_eq_true.1 hx.1.1 e (by simpa using he)
        rw [hb] at he2
        simp at he2
        rw [← getD_true_false (by omega)]
        cases hb2 : listed.getD e.on true with
        | true => rfl
        | false => exact absurd (hmin e.on ⟨by omega, hb2⟩) (by omega)
      refine ⟨fun h0 => (by rw [h0] at hready; cases hready), fun i hi => ?_⟩
      obtain ⟨h0, o, ho, hall⟩ := mem_ready.1 hi
      rw [List.getElem?_toArray] at ho
      have hil : i < l.length := (List.getElem?_eq_some_iff.1 ho).1
      have hx := hck i (List.mem_range.2 hil)
      rw [ho] at hx
      simp only [Bool.and_eq_true] at hx
      have hiK : i < K := by
        rcases Nat.lt_or_ge i K with h | h
        · exact h
        · exfalso
          have h5 := dep_listed hcl hall (nonlate_edgeD hn0.2.2 ho h)
          rw [← getD_true_false (by omega), hn0.2.1] at h5
          cases h5
      have h3 := hx.2
      rw [if_pos hiK] at h3
      simp only [Bool.and_eq_true] at h3
      obtain ⟨h3a, h3b⟩ := h3
      cases hod : o.dst with
      | none => rw [hod] at h3a; cases h3a
      | some d =>
        rw [hod] at h3a
        simp only [Bool.and_eq_true] at h3a
        have hlooks := looksD (L := L) hc hcl hs ho hil h0 hfr
        have hfactG : ∀ (RR : Nat → Value → World → Prop), (∀ i o d, i < K → l[i]? = some o → listed.getD i true = true → o.dst = some d → RR d (look L' d) w') → ∀ t ∈ slotsD l K i o, RR t (look L' t) w' := by
          intro RR hRR t ht
          obtain ⟨_, j, oj, hjK, hj, hd, _, hdep⟩ := slotsD_spec hc hiK ho ht
          have h6 := dep_listed hcl hall hdep
          exact hRR j oj t hjK hj (by rw [getD_true_false (by omega)]; exact h6) hd
        have hsel : isSelect o.op = false := by simpa using hx.1.2
        obtain ⟨hE, hW⟩ := looksAt_agree (n := n) (ops := l.toArray) (o := o) hsel hlooks
        have next : ∀ v w'', I2 w'' → (i ≠ mu → listed.getD mu true = false → I1 w'') → R d v w'' → (i ≠ mu → R1 d v w'') → (∀ t u, t ≠ d → R t u w' → (i = mu → R1 t u w') → R t u w'') → (i ≠ mu → ∀ t u, R1 t u w' → R1 t u w'') → wpAny P .any l.toArray Q m (listed.setIfInBounds i true) ((mkA n L').put (some d) v) w'' := by
          intro v w'' hI2' hI1' hRv hR1v hst hst1
          rw [put_mkA]
          have hne : ∀ j oj d', j < K → l[j]? = some oj → j ≠ i → oj.dst = some d' → d' ≠ d := by
            intro j oj d' hj hoj hji hd e
            have h5 := List.all_eq_true.1 h3a.1 j (List.mem_range.2 hj)
            rw [hoj] at h5
            simp [hji, hd, e] at h5
          refine ih _ _ w'' (closed_set hcl ho hall) ?_ (by simpa using hs) (fun j hj1 hj2 => ?_) hI2' (fun hml => ?_) (fun t ht => ?_) (fun j oj d' hj hoj hlj hd => ?_) (fun hml j oj d' hj hoj hlj hd => ?_)
          · have hil' : i < listed.size := by omega
            have hfalse : listed.toList[i]? = some false := by
              rw [Array.getElem?_toList, Array.getElem?_eq_getElem hil']
              simp [Array.getD, hil'] at h0
              rw [h0]
            rw [Array.toList_setIfInBounds]
            have := count_set_true (l := listed.toList) (i := i) hfalse
            omega
          · rw [getD_set_ne true (by omega)]
            exact htail j hj1 hj2
          · have him : i ≠ mu := fun e => by subst e; simp [show i < listed.size by omega] at hml
            rw [getD_set_ne true him] at hml
            exact hI1' him hml
          · have htd : t ≠ d := fun e => ht i o hiK ho (by simp [show i < listed.size by omega]) (by rw [hod, e])
            rw [look_cons, if_neg htd]
            refine hfr t fun j oj hj hoj hlj => ht j oj hj hoj ?_
            by_cases e : i = j
            · subst e; rw [h0] at hlj; cases hlj
            · rw [getD_set_ne true e]; exact hlj
          · rw [look_cons]
            by_cases e : j = i
            · subst e
              rw [ho] at hoj
              cases hoj
              rw [hod] at hd
              cases hd
              rw [if_pos rfl]
              exact hRv
            · have hdd := hne j oj d' hj hoj e hd
              rw [if_neg hdd]
              rw [getD_set_ne true (Ne.symm e)] at hlj
              refine hst _ _ hdd (hR j oj d' hj hoj hlj hd) (fun e2 => ?_)
              subst e2
              exact hR1 h0 j oj d' hj hoj hlj hd
          · have him : i ≠ mu := fun e => by subst e; simp [show i < listed.size by omega] at hml
            rw [getD_set_ne true him] at hml
            rw [look_cons]
            by_cases e : j = i
            · subst e
              rw [ho] at hoj
              cases hoj
              rw [hod] at hd
              cases hd
              rw [if_pos rfl]
              exact hR1v him
            · rw [if_neg (hne j oj d' hj hoj e hd)]
              rw [getD_set_ne true (Ne.symm e)] at hlj
              exact hst1 him _ _ (hR1 hml j oj d' hj hoj hlj hd)
        unfold wpOp
        rw [List.getElem?_toArray, ho]
        show if Region.wanted o (yielded l.toArray (mkT n L')) = true then _ else _
        by_cases him : i = mu
        · subst him
          rw [ho] at hmu
          have hok := allF_at (look L') _ (hfactG R1 (hR1 h0)) (hmu w' (hF1 h0))
          rw [hod] at hok
          simp only [Option.getD_some] at hok
          unfold MuOK at hok
          rw [hE, hW] at hok
          obtain ⟨hw, ⟨v, w'', hr, hI, hRv, hst⟩ | ⟨f, args, hr, hcall⟩⟩ := hok
          · rw [if_pos hw]
            refine .inl ?_
            unfold Oper.wp
            rw [eval_mkA, hr, Oper.upon_value, hod]
            exact next v w'' hI (fun h => absurd rfl h) hRv (fun h => absurd rfl h) (fun t u ht _ h1 => hst t u ht (h1 rfl)) (fun h => absurd rfl h)
          · rw [if_pos hw]
            refine .inl ?_
            unfold Oper.wp
            rw [eval_mkA, hr, Oper.upon_enter, hod]
            refine Calls.mono hcall fun e w'' ⟨v, he, hI, hRv, hst⟩ => ?_
            subst he
            exact next v w'' hI (fun h => absurd rfl h) hRv (fun h => absurd rfl h) (fun t u ht _ h1 => hst t u ht (h1 rfl)) (fun h => absurd rfl h)
        · have hok := allF_at (look L') _ (hfactG R hR) (opsOK8_at0 hop i o (by rw [List.getElem?_take, if_pos hiK]; exact ho) him w' hF)
          rw [hod] at hok
          simp only [Option.getD_some] at hok
          unfold OpOK at hok
          rw [hE, hW] at hok
          have next' : ∀ v w'', From w' w'' → R1 d v w'' → wpAny P .any l.toArray Q m (listed.setIfInBounds i true) ((mkA n L').put (some d) v) w'' := fun v w'' hF' hRv =>
            next v w'' (hm2 _ _ hF' hF) (fun _ h => hm1 _ _ hF' (hF1 h)) (h12 _ _ _ hRv) (fun _ => hRv) (fun t u _ h _ => hmono _ _ _ _ hF' h) (fun _ t u h => hmono1 _ _ _ _ hF' h)
          rcases hok with ⟨hw, ⟨v, w'', hr, hF', hRv⟩ | ⟨f, args, hr, hcall⟩⟩ | ⟨hw, hRv⟩
          · rw [if_pos hw]
            refine .inl ?_
            unfold Oper.wp
            rw [eval_mkA, hr, Oper.upon_value, hod]
            exact next' v w'' hF' hRv
          · rw [if_pos hw]
            refine .inl ?_
            unfold Oper.wp
            rw [eval_mkA, hr, Oper.upon_enter, hod]
            refine Calls.mono hcall fun e w'' ⟨v, he, hF', hRv⟩ => ?_
            subst he
            exact next' v w'' hF' hRv
          · rw [if_neg (by rw [hw]; simp), hod]
            exact next' undef w' From.rfl_ hRv

/-- a region that draws its order, with one change -/
theorem cd_mu {id : Nat} (K mu : Nat) (Ex : List Nat) (RL : List (Nat × (Value → World → Prop))) (I1 I2 : World → Prop) (hQ : PQ Q) (hm : P.follows .mixedOrders = true) (hc : monoD l K = true) (hl : isLateD l K mu = false) (hmono : MonoR RL)
    (h0 : I1 { w with drawn := w.drawn + 1 }) (h0' : I2 { w with drawn := w.drawn + 1 }) (hm1 : ∀ w1 w2, From w1 w2 → I1 w1 → I1 w2) (hm2 : ∀ w1 w2, From w1 w2 → I2 w1 → I2 w2)
    (hop : OpsOK8 P l.toArray n L I2 (lookR RL) (lookE Ex RL) l K mu 0 (l.take K)) (hmu : MuAt P l.toArray n L I1 I2 (lookR RL) (lookE Ex RL) l K mu l[mu]?)
    (hend : ∀ w', I2 w' → AllF (lookE Ex RL) w' (preOf l K) fun M => St P l.toArray Q (l.drop K) n (M ++ L) w') : Cd P (.region id l.toArray true) Q n L w := by
  refine ⟨wp_region_any hm ?_⟩
  have hKl : K ≤ l.length := of_decide_eq_true (Bool.and_eq_true_iff.1 (Bool.and_eq_true_iff.1 hc).1).1
  have := mono_mu (Q := Q) hQ hc hm1 hm2 (lookR_mono hmono) (lookE_mono hmono) hop lookE_of (fun _ => hl) hmu hend l.length (Array.replicate l.length false) L { w with drawn := w.drawn + 1 } (closed_none l _) (by simp) (by simp)
    (fun j _ hj => by simp [Array.getD, hj]) h0' (fun _ => h0) (fun _ _ => rfl) (fun i o d hi _ hl => by
      have : i < l.length := by omega
      simp [Array.getD, this] at hl) (fun _ i o d hi _ hl => by
      have : i < l.length := by omega
      simp [Array.getD, this] at hl)
  simpa using this
/-- a region that draws its order, with late operations; what waits for one that waits for another waits for that other -/
theorem cd_drawnD {id : Nat} (K : Nat) (RL : List (Nat × (Value → World → Prop))) (hQ : PQ Q) (hm : P.follows .mixedOrders = true) (hc : monoD l K = true) (hmono : MonoR RL)
    (hop : OpsOK8 P l.toArray n L (From w) (lookR RL) (lookR RL) l K l.length 0 (l.take K)) (hend : ∀ w', From w w' → AllF (lookR RL) w' (preOf l K) fun M => St P l.toArray Q (l.drop K) n (M ++ L) w') : Cd P (.region id l.toArray true) Q n L w := by
  refine ⟨wp_region_any hm ?_⟩
  have hKl : K ≤ l.length := of_decide_eq_true (Bool.and_eq_true_iff.1 (Bool.and_eq_true_iff.1 hc).1).1
  have := mono_mu (Q := Q) (mu := l.length) (I1 := From w) (I2 := From w) (R1 := lookR RL) hQ hc (fun _ _ hF h => h.next hF) (fun _ _ hF h => h.next hF) (lookR_mono hmono) (lookR_mono hmono) hop (fun _ _ _ h => h) (fun h => absurd h (by omega)) (by simp [MuAt]) hend l.length (Array.replicate l.length false) L { w with drawn := w.drawn + 1 } (closed_none l _) (by simp) (by simp)
    (fun j _ hj => by simp [Array.getD, hj]) From.rfl_.d1 (fun _ => From.rfl_.d1) (fun _ _ => rfl) (fun i o d hi _ hl => by
      have : i < l.length := by omega
      simp [Array.getD, this] at hl) (fun _ i o d hi _ hl => by
      have : i < l.length := by omega
      simp [Array.getD, this] at hl)
  simpa using this
end late
section
variable {P : Program} {ρ : Operand → Value} {w : World} {t yt : TypeId} {x y : Operand}
theorem ro_addU {a b : Nat} (hx : ρ x = .int .u64 (a : Nat)) (hy : ρ y = .int .u64 (b : Nat)) (h : a + b < 2 ^ 64) : RO P ρ (.binOp .add t x y yt) w (.int .u64 ((a + b : Nat) : Int)) w := by
  have := ro_add (P := P) (ρ := ρ) (w := w) (t := t) (yt := yt) hx hy
  rwa [show IntKind.u64.wrap ((a : Nat) + (b : Nat) : Int) = ((a + b : Nat) : Int) by rw [IntKind.wrap_u64]; omega] at this
theorem ro_subU {a b : Nat} (hx : ρ x = .int .u64 (a : Nat)) (hy : ρ y = .int .u64 (b : Nat)) (h : b ≤ a ∧ a < 2 ^ 64) : RO P ρ (.binOp .sub t x y yt) w (.int .u64 ((a - b : Nat) : Int)) w := by
  have := ro_sub (P := P) (ρ := ρ) (w := w) (t := t) (yt := yt) hx hy
  rwa [show IntKind.u64.wrap ((a : Nat) - (b : Nat) : Int) = ((a - b : Nat) : Int) by rw [IntKind.wrap_u64]; omega] at this
theorem bits_i64 {a b : Nat} (ha : a < 2 ^ 63) (hb : b < 2 ^ 63) : bits .and .i64 (a : Int) (b : Int) = ((a &&& b : Nat) : Int) := by
  have e1 : (BitVec.ofInt 64 (a : Int)).toNat = a := by rw [BitVec.ofInt_natCast, BitVec.toNat_ofNat]; exact Nat.mod_eq_of_lt (by omega)
  have e2 : (BitVec.ofInt 64 (b : Int)).toNat = b := by rw [BitVec.ofInt_natCast, BitVec.toNat_ofNat]; exact Nat.mod_eq_of_lt (by omega)
  show IntKind.i64.wrap ((BitVec.ofInt 64 (a : Int) &&& BitVec.ofInt 64 (b : Int)).toNat : Int) = _
  have h : a &&& b < 2 ^ 63 := Nat.and_lt_two_pow _ hb
  rw [BitVec.toNat_and, e1, e2, IntKind.wrap_i64]; generalize a &&& b = c at *; omega
theorem ro_andI {a b : Nat} (hx : ρ x = .int .i64 (a : Nat)) (hy : ρ y = .int .i64 (b : Nat)) (h : a < 2 ^ 63 ∧ b < 2 ^ 63) : RO P ρ (.binOp .and t x y yt) w (.int .i64 ((a &&& b : Nat) : Int)) w := by
  have := ro_and (P := P) (ρ := ρ) (w := w) (t := t) (yt := yt) hx hy; rwa [bits_i64 h.1 h.2] at this
end
/-- an append onto a row of the call's own, run -/
theorem ro_appendB {P : Program} {ρ : Operand → Value} {w : World} {s x : Operand} {t base : Nat} {A A2 : Option Addr} {m j cap c2 e size by_ : Nat} {z : Value} {xs news : List Value} (hq : litQ P t = some (e, size, by_, z)) (hzs : z.cells.size = size) (hs0 : 0 < size)
    (hs : ρ s = .slice A m cap) (hown : w.ownsRow base e size (.slice A m cap) m xs) (hB : base ≤ w.heap.size)
    (hx : ρ x = .slice A2 j c2) (hl : news.length = j * size) (hsrc : ∃ b o, A2 = some ⟨b, o, none⟩ ∧ w.rangeAt b o news) (h1 : ∀ u ∈ news, u.oneCell' = true) (h63 : m + j ≤ 9223372036854775807) (hby : (m + j) * by_ ≤ 140737488355328) :
    ∃ A' cap' w', RO P ρ (.call { callee := .builtin .append, args := #[s, x], argTypes := #[t, t] }) w (.slice A' (m + j) cap') w' ∧ w'.ownsRow base e size (.slice A' (m + j) cap') (m + j) (xs ++ news) ∧ w.grownBy w' (A.map (·.block)) := by
  obtain ⟨i, hu, hi, hsz, hb, hz⟩ := lit_of hq
  obtain ⟨b, o, rfl, hr⟩ := hsrc
  have hobl : (Value.slice A m cap).ownBlock = A.map (·.block) := by cases A <;> rfl
  have key : ∀ ty, ∃ v' w', (Builtin.append_ #[t, t] ty #[.slice A m cap, .slice (some ⟨b, o, none⟩) j c2]).run P w = .ok v' w' ∧ w'.ownsRow base e size v' (m + j) (xs ++ news) ∧ w.grownBy w' (A.map (·.block)) := fun ty => by
    obtain ⟨v', w', h1, h2, h3, _⟩ := run_append_own (P := P) w base t ty e i z size by_ hu hi hz hsz hb hzs hs0 _ m xs hown ⟨b, o, none⟩ j c2 news hl (fun i u hu => by rw [Addr.add_mid]; exact hr i u hu) h1 (by unfold maxLen; omega) hby hB
    exact ⟨v', w', h1, h2, by rw [← hobl]; exact h3⟩
  obtain ⟨v', w', hrun, hown', hg⟩ := key 0
  obtain ⟨A', cap', rfl⟩ := own_form hown'
  refine ⟨A', cap', w', fun dst ty pos after g => ?_, hown', hg⟩
  have hty : (Builtin.append_ #[t, t] ty #[.slice A m cap, .slice (some ⟨b, o, none⟩) j c2]).run P w = (Builtin.append_ #[t, t] 0 #[.slice A m cap, .slice (some ⟨b, o, none⟩) j c2]).run P w := rfl
  unfold execOp
  simp only [resolve, invoke, builtin, Sem.run_bind, Sem.run_pure, Result.andThen_ok, List.map_toArray, List.map_cons, List.map_nil, hs, hx, hty, hrun]
end Go.Proofs.YtjliefglelcooaaDoor
namespace Go.Proofs.YtjliefglelcooaaDoor
open Go.RowKit
section
variable {P : Program} {ops : Array Oper} {n : Nat} {L : List (Nat × Value)} {w : World} {ty : TypeId} {pos : String} {after : Array Edge} {dst : Option Nat} {t : TypeId} {x s : Operand}
theorem ro_lit1 {ρ : Operand → Value} {e by_ : Nat} {z v : Value} (hq : litQ P t = some (e, 1, by_, z)) (hz : z.cells.size = 1) (hx : ρ x = v) (hv : v.cells = #[v]) : RO P ρ (.buildSlice t 1 #[(0, x)]) w (.slice (some ⟨w.heap.size, 0, none⟩) 1 1) (w.alloc (.cells #[v] e)) := by
  refine ro_lit (l := [(0, x)]) (cells := #[v]) hq rfl rfl ?_
  have e1 : (Array.range (1 * 1)).map (z.cells[· % z.cells.size]!) = #[z.cells[0]!] := by
    rw [show Array.range (1 * 1) = #[0] from rfl]
    simp
  rw [e1]
  simp [Instr.fill, hx, hv]
/-- an append, as the change of a region -/
theorem mu_append {post : Value → World → Prop} {base : Nat} {A A2 : Option Addr} {m j cap c2 e size by_ : Nat} {z : Value} {xs news : List Value} (hq : litQ P t = some (e, size, by_, z)) (hzs : z.cells.size = size) (hs0 : 0 < size)
    (hs : ev n L s = .slice A m cap) (hown : w.ownsRow base e size (.slice A m cap) m xs) (hB : base ≤ w.heap.size)
    (hx : ev n L x = .slice A2 j c2) (hl : news.length = j * size) (hsrc : ∃ b o, A2 = some ⟨b, o, none⟩ ∧ w.rangeAt b o news) (h1 : ∀ u ∈ news, u.oneCell' = true) (h63 : m + j ≤ 9223372036854775807) (hby : (m + j) * by_ ≤ 140737488355328)
    (k : ∀ A' cap' w', w'.ownsRow base e size (.slice A' (m + j) cap') (m + j) (xs ++ news) → w.grownBy w' (A.map (·.block)) → post (.slice A' (m + j) cap') w') :
    MuOK P ops n L ⟨dst, .call { callee := .builtin .append, args := #[s, x], argTypes := #[t, t] }, ty, pos, after, none⟩ w post := by
  obtain ⟨A', cap', w', hr, ho, hg⟩ := ro_appendB (P := P) (ρ := ev n L) hq hzs hs0 hs hown hB hx hl hsrc h1 h63 hby
  exact ⟨rfl, .inl ⟨_, w', hr _ _ _ _ _, k A' cap' w' ho hg⟩⟩
end
theorem own_at {w : World} {bs e s n c m : Nat} {A : Option Addr} {l : List Value} (h : w.ownsRow bs e s (.slice A n c) m l) : ∀ k, A.map (·.block) = some k → bs ≤ k ∧ k < w.heap.size := fun k hk => h.lt k (by rw [← hk]; cases A <;> rfl)
end Go.Proofs.YtjliefglelcooaaDoor

namespace Go.Proofs.YtjliefglelcooaaDoor
open Go.RowKit
section
variable {P : Program} {ops : Array Oper} {Q : Exit → Act → World → Prop} {rest : List Oper} {n : Nat} {L : List (Nat × Value)} {w : World} {ty : TypeId} {pos : String} {after : Array Edge} {d : Nat} {x : Operand}
theorem ro_makeFunc {ρ : Operand → Value} {f : FuncId} {l1 l2 : List Operand} : RO P ρ (.makeFunc (.func f) l1.toArray l2.toArray) w (.func (.func f) (l1.map ρ).toArray (l2.map ρ).toArray) w := fun _ _ _ _ _ => by
  simp [execOp, Instr.makeFunc]
theorem ro_mulU {ρ : Operand → Value} {t yt : TypeId} {y : Operand} {a b : Nat} (hx : ρ x = .int .u64 (a : Nat)) (hy : ρ y = .int .u64 (b : Nat)) : RO P ρ (.binOp .mul t x y yt) w (.int .u64 ((a * b % 2 ^ 64 : Nat) : Int)) w := by
  have := ro_mul (P := P) (ρ := ρ) (w := w) (t := t) (yt := yt) hx hy
  rwa [show IntKind.u64.wrap ((a : Nat) * (b : Nat) : Int) = ((a * b % 2 ^ 64 : Nat) : Int) by rw [IntKind.wrap_u64, ← Int.natCast_mul]; generalize a * b = c; omega] at this
theorem exec_callF {ρ : Operand → Value} {f : FuncId} {l : List Operand} {caps : List Value} {ats : Array TypeId} {g : Option (Nat × Bool)} {dst : Option Tmp} (hx : ρ x = .func (.func f) #[] caps.toArray) :
    execOp ρ ⟨dst, .call { callee := .value x, args := l.toArray, argTypes := ats }, ty, pos, after, g⟩ = callFunc f (l.map ρ ++ caps).toArray := by
  have : execOp ρ ⟨dst, .call { callee := .value x, args := l.toArray, argTypes := ats }, ty, pos, after, g⟩ = (do let d ← Deferred.ofValue (ρ x) (l.toArray.map ρ); invoke d.target d.args) := rfl
  rw [this, hx]
  show callFunc f (#[] ++ l.toArray.map ρ ++ caps.toArray) = _
  simp
theorem st_callF {f : FuncId} {l : List Operand} {caps : List Value} {ats : Array TypeId} {R : Value → World → Prop} (hx : ev n L x = .func (.func f) #[] caps.toArray) (hf : callable P f = true) (hc : Rt P f (l.map (ev n L) ++ caps) w R) (k : ∀ v w', R v w' → St P ops Q rest n ((d, v) :: L) w') :
    St P ops Q (⟨some d, .call { callee := .value x, args := l.toArray, argTypes := ats }, ty, pos, after, none⟩ :: rest) n L w := by
  refine ⟨wpList_plain rfl fun K hK => ?_⟩
  unfold Oper.wp
  rw [eval_mkA, exec_callF hx, run_call hf, Oper.upon_enter]
  refine Calls.mono hc fun e w' ⟨v, he, hR⟩ => ?_
  subst he
  show K ((mkA n L).put (some d) v) w'
  rw [put_mkA]
  exact hK _ _ (k v w' hR).out
theorem ok_callF {f : FuncId} {l : List Operand} {caps : List Value} {ats : Array TypeId} {R : Value → World → Prop} {dst : Option Nat} (hx : ev n L x = .func (.func f) #[] caps.toArray) (hf : callable P f = true) (hc : Rt P f (l.map (ev n L) ++ caps) w fun v w' => From w w' ∧ R v w') :
    OpOK P ops n L ⟨dst, .call { callee := .value x, args := l.toArray, argTypes := ats }, ty, pos, after, none⟩ w R :=
  .inl ⟨rfl, .inr ⟨f, l.map (ev n L) ++ caps, by rw [exec_callF hx, run_call hf], hc⟩⟩
end
end Go.Proofs.YtjliefglelcooaaDoor

namespace Go.Proofs.YtjliefglelcooaaDoor
open Go.RowKit Go.ChangeShapes Go.WideShapes Go.ChangeAt
/-- a guard over an operation that was passed over itself, in a drawn region -/
theorem ok_gund {P : Program} {ops : Array Oper} {n : Nat} {L : List (Nat × Value)} {w : World} {op : Op} {ty : TypeId} {pos : String} {after : Array Edge} {d : Option Nat} {R : Value → World → Prop} {j : Nat} {b : Bool} (hg : wantQ ops n L j = undef) (hR : R undef w) : OpOK P ops n L ⟨d, op, ty, pos, after, some (j, b)⟩ w R :=
  .inr ⟨by show (yielded ops (mkT n L) j == some b) = false; rw [yielded_undef hg]; rfl, hR⟩
/-- a row's block is not one of another type -/
theorem own_off {w : World} {base e s n c m g t : Nat} {A : Option Addr} {xs : List Value} {cs : Array Value} (h : w.ownsRow base e s (.slice A n c) m xs) (hb : Blk w g t cs) (hne : t ≠ e) : ∀ k, A.map (·.block) = some k → k ≠ g := by
  rintro k hk rfl
  rcases h.2 with ⟨h0, _⟩ | ⟨g', cap, cur, hv, hg, hh, r⟩
  · simp only [Value.slice.injEq] at h0
    rw [h0.1] at hk
    cases hk
  · simp only [Value.slice.injEq] at hv
    rw [hv.1] at hk
    simp only [Option.map_some, Option.some.injEq] at hk
    subst hk
    unfold Blk at hb
    rw [hh] at hb
    simp only [Option.some.injEq, Obj.cells.injEq] at hb
    exact hne hb.2.1.symm
theorem own_only3 {w w' : World} {base e s n c g : Nat} {A : Option Addr} {xs : List Value} (h : w.ownsRow base e s (.slice A n c) n xs) (o : Only g w w') (hne : ∀ k, A.map (·.block) = some k → k ≠ g) : w'.ownsRow base e s (.slice A n c) n xs := by
  refine ⟨h.1, ?_⟩
  rcases h.2 with h2 | ⟨g', cap, cur, hv, hg, hh, r⟩
  · exact .inl h2
  · refine .inr ⟨g', cap, cur, hv, hg, ?_, r⟩
    simp only [Value.slice.injEq] at hv
    rw [o.block g' (hne g' (by rw [hv.1]; rfl))]
    exact hh
theorem own_le {w : World} {base base' size n : Nat} {e : TypeId} {v : Value} {xs : List Value} (h : w.ownsRow base e size v n xs) (hb : base' ≤ base) : w.ownsRow base' e size v n xs := by
  refine ⟨h.1, ?_⟩
  rcases h.2 with h0 | ⟨g, cap, cur, hv, hg, r⟩
  · exact .inl h0
  · exact .inr ⟨g, cap, cur, hv, by omega, r⟩
theorem arr_get {α : Type} {f : α → Value} {l : List α} (i : Nat) (h : i < l.length) : (l.map f).toArray[i]? = some (f l[i]) := by simp [h]
theorem walk_struct {H : Type} {enc : TypeId × Value → H} {F : FuncId} {T : TypeId} (t u : Ty) (hf : (Ty.pr t u).fits Tryd.prog (.inl T) = true)
    (h : ∀ (cs : Array Value) (x : (Ty.pr t u).den) (w : World), cs.size = (Ty.pr t u).size → (Ty.pr t u).At w (fun j => cs[j]?) x → Rt Tryd.prog F [.agg cs] w fun v w' => v = .bool true ∧ From w w')
    (W : World) (base : Nat) (v : Value) (d : DataW H) (p : List MemPlace) (hok : Value.okWide Tryd.prog W .any base T v) (ht : DataW.Trod enc Tryd.prog W 0 (fun _ => true) true T v d p) (hsz : ∀ n ∈ d.weights Tryd.prog T, n ≤ 140737488351232) :
    Calls Tryd.prog F #[v] W fun e W' => e = .returned (.bool true) ∧ From W W' := by
  obtain ⟨cs, x, rfl, hs, ha⟩ := arg_st t u hf hok ht hsz
  exact Rt.to (h cs x W hs ha)
end Go.Proofs.YtjliefglelcooaaDoor

namespace Go.Proofs.YtjliefglelcooaaDoor
open Go.RowKit

/-! ### lists of elements, flat -/
section
variable {α : Type} {f : α → List Value} {s : Nat}
theorem flat_len (hf : ∀ x, (f x).length = s) : ∀ (L : List α), (L.flatMap f).length = L.length * s
  | [] => by simp
  | x :: r => by rw [List.flatMap_cons, List.length_append, hf, flat_len hf r, List.length_cons, Nat.succ_mul]; omega
theorem flat_take (hf : ∀ x, (f x).length = s) : ∀ (L : List α) (k : Nat), (L.flatMap f).take (k * s) = (L.take k).flatMap f
  | [], k => by simp
  | x :: r, 0 => by simp
  | x :: r, k + 1 => by
    rw [List.flatMap_cons, List.take_succ_cons, List.flatMap_cons, ← flat_take hf r k, List.take_append, hf]
    rw [show (k + 1) * s - s = k * s by rw [Nat.succ_mul]; omega, List.take_of_length_le (by rw [hf, Nat.succ_mul]; omega)]
theorem flat_drop (hf : ∀ x, (f x).length = s) : ∀ (L : List α) (k : Nat), (L.flatMap f).drop (k * s) = (L.drop k).flatMap f
  | [], k => by simp
  | x :: r, 0 => by simp
  | x :: r, k + 1 => by
    rw [List.flatMap_cons, List.drop_succ_cons, ← flat_drop hf r k, List.drop_append, hf]
    rw [show (k + 1) * s - s = k * s by rw [Nat.succ_mul]; omega, List.drop_of_length_le (by rw [hf, Nat.succ_mul]; omega), List.nil_append]
theorem flat_at (hf : ∀ x, (f x).length = s) (L : List α) (i : Nat) (hi : i < L.length) (j : Nat) (hj : j < s) : (L.flatMap f)[i * s + j]? = (f L[i])[j]? := by
  have h1 : ((L.flatMap f).drop (i * s))[j]? = (L.flatMap f)[i * s + j]? := by rw [List.getElem?_drop]
  rw [← h1, flat_drop hf, List.drop_eq_getElem_cons hi, List.flatMap_cons, List.getElem?_append_left (by rw [hf]; exact hj)]
theorem flat_one {L : List α} (h : ∀ x ∈ L, ∀ u ∈ f x, u.oneCell' = true) : ∀ u ∈ L.flatMap f, u.oneCell' = true := fun u hu => by
  obtain ⟨x, hx, hu⟩ := List.mem_flatMap.1 hu
  exact h x hx u hu
/-- from this address on lie these, s cells each -/
def RowK (s : Nat) (f : α → List Value) (w : World) (A : Option Addr) (L : List α) : Prop := 0 < L.length → ∃ b o, A = some ⟨b, o, none⟩ ∧ ∀ i (h : i < L.length), w.rangeAt b (o + i * s) (f L[i])
theorem RowK.from_ {w w' : World} {A : Option Addr} {L : List α} (h : RowK s f w A L) (hF : From w w') : RowK s f w' A L := fun h0 =>
  let ⟨b, o, hA, hc⟩ := h h0
  ⟨b, o, hA, fun i hi => rangeF hF (hc i hi)⟩
theorem RowK.nil {w : World} {A : Option Addr} : RowK s f w A [] := fun h => absurd h (by simp)
theorem RowK.flat (hf : ∀ x, (f x).length = s) {w : World} {A : Option Addr} {L : List α} (h : RowK s f w A L) : 0 < L.length → ∃ b o, A = some ⟨b, o, none⟩ ∧ w.rangeAt b o (L.flatMap f) := fun h0 => by
  obtain ⟨b, o, hA, hc⟩ := h h0
  refine ⟨b, o, hA, fun j v hv => ?_⟩
  have hlt : j < L.length * s := by
    rw [← flat_len hf]
    rcases Nat.lt_or_ge j (L.flatMap f).length with a | a
    · exact a
    · rw [List.getElem?_eq_none a] at hv; cases hv
  have hs : 0 < s := by
    rcases Nat.eq_zero_or_pos s with h | h
    · subst h; omega
    · exact h
  have hi : j / s < L.length := by rw [Nat.div_lt_iff_lt_mul hs]; exact hlt
  have hj : j / s * s + j % s = j := by rw [Nat.mul_comm]; exact Nat.div_add_mod j s
  rw [← hj, flat_at hf L _ hi _ (Nat.mod_lt _ hs)] at hv
  have := hc _ hi _ v hv
  rwa [Nat.add_assoc, hj] at this
theorem RowK.drop {w : World} {b o : Nat} {L : List α} (h : RowK s f w (some ⟨b, o, none⟩) L) (k : Nat) (hk : k ≤ L.length) : RowK s f w (some ⟨b, o + k * s, none⟩) (L.drop k) := fun h0 => by
  rw [List.length_drop] at h0
  obtain ⟨b', o', hA, hc⟩ := h (by omega)
  simp only [Option.some.injEq, Addr.mk.injEq, and_true] at hA
  obtain ⟨rfl, rfl⟩ := hA
  refine ⟨b, o + k * s, rfl, fun i hi => ?_⟩
  rw [List.getElem_drop]
  have := hc (k + i) (by rw [List.length_drop] at hi; omega)
  rwa [Nat.add_mul, ← Nat.add_assoc] at this
theorem RowK.take {w : World} {A : Option Addr} {L : List α} (h : RowK s f w A L) (k : Nat) : RowK s f w A (L.take k) := fun h0 => by
  rw [List.length_take] at h0
  obtain ⟨b, o, hA, hc⟩ := h (by omega)
  refine ⟨b, o, hA, fun i hi => ?_⟩
  rw [List.getElem_take]
  exact hc i (by rw [List.length_take] at hi; omega)
theorem RowK.own (hf : ∀ x, (f x).length = s) (hs : 0 < s) {w : World} {base e n c : Nat} {A : Option Addr} {L : List α} (h : w.ownsRow base e s (.slice A n c) n (L.flatMap f)) : L.length = n ∧ RowK s f w A L := by
  have hn : L.length = n := by
    have := h.1
    rw [flat_len hf] at this
    exact Nat.eq_of_mul_eq_mul_right hs this
  refine ⟨hn, fun h0 => ?_⟩
  obtain ⟨g, rfl⟩ := own_some h (by omega)
  refine ⟨g, 0, rfl, fun i hi j v hv => ?_⟩
  have hj : j < s := by
    rw [← hf L[i]]
    rcases Nat.lt_or_ge j (f L[i]).length with a | a
    · exact a
    · rw [List.getElem?_eq_none a] at hv; cases hv
  have hlt : i * s + j < n * s := by
    have : (i + 1) * s ≤ n * s := Nat.mul_le_mul_right s (by omega)
    rw [Nat.succ_mul] at this
    omega
  rw [Nat.zero_add, h.cellAt _ hlt, flat_at hf L i hi j hj]
  exact hv
end

/-! ### an own row as a block -/
theorem own_blk {w : World} {base e size n c : Nat} {A : Option Addr} {xs : List Value} (h : w.ownsRow base e size (.slice A n c) n xs) (hn : 0 < n) :
    ∃ g cur, A = some ⟨g, 0, none⟩ ∧ base ≤ g ∧ Blk w g e (List.toArray cur) ∧ n ≤ c ∧ c ≤ maxLen ∧ cur.length = c * size ∧ cur.take (n * size) = xs := by
  rcases h.2 with ⟨_, h0⟩ | ⟨g, cap, cur, hv, hg, hh, h1, h2, h3, h4⟩
  · omega
  · simp only [Value.slice.injEq, true_and] at hv
    obtain ⟨rfl, rfl⟩ := hv
    exact ⟨g, cur.toList, rfl, hg, by simpa [Blk] using hh, h1, h2, by simpa using h3, h4⟩
theorem own_of {w : World} {base e size n c g : Nat} {cur xs : List Value} (hg : base ≤ g) (hb : Blk w g e cur.toArray) (h1 : n ≤ c) (h2 : c ≤ maxLen) (h3 : cur.length = c * size) (h4 : cur.take (n * size) = xs) :
    w.ownsRow base e size (.slice (some ⟨g, 0, none⟩) n c) n xs := by
  refine ⟨?_, .inr ⟨g, c, cur.toArray, rfl, hg, hb, h1, h2, by simpa using h3, by simpa using h4⟩⟩
  rw [← h4, List.length_take, h3]
  exact Nat.min_eq_left (Nat.mul_le_mul_right _ h1)
theorem over_len (cs vs : List Value) (o : Nat) (h : o + vs.length ≤ cs.length) : (over cs o vs).length = cs.length := by simp [over]; omega
theorem over_take (cs vs : List Value) (o k : Nat) (h : o + vs.length ≤ k) (hk : k ≤ cs.length) : (over cs o vs).take k = over (cs.take k) o vs := by
  unfold over
  rw [List.take_append, List.take_of_length_le (by simp; omega)]
  rw [List.take_take, Nat.min_eq_left (by omega), List.drop_take]
  congr 2
  simp
  omega
theorem over_take_lo (cs vs : List Value) (o k : Nat) (h : k ≤ o) (ho : o ≤ cs.length) : (over cs o vs).take k = cs.take k := by
  unfold over
  rw [List.append_assoc, List.take_append_of_le_length (by simp; omega), List.take_take, Nat.min_eq_left h]
theorem over_nil (cs : List Value) (o : Nat) : over cs o [] = cs := by simp [over]
theorem over_at (cs vs : List Value) (o j : Nat) (h : o + vs.length ≤ cs.length) : (over cs o vs)[j]? = if o ≤ j ∧ j < o + vs.length then vs[j - o]? else cs[j]? := by
  unfold over
  by_cases h1 : j < o
  · rw [if_neg (by omega), List.append_assoc, List.getElem?_append_left (by simp; omega), List.getElem?_take_of_lt h1]
  · by_cases h2 : j < o + vs.length
    · rw [if_pos ⟨by omega, h2⟩, List.append_assoc, List.getElem?_append_right (by simp; omega), List.getElem?_append_left (by simp; omega)]
      congr 1
      simp
      omega
    · rw [if_neg (by omega), List.getElem?_append_right (by simp; omega), List.getElem?_drop]
      congr 1
      simp
      omega

section
variable {P : Program} {ρ : Operand → Value} {w : World}
theorem sz_of {t s : Nat} (h : sizeQ P t = some s) : ∃ i, P.info? t = some i ∧ i.size = s := by
  unfold sizeQ at h
  cases hi : P.info? t with
  | none => simp [hi] at h
  | some i => exact ⟨i, rfl, by simpa [hi] using h⟩
/-- cells written over a block that is known whole -/
theorem run_overB {g o : Nat} {u : TypeId} {cur vs : List Value} {A : Option Addr} (hA : 0 < vs.length → A = some ⟨g, o, none⟩) (hb : Blk w g u cur.toArray) (hfit : o + vs.length ≤ cur.length) (h1 : ∀ v ∈ vs, v.oneCell' = true) :
    ∃ w', (match A with | some a => storeCells a vs | none => (pure () : Sem Unit)).run P w = .ok () w' ∧ Only g w w' ∧ Blk w' g u (over cur o vs).toArray := by
  cases vs with
  | nil =>
    refine ⟨w, ?_, Only.rfl_, by rw [over_nil]; exact hb⟩
    cases A <;> simp [storeCells]
  | cons v vs =>
    obtain rfl := hA (by simp)
    have := run_storeCells_at P g o u (v :: vs) 0 cur.toArray w hb (by simpa using hfit) h1
    refine ⟨_, this, ?_, ?_⟩
    · exact ⟨rfl, rfl, rfl, by simp [World.setRow], fun k hk => setRow_other w g k _ hk⟩
    · have h2 := setRow_heap w g cur.toArray ((cur.toArray.toList.take (o + 0) ++ (v :: vs) ++ cur.toArray.toList.drop (o + 0 + (v :: vs).length)).toArray) u (0, 0) hb
      exact h2
theorem run_loadB {cs : List Value} {n : Nat} {A : Option Addr} (hn : cs.length = n) (h : 0 < cs.length → ∃ b o, A = some ⟨b, o, none⟩ ∧ w.rangeAt b o cs) :
    (match A with | some a => loadCells a n | none => (pure #[] : Sem (Array Value))).run P w = .ok cs.toArray w := by
  subst hn
  cases cs with
  | nil => cases A <;> simp [loadCells, loadCellsFrom]
  | cons c cs =>
    obtain ⟨b, o, rfl, hr⟩ := h (by simp)
    exact run_loadCells_list (P := P) w ⟨b, o, none⟩ (c :: cs) (fun j v hv => by rw [Addr.add_mid]; exact hr j v hv)
/-- copy(dst, src) into a block that is known whole -/
theorem ro_copyB {d s : Operand} {dT sT e size g o m c j c2 : Nat} {A A2 : Option Addr} {u : TypeId} {cur news : List Value} (ht : elemQ P dT = some (e, size)) (hd : ρ d = .slice A m c) (hs : ρ s = .slice A2 j c2) (hn : news.length = min j m * size)
    (hA : 0 < news.length → A = some ⟨g, o, none⟩) (hsrc : 0 < news.length → ∃ b o, A2 = some ⟨b, o, none⟩ ∧ w.rangeAt b o news) (hb : Blk w g u cur.toArray) (hfit : o + news.length ≤ cur.length) (h1 : ∀ v ∈ news, v.oneCell' = true) :
    ∃ w', RO P ρ (.call { callee := .builtin .copy, args := #[d, s], argTypes := #[dT, sT] }) w (.int .i64 (min j m : Nat)) w' ∧ Only g w w' ∧ Blk w' g u (over cur o news).toArray := by
  obtain ⟨hu, hsz⟩ := elem_of ht
  obtain ⟨i, hi, hs2⟩ := sz_of hsz
  subst hs2
  obtain ⟨w', hst, ho, hbl⟩ := run_overB (P := P) (A := A) hA hb hfit h1
  have hl := run_loadB (P := P) (n := min j m * i.size) hn hsrc
  have key : ∀ ty, (Builtin.copy_ #[dT, sT] ty #[.slice A m c, .slice A2 j c2]).run P w = .ok (.int .i64 (min j m : Nat)) w' := fun ty => by
    have e1 : Nat.min j m = min j m := rfl
    cases A2 with
    | none =>
      cases A with
      | none => simp_all [Builtin.copy_, run_underlying hu, Builtin.lenOf, Builtin.firstCells, sizeOf, typeInfo, hi, goInt]
      | some a => simp_all [Builtin.copy_, run_underlying hu, Builtin.lenOf, Builtin.firstCells, sizeOf, typeInfo, hi, goInt]
    | some a2 =>
      simp only at hl
      cases A with
      | none => simp_all [Builtin.copy_, run_underlying hu, Builtin.lenOf, Builtin.firstCells, sizeOf, typeInfo, hi, goInt]
      | some a => simp_all [Builtin.copy_, run_underlying hu, Builtin.lenOf, Builtin.firstCells, sizeOf, typeInfo, hi, goInt]
  refine ⟨w', fun dst ty pos after gg => ?_, ho, hbl⟩
  unfold execOp
  simp only [resolve, invoke, builtin, Sem.run_bind, Sem.run_pure, Result.andThen_ok, List.map_toArray, List.map_cons, List.map_nil, hd, hs, key]
/-- clear(s), s within a block that is known whole -/
theorem ro_clearB {s : Operand} {t e size by_ g o n c : Nat} {A : Option Addr} {u : TypeId} {z : Value} {cur : List Value} (hq : litQ P t = some (e, size, by_, z)) (hzs : z.cells.size = size) (hs : ρ s = .slice A n c)
    (hA : 0 < n * size → A = some ⟨g, o, none⟩) (hb : Blk w g u cur.toArray) (hfit : o + n * size ≤ cur.length) (h1 : ∀ v ∈ z.cells.toList, v.oneCell' = true) :
    ∃ w' zs, RO P ρ (.call { callee := .builtin .clear, args := #[s], argTypes := #[t] }) w (.tuple #[]) w' ∧ Only g w w' ∧ zs.length = n * size ∧ Blk w' g u (over cur o zs).toArray := by
  obtain ⟨i, hu, hi, hsz, _, hz⟩ := lit_of hq
  have hzc : (Builtin.zeroCells z.cells n).toList.length = n * size := by simp [Builtin.zeroCells, hzs]
  have hz1 : ∀ v ∈ (Builtin.zeroCells z.cells n).toList, v.oneCell' = true := fun v hv => by
    simp only [Builtin.zeroCells, Array.toList_map, List.mem_map, Array.toList_range, List.mem_range] at hv
    obtain ⟨k, hk, rfl⟩ := hv
    have hz0 : 0 < z.cells.size := by
      rcases Nat.eq_zero_or_pos z.cells.size with h | h
      · rw [h] at hk; omega
      · exact h
    refine h1 _ ?_
    rw [getElem!_pos z.cells (k % z.cells.size) (Nat.mod_lt _ hz0)]
    exact Array.mem_toList_iff.2 (Array.getElem_mem _)
  obtain ⟨w', hst, ho, hbl⟩ := run_overB (P := P) (A := A) (vs := (Builtin.zeroCells z.cells n).toList) (by rw [hzc]; exact hA) hb (by rw [hzc]; exact hfit) hz1
  have hzv : (zeroValue e).run P w = .ok z w := by simp [zeroValue, typeInfo, hi, hz]
  by_cases h0 : n = 0
  · subst h0
    refine ⟨w, [], fun dst ty pos after gg => ?_, Only.rfl_, by simp, by rw [over_nil]; exact hb⟩
    unfold execOp
    cases A <;> simp [resolve, invoke, builtin, hs, Builtin.clear_, run_underlying hu]
  · obtain ⟨k, rfl⟩ : ∃ k, n = k + 1 := ⟨n - 1, by omega⟩
    refine ⟨w', _, fun dst ty pos after gg => ?_, ho, hzc, hbl⟩
    unfold execOp
    cases A with
    | none => simp_all [resolve, invoke, builtin, Builtin.clear_, run_underlying hu]
    | some a => simp_all [resolve, invoke, builtin, Builtin.clear_, run_underlying hu]
/-- append(s, x...) where there is room, in place -/
theorem ro_appendR {s x : Operand} {t e size g m cap j c2 : Nat} {A2 : Option Addr} {cur news : List Value} (ht : elemQ P t = some (e, size)) (hs : ρ s = .slice (some ⟨g, 0, none⟩) m cap) (hx : ρ x = .slice A2 j c2) (hl : news.length = j * size)
    (hsrc : 0 < news.length → ∃ b o, A2 = some ⟨b, o, none⟩ ∧ w.rangeAt b o news) (hb : Blk w g e cur.toArray) (h1 : ∀ v ∈ news, v.oneCell' = true) (hroom : m + j ≤ cap) (hfit : m * size + news.length ≤ cur.length) :
    ∃ w', RO P ρ (.call { callee := .builtin .append, args := #[s, x], argTypes := #[t, t] }) w (.slice (some ⟨g, 0, none⟩) (m + j) cap) w' ∧ Only g w w' ∧ Blk w' g e (over cur (m * size) news).toArray := by
  obtain ⟨hu, hsz⟩ := elem_of ht
  obtain ⟨i, hi, hs2⟩ := sz_of hsz
  subst hs2
  obtain ⟨w', hst, ho, hbl⟩ := run_overB (P := P) (A := some ⟨g, m * i.size, none⟩) (o := m * i.size) (fun _ => rfl) hb hfit h1
  have hld := run_loadB (P := P) (n := j * i.size) hl hsrc
  have key : ∀ ty, (Builtin.append_ #[t, t] ty #[.slice (some ⟨g, 0, none⟩) m cap, .slice A2 j c2]).run P w = .ok (.slice (some ⟨g, 0, none⟩) (m + j) cap) w' := fun ty => by
    have hf : (Builtin.firstCells i.size j (.slice A2 j c2)).run P w = .ok news.toArray w := by cases A2 <;> exact hld
    simp only at hst
    simp [Builtin.append_, run_underlying hu, sizeOf, typeInfo, hi, Builtin.lenOf, hroom, hf, Addr.add_lit, hst]
  refine ⟨w', fun dst ty pos after gg => ?_, ho, hbl⟩
  unfold execOp
  simp only [resolve, invoke, builtin, Sem.run_bind, Sem.run_pure, Result.andThen_ok, List.map_toArray, List.map_cons, List.map_nil, hs, hx, key]
/-- append(s, make(T, k)...) beyond the room -/
theorem ro_appendZ {s x : Operand} {t tn e size by_ m cap k : Nat} {A : Option Addr} {z : Value} {kn : IntKind} {olds : List Value} (hq : litQ P t = some (e, size, by_, z)) (htn : P.underlying tn = some (.int kn)) (hzs : z.cells.size = size) (hs0 : 0 < size)
    (hs : ρ s = .slice A m cap) (hx : ρ x = .int .i64 (k : Nat)) (hol : olds.length = m * size) (hold : 0 < olds.length → ∃ b o, A = some ⟨b, o, none⟩ ∧ w.rangeAt b o olds) (h0 : 0 < k) (hg : cap < m + k) (h63 : m + k ≤ maxLen) (hby : (m + k) * by_ ≤ 140737488355328) (hmc : m ≤ cap) :
    ∃ c' w' cur, RO P ρ (.call { callee := .builtin .append, args := #[s, x], argTypes := #[t, tn] }) w (.slice (some ⟨w.heap.size, 0, none⟩) (m + k) c') w' ∧ From w w' ∧ Blk w' w.heap.size e (List.toArray cur) ∧ m + k ≤ c' ∧ c' ≤ maxLen ∧ cur.length = c' * size ∧ cur.take (m * size) = olds := by
  obtain ⟨i, hu, hi, hsz, hb, hz⟩ := lit_of hq
  subst hsz
  subst hb
  have hld : (Builtin.firstCells i.size m (.slice A m cap)).run P w.drew = .ok olds.toArray w.drew := by
    have := run_loadB (P := P) (w := w.drew) (n := m * i.size) hol (fun h => let ⟨b, o, h1, h2⟩ := hold h; ⟨b, o, h1, fun j v hv => h2 j v hv⟩)
    cases A <;> exact this
  have hnx : Builtin.nextslicecap (m + k) cap * i.bytes ≤ 281474976710656 := growslice_fits hg hby
  have hrun := fun ty => Lib.run_append_grow_zeros (P := P) w t tn ty e i z .i64 kn hu htn hi hz A m cap olds hld k h0 hs0 hg (by unfold maxLen at h63; omega) (by
    have : k * i.bytes ≤ (m + k) * i.bytes := Nat.mul_le_mul_right _ (by omega)
    omega) hnx
  have hcge := grownCap_ge w (m + k) cap e
  have hcle := grownCap_le_maxLen w (m + k) cap e h63
  generalize grownCap w (m + k) cap e = c' at hrun hcge hcle
  refine ⟨c', w.drew.alloc (.cells (olds.toArray ++ Builtin.zeroCells z.cells k ++ Builtin.zeroCells z.cells (c' - (m + k))) e), olds ++ (Builtin.zeroCells z.cells k).toList ++ (Builtin.zeroCells z.cells (c' - (m + k))).toList, fun dst ty pos after gg => ?_, From.rfl_.d1.new _, ?_, hcge, hcle, ?_, ?_⟩
  · unfold execOp
    simp only [resolve, invoke, builtin, Sem.run_bind, Sem.run_pure, Result.andThen_ok, List.map_toArray, List.map_cons, List.map_nil, hs, hx, hrun]
  · have := Blk.new w.drew e (olds.toArray ++ Builtin.zeroCells z.cells k ++ Builtin.zeroCells z.cells (c' - (m + k)))
    have e1 : (olds ++ (Builtin.zeroCells z.cells k).toList ++ (Builtin.zeroCells z.cells (c' - (m + k))).toList).toArray = olds.toArray ++ Builtin.zeroCells z.cells k ++ Builtin.zeroCells z.cells (c' - (m + k)) := by
      apply Array.toList_inj.1
      simp
    rw [e1]
    exact this
  · simp only [List.length_append, Array.length_toList, size_zeroCells, hzs, hol, ← Nat.add_mul]
    congr 1
    omega
  · rw [List.append_assoc, List.take_append_of_le_length (by omega), List.take_of_length_le (by omega)]
end
end Go.Proofs.YtjliefglelcooaaDoor

namespace Go.Proofs.YtjliefglelcooaaDoor
open Go.RowKit
section
variable {P : Program} {ops : Array Oper} {Q : Exit → Act → World → Prop} {rest : List Oper} {n : Nat} {L : List (Nat × Value)} {w : World} {ty : TypeId} {pos : String} {after : Array Edge} {d : Nat} {t : TypeId} {x s : Operand}
theorem st_valN {op : Op} {v : Value} {w' : World} (hr : RO P (ev n L) op w v w') (k : St P ops Q rest n L w') : St P ops Q (⟨none, op, ty, pos, after, none⟩ :: rest) n L w := by
  refine ⟨wpList_plain rfl fun K hK => ?_⟩
  unfold Oper.wp
  rw [eval_mkA, hr, Oper.upon_value]
  exact hK _ _ k.out
theorem st_copyB {dT sT e size g o m c j c2 : Nat} {A A2 : Option Addr} {u : TypeId} {cur news : List Value} (ht : elemQ P dT = some (e, size)) (hd : ev n L x = .slice A m c) (hs : ev n L s = .slice A2 j c2) (hn : news.length = min j m * size)
    (hA : 0 < news.length → A = some ⟨g, o, none⟩) (hsrc : 0 < news.length → ∃ b o, A2 = some ⟨b, o, none⟩ ∧ w.rangeAt b o news) (hb : Blk w g u cur.toArray) (hfit : o + news.length ≤ cur.length) (h1 : ∀ v ∈ news, v.oneCell' = true)
    (k : ∀ w', Only g w w' → Blk w' g u (over cur o news).toArray → St P ops Q rest n ((d, .int .i64 (min j m : Nat)) :: L) w') :
    St P ops Q (⟨some d, .call { callee := .builtin .copy, args := #[x, s], argTypes := #[dT, sT] }, ty, pos, after, none⟩ :: rest) n L w :=
  let ⟨w', hr, ho, hb'⟩ := ro_copyB (sT := sT) ht hd hs hn hA hsrc hb hfit h1
  st_val hr (k w' ho hb')
theorem st_copyBN {dT sT e size g o m c j c2 : Nat} {A A2 : Option Addr} {u : TypeId} {cur news : List Value} (ht : elemQ P dT = some (e, size)) (hd : ev n L x = .slice A m c) (hs : ev n L s = .slice A2 j c2) (hn : news.length = min j m * size)
    (hA : 0 < news.length → A = some ⟨g, o, none⟩) (hsrc : 0 < news.length → ∃ b o, A2 = some ⟨b, o, none⟩ ∧ w.rangeAt b o news) (hb : Blk w g u cur.toArray) (hfit : o + news.length ≤ cur.length) (h1 : ∀ v ∈ news, v.oneCell' = true)
    (k : ∀ w', Only g w w' → Blk w' g u (over cur o news).toArray → St P ops Q rest n L w') :
    St P ops Q (⟨none, .call { callee := .builtin .copy, args := #[x, s], argTypes := #[dT, sT] }, ty, pos, after, none⟩ :: rest) n L w :=
  let ⟨w', hr, ho, hb'⟩ := ro_copyB (sT := sT) ht hd hs hn hA hsrc hb hfit h1
  st_valN hr (k w' ho hb')
theorem st_clearB {e size by_ g o m c : Nat} {A : Option Addr} {u : TypeId} {z : Value} {cur : List Value} (hq : litQ P t = some (e, size, by_, z)) (hzs : z.cells.size = size) (hs : ev n L s = .slice A m c)
    (hA : 0 < m * size → A = some ⟨g, o, none⟩) (hb : Blk w g u cur.toArray) (hfit : o + m * size ≤ cur.length) (h1 : ∀ v ∈ z.cells.toList, v.oneCell' = true)
    (k : ∀ w' zs, Only g w w' → zs.length = m * size → Blk w' g u (over cur o zs).toArray → St P ops Q rest n L w') :
    St P ops Q (⟨none, .call { callee := .builtin .clear, args := #[s], argTypes := #[t] }, ty, pos, after, none⟩ :: rest) n L w :=
  let ⟨w', zs, hr, ho, hl, hb'⟩ := ro_clearB hq hzs hs hA hb hfit h1
  st_valN hr (k w' zs ho hl hb')
theorem st_appendR {e size g m cap j c2 : Nat} {A2 : Option Addr} {cur news : List Value} (ht : elemQ P t = some (e, size)) (hs : ev n L s = .slice (some ⟨g, 0, none⟩) m cap) (hx : ev n L x = .slice A2 j c2) (hl : news.length = j * size)
    (hsrc : 0 < news.length → ∃ b o, A2 = some ⟨b, o, none⟩ ∧ w.rangeAt b o news) (hb : Blk w g e cur.toArray) (h1 : ∀ v ∈ news, v.oneCell' = true) (hroom : m + j ≤ cap) (hfit : m * size + news.length ≤ cur.length)
    (k : ∀ w', Only g w w' → Blk w' g e (over cur (m * size) news).toArray → St P ops Q rest n ((d, .slice (some ⟨g, 0, none⟩) (m + j) cap) :: L) w') :
    St P ops Q (⟨some d, .call { callee := .builtin .append, args := #[s, x], argTypes := #[t, t] }, ty, pos, after, none⟩ :: rest) n L w :=
  let ⟨w', hr, ho, hb'⟩ := ro_appendR ht hs hx hl hsrc hb h1 hroom hfit
  st_val hr (k w' ho hb')
theorem st_appendZ {tn e size by_ m cap k0 : Nat} {A : Option Addr} {z : Value} {kn : IntKind} {olds : List Value} (hq : litQ P t = some (e, size, by_, z)) (htn : P.underlying tn = some (.int kn)) (hzs : z.cells.size = size) (hs0 : 0 < size)
    (hs : ev n L s = .slice A m cap) (hx : ev n L x = .int .i64 (k0 : Nat)) (hol : olds.length = m * size) (hold : 0 < olds.length → ∃ b o, A = some ⟨b, o, none⟩ ∧ w.rangeAt b o olds) (h0 : 0 < k0) (hg : cap < m + k0) (h63 : m + k0 ≤ maxLen) (hby : (m + k0) * by_ ≤ 140737488355328) (hmc : m ≤ cap)
    (k : ∀ g c' w' cur, g = w.heap.size → From w w' → Blk w' g e (List.toArray cur) → m + k0 ≤ c' → c' ≤ maxLen → cur.length = c' * size → cur.take (m * size) = olds → St P ops Q rest n ((d, .slice (some ⟨g, 0, none⟩) (m + k0) c') :: L) w') :
    St P ops Q (⟨some d, .call { callee := .builtin .append, args := #[s, x], argTypes := #[t, tn] }, ty, pos, after, none⟩ :: rest) n L w :=
  let ⟨c', w', cur, hr, hF, hb, h1, h2, h3, h4⟩ := ro_appendZ hq htn hzs hs0 hs hx hol hold h0 hg h63 hby hmc
  st_val hr (k _ c' w' cur rfl hF hb h1 h2 h3 h4)
theorem ro_cap {ρ : Operand → Value} {A : Option Addr} {m c : Nat} (ht : (elemQ P t).isSome = true) (hx : ρ x = .slice A m c) : RO P ρ (.call { callee := .builtin .cap, args := #[x], argTypes := #[t] }) w (.int .i64 c) w := fun _ _ _ _ _ => by
  obtain ⟨⟨e, sz⟩, he⟩ := Option.isSome_iff_exists.mp ht
  obtain ⟨hu, _⟩ := elem_of he
  simp [BigFrame.execOp_builtin, BigFrame.builtin_cap, Builtin.cap_, run_underlying hu, hx, goInt]
/-- a slice of three indexes -/
theorem ro_slice3 {ρ : Operand → Value} {e sz l h mx m c : Nat} {A : Option Addr} {y1 y2 y3 : Operand} {k1 k2 k3 : IntKind} (ht : elemQ P t = some (e, sz)) (hx : ρ x = .slice A m c) (hl : ρ y1 = .int k1 (l : Nat)) (hh : ρ y2 = .int k2 (h : Nat)) (hm : ρ y3 = .int k3 (mx : Nat)) (h1 : l ≤ h) (h2 : h ≤ mx) (h3 : mx ≤ c) :
    RO P ρ (.slice t x (some y1) (some y2) (some y3)) w (.slice (restOf A mx l sz) (h - l) (mx - l)) w := fun _ _ _ _ _ => by
  obtain ⟨hu, hs⟩ := elem_of ht
  have hE : P.elem t = e := by simp [Program.elem, hu]
  have hu' : P.underlying t = some (.slice (P.elem t)) := by rw [hE]; exact hu
  simp only [execOp, hx, hl, hh, hm, Option.map_some, Sem.run_bind]
  rw [run_sliceAt_slice w t _ _ _ _ hu', run_slice_lhm w t _ m c hu' k1 k2 k3 (l : Int) (h : Int) (mx : Int) (by omega) (by omega) (by omega) (by omega), hE, sizeOf_of hs, Result.andThen_ok]
  simp only [Int.toNat_natCast, sliced, restOf]
  rfl
/-- slices.overlaps of two blocks -/
theorem ro_overlaps {f : FuncId} {fn : Func} {tS tR e size : Nat} {a b : Operand} {ats : Array TypeId} {g1 o1 g2 o2 la ca lb cb : Nat} {t1 t2 : TypeId} {cs1 cs2 : Array Value} (hf : P.funcs[f]? = some fn) (hname : (fn.name == "runtime.NumGoroutine") = false)
    (hb : fn.body.isNone = true) (hnx : Extern.findNext fn = none) (he : Extern.find fn = some (Extern.SlicesOverlaps.overlaps #[tS, tS] #[tR])) (ht : elemQ P tS = some (e, size)) (ha : ev n L a = .slice (some ⟨g1, o1, none⟩) la ca) (hb2 : ev n L b = .slice (some ⟨g2, o2, none⟩) lb cb) (hne : g1 ≠ g2)
    (hA : Blk w g1 t1 cs1) (hB : Blk w g2 t2 cs2) (h0 : cs2.size ≠ 0) : RO P (ev n L) (.call { callee := .value (.func f), args := #[a, b], argTypes := ats }) w (.bool false) w := fun dst ty pos after g => by
  obtain ⟨hu, hs⟩ := elem_of ht
  have h1 := Lib.run_overlaps_apart (P := P) w tS tR e hu size (fun w => sizeOf_of hs) ⟨g1, o1, none⟩ ⟨g2, o2, none⟩ la ca lb cb hne t1 t2 cs1.size cs2.size (by unfold Blk at hA; simp [World.shape?, hA]) (by unfold Blk at hB; simp [World.shape?, hB]) h0 (hA.frozen _) (hA.frozen _)
  rw [show (#[a, b] : Array Operand) = [a, b].toArray from rfl, exec_call (fun _ => rfl)]
  simp only [List.map_cons, List.map_nil, ha, hb2]
  rw [run_callFunc_extern hf hname hb hnx he, h1]
  rfl
theorem ro_lit0 {ρ : Operand → Value} {e size by_ : Nat} {z : Value} (hq : litQ P t = some (e, size, by_, z)) : RO P ρ (.buildSlice t 0 #[]) w (.slice (some ⟨w.heap.size, 0, none⟩) 0 0) (w.alloc (.cells #[] e)) := fun _ _ _ _ _ => by
  obtain ⟨i, hu, hi, hs, _, hz⟩ := lit_of hq
  simp [execOp, Instr.buildSlice, run_underlying hu, sizeOf, typeInfo, hi, zeroValue, hz, Instr.fill, newRow]
  have : (Array.range 0) = #[] := by simp [Array.range]
  rw [this, Array.map_empty]
theorem st_lit0 {e size by_ : Nat} {z : Value} (hq : litQ P t = some (e, size, by_, z)) (base : Nat) (hbs : base ≤ w.heap.size) (k : ∀ g w', From w w' → g = w.heap.size → w'.ownsRow base e size (.slice (some ⟨g, 0, none⟩) 0 0) 0 [] → St P ops Q rest n ((d, .slice (some ⟨g, 0, none⟩) 0 0) :: L) w') :
    St P ops Q (⟨some d, .buildSlice t 0 #[], ty, pos, after, none⟩ :: rest) n L w :=
  st_val (ro_lit0 hq) (k _ _ (From.rfl_.new _) rfl ⟨by simp, .inr ⟨w.heap.size, 0, #[], rfl, hbs, heap_alloc_new w _, Nat.le_refl _, by decide, by simp, by simp⟩⟩)
theorem ro_eqlNilS {ρ : Operand → Value} {e yt : TypeId} {y : Operand} {a : Option Addr} {m c : Nat} (ht : P.underlying t = some (.slice e)) (hx : ρ x = .slice a m c) (hy : ρ y = .slice none 0 0) : RO P ρ (.binOp .eql t x y yt) w (.bool a.isNone) w :=
  ro_bin hx hy (by unfold eqGuard; cases a <;> rfl) (run_eql_slice_nil w t e a m c ht)
theorem ro_neqNilS {ρ : Operand → Value} {e yt : TypeId} {y : Operand} {a : Option Addr} {m c : Nat} (ht : P.underlying t = some (.slice e)) (hx : ρ x = .slice a m c) (hy : ρ y = .slice none 0 0) : RO P ρ (.binOp .neq t x y yt) w (.bool (!a.isNone)) w :=
  ro_bin hx hy (by unfold eqGuard; cases a <;> rfl) (run_neq_slice_nil w t e a m c ht)
end
/-! ### an own row written over -/
theorem own_over {w w' : World} {base e size n c g o : Nat} {xs vs : List Value} (h : w.ownsRow base e size (.slice (some ⟨g, 0, none⟩) n c) n xs) (hn : 0 < n) (hv : o + vs.length ≤ n * size) (hb : ∀ cur, Blk w g e (List.toArray cur) → o + vs.length ≤ cur.length → Blk w' g e (over cur o vs).toArray) :
    w'.ownsRow base e size (.slice (some ⟨g, 0, none⟩) n c) n (over xs o vs) := by
  obtain ⟨g', cur, hA, hg, hbk, h1, h2, h3, h4⟩ := own_blk h hn
  simp only [Option.some.injEq, Addr.mk.injEq, and_true] at hA
  subst hA
  have hle : n * size ≤ cur.length := by rw [h3]; exact Nat.mul_le_mul_right _ h1
  refine own_of hg (hb cur hbk (by omega)) h1 h2 ?_ ?_
  · rw [over_len _ _ _ (by omega), h3]
  · rw [over_take _ _ _ _ hv hle, h4]
section
variable {P : Program} {ops : Array Oper} {Q : Exit → Act → World → Prop} {rest : List Oper} {n : Nat} {L : List (Nat × Value)} {w : World} {ty : TypeId} {pos : String} {after : Array Edge} {t : TypeId} {x y : Operand}
/-- an element of an own row, written over -/
theorem st_putOwnK {base e size m c g o : Nat} {xs vs : List Value} (ht : sizeQ P t = some vs.length) (hx : ev n L x = .pointer (some ⟨g, o, none⟩)) (hy : ev n L y = .agg vs.toArray) (h1 : ∀ v ∈ vs, v.oneCell' = true)
    (ho : w.ownsRow base e size (.slice (some ⟨g, 0, none⟩) m c) m xs) (hm : 0 < m) (hi : o + vs.length ≤ m * size)
    (k : ∀ w', Only g w w' → w'.ownsRow base e size (.slice (some ⟨g, 0, none⟩) m c) m (over xs o vs) → St P ops Q rest n L w') : St P ops Q (⟨none, .store t x y, ty, pos, after, none⟩ :: rest) n L w := by
  obtain ⟨g', cur, hA, hg, hbk, h2, h3, h4, h5⟩ := own_blk ho hm
  simp only [Option.some.injEq, Addr.mk.injEq, and_true] at hA
  subst hA
  have hle : m * size ≤ cur.length := by rw [h4]; exact Nat.mul_le_mul_right _ h2
  refine st_store (rs_storeA ht hx hy h1 (hbk.there o vs.length (by simp; omega))) (k _ (Only.sets vs o w) ?_)
  exact own_over ho hm hi fun cur' hb' hl => Blk.sets vs o hb' hl
theorem st_putOwnC {base e size m c g o : Nat} {xs : List Value} {v : Value} (ht : sizeQ P t = some 1) (hx : ev n L x = .pointer (some ⟨g, o, none⟩)) (hy : ev n L y = v) (h1 : v.oneCell' = true)
    (ho : w.ownsRow base e size (.slice (some ⟨g, 0, none⟩) m c) m xs) (hi : o < m * size)
    (k : ∀ w', Only g w w' → w'.ownsRow base e size (.slice (some ⟨g, 0, none⟩) m c) m (xs.set o v) → St P ops Q rest n L w') : St P ops Q (⟨none, .store t x y, ty, pos, after, none⟩ :: rest) n L w := by
  have hlen : xs.length = m * size := ho.1
  have hc : w.cell? ⟨g, o, none⟩ = some (xs[o]'(by omega)) := by rw [ho.cellAt o hi]; simp [hlen, hi]
  exact st_store (rs_store ht hx hy h1 hc (ho.frozenAt o)) (k _ (Only.setCell w g o v) (ho.stored o v).1)
end
section
variable {α : Type} {f : α → List Value} {s : Nat}
theorem over_flat (hf : ∀ x, (f x).length = s) (L : List α) (i : Nat) (hi : i < L.length) (x : α) : over (L.flatMap f) (i * s) (f x) = (L.set i x).flatMap f := by
  unfold over
  rw [flat_take hf, hf, ← Nat.succ_mul, flat_drop hf]
  conv => rhs; rw [List.set_eq_take_append_cons_drop, if_pos hi]
  simp
theorem set_flat (hf : ∀ x, (f x).length = s) (L : List α) (i j : Nat) (hi : i < L.length) (hj : j < s) (x : α) (v : Value) (hx : f x = (f L[i]).set j v) : (L.flatMap f).set (i * s + j) v = (L.set i x).flatMap f := by
  have hL : L.flatMap f = (L.take i).flatMap f ++ (f L[i] ++ (L.drop (i + 1)).flatMap f) := by
    have h0 : L = L.take i ++ L[i] :: L.drop (i + 1) := by rw [← List.drop_eq_getElem_cons hi, List.take_append_drop]
    exact (congrArg (List.flatMap f) h0).trans (by rw [List.flatMap_append, List.flatMap_cons])
  have ht : ((L.take i).flatMap f).length = i * s := by rw [flat_len hf, List.length_take, Nat.min_eq_left (by omega)]
  rw [hL, List.set_append_right _ _ (by omega), ht, Nat.add_sub_cancel_left, List.set_append_left _ _ (by rw [hf]; exact hj), ← hx]
  conv => rhs; rw [List.set_eq_take_append_cons_drop, if_pos hi]
  simp
/-- in place: what a Delete leaves -/
theorem del_take {cur xs zs : List Value} {n i j c : Nat} (hij : i ≤ j) (hj : j ≤ n) (hc : n ≤ c) (h3 : cur.length = c * s) (h4 : cur.take (n * s) = xs) (hz : zs.length = (j - i) * s) :
    (over (over cur (i * s) (xs.drop (j * s))) ((i + (n - j)) * s) zs).take ((i + (n - j)) * s) = xs.take (i * s) ++ xs.drop (j * s) := by
  have hxl : xs.length = n * s := by rw [← h4, List.length_take, h3]; exact Nat.min_eq_left (Nat.mul_le_mul_right _ hc)
  have hd : (xs.drop (j * s)).length = (n - j) * s := by rw [List.length_drop, hxl, Nat.sub_mul]
  have e1 : (i + (n - j)) * s = i * s + (n - j) * s := Nat.add_mul ..
  have e2 : n * s ≤ c * s := Nat.mul_le_mul_right _ hc
  have e3 : (i + (n - j)) * s ≤ n * s := Nat.mul_le_mul_right _ (by omega)
  rw [over_take_lo _ _ _ _ (Nat.le_refl _) (by rw [over_len _ _ _ (by omega)]; omega), over_take _ _ _ _ (by omega) (by omega)]
  unfold over
  rw [List.drop_of_length_le (l := List.take ((i + (n - j)) * s) cur) (by rw [List.length_take]; omega), List.append_nil, List.take_take, Nat.min_eq_left (by omega)]
  congr 1
  rw [← h4, List.take_take, Nat.min_eq_left]
  exact Nat.mul_le_mul_right _ (by omega)
/-- in place: what an Insert leaves -/
theorem ins_take {cur xs vs : List Value} {n i m c : Nat} (hi : i ≤ n) (hc : n + m ≤ c) (h3 : cur.length = c * s) (hx : xs.length = n * s) (h4 : cur.take (i * s) = xs.take (i * s)) (hv : vs.length = m * s) :
    (over (over cur ((i + m) * s) (xs.drop (i * s))) (i * s) vs).take ((n + m) * s) = xs.take (i * s) ++ vs ++ xs.drop (i * s) ∧ (over (over cur (i * s) vs) ((i + m) * s) (xs.drop (i * s))).take ((n + m) * s) = xs.take (i * s) ++ vs ++ xs.drop (i * s) := by
  have hd : (xs.drop (i * s)).length = (n - i) * s := by rw [List.length_drop, hx, Nat.sub_mul]
  have e1 : (i + m) * s = i * s + m * s := Nat.add_mul ..
  have e4 : (n + m) * s = (i + m) * s + (n - i) * s := by rw [← Nat.add_mul]; congr 1; omega
  have e5 : (n + m) * s ≤ c * s := Nat.mul_le_mul_right _ hc
  have e6 : i * s ≤ n * s := Nat.mul_le_mul_right _ hi
  have ht : (cur.take (i * s)).length = i * s := by rw [List.length_take]; omega
  have key : ∀ l : List Value, l.length = c * s → (∀ k, k < i * s → l[k]? = xs[k]?) → (∀ k, k < m * s → l[i * s + k]? = vs[k]?) → (∀ k, k < (n - i) * s → l[(i + m) * s + k]? = (xs.drop (i * s))[k]?) → l.take ((n + m) * s) = xs.take (i * s) ++ vs ++ xs.drop (i * s) := by
    intro l hl k1 k2 k3
    apply List.ext_getElem?
    intro k
    rw [List.getElem?_take]
    by_cases h1 : k < i * s
    · rw [if_pos (by omega), k1 k h1, List.append_assoc, List.getElem?_append_left (by rw [List.length_take]; omega), List.getElem?_take_of_lt h1]
    · by_cases h2 : k < (i + m) * s
      · have := k2 (k - i * s) (by omega)
        rw [show i * s + (k - i * s) = k by omega] at this
        rw [if_pos (by omega), this, List.append_assoc, List.getElem?_append_right (by rw [List.length_take]; omega), List.length_take, Nat.min_eq_left (by omega), List.getElem?_append_left (by omega)]
      · by_cases h5 : k < (n + m) * s
        · have := k3 (k - (i + m) * s) (by omega)
          rw [show (i + m) * s + (k - (i + m) * s) = k by omega] at this
          rw [if_pos h5, this, List.getElem?_append_right (by rw [List.length_append, List.length_take]; omega)]
          congr 1
          rw [List.length_append, List.length_take]
          omega
        · rw [if_neg h5, List.getElem?_eq_none (by rw [List.length_append, List.length_append, List.length_take]; omega)]
  have hk : ∀ k, k < i * s → cur[k]? = xs[k]? := fun k hk => by
    have := congrArg (fun l => l[k]?) h4
    simpa [List.getElem?_take_of_lt hk] using this
  have l1 : (over cur ((i + m) * s) (xs.drop (i * s))).length = cur.length := over_len _ _ _ (by omega)
  have l2 : (over cur (i * s) vs).length = cur.length := over_len _ _ _ (by omega)
  refine ⟨key _ (by rw [over_len _ _ _ (by omega), l1, h3]) ?_ ?_ ?_, key _ (by rw [over_len _ _ _ (by omega), l2, h3]) ?_ ?_ ?_⟩
  · intro k hk'
    rw [over_at _ _ _ _ (by omega), if_neg (by omega), over_at _ _ _ _ (by omega), if_neg (by omega)]
    exact hk k hk'
  · intro k hk'
    rw [over_at _ _ _ _ (by omega), if_pos (by omega)]
    congr 1
    omega
  · intro k hk'
    rw [over_at _ _ _ _ (by omega), if_neg (by omega), over_at _ _ _ _ (by omega), if_pos (by omega)]
    congr 1
    omega
  · intro k hk'
    rw [over_at _ _ _ _ (by omega), if_neg (by omega), over_at _ _ _ _ (by omega), if_neg (by omega)]
    exact hk k hk'
  · intro k hk'
    rw [over_at _ _ _ _ (by omega), if_neg (by omega), over_at _ _ _ _ (by omega), if_pos (by omega)]
    congr 1
    omega
  · intro k hk'
    rw [over_at _ _ _ _ (by omega), if_pos (by omega)]
    congr 1
    omega
end
end Go.Proofs.YtjliefglelcooaaDoor
namespace Go.Proofs.YtjliefglelcooaaDoor
open Go.RowKit
theorem restOf_head {A : Option Addr} {c s : Nat} : restOf A c 0 s = A := by
  unfold restOf
  split
  · rfl
  · cases A with
    | none => rfl
    | some a => simp [Addr.add_zero']
theorem restOf_pos {g o c l s : Nat} (h : l < c) : restOf (some ⟨g, o, none⟩) c l s = some ⟨g, o + l * s, none⟩ := by
  unfold restOf
  rw [if_neg (by omega)]
  simp [Addr.add_mid]
theorem own_cap {w : World} {base e s n c m : Nat} {A : Option Addr} {xs : List Value} (h : w.ownsRow base e s (.slice A n c) m xs) : m ≤ c := by
  rcases h.2 with ⟨_, h0⟩ | ⟨g, cap, cur, hv, _, _, h3, _⟩
  · omega
  · simp only [Value.slice.injEq] at hv
    omega
theorem row_drop {w : World} {g e n o : Nat} {cur xs : List Value} (hb : Blk w g e cur.toArray) (hct : cur.take n = xs) : w.rangeAt g o (xs.drop o) := hb.range o _ fun j v hv => by
  rw [List.getElem?_drop, ← hct, List.getElem?_take] at hv
  split at hv
  · exact hv
  · cases hv
theorem row_take {w : World} {g e n o : Nat} {cur xs : List Value} (hb : Blk w g e cur.toArray) (hct : cur.take n = xs) : w.rangeAt g 0 (xs.take o) := hb.range 0 _ fun j v hv => by
  rw [List.getElem?_take] at hv
  rw [Nat.zero_add]
  split at hv
  · rw [← hct, List.getElem?_take] at hv
    split at hv
    · exact hv
    · cases hv
  · cases hv
theorem grown_new {w w1 w2 : World} {r : Option Nat} {g : Nat} (h : w.grownBy w1 r) (o : Only g w1 w2) (hg : w.heap.size ≤ g) : w.grownBy w2 r :=
  ⟨o.os.trans h.os, o.tape.trans h.tape, o.output.trans h.output, by rw [o.size]; exact h.size, fun k hk hr => (o.block k (by omega)).trans (h.block k hk hr)⟩
end Go.Proofs.YtjliefglelcooaaDoor

namespace Go.Proofs.YtjliefglelcooaaDoor
open Go.RowKit
def depMu (l : List Oper) (K mu i : Nat) : Bool := Nat.blt mu K && match l[mu]? with | some om => dep2 l om i | none => false
theorem depMu_spec {l : List Oper} {K mu i : Nat} (h : depMu l K mu i = true) : mu < K ∧ ∃ om, l[mu]? = some om ∧ dep2 l om i = true := by
  unfold depMu at h
  rw [Bool.and_eq_true] at h
  refine ⟨Nat.le_of_ble_eq_true h.1, ?_⟩
  have h2 := h.2
  split at h2
  · rename_i om hom
    exact ⟨om, hom, h2⟩
  · cases h2
def OpsOK9 (P : Program) (ops : Array Oper) (n : Nat) (L : List (Nat × Value)) (I1 I2 : World → Prop) (R1 R2 : Nat → Value → World → Prop) (l0 : List Oper) (K : Nat) (mu : Nat) : Nat → List Oper → Prop
  | _, [] => True
  | i, o :: r => (Nat.beq i mu = false → match depMu l0 K mu i with
      | true => ∀ w', I1 w' → AllF R1 w' (slotsD l0 K i o) fun M => OpOK P ops n (M ++ L) o w' (R1 (o.dst.getD 0))
      | false => ∀ w', I2 w' → AllF R2 w' (slotsD l0 K i o) fun M => OpOK P ops n (M ++ L) o w' (R1 (o.dst.getD 0))) ∧ OpsOK9 P ops n L I1 I2 R1 R2 l0 K mu (i + 1) r
theorem opsOK9_at {P : Program} {ops : Array Oper} {n : Nat} {L : List (Nat × Value)} {I1 I2 : World → Prop} {R1 R2 : Nat → Value → World → Prop} {l0 : List Oper} {K mu : Nat} : ∀ {l : List Oper} {k : Nat}, OpsOK9 P ops n L I1 I2 R1 R2 l0 K mu k l → ∀ (i : Nat) (o : Oper), l[i]? = some o → k + i ≠ mu →
    match depMu l0 K mu (k + i) with
      | true => ∀ w', I1 w' → AllF R1 w' (slotsD l0 K (k + i) o) fun M => OpOK P ops n (M ++ L) o w' (R1 (o.dst.getD 0))
      | false => ∀ w', I2 w' → AllF R2 w' (slotsD l0 K (k + i) o) fun M => OpOK P ops n (M ++ L) o w' (R1 (o.dst.getD 0))
  | [], _, _, i, o, h, _ => by simp at h
  | x :: r, k, ⟨h1, h2⟩, 0, o, h, hne => by
    simp only [List.getElem?_cons_zero, Option.some.injEq] at h
    subst h
    rw [Nat.add_zero] at hne ⊢
    refine h1 ?_
    rw [← Bool.not_eq_true]
    intro hb
    exact hne (Nat.eq_of_beq_eq_true hb)
  | x :: r, k, ⟨h1, h2⟩, i + 1, o, h, hne => by
    have := opsOK9_at h2 i o (by simpa using h) (by omega)
    rwa [show k + 1 + i = k + (i + 1) by omega] at this
theorem opsOK9_at2 {P : Program} {ops : Array Oper} {n : Nat} {L : List (Nat × Value)} {I1 I2 : World → Prop} {R1 R2 : Nat → Value → World → Prop} {l0 : List Oper} {K mu : Nat} {l : List Oper} (h : OpsOK9 P ops n L I1 I2 R1 R2 l0 K mu 0 l) (i : Nat) (o : Oper) (ho : l[i]? = some o) (hne : i ≠ mu) (hd : depMu l0 K mu i = false)
    (w' : World) (hw : I2 w') : AllF R2 w' (slotsD l0 K i o) fun M => OpOK P ops n (M ++ L) o w' (R1 (o.dst.getD 0)) := by
  have := opsOK9_at h i o ho (by rw [Nat.zero_add]; exact hne)
  rw [Nat.zero_add, hd] at this
  exact this w' hw
theorem opsOK9_at1 {P : Program} {ops : Array Oper} {n : Nat} {L : List (Nat × Value)} {I1 I2 : World → Prop} {R1 R2 : Nat → Value → World → Prop} {l0 : List Oper} {K mu : Nat} {l : List Oper} (h : OpsOK9 P ops n L I1 I2 R1 R2 l0 K mu 0 l) (i : Nat) (o : Oper) (ho : l[i]? = some o) (hne : i ≠ mu) (hd : depMu l0 K mu i = true)
    (w' : World) (hw : I1 w') : AllF R1 w' (slotsD l0 K i o) fun M => OpOK P ops n (M ++ L) o w' (R1 (o.dst.getD 0)) := by
  have := opsOK9_at h i o ho (by rw [Nat.zero_add]; exact hne)
  rw [Nat.zero_add, hd] at this
  exact this w' hw
section late
variable {P : Program} {Q : Exit → Act → World → Prop} {n : Nat} {L : List (Nat × Value)} {w : World} {l : List Oper} {K mu : Nat} {I1 I2 : World → Prop} {R1 R : Nat → Value → World → Prop}
theorem late_fin9 (hQ : PQ Q) (hc : monoD l K = true) (hop : OpsOK9 P l.toArray n L I1 I2 R1 R l K mu 0 (l.take K)) (h12 : ∀ t v w, R1 t v w → R t v w) (hmuL : mu < K → isLateD l K mu = false)
    (hend : ∀ w', I2 w' → AllF R w' (preOf l K) fun M => St P l.toArray Q (l.drop K) n (M ++ L) w') (m : Nat) (listed : Array Bool) (L' : List (Nat × Value)) (w' : World) (hcl : ClosedD l listed) (hcount : listed.toList.count false = m) (hs : listed.size = l.length)
    (htail : ∀ j, K ≤ j → j < l.length → listed.getD j true = false) (hF : I2 w')
    (hfr : ∀ t, (∀ i o, i < K → l[i]? = some o → listed.getD i true = true → o.dst ≠ some t) → look L' t = look L t)
    (hR : ∀ i o d, i < K → l[i]? = some o → listed.getD i true = true → o.dst = some d → R d (look L' d) w') (hpre : ∀ i, i < K → listed.getD i true = false → isLateD l K i = true) : wpAny P .any l.toArray Q m listed (mkA n L') w' := by
  have hc1 := (Bool.and_eq_true_iff.1 hc).1
  have hlate := (Bool.and_eq_true_iff.1 hc).2
  have hKl : K ≤ l.length := of_decide_eq_true (Bool.and_eq_true_iff.1 hc1).1
  have hck := (List.all_eq_true.1 (Bool.and_eq_true_iff.1 hc1).2)
  -- what is known of an operation of the head
  have hhead : ∀ i, i < K → ∃ o d, l[i]? = some o ∧ o.dst = some d ∧ isSelect o.op = false ∧ (∀ j oj, j < K → j ≠ i → l[j]? = some oj → oj.dst ≠ some d) := by
    intro i hi
    have hil : i < l.length := by omega
    have hx := hck i (List.mem_range.2 hil)
    rw [List.getElem?_eq_getElem hil] at hx
    simp only [Bool.and_eq_true] at hx
    have h3 := hx.2
    rw [if_pos hi] at h3
    simp only [Bool.and_eq_true] at h3
    obtain ⟨h3a, h3b⟩ := h3
    cases hod : (l[i]).dst with
    | none => rw [hod] at h3a; cases h3a
    | some d =>
      rw [hod] at h3a
      simp only [Bool.and_eq_true] at h3a
      refine ⟨l[i], d, List.getElem?_eq_getElem hil, hod, by simpa using hx.1.2, fun j oj hj hne hoj e => ?_⟩
      have h5 := List.all_eq_true.1 h3a.1 j (List.mem_range.2 hj)
      rw [hoj] at h5
      simp [hne, e] at h5
  -- the values of those that are still to come
  have hval : ∀ i, i < K → listed.getD i true = false → ∃ v, ∀ o d, l[i]? = some o → o.dst = some d → Yields P l.toArray o v (mkA n L') ∧ R d v w' := by
    intro i hi hf
    have hil8 := hpre i hi hf
    obtain ⟨o, d, ho, hd, hsel, _⟩ := hhead i hi
    obtain ⟨hk, hg, hap⟩ := late_specD hlate hi ho hil8
    have hfact : ∀ t ∈ slotsD l K i o, R t (look L' t) w' := by
      intro t ht
      obtain ⟨ht2, j, oj, hjK, hj, hdj, hji, _⟩ := slotsD_spec hc hi ho ht
      refine hR j oj t hjK hj ?_ hdj
      cases hb : listed.getD j true with
      | true => rfl
      | false =>
        have h6 := hpre j hjK hb
        have h7 := (Oper.apart_spec (hap j oj hj (by omega) (.inl ⟨hjK, h6⟩))).2.2 t hdj
        exact absurd (by simpa using ht2) h7
    have hlooks := looksD (L := L) hc hcl hs ho (by omega) hf hfr
    have hnd : depMu l K mu i = false := by
      rw [← Bool.not_eq_true]
      intro hd
      obtain ⟨hmK, om, hom, hdep⟩ := depMu_spec hd
      have hml : listed.getD mu true = true := by
        cases hb : listed.getD mu true with
        | true => rfl
        | false => exact absurd (hpre mu hmK hb) (by rw [hmuL hmK]; simp)
      have hml2 : listed.getD mu false = true := by rw [← getD_true_false (by omega)]; exact hml
      have := dep_listed hcl (fun e he hb => hcl mu om hom hml2 e he hb) hdep
      rw [← getD_true_false (by omega), hf] at this
      cases this
    have hok := allF_at (look L') _ hfact (opsOK9_at2 hop i o (by rw [List.getElem?_take, if_pos hi]; exact ho) (by intro e; rw [e, hmuL (by omega)] at hil8; cases hil8) hnd w' hF)
    obtain ⟨hE, hW⟩ := looksAt_agree (n := n) (ops := l.toArray) (o := o) hsel hlooks
    rw [hd] at hok
    simp only [Option.getD_some] at hok
    have hyl : ∃ v, Yields P l.toArray o v (mkA n L') ∧ R d v w' := by
      unfold OpOK at hok
      rw [hE, hW] at hok
      rcases hok with ⟨hw, ⟨v, w'', hr, hF', hRv⟩ | ⟨f, args, hr, hcall⟩⟩ | ⟨hw, hRv⟩
      · obtain ⟨rfl, hall⟩ := late_run hk hr
        refine ⟨v, .inl ⟨hw, fun w2 => ?_⟩, h12 _ _ _ hRv⟩
        rw [eval_mkA]
        exact hall w2
      · exfalso
        obtain ⟨dst, op, ty, pos, after, guard⟩ := o
        cases op <;> simp only [lateK, Bool.false_eq_true] at hk <;> simp only [execOp, Sem.run_pure, Sem.run_bind, Result.ok.injEq] at hr
        · cases hr.1
        · cases hr.1
        · rename_i x i'
          cases hx : ev n L' x <;> simp only [hx, Instr.extract] at hr <;> (try (simp at hr; done))
          rename_i vs
          cases hv : vs[i']? <;> simp [hv] at hr
      · exact ⟨undef, .inr ⟨hw, rfl⟩, h12 _ _ _ hRv⟩
    obtain ⟨v, hv1, hv2⟩ := hyl
    refine ⟨v, fun o' d' ho' hd' => ?_⟩
    rw [ho] at ho'
    cases ho'
    rw [hd] at hd'
    cases hd'
    exact ⟨hv1, hv2⟩
  obtain ⟨f, hf⟩ : ∃ f : Nat → Value, ∀ i, i < K → listed.getD i true = false → ∀ o d, l[i]? = some o → o.dst = some d → Yields P l.toArray o (f i) (mkA n L') ∧ R d (f i) w' := by
    refine ⟨fun i => open Classical in if h : ∃ v, ∀ o d, l[i]? = some o → o.dst = some d → Yields P l.toArray o v (mkA n L') ∧ R d v w' then h.choose else undef, fun i hi hl => ?_⟩
    have h := hval i hi hl
    simp only [dif_pos h]
    exact h.choose_spec
  have hUm : ∀ i, i ∈ (List.range K).filter (fun i => !listed.getD i true) ↔ i < K ∧ listed.getD i true = false := fun i => by
    rw [List.mem_filter, List.mem_range]
    simp
  obtain ⟨U, hU, hUn⟩ : ∃ U : List Nat, (∀ i, i ∈ U ↔ i < K ∧ listed.getD i true = false) ∧ U.Nodup := ⟨_, hUm, List.nodup_range.sublist (List.filter_sublist ..)⟩
  have hbind : ∀ {i : Nat} {o : Oper}, l[i]? = some o → (l[i]?).bind (·.dst) = o.dst := fun h => by rw [h]; rfl
  -- the frame with all of them
  have hRall : ∀ d ∈ preOf l K, R d (look ((U.filterMap fun i => ((l[i]?).bind (·.dst)).map fun d => (d, f i)) ++ L') d) w' := by
    intro d hd
    obtain ⟨o, ho, hod⟩ := List.mem_filterMap.1 hd
    obtain ⟨i, hi⟩ := List.mem_iff_getElem?.1 ho
    rw [List.getElem?_take] at hi
    split at hi
    · rename_i hiK
      obtain ⟨o', d', ho', hd', _, hdist⟩ := hhead i hiK
      rw [hi] at ho'
      cases ho'
      rw [hod] at hd'
      cases hd'
      have hne : ∀ j ∈ U, j ≠ i → (l[j]?).bind (·.dst) ≠ some d := fun j hj hji => by
        have hjK := ((hU j).1 hj).1
        obtain ⟨oj, dj, hoj, _⟩ := hhead j hjK
        rw [hbind hoj]
        exact hdist j oj hjK hji hoj
      cases hb : listed.getD i true with
      | true =>
        rw [look_pend U fun j hj => hne j hj (fun e => by subst e; have := ((hU j).1 hj).2; rw [hb] at this; cases this)]
        exact hR i o d hiK hi hb hod
      | false =>
        rw [look_pend_at U ((hU i).2 ⟨hiK, hb⟩) ((hbind hi).trans hod) hne]
        exact (hf i hiK hb o d hi hod).2
    · cases hi
  have he := allF_at _ (preOf l K) hRall (hend w' hF)
  have hL : mkA n ((preOf l K).map (fun d => (d, look ((U.filterMap fun i => ((l[i]?).bind (·.dst)).map fun d => (d, f i)) ++ L') d)) ++ L) = pend l f U (mkA n L') := by
    rw [pend_mkA]
    refine mkA_congr fun t _ => ?_
    rw [look_map]
    split
    · rfl
    · rename_i hne
      have hnd : ∀ i, i < K → ∀ o, l[i]? = some o → o.dst ≠ some t := fun i hi o ho hod => hne (by
        simp only [List.elem_eq_mem, decide_eq_true_eq]
        exact List.mem_filterMap.2 ⟨o, List.mem_iff_getElem?.2 ⟨i, by rw [List.getElem?_take, if_pos hi]; exact ho⟩, hod⟩)
      rw [look_pend U fun j hj => by
        have hjK := ((hU j).1 hj).1
        obtain ⟨oj, dj, hoj, _⟩ := hhead j hjK
        rw [hbind hoj]
        exact hnd j hjK oj hoj]
      exact (hfr t fun i o hi ho _ hod => hnd i hi o ho hod).symm
  replace he := he.out
  rw [hL] at he
  refine tail_lateD hQ hc m K listed U _ w' hcl hcount hs (Nat.le_refl _) hKl (fun j h1 h2 => by rw [htail j h1 h2]; simp [h1]) hUn (fun j hj => ⟨fun h => (hU j).2 ⟨hj, h⟩, fun h => ((hU j).1 h).2⟩) (fun j hj => ?_) he
  obtain ⟨h1, h2⟩ := (hU j).1 hj
  obtain ⟨oj, dj, hoj, hdj, _⟩ := hhead j h1
  exact ⟨h1, hpre j h1 h2, oj, hoj, (hf j h1 h2 oj dj hoj hdj).1⟩
theorem mono_mu9 (hQ : PQ Q) (hc : monoD l K = true) (hm1 : ∀ w1 w2, From w1 w2 → I1 w1 → I1 w2) (hm2 : ∀ w1 w2, From w1 w2 → I2 w1 → I2 w2) (hmono1 : ∀ t v w1 w2, From w1 w2 → R1 t v w1 → R1 t v w2) (hmono : ∀ t v w1 w2, From w1 w2 → R t v w1 → R t v w2)
    (hop : OpsOK9 P l.toArray n L I1 I2 R1 R l K mu 0 (l.take K)) (h12 : ∀ t v w, R1 t v w → R t v w) (hmuL : mu < K → isLateD l K mu = false) (hmu : MuAt P l.toArray n L I1 I2 R1 R l K mu l[mu]?)
    (hend : ∀ w', I2 w' → AllF R w' (preOf l K) fun M => St P l.toArray Q (l.drop K) n (M ++ L) w') :
    ∀ (m : Nat) (listed : Array Bool) (L' : List (Nat × Value)) (w' : World), ClosedD l listed → listed.toList.count false = m → listed.size = l.length → (∀ j, K ≤ j → j < l.length → listed.getD j true = false) → I2 w' → (listed.getD mu true = false → I1 w') →
      (∀ t, (∀ i o, i < K → l[i]? = some o → listed.getD i true = true → o.dst ≠ some t) → look L' t = look L t) →
      (∀ i o d, i < K → l[i]? = some o → listed.getD i true = true → o.dst = some d → R d (look L' d) w') → (listed.getD mu true = false → ∀ i o d, i < K → l[i]? = some o → listed.getD i true = true → o.dst = some d → R1 d (look L' d) w') → wpAny P .any l.toArray Q m listed (mkA n L') w' := by
  have hc1 := (Bool.and_eq_true_iff.1 hc).1
  have hlate := (Bool.and_eq_true_iff.1 hc).2
  have hKl : K ≤ l.length := of_decide_eq_true (Bool.and_eq_true_iff.1 hc1).1
  have hck := (List.all_eq_true.1 (Bool.and_eq_true_iff.1 hc1).2)
  intro m
  induction m with
  | zero =>
    intro listed L' w' hcl hcount hs htail hF hF1 hfr hR hR1
    exact late_fin9 hQ hc hop h12 hmuL hend 0 listed L' w' hcl hcount hs htail hF hfr hR (fun i hi h => by
      have hm : listed[i]'(by omega) ∈ listed.toList := by simp
      have hb : listed[i]'(by omega) = false := by simpa [Array.getD, show i < listed.size by omega] using h
      rw [hb] at hm
      exact absurd hcount (Nat.pos_iff_ne_zero.1 (List.count_pos_iff.2 hm)))
  | succ m ih =>
    intro listed L' w' hcl hcount hs htail hF hF1 hfr hR hR1
    by_cases hpre : ∀ i, i < K → listed.getD i true = false → isLateD l K i = true
    · exact late_fin9 hQ hc hop h12 hmuL hend (m + 1) listed L' w' hcl hcount hs htail hF hfr hR hpre
    · -- some operation of the head is still to come
      have hn0 : ∃ i, i < K ∧ listed.getD i true = false ∧ isLateD l K i = false := by
        refine Classical.byContradiction fun hno => hpre fun i hi hf => ?_
        cases hb : isLateD l K i with
        | true => rfl
        | false => exact absurd ⟨i, hi, hf, hb⟩ hno
      obtain ⟨n0, hn0⟩ := hn0
      obtain ⟨i0, hi0, hmin⟩ := exists_least (p := fun i => i < K ∧ listed.getD i true = false) ⟨n0, hn0.1, hn0.2.1⟩
      have hi0l : i0 < l.length := by omega
      have hready : i0 ∈ Region.ready .any l.toArray listed := by
        refine mem_ready.2 ⟨hi0.2, l[i0], by rw [List.getElem?_toArray, List.getElem?_eq_getElem hi0l], fun e he hb => ?_⟩
        have hx := hck i0 (List.mem_range.2 hi0l)
        rw [List.getElem?_eq_getElem hi0l] at hx
        simp only [Bool.and_eq_true] at hx
        have he2 := List.all_eq_true.1 hx.1.1 e (by simpa using he)
        rw [hb] at he2
        simp at he2
        rw [← getD_true_false (by omega)]
        cases hb2 : listed.getD e.on true with
        | true => rfl
        | false => exact absurd (hmin e.on ⟨by omega, hb2⟩) (by omega)
      refine ⟨fun h0 => (by rw [h0] at hready; cases hready), fun i hi => ?_⟩
      obtain ⟨h0, o, ho, hall⟩ := mem_ready.1 hi
      rw [List.getElem?_toArray] at ho
      have hil : i < l.length := (List.getElem?_eq_some_iff.1 ho).1
      have hx := hck i (List.mem_range.2 hil)
      rw [ho] at hx
      simp only [Bool.and_eq_true] at hx
      have hiK : i < K := by
        rcases Nat.lt_or_ge i K with h | h
        · exact h
        · exfalso
          have h5 := dep_listed hcl hall (nonlate_edgeD hn0.2.2 ho h)
          rw [← getD_true_false (by omega), hn0.2.1] at h5
          cases h5
      have h3 := hx.2
      rw [if_pos hiK] at h3
      simp only [Bool.and_eq_true] at h3
      obtain ⟨h3a, h3b⟩ := h3
      cases hod : o.dst with
      | none => rw [hod] at h3a; cases h3a
      | some d =>
        rw [hod] at h3a
        simp only [Bool.and_eq_true] at h3a
        have hlooks := looksD (L := L) hc hcl hs ho hil h0 hfr
        have hfactG : ∀ (RR : Nat → Value → World → Prop), (∀ i o d, i < K → l[i]? = some o → listed.getD i true = true → o.dst = some d → RR d (look L' d) w') → ∀ t ∈ slotsD l K i o, RR t (look L' t) w' := by
          intro RR hRR t ht
          obtain ⟨_, j, oj, hjK, hj, hd, _, hdep⟩ := slotsD_spec hc hiK ho ht
          have h6 := dep_listed hcl hall hdep
          exact hRR j oj t hjK hj (by rw [getD_true_false (by omega)]; exact h6) hd
        have hsel : isSelect o.op = false := by simpa using hx.1.2
        obtain ⟨hE, hW⟩ := looksAt_agree (n := n) (ops := l.toArray) (o := o) hsel hlooks
        have next : ∀ v w'', I2 w'' → (i ≠ mu → listed.getD mu true = false → I1 w'') → R d v w'' → (i ≠ mu → R1 d v w'') → (∀ t u, t ≠ d → R t u w' → (i = mu → R1 t u w') → R t u w'') → (i ≠ mu → ∀ t u, R1 t u w' → R1 t u w'') → wpAny P .any l.toArray Q m (listed.setIfInBounds i true) ((mkA n L').put (some d) v) w'' := by
          intro v w'' hI2' hI1' hRv hR1v hst hst1
          rw [put_mkA]
          have hne : ∀ j oj d', j < K → l[j]? = some oj → j ≠ i → oj.dst = some d' → d' ≠ d := by
            intro j oj d' hj hoj hji hd e
            have h5 := List.all_eq_true.1 h3a.1 j (List.mem_range.2 hj)
            rw [hoj] at h5
            simp [hji, hd, e] at h5
          refine ih _ _ w'' (closed_set hcl ho hall) ?_ (by simpa using hs) (fun j hj1 hj2 => ?_) hI2' (fun hml => ?_) (fun t ht => ?_) (fun j oj d' hj hoj hlj hd => ?_) (fun hml j oj d' hj hoj hlj hd => ?_)
          · have hil' : i < listed.size := by omega
            have hfalse : listed.toList[i]? = some false := by
              rw [Array.getElem?_toList, Array.getElem?_eq_getElem hil']
              simp [Array.getD, hil'] at h0
              rw [h0]
            rw [Array.toList_setIfInBounds]
            have := count_set_true (l := listed.toList) (i := i) hfalse
            omega
          · rw [getD_set_ne true (by omega)]
            exact htail j hj1 hj2
          · have him : i ≠ mu := fun e => by subst e; simp [show i < listed.size by omega] at hml
            rw [getD_set_ne true him] at hml
            exact hI1' him hml
          · have htd : t ≠ d := fun e => ht i o hiK ho (by simp [show i < listed.size by omega]) (by rw [hod, e])
            rw [look_cons, if_neg htd]
            refine hfr t fun j oj hj hoj hlj => ht j oj hj hoj ?_
            by_cases e : i = j
            · subst e; rw [h0] at hlj; cases hlj
            · rw [getD_set_ne true e]; exact hlj
          · rw [look_cons]
            by_cases e : j = i
            · subst e
              rw [ho] at hoj
              cases hoj
              rw [hod] at hd
              cases hd
              rw [if_pos rfl]
              exact hRv
            · have hdd := hne j oj d' hj hoj e hd
              rw [if_neg hdd]
              rw [getD_set_ne true (Ne.symm e)] at hlj
              refine hst _ _ hdd (hR j oj d' hj hoj hlj hd) (fun e2 => ?_)
              subst e2
              exact hR1 h0 j oj d' hj hoj hlj hd
          · have him : i ≠ mu := fun e => by subst e; simp [show i < listed.size by omega] at hml
            rw [getD_set_ne true him] at hml
            rw [look_cons]
            by_cases e : j = i
            · subst e
              rw [ho] at hoj
              cases hoj
              rw [hod] at hd
              cases hd
              rw [if_pos rfl]
              exact hR1v him
            · rw [if_neg (hne j oj d' hj hoj e hd)]
              rw [getD_set_ne true (Ne.symm e)] at hlj
              exact hst1 him _ _ (hR1 hml j oj d' hj hoj hlj hd)
        unfold wpOp
        rw [List.getElem?_toArray, ho]
        show if Region.wanted o (yielded l.toArray (mkT n L')) = true then _ else _
        by_cases him : i = mu
        · subst him
          rw [ho] at hmu
          have hok := allF_at (look L') _ (hfactG R1 (hR1 h0)) (hmu w' (hF1 h0))
          rw [hod] at hok
          simp only [Option.getD_some] at hok
          unfold MuOK at hok
          rw [hE, hW] at hok
          obtain ⟨hw, ⟨v, w'', hr, hI, hRv, hst⟩ | ⟨f, args, hr, hcall⟩⟩ := hok
          · rw [if_pos hw]
            refine .inl ?_
            unfold Oper.wp
            rw [eval_mkA, hr, Oper.upon_value, hod]
            exact next v w'' hI (fun h => absurd rfl h) hRv (fun h => absurd rfl h) (fun t u ht _ h1 => hst t u ht (h1 rfl)) (fun h => absurd rfl h)
          · rw [if_pos hw]
            refine .inl ?_
            unfold Oper.wp
            rw [eval_mkA, hr, Oper.upon_enter, hod]
            refine Calls.mono hcall fun e w'' ⟨v, he, hI, hRv, hst⟩ => ?_
            subst he
            exact next v w'' hI (fun h => absurd rfl h) hRv (fun h => absurd rfl h) (fun t u ht _ h1 => hst t u ht (h1 rfl)) (fun h => absurd rfl h)
        · have hok : OpOK P l.toArray n (((slotsD l K i o).map fun d => (d, look L' d)) ++ L) o w' (R1 (o.dst.getD 0)) := by
            cases hdm : depMu l K mu i with
            | false => exact allF_at (look L') _ (hfactG R hR) (opsOK9_at2 hop i o (by rw [List.getElem?_take, if_pos hiK]; exact ho) him hdm w' hF)
            | true =>
              have hml : listed.getD mu true = false := by
                obtain ⟨hmK, om, hom, hdep⟩ := depMu_spec hdm
                rw [← Bool.not_eq_true]
                intro hml
                have hml2 : listed.getD mu false = true := by rw [← getD_true_false (by omega)]; exact hml
                have := dep_listed hcl (fun e he hb => hcl mu om hom hml2 e he hb) hdep
                rw [← getD_true_false (by omega), h0] at this
                cases this
              exact allF_at (look L') _ (hfactG R1 (hR1 hml)) (opsOK9_at1 hop i o (by rw [List.getElem?_take, if_pos hiK]; exact ho) him hdm w' (hF1 hml))
          rw [hod] at hok
          simp only [Option.getD_some] at hok
          unfold OpOK at hok
          rw [hE, hW] at hok
          have next' : ∀ v w'', From w' w'' → R1 d v w'' → wpAny P .any l.toArray Q m (listed.setIfInBounds i true) ((mkA n L').put (some d) v) w'' := fun v w'' hF' hRv =>
            next v w'' (hm2 _ _ hF' hF) (fun _ h => hm1 _ _ hF' (hF1 h)) (h12 _ _ _ hRv) (fun _ => hRv) (fun t u _ h _ => hmono _ _ _ _ hF' h) (fun _ t u h => hmono1 _ _ _ _ hF' h)
          rcases hok with ⟨hw, ⟨v, w'', hr, hF', hRv⟩ | ⟨f, args, hr, hcall⟩⟩ | ⟨hw, hRv⟩
          · rw [if_pos hw]
            refine .inl ?_
            unfold Oper.wp
            rw [eval_mkA, hr, Oper.upon_value, hod]
            exact next' v w'' hF' hRv
          · rw [if_pos hw]
            refine .inl ?_
            unfold Oper.wp
            rw [eval_mkA, hr, Oper.upon_enter, hod]
            refine Calls.mono hcall fun e w'' ⟨v, he, hF', hRv⟩ => ?_
            subst he
            exact next' v w'' hF' hRv
          · rw [if_neg (by rw [hw]; simp), hod]
            exact next' undef w' From.rfl_ hRv

/-- a region that draws its order, with one change -/
theorem cd_mu9 {id : Nat} (K mu : Nat) (Ex : List Nat) (RL : List (Nat × (Value → World → Prop))) (I1 I2 : World → Prop) (hQ : PQ Q) (hm : P.follows .mixedOrders = true) (hc : monoD l K = true) (hl : isLateD l K mu = false) (hmono : MonoR RL)
    (h0 : I1 { w with drawn := w.drawn + 1 }) (h0' : I2 { w with drawn := w.drawn + 1 }) (hm1 : ∀ w1 w2, From w1 w2 → I1 w1 → I1 w2) (hm2 : ∀ w1 w2, From w1 w2 → I2 w1 → I2 w2)
    (hop : OpsOK9 P l.toArray n L I1 I2 (lookR RL) (lookE Ex RL) l K mu 0 (l.take K)) (hmu : MuAt P l.toArray n L I1 I2 (lookR RL) (lookE Ex RL) l K mu l[mu]?)
    (hend : ∀ w', I2 w' → AllF (lookE Ex RL) w' (preOf l K) fun M => St P l.toArray Q (l.drop K) n (M ++ L) w') : Cd P (.region id l.toArray true) Q n L w := by
  refine ⟨wp_region_any hm ?_⟩
  have hKl : K ≤ l.length := of_decide_eq_true (Bool.and_eq_true_iff.1 (Bool.and_eq_true_iff.1 hc).1).1
  have := mono_mu9 (Q := Q) hQ hc hm1 hm2 (lookR_mono hmono) (lookE_mono hmono) hop lookE_of (fun _ => hl) hmu hend l.length (Array.replicate l.length false) L { w with drawn := w.drawn + 1 } (closed_none l _) (by simp) (by simp)
    (fun j _ hj => by simp [Array.getD, hj]) h0' (fun _ => h0) (fun _ _ => rfl) (fun i o d hi _ hl => by
      have : i < l.length := by omega
      simp [Array.getD, this] at hl) (fun _ i o d hi _ hl => by
      have : i < l.length := by omega
      simp [Array.getD, this] at hl)
  simpa using this
end late
section
variable {P : Program} {ops : Array Oper} {n : Nat} {L : List (Nat × Value)} {w : World} {ty : TypeId} {pos : String} {after : Array Edge} {dst : Option Nat}
/-- a call, as the change of a region -/
theorem mu_call {f : FuncId} {l : List Operand} {ats : Array TypeId} {R post : Value → World → Prop} (hf : callable P f = true) (hc : Rt P f (l.map (ev n L)) w R) (k : ∀ v w', R v w' → post v w') :
    MuOK P ops n L ⟨dst, .call { callee := .value (.func f), args := l.toArray, argTypes := ats }, ty, pos, after, none⟩ w post :=
  ⟨rfl, .inr ⟨f, l.map (ev n L), by rw [exec_call (fun _ => rfl), run_call hf], hc.mono k⟩⟩
/-- an operation that changes memory by itself, as the change of a region -/
theorem mu_ro {op : Op} {v : Value} {w' : World} {post : Value → World → Prop} (hr : RO P (ev n L) op w v w') (h : post v w') : MuOK P ops n L ⟨dst, op, ty, pos, after, none⟩ w post := ⟨rfl, .inl ⟨v, w', hr _ _ _ _ _, h⟩⟩
end
end Go.Proofs.YtjliefglelcooaaDoor

namespace Go.Proofs.YtjliefglelcooaaDoor

/-- the bytes of a number -/
def nums (n : Nat) : List Nat := if n < 128 then [n] else (n % 128 + 128) :: nums (n / 128)
termination_by n

theorem nums_small {n : Nat} (h : n < 128) : nums n = [n] := by rw [nums, if_pos h]
theorem nums_big {n : Nat} (h : ¬ n < 128) : nums n = (n % 128 + 128) :: nums (n / 128) := by rw [nums, if_neg h]
theorem nums_pos (n : Nat) : 1 ≤ (nums n).length := by
  by_cases h : n < 128
  · simp [nums_small h]
  · simp [nums_big h]
theorem nums_len : ∀ (j n : Nat), n < 128 ^ (j + 1) → (nums n).length ≤ j + 1
  | 0, n, h => by rw [nums_small (by omega)]; simp
  | j + 1, n, h => by
    by_cases hn : n < 128
    · simp [nums_small hn]
    · rw [nums_big hn, List.length_cons]
      have := nums_len j (n / 128) (by rw [Nat.div_lt_iff_lt_mul (by decide), ← Nat.pow_succ]; exact h)
      omega
theorem nums_len9 {n : Nat} (h : n ≤ 9223372036854775807) : (nums n).length ≤ 9 := nums_len 8 n (by omega)
theorem nums_len_ge : ∀ (j n : Nat), 128 ^ j ≤ n → j + 1 ≤ (nums n).length
  | 0, n, _ => nums_pos n
  | j + 1, n, h => by
    have hn : ¬ n < 128 := by
      have : 128 ^ 1 ≤ 128 ^ (j + 1) := Nat.pow_le_pow_right (by decide) (by omega)
      omega
    rw [nums_big hn, List.length_cons]
    have := nums_len_ge j (n / 128) ((Nat.le_div_iff_mul_le (by decide)).2 (by rw [← Nat.pow_succ]; exact h))
    omega
theorem nums_byte : ∀ (j n : Nat), n < 128 ^ (j + 1) → ∀ b ∈ nums n, b < 256
  | 0, n, h, b, hb => by rw [nums_small (by omega)] at hb; simp at hb; omega
  | j + 1, n, h, b, hb => by
    by_cases hn : n < 128
    · rw [nums_small hn] at hb; simp at hb; omega
    · rw [nums_big hn, List.mem_cons] at hb
      rcases hb with rfl | hb
      · omega
      · exact nums_byte j (n / 128) (by rw [Nat.div_lt_iff_lt_mul (by decide), ← Nat.pow_succ]; exact h) b hb
theorem nums_byte9 {n : Nat} (h : n ≤ 9223372036854775807) : ∀ b ∈ nums n, b < 256 := nums_byte 8 n (by omega)

/-- the number that a list of bytes begins with, from place i on, n being there: the number, and how many bytes -/
def getAt : Nat → Nat → List Nat → Option (Nat × Nat)
  | _, _, [] => none
  | i, n, x :: t =>
    if 9 ≤ i then none
    else if 128 ≤ x then getAt (i + 1) (n + (x - 128) * 128 ^ i) t
    else if x = 0 ∧ 0 < i then none
    else some (n + x * 128 ^ i, i + 1)
def getNum (l : List Nat) : Option (Nat × Nat) := getAt 0 0 l

theorem getAt_nums : ∀ (j i n m : Nat) (t : List Nat), m < 128 ^ (j + 1) → i + j < 9 → (0 < i → 0 < m) → getAt i n (nums m ++ t) = some (n + m * 128 ^ i, i + (nums m).length)
  | 0, i, n, m, t, h, hi, h0 => by
    have hm : m < 128 := by omega
    rw [nums_small hm]
    simp only [List.cons_append, List.nil_append, getAt, List.length_cons, List.length_nil]
    rw [if_neg (by omega), if_neg (by omega), if_neg (by omega)]
  | j + 1, i, n, m, t, h, hi, h0 => by
    by_cases hm : m < 128
    · rw [nums_small hm]
      simp only [List.cons_append, List.nil_append, getAt, List.length_cons, List.length_nil]
      rw [if_neg (by omega), if_neg (by omega), if_neg (by omega)]
    · rw [nums_big hm]
      simp only [List.cons_append, getAt, List.length_cons]
      rw [if_neg (by omega), if_pos (by omega), getAt_nums j (i + 1) _ (m / 128) t (by rw [Nat.div_lt_iff_lt_mul (by decide), ← Nat.pow_succ]; exact h) (by omega) (by omega)]
      congr 2
      · have e : m = 128 * (m / 128) + m % 128 := (Nat.div_add_mod m 128).symm
        rw [Nat.pow_succ, Nat.add_sub_cancel, Nat.add_assoc]
        congr 1
        conv => rhs; rw [e, Nat.add_mul]
        rw [Nat.add_comm, Nat.mul_comm (128 ^ i) 128, ← Nat.mul_assoc, Nat.mul_comm (m / 128) 128]
      · omega
theorem getNum_nums {m : Nat} (h : m ≤ 9223372036854775807) (t : List Nat) : getNum (nums m ++ t) = some (m, (nums m).length) := by
  have := getAt_nums 8 0 0 m t (by omega) (by omega) (by omega)
  simpa [getNum] using this

theorem getAt_bound : ∀ (l : List Nat) (i n : Nat) {m k : Nat}, (∀ b ∈ l, b < 256) → getAt i n l = some (m, k) → n < 128 ^ i → m < 128 ^ k ∧ i < k ∧ k ≤ 9 ∧ k ≤ i + l.length
  | [], i, n, m, k, _, h, _ => by simp [getAt] at h
  | x :: t, i, n, m, k, hb, h, hn => by
    have hx := hb x (by simp)
    simp only [getAt] at h
    split at h
    · cases h
    · split at h
      · have hp : n + (x - 128) * 128 ^ i < 128 ^ (i + 1) := by
          have : (x - 128) * 128 ^ i ≤ 127 * 128 ^ i := Nat.mul_le_mul_right _ (by omega)
          rw [Nat.pow_succ]; omega
        have := getAt_bound t (i + 1) _ (fun b h => hb b (by simp [h])) h hp
        simp only [List.length_cons]
        omega
      · split at h
        · cases h
        · simp only [Option.some.injEq, Prod.mk.injEq] at h
          obtain ⟨rfl, rfl⟩ := h
          have : x * 128 ^ i ≤ 127 * 128 ^ i := Nat.mul_le_mul_right _ (by omega)
          simp only [List.length_cons, Nat.pow_succ]
          omega
/-- what is read is told by just these bytes -/
theorem getAt_back : ∀ (l : List Nat) (i n : Nat) {m k : Nat}, (∀ b ∈ l, b < 256) → getAt i n l = some (m, k) → ∃ q, m = n + q * 128 ^ i ∧ (0 < i → 0 < q) ∧ l.take (k - i) = nums q
  | [], i, n, m, k, _, h => by simp [getAt] at h
  | x :: t, i, n, m, k, hb, h => by
    have hx := hb x (by simp)
    simp only [getAt] at h
    split at h
    · cases h
    · split at h
      · rename_i h9 h128
        obtain ⟨q, hq, hq0, ht⟩ := getAt_back t (i + 1) _ (fun b h => hb b (by simp [h])) h
        have hq1 := hq0 (by omega)
        have hk : i + 1 < k := by
          by_cases hk : i + 1 < k
          · exact hk
          · exfalso
            have : k - (i + 1) = 0 := by omega
            rw [this] at ht
            have := nums_pos q
            rw [← ht] at this
            simp at this
        refine ⟨(x - 128) + 128 * q, ?_, by omega, ?_⟩
        · rw [hq, Nat.pow_succ, Nat.add_mul, Nat.add_assoc]
          congr 2
          rw [Nat.mul_comm (128 ^ i) 128, ← Nat.mul_assoc, Nat.mul_comm q 128]
        · rw [nums_big (by omega), show k - i = (k - (i + 1)) + 1 by omega, List.take_succ_cons, ht]
          congr 1
          · omega
          · congr 1; omega
      · split at h
        · cases h
        · simp only [Option.some.injEq, Prod.mk.injEq] at h
          obtain ⟨rfl, rfl⟩ := h
          exact ⟨x, rfl, by omega, by rw [nums_small (by omega), show i + 1 - i = 1 by omega]; simp⟩
theorem getNum_bound {l : List Nat} {m k : Nat} (hb : ∀ b ∈ l, b < 256) (h : getNum l = some (m, k)) : m ≤ 9223372036854775807 ∧ 0 < k ∧ k ≤ 9 ∧ k ≤ l.length := by
  have h1 := getAt_bound l 0 0 hb h (by decide)
  have h2 : 128 ^ k ≤ 128 ^ 9 := Nat.pow_le_pow_right (by decide) h1.2.2.1
  omega
theorem getNum_back {l : List Nat} {m k : Nat} (hb : ∀ b ∈ l, b < 256) (h : getNum l = some (m, k)) : l.take k = nums m := by
  obtain ⟨q, hq, _, ht⟩ := getAt_back l 0 0 hb h
  simp only [Nat.pow_zero, Nat.mul_one, Nat.zero_add] at hq
  subst hq
  simpa using ht

end Go.Proofs.YtjliefglelcooaaDoor

namespace Go.Proofs.YtjliefglelcooaaDoor

def strB (s : ByteArray) : List Nat := s.data.toList.map (·.toNat)
theorem strB_length (s : ByteArray) : (strB s).length = s.size := by rw [strB, List.length_map, Array.length_toList]; rfl
theorem strB_lt (s : ByteArray) : ∀ b ∈ strB s, b < 256 := by
  intro b hb
  simp only [strB, List.mem_map] at hb
  obtain ⟨x, _, rfl⟩ := hb
  exact x.toNat_lt
def bytesV (l : List Nat) : List Value := l.map fun (x : Nat) => .int .u8 x
theorem bytesV_length (l : List Nat) : (bytesV l).length = l.length := by simp [bytesV]
theorem bytesV_append (l m : List Nat) : bytesV (l ++ m) = bytesV l ++ bytesV m := by simp [bytesV]
theorem strCells_bytesV (s : ByteArray) : Lib.strCells s = bytesV (strB s) := by simp [Lib.strCells, bytesV, strB]
theorem bytesV_one (l : List Nat) : ∀ u ∈ bytesV l, u.oneCell' = true := by
  intro u hu
  simp only [bytesV, List.mem_map] at hu
  obtain ⟨b, _, rfl⟩ := hu
  rfl

theorem wpList_pushs {ops : Array Oper} {rest : List Oper} {o : Oper} {a : Act} {Q : Exit → Act → World → Prop} {wr : World} (a0 : World) (hgd : o.guard = none) (s x : Operand) (t : TypeId)
    (ho : o.op = .call { callee := .builtin .append, args := #[s, x], argTypes := #[t, t] }) (e : TypeId) (i : TypeInfo) (z : Value) (bytes : Nat)
    (ht : Tryd.prog.underlying t = some (.slice e)) (hi : Tryd.prog.info? e = some i) (hz : i.zero = some z) (hsize : i.size = 1) (hby : i.bytes = bytes) (hzs : z.cells.size = 1)
    (v : Value) (n : Nat) (xs : List Value) (hs : a.eval s = v) (hown : wr.ownsRow a0.heap.size e 1 v n xs) (hw : From a0 wr) (v2 : Value) (news : List Value) (hx : a.eval x = v2) (hr : RowC wr v2 news) (h1 : ∀ u ∈ news, u.oneCell' = true)
    (hnil : ∀ m c, v2 = .slice none m c → m = 0 ∧ c = 0)
    (hroom : (n + news.length) * bytes ≤ 140737488355328) (hmax : n + news.length ≤ maxLen)
    (h : ∀ v' w', w'.ownsRow a0.heap.size e 1 v' (n + news.length) (xs ++ news) → From a0 w' → wpList Tryd.prog ops Q rest (a.put o.dst v') w') : wpList Tryd.prog ops Q (o :: rest) a wr := by
  obtain ⟨A, cap, rfl, hc1, hc2, hp⟩ := hr.parts
  cases A with
  | none =>
    obtain ⟨h0, rfl⟩ := hnil _ _ rfl
    have hnn : news = [] := List.eq_nil_of_length_eq_zero h0
    subst hnn
    refine wpList_append_own_none (P := Tryd.prog) hgd s x t ho a0.heap.size e i 1 ht hi v n xs hs hown hx (h v wr ?_ hw)
    simpa using hown
  | some ad =>
    refine wpList_append_own (P := Tryd.prog) _ hgd s x t ho a0.heap.size e i z 1 bytes ht hi hz hsize hby hzs (by decide) v n xs hs hown ad news.length cap news hx (by simp) ?_ h1 hmax hroom hw.size ?_
    · intro j u hu
      have hlt : j < news.length := (List.getElem?_eq_some_iff.1 hu).1
      obtain ⟨b, o, hA, hb, hcell⟩ := hp (by omega)
      simp only [Option.some.injEq] at hA
      subst hA
      rw [Go.WideShapes.add_plain]
      exact hcell j u hu
    · intro v' w' hown' hg _
      exact h v' w' hown' (hw.grew hg (fun k hk => (hown.lt k hk).1))

theorem step_pushs {ops : Array Oper} {o : Oper} {a : Act} {K : Act → World → Prop} {Q : Exit → Act → World → Prop} {E : Prop} {wr : World} (a0 : World) (hgd : o.guard = none) (s x : Operand) (t : TypeId)
    (ho : o.op = .call { callee := .builtin .append, args := #[s, x], argTypes := #[t, t] }) (e : TypeId) (i : TypeInfo) (z : Value) (bytes : Nat)
    (ht : Tryd.prog.underlying t = some (.slice e)) (hi : Tryd.prog.info? e = some i) (hz : i.zero = some z) (hsize : i.size = 1) (hby : i.bytes = bytes) (hzs : z.cells.size = 1)
    (v : Value) (n : Nat) (xs : List Value) (hs : a.eval s = v) (hown : wr.ownsRow a0.heap.size e 1 v n xs) (hw : From a0 wr) (v2 : Value) (news : List Value) (hx : a.eval x = v2) (hr : RowC wr v2 news) (h1 : ∀ u ∈ news, u.oneCell' = true)
    (hnil : ∀ m c, v2 = .slice none m c → m = 0 ∧ c = 0)
    (hroom : (n + news.length) * bytes ≤ 140737488355328) (hmax : n + news.length ≤ maxLen)
    (h : ∀ v' w', w'.ownsRow a0.heap.size e 1 v' (n + news.length) (xs ++ news) → From a0 w' → K (a.put o.dst v') w') : if Region.wanted o (yielded ops a.tmps) = true then Oper.wp Tryd.prog o a wr K Q else E := by
  have hwant : Region.wanted o (yielded ops a.tmps) = true := by simp [Region.wanted, hgd]
  rw [if_pos hwant]
  obtain ⟨A, cap, rfl, hc1, hc2, hp⟩ := hr.parts
  cases A with
  | none =>
    obtain ⟨h0, rfl⟩ := hnil _ _ rfl
    have hnn : news = [] := List.eq_nil_of_length_eq_zero h0
    subst hnn
    have hrun := run_append_owned_none (P := Tryd.prog) (w := wr) a0.heap.size t o.type e i 1 ht hi v n xs hown
    have hx' : a.eval x = .slice none 0 0 := hx
    unfold Oper.wp
    simp [execOp, ho, resolve, invoke, builtin, hs, hx', hrun, Result.andThen]
    exact h v wr (by simpa using hown) hw
  | some ad =>
    refine wp_append_own (P := Tryd.prog) wr s x t ho a0.heap.size e i z 1 bytes ht hi hz hsize hby hzs (by decide) v n xs hs hown ad news.length cap news hx (by simp) ?_ h1 hmax hroom hw.size ?_
    · intro j u hu
      have hlt : j < news.length := (List.getElem?_eq_some_iff.1 hu).1
      obtain ⟨b, o, hA, hb, hcell⟩ := hp (by omega)
      simp only [Option.some.injEq] at hA
      subst hA
      rw [Go.WideShapes.add_plain]
      exact hcell j u hu
    · intro v' w' hown' hg _
      exact h v' w' hown' (hw.grew hg (fun k hk => (hown.lt k hk).1))

theorem wpList_pushr {ops : Array Oper} {rest : List Oper} {o : Oper} {a : Act} {Q : Exit → Act → World → Prop} {wr : World} (a0 : World) (hgd : o.guard = none) (s x : Operand) (t : TypeId)
    (ho : o.op = .call { callee := .builtin .append, args := #[s, x], argTypes := #[t, t] }) (e : TypeId) (i : TypeInfo) (z : Value) (bytes : Nat)
    (ht : Tryd.prog.underlying t = some (.slice e)) (hi : Tryd.prog.info? e = some i) (hz : i.zero = some z) (hsize : i.size = 1) (hby : i.bytes = bytes) (hzs : z.cells.size = 1)
    (v : Value) (n : Nat) (xs : List Value) (hs : a.eval s = v) (hown : wr.ownsRow a0.heap.size e 1 v n xs) (hw : From a0 wr) (v2 : Value) (news : List Value) (hx : a.eval x = v2) (hr : Row wr v2 news) (h1 : ∀ u ∈ news, u.oneCell' = true)
    (hnil : ∀ m c, v2 = .slice none m c → m = 0 ∧ c = 0)
    (hroom : (n + news.length) * bytes ≤ 140737488355328) (hmax : n + news.length ≤ maxLen)
    (h : ∀ v' w', w'.ownsRow a0.heap.size e 1 v' (n + news.length) (xs ++ news) → From a0 w' → wpList Tryd.prog ops Q rest (a.put o.dst v') w') : wpList Tryd.prog ops Q (o :: rest) a wr := by
  obtain ⟨A, cap, rfl, hp⟩ := hr
  cases A with
  | none =>
    obtain ⟨h0, rfl⟩ := hnil _ _ rfl
    have hnn : news = [] := List.eq_nil_of_length_eq_zero h0
    subst hnn
    refine wpList_append_own_none (P := Tryd.prog) hgd s x t ho a0.heap.size e i 1 ht hi v n xs hs hown hx (h v wr ?_ hw)
    simpa using hown
  | some ad =>
    refine wpList_append_own (P := Tryd.prog) _ hgd s x t ho a0.heap.size e i z 1 bytes ht hi hz hsize hby hzs (by decide) v n xs hs hown ad news.length cap news hx (by simp) ?_ h1 hmax hroom hw.size ?_
    · intro j u hu
      have hlt : j < news.length := (List.getElem?_eq_some_iff.1 hu).1
      obtain ⟨b, o, hA, hb, hcell⟩ := hp (by omega)
      simp only [Option.some.injEq] at hA
      subst hA
      rw [Go.WideShapes.add_plain]
      exact hcell j u hu
    · intro v' w' hown' hg _
      exact h v' w' hown' (hw.grew hg (fun k hk => (hown.lt k hk).1))

theorem wpList_pusht {ops : Array Oper} {rest : List Oper} {o : Oper} {a : Act} {Q : Exit → Act → World → Prop} {wr : World} (a0 : World) (hgd : o.guard = none) (s x : Operand) (t u : TypeId)
    (ho : o.op = .call { callee := .builtin .append, args := #[s, x], argTypes := #[t, u] }) (e : TypeId) (i : TypeInfo)
    (ht : Tryd.prog.underlying t = some (.slice e)) (hu : Tryd.prog.underlying u = some .string) (hi : Tryd.prog.info? e = some i) (hz : i.zero = some (.int .u8 0)) (hsize : i.size = 1) (hby : i.bytes = 1)
    (v : Value) (n : Nat) (xs : List Nat) (hs : a.eval s = v) (hown : wr.ownsRow a0.heap.size e 1 v n (bytesV xs)) (hw : From a0 wr) (str : ByteArray) (hx : a.eval x = .string str)
    (hroom : n + str.size ≤ 140737488355328)
    (h : ∀ v' w', w'.ownsRow a0.heap.size e 1 v' (n + str.size) (bytesV (xs ++ strB str)) → From a0 w' → wpList Tryd.prog ops Q rest (a.put o.dst v') w') : wpList Tryd.prog ops Q (o :: rest) a wr := by
  refine Lib.wpList_append_own_string (P := Tryd.prog) _ hgd s x t u ho a0.heap.size e i ht hu hi hz hsize hby v n _ hs hown str hx (by unfold maxLen; omega) hroom hw.size ?_
  intro v' w' hown' hg _
  rw [strCells_bytesV, ← bytesV_append] at hown'
  exact h v' w' hown' (hw.grew hg (fun k hk => (hown.lt k hk).1))
end Go.Proofs.YtjliefglelcooaaDoor

namespace Go.Proofs.YtjliefglelcooaaDoor
open Go.RowKit

theorem u8_info : (Tryd.prog.info? 5).map (fun i => (i.zero, i.size, i.bytes)) = some (some (.int .u8 0), 1, 1) := by kernel_rfl
theorem or128 (m : Nat) : bits .or .u8 (IntKind.u8.wrap (m : Int)) 128 = ((m % 128 + 128 : Nat) : Int) := by
  have H : ∀ b : Fin 256, bits .or .u8 ((b.val : Nat) : Int) 128 = ((b.val % 128 + 128 : Nat) : Int) := by decide +kernel
  have := H ⟨m % 256, by omega⟩
  rw [IntKind.wrap_u8]
  have e : ((m : Int) % 256) = ((m % 256 : Nat) : Int) := by omega
  rw [e, this]
  simp only
  omega

set_option maxHeartbeats 400000 in
theorem appendNum_any (a0 w : World) (v : Value) (k : Nat) (xs : List Nat) (m : Nat) (hm : m ≤ 9223372036854775807) (hown : w.ownsRow a0.heap.size 5 1 v k (bytesV xs)) (hw : From a0 w) (hk : k ≤ 1000000000000) :
    Calls Tryd.prog 37 #[v, .int .i64 m] w fun e w' => ∃ v', e = .returned v' ∧ w'.ownsRow a0.heap.size 5 1 v' (k + (nums m).length) (bytesV (xs ++ nums m)) ∧ From a0 w' := by
  obtain ⟨i0, hi0, hz0, hz1, hz2⟩ := info_parts u8_info
  have hm9 := nums_len9 hm
  go_enter Tryd.func37, Tryd.ntmps37
  go_wp2
  go_loopw [0, 1] (fun v i wr => ∃ m' ys, i = .int .i64 (m' : Nat) ∧ m' ≤ 9223372036854775807 ∧ wr.ownsRow a0.heap.size 5 1 v (k + ys.length) (bytesV (xs ++ ys)) ∧ ys ++ nums m' = nums m ∧ From a0 wr) (fun _ i _ => (intOf i).toNat)
  case atStart => exact ⟨m, [], rfl, hm, by simpa using hown, rfl, hw⟩
  case round =>
    obtain ⟨m', ys, rfl, hm', hown', hys, hw'⟩ := hrel
    have hlen : ys.length + (nums m').length = (nums m).length := by rw [← hys, List.length_append]
    have hp := nums_pos m'
    have hr1 : (k + ys.length + 1) * 1 ≤ 140737488355328 := by omega
    have hr2 : k + ys.length + 1 ≤ maxLen := by unfold maxLen; omega
    by_cases h : m' < 128
    · have hd : decide ((128 : Int) ≤ (m' : Int)) = false := by simp; omega
      have hb : ((m' : Int) % 256) = (m' : Int) := by omega
      rw [nums_small h] at hys
      have HY := Lib.hid hys
      clear hys
      go_wp2_with (at_builtin; refine wpList_push a0 rfl (.tmp 15) (.tmp 18) 23 rfl 5 i0 _ 1 Tryd.underlying23 hi0 hz0 hz1 hz2 rfl _ _ _ rfl hown' hw' rfl rfl hr1 hr2 ?_; intro v1 w1 hown1 hw1)
      go_ret
      refine ⟨_, rfl, ?_, hw1⟩
      have e1 : k + (nums m).length = k + ys.length + 1 := by rw [← HY.out]; simp; omega
      rw [e1, ← HY.out]
      simpa [bytesV, ← List.append_assoc] using hown1
    · have hd : decide ((128 : Int) ≤ (m' : Int)) = true := by simp; omega
      rw [nums_big h] at hys
      have HY := Lib.hid hys
      have hor := or128 m'
      rw [IntKind.wrap_u8] at hor
      clear hys
      go_wp2_with (at_builtin; refine wpList_push a0 rfl (.tmp 7) (.tmp 11) 23 rfl 5 i0 _ 1 Tryd.underlying23 hi0 hz0 hz1 hz2 rfl _ _ _ rfl hown' hw' rfl rfl hr1 hr2 ?_; intro v1 w1 hown1 hw1)
      go_roundw
      case rel =>
        refine ⟨m' / 128, ys ++ [m' % 128 + 128], by go_num, by omega, ?_, by rw [← HY.out]; simp, hw1⟩
        have e1 : k + (ys ++ [m' % 128 + 128]).length = k + ys.length + 1 := by simp; omega
        rw [e1]
        simpa [bytesV, ← List.append_assoc] using hown1
      case measure => simp [intOf]; omega

set_option maxHeartbeats 400000 in
theorem num_any (m : Nat) (hm : m ≤ 9223372036854775807) (w : World) :
    Calls Tryd.prog 35 #[.int .i64 m] w fun e w' => ∃ v', e = .returned (.tuple #[v', .int .i64 0]) ∧ w'.ownsRow w.heap.size 5 1 v' (nums m).length (bytesV (nums m)) ∧ From w w' := by
  have H := appendNum_any w w (.slice none 0 0) 0 [] m hm (World.ownsRow_nil _ _ _ _) From.rfl_ (by omega)
  simp only [Nat.zero_add, List.nil_append] at H
  have hd : decide ((m : Int) < 0) = false := by simp
  go_enter Tryd.func35, Tryd.ntmps35
  go_wp2_with (go_at_call 37; refine H.mono ?_; rintro e w1 ⟨v1, rfl, hown, hb⟩)
  go_ret2
  exact ⟨_, rfl, hown, hb⟩
set_option maxHeartbeats 400000 in
theorem num_neg (m : Int) (hm : m < 0) (w : World) :
    Calls Tryd.prog 35 #[.int .i64 m] w fun e w' => e = .returned (.tuple #[.slice none 0 0, .int .i64 1]) ∧ w = w' := by
  have hd : decide ((m : Int) < 0) = true := by simp; omega
  go_enter Tryd.func35, Tryd.ntmps35
  go_wp2
  go_ret2
  exact ⟨rfl, rfl⟩

def gotV : Option (Nat × Nat) → Value
  | some (m, k) => .tuple #[.int .i64 (m : Nat), .int .i64 (k : Nat), .int .i64 0]
  | none => .tuple #[.int .i64 0, .int .i64 0, .int .i64 1]

theorem or_i64 (j n y : Nat) (hj : j ≤ 8) (hn : n < 128 ^ j) (hy : y < 128) : bits .or .i64 (n : Int) (wrap64 (wrap64 (y : Int) * 2 ^ (7 * j))) = ((n + y * 128 ^ j : Nat) : Int) := by
  have e1 : (128 : Nat) ^ j = 2 ^ (7 * j) := by rw [Nat.pow_mul]
  have h8 : 128 ^ j ≤ 128 ^ 8 := Nat.pow_le_pow_right (by decide) hj
  have h9 : y * 128 ^ j ≤ 127 * 128 ^ j := Nat.mul_le_mul_right _ (by omega)
  have e2 : ((y : Int) * 2 ^ (7 * j)) = ((y * 128 ^ j : Nat) : Int) := by rw [e1]; simp
  rw [IntWalk.wrap64_in (y : Int) (by omega), e2, IntWalk.wrap64_in _ (by omega)]
  show IntKind.i64.wrap ((BitVec.ofInt 64 (n : Int) ||| BitVec.ofInt 64 ((y * 128 ^ j : Nat) : Int)).toNat : Int) = _
  have t1 : (BitVec.ofInt 64 (n : Int)).toNat = n := by rw [BitVec.ofInt_natCast, BitVec.toNat_ofNat]; exact Nat.mod_eq_of_lt (by omega)
  have t2 : (BitVec.ofInt 64 ((y * 128 ^ j : Nat) : Int)).toNat = y * 128 ^ j := by rw [BitVec.ofInt_natCast, BitVec.toNat_ofNat]; exact Nat.mod_eq_of_lt (by omega)
  have t3 : n ||| y * 128 ^ j = n + y * 128 ^ j := by
    rw [Nat.or_comm, Nat.mul_comm y, e1, ← Nat.two_pow_add_eq_or_of_lt (by rw [← e1]; exact hn)]
    omega
  rw [BitVec.toNat_or, t1, t2, t3, IntKind.wrap_i64]
  omega
theorem andnot128 {x : Nat} (h : x < 256) : bits .andNot .u8 (x : Int) 128 = ((x % 128 : Nat) : Int) := by
  have H : ∀ b : Fin 256, bits .andNot .u8 ((b.val : Nat) : Int) 128 = ((b.val % 128 : Nat) : Int) := by decide +kernel
  exact H ⟨x, h⟩
theorem and128 {x : Nat} (h : x < 256) : (bits .and .u8 (x : Int) 128 != 0) = decide (128 ≤ x) := by
  have H : ∀ b : Fin 256, (bits .and .u8 ((b.val : Nat) : Int) 128 != 0) = decide (128 ≤ b.val) := by decide +kernel
  exact H ⟨x, h⟩

set_option maxHeartbeats 400000 in
theorem getnum_long (v : Value) (l : List Nat) (hl : ∀ b ∈ l, b < 256) (w : World) (hr : RowC w v (bytesV l)) (h9 : (9 : Int) < (l.length : Int)) :
    Calls Tryd.prog 33 #[v] w fun e w' => e = .returned (gotV (getNum l)) ∧ w = w' := by
  obtain ⟨A, cap, rfl, hc1, hc2, hrow⟩ := hr.parts
  have hlen : (bytesV l).length = l.length := by simp [bytesV]
  rw [hlen] at hc1 hrow ⊢
  have i4 : (9 : Int) ≤ (cap : Int) := by omega
  go_enter Tryd.func33, Tryd.ntmps33
  go_wp2
  go_loopw [2, 13] (fun s i wr => ∃ j n : Nat, s = .int .i64 (n : Nat) ∧ i = .int .i64 (j : Nat) ∧ j ≤ 9 ∧ n < 128 ^ j ∧ getAt j n (l.drop j) = getNum l ∧ w = wr) (fun _ i _ => 9 - (intOf i).toNat)
  case atStart => exact ⟨0, 0, rfl, rfl, by omega, by decide, rfl, rfl⟩
  case round =>
    obtain ⟨j, n, rfl, rfl, hj, hn, hg, rfl⟩ := hrel
    have HG := Lib.hid hg
    clear hg
    by_cases hlt : j < 9
    · have hd : decide ((j : Int) < 9) = true := by simp; omega
      have hj2 : j < l.length := by omega
      obtain ⟨b, o, rfl, hb, hcell⟩ := hrow (by omega)
      have d1 : w.cell? ⟨b, o + j, none⟩ = some (.int .u8 (l[j] : Nat)) := hcell j _ (by simp [bytesV, hj2])
      have i1 : (0 : Int) ≤ (j : Int) := by omega
      have i2 : (j : Int) < 9 := by omega
      have hx : l[j] < 256 := hl _ (List.getElem_mem hj2)
      have hg := HG.out
      rw [List.drop_eq_getElem_cons hj2] at hg
      simp only [getAt] at hg
      rw [if_neg (by omega)] at hg
      clear hcell hrow hr HG
      generalize l[j] = x at *
      have hor := or_i64 j n (x % 128) (by omega) hn (by omega)
      rw [← andnot128 hx] at hor
      have hbit := and128 hx
      have e7 : 127 * 128 ^ j + 128 ^ j = 128 ^ (j + 1) := by rw [Nat.pow_succ]; omega
      have h9' : (x % 128) * 128 ^ j ≤ 127 * 128 ^ j := Nat.mul_le_mul_right _ (by omega)
      by_cases hbig : 128 ≤ x
      · rw [if_pos hbig] at hg
        rw [decide_eq_true hbig] at hbit
        have H := Lib.hid (And.intro hg (And.intro hn (And.intro e7 h9')))
        have HB := Lib.hid (And.intro hbig hx)
        clear hg e7 h9' hbig hx hn
        go_wp2
        go_roundw
        case rel =>
          obtain ⟨hg, hn, e7, h9'⟩ := H.out
          have hxx : x % 128 = x - 128 := by have := HB.out; omega
          refine ⟨j + 1, n + (x % 128) * 128 ^ j, rfl, by go_num, by omega, by omega, ?_, trivial⟩
          rw [hxx]
          exact hg
        case measure => simp [intOf]; omega
      · rw [if_neg hbig] at hg
        rw [decide_eq_false hbig] at hbit
        have hxx : x % 128 = x := by omega
        rw [hxx] at hor
        by_cases hx0 : x = 0
        · subst hx0
          simp only [Int.ofNat_zero, Int.natCast_zero, Nat.zero_mul, Nat.add_zero] at d1 hor hbit
          have H := Lib.hid (And.intro hg (And.intro hn (And.intro e7 h9')))
          clear hg e7 h9' hbig hx hn hxx
          by_cases hj0 : 0 < j
          · go_wp2
            go_ret3
            refine ⟨?_, rfl⟩
            have h := H.out.1
            rw [if_pos ⟨by trivial, hj0⟩] at h
            rw [← h]
            rfl
          · go_wp2
            go_ret3
            refine ⟨?_, rfl⟩
            have h := H.out.1
            rw [if_neg (fun c => hj0 c.2)] at h
            rw [← h]
            simp [gotV]
        · rw [if_neg (by omega)] at hg
          have H := Lib.hid (And.intro hg (And.intro hn (And.intro e7 h9')))
          clear hg e7 h9' hbig hx hn hxx
          go_wp2
          go_ret3
          refine ⟨?_, rfl⟩
          rw [← H.out.1]
          simp [gotV]
    · have hd : decide ((j : Int) < 9) = false := by simp; omega
      go_wp2
      go_ret3
      refine ⟨?_, rfl⟩
      rw [← HG.out]
      have hjc : j = 9 := by omega
      rw [hjc]
      rw [List.drop_eq_getElem_cons (show 9 < l.length by omega)]; simp only [getAt]; rw [if_pos (by omega)]; rfl

set_option maxHeartbeats 400000 in
theorem getnum_short (v : Value) (l : List Nat) (hl : ∀ b ∈ l, b < 256) (w : World) (hr : RowC w v (bytesV l)) (h9 : ¬ (9 : Int) < (l.length : Int)) :
    Calls Tryd.prog 33 #[v] w fun e w' => e = .returned (gotV (getNum l)) ∧ w = w' := by
  obtain ⟨A, cap, rfl, hc1, hc2, hrow⟩ := hr.parts
  have hlen : (bytesV l).length = l.length := by simp [bytesV]
  rw [hlen] at hc1 hrow ⊢
  have i4 : ((l.length : Int) : Int) ≤ (cap : Int) := by omega
  go_enter Tryd.func33, Tryd.ntmps33
  go_wp2
  go_loopw [2, 13] (fun s i wr => ∃ j n : Nat, s = .int .i64 (n : Nat) ∧ i = .int .i64 (j : Nat) ∧ j ≤ l.length ∧ n < 128 ^ j ∧ getAt j n (l.drop j) = getNum l ∧ w = wr) (fun _ i _ => l.length - (intOf i).toNat)
  case atStart => exact ⟨0, 0, rfl, rfl, by omega, by decide, rfl, rfl⟩
  case round =>
    obtain ⟨j, n, rfl, rfl, hj, hn, hg, rfl⟩ := hrel
    have HG := Lib.hid hg
    clear hg
    by_cases hlt : j < l.length
    · have hd : decide ((j : Int) < (l.length : Int)) = true := by simp; omega
      have hj2 : j < l.length := by omega
      obtain ⟨b, o, rfl, hb, hcell⟩ := hrow (by omega)
      have d1 : w.cell? ⟨b, o + j, none⟩ = some (.int .u8 (l[j] : Nat)) := hcell j _ (by simp [bytesV, hj2])
      have i1 : (0 : Int) ≤ (j : Int) := by omega
      have i2 : (j : Int) < (l.length : Int) := by omega
      have hx : l[j] < 256 := hl _ (List.getElem_mem hj2)
      have hg := HG.out
      rw [List.drop_eq_getElem_cons hj2] at hg
      simp only [getAt] at hg
      rw [if_neg (by omega)] at hg
      clear hcell hrow hr HG
      generalize l[j] = x at *
      have hor := or_i64 j n (x % 128) (by omega) hn (by omega)
      rw [← andnot128 hx] at hor
      have hbit := and128 hx
      have e7 : 127 * 128 ^ j + 128 ^ j = 128 ^ (j + 1) := by rw [Nat.pow_succ]; omega
      have h9' : (x % 128) * 128 ^ j ≤ 127 * 128 ^ j := Nat.mul_le_mul_right _ (by omega)
      by_cases hbig : 128 ≤ x
      · rw [if_pos hbig] at hg
        rw [decide_eq_true hbig] at hbit
        have H := Lib.hid (And.intro hg (And.intro hn (And.intro e7 h9')))
        have HB := Lib.hid (And.intro hbig hx)
        clear hg e7 h9' hbig hx hn
        go_wp2
        go_roundw
        case rel =>
          obtain ⟨hg, hn, e7, h9'⟩ := H.out
          have hxx : x % 128 = x - 128 := by have := HB.out; omega
          refine ⟨j + 1, n + (x % 128) * 128 ^ j, rfl, by go_num, by omega, by omega, ?_, trivial⟩
          rw [hxx]
          exact hg
        case measure => simp [intOf]; omega
      · rw [if_neg hbig] at hg
        rw [decide_eq_false hbig] at hbit
        have hxx : x % 128 = x := by omega
        rw [hxx] at hor
        by_cases hx0 : x = 0
        · subst hx0
          simp only [Int.ofNat_zero, Int.natCast_zero, Nat.zero_mul, Nat.add_zero] at d1 hor hbit
          have H := Lib.hid (And.intro hg (And.intro hn (And.intro e7 h9')))
          clear hg e7 h9' hbig hx hn hxx
          by_cases hj0 : 0 < j
          · go_wp2
            go_ret3
            refine ⟨?_, rfl⟩
            have h := H.out.1
            rw [if_pos ⟨by trivial, hj0⟩] at h
            rw [← h]
            rfl
          · go_wp2
            go_ret3
            refine ⟨?_, rfl⟩
            have h := H.out.1
            rw [if_neg (fun c => hj0 c.2)] at h
            rw [← h]
            simp [gotV]
        · rw [if_neg (by omega)] at hg
          have H := Lib.hid (And.intro hg (And.intro hn (And.intro e7 h9')))
          clear hg e7 h9' hbig hx hn hxx
          go_wp2
          go_ret3
          refine ⟨?_, rfl⟩
          rw [← H.out.1]
          simp [gotV]
    · have hd : decide ((j : Int) < (l.length : Int)) = false := by simp; omega
      go_wp2
      go_ret3
      refine ⟨?_, rfl⟩
      rw [← HG.out]
      have hjc : j = l.length := by omega
      rw [hjc]
      rw [List.drop_length]; rfl


theorem getnum_any (v : Value) (l : List Nat) (hl : ∀ b ∈ l, b < 256) (w : World) (hr : RowC w v (bytesV l)) :
    Calls Tryd.prog 33 #[v] w fun e w' => e = .returned (gotV (getNum l)) ∧ w = w' := by
  by_cases h : (9 : Int) < (l.length : Int)
  · exact getnum_long v l hl w hr h
  · exact getnum_short v l hl w hr h

def refGotV : Option (Nat × Nat) → Value
  | some (m, k) => .tuple #[.int .i64 (m : Nat), .int .i64 (k : Nat)]
  | none => .tuple #[.int .i64 0, .int .i64 0]
theorem nums_fit {j n x : Nat} (hn : n < 128 ^ j) (hx : x < 128) : (nums (n + x * 128 ^ j)).length = j + 1 ↔ ¬ (x = 0 ∧ 0 < j) := by
  have h1 : x * 128 ^ j ≤ 127 * 128 ^ j := Nat.mul_le_mul_right _ (by omega)
  have h2 : 128 ^ (j + 1) = 128 * 128 ^ j := by rw [Nat.pow_succ]; omega
  have hlt : (nums (n + x * 128 ^ j)).length ≤ j + 1 := nums_len j _ (by omega)
  constructor
  · rintro h ⟨rfl, hj⟩
    obtain ⟨i, rfl⟩ : ∃ i, j = i + 1 := ⟨j - 1, by omega⟩
    have := nums_len i (n + 0 * 128 ^ (i + 1)) (by omega)
    omega
  · intro h
    have hp := nums_pos (n + x * 128 ^ j)
    by_cases hj : j = 0
    · subst hj; omega
    · have hx0 : 1 ≤ x := by omega
      have h3 : 1 * 128 ^ j ≤ x * 128 ^ j := Nat.mul_le_mul_right _ hx0
      have := nums_len_ge j (n + x * 128 ^ j) (by omega)
      omega
theorem mod128 {x : Nat} (_ : x < 256) : ((x : Int)).tmod 128 = ((x % 128 : Nat) : Int) := by
  rw [Int.tmod_eq_emod_of_nonneg (by omega)]
  omega

end Go.Proofs.YtjliefglelcooaaDoor

namespace Go.Proofs.YtjliefglelcooaaDoor
open Go.RowKit

set_option maxHeartbeats 400000 in
theorem numsize_any (m : Nat) (hm : m ≤ 9223372036854775807) (w : World) :
    Calls Tryd.prog 36 #[.int .i64 m] w fun e w' => e = .returned (.int .i64 ((nums m).length : Nat)) ∧ w = w' := by
  have hm9 := nums_len9 hm
  go_enter Tryd.func36, Tryd.ntmps36
  go_wp2
  go_loopw [0, 3] (fun i c wr => ∃ m' k, i = .int .i64 (m' : Nat) ∧ c = .int .i64 (k : Nat) ∧ m' ≤ 9223372036854775807 ∧ k + (nums m').length = (nums m).length + 1 ∧ w = wr) (fun i _ _ => (intOf i).toNat)
  case atStart => exact ⟨m, 1, rfl, rfl, hm, by omega, rfl⟩
  case round =>
    obtain ⟨m', k, rfl, rfl, hm', hk, rfl⟩ := hrel
    have hpm := nums_pos m'
    have hk10 : k ≤ 10 := by omega
    by_cases h : m' < 128
    · have hd : decide ((128 : Int) ≤ (m' : Int)) = false := by simp; omega
      rw [nums_small h] at hk
      have HK := Lib.hid hk
      clear hk
      go_wp2
      go_ret
      have := HK.out
      simp only [List.length_cons, List.length_nil] at this
      exact ⟨ret_int (by omega), rfl⟩
    · have hd : decide ((128 : Int) ≤ (m' : Int)) = true := by simp; omega
      rw [nums_big h] at hk
      have hp := nums_pos (m' / 128)
      have HK := Lib.hid hk
      clear hk
      go_wp2
      go_roundw
      case rel => exact ⟨m' / 128, k + 1, by go_num, by go_num, by omega, by have := HK.out; simp only [List.length_cons] at this; omega, trivial⟩
      case measure => simp [intOf]; omega

/-- the bytes of a text; of texts, one behind the other; of a list of texts -/
def encS (s : ByteArray) : List Nat := nums s.size ++ strB s
def encL : List ByteArray → List Nat
  | [] => []
  | s :: r => encS s ++ encL r
def putB (ts : List ByteArray) : List Nat := nums ts.length ++ encL ts
theorem encL_snoc : ∀ (l : List ByteArray) (s : ByteArray), encL (l ++ [s]) = encL l ++ encS s
  | [], s => by simp [encL]
  | x :: r, s => by simp only [List.cons_append, encL, encL_snoc r s, List.append_assoc]
theorem encL_take {ts : List ByteArray} {j : Nat} (h : j < ts.length) : encL (ts.take (j + 1)) = encL (ts.take j) ++ encS ts[j] := by
  rw [List.take_succ_eq_append_getElem h, encL_snoc]
theorem encS_length (s : ByteArray) : (encS s).length = (nums s.size).length + s.size := by rw [encS, List.length_append, strB_length]
theorem encL_append : ∀ (l m : List ByteArray), encL (l ++ m) = encL l ++ encL m
  | [], m => rfl
  | x :: r, m => by simp only [List.cons_append, encL, encL_append r m, List.append_assoc]
theorem encL_le (ts : List ByteArray) (j : Nat) : (encL (ts.take j)).length ≤ (encL ts).length := by
  conv => rhs; rw [← List.take_append_drop j ts, encL_append, List.length_append]
  omega
theorem encL_count : ∀ (ts : List ByteArray), ts.length ≤ (encL ts).length
  | [] => by simp
  | x :: r => by
    have := encL_count r
    have := nums_pos x.size
    simp only [encL, List.length_cons, List.length_append, encS_length]
    omega

/-- the strings that a slice value reads as, by index -/
theorem strs_at {w : World} {v : Value} {ts : List ByteArray} (hr : RowC w v (ts.map .string)) : ∃ A cap, v = .slice A ts.length cap ∧ ts.length ≤ cap ∧ cap ≤ 9223372036854775807 ∧
    (0 < ts.length → ∃ b o, A = some ⟨b, o, none⟩ ∧ b < w.heap.size ∧ ∀ i (h : i < ts.length), w.cell? ⟨b, o + i, none⟩ = some (.string ts[i])) := by
  obtain ⟨A, cap, rfl, h1, h2, hp⟩ := hr.parts
  rw [List.length_map] at h1 hp ⊢
  refine ⟨A, cap, rfl, h1, h2, fun h0 => ?_⟩
  obtain ⟨b, o, hA, hb, hc⟩ := hp h0
  exact ⟨b, o, hA, hb, fun i hi => hc i _ (by simp [hi])⟩

set_option maxRecDepth 100000 in
set_option maxHeartbeats 1000000 in
theorem put_big (v : Value) (ts : List ByteArray) (w : World) (hr : RowC w v (ts.map .string)) (hs : ∀ s ∈ ts, s.size ≤ 140737488351232) (hbig : ¬ (putB ts).length ≤ 1048576) :
    Calls Tryd.prog 22 #[v] w fun e w' => e = .returned (.tuple #[.slice none 0 0, .int .i64 2]) ∧ w = w' := by
  obtain ⟨A, cap, rfl, hc1, hc2, hrow⟩ := strs_at hr
  have hn9 := nums_len9 (show ts.length ≤ 9223372036854775807 by omega)
  have hnum := fun m (hm : m ≤ 9223372036854775807) w => numsize_any m hm w
  have HN := Lib.hid hnum
  clear hnum
  go_enter Tryd.func22, Tryd.ntmps22
  go_wp2_with (go_at_call 36; (with_reducible refine (HN.out ts.length (by omega) _).mono ?_); rintro e w1 ⟨rfl, rfl⟩)
  go_loopw [4, 15] (fun z i wr => ∃ j q : Nat, i = .int .i64 (j : Nat) ∧ z = .int .i64 (q : Nat) ∧ j ≤ ts.length ∧ q = (nums ts.length).length + (encL (ts.take j)).length ∧ q ≤ 1048576 ∧ w = wr) (fun _ i _ => ts.length - (intOf i).toNat)
  case atStart => exact ⟨0, _, rfl, rfl, by omega, by simp [encL], by omega, rfl⟩
  case round =>
    obtain ⟨j, q, rfl, rfl, hj, hq, hq2, rfl⟩ := hrel
    have HQ := Lib.hid hq
    clear hq
    by_cases hlt : j < ts.length
    · have hd : decide ((j : Int) < (ts.length : Int)) = true := by simp; omega
      obtain ⟨b, o, rfl, hb, hc⟩ := hrow (by omega)
      have d1 := hc j hlt
      have hsz := hs _ (List.getElem_mem hlt)
      have i1 : (0 : Int) ≤ (j : Int) := by omega
      have i2 : (j : Int) < (ts.length : Int) := by omega
      have hnext := encL_take hlt
      have hsl := encS_length ts[j]
      have HX := Lib.hid (And.intro hnext hsl)
      clear hnext hsl hc hrow hr
      generalize ts[j] = s at *
      have hz9 := nums_len9 (show s.size ≤ 9223372036854775807 by omega)
      by_cases hov : 1048576 < q + ((nums s.size).length + s.size)
      · have hd2 : decide ((1048576 : Int) < (q : Int) + (((nums s.size).length : Int) + (s.size : Int))) = true := by simp; omega
        have HV := Lib.hid hov
        clear hov
        go_wp2_with (go_at_call 36; (with_reducible refine (HN.out s.size (by omega) _).mono ?_); rintro e w1 ⟨rfl, rfl⟩)
        go_ret2
        exact ⟨rfl, rfl⟩
      · have hd2 : decide ((1048576 : Int) < (q : Int) + (((nums s.size).length : Int) + (s.size : Int))) = false := by simp; omega
        go_wp2_with (go_at_call 36; (with_reducible refine (HN.out s.size (by omega) _).mono ?_); rintro e w1 ⟨rfl, rfl⟩)
        go_roundw
        case rel =>
          refine ⟨j + 1, q + ((nums s.size).length + s.size), by go_num, by go_num, by omega, ?_, by omega, trivial⟩
          have h1 := HQ.out
          have h2 := HX.out.1
          have h3 := HX.out.2
          rw [h2, List.length_append, h3]
          omega
        case measure => simp [intOf]; omega
    · exfalso
      obtain rfl : j = ts.length := by omega
      have := HQ.out
      rw [List.take_length] at this
      apply hbig
      rw [putB, List.length_append]
      omega

set_option maxRecDepth 100000 in
set_option maxHeartbeats 1000000 in
theorem put_any (v : Value) (ts : List ByteArray) (w : World) (hr : RowC w v (ts.map .string)) (hs : ∀ s ∈ ts, s.size ≤ 140737488351232) (hfit : (putB ts).length ≤ 1048576) :
    Calls Tryd.prog 22 #[v] w fun e w' => ∃ v', e = .returned (.tuple #[v', .int .i64 0]) ∧ w'.ownsRow w.heap.size 5 1 v' (putB ts).length (bytesV (putB ts)) ∧ From w w' := by
  obtain ⟨A, cap, rfl, hc1, hc2, hrow⟩ := strs_at hr
  obtain ⟨i0, hi0, hz0, hz1, hz2⟩ := info_parts u8_info
  have hn9 := nums_len9 (show ts.length ≤ 9223372036854775807 by omega)
  have hnum := fun m (hm : m ≤ 9223372036854775807) w => numsize_any m hm w
  have HN := Lib.hid hnum
  clear hnum
  have hl := hfit
  rw [putB, List.length_append] at hl
  go_enter Tryd.func22, Tryd.ntmps22
  go_wp2_with (go_at_call 36; (with_reducible refine (HN.out ts.length (by omega) _).mono ?_); rintro e w1 ⟨rfl, rfl⟩)
  go_loopw [4, 15] (fun z i wr => ∃ j q : Nat, i = .int .i64 (j : Nat) ∧ z = .int .i64 (q : Nat) ∧ j ≤ ts.length ∧ q = (nums ts.length).length + (encL (ts.take j)).length ∧ q ≤ 1048576 ∧ w = wr) (fun _ i _ => ts.length - (intOf i).toNat)
  case atStart => exact ⟨0, _, rfl, rfl, by omega, by simp [encL], by omega, rfl⟩
  case round =>
    obtain ⟨j, q, rfl, rfl, hj, hq, hq2, rfl⟩ := hrel
    by_cases hlt : j < ts.length
    · have hd : decide ((j : Int) < (ts.length : Int)) = true := by simp; omega
      obtain ⟨b, o, rfl, hb, hc⟩ := hrow (by omega)
      have d1 := hc j hlt
      have hsz := hs _ (List.getElem_mem hlt)
      have i1 : (0 : Int) ≤ (j : Int) := by omega
      have i2 : (j : Int) < (ts.length : Int) := by omega
      have hnext := encL_take hlt
      have hsl := encS_length ts[j]
      have hle := encL_le ts (j + 1)
      rw [hnext, List.length_append, hsl] at hle
      have HQ := Lib.hid hq
      have HX := Lib.hid (And.intro hnext hsl)
      have hov : q + ((nums ts[j].size).length + ts[j].size) ≤ 1048576 := by omega
      clear hnext hsl hc hrow hr hq hle
      generalize ts[j] = s at *
      have hz9 := nums_len9 (show s.size ≤ 9223372036854775807 by omega)
      have hd2 : decide ((1048576 : Int) < (q : Int) + (((nums s.size).length : Int) + (s.size : Int))) = false := by simp; omega
      go_wp2_with (go_at_call 36; (with_reducible refine (HN.out s.size (by omega) _).mono ?_); rintro e w1 ⟨rfl, rfl⟩)
      go_roundw
      case rel =>
        refine ⟨j + 1, q + ((nums s.size).length + s.size), by go_num, by go_num, by omega, ?_, by omega, trivial⟩
        have h1 := HQ.out
        have h2 := HX.out.1
        have h3 := HX.out.2
        rw [h2, List.length_append, h3]
        omega
      case measure => simp [intOf]; omega
    · have hd : decide ((j : Int) < (ts.length : Int)) = false := by simp; omega
      have happ := fun (v : Value) (k : Nat) (xs : List Nat) (m : Nat) (wr : World) => appendNum_any w wr v k xs m
      have HA := Lib.hid happ
      have HQ := Lib.hid hq
      clear happ hq
      go_wp2_with (refine wpList_make_own (P := Tryd.prog) _ rfl _ _ _ rfl w.heap.size 5 i0 _ 1 Tryd.underlying23 hi0 hz0 hz1 .i64 .i64 _ q rfl rfl rfl (by rw [hz2]; omega) (by unfold maxLen; omega) (Nat.le_refl _) ?_; intro w1 hown1 hg1)
      have hw1 : From w w1 := From.rfl_.grew hg1 (fun k hk => by cases hk)
      refine (HA.out _ 0 [] ts.length w1 (by omega) hown1 hw1 (by omega)).mono ?_
      rintro e w2 ⟨v2, rfl, hown2, hw2⟩
      simp only [Nat.zero_add, List.nil_append] at hown2
      go_wp2
      go_loopw [7, 37] (fun u i wr => ∃ k : Nat, i = .int .i64 (k : Nat) ∧ k ≤ ts.length ∧ wr.ownsRow w.heap.size 5 1 u ((nums ts.length).length + (encL (ts.take k)).length) (bytesV (nums ts.length ++ encL (ts.take k))) ∧ From w wr) (fun _ i _ => ts.length - (intOf i).toNat)
      case atStart => exact ⟨0, rfl, by omega, by simpa [encL] using hown2, hw2⟩
      case round =>
        obtain ⟨k, rfl, hk, hown, hw⟩ := hrel
        by_cases hlt2 : k < ts.length
        · have hd3 : decide ((k : Int) < (ts.length : Int)) = true := by simp; omega
          obtain ⟨b, o, rfl, hb, hc⟩ := hrow (by omega)
          have d1 : ∀ w', From w w' → w'.cell? ⟨b, o + k, none⟩ = some (.string ts[k]) := fun w' h => (h.cells _ _ hb).trans (hc k hlt2)
          have hsz := hs _ (List.getElem_mem hlt2)
          have i1 : (0 : Int) ≤ (k : Int) := by omega
          have i2 : (k : Int) < (ts.length : Int) := by omega
          have hnext := encL_take hlt2
          have hsl := encS_length ts[k]
          have hle := encL_le ts (k + 1)
          rw [hnext, List.length_append, hsl] at hle
          have HX := Lib.hid (And.intro hnext hsl)
          have hov : (nums ts.length).length + (encL (ts.take k)).length + ((nums ts[k].size).length + ts[k].size) ≤ 1048576 := by omega
          clear hnext hsl hc hrow hr hle
          generalize ts[k] = s at *
          have HO := Lib.hid hown
          clear hown
          go_wp2_with (first
            | (go_at_call 37; refine (HA.out _ _ _ s.size _ (by omega) HO.out hw (by omega)).mono ?_; rintro e w3 ⟨v3, rfl, hown3, hw3⟩)
            | (at_builtin; refine wpList_pusht w rfl (.tmp 44) (.tmp 45) 23 9 rfl 5 i0 Tryd.underlying23 Tryd.underlying9 hi0 hz0 hz1 hz2 _ _ _ rfl hown3 hw3 s rfl (by omega) ?_; intro v4 w4 hown4 hw4))
          go_roundw
          case rel =>
            refine ⟨k + 1, by go_num, by omega, ?_, hw4⟩
            have h2 := HX.out.1
            rw [h2, encS, List.length_append, List.length_append, strB_length]
            have e1 : (nums ts.length).length + ((encL (ts.take k)).length + ((nums s.size).length + s.size)) = (nums ts.length).length + (encL (ts.take k)).length + (nums s.size).length + s.size := by omega
            rw [e1]
            simpa [List.append_assoc] using hown4
          case measure => simp [intOf]; omega
        · have hd3 : decide ((k : Int) < (ts.length : Int)) = false := by simp; omega
          have hkl : k = ts.length := by omega
          have HK := Lib.hid hkl
          clear hkl
          go_wp2
          go_ret2
          rw [HK.out, List.take_length] at hown
          refine ⟨_, rfl, ?_, hw⟩
          rw [putB, List.length_append]
          exact hown
end Go.Proofs.YtjliefglelcooaaDoor

namespace Go.Proofs.YtjliefglelcooaaDoor

def strOf (l : List Nat) : ByteArray := ⟨(l.map UInt8.ofNat).toArray⟩
theorem strOf_strB (s : ByteArray) : strOf (strB s) = s := by
  unfold strOf strB
  rw [List.map_map]
  have : (UInt8.ofNat ∘ fun x : UInt8 => x.toNat) = id := by funext x; simp
  rw [this, List.map_id]
theorem strB_strOf {l : List Nat} (h : ∀ b ∈ l, b < 256) : strB (strOf l) = l := by
  unfold strOf strB
  simp only [List.map_map]
  conv => rhs; rw [← List.map_id l]
  refine List.map_congr_left fun x hx => ?_
  simp only [Function.comp, id]
  have := h x hx
  simp only [UInt8.toNat_ofNat']
  omega
theorem strOf_size (l : List Nat) : (strOf l).size = l.length := by
  show ((l.map UInt8.ofNat).toArray).size = _
  simp

theorem getAt_more : ∀ (l t : List Nat) (i n : Nat) {r : Nat × Nat}, getAt i n l = some r → getAt i n (l ++ t) = some r
  | [], t, i, n, r, h => by simp [getAt] at h
  | x :: l, t, i, n, r, h => by
    simp only [getAt, List.cons_append] at h ⊢
    split at h
    · cases h
    · rename_i h9
      rw [if_neg h9]
      split at h
      · rename_i h128
        rw [if_pos h128]
        exact getAt_more l t _ _ h
      · rename_i h128
        rw [if_neg h128]
        exact h
theorem getNum_more {l : List Nat} {r : Nat × Nat} (h : getNum l = some r) (t : List Nat) : getNum (l ++ t) = some r := getAt_more l t 0 0 h

/-- so many texts off a list of bytes: they, and what is left -/
def getStrs : Nat → List Nat → Option (List ByteArray × List Nat)
  | 0, l => some ([], l)
  | c + 1, l =>
    match getNum l with
    | none => none
    | some (n, k) =>
      if l.length - k < n then none
      else match getStrs c (l.drop (k + n)) with
        | none => none
        | some (ss, r) => some (strOf ((l.drop k).take n) :: ss, r)
def getB (l : List Nat) : Option (List ByteArray) :=
  if 1048576 < l.length then none
  else match getNum l with
    | none => none
    | some (c, k) =>
      if l.length < c then none
      else match getStrs c (l.drop k) with
        | some (ss, []) => some ss
        | _ => none

theorem getStrs_enc : ∀ (ts : List ByteArray) (t : List Nat), (∀ s ∈ ts, s.size ≤ 140737488351232) → getStrs ts.length (encL ts ++ t) = some (ts, t)
  | [], t, _ => rfl
  | s :: r, t, h => by
    have hs := h s (by simp)
    have ih := getStrs_enc r t (fun x hx => h x (by simp [hx]))
    simp only [encL, encS, List.length_cons, getStrs, List.append_assoc]
    rw [getNum_nums (by omega)]
    have hl := strB_length s
    simp only
    rw [if_neg (by simp only [List.length_append]; omega)]
    have e1 : List.drop ((nums s.size).length + s.size) (nums s.size ++ (strB s ++ (encL r ++ t))) = encL r ++ t := by
      rw [← List.append_assoc, List.drop_append_of_le_length (by simp [hl]), List.drop_eq_nil_of_le (by simp [hl]), List.nil_append]
    have e2 : List.take s.size (List.drop (nums s.size).length (nums s.size ++ (strB s ++ (encL r ++ t)))) = strB s := by
      rw [List.drop_append_of_le_length (Nat.le_refl _), List.drop_length, List.nil_append, List.take_append_of_le_length (by omega), List.take_of_length_le (by omega)]
    rw [e1, e2, ih, strOf_strB]
theorem getB_putB {ts : List ByteArray} (h : ∀ s ∈ ts, s.size ≤ 140737488351232) (hfit : (putB ts).length ≤ 1048576) : getB (putB ts) = some ts := by
  have hc := encL_count ts
  have hl : (putB ts).length = (nums ts.length).length + (encL ts).length := by rw [putB, List.length_append]
  unfold getB
  rw [if_neg (by omega)]
  have e : getNum (putB ts) = some (ts.length, (nums ts.length).length) := getNum_nums (by omega) _
  have hs := getStrs_enc ts [] h
  rw [List.append_nil] at hs
  rw [e]
  simp only
  rw [if_neg (by omega), putB, List.drop_append_of_le_length (Nat.le_refl _), List.drop_length, List.nil_append, hs]

theorem getStrs_more : ∀ (c : Nat) (l t : List Nat) {ss : List ByteArray} {r : List Nat}, (∀ b ∈ l, b < 256) → getStrs c l = some (ss, r) → getStrs c (l ++ t) = some (ss, r ++ t)
  | 0, l, t, ss, r, _, h => by
    simp only [getStrs, Option.some.injEq, Prod.mk.injEq] at h ⊢
    obtain ⟨rfl, rfl⟩ := h
    exact ⟨rfl, rfl⟩
  | c + 1, l, t, ss, r, hb, h => by
    simp only [getStrs] at h ⊢
    split at h
    · cases h
    · rename_i n k hg
      have hk := getNum_bound hb hg
      rw [getNum_more hg t]
      simp only
      split at h
      · cases h
      · rename_i hn
        rw [if_neg (by rw [List.length_append]; omega)]
        split at h
        · cases h
        · rename_i ss' r' hs
          simp only [Option.some.injEq, Prod.mk.injEq] at h
          obtain ⟨rfl, rfl⟩ := h
          have ih := getStrs_more c (l.drop (k + n)) t (fun b h => hb b (List.mem_of_mem_drop h)) hs
          rw [List.drop_append_of_le_length (by omega), ih]
          simp only [Option.some.injEq, Prod.mk.injEq, List.cons.injEq, and_true]
          rw [List.drop_append_of_le_length (by omega), List.take_append_of_le_length (by rw [List.length_drop]; omega)]
/-- what is read is told by just these bytes -/
theorem getStrs_back : ∀ (c : Nat) (l : List Nat) {ss : List ByteArray} {r : List Nat}, (∀ b ∈ l, b < 256) → getStrs c l = some (ss, r) → ss.length = c ∧ l = encL ss ++ r
  | 0, l, ss, r, _, h => by
    simp only [getStrs, Option.some.injEq, Prod.mk.injEq] at h
    obtain ⟨rfl, rfl⟩ := h
    exact ⟨rfl, rfl⟩
  | c + 1, l, ss, r, hb, h => by
    simp only [getStrs] at h
    split at h
    · cases h
    · rename_i n k hg
      have hk := getNum_bound hb hg
      have hback := getNum_back hb hg
      split at h
      · cases h
      · rename_i hn
        split at h
        · cases h
        · rename_i ss' r' hs
          simp only [Option.some.injEq, Prod.mk.injEq] at h
          obtain ⟨rfl, rfl⟩ := h
          obtain ⟨h1, h2⟩ := getStrs_back c _ (fun b h => hb b (List.mem_of_mem_drop h)) hs
          have hlt : ((l.drop k).take n).length = n := by rw [List.length_take, List.length_drop]; omega
          refine ⟨by simp [h1], ?_⟩
          simp only [encL, encS]
          rw [strOf_size, hlt, strB_strOf (fun b h => hb b (List.mem_of_mem_drop (List.mem_of_mem_take h))), ← hback, List.append_assoc, List.append_assoc, ← h2]
          conv => lhs; rw [← List.take_append_drop k l, ← List.take_append_drop n (l.drop k), List.drop_drop]
theorem getB_back {l : List Nat} {ss : List ByteArray} (hb : ∀ b ∈ l, b < 256) (h : getB l = some ss) : putB ss = l ∧ l.length ≤ 1048576 := by
  unfold getB at h
  split at h
  · cases h
  · split at h
    · cases h
    · rename_i c k hg
      split at h
      · cases h
      · split at h
        · rename_i ss' hs
          simp only [Option.some.injEq] at h
          subst h
          obtain ⟨h1, h2⟩ := getStrs_back c _ (fun b h => hb b (List.mem_of_mem_drop h)) hs
          rw [List.append_nil] at h2
          refine ⟨?_, by omega⟩
          rw [putB, h1, ← h2, ← getNum_back hb hg, List.take_append_drop]
        · cases h
/-- what a beginning reads as, the whole does not -/
theorem getB_begin {l t : List Nat} {ss : List ByteArray} (hb : ∀ b ∈ l, b < 256) (h : getB l = some ss) (ht : t ≠ []) : getB (l ++ t) = none := by
  unfold getB at h ⊢
  split
  · rfl
  · split at h
    · cases h
    · split at h
      · cases h
      · rename_i c k hg
        have hk := getNum_bound hb hg
        rw [getNum_more hg t]
        simp only
        split at h
        · cases h
        · rw [if_neg (by rw [List.length_append]; omega)]
          split at h
          · rename_i ss' hs
            have := getStrs_more c (l.drop k) t (fun b h => hb b (List.mem_of_mem_drop h)) hs
            rw [List.drop_append_of_le_length (by omega), this]
            cases t with
            | nil => exact absurd rfl ht
            | cons x t => rfl
          · cases h
end Go.Proofs.YtjliefglelcooaaDoor
