/- A REGION THAT DRAWS ITS ORDER, WITH LATE OPERATIONS: some operations of the head that reckon without memory need not stand ahead of all that is behind the head. -/
import Derived.Test.YtpafbgdbjambgaaFast6
namespace Go.Proofs.Ytpafbgdbjambgaa
open Go.RowKit

/-- a panic speaks of no slot -/
structure PQ (Q : Exit → Act → World → Prop) : Prop where
  out : ∀ (d : Option Nat) (v : Value) (c : List PanicEntry) (a : Act) (w : World), Q (.panic c) (a.put d v) w → Q (.panic c) a w
theorem pq_then {K : Act → World → Prop} {Q : Exit → Act → World → Prop} (h : PQ Q) : PQ (Exit.then K Q) := ⟨fun d v c a w hq => h.out d v c a w hq⟩
theorem pq_block {id : Nat} {Q : Exit → Act → World → Prop} (h : PQ Q) : PQ (Exit.inBlock id Q) := ⟨fun d v c a w hq => h.out d v c a w hq⟩
theorem pq_body {P : Program} {fn : Func} {R : Ending → World → Prop} : PQ (bodyPost P fn R) := ⟨fun d v c a w hq => by
  cases d with
  | none => exact hq
  | some d => exact hq⟩

/-- operations that reckon without memory -/
def lateK : Op → Bool | .move _ => true | .assign _ => true | .extract _ _ => true | _ => false
theorem late_run {P : Program} {ρ : Operand → Value} {o : Oper} (h : lateK o.op = true) {w w' : World} {r : Next} (hr : (execOp ρ o).run P w = .ok r w') : w' = w ∧ ∀ w2, (execOp ρ o).run P w2 = .ok r w2 := by
  obtain ⟨dst, op, ty, pos, after, guard⟩ := o
  cases op <;> simp only [lateK, Bool.false_eq_true] at h
  · simp only [execOp, Sem.run_pure, Result.ok.injEq] at hr ⊢
    exact ⟨hr.2.symm, fun w2 => ⟨hr.1, trivial⟩⟩
  · simp only [execOp, Sem.run_pure, Result.ok.injEq] at hr ⊢
    exact ⟨hr.2.symm, fun w2 => ⟨hr.1, trivial⟩⟩
  · rename_i x i
    simp only [execOp, Sem.run_bind] at hr ⊢
    cases hx : ρ x <;> simp only [hx, Instr.extract] at hr ⊢ <;> (try (simp at hr; done))
    rename_i vs
    cases hv : vs[i]? <;> simp [hv] at hr ⊢
    exact ⟨hr.2.symm, hr.1⟩

def isLate (l : List Oper) (K j : Nat) : Bool := (List.range l.length).any fun i => decide (K ≤ i) && (match l[i]? with | some o => !hasEdge o j | none => false)
def lateB (l : List Oper) (K : Nat) : Bool :=
  (List.range K).all fun j => !isLate l K j || match l[j]? with
    | none => false
    | some o => lateK o.op && o.guard.isNone && o.dst.isSome && (List.range l.length).all fun i => i == j || match l[i]? with
      | none => false
      | some y => (if i < K then !isLate l K i else hasEdge y j) || o.apart l.toArray y
/-- the region's shape -/
def monoL (l : List Oper) (K : Nat) : Bool :=
  let ops := l.toArray
  let dst (i : Nat) : Option Nat := (l[i]?).bind (·.dst)
  (decide (K ≤ l.length) &&
  (List.range l.length).all fun i => match l[i]? with
    | none => false
    | some o =>
      (o.after.toList.all fun e => !Region.binds .any e || decide (e.on < i)) && !isSelect o.op &&
      (if i < K then
        (match o.dst with
         | none => false
         | some d => (List.range K).all (fun j => j == i || dst j != some d) && !((o.looksAt ops).elem d)) &&
        (List.range K).all (fun j => match dst j with
          | none => false
          | some d => !(o.looksAt ops).elem d || (decide (j < i) && hasEdge o j))
       else (List.range i).all (fun j => hasEdge o j || decide (j < K)))) && lateB l K

section late
variable {P : Program} {Q : Exit → Act → World → Prop} {n : Fr} {L : List (Nat × Value)} {w : World} {l : List Oper} {K : Nat} {R : Nat → Value → World → Prop}
theorem late_spec (hc : lateB l K = true) {j : Nat} {o : Oper} (hj : j < K) (ho : l[j]? = some o) (hl : isLate l K j = true) :
    lateK o.op = true ∧ o.guard = none ∧ ∀ i y, l[i]? = some y → i ≠ j → ((i < K ∧ isLate l K i = true) ∨ (K ≤ i ∧ hasEdge y j = false)) → o.apart l.toArray y = true := by
  have h := List.all_eq_true.1 hc j (List.mem_range.2 hj)
  rw [hl, ho] at h
  simp only [Bool.not_true, Bool.false_or, Bool.and_eq_true] at h
  refine ⟨h.1.1.1, by simpa using h.1.1.2, fun i y hi hne hcase => ?_⟩
  have h2 := List.all_eq_true.1 h.2 i (List.mem_range.2 (List.getElem?_eq_some_iff.1 hi).1)
  rw [hi] at h2
  simp only [beq_iff_eq, hne, Bool.or_eq_true, false_or] at h2
  rcases hcase with ⟨h3, h4⟩ | ⟨h3, h4⟩
  · simp [h3, h4] at h2
    exact h2
  · simp [show ¬ i < K by omega, h4] at h2
    exact h2
theorem nonlate_edge {i j : Nat} {o : Oper} (hl : isLate l K j = false) (ho : l[i]? = some o) (hi : K ≤ i) : hasEdge o j = true := by
  unfold isLate at hl
  have := List.any_eq_false.1 hl i (List.mem_range.2 (List.getElem?_eq_some_iff.1 ho).1)
  rw [ho] at this
  simpa [hi] using this
/-- values that are still to be put -/
def pend (l : List Oper) (f : Nat → Value) : List Nat → Act → Act
  | [], a => a
  | i :: r, a => (pend l f r a).put ((l[i]?).bind (·.dst)) (f i)
theorem pend_put {f : Nat → Value} {x : Option Nat} {v : Value} : ∀ (U : List Nat) (a : Act), (∀ i ∈ U, ∀ d, x = some d → (l[i]?).bind (·.dst) ≠ some d) → pend l f U (a.put x v) = (pend l f U a).put x v
  | [], _, _ => rfl
  | i :: r, a, h => by
    show (pend l f r (a.put x v)).put _ _ = ((pend l f r a).put _ _).put _ _
    rw [pend_put r a (fun j hj => h j (List.mem_cons_of_mem _ hj))]
    exact Act.put_comm _ _ _ (h i (List.mem_cons_self ..))
theorem pend_erase {f : Nat → Value} {i : Nat} : ∀ (U : List Nat) (a : Act), i ∈ U → U.Nodup → (∀ j ∈ U, j ≠ i → ∀ d, (l[i]?).bind (·.dst) = some d → (l[j]?).bind (·.dst) ≠ some d) → pend l f (U.erase i) (a.put ((l[i]?).bind (·.dst)) (f i)) = pend l f U a
  | [], _, h, _, _ => by cases h
  | j :: r, a, h, hn, hd => by
    obtain ⟨hn1, hn2⟩ := List.nodup_cons.1 hn
    by_cases e : j = i
    · subst e
      rw [List.erase_cons_head]
      exact pend_put r a (fun k hk => hd k (List.mem_cons_of_mem _ hk) (fun e => hn1 (e ▸ hk)))
    · rw [List.erase_cons_tail (by simpa using e)]
      show (pend l f (r.erase i) _).put _ _ = (pend l f r a).put _ _
      rw [pend_erase r a ((List.mem_cons.1 h).resolve_left (fun h => e h.symm)) hn2 (fun k hk => hd k (List.mem_cons_of_mem _ hk))]
theorem yields_put {o y : Oper} {v u : Value} {a : Act} (hs : isSelect o.op = false) (hap : o.apart l.toArray y = true) : Yields P l.toArray o v (a.put y.dst u) ↔ Yields P l.toArray o v a := by
  have h3 := (Oper.apart_spec hap).2.2
  have hs' : ∀ cs b, o.op ≠ .select cs b := fun cs b e => by rw [e] at hs; simp [isSelect] at hs
  exact ⟨fun h => h.of_same (execOp_put o hs' a y.dst u h3).symm (wanted_put o a y.dst u h3).symm, fun h => h.of_same (execOp_put o hs' a y.dst u h3) (wanted_put o a y.dst u h3)⟩
theorem yields_pend {f : Nat → Value} {o : Oper} {v : Value} (hs : isSelect o.op = false) : ∀ (U : List Nat) (a : Act), (∀ i ∈ U, ∃ y, l[i]? = some y ∧ o.apart l.toArray y = true) → (Yields P l.toArray o v (pend l f U a) ↔ Yields P l.toArray o v a)
  | [], _, _ => Iff.rfl
  | i :: r, a, h => by
    obtain ⟨y, hy, hap⟩ := h i (List.mem_cons_self ..)
    show Yields P l.toArray o v ((pend l f r a).put _ _) ↔ _
    rw [hy]
    exact (yields_put hs hap).trans (yields_pend hs r a (fun j hj => h j (List.mem_cons_of_mem _ hj)))
theorem wpOp_pend (hQ : PQ Q) {f : Nat → Value} {k : Nat} {o : Oper} (ho : l[k]? = some o) (hs : isSelect o.op = false) : ∀ (U : List Nat) (Kk : Act → World → Prop) (a : Act), U.Nodup →
    (∀ i ∈ U, ∃ y, l[i]? = some y ∧ isSelect y.op = false ∧ y.apart l.toArray o = true ∧ Yields P l.toArray y (f i) a ∧ ∀ j ∈ U, j ≠ i → ∃ z, l[j]? = some z ∧ y.apart l.toArray z = true) →
    wpOp P l.toArray Q k Kk (pend l f U a) w → wpOp P l.toArray Q k (fun a' w' => (∀ i ∈ U, ∀ y, l[i]? = some y → Yields P l.toArray y (f i) a') ∧ Kk (pend l f U a') w') a w
  | [], Kk, a, _, _, h => wpOp_mono (fun a w h => ⟨by simp, h⟩) h
  | i :: r, Kk, a, hn, hU, h => by
    obtain ⟨hn1, hn2⟩ := List.nodup_cons.1 hn
    obtain ⟨y, hy, hsy, hap, hyl, hoth⟩ := hU i (List.mem_cons_self ..)
    have hr : ∀ j ∈ r, ∃ z, l[j]? = some z ∧ y.apart l.toArray z = true := fun j hj => hoth j (List.mem_cons_of_mem _ hj) (fun e => hn1 (e ▸ hj))
    have hsel : ∀ {x : Oper}, isSelect x.op = false → ∀ cs b, x.op ≠ .select cs b := fun hs cs b e => by rw [e] at hs; simp [isSelect] at hs
    have e0 : pend l f (i :: r) a = (pend l f r a).put y.dst (f i) := by
      show (pend l f r a).put _ _ = _
      rw [hy]; rfl
    rw [e0] at h
    have h1 := wpOp_put (P := P) (ops := l.toArray) (by rw [List.getElem?_toArray]; exact ho) hap (hsel hsy) (hsel hs) (fun c a w => hQ.out _ _ c a w) ((yields_pend hsy r a hr).2 hyl) h
    have h2 := wpOp_pend hQ ho hs r _ a hn2 (fun j hj => by
      obtain ⟨z, h1, h2, h3, h4, h5⟩ := hU j (List.mem_cons_of_mem _ hj)
      exact ⟨z, h1, h2, h3, h4, fun k hk => h5 k (List.mem_cons_of_mem _ hk)⟩) h1
    refine wpOp_mono (fun a' w' hh => ?_) h2
    obtain ⟨g1, g2, g3⟩ := hh
    refine ⟨fun j hj z hz => ?_, ?_⟩
    · rcases List.mem_cons.1 hj with rfl | hj
      · rw [hy] at hz
        cases hz
        exact (yields_pend hsy r a' hr).1 g2
      · exact g1 j hj z hz
    · show Kk ((pend l f r a').put _ _) w'
      rw [hy]
      exact g3
/-- behind the head: one order, but for the late ones -/
theorem tail_late (hQ : PQ Q) (hc : monoL l K = true) {f : Nat → Value} : ∀ (m k : Nat) (listed : Array Bool) (U : List Nat) (a : Act) (w' : World), listed.toList.count false = m → listed.size = l.length → K ≤ k → k ≤ l.length →
    (∀ j, K ≤ j → j < l.length → listed.getD j true = decide (j < k)) → U.Nodup → (∀ j, j < K → (listed.getD j true = false ↔ j ∈ U)) → (∀ j ∈ U, j < K ∧ isLate l K j = true ∧ ∃ o, l[j]? = some o ∧ Yields P l.toArray o (f j) a) →
    wpList P l.toArray Q (l.drop k) (pend l f U a) w' → wpAny P .any l.toArray Q m listed a w' := by
  have hc1 := (Bool.and_eq_true_iff.1 hc).1
  have hlate := (Bool.and_eq_true_iff.1 hc).2
  have hKl : K ≤ l.length := of_decide_eq_true (Bool.and_eq_true_iff.1 hc1).1
  have hck := (List.all_eq_true.1 (Bool.and_eq_true_iff.1 hc1).2)
  intro m
  induction m with
  | zero =>
    intro k listed U a w' hcount hs hK hkl htail hn hU hUl h
    have hall : ∀ j, j < l.length → listed.getD j true = true := by
      intro j hj
      have hm : listed[j]'(by omega) ∈ listed.toList := by simp
      cases hb : listed[j]'(by omega) with
      | true => simp [Array.getD, show j < listed.size by omega, hb]
      | false =>
        rw [hb] at hm
        exact absurd hcount (Nat.pos_iff_ne_zero.1 (List.count_pos_iff.2 hm))
    have hU0 : U = [] := by
      rw [List.eq_nil_iff_forall_not_mem]
      intro j hj
      have h1 := (hU j (hUl j hj).1).2 hj
      rw [hall j (by have := (hUl j hj).1; omega)] at h1
      cases h1
    have hke : k = l.length := by
      rcases Nat.lt_or_ge k l.length with hlt | hge
      · have h1 := htail k hK hlt
        rw [hall k hlt] at h1
        simp at h1
      · omega
    subst hU0 hke
    refine ⟨?_, by simpa [pend, wpList] using h⟩
    rw [List.eq_nil_iff_forall_not_mem]
    intro j hj
    obtain ⟨h0, o, ho, _⟩ := mem_ready.1 hj
    rw [List.getElem?_toArray] at ho
    rw [hall j (List.getElem?_eq_some_iff.1 ho).1] at h0
    cases h0
  | succ m ih =>
    intro k listed U a w' hcount hs hK hkl htail hn hU hUl h
    have hex : ∃ i, i < l.length ∧ listed.getD i true = false := by
      obtain ⟨i, hi, hb⟩ := List.mem_iff_getElem.1 (List.count_pos_iff.1 (by rw [hcount]; omega : 0 < listed.toList.count false))
      have hi' : i < listed.size := by simpa using hi
      exact ⟨i, by omega, by simpa [Array.getD, hi'] using hb⟩
    obtain ⟨i0, hi0, hmin⟩ := exists_least hex
    have hready : i0 ∈ Region.ready .any l.toArray listed := by
      refine mem_ready.2 ⟨hi0.2, l[i0]'hi0.1, by rw [List.getElem?_toArray, List.getElem?_eq_getElem hi0.1], fun e he hb => ?_⟩
      have hx := hck i0 (List.mem_range.2 hi0.1)
      rw [List.getElem?_eq_getElem hi0.1] at hx
      simp only [Bool.and_eq_true] at hx
      have he2 := List.all_eq_true.1 hx.1.1 e (by simpa using he)
      rw [hb] at he2
      simp at he2
      rw [← getD_true_false (by omega)]
      cases hb2 : listed.getD e.on true with
      | true => rfl
      | false => exact absurd (hmin e.on ⟨by omega, hb2⟩) (by omega)
    refine ⟨fun h0 => (by rw [h0] at hready; cases hready), fun i hi => ?_⟩
    obtain ⟨h0, o, ho, hall⟩ := mem_ready.1 hi
    rw [List.getElem?_toArray] at ho
    have hil : i < l.length := (List.getElem?_eq_some_iff.1 ho).1
    have hx := hck i (List.mem_range.2 hil)
    rw [ho] at hx
    simp only [Bool.and_eq_true] at hx
    have hsel : isSelect o.op = false := by simpa using hx.1.2
    have hcnt : (listed.setIfInBounds i true).toList.count false = m := by
      have hil' : i < listed.size := by omega
      have hfalse : listed.toList[i]? = some false := by
        rw [Array.getElem?_toList, Array.getElem?_eq_getElem hil']
        simp [Array.getD, hil'] at h0
        rw [h0]
      rw [Array.toList_setIfInBounds]
      have := count_set_true (l := listed.toList) (i := i) hfalse
      omega
    by_cases hiK : i < K
    · -- a late one
      have hiU := (hU i hiK).1 h0
      obtain ⟨_, hil8, o', ho', hy⟩ := hUl i hiU
      rw [ho] at ho'
      cases ho'
      obtain ⟨_, _, hap⟩ := late_spec hlate hiK ho hil8
      refine Yields.wpOp (by rw [List.getElem?_toArray]; exact ho) hy ?_
      have he : a.put o.dst (f i) = a.put ((l[i]?).bind (·.dst)) (f i) := by rw [ho]; rfl
      refine ih k _ (U.erase i) _ w' hcnt (by simpa using hs) hK hkl (fun j h1 h2 => by rw [getD_set_ne true (by omega)]; exact htail j h1 h2) (hn.erase i) (fun j hj => ?_) (fun j hj => ?_) ?_
      · by_cases e : i = j
        · subst e
          simp [hs, hil, hn.not_mem_erase]
        · rw [getD_set_ne true e, hU j hj]
          exact (List.mem_erase_of_ne (Ne.symm e)).symm
      · have hjU := List.mem_of_mem_erase hj
        obtain ⟨h1, h2, oj, h3, h4⟩ := hUl j hjU
        have hne : i ≠ j := fun e => by subst e; exact (hn.not_mem_erase) hj
        obtain ⟨_, _, hapj⟩ := late_spec hlate h1 h3 h2
        have hxj := hck j (List.mem_range.2 (by omega))
        rw [h3] at hxj
        simp only [Bool.and_eq_true] at hxj
        exact ⟨h1, h2, oj, h3, (yields_put (by simpa using hxj.1.2) (hapj i o ho hne (.inl ⟨hiK, hil8⟩))).2 h4⟩
      · rw [he, pend_erase U a hiU hn (fun j hj hne d hd => ?_)]
        · exact h
        · obtain ⟨h1, h2, oj, h3, h4⟩ := hUl j hj
          have h5 := (Oper.apart_spec (hap j oj h3 hne (.inl ⟨h1, h2⟩))).2.1 d (by rw [ho] at hd; exact hd)
          rw [h3]
          exact h5
    · -- the next of the tail
      have hik : i = k := by
        rw [htail i (by omega) hil] at h0
        have h0' : k ≤ i := by simpa using h0
        rcases Nat.eq_or_lt_of_le h0' with e | hlt
        · exact e.symm
        · exfalso
          have h3 := hx.2
          rw [if_neg hiK] at h3
          have h4 := List.all_eq_true.1 h3 k (List.mem_range.2 hlt)
          simp only [show ¬ k < K by omega, decide_false, Bool.or_false] at h4
          obtain ⟨e, he, he2⟩ := List.any_eq_true.1 h4
          simp only [Bool.and_eq_true, beq_iff_eq] at he2
          have h5 := hall e (by simpa using he) he2.1
          rw [he2.2, ← getD_true_false (by omega), htail k hK (by omega)] at h5
          simp at h5
      subst hik
      have hdrop : l.drop i = o :: l.drop (i + 1) := by
        rw [List.drop_eq_getElem_cons hil]
        rw [List.getElem?_eq_getElem hil] at ho
        cases ho
        rfl
      rw [hdrop] at h
      have hk2 : wpOp P l.toArray Q i (wpList P l.toArray Q (l.drop (i + 1))) (pend l f U a) w' := by
        unfold wpOp
        rw [List.getElem?_toArray, ho]
        exact h
      have hne : ∀ j ∈ U, j ≠ i := fun j hj e => by have := (hUl j hj).1; omega
      have hk3 := wpOp_pend hQ ho hsel U _ a hn (fun j hj => by
        obtain ⟨h1, h2, oj, h3, h4⟩ := hUl j hj
        obtain ⟨_, _, hapj⟩ := late_spec hlate h1 h3 h2
        have hxj := hck j (List.mem_range.2 (by omega))
        rw [h3] at hxj
        simp only [Bool.and_eq_true] at hxj
        refine ⟨oj, h3, by simpa using hxj.1.2, hapj i o ho (Ne.symm (hne j hj)) (.inr ⟨by omega, ?_⟩), h4, fun j' hj' hne' => ?_⟩
        · cases hE : hasEdge o j with
          | false => rfl
          | true =>
            obtain ⟨e, he, he2⟩ := List.any_eq_true.1 hE
            simp only [Bool.and_eq_true, beq_iff_eq] at he2
            have h5 := hall e (by simpa using he) he2.1
            rw [he2.2, ← getD_true_false (by omega), (hU j h1).2 hj] at h5
            cases h5
        · obtain ⟨h1', h2', oj', h3', _⟩ := hUl j' hj'
          exact ⟨oj', h3', hapj j' oj' h3' hne' (.inl ⟨h1', h2'⟩)⟩) hk2
      refine wpOp_mono (fun a' w'' hh => ?_) hk3
      refine ih (i + 1) _ U a' w'' hcnt (by simpa using hs) (by omega) (by omega) (fun j h1 h2 => ?_) hn (fun j hj => ?_) (fun j hj => ?_) hh.2
      · by_cases e : i = j
        · subst e
          simp [hs, hil]
        · rw [getD_set_ne true e, htail j h1 h2]
          have : (j < i + 1) ↔ (j < i) := by omega
          simp [this]
      · rw [getD_set_ne true (by omega)]
        exact hU j hj
      · obtain ⟨h1, h2, oj, h3, _⟩ := hUl j hj
        exact ⟨h1, h2, oj, h3, hh.1 j hj oj h3⟩
theorem pend_mkA {f : Nat → Value} : ∀ (U : List Nat) (L' : List (Nat × Value)), pend l f U (mkA n L') = mkA n ((U.filterMap fun i => ((l[i]?).bind (·.dst)).map fun d => (d, f i)) ++ L')
  | [], _ => rfl
  | i :: r, L' => by
    show (pend l f r (mkA n L')).put _ _ = _
    rw [pend_mkA r L', List.filterMap_cons]
    cases hd : (l[i]?).bind (·.dst) with
    | none => rfl
    | some d =>
      rw [put_mkA]
      rfl
theorem look_pend {f : Nat → Value} {L' : List (Nat × Value)} {t : Nat} : ∀ (U : List Nat), (∀ i ∈ U, (l[i]?).bind (·.dst) ≠ some t) → look ((U.filterMap fun i => ((l[i]?).bind (·.dst)).map fun d => (d, f i)) ++ L') t = look L' t
  | [], _ => rfl
  | i :: r, h => by
    rw [List.filterMap_cons]
    have h1 := h i (List.mem_cons_self ..)
    cases hd : (l[i]?).bind (·.dst) with
    | none => exact look_pend r (fun j hj => h j (List.mem_cons_of_mem _ hj))
    | some d =>
      simp only [Option.map_some, List.cons_append]
      rw [look_cons, if_neg (fun e => h1 (by rw [hd, e]))]
      exact look_pend r (fun j hj => h j (List.mem_cons_of_mem _ hj))
theorem look_pend_at {f : Nat → Value} {L' : List (Nat × Value)} {i d : Nat} : ∀ (U : List Nat), i ∈ U → (l[i]?).bind (·.dst) = some d → (∀ j ∈ U, j ≠ i → (l[j]?).bind (·.dst) ≠ some d) → look ((U.filterMap fun i => ((l[i]?).bind (·.dst)).map fun d => (d, f i)) ++ L') d = f i
  | [], h, _, _ => by cases h
  | j :: r, h, hd, hne => by
    rw [List.filterMap_cons]
    by_cases e : j = i
    · subst e
      rw [hd]
      simp only [Option.map_some, List.cons_append]
      rw [look_cons, if_pos rfl]
    · have h1 := hne j (List.mem_cons_self ..) e
      have ih := look_pend_at (f := f) (L' := L') r ((List.mem_cons.1 h).resolve_left (fun h => e h.symm)) hd (fun k hk => hne k (List.mem_cons_of_mem _ hk))
      cases hdj : (l[j]?).bind (·.dst) with
      | none => exact ih
      | some d' =>
        simp only [Option.map_some, List.cons_append]
        rw [look_cons, if_neg (fun e => h1 (by rw [hdj, e]))]
        exact ih
theorem late_fin (hQ : PQ Q) (hc : monoL l K = true) (hop : OpsOK P l.toArray n L w R (preOf l K) (l.take K))
    (hend : ∀ w', From w w' → AllF R w' (preOf l K) fun M => St P l.toArray Q (l.drop K) n (M ++ L) w') (m : Nat) (listed : Array Bool) (L' : List (Nat × Value)) (w' : World) (hcount : listed.toList.count false = m) (hs : listed.size = l.length)
    (htail : ∀ j, K ≤ j → j < l.length → listed.getD j true = false) (hF : From w w')
    (hfr : ∀ t, (∀ i o, i < K → l[i]? = some o → listed.getD i true = true → o.dst ≠ some t) → look L' t = look L t)
    (hR : ∀ i o d, i < K → l[i]? = some o → listed.getD i true = true → o.dst = some d → R d (look L' d) w') (hpre : ∀ i, i < K → listed.getD i true = false → isLate l K i = true) : wpAny P .any l.toArray Q m listed (mkA n L') w' := by
  have hc1 := (Bool.and_eq_true_iff.1 hc).1
  have hlate := (Bool.and_eq_true_iff.1 hc).2
  have hKl : K ≤ l.length := of_decide_eq_true (Bool.and_eq_true_iff.1 hc1).1
  have hck := (List.all_eq_true.1 (Bool.and_eq_true_iff.1 hc1).2)
  -- what is known of an operation of the head
  have hhead : ∀ i, i < K → ∃ o d, l[i]? = some o ∧ o.dst = some d ∧ isSelect o.op = false ∧ (∀ j oj, j < K → j ≠ i → l[j]? = some oj → oj.dst ≠ some d) ∧
      (∀ j oj t, j < K → l[j]? = some oj → oj.dst = some t → (o.looksAt l.toArray).elem t = true → j < i ∧ hasEdge o j = true) := by
    intro i hi
    have hil : i < l.length := by omega
    have hx := hck i (List.mem_range.2 hil)
    rw [List.getElem?_eq_getElem hil] at hx
    simp only [Bool.and_eq_true] at hx
    have h3 := hx.2
    rw [if_pos hi] at h3
    simp only [Bool.and_eq_true] at h3
    obtain ⟨h3a, h3b⟩ := h3
    cases hod : (l[i]).dst with
    | none => rw [hod] at h3a; cases h3a
    | some d =>
      rw [hod] at h3a
      simp only [Bool.and_eq_true] at h3a
      refine ⟨l[i], d, List.getElem?_eq_getElem hil, hod, by simpa using hx.1.2, fun j oj hj hne hoj e => ?_, fun j oj t hj hoj hd ht => ?_⟩
      · have h5 := List.all_eq_true.1 h3a.1 j (List.mem_range.2 hj)
        rw [hoj] at h5
        simp [hne, e] at h5
      · have h5 := List.all_eq_true.1 h3b j (List.mem_range.2 hj)
        rw [hoj] at h5
        have ht' : t ∈ (l[i]).looksAt l.toArray := by simpa using ht
        simpa [hd, ht'] using h5
  -- the values of those that are still to come
  have hval : ∀ i, i < K → listed.getD i true = false → ∃ v, ∀ o d, l[i]? = some o → o.dst = some d → Yields P l.toArray o v (mkA n L') ∧ R d v w' := by
    intro i hi hf
    have hil8 := hpre i hi hf
    obtain ⟨o, d, ho, hd, hsel, _, hlk⟩ := hhead i hi
    obtain ⟨hk, hg, hap⟩ := late_spec hlate hi ho hil8
    have hfact : ∀ t ∈ slotsOf l.toArray (preOf l K) o, R t (look L' t) w' := by
      intro t ht
      obtain ⟨ht1, ht2⟩ := List.mem_filter.1 ht
      obtain ⟨oj, hoj, hdj⟩ := List.mem_filterMap.1 ht1
      obtain ⟨j, hj⟩ := List.mem_iff_getElem?.1 hoj
      rw [List.getElem?_take] at hj
      split at hj
      · rename_i hjK
        have h5 := hlk j oj t hjK hj hdj ht2
        refine hR j oj t hjK hj ?_ hdj
        cases hb : listed.getD j true with
        | true => rfl
        | false =>
          have h6 := hpre j hjK hb
          have h7 := (Oper.apart_spec (hap j oj hj (by omega) (.inl ⟨hjK, h6⟩))).2.2 t hdj
          exact absurd (by simpa using ht2) h7
      · cases hj
    have hlooks : ∀ t, (o.looksAt l.toArray).elem t = true → look ((slotsOf l.toArray (preOf l K) o).map (fun d => (d, look L' d)) ++ L) t = look L' t := by
      intro t ht
      rw [look_map]
      split
      · rfl
      · rename_i hne
        refine (hfr t fun j oj hj hoj hlj hd => hne ?_).symm
        simp only [List.elem_eq_mem, decide_eq_true_eq]
        refine List.mem_filter.2 ⟨List.mem_filterMap.2 ⟨oj, List.mem_iff_getElem?.2 ⟨j, by rw [List.getElem?_take, if_pos hj]; exact hoj⟩, hd⟩, ht⟩
    have hok := allF_at (look L') _ hfact (opsOK_at hop i o (by rw [List.getElem?_take, if_pos hi]; exact ho) w' hF)
    obtain ⟨hE, hW⟩ := looksAt_agree (n := n) (ops := l.toArray) (o := o) hsel hlooks
    rw [hd] at hok
    simp only [Option.getD_some] at hok
    have hyl : ∃ v, Yields P l.toArray o v (mkA n L') ∧ R d v w' := by
      unfold OpOK at hok
      rw [hE, hW] at hok
      rcases hok with ⟨hw, ⟨v, w'', hr, hF', hRv⟩ | ⟨f, args, hr, hcall⟩⟩ | ⟨hw, hRv⟩
      · obtain ⟨rfl, hall⟩ := late_run hk hr
        refine ⟨v, .inl ⟨hw, fun w2 => ?_⟩, hRv⟩
        rw [eval_mkA]
        exact hall w2
      · exfalso
        obtain ⟨dst, op, ty, pos, after, guard⟩ := o
        cases op <;> simp only [lateK, Bool.false_eq_true] at hk <;> simp only [execOp, Sem.run_pure, Sem.run_bind, Result.ok.injEq] at hr
        · cases hr.1
        · cases hr.1
        · rename_i x i'
          cases hx : ev n L' x <;> simp only [hx, Instr.extract] at hr <;> (try (simp at hr; done))
          rename_i vs
          cases hv : vs[i']? <;> simp [hv] at hr
      · exact ⟨undef, .inr ⟨hw, rfl⟩, hRv⟩
    obtain ⟨v, hv1, hv2⟩ := hyl
    refine ⟨v, fun o' d' ho' hd' => ?_⟩
    rw [ho] at ho'
    cases ho'
    rw [hd] at hd'
    cases hd'
    exact ⟨hv1, hv2⟩
  obtain ⟨f, hf⟩ : ∃ f : Nat → Value, ∀ i, i < K → listed.getD i true = false → ∀ o d, l[i]? = some o → o.dst = some d → Yields P l.toArray o (f i) (mkA n L') ∧ R d (f i) w' := by
    refine ⟨fun i => open Classical in if h : ∃ v, ∀ o d, l[i]? = some o → o.dst = some d → Yields P l.toArray o v (mkA n L') ∧ R d v w' then h.choose else undef, fun i hi hl => ?_⟩
    have h := hval i hi hl
    simp only [dif_pos h]
    exact h.choose_spec
  have hUm : ∀ i, i ∈ (List.range K).filter (fun i => !listed.getD i true) ↔ i < K ∧ listed.getD i true = false := fun i => by
    rw [List.mem_filter, List.mem_range]
    simp
  obtain ⟨U, hU, hUn⟩ : ∃ U : List Nat, (∀ i, i ∈ U ↔ i < K ∧ listed.getD i true = false) ∧ U.Nodup := ⟨_, hUm, List.nodup_range.sublist (List.filter_sublist ..)⟩
  have hbind : ∀ {i : Nat} {o : Oper}, l[i]? = some o → (l[i]?).bind (·.dst) = o.dst := fun h => by rw [h]; rfl
  -- the frame with all of them
  have hRall : ∀ d ∈ preOf l K, R d (look ((U.filterMap fun i => ((l[i]?).bind (·.dst)).map fun d => (d, f i)) ++ L') d) w' := by
    intro d hd
    obtain ⟨o, ho, hod⟩ := List.mem_filterMap.1 hd
    obtain ⟨i, hi⟩ := List.mem_iff_getElem?.1 ho
    rw [List.getElem?_take] at hi
    split at hi
    · rename_i hiK
      obtain ⟨o', d', ho', hd', _, hdist, _⟩ := hhead i hiK
      rw [hi] at ho'
      cases ho'
      rw [hod] at hd'
      cases hd'
      have hne : ∀ j ∈ U, j ≠ i → (l[j]?).bind (·.dst) ≠ some d := fun j hj hji => by
        have hjK := ((hU j).1 hj).1
        obtain ⟨oj, dj, hoj, _⟩ := hhead j hjK
        rw [hbind hoj]
        exact hdist j oj hjK hji hoj
      cases hb : listed.getD i true with
      | true =>
        rw [look_pend U fun j hj => hne j hj (fun e => by subst e; have := ((hU j).1 hj).2; rw [hb] at this; cases this)]
        exact hR i o d hiK hi hb hod
      | false =>
        rw [look_pend_at U ((hU i).2 ⟨hiK, hb⟩) ((hbind hi).trans hod) hne]
        exact (hf i hiK hb o d hi hod).2
    · cases hi
  have he := allF_at _ (preOf l K) hRall (hend w' hF)
  have hL : mkA n ((preOf l K).map (fun d => (d, look ((U.filterMap fun i => ((l[i]?).bind (·.dst)).map fun d => (d, f i)) ++ L') d)) ++ L) = pend l f U (mkA n L') := by
    rw [pend_mkA]
    refine mkA_congr fun t _ => ?_
    rw [look_map]
    split
    · rfl
    · rename_i hne
      have hnd : ∀ i, i < K → ∀ o, l[i]? = some o → o.dst ≠ some t := fun i hi o ho hod => hne (by
        simp only [List.elem_eq_mem, decide_eq_true_eq]
        exact List.mem_filterMap.2 ⟨o, List.mem_iff_getElem?.2 ⟨i, by rw [List.getElem?_take, if_pos hi]; exact ho⟩, hod⟩)
      rw [look_pend U fun j hj => by
        have hjK := ((hU j).1 hj).1
        obtain ⟨oj, dj, hoj, _⟩ := hhead j hjK
        rw [hbind hoj]
        exact hnd j hjK oj hoj]
      exact (hfr t fun i o hi ho _ hod => hnd i hi o ho hod).symm
  replace he := he.out
  rw [hL] at he
  refine tail_late hQ hc m K listed U _ w' hcount hs (Nat.le_refl _) hKl (fun j h1 h2 => by rw [htail j h1 h2]; simp [h1]) hUn (fun j hj => ⟨fun h => (hU j).2 ⟨hj, h⟩, fun h => ((hU j).1 h).2⟩) (fun j hj => ?_) he
  obtain ⟨h1, h2⟩ := (hU j).1 hj
  obtain ⟨oj, dj, hoj, hdj, _⟩ := hhead j h1
  exact ⟨h1, hpre j h1 h2, oj, hoj, (hf j h1 h2 oj dj hoj hdj).1⟩
theorem mono_late (hQ : PQ Q) (hc : monoL l K = true) (hmono : ∀ t v w1 w2, From w1 w2 → R t v w1 → R t v w2) (hop : OpsOK P l.toArray n L w R (preOf l K) (l.take K))
    (hend : ∀ w', From w w' → AllF R w' (preOf l K) fun M => St P l.toArray Q (l.drop K) n (M ++ L) w') :
    ∀ (m : Nat) (listed : Array Bool) (L' : List (Nat × Value)) (w' : World), listed.toList.count false = m → listed.size = l.length → (∀ j, K ≤ j → j < l.length → listed.getD j true = false) → From w w' →
      (∀ t, (∀ i o, i < K → l[i]? = some o → listed.getD i true = true → o.dst ≠ some t) → look L' t = look L t) →
      (∀ i o d, i < K → l[i]? = some o → listed.getD i true = true → o.dst = some d → R d (look L' d) w') → wpAny P .any l.toArray Q m listed (mkA n L') w' := by
  have hc1 := (Bool.and_eq_true_iff.1 hc).1
  have hlate := (Bool.and_eq_true_iff.1 hc).2
  have hKl : K ≤ l.length := of_decide_eq_true (Bool.and_eq_true_iff.1 hc1).1
  have hck := (List.all_eq_true.1 (Bool.and_eq_true_iff.1 hc1).2)
  intro m
  induction m with
  | zero =>
    intro listed L' w' hcount hs htail hF hfr hR
    exact late_fin hQ hc hop hend 0 listed L' w' hcount hs htail hF hfr hR (fun i hi h => by
      have hm : listed[i]'(by omega) ∈ listed.toList := by simp
      have hb : listed[i]'(by omega) = false := by simpa [Array.getD, show i < listed.size by omega] using h
      rw [hb] at hm
      exact absurd hcount (Nat.pos_iff_ne_zero.1 (List.count_pos_iff.2 hm)))
  | succ m ih =>
    intro listed L' w' hcount hs htail hF hfr hR
    by_cases hpre : ∀ i, i < K → listed.getD i true = false → isLate l K i = true
    · exact late_fin hQ hc hop hend (m + 1) listed L' w' hcount hs htail hF hfr hR hpre
    · -- some operation of the head is still to come
      have hn0 : ∃ i, i < K ∧ listed.getD i true = false ∧ isLate l K i = false := by
        refine Classical.byContradiction fun hno => hpre fun i hi hf => ?_
        cases hb : isLate l K i with
        | true => rfl
        | false => exact absurd ⟨i, hi, hf, hb⟩ hno
      obtain ⟨n0, hn0⟩ := hn0
      obtain ⟨i0, hi0, hmin⟩ := exists_least (p := fun i => i < K ∧ listed.getD i true = false) ⟨n0, hn0.1, hn0.2.1⟩
      have hi0l : i0 < l.length := by omega
      have hready : i0 ∈ Region.ready .any l.toArray listed := by
        refine mem_ready.2 ⟨hi0.2, l[i0], by rw [List.getElem?_toArray, List.getElem?_eq_getElem hi0l], fun e he hb => ?_⟩
        have hx := hck i0 (List.mem_range.2 hi0l)
        rw [List.getElem?_eq_getElem hi0l] at hx
        simp only [Bool.and_eq_true] at hx
        have he2 := List.all_eq_true.1 hx.1.1 e (by simpa using he)
        rw [hb] at he2
        simp at he2
        rw [← getD_true_false (by omega)]
        cases hb2 : listed.getD e.on true with
        | true => rfl
        | false => exact absurd (hmin e.on ⟨by omega, hb2⟩) (by omega)
      refine ⟨fun h0 => (by rw [h0] at hready; cases hready), fun i hi => ?_⟩
      obtain ⟨h0, o, ho, hall⟩ := mem_ready.1 hi
      rw [List.getElem?_toArray] at ho
      have hil : i < l.length := (List.getElem?_eq_some_iff.1 ho).1
      have hx := hck i (List.mem_range.2 hil)
      rw [ho] at hx
      simp only [Bool.and_eq_true] at hx
      have hiK : i < K := by
        rcases Nat.lt_or_ge i K with h | h
        · exact h
        · exfalso
          obtain ⟨e, he, he2⟩ := List.any_eq_true.1 (nonlate_edge hn0.2.2 ho h)
          simp only [Bool.and_eq_true, beq_iff_eq] at he2
          have h5 := hall e (by simpa using he) he2.1
          rw [he2.2, ← getD_true_false (by omega), hn0.2.1] at h5
          cases h5
      have h3 := hx.2
      rw [if_pos hiK] at h3
      simp only [Bool.and_eq_true] at h3
      obtain ⟨h3a, h3b⟩ := h3
      cases hod : o.dst with
      | none => rw [hod] at h3a; cases h3a
      | some d =>
        rw [hod] at h3a
        simp only [Bool.and_eq_true] at h3a
        have hlooks : ∀ t, (o.looksAt l.toArray).elem t = true → look ((slotsOf l.toArray (preOf l K) o).map (fun d => (d, look L' d)) ++ L) t = look L' t := by
          intro t ht
          rw [look_map]
          split
          · rfl
          · rename_i hne
            refine (hfr t fun j oj hj hoj hlj hd => hne ?_).symm
            simp only [List.elem_eq_mem, decide_eq_true_eq]
            refine List.mem_filter.2 ⟨List.mem_filterMap.2 ⟨oj, List.mem_iff_getElem?.2 ⟨j, by rw [List.getElem?_take, if_pos hj]; exact hoj⟩, hd⟩, ht⟩
        have hfact : ∀ t ∈ slotsOf l.toArray (preOf l K) o, R t (look L' t) w' := by
          intro t ht
          obtain ⟨ht1, ht2⟩ := List.mem_filter.1 ht
          obtain ⟨oj, hoj, hd⟩ := List.mem_filterMap.1 ht1
          obtain ⟨j, hj⟩ := List.mem_iff_getElem?.1 hoj
          rw [List.getElem?_take] at hj
          split at hj
          · rename_i hjK
            have h5 := List.all_eq_true.1 h3b j (List.mem_range.2 hjK)
            rw [hj] at h5
            simp only [Option.bind_some, hd, ht2, Bool.not_true, Bool.false_or, Bool.and_eq_true, decide_eq_true_eq] at h5
            obtain ⟨e, he, he2⟩ := List.any_eq_true.1 h5.2
            simp only [Bool.and_eq_true, beq_iff_eq] at he2
            have h6 := hall e (by simpa using he) he2.1
            rw [he2.2] at h6
            exact hR j oj t hjK hj (by rw [getD_true_false (by omega)]; exact h6) hd
          · cases hj
        have hok := allF_at (look L') _ hfact (opsOK_at hop i o (by rw [List.getElem?_take, if_pos hiK]; exact ho) w' hF)
        have hsel : isSelect o.op = false := by simpa using hx.1.2
        obtain ⟨hE, hW⟩ := looksAt_agree (n := n) (ops := l.toArray) (o := o) hsel hlooks
        rw [hod] at hok
        simp only [Option.getD_some] at hok
        have next : ∀ v w'', From w' w'' → R d v w'' → wpAny P .any l.toArray Q m (listed.setIfInBounds i true) ((mkA n L').put (some d) v) w'' := by
          intro v w'' hF' hRv
          rw [put_mkA]
          have hne : ∀ j oj d', j < K → l[j]? = some oj → j ≠ i → oj.dst = some d' → d' ≠ d := by
            intro j oj d' hj hoj hji hd e
            have h5 := List.all_eq_true.1 h3a.1 j (List.mem_range.2 hj)
            rw [hoj] at h5
            simp [hji, hd, e] at h5
          refine ih _ _ w'' ?_ (by simpa using hs) (fun j hj1 hj2 => ?_) (hF.next hF') (fun t ht => ?_) (fun j oj d' hj hoj hlj hd => ?_)
          · have hil' : i < listed.size := by omega
            have hfalse : listed.toList[i]? = some false := by
              rw [Array.getElem?_toList, Array.getElem?_eq_getElem hil']
              simp [Array.getD, hil'] at h0
              rw [h0]
            rw [Array.toList_setIfInBounds]
            have := count_set_true (l := listed.toList) (i := i) hfalse
            omega
          · rw [getD_set_ne true (by omega)]
            exact htail j hj1 hj2
          · have htd : t ≠ d := fun e => ht i o hiK ho (by simp [show i < listed.size by omega]) (by rw [hod, e])
            rw [look_cons, if_neg htd]
            refine hfr t fun j oj hj hoj hlj => ht j oj hj hoj ?_
            by_cases e : i = j
            · subst e; rw [h0] at hlj; cases hlj
            · rw [getD_set_ne true e]; exact hlj
          · rw [look_cons]
            by_cases e : j = i
            · subst e
              rw [ho] at hoj
              cases hoj
              rw [hod] at hd
              cases hd
              rw [if_pos rfl]
              exact hRv
            · rw [if_neg (hne j oj d' hj hoj e hd)]
              rw [getD_set_ne true (Ne.symm e)] at hlj
              exact hmono _ _ _ _ hF' (hR j oj d' hj hoj hlj hd)
        unfold wpOp
        rw [List.getElem?_toArray, ho]
        show if Region.wanted o (yielded l.toArray (mkT n.n L')) = true then _ else _
        unfold OpOK at hok
        rw [hE, hW] at hok
        rcases hok with ⟨hw, ⟨v, w'', hr, hF', hRv⟩ | ⟨f, args, hr, hcall⟩⟩ | ⟨hw, hRv⟩
        · rw [if_pos hw]
          refine .inl ?_
          unfold Oper.wp
          rw [eval_mkA, hr, Oper.upon_value, hod]
          exact next v w'' hF' hRv
        · rw [if_pos hw]
          refine .inl ?_
          unfold Oper.wp
          rw [eval_mkA, hr, Oper.upon_enter, hod]
          refine Calls.mono hcall fun e w'' ⟨v, he, hF', hRv⟩ => ?_
          subst he
          exact next v w'' hF' hRv
        · rw [if_neg (by rw [hw]; simp), hod]
          exact next undef w' From.rfl_ hRv

/-- a region that draws its order -/
theorem cd_drawnL {id : Nat} (K : Nat) (RL : List (Nat × (Value → World → Prop))) (hQ : PQ Q) (hm : P.follows .mixedOrders = true) (hc : monoL l K = true) (hmono : MonoR RL)
    (hop : OpsOK P l.toArray n L w (lookR RL) (preOf l K) (l.take K)) (hend : ∀ w', From w w' → AllF (lookR RL) w' (preOf l K) fun M => St P l.toArray Q (l.drop K) n (M ++ L) w') : Cd P (.region id l.toArray true) Q n L w := by
  refine ⟨wp_region_any hm ?_⟩
  have hKl : K ≤ l.length := of_decide_eq_true (Bool.and_eq_true_iff.1 (Bool.and_eq_true_iff.1 hc).1).1
  have := mono_late (Q := Q) (w := w) hQ hc (lookR_mono hmono) hop hend l.length (Array.replicate l.length false) L { w with drawn := w.drawn + 1 } (by simp) (by simp)
    (fun j _ hj => by simp [Array.getD, hj]) (From.rfl_.d1) (fun _ _ => rfl) (fun i o d hi _ hl => by
      have : i < l.length := by omega
      simp [Array.getD, this] at hl)
  simpa using this
end late
end Go.Proofs.Ytpafbgdbjambgaa
