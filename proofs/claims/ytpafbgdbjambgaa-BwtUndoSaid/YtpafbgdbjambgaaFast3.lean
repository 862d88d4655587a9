/- A REGION THAT DRAWS ITS ORDER: its first K operations read, reckon, call or make memory, and only add to the world; those behind them wait for all ahead of them. What holds of every slot is said slot by slot; it must go on holding while the world grows. Then one look at every operation serves every order. -/
import Derived.Test.YtpafbgdbjambgaaFast2
import Derived.Test.YtpafbgdbjambgaaBase
namespace Go.Proofs.Ytpafbgdbjambgaa
open Go.RowKit

/-- no more than this value -/
def eqp (x : Value) : Value → World → Prop := fun v _ => v = x
def lookR : List (Nat × (Value → World → Prop)) → Nat → Value → World → Prop
  | [], _ => fun _ _ => True
  | (k, R) :: r, i => bif Nat.beq i k then R else lookR r i
def MonoR : List (Nat × (Value → World → Prop)) → Prop
  | [] => True
  | (_, R) :: r => (∀ v w1 w2, From w1 w2 → R v w1 → R v w2) ∧ MonoR r
theorem eqp_mono (x : Value) : ∀ v w1 w2, From w1 w2 → eqp x v w1 → eqp x v w2 := fun _ _ _ _ h => h
theorem lookR_mono : ∀ {l : List (Nat × (Value → World → Prop))}, MonoR l → ∀ t v w1 w2, From w1 w2 → lookR l t v w1 → lookR l t v w2
  | [], _, _, _, _, _, _, _ => trivial
  | (k, R) :: r, ⟨h1, h2⟩, t, v, w1, w2, hF, h => by
    have e : lookR ((k, R) :: r) t = bif Nat.beq t k then R else lookR r t := rfl
    rw [e] at h ⊢
    cases hb : Nat.beq t k with
    | true => rw [hb] at h; exact h1 _ _ _ hF h
    | false => rw [hb] at h; exact lookR_mono h2 t v w1 w2 hF h
/-- for whatever values of these slots that fit -/
def AllF (R : Nat → Value → World → Prop) (w : World) : List Nat → (List (Nat × Value) → Prop) → Prop
  | [], K => K []
  | d :: r, K => ∀ v, R d v w → AllF R w r fun M => K ((d, v) :: M)
theorem allF_at {R : Nat → Value → World → Prop} {w : World} (ρ : Nat → Value) : ∀ (l : List Nat) {K : List (Nat × Value) → Prop}, (∀ d ∈ l, R d (ρ d) w) → AllF R w l K → K (l.map fun d => (d, ρ d))
  | [], _, _, h => h
  | d :: r, _, hr, h => allF_at ρ r (fun e he => hr e (List.mem_cons_of_mem _ he)) (h (ρ d) (hr d (List.mem_cons_self ..)))
theorem look_map (ρ : Nat → Value) (l : List Nat) (L : List (Nat × Value)) (t : Nat) : look (l.map (fun d => (d, ρ d)) ++ L) t = if l.elem t then ρ t else look L t := by
  induction l with
  | nil => rfl
  | cons d l ih =>
    show look ((d, ρ d) :: (l.map (fun d => (d, ρ d)) ++ L)) t = _
    rw [look_cons, ih]
    by_cases h : t = d
    · subst h; simp
    · have : (d :: l).elem t = l.elem t := by simp [List.elem_cons, h]
      rw [if_neg h, this]

/-- one operation: it yields a value that fits, and the world only grows -/
def OpOK (P : Program) (ops : Array Oper) (n : Fr) (L : List (Nat × Value)) (o : Oper) (w : World) (R : Value → World → Prop) : Prop :=
  (Region.wanted o (yielded ops (mkT n.n L)) = true ∧ ((∃ v w', (execOp (ev n L) o).run P w = .ok (.value v) w' ∧ From w w' ∧ R v w') ∨
    (∃ f l, (execOp (ev n L) o).run P w = .ok (.enter f (List.toArray l)) w ∧ Rt P f l w fun v w' => From w w' ∧ R v w'))) ∨
  (Region.wanted o (yielded ops (mkT n.n L)) = false ∧ R undef w)
section
variable {P : Program} {ops : Array Oper} {n : Fr} {L : List (Nat × Value)} {w w' : World} {op : Op} {ty : TypeId} {pos : String} {after : Array Edge} {d : Option Nat} {R : Value → World → Prop}
theorem ok_val {v : Value} (hr : RO P (ev n L) op w v w') (hF : From w w') (hR : R v w') : OpOK P ops n L ⟨d, op, ty, pos, after, none⟩ w R :=
  .inl ⟨rfl, .inl ⟨v, w', hr _ _ _ _ _, hF, hR⟩⟩
theorem ok_pure {v : Value} (hr : RO P (ev n L) op w v w) (hR : R v w) : OpOK P ops n L ⟨d, op, ty, pos, after, none⟩ w R := ok_val hr From.rfl_ hR
theorem ok_call {f : FuncId} {l : List Operand} {ats : Array TypeId} (hf : callable P f = true) (hc : Rt P f (l.map (ev n L)) w fun v w' => From w w' ∧ R v w') :
    OpOK P ops n L ⟨d, .call { callee := .value (.func f), args := l.toArray, argTypes := ats }, ty, pos, after, none⟩ w R :=
  .inl ⟨rfl, .inr ⟨f, l.map (ev n L), by rw [exec_call (fun _ => rfl), run_call hf], hc⟩⟩
theorem ok_gpure {v : Value} {j : Nat} {b : Bool} (hg : wantQ ops n L j = .bool b) (hr : RO P (ev n L) op w v w) (hR : R v w) : OpOK P ops n L ⟨d, op, ty, pos, after, some (j, b)⟩ w R :=
  .inl ⟨by show (yielded ops (mkT n.n L) j == some b) = true; rw [yielded_mkT hg]; simp, .inl ⟨v, w, hr _ _ _ _ _, From.rfl_, hR⟩⟩
theorem ok_gcall {f : FuncId} {l : List Operand} {ats : Array TypeId} {j : Nat} {b : Bool} (hg : wantQ ops n L j = .bool b) (hf : callable P f = true) (hc : Rt P f (l.map (ev n L)) w fun v w' => From w w' ∧ R v w') :
    OpOK P ops n L ⟨d, .call { callee := .value (.func f), args := l.toArray, argTypes := ats }, ty, pos, after, some (j, b)⟩ w R :=
  .inl ⟨by show (yielded ops (mkT n.n L) j == some b) = true; rw [yielded_mkT hg]; simp, .inr ⟨f, l.map (ev n L), by rw [exec_call (fun _ => rfl), run_call hf], hc⟩⟩
theorem ok_gno {j : Nat} {b b' : Bool} (hg : wantQ ops n L j = .bool b') (hb : (b' == b) = false) (hR : R undef w) : OpOK P ops n L ⟨d, op, ty, pos, after, some (j, b)⟩ w R :=
  .inr ⟨by show (yielded ops (mkT n.n L) j == some b) = false; rw [yielded_mkT hg]; simpa using hb, hR⟩
end

/-- the slots that an operation looks at, of those that the region's head writes -/
def slotsOf (ops : Array Oper) (pre : List Nat) (o : Oper) : List Nat := (pre.filter fun t => (o.looksAt ops).elem t)
def isSelect : Op → Bool | .select _ _ => true | _ => false
def hasEdge (o : Oper) (i : Nat) : Bool := o.after.toList.any fun e => Region.binds .any e && e.on == i
/-- the region's shape -/
def monoB (l : List Oper) (K : Nat) : Bool :=
  let ops := l.toArray
  let dst (i : Nat) : Option Nat := (l[i]?).bind (·.dst)
  decide (K ≤ l.length) &&
  (List.range l.length).all fun i => match l[i]? with
    | none => false
    | some o =>
      (o.after.toList.all fun e => !Region.binds .any e || decide (e.on < i)) && !isSelect o.op &&
      (if i < K then
        (match o.dst with
         | none => false
         | some d => (List.range K).all (fun j => j == i || dst j != some d) && !((o.looksAt ops).elem d)) &&
        (List.range K).all (fun j => match dst j with
          | none => false
          | some d => !(o.looksAt ops).elem d || (decide (j < i) && hasEdge o j))
       else (List.range i).all (fun j => hasEdge o j))
def OpsOK (P : Program) (ops : Array Oper) (n : Fr) (L : List (Nat × Value)) (w : World) (R : Nat → Value → World → Prop) (pre : List Nat) : List Oper → Prop
  | [] => True
  | o :: r => (∀ w', From w w' → AllF R w' (slotsOf ops pre o) fun M => OpOK P ops n (M ++ L) o w' (R (o.dst.getD 0))) ∧ OpsOK P ops n L w R pre r
theorem opsOK_at {P : Program} {ops : Array Oper} {n : Fr} {L : List (Nat × Value)} {w : World} {R : Nat → Value → World → Prop} {pre : List Nat} : ∀ {l : List Oper}, OpsOK P ops n L w R pre l → ∀ (i : Nat) (o : Oper), l[i]? = some o →
    ∀ w', From w w' → AllF R w' (slotsOf ops pre o) fun M => OpOK P ops n (M ++ L) o w' (R (o.dst.getD 0))
  | [], _, i, o, h => by simp at h
  | x :: r, ⟨h1, h2⟩, 0, o, h => by
    simp only [List.getElem?_cons_zero, Option.some.injEq] at h
    subst h
    exact h1
  | x :: r, ⟨h1, h2⟩, i + 1, o, h => opsOK_at h2 i o (by simpa using h)
def preOf (l : List Oper) (K : Nat) : List Nat := (l.take K).filterMap (·.dst)

theorem count_set_true : ∀ {l : List Bool} {i : Nat}, l[i]? = some false → (l.set i true).count false + 1 = l.count false
  | [], i, h => by simp at h
  | x :: r, 0, h => by
    simp only [List.getElem?_cons_zero, Option.some.injEq] at h
    subst h
    simp
  | x :: r, i + 1, h => by
    have := count_set_true (l := r) (i := i) (by simpa using h)
    simp only [List.set_cons_succ, List.count_cons]
    omega
section main
variable {P : Program} {Q : Exit → Act → World → Prop} {n : Fr} {L : List (Nat × Value)} {w : World} {l : List Oper} {K : Nat} {R : Nat → Value → World → Prop}
theorem getD_true_false {listed : Array Bool} {i : Nat} (h : i < listed.size) : listed.getD i true = listed.getD i false := by
  simp [Array.getD, h]
/-- behind the head there is one order only -/
theorem tail_seq (hc : monoB l K = true) : ∀ (m k : Nat) (listed : Array Bool) (a : Act) (w' : World), k + m = l.length → K ≤ k → listed.size = l.length → (∀ j, j < l.length → listed.getD j true = decide (j < k)) →
    wpList P l.toArray Q (l.drop k) a w' → wpAny P .any l.toArray Q m listed a w'
  | 0, k, listed, a, w', hk, hK, hs, hl, h => by
    have hd : l.drop k = [] := List.drop_eq_nil_of_le (by omega)
    rw [hd] at h
    refine ⟨?_, h⟩
    rw [List.eq_nil_iff_forall_not_mem]
    intro j hj
    obtain ⟨h0, o, ho, _⟩ := mem_ready.1 hj
    have hjl : j < l.length := by
      rw [List.getElem?_toArray] at ho
      exact (List.getElem?_eq_some_iff.1 ho).1
    rw [hl j hjl] at h0
    simp at h0
    omega
  | m + 1, k, listed, a, w', hk, hK, hs, hl, h => by
    have hkl : k < l.length := by omega
    have hdrop : l.drop k = l[k] :: l.drop (k + 1) := List.drop_eq_getElem_cons hkl
    have hck := (List.all_eq_true.1 (Bool.and_eq_true_iff.1 hc).2)
    have hrk : k ∈ Region.ready .any l.toArray listed := by
      refine mem_ready.2 ⟨by rw [hl k hkl]; simp, l[k], by rw [List.getElem?_toArray, List.getElem?_eq_getElem hkl], fun e he hb => ?_⟩
      have hx := hck k (List.mem_range.2 hkl)
      rw [List.getElem?_eq_getElem hkl] at hx
      simp only [Bool.and_eq_true] at hx
      have he2 := List.all_eq_true.1 hx.1.1 e (by simpa using he)
      rw [hb] at he2
      simp at he2
      rw [← getD_true_false (by omega), hl _ (by omega)]
      simpa using he2
    refine ⟨fun h0 => (by rw [h0] at hrk; cases hrk), fun j hj => ?_⟩
    obtain ⟨h0, o, ho, hall⟩ := mem_ready.1 hj
    rw [List.getElem?_toArray] at ho
    have hjl : j < l.length := (List.getElem?_eq_some_iff.1 ho).1
    rw [hl j hjl] at h0
    have hjk : j = k := by
      simp at h0
      rcases Nat.eq_or_lt_of_le h0 with e | hlt
      · exact e.symm
      · exfalso
        have hx := hck j (List.mem_range.2 hjl)
        rw [ho] at hx
        simp only [Bool.and_eq_true] at hx
        have h3 := hx.2
        rw [if_neg (by omega)] at h3
        have h4 := List.all_eq_true.1 h3 k (List.mem_range.2 hlt)
        obtain ⟨e, he, he2⟩ := List.any_eq_true.1 h4
        simp only [Bool.and_eq_true, beq_iff_eq] at he2
        have h5 := hall e (by simpa using he) he2.1
        rw [he2.2, ← getD_true_false (by omega), hl k hkl] at h5
        simp at h5
    subst hjk
    rw [hdrop] at h
    have hk2 : wpOp P l.toArray Q j (wpList P l.toArray Q (l.drop (j + 1))) a w' := by
      unfold wpOp
      rw [List.getElem?_toArray, List.getElem?_eq_getElem hkl]
      exact h
    refine wpOp_mono (fun a'' w'' h'' => tail_seq hc m (j + 1) _ a'' w'' (by omega) (by omega) (by simpa using hs) (fun i hi => ?_) h'') hk2
    by_cases e : j = i
    · subst e
      simp [hs, hkl]
    · rw [getD_set_ne true e, hl i hi]
      have : (i < j + 1) ↔ (i < j) := by omega
      simp [this]

theorem looksAt_agree {ops : Array Oper} {o : Oper} {L1 L2 : List (Nat × Value)} (hs : isSelect o.op = false) (h : ∀ t, (o.looksAt ops).elem t = true → look L1 t = look L2 t) :
    execOp (ev n L1) o = execOp (ev n L2) o ∧ Region.wanted o (yielded ops (mkT n.n L1)) = Region.wanted o (yielded ops (mkT n.n L2)) := by
  constructor
  · refine execOp_congr o (fun cs b e => by rw [e] at hs; simp [isSelect] at hs) fun x hx => ?_
    cases x with
    | tmp t =>
      have : look L1 t = look L2 t := h t (by
        simp only [List.elem_eq_mem, decide_eq_true_eq]
        exact List.mem_append_left _ (List.mem_filterMap.2 ⟨.tmp t, by simpa using hx, rfl⟩))
      simp only [ev, this]
    | _ => rfl
  · unfold Region.wanted
    cases hg : o.guard with
    | none => rfl
    | some gw =>
      obtain ⟨g, want⟩ := gw
      have hy : yielded ops (mkT n.n L1) g = yielded ops (mkT n.n L2) g := by
        unfold yielded
        cases ht : (ops[g]?).bind (·.dst) with
        | none => rfl
        | some t =>
          have : look L1 t = look L2 t := h t (by
            simp only [List.elem_eq_mem, decide_eq_true_eq]
            exact List.mem_append_right _ (by simp [hg, ht]))
          simp only [Option.bind_some, mkT_get, this]
      simp only [hy]

theorem mono_seq (hc : monoB l K = true) (hmono : ∀ t v w1 w2, From w1 w2 → R t v w1 → R t v w2) (hop : OpsOK P l.toArray n L w R (preOf l K) (l.take K))
    (hend : ∀ w', From w w' → AllF R w' (preOf l K) fun M => St P l.toArray Q (l.drop K) n (M ++ L) w') :
    ∀ (m : Nat) (listed : Array Bool) (L' : List (Nat × Value)) (w' : World), listed.toList.count false = m → listed.size = l.length → (∀ j, K ≤ j → j < l.length → listed.getD j true = false) → From w w' →
      (∀ t, (∀ i o, i < K → l[i]? = some o → listed.getD i true = true → o.dst ≠ some t) → look L' t = look L t) →
      (∀ i o d, i < K → l[i]? = some o → listed.getD i true = true → o.dst = some d → R d (look L' d) w') → wpAny P .any l.toArray Q m listed (mkA n L') w' := by
  have hKl : K ≤ l.length := of_decide_eq_true (Bool.and_eq_true_iff.1 hc).1
  have hck := (List.all_eq_true.1 (Bool.and_eq_true_iff.1 hc).2)
  intro m
  induction m with
  | zero =>
    intro listed L' w' hcount hs htail hF hfr hR
    have hall : ∀ j, j < l.length → listed.getD j true = true := by
      intro j hj
      have hm : listed[j]'(by omega) ∈ listed.toList := by simp
      cases hb : listed[j]'(by omega) with
      | true => simp [Array.getD, show j < listed.size by omega, hb]
      | false =>
        rw [hb] at hm
        exact absurd hcount (Nat.pos_iff_ne_zero.1 (List.count_pos_iff.2 hm))
    have hKe : K = l.length := by
      rcases Nat.lt_or_ge K l.length with h | h
      · have h1 := htail K (Nat.le_refl _) h
        rw [hall K h] at h1
        cases h1
      · omega
    have he := allF_at (look L') (preOf l K) (fun d hd => by
      obtain ⟨o, ho, hod⟩ := List.mem_filterMap.1 hd
      obtain ⟨i, hi⟩ := List.mem_iff_getElem?.1 ho
      rw [List.getElem?_take] at hi
      split at hi
      · exact hR i o d (by assumption) hi (hall i (List.getElem?_eq_some_iff.1 hi).1) hod
      · cases hi) (hend w' hF)
    have hL : mkA n ((preOf l K).map (fun d => (d, look L' d)) ++ L) = mkA n L' := mkA_congr fun t _ => by
      rw [look_map]
      split
      · rfl
      · rename_i hne
        refine (hfr t fun i o hi ho _ hod => hne ?_).symm
        simp only [List.elem_eq_mem, decide_eq_true_eq]
        exact List.mem_filterMap.2 ⟨o, List.mem_iff_getElem?.2 ⟨i, by rw [List.getElem?_take, if_pos hi]; exact ho⟩, hod⟩
    replace he := he.out
    rw [hL] at he
    exact tail_seq hc 0 l.length listed _ w' (by omega) (by omega) hs (fun j hj => by rw [hall j hj]; simp [hj]) (by rw [hKe] at he; exact he)
  | succ m ih =>
    intro listed L' w' hcount hs htail hF hfr hR
    by_cases hpre : ∀ i, i < K → listed.getD i true = true
    · -- the head is done
      have he := allF_at (look L') (preOf l K) (fun d hd => by
        obtain ⟨o, ho, hod⟩ := List.mem_filterMap.1 hd
        obtain ⟨i, hi⟩ := List.mem_iff_getElem?.1 ho
        rw [List.getElem?_take] at hi
        split at hi
        · exact hR i o d (by assumption) hi (hpre i (by assumption)) hod
        · cases hi) (hend w' hF)
      have hL : mkA n ((preOf l K).map (fun d => (d, look L' d)) ++ L) = mkA n L' := mkA_congr fun t _ => by
        rw [look_map]
        split
        · rfl
        · rename_i hne
          refine (hfr t fun i o hi ho _ hod => hne ?_).symm
          simp only [List.elem_eq_mem, decide_eq_true_eq]
          exact List.mem_filterMap.2 ⟨o, List.mem_iff_getElem?.2 ⟨i, by rw [List.getElem?_take, if_pos hi]; exact ho⟩, hod⟩
      replace he := he.out
      rw [hL] at he
      have hcnt : m + 1 = l.length - K := by
        have : listed.toList = List.replicate K true ++ List.replicate (l.length - K) false := by
          apply List.ext_getElem?
          intro j
          rw [Array.getElem?_toList]
          rw [List.getElem?_append]
          simp only [List.length_replicate, List.getElem?_replicate]
          by_cases hj : j < l.length
          · have hjs : j < listed.size := by omega
            by_cases hjK : j < K
            · have := hpre j hjK
              simp [Array.getD, hjs] at this
              simp [hjs, hjK, this]
            · have := htail j (by omega) hj
              simp [Array.getD, hjs] at this
              rw [if_neg hjK, if_pos (by omega), Array.getElem?_eq_getElem hjs, this]
          · rw [Array.getElem?_eq_none (by omega), if_neg (by omega), if_neg (by omega)]
        rw [this, List.count_append, List.count_replicate, List.count_replicate] at hcount
        simp at hcount
        exact hcount.symm
      refine tail_seq hc (m + 1) K listed _ w' (by omega) (Nat.le_refl _) hs (fun j hj => ?_) he
      by_cases hjK : j < K
      · rw [hpre j hjK]; simp [hjK]
      · rw [htail j (by omega) hj]; simp [hjK]
    · -- some operation of the head is still to come
      have hex : ∃ i, i < K ∧ listed.getD i true = false := by
        refine Classical.byContradiction fun hno => hpre fun i hi => ?_
        cases hb : listed.getD i true with
        | true => rfl
        | false => exact absurd ⟨i, hi, hb⟩ hno
      obtain ⟨i0, hi0, hmin⟩ := exists_least hex
      have hi0l : i0 < l.length := by omega
      have hready : i0 ∈ Region.ready .any l.toArray listed := by
        refine mem_ready.2 ⟨hi0.2, l[i0], by rw [List.getElem?_toArray, List.getElem?_eq_getElem hi0l], fun e he hb => ?_⟩
        have hx := hck i0 (List.mem_range.2 hi0l)
        rw [List.getElem?_eq_getElem hi0l] at hx
        simp only [Bool.and_eq_true] at hx
        have he2 := List.all_eq_true.1 hx.1.1 e (by simpa using he)
        rw [hb] at he2
        simp at he2
        rw [← getD_true_false (by omega)]
        cases hb2 : listed.getD e.on true with
        | true => rfl
        | false => exact absurd (hmin e.on ⟨by omega, hb2⟩) (by omega)
      refine ⟨fun h0 => (by rw [h0] at hready; cases hready), fun i hi => ?_⟩
      obtain ⟨h0, o, ho, hall⟩ := mem_ready.1 hi
      rw [List.getElem?_toArray] at ho
      have hil : i < l.length := (List.getElem?_eq_some_iff.1 ho).1
      have hx := hck i (List.mem_range.2 hil)
      rw [ho] at hx
      simp only [Bool.and_eq_true] at hx
      have hiK : i < K := by
        rcases Nat.lt_or_ge i K with h | h
        · exact h
        · exfalso
          have h3 := hx.2
          rw [if_neg (by omega)] at h3
          have h4 := List.all_eq_true.1 h3 i0 (List.mem_range.2 (by omega))
          obtain ⟨e, he, he2⟩ := List.any_eq_true.1 h4
          simp only [Bool.and_eq_true, beq_iff_eq] at he2
          have h5 := hall e (by simpa using he) he2.1
          rw [he2.2, ← getD_true_false (by omega), hi0.2] at h5
          cases h5
      have h3 := hx.2
      rw [if_pos hiK] at h3
      simp only [Bool.and_eq_true] at h3
      obtain ⟨h3a, h3b⟩ := h3
      cases hod : o.dst with
      | none => rw [hod] at h3a; cases h3a
      | some d =>
        rw [hod] at h3a
        simp only [Bool.and_eq_true] at h3a
        have hlooks : ∀ t, (o.looksAt l.toArray).elem t = true → look ((slotsOf l.toArray (preOf l K) o).map (fun d => (d, look L' d)) ++ L) t = look L' t := by
          intro t ht
          rw [look_map]
          split
          · rfl
          · rename_i hne
            refine (hfr t fun j oj hj hoj hlj hd => hne ?_).symm
            simp only [List.elem_eq_mem, decide_eq_true_eq]
            refine List.mem_filter.2 ⟨List.mem_filterMap.2 ⟨oj, List.mem_iff_getElem?.2 ⟨j, by rw [List.getElem?_take, if_pos hj]; exact hoj⟩, hd⟩, ht⟩
        have hfact : ∀ t ∈ slotsOf l.toArray (preOf l K) o, R t (look L' t) w' := by
          intro t ht
          obtain ⟨ht1, ht2⟩ := List.mem_filter.1 ht
          obtain ⟨oj, hoj, hd⟩ := List.mem_filterMap.1 ht1
          obtain ⟨j, hj⟩ := List.mem_iff_getElem?.1 hoj
          rw [List.getElem?_take] at hj
          split at hj
          · rename_i hjK
            have h5 := List.all_eq_true.1 h3b j (List.mem_range.2 hjK)
            rw [hj] at h5
            simp only [Option.bind_some, hd, ht2, Bool.not_true, Bool.false_or, Bool.and_eq_true, decide_eq_true_eq] at h5
            obtain ⟨e, he, he2⟩ := List.any_eq_true.1 h5.2
            simp only [Bool.and_eq_true, beq_iff_eq] at he2
            have h6 := hall e (by simpa using he) he2.1
            rw [he2.2] at h6
            exact hR j oj t hjK hj (by rw [getD_true_false (by omega)]; exact h6) hd
          · cases hj
        have hok := allF_at (look L') _ hfact (opsOK_at hop i o (by rw [List.getElem?_take, if_pos hiK]; exact ho) w' hF)
        have hsel : isSelect o.op = false := by simpa using hx.1.2
        obtain ⟨hE, hW⟩ := looksAt_agree (n := n) (ops := l.toArray) (o := o) hsel hlooks
        rw [hod] at hok
        simp only [Option.getD_some] at hok
        have next : ∀ v w'', From w' w'' → R d v w'' → wpAny P .any l.toArray Q m (listed.setIfInBounds i true) ((mkA n L').put (some d) v) w'' := by
          intro v w'' hF' hRv
          rw [put_mkA]
          have hne : ∀ j oj d', j < K → l[j]? = some oj → j ≠ i → oj.dst = some d' → d' ≠ d := by
            intro j oj d' hj hoj hji hd e
            have h5 := List.all_eq_true.1 h3a.1 j (List.mem_range.2 hj)
            rw [hoj] at h5
            simp [hji, hd, e] at h5
          refine ih _ _ w'' ?_ (by simpa using hs) (fun j hj1 hj2 => ?_) (hF.next hF') (fun t ht => ?_) (fun j oj d' hj hoj hlj hd => ?_)
          · have hil' : i < listed.size := by omega
            have hfalse : listed.toList[i]? = some false := by
              rw [Array.getElem?_toList, Array.getElem?_eq_getElem hil']
              simp [Array.getD, hil'] at h0
              rw [h0]
            rw [Array.toList_setIfInBounds]
            have := count_set_true (l := listed.toList) (i := i) hfalse
            omega
          · rw [getD_set_ne true (by omega)]
            exact htail j hj1 hj2
          · have htd : t ≠ d := fun e => ht i o hiK ho (by simp [show i < listed.size by omega]) (by rw [hod, e])
            rw [look_cons, if_neg htd]
            refine hfr t fun j oj hj hoj hlj => ht j oj hj hoj ?_
            by_cases e : i = j
            · subst e; rw [h0] at hlj; cases hlj
            · rw [getD_set_ne true e]; exact hlj
          · rw [look_cons]
            by_cases e : j = i
            · subst e
              rw [ho] at hoj
              cases hoj
              rw [hod] at hd
              cases hd
              rw [if_pos rfl]
              exact hRv
            · rw [if_neg (hne j oj d' hj hoj e hd)]
              rw [getD_set_ne true (Ne.symm e)] at hlj
              exact hmono _ _ _ _ hF' (hR j oj d' hj hoj hlj hd)
        unfold wpOp
        rw [List.getElem?_toArray, ho]
        show if Region.wanted o (yielded l.toArray (mkT n.n L')) = true then _ else _
        unfold OpOK at hok
        rw [hE, hW] at hok
        rcases hok with ⟨hw, ⟨v, w'', hr, hF', hRv⟩ | ⟨f, args, hr, hcall⟩⟩ | ⟨hw, hRv⟩
        · rw [if_pos hw]
          refine .inl ?_
          unfold Oper.wp
          rw [eval_mkA, hr, Oper.upon_value, hod]
          exact next v w'' hF' hRv
        · rw [if_pos hw]
          refine .inl ?_
          unfold Oper.wp
          rw [eval_mkA, hr, Oper.upon_enter, hod]
          refine Calls.mono hcall fun e w'' ⟨v, he, hF', hRv⟩ => ?_
          subst he
          exact next v w'' hF' hRv
        · rw [if_neg (by rw [hw]; simp), hod]
          exact next undef w' From.rfl_ hRv

theorem cd_drawn {id : Nat} (K : Nat) (RL : List (Nat × (Value → World → Prop))) (hm : P.follows .mixedOrders = true) (hc : monoB l K = true) (hmono : MonoR RL)
    (hop : OpsOK P l.toArray n L w (lookR RL) (preOf l K) (l.take K)) (hend : ∀ w', From w w' → AllF (lookR RL) w' (preOf l K) fun M => St P l.toArray Q (l.drop K) n (M ++ L) w') : Cd P (.region id l.toArray true) Q n L w := by
  refine ⟨wp_region_any hm ?_⟩
  have hKl : K ≤ l.length := of_decide_eq_true (Bool.and_eq_true_iff.1 hc).1
  have := mono_seq (Q := Q) (w := w) hc (lookR_mono hmono) hop hend l.length (Array.replicate l.length false) L { w with drawn := w.drawn + 1 } (by simp) (by simp)
    (fun j _ hj => by simp [Array.getD, hj]) (From.rfl_.d1) (fun _ _ => rfl) (fun i o d hi _ hl => by
      have : i < l.length := by omega
      simp [Array.getD, this] at hl)
  simpa using this
end main
end Go.Proofs.Ytpafbgdbjambgaa
