/- A REGION THAT DRAWS ITS ORDER, WITH ONE CHANGE, for which some operations wait: those that the change waits for are looked at in the world ahead of it. -/
import Derived.Test.YtpafbgdbjambgaaFast12
namespace Go.Proofs.Ytpafbgdbjambgaa
open Go.RowKit
def depMu (l : List Oper) (K mu i : Nat) : Bool := Nat.blt mu K && match l[mu]? with | some om => dep2 l om i | none => false
theorem depMu_spec {l : List Oper} {K mu i : Nat} (h : depMu l K mu i = true) : mu < K ∧ ∃ om, l[mu]? = some om ∧ dep2 l om i = true := by
  unfold depMu at h
  rw [Bool.and_eq_true] at h
  refine ⟨Nat.le_of_ble_eq_true h.1, ?_⟩
  have h2 := h.2
  split at h2
  · rename_i om hom
    exact ⟨om, hom, h2⟩
  · cases h2
def OpsOK9 (P : Program) (ops : Array Oper) (n : Fr) (L : List (Nat × Value)) (I1 I2 : World → Prop) (R1 R2 : Nat → Value → World → Prop) (l0 : List Oper) (K : Nat) (mu : Nat) : Nat → List Oper → Prop
  | _, [] => True
  | i, o :: r => (Nat.beq i mu = false → match depMu l0 K mu i with
      | true => ∀ w', I1 w' → AllF R1 w' (slotsD l0 K i o) fun M => OpOK P ops n (M ++ L) o w' (R1 (o.dst.getD 0))
      | false => ∀ w', I2 w' → AllF R2 w' (slotsD l0 K i o) fun M => OpOK P ops n (M ++ L) o w' (R1 (o.dst.getD 0))) ∧ OpsOK9 P ops n L I1 I2 R1 R2 l0 K mu (i + 1) r
theorem opsOK9_at {P : Program} {ops : Array Oper} {n : Fr} {L : List (Nat × Value)} {I1 I2 : World → Prop} {R1 R2 : Nat → Value → World → Prop} {l0 : List Oper} {K mu : Nat} : ∀ {l : List Oper} {k : Nat}, OpsOK9 P ops n L I1 I2 R1 R2 l0 K mu k l → ∀ (i : Nat) (o : Oper), l[i]? = some o → k + i ≠ mu →
    match depMu l0 K mu (k + i) with
      | true => ∀ w', I1 w' → AllF R1 w' (slotsD l0 K (k + i) o) fun M => OpOK P ops n (M ++ L) o w' (R1 (o.dst.getD 0))
      | false => ∀ w', I2 w' → AllF R2 w' (slotsD l0 K (k + i) o) fun M => OpOK P ops n (M ++ L) o w' (R1 (o.dst.getD 0))
  | [], _, _, i, o, h, _ => by simp at h
  | x :: r, k, ⟨h1, h2⟩, 0, o, h, hne => by
    simp only [List.getElem?_cons_zero, Option.some.injEq] at h
    subst h
    rw [Nat.add_zero] at hne ⊢
    refine h1 ?_
    rw [← Bool.not_eq_true]
    intro hb
    exact hne (Nat.eq_of_beq_eq_true hb)
  | x :: r, k, ⟨h1, h2⟩, i + 1, o, h, hne => by
    have := opsOK9_at h2 i o (by simpa using h) (by omega)
    rwa [show k + 1 + i = k + (i + 1) by omega] at this
theorem opsOK9_at2 {P : Program} {ops : Array Oper} {n : Fr} {L : List (Nat × Value)} {I1 I2 : World → Prop} {R1 R2 : Nat → Value → World → Prop} {l0 : List Oper} {K mu : Nat} {l : List Oper} (h : OpsOK9 P ops n L I1 I2 R1 R2 l0 K mu 0 l) (i : Nat) (o : Oper) (ho : l[i]? = some o) (hne : i ≠ mu) (hd : depMu l0 K mu i = false)
    (w' : World) (hw : I2 w') : AllF R2 w' (slotsD l0 K i o) fun M => OpOK P ops n (M ++ L) o w' (R1 (o.dst.getD 0)) := by
  have := opsOK9_at h i o ho (by rw [Nat.zero_add]; exact hne)
  rw [Nat.zero_add, hd] at this
  exact this w' hw
theorem opsOK9_at1 {P : Program} {ops : Array Oper} {n : Fr} {L : List (Nat × Value)} {I1 I2 : World → Prop} {R1 R2 : Nat → Value → World → Prop} {l0 : List Oper} {K mu : Nat} {l : List Oper} (h : OpsOK9 P ops n L I1 I2 R1 R2 l0 K mu 0 l) (i : Nat) (o : Oper) (ho : l[i]? = some o) (hne : i ≠ mu) (hd : depMu l0 K mu i = true)
    (w' : World) (hw : I1 w') : AllF R1 w' (slotsD l0 K i o) fun M => OpOK P ops n (M ++ L) o w' (R1 (o.dst.getD 0)) := by
  have := opsOK9_at h i o ho (by rw [Nat.zero_add]; exact hne)
  rw [Nat.zero_add, hd] at this
  exact this w' hw
section late
variable {P : Program} {Q : Exit → Act → World → Prop} {n : Fr} {L : List (Nat × Value)} {w : World} {l : List Oper} {K mu : Nat} {I1 I2 : World → Prop} {R1 R : Nat → Value → World → Prop}
theorem late_fin9 (hQ : PQ Q) (hc : monoD l K = true) (hop : OpsOK9 P l.toArray n L I1 I2 R1 R l K mu 0 (l.take K)) (h12 : ∀ t v w, R1 t v w → R t v w) (hmuL : mu < K → isLateD l K mu = false)
    (hend : ∀ w', I2 w' → AllF R w' (preOf l K) fun M => St P l.toArray Q (l.drop K) n (M ++ L) w') (m : Nat) (listed : Array Bool) (L' : List (Nat × Value)) (w' : World) (hcl : ClosedD l listed) (hcount : listed.toList.count false = m) (hs : listed.size = l.length)
    (htail : ∀ j, K ≤ j → j < l.length → listed.getD j true = false) (hF : I2 w')
    (hfr : ∀ t, (∀ i o, i < K → l[i]? = some o → listed.getD i true = true → o.dst ≠ some t) → look L' t = look L t)
    (hR : ∀ i o d, i < K → l[i]? = some o → listed.getD i true = true → o.dst = some d → R d (look L' d) w') (hpre : ∀ i, i < K → listed.getD i true = false → isLateD l K i = true) : wpAny P .any l.toArray Q m listed (mkA n L') w' := by
  have hc1 := (Bool.and_eq_true_iff.1 hc).1
  have hlate := (Bool.and_eq_true_iff.1 hc).2
  have hKl : K ≤ l.length := of_decide_eq_true (Bool.and_eq_true_iff.1 hc1).1
  have hck := (List.all_eq_true.1 (Bool.and_eq_true_iff.1 hc1).2)
  -- what is known of an operation of the head
  have hhead : ∀ i, i < K → ∃ o d, l[i]? = some o ∧ o.dst = some d ∧ isSelect o.op = false ∧ (∀ j oj, j < K → j ≠ i → l[j]? = some oj → oj.dst ≠ some d) := by
    intro i hi
    have hil : i < l.length := by omega
    have hx := hck i (List.mem_range.2 hil)
    rw [List.getElem?_eq_getElem hil] at hx
    simp only [Bool.and_eq_true] at hx
    have h3 := hx.2
    rw [if_pos hi] at h3
    simp only [Bool.and_eq_true] at h3
    obtain ⟨h3a, h3b⟩ := h3
    cases hod : (l[i]).dst with
    | none => rw [hod] at h3a; cases h3a
    | some d =>
      rw [hod] at h3a
      simp only [Bool.and_eq_true] at h3a
      refine ⟨l[i], d, List.getElem?_eq_getElem hil, hod, by simpa using hx.1.2, fun j oj hj hne hoj e => ?_⟩
      have h5 := List.all_eq_true.1 h3a.1 j (List.mem_range.2 hj)
      rw [hoj] at h5
      simp [hne, e] at h5
  -- the values of those that are still to come
  have hval : ∀ i, i < K → listed.getD i true = false → ∃ v, ∀ o d, l[i]? = some o → o.dst = some d → Yields P l.toArray o v (mkA n L') ∧ R d v w' := by
    intro i hi hf
    have hil8 := hpre i hi hf
    obtain ⟨o, d, ho, hd, hsel, _⟩ := hhead i hi
    obtain ⟨hk, hg, hap⟩ := late_specD hlate hi ho hil8
    have hfact : ∀ t ∈ slotsD l K i o, R t (look L' t) w' := by
      intro t ht
      obtain ⟨ht2, j, oj, hjK, hj, hdj, hji, _⟩ := slotsD_spec hc hi ho ht
      refine hR j oj t hjK hj ?_ hdj
      cases hb : listed.getD j true with
      | true => rfl
      | false =>
        have h6 := hpre j hjK hb
        have h7 := (Oper.apart_spec (hap j oj hj (by omega) (.inl ⟨hjK, h6⟩))).2.2 t hdj
        exact absurd (by simpa using ht2) h7
    have hlooks := looksD (L := L) hc hcl hs ho (by omega) hf hfr
    have hnd : depMu l K mu i = false := by
      rw [← Bool.not_eq_true]
      intro hd
      obtain ⟨hmK, om, hom, hdep⟩ := depMu_spec hd
      have hml : listed.getD mu true = true := by
        cases hb : listed.getD mu true with
        | true => rfl
        | false => exact absurd (hpre mu hmK hb) (by rw [hmuL hmK]; simp)
      have hml2 : listed.getD mu false = true := by rw [← getD_true_false (by omega)]; exact hml
      have := dep_listed hcl (fun e he hb => hcl mu om hom hml2 e he hb) hdep
      rw [← getD_true_false (by omega), hf] at this
      cases this
    have hok := allF_at (look L') _ hfact (opsOK9_at2 hop i o (by rw [List.getElem?_take, if_pos hi]; exact ho) (by intro e; rw [e, hmuL (by omega)] at hil8; cases hil8) hnd w' hF)
    obtain ⟨hE, hW⟩ := looksAt_agree (n := n) (ops := l.toArray) (o := o) hsel hlooks
    rw [hd] at hok
    simp only [Option.getD_some] at hok
    have hyl : ∃ v, Yields P l.toArray o v (mkA n L') ∧ R d v w' := by
      unfold OpOK at hok
      rw [hE, hW] at hok
      rcases hok with ⟨hw, ⟨v, w'', hr, hF', hRv⟩ | ⟨f, args, hr, hcall⟩⟩ | ⟨hw, hRv⟩
      · obtain ⟨rfl, hall⟩ := late_run hk hr
        refine ⟨v, .inl ⟨hw, fun w2 => ?_⟩, h12 _ _ _ hRv⟩
        rw [eval_mkA]
        exact hall w2
      · exfalso
        obtain ⟨dst, op, ty, pos, after, guard⟩ := o
        cases op <;> simp only [lateK, Bool.false_eq_true] at hk <;> simp only [execOp, Sem.run_pure, Sem.run_bind, Result.ok.injEq] at hr
        · cases hr.1
        · cases hr.1
        · rename_i x i'
          cases hx : ev n L' x <;> simp only [hx, Instr.extract] at hr <;> (try (simp at hr; done))
          rename_i vs
          cases hv : vs[i']? <;> simp [hv] at hr
      · exact ⟨undef, .inr ⟨hw, rfl⟩, h12 _ _ _ hRv⟩
    obtain ⟨v, hv1, hv2⟩ := hyl
    refine ⟨v, fun o' d' ho' hd' => ?_⟩
    rw [ho] at ho'
    cases ho'
    rw [hd] at hd'
    cases hd'
    exact ⟨hv1, hv2⟩
  obtain ⟨f, hf⟩ : ∃ f : Nat → Value, ∀ i, i < K → listed.getD i true = false → ∀ o d, l[i]? = some o → o.dst = some d → Yields P l.toArray o (f i) (mkA n L') ∧ R d (f i) w' := by
    refine ⟨fun i => open Classical in if h : ∃ v, ∀ o d, l[i]? = some o → o.dst = some d → Yields P l.toArray o v (mkA n L') ∧ R d v w' then h.choose else undef, fun i hi hl => ?_⟩
    have h := hval i hi hl
    simp only [dif_pos h]
    exact h.choose_spec
  have hUm : ∀ i, i ∈ (List.range K).filter (fun i => !listed.getD i true) ↔ i < K ∧ listed.getD i true = false := fun i => by
    rw [List.mem_filter, List.mem_range]
    simp
  obtain ⟨U, hU, hUn⟩ : ∃ U : List Nat, (∀ i, i ∈ U ↔ i < K ∧ listed.getD i true = false) ∧ U.Nodup := ⟨_, hUm, List.nodup_range.sublist (List.filter_sublist ..)⟩
  have hbind : ∀ {i : Nat} {o : Oper}, l[i]? = some o → (l[i]?).bind (·.dst) = o.dst := fun h => by rw [h]; rfl
  -- the frame with all of them
  have hRall : ∀ d ∈ preOf l K, R d (look ((U.filterMap fun i => ((l[i]?).bind (·.dst)).map fun d => (d, f i)) ++ L') d) w' := by
    intro d hd
    obtain ⟨o, ho, hod⟩ := List.mem_filterMap.1 hd
    obtain ⟨i, hi⟩ := List.mem_iff_getElem?.1 ho
    rw [List.getElem?_take] at hi
    split at hi
    · rename_i hiK
      obtain ⟨o', d', ho', hd', _, hdist⟩ := hhead i hiK
      rw [hi] at ho'
      cases ho'
      rw [hod] at hd'
      cases hd'
      have hne : ∀ j ∈ U, j ≠ i → (l[j]?).bind (·.dst) ≠ some d := fun j hj hji => by
        have hjK := ((hU j).1 hj).1
        obtain ⟨oj, dj, hoj, _⟩ := hhead j hjK
        rw [hbind hoj]
        exact hdist j oj hjK hji hoj
      cases hb : listed.getD i true with
      | true =>
        rw [look_pend U fun j hj => hne j hj (fun e => by subst e; have := ((hU j).1 hj).2; rw [hb] at this; cases this)]
        exact hR i o d hiK hi hb hod
      | false =>
        rw [look_pend_at U ((hU i).2 ⟨hiK, hb⟩) ((hbind hi).trans hod) hne]
        exact (hf i hiK hb o d hi hod).2
    · cases hi
  have he := allF_at _ (preOf l K) hRall (hend w' hF)
  have hL : mkA n ((preOf l K).map (fun d => (d, look ((U.filterMap fun i => ((l[i]?).bind (·.dst)).map fun d => (d, f i)) ++ L') d)) ++ L) = pend l f U (mkA n L') := by
    rw [pend_mkA]
    refine mkA_congr fun t _ => ?_
    rw [look_map]
    split
    · rfl
    · rename_i hne
      have hnd : ∀ i, i < K → ∀ o, l[i]? = some o → o.dst ≠ some t := fun i hi o ho hod => hne (by
        simp only [List.elem_eq_mem, decide_eq_true_eq]
        exact List.mem_filterMap.2 ⟨o, List.mem_iff_getElem?.2 ⟨i, by rw [List.getElem?_take, if_pos hi]; exact ho⟩, hod⟩)
      rw [look_pend U fun j hj => by
        have hjK := ((hU j).1 hj).1
        obtain ⟨oj, dj, hoj, _⟩ := hhead j hjK
        rw [hbind hoj]
        exact hnd j hjK oj hoj]
      exact (hfr t fun i o hi ho _ hod => hnd i hi o ho hod).symm
  replace he := he.out
  rw [hL] at he
  refine tail_lateD hQ hc m K listed U _ w' hcl hcount hs (Nat.le_refl _) hKl (fun j h1 h2 => by rw [htail j h1 h2]; simp [h1]) hUn (fun j hj => ⟨fun h => (hU j).2 ⟨hj, h⟩, fun h => ((hU j).1 h).2⟩) (fun j hj => ?_) he
  obtain ⟨h1, h2⟩ := (hU j).1 hj
  obtain ⟨oj, dj, hoj, hdj, _⟩ := hhead j h1
  exact ⟨h1, hpre j h1 h2, oj, hoj, (hf j h1 h2 oj dj hoj hdj).1⟩
theorem mono_mu9 (hQ : PQ Q) (hc : monoD l K = true) (hm1 : ∀ w1 w2, From w1 w2 → I1 w1 → I1 w2) (hm2 : ∀ w1 w2, From w1 w2 → I2 w1 → I2 w2) (hmono1 : ∀ t v w1 w2, From w1 w2 → R1 t v w1 → R1 t v w2) (hmono : ∀ t v w1 w2, From w1 w2 → R t v w1 → R t v w2)
    (hop : OpsOK9 P l.toArray n L I1 I2 R1 R l K mu 0 (l.take K)) (h12 : ∀ t v w, R1 t v w → R t v w) (hmuL : mu < K → isLateD l K mu = false) (hmu : MuAt P l.toArray n L I1 I2 R1 R l K mu l[mu]?)
    (hend : ∀ w', I2 w' → AllF R w' (preOf l K) fun M => St P l.toArray Q (l.drop K) n (M ++ L) w') :
    ∀ (m : Nat) (listed : Array Bool) (L' : List (Nat × Value)) (w' : World), ClosedD l listed → listed.toList.count false = m → listed.size = l.length → (∀ j, K ≤ j → j < l.length → listed.getD j true = false) → I2 w' → (listed.getD mu true = false → I1 w') →
      (∀ t, (∀ i o, i < K → l[i]? = some o → listed.getD i true = true → o.dst ≠ some t) → look L' t = look L t) →
      (∀ i o d, i < K → l[i]? = some o → listed.getD i true = true → o.dst = some d → R d (look L' d) w') → (listed.getD mu true = false → ∀ i o d, i < K → l[i]? = some o → listed.getD i true = true → o.dst = some d → R1 d (look L' d) w') → wpAny P .any l.toArray Q m listed (mkA n L') w' := by
  have hc1 := (Bool.and_eq_true_iff.1 hc).1
  have hlate := (Bool.and_eq_true_iff.1 hc).2
  have hKl : K ≤ l.length := of_decide_eq_true (Bool.and_eq_true_iff.1 hc1).1
  have hck := (List.all_eq_true.1 (Bool.and_eq_true_iff.1 hc1).2)
  intro m
  induction m with
  | zero =>
    intro listed L' w' hcl hcount hs htail hF hF1 hfr hR hR1
    exact late_fin9 hQ hc hop h12 hmuL hend 0 listed L' w' hcl hcount hs htail hF hfr hR (fun i hi h => by
      have hm : listed[i]'(by omega) ∈ listed.toList := by simp
      have hb : listed[i]'(by omega) = false := by simpa [Array.getD, show i < listed.size by omega] using h
      rw [hb] at hm
      exact absurd hcount (Nat.pos_iff_ne_zero.1 (List.count_pos_iff.2 hm)))
  | succ m ih =>
    intro listed L' w' hcl hcount hs htail hF hF1 hfr hR hR1
    by_cases hpre : ∀ i, i < K → listed.getD i true = false → isLateD l K i = true
    · exact late_fin9 hQ hc hop h12 hmuL hend (m + 1) listed L' w' hcl hcount hs htail hF hfr hR hpre
    · -- some operation of the head is still to come
      have hn0 : ∃ i, i < K ∧ listed.getD i true = false ∧ isLateD l K i = false := by
        refine Classical.byContradiction fun hno => hpre fun i hi hf => ?_
        cases hb : isLateD l K i with
        | true => rfl
        | false => exact absurd ⟨i, hi, hf, hb⟩ hno
      obtain ⟨n0, hn0⟩ := hn0
      obtain ⟨i0, hi0, hmin⟩ := exists_least (p := fun i => i < K ∧ listed.getD i true = false) ⟨n0, hn0.1, hn0.2.1⟩
      have hi0l : i0 < l.length := by omega
      have hready : i0 ∈ Region.ready .any l.toArray listed := by
        refine mem_ready.2 ⟨hi0.2, l[i0], by rw [List.getElem?_toArray, List.getElem?_eq_getElem hi0l], fun e he hb => ?_⟩
        have hx := hck i0 (List.mem_range.2 hi0l)
        rw [List.getElem?_eq_getElem hi0l] at hx
        simp only [Bool.and_eq_true] at hx
        have he2 := List.all_eq_true.1 hx.1.1 e (by simpa using he)
        rw [hb] at he2
        simp at he2
        rw [← getD_true_false (by omega)]
        cases hb2 : listed.getD e.on true with
        | true => rfl
        | false => exact absurd (hmin e.on ⟨by omega, hb2⟩) (by omega)
      refine ⟨fun h0 => (by rw [h0] at hready; cases hready), fun i hi => ?_⟩
      obtain ⟨h0, o, ho, hall⟩ := mem_ready.1 hi
      rw [List.getElem?_toArray] at ho
      have hil : i < l.length := (List.getElem?_eq_some_iff.1 ho).1
      have hx := hck i (List.mem_range.2 hil)
      rw [ho] at hx
      simp only [Bool.and_eq_true] at hx
      have hiK : i < K := by
        rcases Nat.lt_or_ge i K with h | h
        · exact h
        · exfalso
          have h5 := dep_listed hcl hall (nonlate_edgeD hn0.2.2 ho h)
          rw [← getD_true_false (by omega), hn0.2.1] at h5
          cases h5
      have h3 := hx.2
      rw [if_pos hiK] at h3
      simp only [Bool.and_eq_true] at h3
      obtain ⟨h3a, h3b⟩ := h3
      cases hod : o.dst with
      | none => rw [hod] at h3a; cases h3a
      | some d =>
        rw [hod] at h3a
        simp only [Bool.and_eq_true] at h3a
        have hlooks := looksD (L := L) hc hcl hs ho hil h0 hfr
        have hfactG : ∀ (RR : Nat → Value → World → Prop), (∀ i o d, i < K → l[i]? = some o → listed.getD i true = true → o.dst = some d → RR d (look L' d) w') → ∀ t ∈ slotsD l K i o, RR t (look L' t) w' := by
          intro RR hRR t ht
          obtain ⟨_, j, oj, hjK, hj, hd, _, hdep⟩ := slotsD_spec hc hiK ho ht
          have h6 := dep_listed hcl hall hdep
          exact hRR j oj t hjK hj (by rw [getD_true_false (by omega)]; exact h6) hd
        have hsel : isSelect o.op = false := by simpa using hx.1.2
        obtain ⟨hE, hW⟩ := looksAt_agree (n := n) (ops := l.toArray) (o := o) hsel hlooks
        have next : ∀ v w'', I2 w'' → (i ≠ mu → listed.getD mu true = false → I1 w'') → R d v w'' → (i ≠ mu → R1 d v w'') → (∀ t u, t ≠ d → R t u w' → (i = mu → R1 t u w') → R t u w'') → (i ≠ mu → ∀ t u, R1 t u w' → R1 t u w'') → wpAny P .any l.toArray Q m (listed.setIfInBounds i true) ((mkA n L').put (some d) v) w'' := by
          intro v w'' hI2' hI1' hRv hR1v hst hst1
          rw [put_mkA]
          have hne : ∀ j oj d', j < K → l[j]? = some oj → j ≠ i → oj.dst = some d' → d' ≠ d := by
            intro j oj d' hj hoj hji hd e
            have h5 := List.all_eq_true.1 h3a.1 j (List.mem_range.2 hj)
            rw [hoj] at h5
            simp [hji, hd, e] at h5
          refine ih _ _ w'' (closed_set hcl ho hall) ?_ (by simpa using hs) (fun j hj1 hj2 => ?_) hI2' (fun hml => ?_) (fun t ht => ?_) (fun j oj d' hj hoj hlj hd => ?_) (fun hml j oj d' hj hoj hlj hd => ?_)
          · have hil' : i < listed.size := by omega
            have hfalse : listed.toList[i]? = some false := by
              rw [Array.getElem?_toList, Array.getElem?_eq_getElem hil']
              simp [Array.getD, hil'] at h0
              rw [h0]
            rw [Array.toList_setIfInBounds]
            have := count_set_true (l := listed.toList) (i := i) hfalse
            omega
          · rw [getD_set_ne true (by omega)]
            exact htail j hj1 hj2
          · have him : i ≠ mu := fun e => by subst e; simp [show i < listed.size by omega] at hml
            rw [getD_set_ne true him] at hml
            exact hI1' him hml
          · have htd : t ≠ d := fun e => ht i o hiK ho (by simp [show i < listed.size by omega]) (by rw [hod, e])
            rw [look_cons, if_neg htd]
            refine hfr t fun j oj hj hoj hlj => ht j oj hj hoj ?_
            by_cases e : i = j
            · subst e; rw [h0] at hlj; cases hlj
            · rw [getD_set_ne true e]; exact hlj
          · rw [look_cons]
            by_cases e : j = i
            · subst e
              rw [ho] at hoj
              cases hoj
              rw [hod] at hd
              cases hd
              rw [if_pos rfl]
              exact hRv
            · have hdd := hne j oj d' hj hoj e hd
              rw [if_neg hdd]
              rw [getD_set_ne true (Ne.symm e)] at hlj
              refine hst _ _ hdd (hR j oj d' hj hoj hlj hd) (fun e2 => ?_)
              subst e2
              exact hR1 h0 j oj d' hj hoj hlj hd
          · have him : i ≠ mu := fun e => by subst e; simp [show i < listed.size by omega] at hml
            rw [getD_set_ne true him] at hml
            rw [look_cons]
            by_cases e : j = i
            · subst e
              rw [ho] at hoj
              cases hoj
              rw [hod] at hd
              cases hd
              rw [if_pos rfl]
              exact hR1v him
            · rw [if_neg (hne j oj d' hj hoj e hd)]
              rw [getD_set_ne true (Ne.symm e)] at hlj
              exact hst1 him _ _ (hR1 hml j oj d' hj hoj hlj hd)
        unfold wpOp
        rw [List.getElem?_toArray, ho]
        show if Region.wanted o (yielded l.toArray (mkT n.n L')) = true then _ else _
        by_cases him : i = mu
        · subst him
          rw [ho] at hmu
          have hok := allF_at (look L') _ (hfactG R1 (hR1 h0)) (hmu w' (hF1 h0))
          rw [hod] at hok
          simp only [Option.getD_some] at hok
          unfold MuOK at hok
          rw [hE, hW] at hok
          obtain ⟨hw, ⟨v, w'', hr, hI, hRv, hst⟩ | ⟨f, args, hr, hcall⟩⟩ := hok
          · rw [if_pos hw]
            refine .inl ?_
            unfold Oper.wp
            rw [eval_mkA, hr, Oper.upon_value, hod]
            exact next v w'' hI (fun h => absurd rfl h) hRv (fun h => absurd rfl h) (fun t u ht _ h1 => hst t u ht (h1 rfl)) (fun h => absurd rfl h)
          · rw [if_pos hw]
            refine .inl ?_
            unfold Oper.wp
            rw [eval_mkA, hr, Oper.upon_enter, hod]
            refine Calls.mono hcall fun e w'' ⟨v, he, hI, hRv, hst⟩ => ?_
            subst he
            exact next v w'' hI (fun h => absurd rfl h) hRv (fun h => absurd rfl h) (fun t u ht _ h1 => hst t u ht (h1 rfl)) (fun h => absurd rfl h)
        · have hok : OpOK P l.toArray n (((slotsD l K i o).map fun d => (d, look L' d)) ++ L) o w' (R1 (o.dst.getD 0)) := by
            cases hdm : depMu l K mu i with
            | false => exact allF_at (look L') _ (hfactG R hR) (opsOK9_at2 hop i o (by rw [List.getElem?_take, if_pos hiK]; exact ho) him hdm w' hF)
            | true =>
              have hml : listed.getD mu true = false := by
                obtain ⟨hmK, om, hom, hdep⟩ := depMu_spec hdm
                rw [← Bool.not_eq_true]
                intro hml
                have hml2 : listed.getD mu false = true := by rw [← getD_true_false (by omega)]; exact hml
                have := dep_listed hcl (fun e he hb => hcl mu om hom hml2 e he hb) hdep
                rw [← getD_true_false (by omega), h0] at this
                cases this
              exact allF_at (look L') _ (hfactG R1 (hR1 hml)) (opsOK9_at1 hop i o (by rw [List.getElem?_take, if_pos hiK]; exact ho) him hdm w' (hF1 hml))
          rw [hod] at hok
          simp only [Option.getD_some] at hok
          unfold OpOK at hok
          rw [hE, hW] at hok
          have next' : ∀ v w'', From w' w'' → R1 d v w'' → wpAny P .any l.toArray Q m (listed.setIfInBounds i true) ((mkA n L').put (some d) v) w'' := fun v w'' hF' hRv =>
            next v w'' (hm2 _ _ hF' hF) (fun _ h => hm1 _ _ hF' (hF1 h)) (h12 _ _ _ hRv) (fun _ => hRv) (fun t u _ h _ => hmono _ _ _ _ hF' h) (fun _ t u h => hmono1 _ _ _ _ hF' h)
          rcases hok with ⟨hw, ⟨v, w'', hr, hF', hRv⟩ | ⟨f, args, hr, hcall⟩⟩ | ⟨hw, hRv⟩
          · rw [if_pos hw]
            refine .inl ?_
            unfold Oper.wp
            rw [eval_mkA, hr, Oper.upon_value, hod]
            exact next' v w'' hF' hRv
          · rw [if_pos hw]
            refine .inl ?_
            unfold Oper.wp
            rw [eval_mkA, hr, Oper.upon_enter, hod]
            refine Calls.mono hcall fun e w'' ⟨v, he, hF', hRv⟩ => ?_
            subst he
            exact next' v w'' hF' hRv
          · rw [if_neg (by rw [hw]; simp), hod]
            exact next' undef w' From.rfl_ hRv

/-- a region that draws its order, with one change -/
theorem cd_mu9 {id : Nat} (K mu : Nat) (Ex : List Nat) (RL : List (Nat × (Value → World → Prop))) (I1 I2 : World → Prop) (hQ : PQ Q) (hm : P.follows .mixedOrders = true) (hc : monoD l K = true) (hl : isLateD l K mu = false) (hmono : MonoR RL)
    (h0 : I1 { w with drawn := w.drawn + 1 }) (h0' : I2 { w with drawn := w.drawn + 1 }) (hm1 : ∀ w1 w2, From w1 w2 → I1 w1 → I1 w2) (hm2 : ∀ w1 w2, From w1 w2 → I2 w1 → I2 w2)
    (hop : OpsOK9 P l.toArray n L I1 I2 (lookR RL) (lookE Ex RL) l K mu 0 (l.take K)) (hmu : MuAt P l.toArray n L I1 I2 (lookR RL) (lookE Ex RL) l K mu l[mu]?)
    (hend : ∀ w', I2 w' → AllF (lookE Ex RL) w' (preOf l K) fun M => St P l.toArray Q (l.drop K) n (M ++ L) w') : Cd P (.region id l.toArray true) Q n L w := by
  refine ⟨wp_region_any hm ?_⟩
  have hKl : K ≤ l.length := of_decide_eq_true (Bool.and_eq_true_iff.1 (Bool.and_eq_true_iff.1 hc).1).1
  have := mono_mu9 (Q := Q) hQ hc hm1 hm2 (lookR_mono hmono) (lookE_mono hmono) hop lookE_of (fun _ => hl) hmu hend l.length (Array.replicate l.length false) L { w with drawn := w.drawn + 1 } (closed_none l _) (by simp) (by simp)
    (fun j _ hj => by simp [Array.getD, hj]) h0' (fun _ => h0) (fun _ _ => rfl) (fun i o d hi _ hl => by
      have : i < l.length := by omega
      simp [Array.getD, this] at hl) (fun _ i o d hi _ hl => by
      have : i < l.length := by omega
      simp [Array.getD, this] at hl)
  simpa using this
end late
section
variable {P : Program} {ops : Array Oper} {n : Fr} {L : List (Nat × Value)} {w : World} {ty : TypeId} {pos : String} {after : Array Edge} {dst : Option Nat}
/-- a call, as the change of a region -/
theorem mu_call {f : FuncId} {l : List Operand} {ats : Array TypeId} {R post : Value → World → Prop} (hf : callable P f = true) (hc : Rt P f (l.map (ev n L)) w R) (k : ∀ v w', R v w' → post v w') :
    MuOK P ops n L ⟨dst, .call { callee := .value (.func f), args := l.toArray, argTypes := ats }, ty, pos, after, none⟩ w post :=
  ⟨rfl, .inr ⟨f, l.map (ev n L), by rw [exec_call (fun _ => rfl), run_call hf], hc.mono k⟩⟩
/-- an operation that changes memory by itself, as the change of a region -/
theorem mu_ro {op : Op} {v : Value} {w' : World} {post : Value → World → Prop} (hr : RO P (ev n L) op w v w') (h : post v w') : MuOK P ops n L ⟨dst, op, ty, pos, after, none⟩ w post := ⟨rfl, .inl ⟨v, w', hr _ _ _ _ _, h⟩⟩
end
end Go.Proofs.Ytpafbgdbjambgaa
