/- suffix: newText. -/
import Derived.Test.YtllmocjfllbbfaaMgSegLawS1
import Derived.Deep.AppendLies
set_option maxRecDepth 100000
namespace Go.Proofs.Ytllmocjfllbbfaa
open Go.RowKit
def depMu (l : List Oper) (K mu i : Nat) : Bool := Nat.blt mu K && match l[mu]? with | some om => dep2 l om i | none => false
theorem depMu_spec {l : List Oper} {K mu i : Nat} (h : depMu l K mu i = true) : mu < K ∧ ∃ om, l[mu]? = some om ∧ dep2 l om i = true := by
  unfold depMu at h
  rw [Bool.and_eq_true] at h
  refine ⟨Nat.le_of_ble_eq_true h.1, ?_⟩
  have h2 := h.2
  split at h2
  · rename_i om hom
    exact ⟨om, hom, h2⟩
  · cases h2
def OpsOK9 (P : Program) (ops : Array Oper) (n : Fr) (L : List (Nat × Value)) (I1 I2 : World → Prop) (R1 R2 : Nat → Value → World → Prop) (l0 : List Oper) (K : Nat) (mu : Nat) : Nat → List Oper → Prop
  | _, [] => True
  | i, o :: r => (Nat.beq i mu = false → match depMu l0 K mu i with
      | true => ∀ w', I1 w' → AllF R1 w' (slotsD l0 K i o) fun M => OpOK P ops n (M ++ L) o w' (R1 (o.dst.getD 0))
      | false => ∀ w', I2 w' → AllF R2 w' (slotsD l0 K i o) fun M => OpOK P ops n (M ++ L) o w' (R1 (o.dst.getD 0))) ∧ OpsOK9 P ops n L I1 I2 R1 R2 l0 K mu (i + 1) r
theorem opsOK9_at {P : Program} {ops : Array Oper} {n : Fr} {L : List (Nat × Value)} {I1 I2 : World → Prop} {R1 R2 : Nat → Value → World → Prop} {l0 : List Oper} {K mu : Nat} : ∀ {l : List Oper} {k : Nat}, OpsOK9 P ops n L I1 I2 R1 R2 l0 K mu k l → ∀ (i : Nat) (o : Oper), l[i]? = some o → k + i ≠ mu →
    match depMu l0 K mu (k + i) with
      | true => ∀ w', I1 w' → AllF R1 w' (slotsD l0 K (k + i) o) fun M => OpOK P ops n (M ++ L) o w' (R1 (o.dst.getD 0))
      | false => ∀ w', I2 w' → AllF R2 w' (slotsD l0 K (k + i) o) fun M => OpOK P ops n (M ++ L) o w' (R1 (o.dst.getD 0))
  | [], _, _, i, o, h, _ => by simp at h
  | x :: r, k, ⟨h1, h2⟩, 0, o, h, hne => by
    simp only [List.getElem?_cons_zero, Option.some.injEq] at h
    subst h
    rw [Nat.add_zero] at hne ⊢
    refine h1 ?_
    rw [← Bool.not_eq_true]
    intro hb
    exact hne (Nat.eq_of_beq_eq_true hb)
  | x :: r, k, ⟨h1, h2⟩, i + 1, o, h, hne => by
    have := opsOK9_at h2 i o (by simpa using h) (by omega)
    rwa [show k + 1 + i = k + (i + 1) by omega] at this
theorem opsOK9_at2 {P : Program} {ops : Array Oper} {n : Fr} {L : List (Nat × Value)} {I1 I2 : World → Prop} {R1 R2 : Nat → Value → World → Prop} {l0 : List Oper} {K mu : Nat} {l : List Oper} (h : OpsOK9 P ops n L I1 I2 R1 R2 l0 K mu 0 l) (i : Nat) (o : Oper) (ho : l[i]? = some o) (hne : i ≠ mu) (hd : depMu l0 K mu i = false)
    (w' : World) (hw : I2 w') : AllF R2 w' (slotsD l0 K i o) fun M => OpOK P ops n (M ++ L) o w' (R1 (o.dst.getD 0)) := by
  have := opsOK9_at h i o ho (by rw [Nat.zero_add]; exact hne)
  rw [Nat.zero_add, hd] at this
  exact this w' hw
theorem opsOK9_at1 {P : Program} {ops : Array Oper} {n : Fr} {L : List (Nat × Value)} {I1 I2 : World → Prop} {R1 R2 : Nat → Value → World → Prop} {l0 : List Oper} {K mu : Nat} {l : List Oper} (h : OpsOK9 P ops n L I1 I2 R1 R2 l0 K mu 0 l) (i : Nat) (o : Oper) (ho : l[i]? = some o) (hne : i ≠ mu) (hd : depMu l0 K mu i = true)
    (w' : World) (hw : I1 w') : AllF R1 w' (slotsD l0 K i o) fun M => OpOK P ops n (M ++ L) o w' (R1 (o.dst.getD 0)) := by
  have := opsOK9_at h i o ho (by rw [Nat.zero_add]; exact hne)
  rw [Nat.zero_add, hd] at this
  exact this w' hw
section late
variable {P : Program} {Q : Exit → Act → World → Prop} {n : Fr} {L : List (Nat × Value)} {w : World} {l : List Oper} {K mu : Nat} {I1 I2 : World → Prop} {R1 R : Nat → Value → World → Prop}
theorem late_fin9 (hQ : PQ Q) (hc : monoD l K = true) (hop : OpsOK9 P l.toArray n L I1 I2 R1 R l K mu 0 (l.take K)) (h12 : ∀ t v w, R1 t v w → R t v w) (hmuL : mu < K → isLateD l K mu = false)
    (hend : ∀ w', I2 w' → AllF R w' (preOf l K) fun M => St P l.toArray Q (l.drop K) n (M ++ L) w') (m : Nat) (listed : Array Bool) (L' : List (Nat × Value)) (w' : World) (hcl : ClosedD l listed) (hcount : listed.toList.count false = m) (hs : listed.size = l.length)
    (htail : ∀ j, K ≤ j → j < l.length → listed.getD j true = false) (hF : I2 w')
    (hfr : ∀ t, (∀ i o, i < K → l[i]? = some o → listed.getD i true = true → o.dst ≠ some t) → look L' t = look L t)
    (hR : ∀ i o d, i < K → l[i]? = some o → listed.getD i true = true → o.dst = some d → R d (look L' d) w') (hpre : ∀ i, i < K → listed.getD i true = false → isLateD l K i = true) : wpAny P .any l.toArray Q m listed (mkA n L') w' := by
  have hc1 := (Bool.and_eq_true_iff.1 hc).1
  have hlate := (Bool.and_eq_true_iff.1 hc).2
  have hKl : K ≤ l.length := of_decide_eq_true (Bool.and_eq_true_iff.1 hc1).1
  have hck := (List.all_eq_true.1 (Bool.and_eq_true_iff.1 hc1).2)
  -- what is known of an operation of the head
  have hhead : ∀ i, i < K → ∃ o d, l[i]? = some o ∧ o.dst = some d ∧ isSelect o.op = false ∧ (∀ j oj, j < K → j ≠ i → l[j]? = some oj → oj.dst ≠ some d) := by
    intro i hi
    have hil : i < l.length := by omega
    have hx := hck i (List.mem_range.2 hil)
    rw [List.getElem?_eq_getElem hil] at hx
    simp only [Bool.and_eq_true] at hx
    have h3 := hx.2
    rw [if_pos hi] at h3
    simp only [Bool.and_eq_true] at h3
    obtain ⟨h3a, h3b⟩ := h3
    cases hod : (l[i]).dst with
    | none => rw [hod] at h3a; cases h3a
    | some d =>
      rw [hod] at h3a
      simp only [Bool.and_eq_true] at h3a
      refine ⟨l[i], d, List.getElem?_eq_getElem hil, hod, by simpa using hx.1.2, fun j oj hj hne hoj e => ?_⟩
      have h5 := List.all_eq_true.1 h3a.1 j (List.mem_range.2 hj)
      rw [hoj] at h5
      simp [hne, e] at h5
  -- the values of those that are still to come
  have hval : ∀ i, i < K → listed.getD i true = false → ∃ v, ∀ o d, l[i]? = some o → o.dst = some d → Yields P l.toArray o v (mkA n L') ∧ R d v w' := by
    intro i hi hf
    have hil8 := hpre i hi hf
    obtain ⟨o, d, ho, hd, hsel, _⟩ := hhead i hi
    obtain ⟨hk, hg, hap⟩ := late_specD hlate hi ho hil8
    have hfact : ∀ t ∈ slotsD l K i o, R t (look L' t) w' := by
      intro t ht
      obtain ⟨ht2, j, oj, hjK, hj, hdj, hji, _⟩ := slotsD_spec hc hi ho ht
      refine hR j oj t hjK hj ?_ hdj
      cases hb : listed.getD j true with
      | true => rfl
      | false =>
        have h6 := hpre j hjK hb
        have h7 := (Oper.apart_spec (hap j oj hj (by omega) (.inl ⟨hjK, h6⟩))).2.2 t hdj
        exact absurd (by simpa using ht2) h7
    have hlooks := looksD (L := L) hc hcl hs ho (by omega) hf hfr
    have hnd : depMu l K mu i = false := by
      rw [← Bool.not_eq_true]
      intro hd
      obtain ⟨hmK, om, hom, hdep⟩ := depMu_spec hd
      have hml : listed.getD mu true = true := by
        cases hb : listed.getD mu true with
        | true => rfl
        | false => exact absurd (hpre mu hmK hb) (by rw [hmuL hmK]; simp)
      have hml2 : listed.getD mu false = true := by rw [← getD_true_false (by omega)]; exact hml
      have := dep_listed hcl (fun e he hb => hcl mu om hom hml2 e he hb) hdep
      rw [← getD_true_false (by omega), hf] at this
      cases this
    have hok := allF_at (look L') _ hfact (opsOK9_at2 hop i o (by rw [List.getElem?_take, if_pos hi]; exact ho) (by intro e; rw [e, hmuL (by omega)] at hil8; cases hil8) hnd w' hF)
    obtain ⟨hE, hW⟩ := looksAt_agree (n := n) (ops := l.toArray) (o := o) hsel hlooks
    rw [hd] at hok
    simp only [Option.getD_some] at hok
    have hyl : ∃ v, Yields P l.toArray o v (mkA n L') ∧ R d v w' := by
      unfold OpOK at hok
      rw [hE, hW] at hok
      rcases hok with ⟨hw, ⟨v, w'', hr, hF', hRv⟩ | ⟨f, args, hr, hcall⟩⟩ | ⟨hw, hRv⟩
      · obtain ⟨rfl, hall⟩ := late_run hk hr
        refine ⟨v, .inl ⟨hw, fun w2 => ?_⟩, h12 _ _ _ hRv⟩
        rw [eval_mkA]
        exact hall w2
      · exfalso
        obtain ⟨dst, op, ty, pos, after, guard⟩ := o
        cases op <;> simp only [lateK, Bool.false_eq_true] at hk <;> simp only [execOp, Sem.run_pure, Sem.run_bind, Result.ok.injEq] at hr
        · cases hr.1
        · cases hr.1
        · rename_i x i'
          cases hx : ev n L' x <;> simp only [hx, Instr.extract] at hr <;> (try (simp at hr; done))
          rename_i vs
          cases hv : vs[i']? <;> simp [hv] at hr
      · exact ⟨undef, .inr ⟨hw, rfl⟩, h12 _ _ _ hRv⟩
    obtain ⟨v, hv1, hv2⟩ := hyl
    refine ⟨v, fun o' d' ho' hd' => ?_⟩
    rw [ho] at ho'
    cases ho'
    rw [hd] at hd'
    cases hd'
    exact ⟨hv1, hv2⟩
  obtain ⟨f, hf⟩ : ∃ f : Nat → Value, ∀ i, i < K → listed.getD i true = false → ∀ o d, l[i]? = some o → o.dst = some d → Yields P l.toArray o (f i) (mkA n L') ∧ R d (f i) w' := by
    refine ⟨fun i => open Classical in if h : ∃ v, ∀ o d, l[i]? = some o → o.dst = some d → Yields P l.toArray o v (mkA n L') ∧ R d v w' then h.choose else undef, fun i hi hl => ?_⟩
    have h := hval i hi hl
    simp only [dif_pos h]
    exact h.choose_spec
  have hUm : ∀ i, i ∈ (List.range K).filter (fun i => !listed.getD i true) ↔ i < K ∧ listed.getD i true = false := fun i => by
    rw [List.mem_filter, List.mem_range]
    simp
  obtain ⟨U, hU, hUn⟩ : ∃ U : List Nat, (∀ i, i ∈ U ↔ i < K ∧ listed.getD i true = false) ∧ U.Nodup := ⟨_, hUm, List.nodup_range.sublist (List.filter_sublist ..)⟩
  have hbind : ∀ {i : Nat} {o : Oper}, l[i]? = some o → (l[i]?).bind (·.dst) = o.dst := fun h => by rw [h]; rfl
  -- the frame with all of them
  have hRall : ∀ d ∈ preOf l K, R d (look ((U.filterMap fun i => ((l[i]?).bind (·.dst)).map fun d => (d, f i)) ++ L') d) w' := by
    intro d hd
    obtain ⟨o, ho, hod⟩ := List.mem_filterMap.1 hd
    obtain ⟨i, hi⟩ := List.mem_iff_getElem?.1 ho
    rw [List.getElem?_take] at hi
    split at hi
    · rename_i hiK
      obtain ⟨o', d', ho', hd', _, hdist⟩ := hhead i hiK
      rw [hi] at ho'
      cases ho'
      rw [hod] at hd'
      cases hd'
      have hne : ∀ j ∈ U, j ≠ i → (l[j]?).bind (·.dst) ≠ some d := fun j hj hji => by
        have hjK := ((hU j).1 hj).1
        obtain ⟨oj, dj, hoj, _⟩ := hhead j hjK
        rw [hbind hoj]
        exact hdist j oj hjK hji hoj
      cases hb : listed.getD i true with
      | true =>
        rw [look_pend U fun j hj => hne j hj (fun e => by subst e; have := ((hU j).1 hj).2; rw [hb] at this; cases this)]
        exact hR i o d hiK hi hb hod
      | false =>
        rw [look_pend_at U ((hU i).2 ⟨hiK, hb⟩) ((hbind hi).trans hod) hne]
        exact (hf i hiK hb o d hi hod).2
    · cases hi
  have he := allF_at _ (preOf l K) hRall (hend w' hF)
  have hL : mkA n ((preOf l K).map (fun d => (d, look ((U.filterMap fun i => ((l[i]?).bind (·.dst)).map fun d => (d, f i)) ++ L') d)) ++ L) = pend l f U (mkA n L') := by
    rw [pend_mkA]
    refine mkA_congr fun t _ => ?_
    rw [look_map]
    split
    · rfl
    · rename_i hne
      have hnd : ∀ i, i < K → ∀ o, l[i]? = some o → o.dst ≠ some t := fun i hi o ho hod => hne (by
        simp only [List.elem_eq_mem, decide_eq_true_eq]
        exact List.mem_filterMap.2 ⟨o, List.mem_iff_getElem?.2 ⟨i, by rw [List.getElem?_take, if_pos hi]; exact ho⟩, hod⟩)
      rw [look_pend U fun j hj => by
        have hjK := ((hU j).1 hj).1
        obtain ⟨oj, dj, hoj, _⟩ := hhead j hjK
        rw [hbind hoj]
        exact hnd j hjK oj hoj]
      exact (hfr t fun i o hi ho _ hod => hnd i hi o ho hod).symm
  replace he := he.out
  rw [hL] at he
  refine tail_lateD hQ hc m K listed U _ w' hcl hcount hs (Nat.le_refl _) hKl (fun j h1 h2 => by rw [htail j h1 h2]; simp [h1]) hUn (fun j hj => ⟨fun h => (hU j).2 ⟨hj, h⟩, fun h => ((hU j).1 h).2⟩) (fun j hj => ?_) he
  obtain ⟨h1, h2⟩ := (hU j).1 hj
  obtain ⟨oj, dj, hoj, hdj, _⟩ := hhead j h1
  exact ⟨h1, hpre j h1 h2, oj, hoj, (hf j h1 h2 oj dj hoj hdj).1⟩
theorem mono_mu9 (hQ : PQ Q) (hc : monoD l K = true) (hm1 : ∀ w1 w2, From w1 w2 → I1 w1 → I1 w2) (hm2 : ∀ w1 w2, From w1 w2 → I2 w1 → I2 w2) (hmono1 : ∀ t v w1 w2, From w1 w2 → R1 t v w1 → R1 t v w2) (hmono : ∀ t v w1 w2, From w1 w2 → R t v w1 → R t v w2)
    (hop : OpsOK9 P l.toArray n L I1 I2 R1 R l K mu 0 (l.take K)) (h12 : ∀ t v w, R1 t v w → R t v w) (hmuL : mu < K → isLateD l K mu = false) (hmu : MuAt P l.toArray n L I1 I2 R1 R l K mu l[mu]?)
    (hend : ∀ w', I2 w' → AllF R w' (preOf l K) fun M => St P l.toArray Q (l.drop K) n (M ++ L) w') :
    ∀ (m : Nat) (listed : Array Bool) (L' : List (Nat × Value)) (w' : World), ClosedD l listed → listed.toList.count false = m → listed.size = l.length → (∀ j, K ≤ j → j < l.length → listed.getD j true = false) → I2 w' → (listed.getD mu true = false → I1 w') →
      (∀ t, (∀ i o, i < K → l[i]? = some o → listed.getD i true = true → o.dst ≠ some t) → look L' t = look L t) →
      (∀ i o d, i < K → l[i]? = some o → listed.getD i true = true → o.dst = some d → R d (look L' d) w') → (listed.getD mu true = false → ∀ i o d, i < K → l[i]? = some o → listed.getD i true = true → o.dst = some d → R1 d (look L' d) w') → wpAny P .any l.toArray Q m listed (mkA n L') w' := by
  have hc1 := (Bool.and_eq_true_iff.1 hc).1
  have hlate := (Bool.and_eq_true_iff.1 hc).2
  have hKl : K ≤ l.length := of_decide_eq_true (Bool.and_eq_true_iff.1 hc1).1
  have hck := (List.all_eq_true.1 (Bool.and_eq_true_iff.1 hc1).2)
  intro m
  induction m with
  | zero =>
    intro listed L' w' hcl hcount hs htail hF hF1 hfr hR hR1
    exact late_fin9 hQ hc hop h12 hmuL hend 0 listed L' w' hcl hcount hs htail hF hfr hR (fun i hi h => by
      have hm : listed[i]'(by omega) ∈ listed.toList := by simp
      have hb : listed[i]'(by omega) = false := by simpa [Array.getD, show i < listed.size by omega] using h
      rw [hb] at hm
      exact absurd hcount (Nat.pos_iff_ne_zero.1 (List.count_pos_iff.2 hm)))
  | succ m ih =>
    intro listed L' w' hcl hcount hs htail hF hF1 hfr hR hR1
    by_cases hpre : ∀ i, i < K → listed.getD i true = false → isLateD l K i = true
    · exact late_fin9 hQ hc hop h12 hmuL hend (m + 1) listed L' w' hcl hcount hs htail hF hfr hR hpre
    · -- some operation of the head is still to come
      have hn0 : ∃ i, i < K ∧ listed.getD i true = false ∧ isLateD l K i = false := by
        refine Classical.byContradiction fun hno => hpre fun i hi hf => ?_
        cases hb : isLateD l K i with
        | true => rfl
        | false => exact absurd ⟨i, hi, hf, hb⟩ hno
      obtain ⟨n0, hn0⟩ := hn0
      obtain ⟨i0, hi0, hmin⟩ := exists_least (p := fun i => i < K ∧ listed.getD i true = false) ⟨n0, hn0.1, hn0.2.1⟩
      have hi0l : i0 < l.length := by omega
      have hready : i0 ∈ Region.ready .any l.toArray listed := by
        refine mem_ready.2 ⟨hi0.2, l[i0], by rw [List.getElem?_toArray, List.getElem?_eq_getElem hi0l], fun e he hb => ?_⟩
        have hx := hck i0 (List.mem_range.2 hi0l)
        rw [List.getElem?_eq_getElem hi0l] at hx
        simp only [Bool.and_eq_true] at hx
        have he2 := List.all_eq_true.1 hx.1.1 e (by simpa using he)
        rw [hb] at he2
        simp at he2
        rw [← getD_true_false (by omega)]
        cases hb2 : listed.getD e.on true with
        | true => rfl
        | false => exact absurd (hmin e.on ⟨by omega, hb2⟩) (by omega)
      refine ⟨fun h0 => (by rw [h0] at hready; cases hready), fun i hi => ?_⟩
      obtain ⟨h0, o, ho, hall⟩ := mem_ready.1 hi
      rw [List.getElem?_toArray] at ho
      have hil : i < l.length := (List.getElem?_eq_some_iff.1 ho).1
      have hx := hck i (List.mem_range.2 hil)
      rw [ho] at hx
      simp only [Bool.and_eq_true] at hx
      have hiK : i < K := by
        rcases Nat.lt_or_ge i K with h | h
        · exact h
        · exfalso
          have h5 := dep_listed hcl hall (nonlate_edgeD hn0.2.2 ho h)
          rw [← getD_true_false (by omega), hn0.2.1] at h5
          cases h5
      have h3 := hx.2
      rw [if_pos hiK] at h3
      simp only [Bool.and_eq_true] at h3
      obtain ⟨h3a, h3b⟩ := h3
      cases hod : o.dst with
      | none => rw [hod] at h3a; cases h3a
      | some d =>
        rw [hod] at h3a
        simp only [Bool.and_eq_true] at h3a
        have hlooks := looksD (L := L) hc hcl hs ho hil h0 hfr
        have hfactG : ∀ (RR : Nat → Value → World → Prop), (∀ i o d, i < K → l[i]? = some o → listed.getD i true = true → o.dst = some d → RR d (look L' d) w') → ∀ t ∈ slotsD l K i o, RR t (look L' t) w' := by
          intro RR hRR t ht
          obtain ⟨_, j, oj, hjK, hj, hd, _, hdep⟩ := slotsD_spec hc hiK ho ht
          have h6 := dep_listed hcl hall hdep
          exact hRR j oj t hjK hj (by rw [getD_true_false (by omega)]; exact h6) hd
        have hsel : isSelect o.op = false := by simpa using hx.1.2
        obtain ⟨hE, hW⟩ := looksAt_agree (n := n) (ops := l.toArray) (o := o) hsel hlooks
        have next : ∀ v w'', I2 w'' → (i ≠ mu → listed.getD mu true = false → I1 w'') → R d v w'' → (i ≠ mu → R1 d v w'') → (∀ t u, t ≠ d → R t u w' → (i = mu → R1 t u w') → R t u w'') → (i ≠ mu → ∀ t u, R1 t u w' → R1 t u w'') → wpAny P .any l.toArray Q m (listed.setIfInBounds i true) ((mkA n L').put (some d) v) w'' := by
          intro v w'' hI2' hI1' hRv hR1v hst hst1
          rw [put_mkA]
          have hne : ∀ j oj d', j < K → l[j]? = some oj → j ≠ i → oj.dst = some d' → d' ≠ d := by
            intro j oj d' hj hoj hji hd e
            have h5 := List.all_eq_true.1 h3a.1 j (List.mem_range.2 hj)
            rw [hoj] at h5
            simp [hji, hd, e] at h5
          refine ih _ _ w'' (closed_set hcl ho hall) ?_ (by simpa using hs) (fun j hj1 hj2 => ?_) hI2' (fun hml => ?_) (fun t ht => ?_) (fun j oj d' hj hoj hlj hd => ?_) (fun hml j oj d' hj hoj hlj hd => ?_)
          · have hil' : i < listed.size := by omega
            have hfalse : listed.toList[i]? = some false := by
              rw [Array.getElem?_toList, Array.getElem?_eq_getElem hil']
              simp [Array.getD, hil'] at h0
              rw [h0]
            rw [Array.toList_setIfInBounds]
            have := count_set_true (l := listed.toList) (i := i) hfalse
            omega
          · rw [getD_set_ne true (by omega)]
            exact htail j hj1 hj2
          · have him : i ≠ mu := fun e => by subst e; simp [show i < listed.size by omega] at hml
            rw [getD_set_ne true him] at hml
            exact hI1' him hml
          · have htd : t ≠ d := fun e => ht i o hiK ho (by simp [show i < listed.size by omega]) (by rw [hod, e])
            rw [look_cons, if_neg htd]
            refine hfr t fun j oj hj hoj hlj => ht j oj hj hoj ?_
            by_cases e : i = j
            · subst e; rw [h0] at hlj; cases hlj
            · rw [getD_set_ne true e]; exact hlj
          · rw [look_cons]
            by_cases e : j = i
            · subst e
              rw [ho] at hoj
              cases hoj
              rw [hod] at hd
              cases hd
              rw [if_pos rfl]
              exact hRv
            · have hdd := hne j oj d' hj hoj e hd
              rw [if_neg hdd]
              rw [getD_set_ne true (Ne.symm e)] at hlj
              refine hst _ _ hdd (hR j oj d' hj hoj hlj hd) (fun e2 => ?_)
              subst e2
              exact hR1 h0 j oj d' hj hoj hlj hd
          · have him : i ≠ mu := fun e => by subst e; simp [show i < listed.size by omega] at hml
            rw [getD_set_ne true him] at hml
            rw [look_cons]
            by_cases e : j = i
            · subst e
              rw [ho] at hoj
              cases hoj
              rw [hod] at hd
              cases hd
              rw [if_pos rfl]
              exact hR1v him
            · rw [if_neg (hne j oj d' hj hoj e hd)]
              rw [getD_set_ne true (Ne.symm e)] at hlj
              exact hst1 him _ _ (hR1 hml j oj d' hj hoj hlj hd)
        unfold wpOp
        rw [List.getElem?_toArray, ho]
        show if Region.wanted o (yielded l.toArray (mkT n.n L')) = true then _ else _
        by_cases him : i = mu
        · subst him
          rw [ho] at hmu
          have hok := allF_at (look L') _ (hfactG R1 (hR1 h0)) (hmu w' (hF1 h0))
          rw [hod] at hok
          simp only [Option.getD_some] at hok
          unfold MuOK at hok
          rw [hE, hW] at hok
          obtain ⟨hw, ⟨v, w'', hr, hI, hRv, hst⟩ | ⟨f, args, hr, hcall⟩⟩ := hok
          · rw [if_pos hw]
            refine .inl ?_
            unfold Oper.wp
            rw [eval_mkA, hr, Oper.upon_value, hod]
            exact next v w'' hI (fun h => absurd rfl h) hRv (fun h => absurd rfl h) (fun t u ht _ h1 => hst t u ht (h1 rfl)) (fun h => absurd rfl h)
          · rw [if_pos hw]
            refine .inl ?_
            unfold Oper.wp
            rw [eval_mkA, hr, Oper.upon_enter, hod]
            refine Calls.mono hcall fun e w'' ⟨v, he, hI, hRv, hst⟩ => ?_
            subst he
            exact next v w'' hI (fun h => absurd rfl h) hRv (fun h => absurd rfl h) (fun t u ht _ h1 => hst t u ht (h1 rfl)) (fun h => absurd rfl h)
        · have hok : OpOK P l.toArray n (((slotsD l K i o).map fun d => (d, look L' d)) ++ L) o w' (R1 (o.dst.getD 0)) := by
            cases hdm : depMu l K mu i with
            | false => exact allF_at (look L') _ (hfactG R hR) (opsOK9_at2 hop i o (by rw [List.getElem?_take, if_pos hiK]; exact ho) him hdm w' hF)
            | true =>
              have hml : listed.getD mu true = false := by
                obtain ⟨hmK, om, hom, hdep⟩ := depMu_spec hdm
                rw [← Bool.not_eq_true]
                intro hml
                have hml2 : listed.getD mu false = true := by rw [← getD_true_false (by omega)]; exact hml
                have := dep_listed hcl (fun e he hb => hcl mu om hom hml2 e he hb) hdep
                rw [← getD_true_false (by omega), h0] at this
                cases this
              exact allF_at (look L') _ (hfactG R1 (hR1 hml)) (opsOK9_at1 hop i o (by rw [List.getElem?_take, if_pos hiK]; exact ho) him hdm w' (hF1 hml))
          rw [hod] at hok
          simp only [Option.getD_some] at hok
          unfold OpOK at hok
          rw [hE, hW] at hok
          have next' : ∀ v w'', From w' w'' → R1 d v w'' → wpAny P .any l.toArray Q m (listed.setIfInBounds i true) ((mkA n L').put (some d) v) w'' := fun v w'' hF' hRv =>
            next v w'' (hm2 _ _ hF' hF) (fun _ h => hm1 _ _ hF' (hF1 h)) (h12 _ _ _ hRv) (fun _ => hRv) (fun t u _ h _ => hmono _ _ _ _ hF' h) (fun _ t u h => hmono1 _ _ _ _ hF' h)
          rcases hok with ⟨hw, ⟨v, w'', hr, hF', hRv⟩ | ⟨f, args, hr, hcall⟩⟩ | ⟨hw, hRv⟩
          · rw [if_pos hw]
            refine .inl ?_
            unfold Oper.wp
            rw [eval_mkA, hr, Oper.upon_value, hod]
            exact next' v w'' hF' hRv
          · rw [if_pos hw]
            refine .inl ?_
            unfold Oper.wp
            rw [eval_mkA, hr, Oper.upon_enter, hod]
            refine Calls.mono hcall fun e w'' ⟨v, he, hF', hRv⟩ => ?_
            subst he
            exact next' v w'' hF' hRv
          · rw [if_neg (by rw [hw]; simp), hod]
            exact next' undef w' From.rfl_ hRv

/-- a region that draws its order, with one change -/
theorem cd_mu9 {id : Nat} (K mu : Nat) (Ex : List Nat) (RL : List (Nat × (Value → World → Prop))) (I1 I2 : World → Prop) (hQ : PQ Q) (hm : P.follows .mixedOrders = true) (hc : monoD l K = true) (hl : isLateD l K mu = false) (hmono : MonoR RL)
    (h0 : I1 { w with drawn := w.drawn + 1 }) (h0' : I2 { w with drawn := w.drawn + 1 }) (hm1 : ∀ w1 w2, From w1 w2 → I1 w1 → I1 w2) (hm2 : ∀ w1 w2, From w1 w2 → I2 w1 → I2 w2)
    (hop : OpsOK9 P l.toArray n L I1 I2 (lookR RL) (lookE Ex RL) l K mu 0 (l.take K)) (hmu : MuAt P l.toArray n L I1 I2 (lookR RL) (lookE Ex RL) l K mu l[mu]?)
    (hend : ∀ w', I2 w' → AllF (lookE Ex RL) w' (preOf l K) fun M => St P l.toArray Q (l.drop K) n (M ++ L) w') : Cd P (.region id l.toArray true) Q n L w := by
  refine ⟨wp_region_any hm ?_⟩
  have hKl : K ≤ l.length := of_decide_eq_true (Bool.and_eq_true_iff.1 (Bool.and_eq_true_iff.1 hc).1).1
  have := mono_mu9 (Q := Q) hQ hc hm1 hm2 (lookR_mono hmono) (lookE_mono hmono) hop lookE_of (fun _ => hl) hmu hend l.length (Array.replicate l.length false) L { w with drawn := w.drawn + 1 } (closed_none l _) (by simp) (by simp)
    (fun j _ hj => by simp [Array.getD, hj]) h0' (fun _ => h0) (fun _ _ => rfl) (fun i o d hi _ hl => by
      have : i < l.length := by omega
      simp [Array.getD, this] at hl) (fun _ i o d hi _ hl => by
      have : i < l.length := by omega
      simp [Array.getD, this] at hl)
  simpa using this
end late
section
variable {P : Program} {ops : Array Oper} {n : Fr} {L : List (Nat × Value)} {w : World} {ty : TypeId} {pos : String} {after : Array Edge} {dst : Option Nat}
/-- an operation that changes memory by itself, as the change of a region -/
theorem mu_ro {op : Op} {v : Value} {w' : World} {post : Value → World → Prop} (hr : RO P (ev n L) op w v w') (h : post v w') : MuOK P ops n L ⟨dst, op, ty, pos, after, none⟩ w post := ⟨rfl, .inl ⟨v, w', hr _ _ _ _ _, h⟩⟩
end
end Go.Proofs.Ytllmocjfllbbfaa

namespace Go.Proofs.Ytllmocjfllbbfaa
open Go.RowKit

def edgesB (l : List Oper) : Bool := (List.range l.length).all fun i => match l[i]? with
  | none => false
  | some o => o.guard.isNone && o.after.toList.all fun e => !Region.binds .any e || decide (e.on < i)
def setB (S : Nat → Bool) (i : Nat) : Nat → Bool := fun j => if j = i then true else S j
/-- one operation runs, and the invariant holds behind it -/
def StepI (P : Program) (n : Fr) (o : Oper) (Inv : List (Nat × Value) → World → Prop) (L' : List (Nat × Value)) (w' : World) : Prop :=
  (∃ d v w'', o.dst = some d ∧ (execOp (ev n L') o).run P w' = .ok (.value v) w'' ∧ Inv ((d, v) :: L') w'') ∨
  (∃ w'', o.dst = none ∧ (execOp (ev n L') o).run P w' = .ok .skip w'' ∧ Inv L' w'') ∨
  (∃ d f args, o.dst = some d ∧ (execOp (ev n L') o).run P w' = .ok (.enter f (List.toArray args)) w' ∧ Rt P f args w' fun v w'' => Inv ((d, v) :: L') w'')
section
variable {P : Program} {Q : Exit → Act → World → Prop} {n : Fr} {L : List (Nat × Value)} {w : World} {l : List Oper}
theorem inv_any {Inv : (Nat → Bool) → List (Nat × Value) → World → Prop} (hwf : edgesB l = true)
    (hstep : ∀ (i : Nat) (o : Oper) (S : Nat → Bool) (L' : List (Nat × Value)) (w' : World), l[i]? = some o → Inv S L' w' → S i = false → (∀ e ∈ o.after, Region.binds .any e = true → S e.on = true) → StepI P n o (Inv (setB S i)) L' w')
    (hend : ∀ L' w', Inv (fun i => decide (i < l.length)) L' w' → Q .normal (mkA n L') w') :
    ∀ (m : Nat) (listed : Array Bool) (L' : List (Nat × Value)) (w' : World), listed.toList.count false = m → listed.size = l.length → Inv (fun i => listed.getD i false) L' w' → wpAny P .any l.toArray Q m listed (mkA n L') w' := by
  have hck := List.all_eq_true.1 hwf
  intro m
  induction m with
  | zero =>
    intro listed L' w' hcount hs hI
    have hall : ∀ i, i < l.length → listed.getD i false = true := fun i hi => by
      have hm : listed[i]'(by omega) ∈ listed.toList := by simp
      cases hb : listed[i]'(by omega) with
      | true => simp [Array.getD, show i < listed.size by omega, hb]
      | false => rw [hb] at hm; exact absurd hcount (Nat.pos_iff_ne_zero.1 (List.count_pos_iff.2 hm))
    have e : (fun i => listed.getD i false) = fun i => decide (i < l.length) := by
      funext i
      by_cases hi : i < l.length
      · rw [hall i hi, decide_eq_true hi]
      · rw [decide_eq_false hi]
        simp [Array.getD, show ¬ i < listed.size by omega]
    rw [e] at hI
    refine ⟨?_, hend L' w' hI⟩
    cases hr : Region.ready .any l.toArray listed with
    | nil => rfl
    | cons i r =>
      exfalso
      obtain ⟨h0, o, ho, _⟩ := mem_ready.1 (show i ∈ Region.ready .any l.toArray listed by rw [hr]; simp)
      rw [List.getElem?_toArray] at ho
      have hil : i < l.length := (List.getElem?_eq_some_iff.1 ho).1
      have := hall i hil
      rw [← getD_true_false (by omega), h0] at this
      cases this
  | succ m ih =>
    intro listed L' w' hcount hs hI
    have hn0 : ∃ i, i < l.length ∧ listed.getD i true = false := by
      have hpos : 0 < listed.toList.count false := by omega
      obtain ⟨i, hi, hb⟩ := List.getElem_of_mem (List.count_pos_iff.1 hpos)
      rw [Array.length_toList] at hi
      refine ⟨i, by omega, ?_⟩
      rw [Array.getElem_toList] at hb
      simp [Array.getD, hi, hb]
    obtain ⟨i0, hi0, hmin⟩ := exists_least (p := fun i => i < l.length ∧ listed.getD i true = false) hn0
    have hready : i0 ∈ Region.ready .any l.toArray listed := by
      refine mem_ready.2 ⟨hi0.2, l[i0]'hi0.1, by rw [List.getElem?_toArray, List.getElem?_eq_getElem hi0.1], fun e he hb => ?_⟩
      have hx := hck i0 (List.mem_range.2 hi0.1)
      rw [List.getElem?_eq_getElem hi0.1] at hx
      simp only [Bool.and_eq_true] at hx
      have he2 := List.all_eq_true.1 hx.2 e (by simpa using he)
      rw [hb] at he2
      simp at he2
      have := hi0.1
      rw [← getD_true_false (by omega)]
      cases hb2 : listed.getD e.on true with
      | true => rfl
      | false => exact absurd (hmin e.on ⟨by omega, hb2⟩) (by omega)
    refine ⟨fun h0 => (by rw [h0] at hready; cases hready), fun i hi => ?_⟩
    obtain ⟨h0, o, ho, hall⟩ := mem_ready.1 hi
    rw [List.getElem?_toArray] at ho
    have hil : i < l.length := (List.getElem?_eq_some_iff.1 ho).1
    have hx := hck i (List.mem_range.2 hil)
    rw [ho] at hx
    simp only [Bool.and_eq_true] at hx
    have hg : o.guard = none := by simpa using hx.1
    have h0f : listed.getD i false = false := by rw [← getD_true_false (by omega)]; exact h0
    have hset : (fun j => (listed.setIfInBounds i true).getD j false) = setB (fun j => listed.getD j false) i := by
      funext j
      unfold setB
      by_cases e : j = i
      · subst e
        simp [Array.getD, show j < listed.size by omega]
      · rw [if_neg e, getD_set_ne false (Ne.symm e)]
    have hcnt : (listed.setIfInBounds i true).toList.count false = m := by
      have hil' : i < listed.size := by omega
      have hfalse : listed.toList[i]? = some false := by
        rw [Array.getElem?_toList, Array.getElem?_eq_getElem hil']
        simp [Array.getD, hil'] at h0
        rw [h0]
      rw [Array.toList_setIfInBounds]
      have := count_set_true (l := listed.toList) (i := i) hfalse
      omega
    have next : ∀ L2 w2, Inv (setB (fun j => listed.getD j false) i) L2 w2 → wpAny P .any l.toArray Q m (listed.setIfInBounds i true) (mkA n L2) w2 := fun L2 w2 h =>
      ih _ L2 w2 hcnt (by simpa using hs) (by rw [hset]; exact h)
    unfold wpOp
    rw [List.getElem?_toArray, ho]
    show if Region.wanted o (yielded l.toArray (mkT n.n L')) = true then _ else _
    rw [if_pos (by unfold Region.wanted; rw [hg])]
    refine .inl ?_
    unfold Oper.wp
    rw [eval_mkA]
    rcases hstep i o _ L' w' ho hI h0f hall with ⟨d, v, w'', hd, hr, hI2⟩ | ⟨w'', hd, hr, hI2⟩ | ⟨d, f, args, hd, hr, hc⟩
    · rw [hr, Oper.upon_value, hd, put_mkA]
      exact next _ _ hI2
    · rw [hr, Oper.upon_skip, hd]
      exact next _ _ hI2
    · rw [hr, Oper.upon_enter, hd]
      refine Calls.mono hc fun e w'' ⟨v, he, hI2⟩ => ?_
      subst he
      show wpAny P .any l.toArray Q m (listed.setIfInBounds i true) ((mkA n L').put (some d) v) w''
      rw [put_mkA]
      exact next _ _ hI2
/-- a region that draws its order, by an invariant -/
theorem cd_inv {id : Nat} (Inv : (Nat → Bool) → List (Nat × Value) → World → Prop) (hm : P.follows .mixedOrders = true) (hwf : edgesB l = true) (h0 : Inv (fun _ => false) L { w with drawn := w.drawn + 1 })
    (hstep : ∀ (i : Nat) (o : Oper) (S : Nat → Bool) (L' : List (Nat × Value)) (w' : World), l[i]? = some o → Inv S L' w' → S i = false → (∀ e ∈ o.after, Region.binds .any e = true → S e.on = true) → StepI P n o (Inv (setB S i)) L' w')
    (hend : ∀ L' w', Inv (fun i => decide (i < l.length)) L' w' → Q .normal (mkA n L') w') : Cd P (.region id l.toArray true) Q n L w := by
  refine ⟨wp_region_any hm ?_⟩
  have := inv_any (Q := Q) hwf hstep hend l.length (Array.replicate l.length false) L { w with drawn := w.drawn + 1 } (by simp) (by simp) (by
    have e : (fun i => (Array.replicate l.length false).getD i false) = fun _ => false := by
      funext i
      by_cases hi : i < l.length <;> simp [Array.getD, hi]
    rw [e]
    exact h0)
  simpa using this
theorem step_ro {d : Nat} {op : Op} {ty : TypeId} {pos : String} {after : Array Edge} {v : Value} {w' w'' : World} {L' : List (Nat × Value)} {Inv : List (Nat × Value) → World → Prop} (h : RO P (ev n L') op w' v w'') (hI : Inv ((d, v) :: L') w'') : StepI P n ⟨some d, op, ty, pos, after, none⟩ Inv L' w' :=
  .inl ⟨d, v, w'', rfl, h _ _ _ _ _, hI⟩
theorem step_rs {op : Op} {ty : TypeId} {pos : String} {after : Array Edge} {w' w'' : World} {L' : List (Nat × Value)} {Inv : List (Nat × Value) → World → Prop} (h : RS P (ev n L') op w' w'') (hI : Inv L' w'') : StepI P n ⟨none, op, ty, pos, after, none⟩ Inv L' w' :=
  .inr (.inl ⟨w'', rfl, h _ _ _ _ _, hI⟩)
/-! ### the values of the slots, by a table: (operation, slot, value) -/
def InvL (L : List (Nat × Value)) (T : List (Nat × Nat × Value)) (S : Nat → Bool) (L' : List (Nat × Value)) : Prop :=
  (∀ t, (∀ p ∈ T, p.2.1 ≠ t) → look L' t = look L t) ∧ (∀ p ∈ T, S p.1 = true → look L' p.2.1 = p.2.2) ∧ ∀ p ∈ T, S p.1 = false → look L' p.2.1 = look L p.2.1
def UniT : List (Nat × Nat × Value) → Prop
  | [] => True
  | p :: r => (∀ q ∈ r, q.1 ≠ p.1 ∧ q.2.1 ≠ p.2.1) ∧ UniT r
theorem uni_eq : ∀ {T : List (Nat × Nat × Value)}, UniT T → ∀ {p q : Nat × Nat × Value}, p ∈ T → q ∈ T → p.1 = q.1 ∨ p.2.1 = q.2.1 → p = q
  | _ :: _, ⟨h1, h2⟩, p, q, hp, hq, he => by
    rcases List.mem_cons.1 hp with rfl | hp' <;> rcases List.mem_cons.1 hq with rfl | hq'
    · rfl
    · rcases he with e | e
      · exact absurd e.symm (h1 _ hq').1
      · exact absurd e.symm (h1 _ hq').2
    · rcases he with e | e
      · exact absurd e (h1 _ hp').1
      · exact absurd e (h1 _ hp').2
    · exact uni_eq h2 hp' hq' he
theorem InvL.put {T : List (Nat × Nat × Value)} {S : Nat → Bool} {L' : List (Nat × Value)} {i d : Nat} {v : Value} (h : InvL L T S L') (hU : UniT T) (hp : (i, d, v) ∈ T) : InvL L T (setB S i) ((d, v) :: L') := by
  refine ⟨fun t ht => ?_, fun p hq hs => ?_, fun p hq hs => ?_⟩
  · rw [look_cons, if_neg (fun e => ht _ hp e.symm)]
    exact h.1 t ht
  · rw [look_cons]
    by_cases e : p.2.1 = d
    · rw [if_pos e, uni_eq hU hq hp (.inr e)]
    · rw [if_neg e]
      refine h.2.1 p hq ?_
      unfold setB at hs
      by_cases e2 : p.1 = i
      · exact absurd (congrArg (·.2.1) (uni_eq hU hq hp (.inl e2))) e
      · rwa [if_neg e2] at hs
  · unfold setB at hs
    by_cases e2 : p.1 = i
    · rw [if_pos e2] at hs; cases hs
    · rw [if_neg e2] at hs
      rw [look_cons, if_neg (fun e => e2 (congrArg (·.1) (uni_eq hU hq hp (.inr e))))]
      exact h.2.2 p hq hs
theorem InvL.skip {T : List (Nat × Nat × Value)} {S : Nat → Bool} {L' : List (Nat × Value)} {i : Nat} (h : InvL L T S L') (hi : ∀ p ∈ T, p.1 ≠ i) : InvL L T (setB S i) L' := by
  refine ⟨h.1, fun p hq hs => h.2.1 p hq ?_, fun p hq hs => h.2.2 p hq ?_⟩ <;> (unfold setB at hs; rwa [if_neg (hi p hq)] at hs)
theorem InvL.get {T : List (Nat × Nat × Value)} {S : Nat → Bool} {L' : List (Nat × Value)} {i d : Nat} {v : Value} (h : InvL L T S L') (hp : (i, d, v) ∈ T) (hs : S i = true) : look L' d = v := h.2.1 _ hp hs
def EdgesOn (S : Nat → Bool) : List Edge → Prop
  | [] => True
  | e :: r => (bif Region.binds .any e then S e.on = true else True) ∧ EdgesOn S r
theorem edges_on {S : Nat → Bool} : ∀ {es : List Edge}, (∀ e ∈ es, Region.binds .any e = true → S e.on = true) → EdgesOn S es
  | [], _ => trivial
  | e :: r, h => by
    refine ⟨?_, edges_on fun e' he => h e' (.tail _ he)⟩
    cases hb : Region.binds .any e with
    | true => exact h e (.head _) hb
    | false => trivial
def StepsT (P : Program) (n : Fr) (L : List (Nat × Value)) (T : List (Nat × Nat × Value)) (Mem : (Nat → Bool) → World → Prop) : Nat → List Oper → Prop
  | _, [] => True
  | i, o :: r => (∀ S L' w', InvL L T S L' → Mem S w' → S i = false → EdgesOn S o.after.toList → StepI P n o (fun L2 w2 => InvL L T (setB S i) L2 ∧ Mem (setB S i) w2) L' w') ∧ StepsT P n L T Mem (i + 1) r
theorem stepsT_at {T : List (Nat × Nat × Value)} {Mem : (Nat → Bool) → World → Prop} : ∀ {r : List Oper} {k : Nat}, StepsT P n L T Mem k r → ∀ (i : Nat) (o : Oper), r[i]? = some o → ∀ S L' w', InvL L T S L' → Mem S w' → S (k + i) = false → EdgesOn S o.after.toList → StepI P n o (fun L2 w2 => InvL L T (setB S (k + i)) L2 ∧ Mem (setB S (k + i)) w2) L' w'
  | [], _, _, i, o, h => by simp at h
  | x :: r, k, ⟨h1, h2⟩, 0, o, h => by
    simp only [List.getElem?_cons_zero, Option.some.injEq] at h
    subst h
    exact h1
  | x :: r, k, ⟨h1, h2⟩, i + 1, o, h => by
    have := stepsT_at h2 i o (by simpa using h)
    rwa [show k + 1 + i = k + (i + 1) by omega] at this
theorem look_tab {T : List (Nat × Nat × Value)} (hU : UniT T) {L L' : List (Nat × Value)} {S : Nat → Bool} (h : InvL L T S L') (hS : ∀ p ∈ T, S p.1 = true) (t : Nat) : look L' t = look (T.map (fun p => (p.2.1, p.2.2)) ++ L) t := by
  have key : ∀ T' : List (Nat × Nat × Value), (∀ p ∈ T', p ∈ T) → (∃ p ∈ T', p.2.1 = t) ∨ (∀ p ∈ T', p.2.1 ≠ t) → (∃ p ∈ T', p.2.1 = t ∧ look (T'.map (fun p => (p.2.1, p.2.2)) ++ L) t = p.2.2) ∨ ((∀ p ∈ T', p.2.1 ≠ t) ∧ look (T'.map (fun p => (p.2.1, p.2.2)) ++ L) t = look L t) := by
    intro T'
    induction T' with
    | nil => exact fun _ _ => .inr ⟨fun p hp => by simp at hp, rfl⟩
    | cons q r ih =>
      intro hsub _
      rw [List.map_cons, List.cons_append, look_cons]
      by_cases e : q.2.1 = t
      · rw [if_pos e.symm]
        exact .inl ⟨q, .head _, e, rfl⟩
      · rw [if_neg (Ne.symm e)]
        rcases ih (fun p hp => hsub p (.tail _ hp)) (by by_cases hx : ∃ p ∈ r, p.2.1 = t; exact .inl hx; exact .inr fun p hp he => hx ⟨p, hp, he⟩) with ⟨p, hp, h1, h2⟩ | ⟨h1, h2⟩
        · exact .inl ⟨p, .tail _ hp, h1, h2⟩
        · refine .inr ⟨fun p hp => ?_, h2⟩
          rcases List.mem_cons.1 hp with rfl | hp2
          · exact e
          · exact h1 p hp2
  rcases key T (fun _ hp => hp) (by by_cases hx : ∃ p ∈ T, p.2.1 = t; exact .inl hx; exact .inr fun p hp he => hx ⟨p, hp, he⟩) with ⟨p, hp, h1, h2⟩ | ⟨h1, h2⟩
  · rw [h2, ← h1]
    exact h.2.1 p hp (hS p hp)
  · rw [h2]
    exact h.1 t h1
theorem cd_invT {id : Nat} (T : List (Nat × Nat × Value)) (Mem : (Nat → Bool) → World → Prop) (hm : P.follows .mixedOrders = true) (hwf : edgesB l = true) (hU : UniT T) (hlt : ∀ p ∈ T, p.1 < l.length) (h0 : Mem (fun _ => false) { w with drawn := w.drawn + 1 })
    (hstep : StepsT P n L T Mem 0 l) (hend : ∀ w', Mem (fun i => decide (i < l.length)) w' → Q .normal (mkA n (T.map (fun p => (p.2.1, p.2.2)) ++ L)) w') : Cd P (.region id l.toArray true) Q n L w := by
  refine cd_inv (fun S L' w' => InvL L T S L' ∧ Mem S w') hm hwf ⟨⟨fun _ _ => rfl, fun _ _ h => (by cases h), fun _ _ _ => rfl⟩, h0⟩ (fun i o S L' w' ho ⟨hI, hM⟩ hS hE => ?_) fun L' w' ⟨hI, hM⟩ => ?_
  · have := stepsT_at hstep i o ho S L' w' hI hM (by rw [Nat.zero_add]; exact hS) (edges_on fun e he => hE e (by simpa using he))
    rwa [Nat.zero_add] at this
  · have h := hend w' hM
    have e : mkA n L' = mkA n (T.map (fun p => (p.2.1, p.2.2)) ++ L) := by
      unfold mkA
      rw [mkT_congr fun t _ => look_tab hU hI (fun p hp => decide_eq_true (hlt p hp)) t]
    rw [e]
    exact h
theorem rs_put {t : TypeId} {x y : Operand} {g i : Nat} {u : TypeId} {cs : Array Value} {v : Value} (ht : sizeQ P t = some 1) (hx : ev n L x = .pointer (some ⟨g, i, none⟩)) (hy : ev n L y = v) (h1 : v.oneCell' = true) (hb : Blk w g u cs) (hi : i < cs.size) :
    ∃ w', RS P (ev n L) (.store t x y) w w' ∧ Only g w w' ∧ Blk w' g u (cs.setIfInBounds i v) := by
  have hc : w.cell? ⟨g, i, none⟩ = some (cs[i]'hi) := by rw [hb.cell]; simp [hi]
  exact ⟨_, rs_store ht hx hy h1 hc (hb.frozen i), Only.setCell w g i v, hb.set_ i v⟩
end
end Go.Proofs.Ytllmocjfllbbfaa

namespace Go.Proofs.Ytllmocjfllbbfaa
open Go.RowKit

/-- a row of the call's own, from an offset on, of one cell an element -/
def OwnO (w : World) (base : Nat) (e : TypeId) (A : Option Addr) (n c : Nat) (xs : List Value) : Prop :=
  xs.length = n ∧ n ≤ c ∧ c ≤ maxLen ∧ ∃ g off cs, A = some ⟨g, off, none⟩ ∧ base ≤ g ∧ Blk w g e cs ∧ off + c ≤ cs.size ∧ (cs.toList.drop off).take n = xs
/-! ### a drawn region by an invariant, operation by operation -/
section
variable {P : Program} {Q : Exit → Act → World → Prop} {n : Fr} {L : List (Nat × Value)} {w : World} {l : List Oper}
def StepsI (P : Program) (n : Fr) (Inv : (Nat → Bool) → List (Nat × Value) → World → Prop) : Nat → List Oper → Prop
  | _, [] => True
  | i, o :: r => (∀ S L' w', Inv S L' w' → S i = false → EdgesOn S o.after.toList → StepI P n o (Inv (setB S i)) L' w') ∧ StepsI P n Inv (i + 1) r
end
section
variable {P : Program} {ρ : Operand → Value} {w : World} {t : TypeId} {x : Operand} {e g off c n : Nat}
theorem ro_takeN {m : Nat} {y : Operand} {k : IntKind} (ht : elemQ P t = some (e, 1)) (hx : ρ x = .slice (some ⟨g, off, none⟩) n c) (hy : ρ y = .int k (m : Nat)) (hm : m ≤ c) : RO P ρ (.slice t x none (some y) none) w (.slice (some ⟨g, off, none⟩) m c) w := by
  have := ro_slice (P := P) (ρ := ρ) (w := w) (l := 0) (h := m) ht (lo := none) (hi := some y) hx (.inl ⟨rfl, rfl⟩) (.inr ⟨y, k, rfl, hy⟩) (Nat.zero_le _) hm
  simpa using this
theorem ro_dropN {m : Nat} {y : Operand} {k : IntKind} (ht : elemQ P t = some (e, 1)) (hx : ρ x = .slice (some ⟨g, off, none⟩) n c) (hy : ρ y = .int k (m : Nat)) (hm : m ≤ n) (hn : n ≤ c) : RO P ρ (.slice t x (some y) none none) w (.slice (some ⟨g, if c = m then off else off + m, none⟩) (n - m) (c - m)) w := by
  have := ro_slice (P := P) (ρ := ρ) (w := w) (l := m) (h := n) ht (lo := some y) (hi := none) hx (.inr ⟨y, k, rfl, hy⟩) (.inl ⟨rfl, rfl⟩) hm hn
  simpa using this
end
/-- append, and where the row lies behind it -/
theorem ro_appendL {P : Program} {ρ : Operand → Value} {w : World} {s x : Operand} {t base : Nat} {A A2 : Option Addr} {m j cap c2 e size by_ : Nat} {z : Value} {xs news : List Value} (hq : litQ P t = some (e, size, by_, z)) (hzs : z.cells.size = size) (hs0 : 0 < size)
    (hs : ρ s = .slice A m cap) (hown : w.ownsRow base e size (.slice A m cap) m xs) (hB : base ≤ w.heap.size)
    (hx : ρ x = .slice A2 j c2) (hl : news.length = j * size) (hsrc : ∃ b o, A2 = some ⟨b, o, none⟩ ∧ w.rangeAt b o news) (h1 : ∀ u ∈ news, u.oneCell' = true) (h63 : m + j ≤ 9223372036854775807) (hby : (m + j) * by_ ≤ 140737488355328) :
    ∃ A' cap' w', RO P ρ (.call { callee := .builtin .append, args := #[s, x], argTypes := #[t, t] }) w (.slice A' (m + j) cap') w' ∧ w'.ownsRow base e size (.slice A' (m + j) cap') (m + j) (xs ++ news) ∧ w.grownBy w' (A.map (·.block)) ∧ (A'.map (·.block) = A.map (·.block) ∨ A'.map (·.block) = some w.heap.size) := by
  obtain ⟨i, hu, hi, hsz, hb, hz⟩ := lit_of hq
  obtain ⟨b, o, rfl, hr⟩ := hsrc
  have hobl : ∀ (A : Option Addr) (m c : Nat), (Value.slice A m c).ownBlock = A.map (·.block) := fun A m c => by cases A <;> rfl
  obtain ⟨v', w', hrun, hown', hg, _, h5⟩ := run_append_own_at (P := P) w base t 0 e i z size by_ hu hi hz hsz hb hzs hs0 _ m xs hown ⟨b, o, none⟩ j c2 news hl (fun i u hu => by rw [Addr.add_mid]; exact hr i u hu) h1 (by unfold maxLen; omega) hby hB
  obtain ⟨A', cap', rfl⟩ := own_form hown'
  rw [hobl, hobl] at h5
  refine ⟨A', cap', w', fun dst ty pos after g => ?_, hown', by rw [← hobl A m cap]; exact hg, h5⟩
  have hty : (Builtin.append_ #[t, t] ty #[.slice A m cap, .slice (some ⟨b, o, none⟩) j c2]).run P w = (Builtin.append_ #[t, t] 0 #[.slice A m cap, .slice (some ⟨b, o, none⟩) j c2]).run P w := rfl
  unfold execOp
  simp only [resolve, invoke, builtin, Sem.run_bind, Sem.run_pure, Result.andThen_ok, List.map_toArray, List.map_cons, List.map_nil, hs, hx, hty, hrun]
end Go.Proofs.Ytllmocjfllbbfaa

namespace Go.Proofs.Ytllmocjfllbbfaa
open Go.RowKit

abbrev PT := List (Nat × Nat × ((Nat → Bool) → Value → World → Prop))
def InvP (L : List (Nat × Value)) (T : PT) (S : Nat → Bool) (L' : List (Nat × Value)) (w : World) : Prop :=
  (∀ t, (∀ p ∈ T, p.2.1 ≠ t) → look L' t = look L t) ∧ (∀ p ∈ T, S p.1 = true → p.2.2 S (look L' p.2.1) w) ∧ ∀ p ∈ T, S p.1 = false → look L' p.2.1 = look L p.2.1
def UniP : List (Nat × Nat) → Prop
  | [] => True
  | p :: r => (∀ q ∈ r, q.1 ≠ p.1 ∧ q.2 ≠ p.2) ∧ UniP r
def uniB : List (Nat × Nat) → Bool
  | [] => true
  | p :: r => (r.all fun q => !(Nat.beq q.1 p.1) && !(Nat.beq q.2 p.2)) && uniB r
/-- what is said of the slots stays, by an operation that only adds -/
def MonoP (Mu : List Nat) : PT → Prop
  | [] => True
  | p :: r => (∀ S i v w1 w2, Mu.elem i = false → From w1 w2 → p.2.2 S v w1 → p.2.2 (setB S i) v w2) ∧ MonoP Mu r
/-- what is said of the other slots stays, by this change -/
def ChP (i : Nat) (S : Nat → Bool) (w1 w2 : World) : PT → Prop
  | [] => True
  | p :: r => (Nat.beq p.1 i = false → S p.1 = true → ∀ v, p.2.2 S v w1 → p.2.2 (setB S i) v w2) ∧ ChP i S w1 w2 r
/-- the slots that an operation looks at, with their values -/
def AgrM (L' : List (Nat × Value)) : List (Nat × Value) → Prop
  | [] => True
  | (t, v) :: r => look L' t = v ∧ AgrM L' r
section
variable {P : Program} {Q : Exit → Act → World → Prop} {n : Fr} {L L' M : List (Nat × Value)} {w w' w'' : World} {l : List Oper} {T : PT} {Mem : (Nat → Bool) → World → Prop} {Mu : List Nat} {S : Nat → Bool} {op : Op} {ty : TypeId} {pos : String} {after : Array Edge} {i d : Nat} {v : Value} {R : (Nat → Bool) → Value → World → Prop}
abbrev StepJ (P : Program) (n : Fr) (L : List (Nat × Value)) (T : PT) (Mem : (Nat → Bool) → World → Prop) (S : Nat → Bool) (i : Nat) (o : Oper) (L' : List (Nat × Value)) (w' : World) : Prop := StepI P n o (fun L2 w2 => InvP L T (setB S i) L2 w2 ∧ Mem (setB S i) w2) L' w'
/-- for whatever values of the slots that fit -/
def AllP (S : Nat → Bool) (w : World) : PT → (List (Nat × Value) → Prop) → Prop
  | [], K => K []
  | p :: r, K => ∀ v, p.2.2 S v w → AllP S w r fun M => K ((p.2.1, v) :: M)
/-- what has run has all run that it waits for -/
def ClosedI (l : List Oper) (S : Nat → Bool) : Prop := ∀ j o, l[j]? = some o → S j = true → ∀ e ∈ o.after, Region.binds .any e = true → S e.on = true
def StepsP (P : Program) (n : Fr) (L : List (Nat × Value)) (T : PT) (Mu : List Nat) (Mem : (Nat → Bool) → World → Prop) (l : List Oper) : Nat → List Oper → Prop
  | _, [] => True
  | i, o :: r => (∀ S L' w', UniP (T.map fun p => (p.1, p.2.1)) → MonoP Mu T → (∀ S i w1 w2, Mu.elem i = false → From w1 w2 → Mem S w1 → Mem (setB S i) w2) → InvP L T S L' w' → Mem S w' → ClosedI l S → S i = false → EdgesOn S o.after.toList → StepJ P n L T Mem S i o L' w') ∧ StepsP P n L T Mu Mem l (i + 1) r
end
end Go.Proofs.Ytllmocjfllbbfaa

namespace Go.Proofs.Ytllmocjfllbbfaa.SA
open Classical
/-! ### counting -/
noncomputable def cnt : Nat → (Nat → Prop) → Nat
  | 0, _ => 0
  | n + 1, p => cnt n p + if p n then 1 else 0
theorem cnt_le_n (n : Nat) (p : Nat → Prop) : cnt n p ≤ n := by
  induction n with
  | zero => exact Nat.le_refl _
  | succ n ih => unfold cnt; split <;> omega
theorem cnt_mono {n : Nat} {p q : Nat → Prop} (h : ∀ i, i < n → p i → q i) : cnt n p ≤ cnt n q := by
  induction n with
  | zero => exact Nat.le_refl _
  | succ n ih =>
    have ih := ih fun i hi => h i (by omega)
    have := h n (by omega)
    unfold cnt
    by_cases a : p n
    · rw [if_pos a, if_pos (this a)]; omega
    · rw [if_neg a]; omega
theorem cnt_congr {n : Nat} {p q : Nat → Prop} (h : ∀ i, i < n → (p i ↔ q i)) : cnt n p = cnt n q :=
  Nat.le_antisymm (cnt_mono fun i hi => (h i hi).1) (cnt_mono fun i hi => (h i hi).2)
theorem cnt_or {n : Nat} {p q : Nat → Prop} (h : ∀ i, i < n → p i → ¬ q i) : cnt n (fun i => p i ∨ q i) = cnt n p + cnt n q := by
  induction n with
  | zero => rfl
  | succ n ih =>
    have ih := ih fun i hi => h i (by omega)
    have := h n (by omega)
    unfold cnt
    rw [ih]
    by_cases a : p n
    · rw [if_pos a, if_pos (.inl a), if_neg (this a)]; omega
    · by_cases b : q n
      · rw [if_neg a, if_pos b, if_pos (.inr b)]; omega
      · rw [if_neg a, if_neg b, if_neg (fun c => c.elim a b)]; omega
theorem cnt_is {n x : Nat} (hx : x < n) : cnt n (fun i => i = x) = 1 := by
  induction n with
  | zero => omega
  | succ n ih =>
    unfold cnt
    by_cases h : n = x
    · subst h
      rw [if_pos rfl, cnt_congr (q := fun _ => False) (fun i hi => ⟨fun e => by omega, fun e => e.elim⟩)]
      have : ∀ m, cnt m (fun _ => False) = 0 := by
        intro m
        induction m with
        | zero => rfl
        | succ m ih => unfold cnt; rw [ih, if_neg (fun h => h)]
      rw [this]
    · rw [if_neg h, ih (by omega)]
theorem cnt_add {n x : Nat} {p q : Nat → Prop} (hx : x < n) (hp : ¬ p x) (h : ∀ i, i < n → (q i ↔ p i ∨ i = x)) : cnt n q = cnt n p + 1 := by
  rw [cnt_congr h, cnt_or (p := p) (q := fun i => i = x) (fun i _ a b => hp (by subst b; exact a)), cnt_is hx]
theorem cnt_lt {n x : Nat} {p q : Nat → Prop} (h : ∀ i, i < n → p i → q i) (hx : x < n) (hp : ¬ p x) (hq : q x) : cnt n p < cnt n q := by
  have := cnt_add (p := p) (q := fun i => p i ∨ i = x) hx hp (fun i _ => Iff.rfl)
  have h2 : cnt n (fun i => p i ∨ i = x) ≤ cnt n q := cnt_mono fun i hi a => a.elim (h i hi) (fun e => e ▸ hq)
  omega
theorem cnt_full {n : Nat} {p : Nat → Prop} (h : cnt n p = n) : ∀ i, i < n → p i := by
  intro i hi
  by_cases a : p i
  · exact a
  · have h1 := cnt_lt (p := p) (q := fun _ => True) (fun _ _ _ => trivial) hi a trivial
    have := cnt_le_n n (fun _ => True)
    omega
theorem surj {n : Nat} {f : Nat → Nat} (hf : ∀ i, i < n → f i < n) (hi : ∀ i j, i < n → j < n → f i = f j → i = j) : ∀ r, r < n → ∃ i, i < n ∧ f i = r := by
  have key : ∀ m, m ≤ n → cnt n (fun r => ∃ i, i < m ∧ f i = r) = m := by
    intro m
    induction m with
    | zero =>
      intro _
      have := cnt_mono (n := n) (p := fun r => ∃ i, i < 0 ∧ f i = r) (q := fun r => r < 0 ∧ False) (fun r _ ⟨i, h, _⟩ => by omega)
      have h2 : ∀ k, cnt k (fun r => r < 0 ∧ False) = 0 := by
        intro k
        induction k with
        | zero => rfl
        | succ k ih => unfold cnt; rw [ih, if_neg (fun h => h.2)]
      rw [h2] at this
      omega
    | succ m ih =>
      intro hm
      rw [cnt_add (p := fun r => ∃ i, i < m ∧ f i = r) (x := f m) (hf m (by omega)) (fun ⟨i, h1, h2⟩ => by have := hi i m (by omega) (by omega) h2; omega), ih (by omega)]
      intro r _
      constructor
      · rintro ⟨i, h1, h2⟩
        by_cases e : i = m
        · subst e; exact .inr h2.symm
        · exact .inl ⟨i, by omega, h2⟩
      · rintro (⟨i, h1, h2⟩ | h)
        · exact ⟨i, by omega, h2⟩
        · exact ⟨m, by omega, h.symm⟩
  exact cnt_full (key n (Nat.le_refl _))
/-! ### lists of numbers in their order -/
def lx : List Nat → List Nat → Prop
  | [], [] => False
  | [], _ :: _ => True
  | _ :: _, [] => False
  | a :: x, b :: y => a < b ∨ (a = b ∧ lx x y)
theorem lx_irr : ∀ x, ¬ lx x x
  | [], h => h
  | a :: x, h => by
    rcases h with h | ⟨_, h⟩
    · omega
    · exact lx_irr x h
theorem lx_trans : ∀ {x y z : List Nat}, lx x y → lx y z → lx x z
  | [], [], _, h, _ => h.elim
  | [], _ :: _, [], _, h => h.elim
  | [], _ :: _, _ :: _, _, _ => trivial
  | _ :: _, [], _, h, _ => h.elim
  | _ :: _, _ :: _, [], _, h => h.elim
  | a :: x, b :: y, c :: z, h, k => by
    rcases h with h | ⟨rfl, h⟩
    · rcases k with k | ⟨rfl, k⟩
      · exact .inl (by omega)
      · exact .inl h
    · rcases k with k | ⟨rfl, k⟩
      · exact .inl k
      · exact .inr ⟨rfl, lx_trans h k⟩
theorem lx_tri : ∀ {x y : List Nat}, x ≠ y → lx x y ∨ lx y x
  | [], [], h => (h rfl).elim
  | [], _ :: _, _ => .inl trivial
  | _ :: _, [], _ => .inr trivial
  | a :: x, b :: y, h => by
    rcases Nat.lt_trichotomy a b with h1 | rfl | h1
    · exact .inl (.inl h1)
    · rcases lx_tri (x := x) (y := y) (fun e => h (by rw [e])) with h2 | h2
      · exact .inl (.inr ⟨rfl, h2⟩)
      · exact .inr (.inr ⟨rfl, h2⟩)
    · exact .inr (.inl h1)
theorem lx_asymm {x y : List Nat} (h : lx x y) : ¬ lx y x := fun k => lx_irr _ (lx_trans h k)
theorem lx_cons {a : Nat} {x y : List Nat} : lx (a :: x) (a :: y) ↔ lx x y :=
  ⟨fun h => h.elim (fun h => absurd h (Nat.lt_irrefl _)) (fun h => h.2), fun h => .inr ⟨rfl, h⟩⟩
theorem lx_head {a b : Nat} {x y : List Nat} (h : a < b) : lx (a :: x) (b :: y) := .inl h
theorem lx_head_no {a b : Nat} {x y : List Nat} (h : b < a) : ¬ lx (a :: x) (b :: y) := fun k => by
  rcases k with k | ⟨k, _⟩ <;> omega
/-! ### suffixes of a text that ends with its only least symbol -/
structure Txt (n : Nat) (t : Nat → Nat) : Prop where
  pos : 0 < n
  last : t (n - 1) = 0
  more : ∀ i, i + 1 < n → 0 < t i
section
variable {n : Nat} {t : Nat → Nat}
/-- the suffix i is less than the suffix j -/
def sl (n : Nat) (t : Nat → Nat) (i j : Nat) : Prop := ∃ k, (∀ m, m < k → t (i + m) = t (j + m)) ∧ i + k < n ∧ j + k < n ∧ t (i + k) < t (j + k)
theorem sl_iff {i j : Nat} : sl n t i j ↔ (i < n ∧ j < n ∧ t i < t j) ∨ (t i = t j ∧ sl n t (i + 1) (j + 1)) := by
  constructor
  · rintro ⟨k, h1, h2, h3, h4⟩
    cases k with
    | zero => exact .inl ⟨h2, h3, h4⟩
    | succ k =>
      refine .inr ⟨h1 0 (by omega), k, fun m hm => ?_, by omega, by omega, ?_⟩
      · have := h1 (m + 1) (by omega)
        rw [show i + (m + 1) = i + 1 + m by omega, show j + (m + 1) = j + 1 + m by omega] at this
        exact this
      · rw [show i + (k + 1) = i + 1 + k by omega, show j + (k + 1) = j + 1 + k by omega] at h4
        exact h4
  · rintro (⟨h1, h2, h3⟩ | ⟨h, k, h1, h2, h3, h4⟩)
    · exact ⟨0, fun m hm => by omega, h1, h2, h3⟩
    · refine ⟨k + 1, fun m hm => ?_, by omega, by omega, ?_⟩
      · cases m with
        | zero => exact h
        | succ m =>
          rw [show i + (m + 1) = i + 1 + m by omega, show j + (m + 1) = j + 1 + m by omega]
          exact h1 m (by omega)
      · rw [show i + (k + 1) = i + 1 + k by omega, show j + (k + 1) = j + 1 + k by omega]
        exact h4
theorem sl_lt {i j : Nat} (h : sl n t i j) : i < n ∧ j < n := by
  obtain ⟨k, _, h2, h3, _⟩ := h
  omega
theorem sl_irr (i : Nat) : ¬ sl n t i i := fun ⟨_, _, _, _, h⟩ => Nat.lt_irrefl _ h
theorem sl_asymm {i j : Nat} (h : sl n t i j) : ¬ sl n t j i := by
  rintro ⟨k', g1, g2, g3, g4⟩
  obtain ⟨k, h1, h2, h3, h4⟩ := h
  rcases Nat.lt_trichotomy k k' with a | a | a
  · have := g1 k a; omega
  · subst a; omega
  · have := h1 k' a; omega
theorem Txt.zero (h : Txt n t) {i : Nat} (hi : i < n) (h0 : t i = 0) : i = n - 1 := by
  by_cases e : i + 1 < n
  · have := h.more i e; omega
  · omega
theorem sl_tri (h : Txt n t) : ∀ {m i j : Nat}, m = n - i → i < n → j < n → i ≠ j → sl n t i j ∨ sl n t j i := by
  intro m
  induction m with
  | zero => intro i j hm hi; omega
  | succ m ih =>
    intro i j hm hi hj hne
    rcases Nat.lt_trichotomy (t i) (t j) with a | a | a
    · exact .inl (sl_iff.2 (.inl ⟨hi, hj, a⟩))
    · have h1 : i + 1 < n := by
        rcases Nat.lt_or_ge (i + 1) n with b | b
        · exact b
        · have hi0 : i = n - 1 := by omega
          rw [hi0, h.last] at a
          have := h.zero hj a.symm
          omega
      have h2 : j + 1 < n := by
        rcases Nat.lt_or_ge (j + 1) n with b | b
        · exact b
        · have hj0 : j = n - 1 := by omega
          rw [hj0, h.last] at a
          have := h.zero hi a
          omega
      rcases ih (i := i + 1) (j := j + 1) (by omega) h1 h2 (by omega) with b | b
      · exact .inl (sl_iff.2 (.inr ⟨a, b⟩))
      · exact .inr (sl_iff.2 (.inr ⟨a.symm, b⟩))
    · exact .inr (sl_iff.2 (.inl ⟨hj, hi, a⟩))
/-- rising: less than the next one -/
def rz (n : Nat) (t : Nat → Nat) (i : Nat) : Prop := i + 1 = n ∨ sl n t i (i + 1)
theorem rz_last (h : Txt n t) : rz n t (n - 1) := .inl (by have := h.pos; omega)
theorem rz_iff (h : Txt n t) {i : Nat} (hi : i + 1 < n) : rz n t i ↔ t i < t (i + 1) ∨ (t i = t (i + 1) ∧ rz n t (i + 1)) := by
  unfold rz
  constructor
  · rintro (a | a)
    · omega
    · rcases sl_iff.1 a with ⟨_, _, b⟩ | ⟨b, c⟩
      · exact .inl b
      · exact .inr ⟨b, .inr c⟩
  · rintro (a | ⟨a, b⟩)
    · exact .inr (sl_iff.2 (.inl ⟨by omega, hi, a⟩))
    · rcases b with b | b
      · have := h.last
        rw [show n - 1 = i + 1 by omega] at this
        have := h.more i hi
        omega
      · exact .inr (sl_iff.2 (.inr ⟨a, b⟩))
theorem fall_lt (_ : Txt n t) {i : Nat} (hi : i < n) (hf : ¬ rz n t i) : i + 1 < n := by
  rcases Nat.lt_or_ge (i + 1) n with a | a
  · exact a
  · exact absurd (.inl (by omega)) hf
theorem fall_ge (h : Txt n t) {i : Nat} (hi : i < n) (hf : ¬ rz n t i) : t (i + 1) ≤ t i ∧ (t (i + 1) = t i → ¬ rz n t (i + 1)) := by
  have h1 := fall_lt h hi hf
  rw [rz_iff h h1] at hf
  refine ⟨?_, fun e r => hf (.inr ⟨e.symm, r⟩)⟩
  rcases Nat.lt_or_ge (t i) (t (i + 1)) with a | a
  · exact absurd (.inl a) hf
  · exact a
theorem rise_le (h : Txt n t) {i : Nat} (hi : i + 1 < n) (hr : rz n t i) : t i ≤ t (i + 1) ∧ (t i = t (i + 1) → rz n t (i + 1)) := by
  rcases (rz_iff h hi).1 hr with a | ⟨a, b⟩
  · exact ⟨by omega, fun e => by omega⟩
  · exact ⟨by omega, fun _ => b⟩
/-- of equal symbols the falling suffix is less -/
theorem fall_rise (h : Txt n t) : ∀ {m i j : Nat}, m = n - i → i < n → j < n → t i = t j → ¬ rz n t i → rz n t j → sl n t i j := by
  intro m
  induction m with
  | zero => intro i j hm hi; omega
  | succ m ih =>
    intro i j hm hi hj he hf hr
    have h1 := fall_lt h hi hf
    have h2 : j + 1 < n := by
      rcases Nat.lt_or_ge (j + 1) n with b | b
      · exact b
      · have hj0 : j = n - 1 := by omega
        rw [hj0, h.last] at he
        have := h.more i h1
        omega
    obtain ⟨a1, a2⟩ := fall_ge h hi hf
    obtain ⟨b1, b2⟩ := rise_le h h2 hr
    refine sl_iff.2 (.inr ⟨he, ?_⟩)
    rcases Nat.lt_or_ge (t (i + 1)) (t (j + 1)) with c | c
    · exact sl_iff.2 (.inl ⟨h1, h2, c⟩)
    · exact ih (by omega) h1 h2 (by omega) (a2 (by omega)) (b2 (by omega))
end
end Go.Proofs.Ytllmocjfllbbfaa.SA

namespace Go.Proofs.Ytllmocjfllbbfaa.SA
open Classical
section
variable {n : Nat} {t idx : Nat → Nat}
/-- a start: the first of several rising suffixes, not the suffix 0 -/
def lms (n : Nat) (t : Nat → Nat) (i : Nat) : Prop := 0 < i ∧ i < n ∧ rz n t i ∧ ¬ rz n t (i - 1)
/-- what the passes sort by -/
noncomputable def kL (n : Nat) (t idx : Nat → Nat) : Nat → Nat → List Nat
  | 0, _ => []
  | m + 1, i => if rz n t i then [2 * t i + 1, idx i] else 2 * t i :: kL n t idx m (i + 1)
noncomputable def keyL (n : Nat) (t idx : Nat → Nat) (i : Nat) : List Nat := kL n t idx (n - i) i
noncomputable def kS (n : Nat) (t idx : Nat → Nat) : Nat → Nat → List Nat
  | 0, _ => []
  | m + 1, i => if rz n t i then (if i + 1 = n then [1] else (2 * t i + 1) :: kS n t idx m (i + 1)) else kL n t idx (m + 1) i
noncomputable def keyS (n : Nat) (t idx : Nat → Nat) (i : Nat) : List Nat := kS n t idx (n - i) i
theorem keyL_r {i : Nat} (hi : i < n) (h : rz n t i) : keyL n t idx i = [2 * t i + 1, idx i] := by
  unfold keyL
  rw [show n - i = (n - (i + 1)) + 1 by omega]
  unfold kL
  rw [if_pos h]
theorem keyL_f {i : Nat} (hi : i < n) (h : ¬ rz n t i) : keyL n t idx i = 2 * t i :: keyL n t idx (i + 1) := by
  unfold keyL
  rw [show n - i = (n - (i + 1)) + 1 by omega]
  conv => lhs; unfold kL
  rw [if_neg h]
theorem keyS_f {i : Nat} (hi : i < n) (h : ¬ rz n t i) : keyS n t idx i = keyL n t idx i := by
  unfold keyS keyL
  rw [show n - i = (n - (i + 1)) + 1 by omega]
  unfold kS
  rw [if_neg h]
theorem keyS_r {i : Nat} (hi : i + 1 < n) (h : rz n t i) : keyS n t idx i = (2 * t i + 1) :: keyS n t idx (i + 1) := by
  unfold keyS
  rw [show n - i = (n - (i + 1)) + 1 by omega]
  conv => lhs; unfold kS
  rw [if_pos h, if_neg (by omega)]
theorem keyS_last (h : Txt n t) : keyS n t idx (n - 1) = [1] := by
  have := h.pos
  unfold keyS
  rw [show n - (n - 1) = 0 + 1 by omega]
  unfold kS
  rw [if_pos (rz_last h), if_pos (by omega)]
theorem keyS_head (h : Txt n t) {i : Nat} (hi : i < n) (hr : rz n t i) : ∃ x, keyS n t idx i = (2 * t i + 1) :: x := by
  rcases Nat.lt_or_ge (i + 1) n with a | a
  · exact ⟨_, keyS_r a hr⟩
  · obtain rfl : i = n - 1 := by omega
    exact ⟨[], by rw [keyS_last h, h.last]⟩
/-- where the first pass puts starts: what is asked of the order -/
structure Ord (n : Nat) (t idx : Nat → Nat) : Prop where
  inj : ∀ i j, lms n t i → lms n t j → idx i = idx j → i = j
/-- the falling ones, and the starts -/
def FS (n : Nat) (t : Nat → Nat) (i : Nat) : Prop := i < n ∧ (¬ rz n t i ∨ lms n t i)
theorem FS_next (h : Txt n t) {i : Nat} (hi : i < n) (hf : ¬ rz n t i) : FS n t (i + 1) := by
  have h1 := fall_lt h hi hf
  refine ⟨h1, ?_⟩
  by_cases hr : rz n t (i + 1)
  · exact .inr ⟨by omega, h1, hr, by simpa using hf⟩
  · exact .inl hr
theorem FS_lms {i : Nat} (h : FS n t i) (hr : rz n t i) : lms n t i := h.2.elim (fun a => absurd hr a) id
theorem keyL_inj (h : Txt n t) (ho : Ord n t idx) : ∀ {m i j : Nat}, m = n - i → FS n t i → FS n t j → keyL n t idx i = keyL n t idx j → i = j := by
  intro m
  induction m with
  | zero => intro i j hm hi; have := hi.1; omega
  | succ m ih =>
    intro i j hm hi hj he
    by_cases a : rz n t i <;> by_cases b : rz n t j
    · rw [keyL_r hi.1 a, keyL_r hj.1 b] at he
      simp only [List.cons.injEq, and_true] at he
      exact ho.inj i j (FS_lms hi a) (FS_lms hj b) he.2
    · rw [keyL_r hi.1 a, keyL_f hj.1 b] at he
      simp only [List.cons.injEq] at he
      omega
    · rw [keyL_f hi.1 a, keyL_r hj.1 b] at he
      simp only [List.cons.injEq] at he
      omega
    · rw [keyL_f hi.1 a, keyL_f hj.1 b] at he
      simp only [List.cons.injEq] at he
      have := ih (i := i + 1) (j := j + 1) (by omega) (FS_next h hi.1 a) (FS_next h hj.1 b) he.2
      omega
theorem keyS_inj (h : Txt n t) (ho : Ord n t idx) : ∀ {m i j : Nat}, m = n - i → i < n → j < n → keyS n t idx i = keyS n t idx j → i = j := by
  intro m
  induction m with
  | zero => intro i j hm hi; omega
  | succ m ih =>
    intro i j hm hi hj he
    by_cases a : rz n t i <;> by_cases b : rz n t j
    · rcases Nat.lt_or_ge (i + 1) n with a1 | a1
      · rcases Nat.lt_or_ge (j + 1) n with b1 | b1
        · rw [keyS_r a1 a, keyS_r b1 b] at he
          simp only [List.cons.injEq] at he
          have := ih (i := i + 1) (j := j + 1) (by omega) a1 b1 he.2
          omega
        · obtain rfl : j = n - 1 := by omega
          rw [keyS_r a1 a, keyS_last h] at he
          simp only [List.cons.injEq] at he
          have := h.more i a1
          omega
      · obtain rfl : i = n - 1 := by omega
        rcases Nat.lt_or_ge (j + 1) n with b1 | b1
        · rw [keyS_r b1 b, keyS_last h] at he
          simp only [List.cons.injEq] at he
          have := h.more j b1
          omega
        · omega
    · obtain ⟨x, hx⟩ := keyS_head (idx := idx) h hi a
      rw [hx, keyS_f hj b, keyL_f hj b] at he
      simp only [List.cons.injEq] at he
      omega
    · obtain ⟨x, hx⟩ := keyS_head (idx := idx) h hj b
      rw [hx, keyS_f hi a, keyL_f hi a] at he
      simp only [List.cons.injEq] at he
      omega
    · rw [keyS_f hi a, keyS_f hj b] at he
      exact keyL_inj h ho rfl ⟨hi, .inl a⟩ ⟨hj, .inl b⟩ he
/-- the row of a suffix -/
noncomputable def pos (n : Nat) (t idx : Nat → Nat) (i : Nat) : Nat := cnt n fun j => lx (keyS n t idx j) (keyS n t idx i)
/-- how many symbols are less -/
noncomputable def less (n : Nat) (t : Nat → Nat) (c : Nat) : Nat := cnt n fun j => t j < c
theorem less_succ (c : Nat) : less n t (c + 1) = less n t c + cnt n (fun j => t j = c) := by
  unfold less
  rw [← cnt_or (fun i _ a b => by omega)]
  exact cnt_congr fun i _ => by omega
theorem less_mono {c d : Nat} (h : c ≤ d) : less n t c ≤ less n t d := cnt_mono fun i _ a => by omega
theorem pos_lt {i : Nat} (hi : i < n) : pos n t idx i < n := by
  have h1 := cnt_lt (n := n) (p := fun j => lx (keyS n t idx j) (keyS n t idx i)) (q := fun _ => True) (fun _ _ _ => trivial) hi (lx_irr _) trivial
  have := cnt_le_n n (fun _ => True)
  unfold pos
  omega
theorem pos_mono {i j : Nat} (hi : i < n) (h : lx (keyS n t idx i) (keyS n t idx j)) : pos n t idx i < pos n t idx j :=
  cnt_lt (fun _ _ a => lx_trans a h) hi (lx_irr _) h
theorem pos_inj (h : Txt n t) (ho : Ord n t idx) {i j : Nat} (hi : i < n) (hj : j < n) (he : pos n t idx i = pos n t idx j) : i = j := by
  by_cases e : keyS n t idx i = keyS n t idx j
  · exact keyS_inj h ho rfl hi hj e
  · rcases lx_tri e with a | a
    · have := pos_mono hi a; omega
    · have := pos_mono hj a; omega
theorem pos_iff (h : Txt n t) (ho : Ord n t idx) {i j : Nat} (hi : i < n) (hj : j < n) : pos n t idx i < pos n t idx j ↔ lx (keyS n t idx i) (keyS n t idx j) := by
  refine ⟨fun a => ?_, pos_mono hi⟩
  by_cases e : keyS n t idx i = keyS n t idx j
  · have := keyS_inj h ho rfl hi hj e
    subst this
    omega
  · rcases lx_tri e with b | b
    · exact b
    · have := pos_mono hj b; omega
/-- every row has its suffix -/
theorem pos_surj (h : Txt n t) (ho : Ord n t idx) {r : Nat} (hr : r < n) : ∃ i, i < n ∧ pos n t idx i = r :=
  surj (fun _ hi => pos_lt hi) (fun _ _ hi hj e => pos_inj h ho hi hj e) r hr
theorem key_char (h : Txt n t) {i j : Nat} (hi : i < n) (hj : j < n) (hc : t i < t j) : lx (keyS n t idx i) (keyS n t idx j) := by
  by_cases a : rz n t i <;> by_cases b : rz n t j
  · obtain ⟨x, hx⟩ := keyS_head (idx := idx) h hi a
    obtain ⟨y, hy⟩ := keyS_head (idx := idx) h hj b
    rw [hx, hy]; exact lx_head (by omega)
  · obtain ⟨x, hx⟩ := keyS_head (idx := idx) h hi a
    rw [hx, keyS_f hj b, keyL_f hj b]; exact lx_head (by omega)
  · obtain ⟨y, hy⟩ := keyS_head (idx := idx) h hj b
    rw [hy, keyS_f hi a, keyL_f hi a]; exact lx_head (by omega)
  · rw [keyS_f hi a, keyL_f hi a, keyS_f hj b, keyL_f hj b]; exact lx_head (by omega)
theorem key_type (h : Txt n t) {i j : Nat} (hi : i < n) (hj : j < n) (hc : t i = t j) (a : ¬ rz n t i) (b : rz n t j) : lx (keyS n t idx i) (keyS n t idx j) := by
  obtain ⟨y, hy⟩ := keyS_head (idx := idx) h hj b
  rw [hy, keyS_f hi a, keyL_f hi a]; exact lx_head (by omega)
/-- the row of a falling suffix, by its symbol's rows -/
theorem pos_fall (h : Txt n t) {i : Nat} (hi : i < n) (hf : ¬ rz n t i) : pos n t idx i = less n t (t i) + cnt n (fun j => ¬ rz n t j ∧ t j = t i ∧ lx (keyS n t idx j) (keyS n t idx i)) := by
  unfold pos less
  rw [← cnt_or (fun j _ a b => by omega)]
  refine cnt_congr fun j hj => ⟨fun a => ?_, fun a => ?_⟩
  · rcases Nat.lt_trichotomy (t j) (t i) with c | c | c
    · exact .inl c
    · by_cases r : rz n t j
      · exact absurd a (lx_asymm (key_type h hi hj c.symm hf r))
      · exact .inr ⟨r, c, a⟩
    · exact absurd a (lx_asymm (key_char h hi hj c))
  · rcases a with a | ⟨_, _, a⟩
    · exact key_char h hj hi a
    · exact a
/-- the row of a rising suffix -/
theorem pos_rise (h : Txt n t) (ho : Ord n t idx) {i : Nat} (hi : i < n) (hr : rz n t i) : pos n t idx i + 1 + cnt n (fun j => rz n t j ∧ t j = t i ∧ lx (keyS n t idx i) (keyS n t idx j)) = less n t (t i + 1) := by
  have e1 : cnt n (fun j => lx (keyS n t idx j) (keyS n t idx i) ∨ j = i) = pos n t idx i + 1 := by
    unfold pos
    exact cnt_add hi (lx_irr _) fun _ _ => Iff.rfl
  rw [← e1, ← cnt_or]
  · unfold less
    refine cnt_congr fun j hj => ⟨fun a => ?_, fun a => ?_⟩
    · rcases a with (a | a) | ⟨_, a, _⟩
      · rcases Nat.lt_or_ge (t i) (t j) with c | c
        · exact absurd a (lx_asymm (key_char h hi hj c))
        · omega
      · subst a; omega
      · omega
    · rcases Nat.lt_or_ge (t j) (t i) with c | c
      · exact .inl (.inl (key_char h hj hi c))
      · have hc : t j = t i := by omega
        by_cases r : rz n t j
        · by_cases e : j = i
          · exact .inl (.inr e)
          · rcases lx_tri (fun e2 => e (keyS_inj h ho rfl hj hi e2)) with b | b
            · exact .inl (.inl b)
            · exact .inr ⟨r, hc, b⟩
        · exact .inl (.inl (key_type h hj hi hc r hr))
  · intro j hj a ⟨_, _, b⟩
    rcases a with a | a
    · exact lx_asymm a b
    · subst a; exact lx_irr _ b
end
end Go.Proofs.Ytllmocjfllbbfaa.SA

namespace Go.Proofs.Ytllmocjfllbbfaa.SA
open Classical
section
variable {n : Nat} {t idx : Nat → Nat}
/-- where the first pass puts a start -/
noncomputable def pos1 (n : Nat) (t idx : Nat → Nat) (s : Nat) : Nat := less n t (t s + 1) - 1 - cnt n fun x => lms n t x ∧ t x = t s ∧ idx s < idx x
theorem less_same {c : Nat} {p : Nat → Prop} {x : Nat} (h : ∀ i, i < n → p i → t i = c) (hx : x < n) (hp : ¬ p x) (hc : t x = c) : cnt n p + 1 ≤ cnt n (fun j => t j = c) := cnt_lt h hx hp hc
theorem pos1_eq {s : Nat} (hs : lms n t s) : pos1 n t idx s + 1 + cnt n (fun x => lms n t x ∧ t x = t s ∧ idx s < idx x) = less n t (t s + 1) ∧ less n t (t s) ≤ pos1 n t idx s := by
  have h1 := less_same (c := t s) (p := fun x => lms n t x ∧ t x = t s ∧ idx s < idx x) (x := s) (fun i _ a => a.2.1) hs.2.1 (fun a => Nat.lt_irrefl _ a.2.2) rfl
  have h2 := less_succ (n := n) (t := t) (t s)
  unfold pos1
  omega
theorem fall_row (h : Txt n t) {i : Nat} (hi : i < n) (hf : ¬ rz n t i) : pos n t idx i < less n t (t i) + cnt n (fun j => ¬ rz n t j ∧ t j = t i) := by
  rw [pos_fall h hi hf]
  have := cnt_lt (n := n) (p := fun j => ¬ rz n t j ∧ t j = t i ∧ lx (keyS n t idx j) (keyS n t idx i)) (q := fun j => ¬ rz n t j ∧ t j = t i) (x := i) (fun j _ a => ⟨a.1, a.2.1⟩) hi (fun a => lx_irr _ a.2.2) ⟨hf, rfl⟩
  omega
theorem fall_top (c : Nat) : cnt n (fun j => ¬ rz n t j ∧ t j = c) ≤ cnt n (fun j => t j = c) := cnt_mono fun _ _ a => a.2
theorem fall_lms (c : Nat) : cnt n (fun j => ¬ rz n t j ∧ t j = c) + cnt n (fun j => lms n t j ∧ t j = c) ≤ cnt n (fun j => t j = c) := by
  rw [← cnt_or (fun j _ a b => a.1 b.1.2.2.1)]
  exact cnt_mono fun j _ a => a.elim (fun a => a.2) (fun a => a.2)
/-- where the second pass has a falling suffix, or a start -/
noncomputable def p2 (n : Nat) (t idx : Nat → Nat) (i : Nat) : Nat := if rz n t i then pos1 n t idx i else pos n t idx i
theorem p2_r {i : Nat} (h : rz n t i) : p2 n t idx i = pos1 n t idx i := if_pos h
theorem p2_f {i : Nat} (h : ¬ rz n t i) : p2 n t idx i = pos n t idx i := if_neg h
theorem p2_mono (h : Txt n t) {i j : Nat} (hi : FS n t i) (hj : FS n t j) (hk : lx (keyL n t idx i) (keyL n t idx j)) : p2 n t idx i < p2 n t idx j := by
  have m1 := less_succ (n := n) (t := t) (t i)
  have m2 := less_succ (n := n) (t := t) (t j)
  have m3 := fall_top (n := n) (t := t) (t i)
  by_cases a : rz n t i <;> by_cases b : rz n t j
  · have li := FS_lms hi a
    have lj := FS_lms hj b
    obtain ⟨e1, e2⟩ := pos1_eq (idx := idx) li
    obtain ⟨e3, e4⟩ := pos1_eq (idx := idx) lj
    rw [keyL_r hi.1 a, keyL_r hj.1 b] at hk
    rw [p2_r a, p2_r b]
    rcases hk with hk | ⟨hk, hk2⟩
    · have := less_mono (n := n) (t := t) (show t i + 1 ≤ t j by omega)
      omega
    · have hc : t i = t j := by omega
      have hx : idx i < idx j := by
        rcases hk2 with c | ⟨_, c⟩
        · exact c
        · exact c.elim
      have := cnt_lt (n := n) (p := fun x => lms n t x ∧ t x = t j ∧ idx j < idx x) (q := fun x => lms n t x ∧ t x = t i ∧ idx i < idx x) (x := j) (fun x _ a => ⟨a.1, by omega, by omega⟩) hj.1 (fun a => Nat.lt_irrefl _ a.2.2) ⟨lj, by omega, hx⟩
      rw [hc] at e1 this
      omega
  · have li := FS_lms hi a
    obtain ⟨e1, e2⟩ := pos1_eq (idx := idx) li
    rw [keyL_r hi.1 a, keyL_f hj.1 b] at hk
    rw [p2_r a, p2_f b, pos_fall h hj.1 b]
    have hc : t i < t j := by
      rcases hk with hk | ⟨hk, _⟩ <;> omega
    have := less_mono (n := n) (t := t) (show t i + 1 ≤ t j by omega)
    omega
  · have lj := FS_lms hj b
    obtain ⟨e3, e4⟩ := pos1_eq (idx := idx) lj
    have f1 := fall_row (idx := idx) h hi.1 a
    rw [keyL_f hi.1 a, keyL_r hj.1 b] at hk
    rw [p2_f a, p2_r b]
    rcases Nat.lt_or_ge (t i) (t j) with c | c
    · have := less_mono (n := n) (t := t) (show t i + 1 ≤ t j by omega)
      omega
    · have hc : t i = t j := by
        rcases hk with hk | ⟨hk, _⟩ <;> omega
      have f2 := fall_lms (n := n) (t := t) (t j)
      have f3 := cnt_lt (n := n) (p := fun x => lms n t x ∧ t x = t j ∧ idx j < idx x) (q := fun x => lms n t x ∧ t x = t j) (x := j) (fun x _ a => ⟨a.1, a.2.1⟩) hj.1 (fun a => Nat.lt_irrefl _ a.2.2) ⟨lj, rfl⟩
      rw [hc] at f1
      omega
  · rw [p2_f a, p2_f b]
    rw [← keyS_f hi.1 a, ← keyS_f hj.1 b] at hk
    exact pos_mono hi.1 hk
theorem p2_inj (h : Txt n t) (ho : Ord n t idx) {i j : Nat} (hi : FS n t i) (hj : FS n t j) (he : p2 n t idx i = p2 n t idx j) : i = j := by
  by_cases e : keyL n t idx i = keyL n t idx j
  · exact keyL_inj h ho rfl hi hj e
  · rcases lx_tri e with a | a
    · have := p2_mono h hi hj a; omega
    · have := p2_mono h hj hi a; omega
theorem p2_iff (h : Txt n t) (ho : Ord n t idx) {i j : Nat} (hi : FS n t i) (hj : FS n t j) : p2 n t idx i < p2 n t idx j ↔ lx (keyL n t idx i) (keyL n t idx j) := by
  refine ⟨fun a => ?_, p2_mono h hi hj⟩
  by_cases e : keyL n t idx i = keyL n t idx j
  · have := keyL_inj h ho rfl hi hj e
    subst this
    omega
  · rcases lx_tri e with b | b
    · exact b
    · have := p2_mono h hj hi b; omega
theorem pos1_lt {s : Nat} (hs : lms n t s) : pos1 n t idx s < n := by
  obtain ⟨e1, _⟩ := pos1_eq (idx := idx) hs
  have := cnt_le_n n (fun j => t j < t s + 1)
  unfold less at e1
  omega
theorem keyL_step (h : Txt n t) : ∀ {m j : Nat}, m = n - j → j < n → ¬ rz n t j → lx (keyL n t idx (j + 1)) (keyL n t idx j) := by
  intro m
  induction m with
  | zero => intro j hm hj; omega
  | succ m ih =>
    intro j hm hj hf
    have h1 := fall_lt h hj hf
    obtain ⟨a1, a2⟩ := fall_ge h hj hf
    rw [keyL_f hj hf]
    by_cases r : rz n t (j + 1)
    · rw [keyL_r h1 r]
      refine lx_head ?_
      have : t (j + 1) ≠ t j := fun e => a2 e r
      omega
    · have hi := ih (j := j + 1) (by omega) h1 r
      rcases Nat.lt_or_ge (t (j + 1)) (t j) with c | c
      · rw [keyL_f h1 r]; exact lx_head (by omega)
      · have e : t j = t (j + 1) := by omega
        rw [e]
        conv => arg 1; rw [keyL_f h1 r]
        exact lx_cons.2 hi
theorem keyS_step (h : Txt n t) : ∀ {m j : Nat}, m = n - j → j + 1 < n → rz n t j → lx (keyS n t idx j) (keyS n t idx (j + 1)) := by
  intro m
  induction m with
  | zero => intro j hm hj; omega
  | succ m ih =>
    intro j hm hj hr
    obtain ⟨a1, a2⟩ := rise_le h hj hr
    rcases Nat.lt_or_ge (t j) (t (j + 1)) with c | c
    · exact key_char h (by omega) hj c
    · have e : t j = t (j + 1) := by omega
      have r2 := a2 e
      have h2 : j + 1 + 1 < n := by
        rcases Nat.lt_or_ge (j + 1 + 1) n with b | b
        · exact b
        · have hl := h.last
          rw [show n - 1 = j + 1 by omega] at hl
          have := h.more j hj
          omega
      have hi := ih (j := j + 1) (by omega) h2 r2
      rw [keyS_r hj hr, e]
      conv => arg 2; rw [keyS_r h2 r2]
      exact lx_cons.2 hi
/-! ### the passes -/
def upd (f : Nat → Int) (k : Nat) (v : Int) : Nat → Int := fun x => if x = k then v else f x
theorem upd_same (f : Nat → Int) (k : Nat) (v : Int) : upd f k v k = v := if_pos rfl
theorem upd_ne (f : Nat → Int) {k x : Nat} (v : Int) (h : x ≠ k) : upd f k v x = f x := if_neg h
/-- the first pass, behind the starts whose numbers in the order are at least q -/
structure Inv1 (n : Nat) (t idx : Nat → Nat) (q : Nat) (xs ts : Nat → Int) : Prop where
  there : ∀ s, lms n t s → q ≤ idx s → xs (pos1 n t idx s) = s
  none : ∀ x, x < n → (∀ s, lms n t s → q ≤ idx s → pos1 n t idx s ≠ x) → xs x = -1
  tails : ∀ c, ts c = (less n t (c + 1) : Nat) - (cnt n (fun s => lms n t s ∧ t s = c ∧ q ≤ idx s) : Nat)
theorem cnt_none {p : Nat → Prop} (h : ∀ i, i < n → ¬ p i) : cnt n p = 0 := by
  have h1 := cnt_mono (n := n) (p := p) (q := fun _ => False) (fun i hi a => h i hi a)
  have h2 : ∀ k, cnt k (fun _ => False) = 0 := by
    intro k
    induction k with
    | zero => rfl
    | succ k ih => unfold cnt; rw [ih, if_neg (fun h => h)]
  rw [h2] at h1
  omega
theorem inv1_start {q : Nat} (hq : ∀ s, lms n t s → idx s < q) : Inv1 n t idx q (fun _ => -1) (fun c => (less n t (c + 1) : Nat)) := by
  refine ⟨fun s hs h => ?_, fun _ _ _ => rfl, fun c => ?_⟩
  · have := hq s hs; omega
  · have := cnt_none (n := n) (p := fun s => lms n t s ∧ t s = c ∧ q ≤ idx s) (fun i _ a => by have := hq i a.1; omega)
    simp only [this]
    omega
theorem inv1_put (h : Txt n t) (ho : Ord n t idx) {q s : Nat} {xs ts : Nat → Int} (hI : Inv1 n t idx (q + 1) xs ts) (hs : lms n t s) (hq : idx s = q) :
    ts (t s) - 1 = (pos1 n t idx s : Nat) ∧ Inv1 n t idx q (upd xs (pos1 n t idx s) s) (upd ts (t s) (ts (t s) - 1)) := by
  obtain ⟨e1, e2⟩ := pos1_eq (idx := idx) hs
  have e3 := hI.tails (t s)
  have e4 : cnt n (fun x => lms n t x ∧ t x = t s ∧ q + 1 ≤ idx x) = cnt n (fun x => lms n t x ∧ t x = t s ∧ idx s < idx x) := cnt_congr fun x _ => by rw [hq]; exact ⟨fun a => ⟨a.1, a.2.1, by omega⟩, fun a => ⟨a.1, a.2.1, by omega⟩⟩
  have p1 : ∀ s', lms n t s' → pos1 n t idx s' = pos1 n t idx s → s' = s := fun s' h' he => p2_inj h ho ⟨h'.2.1, .inr h'⟩ ⟨hs.2.1, .inr hs⟩ (by rw [p2_r h'.2.2.1, p2_r hs.2.2.1, he])
  refine ⟨by omega, fun s' h' hq' => ?_, fun x hx hn => ?_, fun c => ?_⟩
  · by_cases e : pos1 n t idx s' = pos1 n t idx s
    · rw [e, upd_same, p1 s' h' e]
    · rw [upd_ne _ _ e]
      refine hI.there s' h' ?_
      rcases Nat.lt_or_ge q (idx s') with a | a
      · exact a
      · exact absurd (congrArg _ (ho.inj s' s h' hs (by omega))) e
  · have hne := hn s hs (by omega)
    rw [upd_ne _ _ (Ne.symm hne)]
    exact hI.none x hx fun s' h' hq' => hn s' h' (by omega)
  · by_cases e : c = t s
    · subst e
      rw [upd_same, e3]
      have := cnt_add (n := n) (p := fun x => lms n t x ∧ t x = t s ∧ q + 1 ≤ idx x) (q := fun x => lms n t x ∧ t x = t s ∧ q ≤ idx x) (x := s) hs.2.1 (fun a => by omega) (fun i hi => ⟨fun a => by
        rcases Nat.lt_or_ge q (idx i) with b | b
        · exact .inl ⟨a.1, a.2.1, b⟩
        · exact .inr (ho.inj i s a.1 hs (by omega)), fun a => a.elim (fun a => ⟨a.1, a.2.1, by omega⟩) (fun a => by subst a; exact ⟨hs, rfl, by omega⟩)⟩)
      omega
    · rw [upd_ne _ _ e, hI.tails c]
      have : cnt n (fun x => lms n t x ∧ t x = c ∧ q + 1 ≤ idx x) = cnt n (fun x => lms n t x ∧ t x = c ∧ q ≤ idx x) := cnt_congr fun i _ => ⟨fun a => ⟨a.1, a.2.1, by omega⟩, fun a => ⟨a.1, a.2.1, by
        rcases Nat.lt_or_ge q (idx i) with b | b
        · exact b
        · have := ho.inj i s a.1 hs (by omega)
          subst this
          exact absurd a.2.1.symm e⟩⟩
      rw [this]
/-- the second pass, at row r -/
structure Inv2 (n : Nat) (t idx : Nat → Nat) (r : Nat) (xs hs : Nat → Int) : Prop where
  fall : ∀ i, i < n → ¬ rz n t i → p2 n t idx (i + 1) < r → xs (pos n t idx i) = i
  starts : ∀ s, lms n t s → xs (pos1 n t idx s) = s
  none : ∀ x, x < n → (∀ i, i < n → ¬ rz n t i → p2 n t idx (i + 1) < r → pos n t idx i ≠ x) → (∀ s, lms n t s → pos1 n t idx s ≠ x) → xs x = -1
  heads : ∀ c, hs c = (less n t c : Nat) + (cnt n (fun i => ¬ rz n t i ∧ t i = c ∧ p2 n t idx (i + 1) < r) : Nat)
theorem inv2_start {xs ts : Nat → Int} (hI : Inv1 n t idx 0 xs ts) : Inv2 n t idx 0 xs (fun c => (less n t c : Nat)) := by
  refine ⟨fun i _ _ h => by omega, fun s hs => hI.there s hs (Nat.zero_le _), fun x hx _ h => hI.none x hx fun s hs _ => h s hs, fun c => ?_⟩
  have := cnt_none (n := n) (p := fun i => ¬ rz n t i ∧ t i = c ∧ p2 n t idx (i + 1) < 0) (fun i _ a => by omega)
  rw [this]
  omega
theorem inv2_at (h : Txt n t) {r : Nat} {xs hs : Nat → Int} (hI : Inv2 n t idx r xs hs) (hr : r < n) :
    (∃ j, FS n t j ∧ p2 n t idx j = r ∧ xs r = j) ∨ (xs r = -1 ∧ ∀ j, FS n t j → p2 n t idx j ≠ r) := by
  by_cases e : ∃ j, FS n t j ∧ p2 n t idx j = r
  · obtain ⟨j, hj, rfl⟩ := e
    refine .inl ⟨j, hj, rfl, ?_⟩
    by_cases a : rz n t j
    · rw [p2_r a]; exact hI.starts j (FS_lms hj a)
    · have := hI.fall j hj.1 a (p2_mono h (FS_next h hj.1 a) hj (keyL_step h rfl hj.1 a))
      rw [p2_f a]; exact this
  · have hno : ∀ j, FS n t j → p2 n t idx j ≠ r := fun j hj he => e ⟨j, hj, he⟩
    refine .inr ⟨hI.none r hr (fun i hi hf _ he => hno i ⟨hi, .inl hf⟩ (by rw [p2_f hf, he])) (fun s hs he => hno s ⟨hs.2.1, .inr hs⟩ (by rw [p2_r hs.2.2.1, he])), hno⟩
theorem inv2_skip {r : Nat} {xs hs : Nat → Int} (hI : Inv2 n t idx r xs hs) (hno : ∀ i, i < n → ¬ rz n t i → p2 n t idx (i + 1) ≠ r) : Inv2 n t idx (r + 1) xs hs := by
  refine ⟨fun i hi hf hp => hI.fall i hi hf (by have := hno i hi hf; omega), hI.starts, fun x hx h1 h2 => hI.none x hx (fun i hi hf hp => h1 i hi hf (by omega)) h2, fun c => ?_⟩
  rw [hI.heads c, cnt_congr (p := fun i => ¬ rz n t i ∧ t i = c ∧ p2 n t idx (i + 1) < r) (q := fun i => ¬ rz n t i ∧ t i = c ∧ p2 n t idx (i + 1) < r + 1)]
  exact fun i hi => ⟨fun a => ⟨a.1, a.2.1, by omega⟩, fun a => ⟨a.1, a.2.1, by have := hno i hi a.1; omega⟩⟩
theorem inv2_put (h : Txt n t) (ho : Ord n t idx) {r i : Nat} {xs hs : Nat → Int} (hI : Inv2 n t idx r xs hs) (hi : i < n) (hf : ¬ rz n t i) (hp : p2 n t idx (i + 1) = r) :
    hs (t i) = (pos n t idx i : Nat) ∧ Inv2 n t idx (r + 1) (upd xs (pos n t idx i) i) (upd hs (t i) (hs (t i) + 1)) := by
  have e1 := hI.heads (t i)
  have e2 := pos_fall (idx := idx) h hi hf
  have e3 : cnt n (fun j => ¬ rz n t j ∧ t j = t i ∧ p2 n t idx (j + 1) < r) = cnt n (fun j => ¬ rz n t j ∧ t j = t i ∧ lx (keyS n t idx j) (keyS n t idx i)) := by
    refine cnt_congr fun j hj => and_congr_right fun a => and_congr_right fun b => ?_
    rw [← hp, p2_iff h ho (FS_next h hj a) (FS_next h hi hf), keyS_f hj a, keyS_f hi hf, keyL_f hj a, keyL_f hi hf, b, lx_cons]
  have pin : ∀ j, j < n → pos n t idx j = pos n t idx i → j = i := fun j hj he => pos_inj h ho hj hi he
  have pnx : ∀ j, j < n → ¬ rz n t j → p2 n t idx (j + 1) = r → j = i := fun j hj a he => by
    have := p2_inj h ho (FS_next h hj a) (FS_next h hi hf) (by rw [he, hp])
    omega
  refine ⟨by omega, fun j hj a hq => ?_, fun s hs => ?_, fun x hx h1 h2 => ?_, fun c => ?_⟩
  · by_cases e : j = i
    · subst e; exact upd_same _ _ _
    · rw [upd_ne _ _ (fun e2 => e (pin j hj e2))]
      exact hI.fall j hj a (by
        have : p2 n t idx (j + 1) ≠ r := fun e2 => e (pnx j hj a e2)
        omega)
  · have : pos1 n t idx s ≠ pos n t idx i := fun e => by
      have := p2_inj h ho ⟨hs.2.1, .inr hs⟩ ⟨hi, .inl hf⟩ (by rw [p2_r hs.2.2.1, p2_f hf, e])
      subst this
      exact hf hs.2.2.1
    rw [upd_ne _ _ this]
    exact hI.starts s hs
  · rw [upd_ne _ _ (Ne.symm (h1 i hi hf (by omega)))]
    exact hI.none x hx (fun j hj a hq => h1 j hj a (by omega)) h2
  · by_cases e : c = t i
    · subst e
      rw [upd_same, e1, cnt_add (n := n) (p := fun j => ¬ rz n t j ∧ t j = t i ∧ p2 n t idx (j + 1) < r) (q := fun j => ¬ rz n t j ∧ t j = t i ∧ p2 n t idx (j + 1) < r + 1) (x := i) hi (fun a => by omega)]
      · omega
      · intro j hj
        constructor
        · rintro ⟨a, b, c⟩
          by_cases e2 : j = i
          · exact .inr e2
          · have : p2 n t idx (j + 1) ≠ r := fun e3 => e2 (pnx j hj a e3)
            exact .inl ⟨a, b, by omega⟩
        · rintro (⟨a, b, c⟩ | rfl)
          · exact ⟨a, b, by omega⟩
          · exact ⟨hf, rfl, by omega⟩
    · rw [upd_ne _ _ e, hI.heads c, cnt_congr (p := fun i => ¬ rz n t i ∧ t i = c ∧ p2 n t idx (i + 1) < r) (q := fun i => ¬ rz n t i ∧ t i = c ∧ p2 n t idx (i + 1) < r + 1)]
      exact fun j hj => ⟨fun a => ⟨a.1, a.2.1, by omega⟩, fun a => ⟨a.1, a.2.1, by
        have : p2 n t idx (j + 1) ≠ r := fun e3 => by
          have := pnx j hj a.1 e3
          subst this
          exact e a.2.1.symm
        omega⟩⟩
/-- the third pass, behind the rows from r on -/
structure Inv3 (n : Nat) (t idx : Nat → Nat) (r : Nat) (xs ts : Nat → Int) : Prop where
  fall : ∀ i, i < n → ¬ rz n t i → xs (pos n t idx i) = i
  rise : ∀ i, i + 1 < n → rz n t i → r ≤ pos n t idx (i + 1) → xs (pos n t idx i) = i
  last : xs (pos n t idx (n - 1)) = (n - 1 : Nat)
  tails : ∀ c, ts c = (less n t (c + 1) : Nat) - (cnt n (fun i => i + 1 < n ∧ rz n t i ∧ t i = c ∧ r ≤ pos n t idx (i + 1)) : Nat)
theorem lms_last (h : Txt n t) (h2 : 2 ≤ n) : lms n t (n - 1) := by
  refine ⟨by omega, by omega, rz_last h, fun hr => ?_⟩
  have h3 : n - 1 - 1 + 1 < n := by omega
  have := (rise_le h h3 hr).1
  rw [show n - 1 - 1 + 1 = n - 1 by omega, h.last] at this
  have := h.more (n - 1 - 1) h3
  omega
theorem less_one (h : Txt n t) : less n t 1 = 1 := by
  unfold less
  rw [cnt_congr (q := fun i => i = n - 1)]
  · exact cnt_is (by have := h.pos; omega)
  · exact fun i hi => ⟨fun a => h.zero hi (by omega), fun a => by rw [a, h.last]; omega⟩
theorem pos_last (h : Txt n t) (h2 : 2 ≤ n) : pos n t idx (n - 1) = 0 ∧ pos1 n t idx (n - 1) = 0 := by
  constructor
  · unfold pos
    refine cnt_none fun i hi a => ?_
    rw [keyS_last h] at a
    by_cases e : i = n - 1
    · rw [e, keyS_last h] at a; exact lx_irr _ a
    · have hm := h.more i (by omega)
      by_cases r : rz n t i
      · obtain ⟨x, hx⟩ := keyS_head (idx := idx) h hi r
        rw [hx] at a
        exact lx_head_no (by omega) a
      · rw [keyS_f hi r, keyL_f hi r] at a
        exact lx_head_no (by omega) a
  · obtain ⟨e1, _⟩ := pos1_eq (idx := idx) (lms_last h h2)
    rw [h.last, Nat.zero_add, less_one h] at e1
    omega
theorem inv3_start (h : Txt n t) (h2 : 2 ≤ n) {xs hs : Nat → Int} (hI : Inv2 n t idx n xs hs) : Inv3 n t idx n xs (fun c => (less n t (c + 1) : Nat)) := by
  refine ⟨fun i hi hf => hI.fall i hi hf ?_, fun i hi _ hp => ?_, ?_, fun c => ?_⟩
  · have hn := FS_next h hi hf
    by_cases r : rz n t (i + 1)
    · rw [p2_r r]; exact pos1_lt (FS_lms hn r)
    · rw [p2_f r]; exact pos_lt hn.1
  · have := pos_lt (idx := idx) (t := t) hi; omega
  · have := hI.starts _ (lms_last h h2)
    obtain ⟨a, b⟩ := pos_last (idx := idx) h h2
    rw [b] at this
    rw [a]; exact this
  · have := cnt_none (n := n) (p := fun i => i + 1 < n ∧ rz n t i ∧ t i = c ∧ n ≤ pos n t idx (i + 1)) (fun i _ a => by have := pos_lt (idx := idx) (t := t) a.1; omega)
    simp only [this]
    omega
theorem inv3_at (h : Txt n t) (ho : Ord n t idx) {r : Nat} {xs ts : Nat → Int} (hI : Inv3 n t idx (r + 1) xs ts) (hr : r < n) : ∃ j, j < n ∧ pos n t idx j = r ∧ xs r = j := by
  obtain ⟨j, hj, rfl⟩ := pos_surj h ho hr
  refine ⟨j, hj, rfl, ?_⟩
  by_cases a : rz n t j
  · rcases Nat.lt_or_ge (j + 1) n with b | b
    · exact hI.rise j b a (pos_mono hj (keyS_step h rfl b a))
    · obtain rfl : j = n - 1 := by omega
      exact hI.last
  · exact hI.fall j hj a
theorem inv3_skip {r : Nat} {xs ts : Nat → Int} (hI : Inv3 n t idx (r + 1) xs ts) (hno : ∀ i, i + 1 < n → rz n t i → pos n t idx (i + 1) ≠ r) : Inv3 n t idx r xs ts := by
  refine ⟨hI.fall, fun i hi hr hp => hI.rise i hi hr (by have := hno i hi hr; omega), hI.last, fun c => ?_⟩
  rw [hI.tails c, cnt_congr (p := fun i => i + 1 < n ∧ rz n t i ∧ t i = c ∧ r + 1 ≤ pos n t idx (i + 1)) (q := fun i => i + 1 < n ∧ rz n t i ∧ t i = c ∧ r ≤ pos n t idx (i + 1))]
  exact fun i hi => ⟨fun a => ⟨a.1, a.2.1, a.2.2.1, by omega⟩, fun a => ⟨a.1, a.2.1, a.2.2.1, by have := hno i a.1 a.2.1; omega⟩⟩
theorem inv3_put (h : Txt n t) (ho : Ord n t idx) {r i : Nat} {xs ts : Nat → Int} (hI : Inv3 n t idx (r + 1) xs ts) (hi : i + 1 < n) (hz : rz n t i) (hp : pos n t idx (i + 1) = r) :
    ts (t i) - 1 = (pos n t idx i : Nat) ∧ Inv3 n t idx r (upd xs (pos n t idx i) i) (upd ts (t i) (ts (t i) - 1)) := by
  have hin : i < n := by omega
  have e1 := hI.tails (t i)
  have e2 := pos_rise (idx := idx) h ho hin hz
  have nl : ∀ j, j < n → t j = t i → j + 1 < n := fun j hj he => by
    rcases Nat.lt_or_ge (j + 1) n with b | b
    · exact b
    · obtain rfl : j = n - 1 := by omega
      rw [h.last] at he
      have := h.more i hi
      omega
  have e3 : cnt n (fun j => j + 1 < n ∧ rz n t j ∧ t j = t i ∧ r + 1 ≤ pos n t idx (j + 1)) = cnt n (fun j => rz n t j ∧ t j = t i ∧ lx (keyS n t idx i) (keyS n t idx j)) := by
    refine cnt_congr fun j hj => ⟨fun ⟨a, b, c, d⟩ => ⟨b, c, ?_⟩, fun ⟨b, c, d⟩ => ⟨nl j hj c, b, c, ?_⟩⟩
    · rw [keyS_r hi hz, keyS_r a b, c, lx_cons, ← pos_iff h ho hi a]
      omega
    · have a := nl j hj c
      rw [keyS_r hi hz, keyS_r a b, c, lx_cons, ← pos_iff h ho hi a] at d
      omega
  have pin : ∀ j, j < n → pos n t idx j = pos n t idx i → j = i := fun j hj he => pos_inj h ho hj hin he
  have pnx : ∀ j, j + 1 < n → pos n t idx (j + 1) = r → j = i := fun j hj he => by
    have := pos_inj h ho hj hi (by rw [he, hp])
    omega
  refine ⟨by omega, fun j hj a => ?_, fun j hj a hq => ?_, ?_, fun c => ?_⟩
  · rw [upd_ne _ _ (fun e => by have := pin j hj e; subst this; exact a hz)]
    exact hI.fall j hj a
  · by_cases e : j = i
    · subst e; exact upd_same _ _ _
    · rw [upd_ne _ _ (fun e2 => e (pin j (by omega) e2))]
      exact hI.rise j hj a (by
        have : pos n t idx (j + 1) ≠ r := fun e2 => e (pnx j hj e2)
        omega)
  · rw [upd_ne _ _ (fun e => by have := pin _ (by omega) e; omega)]
    exact hI.last
  · by_cases e : c = t i
    · subst e
      rw [upd_same, e1, cnt_add (n := n) (p := fun j => j + 1 < n ∧ rz n t j ∧ t j = t i ∧ r + 1 ≤ pos n t idx (j + 1)) (q := fun j => j + 1 < n ∧ rz n t j ∧ t j = t i ∧ r ≤ pos n t idx (j + 1)) (x := i) hin (fun a => by omega)]
      · omega
      · intro j hj
        constructor
        · rintro ⟨a, b, c, d⟩
          by_cases e2 : j = i
          · exact .inr e2
          · have : pos n t idx (j + 1) ≠ r := fun e3 => e2 (pnx j a e3)
            exact .inl ⟨a, b, c, by omega⟩
        · rintro (⟨a, b, c, d⟩ | rfl)
          · exact ⟨a, b, c, by omega⟩
          · exact ⟨hi, hz, rfl, by omega⟩
    · rw [upd_ne _ _ e, hI.tails c, cnt_congr (p := fun i => i + 1 < n ∧ rz n t i ∧ t i = c ∧ r + 1 ≤ pos n t idx (i + 1)) (q := fun i => i + 1 < n ∧ rz n t i ∧ t i = c ∧ r ≤ pos n t idx (i + 1))]
      exact fun j hj => ⟨fun a => ⟨a.1, a.2.1, a.2.2.1, by omega⟩, fun a => ⟨a.1, a.2.1, a.2.2.1, by
        have : pos n t idx (j + 1) ≠ r := fun e3 => by
          have := pnx j a.1 e3
          subst this
          exact e a.2.2.1.symm
        omega⟩⟩
/-- behind the passes every suffix is in its row -/
theorem inv3_end {xs ts : Nat → Int} (hI : Inv3 n t idx 0 xs ts) : ∀ i, i < n → xs (pos n t idx i) = i := fun i hi => by
  by_cases a : rz n t i
  · rcases Nat.lt_or_ge (i + 1) n with b | b
    · exact hI.rise i b a (Nat.zero_le _)
    · obtain rfl : i = n - 1 := by omega
      exact hI.last
  · exact hI.fall i hi a
end
end Go.Proofs.Ytllmocjfllbbfaa.SA

namespace Go.Proofs.Ytllmocjfllbbfaa.SA
open Classical
section
variable {n : Nat} {t idx : Nat → Nat}
theorem sl_trans {i j k : Nat} (h : sl n t i j) (g : sl n t j k) : sl n t i k := by
  obtain ⟨a, h1, h2, h3, h4⟩ := h
  obtain ⟨b, g1, g2, g3, g4⟩ := g
  rcases Nat.lt_trichotomy a b with c | c | c
  · exact ⟨a, fun m hm => (h1 m hm).trans (g1 m (by omega)), h2, by omega, by rw [← g1 a c]; exact h4⟩
  · subst c
    exact ⟨a, fun m hm => (h1 m hm).trans (g1 m hm), h2, g3, by omega⟩
  · exact ⟨b, fun m hm => (h1 m (by omega)).trans (g1 m hm), by omega, g3, by rw [h1 b c]; exact g4⟩
/-! ### starts in the order of their suffixes -/
def Sorted (n : Nat) (t idx : Nat → Nat) : Prop := ∀ i j, lms n t i → lms n t j → sl n t i j → idx i < idx j
theorem keyL_sl (h : Txt n t) (hso : Sorted n t idx) : ∀ {m i j : Nat}, m = n - i → FS n t i → FS n t j → sl n t i j → lx (keyL n t idx i) (keyL n t idx j) := by
  intro m
  induction m with
  | zero => intro i j hm hi; have := hi.1; omega
  | succ m ih =>
    intro i j hm hi hj hs
    rcases sl_iff.1 hs with ⟨_, _, c⟩ | ⟨c, d⟩
    · by_cases a : rz n t i <;> by_cases b : rz n t j
      · rw [keyL_r hi.1 a, keyL_r hj.1 b]; exact lx_head (by omega)
      · rw [keyL_r hi.1 a, keyL_f hj.1 b]; exact lx_head (by omega)
      · rw [keyL_f hi.1 a, keyL_r hj.1 b]; exact lx_head (by omega)
      · rw [keyL_f hi.1 a, keyL_f hj.1 b]; exact lx_head (by omega)
    · by_cases a : rz n t i <;> by_cases b : rz n t j
      · rw [keyL_r hi.1 a, keyL_r hj.1 b, c]
        exact lx_cons.2 (lx_head (hso i j (FS_lms hi a) (FS_lms hj b) hs))
      · exact absurd (fall_rise h rfl hj.1 hi.1 c.symm b a) (sl_asymm hs)
      · rw [keyL_f hi.1 a, keyL_r hj.1 b]; exact lx_head (by omega)
      · rw [keyL_f hi.1 a, keyL_f hj.1 b, c]
        exact lx_cons.2 (ih (by omega) (FS_next h hi.1 a) (FS_next h hj.1 b) d)
theorem keyS_sl (h : Txt n t) (hso : Sorted n t idx) : ∀ {m i j : Nat}, m = n - i → i < n → j < n → sl n t i j → lx (keyS n t idx i) (keyS n t idx j) := by
  intro m
  induction m with
  | zero => intro i j hm hi; omega
  | succ m ih =>
    intro i j hm hi hj hs
    rcases sl_iff.1 hs with ⟨_, _, c⟩ | ⟨c, d⟩
    · exact key_char h hi hj c
    · obtain ⟨d1, d2⟩ := sl_lt d
      by_cases a : rz n t i <;> by_cases b : rz n t j
      · rw [keyS_r d1 a, keyS_r d2 b, c]
        exact lx_cons.2 (ih (by omega) d1 d2 d)
      · exact absurd (fall_rise h rfl hj hi c.symm b a) (sl_asymm hs)
      · exact key_type h hi hj c a b
      · rw [keyS_f hi a, keyS_f hj b]
        exact keyL_sl h hso rfl ⟨hi, .inl a⟩ ⟨hj, .inl b⟩ hs
theorem keyS_iff (h : Txt n t) (hso : Sorted n t idx) {i j : Nat} (hi : i < n) (hj : j < n) : lx (keyS n t idx i) (keyS n t idx j) ↔ sl n t i j := by
  refine ⟨fun a => ?_, keyS_sl h hso rfl hi hj⟩
  by_cases e : i = j
  · subst e; exact absurd a (lx_irr _)
  · rcases sl_tri h rfl hi hj e with b | b
    · exact b
    · exact absurd a (lx_asymm (keyS_sl h hso rfl hj hi b))
/-- how many suffixes are less -/
noncomputable def rank (n : Nat) (t : Nat → Nat) (i : Nat) : Nat := cnt n fun j => sl n t j i
theorem pos_rank (h : Txt n t) (hso : Sorted n t idx) {i : Nat} (hi : i < n) : pos n t idx i = rank n t i :=
  cnt_congr fun _ hj => keyS_iff h hso hj hi
theorem rank_mono {i j : Nat} (h : sl n t i j) : rank n t i < rank n t j := cnt_lt (fun _ _ a => sl_trans a h) (sl_lt h).1 (sl_irr _) h
theorem rank_sorted : Sorted n t (rank n t) := fun _ _ _ _ h => rank_mono h
theorem rank_iff (h : Txt n t) {i j : Nat} (hi : i < n) (hj : j < n) : rank n t i < rank n t j ↔ sl n t i j := by
  refine ⟨fun a => ?_, rank_mono⟩
  by_cases e : i = j
  · subst e; omega
  · rcases sl_tri h rfl hi hj e with b | b
    · exact b
    · have := rank_mono b; omega
theorem rank_lt {i : Nat} (hi : i < n) : rank n t i < n := by
  have h1 := cnt_lt (n := n) (p := fun j => sl n t j i) (q := fun _ => True) (fun _ _ _ => trivial) hi (sl_irr _) trivial
  have := cnt_le_n n (fun _ => True)
  unfold rank
  omega
theorem rank_inj (h : Txt n t) {i j : Nat} (hi : i < n) (hj : j < n) (he : rank n t i = rank n t j) : i = j := by
  by_cases e : i = j
  · exact e
  · rcases sl_tri h rfl hi hj e with b | b
    · have := rank_mono b; omega
    · have := rank_mono b; omega
/-! ### pieces: from a start to the next one -/
noncomputable def gL (n : Nat) (t : Nat → Nat) (e : Nat → List Nat) : Nat → Nat → List Nat
  | 0, _ => []
  | m + 1, i => if rz n t i then (2 * t i + 1) :: e i else 2 * t i :: gL n t e m (i + 1)
noncomputable def gS (n : Nat) (t : Nat → Nat) (e : Nat → List Nat) : Nat → Nat → List Nat
  | 0, _ => []
  | m + 1, i => if rz n t i then (if i + 1 = n then [1] else (2 * t i + 1) :: gS n t e m (i + 1)) else gL n t e (m + 1) i
theorem gL_key : ∀ (m i : Nat), kL n t idx m i = gL n t (fun i => [idx i]) m i
  | 0, _ => rfl
  | m + 1, i => by unfold kL gL; rw [gL_key m]
theorem gS_key : ∀ (m i : Nat), kS n t idx m i = gS n t (fun i => [idx i]) m i
  | 0, _ => rfl
  | m + 1, i => by unfold kS gS; rw [gS_key m, gL_key]
/-- where a run ends -/
noncomputable def eL (n : Nat) (t : Nat → Nat) : Nat → Nat → Nat
  | 0, i => i
  | m + 1, i => if rz n t i then i else eL n t m (i + 1)
noncomputable def eS (n : Nat) (t : Nat → Nat) : Nat → Nat → Nat
  | 0, i => i
  | m + 1, i => if rz n t i then (if i + 1 = n then i else eS n t m (i + 1)) else eL n t (m + 1) i
abbrev nil_ : Nat → List Nat := fun _ => []
theorem gL_two (h : Txt n t) : ∀ {m1 m2 i j : Nat}, m1 = n - i → m2 = n - j → FS n t i → FS n t j →
    (gL n t nil_ m1 i = gL n t nil_ m2 j ∧ ∀ e, lx (gL n t e m1 i) (gL n t e m2 j) ↔ lx (e (eL n t m1 i)) (e (eL n t m2 j))) ∨
    (gL n t nil_ m1 i ≠ gL n t nil_ m2 j ∧ ∀ e e', lx (gL n t e m1 i) (gL n t e m2 j) ↔ lx (gL n t e' m1 i) (gL n t e' m2 j)) := by
  have heads : ∀ {a b : Nat} (_ : a ≠ b) (x y x' y' : List Nat), lx (a :: x) (b :: y) ↔ lx (a :: x') (b :: y') := fun {a b} hab x y x' y' => by
    rcases Nat.lt_or_ge a b with c | c
    · exact ⟨fun _ => lx_head c, fun _ => lx_head c⟩
    · have : b < a := by omega
      exact ⟨fun k => absurd k (lx_head_no this), fun k => absurd k (lx_head_no this)⟩
  intro m1
  induction m1 with
  | zero => intro m2 i j h1 h2 hi; have := hi.1; omega
  | succ m1 ih =>
    intro m2 i j h1 h2 hi hj
    have hj1 := hj.1
    obtain ⟨m2, rfl⟩ : ∃ k, m2 = k + 1 := ⟨m2 - 1, by omega⟩
    unfold gL eL
    by_cases a : rz n t i <;> by_cases b : rz n t j
    · simp only [if_pos a, if_pos b]
      by_cases c : 2 * t i + 1 = 2 * t j + 1
      · refine .inl ⟨by rw [c], fun e => by rw [c]; exact lx_cons⟩
      · exact .inr ⟨fun k => c (by simp only [List.cons.injEq] at k; exact k.1), fun e e' => heads c _ _ _ _⟩
    · simp only [if_pos a, if_neg b]
      have c : 2 * t i + 1 ≠ 2 * t j := by omega
      exact .inr ⟨fun k => c (by simp only [List.cons.injEq] at k; exact k.1), fun e e' => heads c _ _ _ _⟩
    · simp only [if_neg a, if_pos b]
      have c : 2 * t i ≠ 2 * t j + 1 := by omega
      exact .inr ⟨fun k => c (by simp only [List.cons.injEq] at k; exact k.1), fun e e' => heads c _ _ _ _⟩
    · simp only [if_neg a, if_neg b]
      by_cases c : 2 * t i = 2 * t j
      · rw [c]
        rcases ih (m2 := m2) (i := i + 1) (j := j + 1) (by omega) (by omega) (FS_next h hi.1 a) (FS_next h hj.1 b) with ⟨d1, d2⟩ | ⟨d1, d2⟩
        · exact .inl ⟨by rw [d1], fun e => lx_cons.trans (d2 e)⟩
        · refine .inr ⟨fun k => d1 (by simp only [List.cons.injEq] at k; exact k.2), fun e e' => ?_⟩
          rw [lx_cons, lx_cons]
          exact d2 e e'
      · exact .inr ⟨fun k => c (by simp only [List.cons.injEq] at k; exact k.1), fun e e' => heads c _ _ _ _⟩
theorem gS_two (h : Txt n t) : ∀ {m1 m2 i j : Nat}, m1 = n - i → m2 = n - j → i < n → j < n →
    (gS n t nil_ m1 i = gS n t nil_ m2 j ∧ (i = j ∨ ∀ e, lx (gS n t e m1 i) (gS n t e m2 j) ↔ lx (e (eS n t m1 i)) (e (eS n t m2 j)))) ∨
    (gS n t nil_ m1 i ≠ gS n t nil_ m2 j ∧ ∀ e e', lx (gS n t e m1 i) (gS n t e m2 j) ↔ lx (gS n t e' m1 i) (gS n t e' m2 j)) := by
  have heads : ∀ {a b : Nat} (_ : a ≠ b) (x y x' y' : List Nat), lx (a :: x) (b :: y) ↔ lx (a :: x') (b :: y') := fun {a b} hab x y x' y' => by
    rcases Nat.lt_or_ge a b with c | c
    · exact ⟨fun _ => lx_head c, fun _ => lx_head c⟩
    · have : b < a := by omega
      exact ⟨fun k => absurd k (lx_head_no this), fun k => absurd k (lx_head_no this)⟩
  intro m1
  induction m1 with
  | zero => intro m2 i j h1 h2 hi; omega
  | succ m1 ih =>
    intro m2 i j h1 h2 hi hj
    obtain ⟨m2, rfl⟩ : ∃ k, m2 = k + 1 := ⟨m2 - 1, by omega⟩
    by_cases a : rz n t i <;> by_cases b : rz n t j
    · unfold gS eS
      simp only [if_pos a, if_pos b]
      by_cases e1 : i + 1 = n <;> by_cases e2 : j + 1 = n
      · simp only [if_pos e1, if_pos e2]
        exact .inl ⟨trivial, .inl (by omega)⟩
      · simp only [if_pos e1, if_neg e2]
        have := h.more j (by omega)
        have c : 1 ≠ 2 * t j + 1 := by omega
        exact .inr ⟨fun k => c (by simp only [List.cons.injEq] at k; exact k.1), fun e e' => heads c _ _ _ _⟩
      · simp only [if_neg e1, if_pos e2]
        have := h.more i (by omega)
        have c : 2 * t i + 1 ≠ 1 := by omega
        exact .inr ⟨fun k => c (by simp only [List.cons.injEq] at k; exact k.1), fun e e' => heads c _ _ _ _⟩
      · simp only [if_neg e1, if_neg e2]
        by_cases c : 2 * t i + 1 = 2 * t j + 1
        · rw [c]
          rcases ih (m2 := m2) (i := i + 1) (j := j + 1) (by omega) (by omega) (by omega) (by omega) with ⟨d1, d2⟩ | ⟨d1, d2⟩
          · refine .inl ⟨by rw [d1], ?_⟩
            rcases d2 with d2 | d2
            · exact .inl (by omega)
            · exact .inr fun e => lx_cons.trans (d2 e)
          · refine .inr ⟨fun k => d1 (by simp only [List.cons.injEq] at k; exact k.2), fun e e' => ?_⟩
            rw [lx_cons, lx_cons]
            exact d2 e e'
        · exact .inr ⟨fun k => c (by simp only [List.cons.injEq] at k; exact k.1), fun e e' => heads c _ _ _ _⟩
    · unfold gS gL
      simp only [if_pos a, if_neg b]
      by_cases e1 : i + 1 = n
      · simp only [if_pos e1]
        have c : 1 ≠ 2 * t j := by omega
        exact .inr ⟨fun k => c (by simp only [List.cons.injEq] at k; exact k.1), fun e e' => heads c _ _ _ _⟩
      · simp only [if_neg e1]
        have c : 2 * t i + 1 ≠ 2 * t j := by omega
        exact .inr ⟨fun k => c (by simp only [List.cons.injEq] at k; exact k.1), fun e e' => heads c _ _ _ _⟩
    · unfold gS gL
      simp only [if_neg a, if_pos b]
      by_cases e2 : j + 1 = n
      · simp only [if_pos e2]
        have c : 2 * t i ≠ 1 := by omega
        exact .inr ⟨fun k => c (by simp only [List.cons.injEq] at k; exact k.1), fun e e' => heads c _ _ _ _⟩
      · simp only [if_neg e2]
        have c : 2 * t i ≠ 2 * t j + 1 := by omega
        exact .inr ⟨fun k => c (by simp only [List.cons.injEq] at k; exact k.1), fun e e' => heads c _ _ _ _⟩
    · have ex : ∀ e, gS n t e (m1 + 1) i = gL n t e (m1 + 1) i := fun e => by unfold gS; rw [if_neg a]
      have ey : ∀ e, gS n t e (m2 + 1) j = gL n t e (m2 + 1) j := fun e => by unfold gS; rw [if_neg b]
      have ez : eS n t (m1 + 1) i = eL n t (m1 + 1) i := by unfold eS; rw [if_neg a]
      have ew : eS n t (m2 + 1) j = eL n t (m2 + 1) j := by unfold eS; rw [if_neg b]
      simp only [ex, ey, ez, ew]
      rcases gL_two h h1 h2 ⟨hi, .inl a⟩ ⟨hj, .inl b⟩ with ⟨d1, d2⟩ | d
      · exact .inl ⟨d1, .inr d2⟩
      · exact .inr d
/-- the piece of a suffix, where it ends -/
noncomputable def piece (n : Nat) (t : Nat → Nat) (i : Nat) : List Nat := gS n t nil_ (n - i) i
noncomputable def pend (n : Nat) (t : Nat → Nat) (i : Nat) : Nat := eS n t (n - i) i
/-- pieces that differ tell the order, whatever the starts' order is -/
theorem piece_ne (h : Txt n t) {i j : Nat} (hi : i < n) (hj : j < n) (hne : piece n t i ≠ piece n t j) :
    (lx (keyS n t idx i) (keyS n t idx j) ↔ sl n t i j) ∧ (lx (keyS n t idx i) (keyS n t idx j) ↔ lx (piece n t i) (piece n t j)) := by
  rcases gS_two h rfl rfl hi hj with ⟨d, _⟩ | ⟨_, d⟩
  · exact absurd d hne
  · have e1 : ∀ x, keyS n t idx x = gS n t (fun i => [idx i]) (n - x) x := fun x => gS_key _ _
    have e2 : ∀ x, keyS n t (rank n t) x = gS n t (fun i => [rank n t i]) (n - x) x := fun x => gS_key _ _
    rw [← keyS_iff h rank_sorted hi hj, e1, e1, e2, e2]
    exact ⟨d _ _, d _ _⟩
/-- of equal pieces the ends tell the order -/
theorem piece_eq (h : Txt n t) {i j : Nat} (hi : i < n) (hj : j < n) (he : piece n t i = piece n t j) (hne : i ≠ j) (p1 : pend n t i < n) (p2 : pend n t j < n) : sl n t i j ↔ sl n t (pend n t i) (pend n t j) := by
  rcases gS_two h rfl rfl hi hj with ⟨_, d | d⟩ | ⟨d, _⟩
  · exact absurd d hne
  · have e2 : ∀ x, keyS n t (rank n t) x = gS n t (fun i => [rank n t i]) (n - x) x := fun x => gS_key _ _
    rw [← keyS_iff h rank_sorted hi hj, e2, e2, d (fun i => [rank n t i]), ← rank_iff h p1 p2]
    exact ⟨fun a => a.elim id (fun a => a.2.elim), fun a => .inl a⟩
  · exact absurd he d
/-- a piece between two others -/
theorem piece_mid (h : Txt n t) {i j k : Nat} (hi : i < n) (hj : j < n) (hk : k < n) (he : piece n t i = piece n t k) (h1 : lx (keyS n t idx i) (keyS n t idx j)) (h2 : lx (keyS n t idx j) (keyS n t idx k)) : piece n t i = piece n t j := by
  by_cases e : piece n t i = piece n t j
  · exact e
  · have a := (piece_ne (idx := idx) h hi hj e).2.1 h1
    have b := (piece_ne (idx := idx) h hj hk (fun x => e (he.trans x.symm))).2.1 h2
    rw [he] at a
    exact absurd a (lx_asymm b)
end
end Go.Proofs.Ytllmocjfllbbfaa.SA

namespace Go.Proofs.Ytllmocjfllbbfaa.SA
open Classical
section
variable {n : Nat} {t idx : Nat → Nat}
theorem eL_spec (h : Txt n t) : ∀ {m i : Nat}, m = n - i → FS n t i → lms n t (eL n t m i) ∧ i ≤ eL n t m i ∧ ∀ x, i ≤ x → x < eL n t m i → ¬ rz n t x := by
  intro m
  induction m with
  | zero => intro i hm hi; have := hi.1; omega
  | succ m ih =>
    intro i hm hi
    unfold eL
    by_cases a : rz n t i
    · simp only [if_pos a]
      exact ⟨FS_lms hi a, Nat.le_refl _, fun x h1 h2 => by omega⟩
    · simp only [if_neg a]
      obtain ⟨h1, h2, h3⟩ := ih (i := i + 1) (by omega) (FS_next h hi.1 a)
      refine ⟨h1, by omega, fun x g1 g2 => ?_⟩
      by_cases e : x = i
      · subst e; exact a
      · exact h3 x (by omega) g2
theorem eS_spec (h : Txt n t) : ∀ {m i : Nat}, m = n - i → i + 1 < n → lms n t (eS n t m i) ∧ i < eS n t m i ∧ ∀ x, i < x → x < eS n t m i → ¬ lms n t x := by
  intro m
  induction m with
  | zero => intro i hm hi; omega
  | succ m ih =>
    intro i hm hi
    by_cases a : rz n t i
    · have hi2 : i + 1 + 1 < n := by
        rcases Nat.lt_or_ge (i + 1 + 1) n with b | b
        · exact b
        · have h1 := (rise_le h hi a).1
          rw [show i + 1 = n - 1 by omega, h.last] at h1
          have := h.more i hi
          omega
      have e : eS n t (m + 1) i = eS n t m (i + 1) := by
        conv => lhs; unfold eS
        rw [if_pos a, if_neg (by omega)]
      rw [e]
      obtain ⟨h1, h2, h3⟩ := ih (i := i + 1) (by omega) hi2
      refine ⟨h1, by omega, fun x g1 g2 => ?_⟩
      by_cases e : x = i + 1
      · subst e; exact fun l => l.2.2.2 (by simpa using a)
      · exact h3 x (by omega) g2
    · have e : eS n t (m + 1) i = eL n t m (i + 1) := by
        conv => lhs; unfold eS
        rw [if_neg a]
        conv => lhs; unfold eL
        rw [if_neg a]
      rw [e]
      obtain ⟨h1, h2, h3⟩ := eL_spec h (m := m) (i := i + 1) (by omega) (FS_next h (by omega) a)
      exact ⟨h1, by omega, fun x g1 g2 l => h3 x (by omega) g2 l.2.2.1⟩
theorem pend_spec (h : Txt n t) {i : Nat} (hi : i + 1 < n) : lms n t (pend n t i) ∧ i < pend n t i ∧ ∀ x, i < x → x < pend n t i → ¬ lms n t x := eS_spec h rfl hi
noncomputable def code (n : Nat) (t : Nat → Nat) (i : Nat) : Nat := 2 * t i + (if rz n t i then 1 else 0)
noncomputable def cseg (n : Nat) (t : Nat → Nat) : Nat → Nat → List Nat
  | _, 0 => []
  | i, m + 1 => code n t i :: cseg n t (i + 1) m
theorem gL_seg (h : Txt n t) : ∀ {m i : Nat}, m = n - i → FS n t i → gL n t nil_ m i = cseg n t i (eL n t m i - i + 1) := by
  intro m
  induction m with
  | zero => intro i hm hi; have := hi.1; omega
  | succ m ih =>
    intro i hm hi
    unfold gL eL
    by_cases a : rz n t i
    · simp only [if_pos a, Nat.sub_self]
      unfold cseg code cseg
      rw [if_pos a]
    · simp only [if_neg a]
      obtain ⟨_, h2, _⟩ := eL_spec h (m := m) (i := i + 1) (by omega) (FS_next h hi.1 a)
      rw [ih (i := i + 1) (by omega) (FS_next h hi.1 a), show eL n t m (i + 1) - i + 1 = (eL n t m (i + 1) - (i + 1) + 1) + 1 by omega]
      conv => rhs; unfold cseg code
      rw [if_neg a]
      rfl
theorem gS_seg (h : Txt n t) : ∀ {m i : Nat}, m = n - i → i + 1 < n → gS n t nil_ m i = cseg n t i (eS n t m i - i + 1) := by
  intro m
  induction m with
  | zero => intro i hm hi; omega
  | succ m ih =>
    intro i hm hi
    by_cases a : rz n t i
    · have hi2 : i + 1 + 1 < n := by
        rcases Nat.lt_or_ge (i + 1 + 1) n with b | b
        · exact b
        · have h1 := (rise_le h hi a).1
          rw [show i + 1 = n - 1 by omega, h.last] at h1
          have := h.more i hi
          omega
      have e : eS n t (m + 1) i = eS n t m (i + 1) := by
        conv => lhs; unfold eS
        rw [if_pos a, if_neg (by omega)]
      have e2 : gS n t nil_ (m + 1) i = (2 * t i + 1) :: gS n t nil_ m (i + 1) := by
        conv => lhs; unfold gS
        rw [if_pos a, if_neg (by omega)]
      obtain ⟨_, h2, _⟩ := eS_spec h (m := m) (i := i + 1) (by omega) hi2
      rw [e, e2, ih (i := i + 1) (by omega) hi2, show eS n t m (i + 1) - i + 1 = (eS n t m (i + 1) - (i + 1) + 1) + 1 by omega]
      conv => rhs; unfold cseg code
      rw [if_pos a]
    · have e : eS n t (m + 1) i = eL n t (m + 1) i := by unfold eS; rw [if_neg a]
      have e2 : gS n t nil_ (m + 1) i = gL n t nil_ (m + 1) i := by unfold gS; rw [if_neg a]
      rw [e, e2]
      exact gL_seg h hm ⟨by omega, .inl a⟩
theorem cseg_len : ∀ (m i : Nat), (cseg n t i m).length = m
  | 0, _ => rfl
  | m + 1, i => by unfold cseg; rw [List.length_cons, cseg_len m]
theorem cseg_eq : ∀ (m i j : Nat), cseg n t i m = cseg n t j m ↔ ∀ k, k < m → code n t (i + k) = code n t (j + k)
  | 0, _, _ => ⟨fun _ k hk => by omega, fun _ => rfl⟩
  | m + 1, i, j => by
    unfold cseg
    rw [List.cons.injEq, cseg_eq m]
    constructor
    · rintro ⟨a, b⟩ k hk
      cases k with
      | zero => exact a
      | succ k => rw [show i + (k + 1) = i + 1 + k by omega, show j + (k + 1) = j + 1 + k by omega]; exact b k (by omega)
    · intro a
      refine ⟨a 0 (by omega), fun k hk => ?_⟩
      have := a (k + 1) (by omega)
      rwa [show i + (k + 1) = i + 1 + k by omega, show j + (k + 1) = j + 1 + k by omega] at this
/-- equal pieces are equal parts of the text -/
theorem piece_seg (h : Txt n t) {i j : Nat} (hi : i + 1 < n) (hj : j + 1 < n) : piece n t i = piece n t j ↔ pend n t i - i = pend n t j - j ∧ ∀ k, k ≤ pend n t i - i → t (i + k) = t (j + k) := by
  obtain ⟨a1, a2, a3⟩ := pend_spec h hi
  obtain ⟨b1, b2, b3⟩ := pend_spec h hj
  unfold piece
  rw [gS_seg h rfl hi, gS_seg h rfl hj]
  show cseg n t i (pend n t i - i + 1) = cseg n t j (pend n t j - j + 1) ↔ _
  constructor
  · intro e
    have hl := congrArg List.length e
    rw [cseg_len, cseg_len] at hl
    have hd : pend n t i - i = pend n t j - j := by omega
    rw [hd] at e ⊢
    refine ⟨rfl, fun k hk => ?_⟩
    have := (cseg_eq _ _ _).1 e k (by omega)
    unfold code at this
    split at this <;> split at this <;> omega
  · rintro ⟨hd, hk⟩
    rw [hd] at hk ⊢
    rw [cseg_eq]
    have rzs : ∀ d k, k + d = pend n t j - j → (rz n t (i + k) ↔ rz n t (j + k)) := by
      intro d
      induction d with
      | zero =>
        intro k hkd
        rw [show i + k = pend n t i by omega, show j + k = pend n t j by omega]
        exact ⟨fun _ => b1.2.2.1, fun _ => a1.2.2.1⟩
      | succ d ih =>
        intro k hkd
        have e1 := hk k (by omega)
        have e2 := hk (k + 1) (by omega)
        have e3 := ih (k + 1) (by omega)
        rw [rz_iff h (i := i + k) (by have := a1.2.1; omega), rz_iff h (i := j + k) (by have := b1.2.1; omega)]
        rw [show i + k + 1 = i + (k + 1) by omega, show j + k + 1 = j + (k + 1) by omega, e1, e2, e3]
    intro k hk2
    unfold code
    rw [hk k (by omega)]
    have := rzs (pend n t j - j - k) k (by omega)
    by_cases r : rz n t (j + k)
    · rw [if_pos r, if_pos (this.2 r)]
    · rw [if_neg r, if_neg (fun x => r (this.1 x))]
theorem piece_last (h : Txt n t) {i : Nat} (hi : i < n) (he : piece n t i = piece n t (n - 1)) : i = n - 1 := by
  have e1 : piece n t (n - 1) = [1] := by
    have := h.pos
    unfold piece
    rw [show n - (n - 1) = 0 + 1 by omega]
    unfold gS
    rw [if_pos (rz_last h), if_pos (by omega)]
  rw [e1] at he
  rcases Nat.lt_or_ge (i + 1) n with a | a
  · unfold piece at he
    rw [gS_seg h rfl a] at he
    unfold cseg code at he
    simp only [List.cons.injEq] at he
    have := h.more i a
    omega
  · omega
/-! ### the starts, one behind the other -/
structure Starts (n : Nat) (t : Nat → Nat) (m : Nat) (ss : Nat → Nat) : Prop where
  is : ∀ k, k < m → lms n t (ss k)
  up : ∀ a b, a < b → b < m → ss a < ss b
  all : ∀ s, lms n t s → ∃ k, k < m ∧ ss k = s
variable {m : Nat} {ss : Nat → Nat}
theorem Starts.inj (H : Starts n t m ss) {a b : Nat} (ha : a < m) (hb : b < m) (he : ss a = ss b) : a = b := by
  rcases Nat.lt_trichotomy a b with c | c | c
  · have := H.up a b c hb; omega
  · exact c
  · have := H.up b a c ha; omega
theorem Starts.pos (H : Starts n t m ss) (h : Txt n t) (h2 : 2 ≤ n) : 0 < m := by
  obtain ⟨k, hk, _⟩ := H.all _ (lms_last h h2)
  omega
theorem Starts.last (H : Starts n t m ss) (h : Txt n t) (h2 : 2 ≤ n) : ss (m - 1) = n - 1 := by
  obtain ⟨k, hk, e⟩ := H.all _ (lms_last h h2)
  by_cases c : k = m - 1
  · rw [← c]; exact e
  · have := H.up k (m - 1) (by omega) (by omega)
    have := (H.is (m - 1) (by omega)).2.1
    omega
theorem Starts.next (H : Starts n t m ss) (h : Txt n t) {k : Nat} (hk : k + 1 < m) : ss k + 1 < n ∧ pend n t (ss k) = ss (k + 1) := by
  have h1 := H.up k (k + 1) (by omega) hk
  have h2 := (H.is (k + 1) hk).2.1
  have h3 : ss k + 1 < n := by omega
  obtain ⟨a1, a2, a3⟩ := pend_spec h h3
  obtain ⟨q, hq, e⟩ := H.all _ a1
  refine ⟨h3, ?_⟩
  rcases Nat.lt_trichotomy q (k + 1) with c | c | c
  · rcases Nat.lt_or_ge q k with d | d
    · have := H.up q k d (by omega); omega
    · obtain rfl : q = k := by omega
      omega
  · subst c; exact e.symm
  · have := H.up (k + 1) q c hq
    exact absurd (H.is (k + 1) hk) (a3 _ h1 (by omega))
theorem Starts.less (H : Starts n t m ss) (h : Txt n t) (h2 : 2 ≤ n) : m < n := by
  have : ∀ k, k < m → k + 1 ≤ ss k := by
    intro k
    induction k with
    | zero => intro hk; have := (H.is 0 hk).1; omega
    | succ k ih => intro hk; have := ih (by omega); have := H.up k (k + 1) (by omega) hk; omega
  have hm := H.pos h h2
  have := this (m - 1) (by omega)
  rw [H.last h h2] at this
  omega
/-! ### names of pieces -/
def updN (f : Nat → Nat) (k v : Nat) : Nat → Nat := fun x => if x = k then v else f x
theorem updN_same (f : Nat → Nat) (k v : Nat) : updN f k v k = v := if_pos rfl
theorem updN_ne (f : Nat → Nat) {k x : Nat} (v : Nat) (h : x ≠ k) : updN f k v x = f x := if_neg h
structure InvN (n : Nat) (t idx : Nat → Nat) (m : Nat) (ss : Nat → Nat) (r : Nat) (nm : Nat → Nat) (kinds : Nat) : Prop where
  eq : ∀ a b, a < m → b < m → pos n t idx (ss a) < r → pos n t idx (ss b) < r → (nm a = nm b ↔ piece n t (ss a) = piece n t (ss b))
  le : ∀ a b, a < m → b < m → pos n t idx (ss a) < r → pos n t idx (ss b) < r → pos n t idx (ss a) ≤ pos n t idx (ss b) → nm a ≤ nm b
  top : ∀ a, a < m → pos n t idx (ss a) < r → nm a ≤ kinds
  some : ∀ c, c ≤ kinds → (∃ a, a < m ∧ pos n t idx (ss a) < r) → ∃ a, a < m ∧ pos n t idx (ss a) < r ∧ nm a = c
  none : (∀ a, a < m → r ≤ pos n t idx (ss a)) → kinds = 0
/-- the last one that was named -/
def LastN (n : Nat) (t idx : Nat → Nat) (m : Nat) (ss : Nat → Nat) (r : Nat) (nm : Nat → Nat) (kinds b : Nat) : Prop := b < m ∧ pos n t idx (ss b) < r ∧ nm b = kinds ∧ ∀ a, a < m → pos n t idx (ss a) < r → pos n t idx (ss a) ≤ pos n t idx (ss b)
theorem invN_start : InvN n t idx m ss 0 (fun _ => 0) 0 :=
  ⟨fun _ _ _ _ h => by omega, fun _ _ _ _ h => by omega, fun _ _ h => by omega, fun _ _ ⟨_, _, h⟩ => by omega, fun _ => rfl⟩
theorem invN_skip {r : Nat} {nm : Nat → Nat} {kinds : Nat} (hI : InvN n t idx m ss r nm kinds) (hno : ∀ a, a < m → pos n t idx (ss a) ≠ r) : InvN n t idx m ss (r + 1) nm kinds ∧ ∀ b, LastN n t idx m ss r nm kinds b → LastN n t idx m ss (r + 1) nm kinds b := by
  have k : ∀ a, a < m → pos n t idx (ss a) < r + 1 → pos n t idx (ss a) < r := fun a ha hp => by have := hno a ha; omega
  refine ⟨⟨fun a b ha hb p q => hI.eq a b ha hb (k a ha p) (k b hb q), fun a b ha hb p q => hI.le a b ha hb (k a ha p) (k b hb q), fun a ha p => hI.top a ha (k a ha p), fun c hc ⟨a, ha, p⟩ => ?_, fun h => hI.none fun a ha => by have := h a ha; omega⟩, fun b hb => ⟨hb.1, by have := hb.2.1; omega, hb.2.2.1, fun a ha p => hb.2.2.2 a ha (k a ha p)⟩⟩
  obtain ⟨x, x1, x2, x3⟩ := hI.some c hc ⟨a, ha, k a ha p⟩
  exact ⟨x, x1, by omega, x3⟩
theorem invN_put (h : Txt n t) (ho : Ord n t idx) (H : Starts n t m ss) {r : Nat} {nm : Nat → Nat} {kinds kinds2 s : Nat} (hI : InvN n t idx m ss r nm kinds) (hs : s < m) (hp : pos n t idx (ss s) = r)
    (hk : (kinds2 = 0 ∧ ∀ a, a < m → r ≤ pos n t idx (ss a)) ∨ ∃ b, LastN n t idx m ss r nm kinds b ∧ ((piece n t (ss b) = piece n t (ss s) ∧ kinds2 = kinds) ∨ (piece n t (ss b) ≠ piece n t (ss s) ∧ kinds2 = kinds + 1))) :
    InvN n t idx m ss (r + 1) (updN nm s kinds2) kinds2 ∧ LastN n t idx m ss (r + 1) (updN nm s kinds2) kinds2 s := by
  have lt : ∀ a, a < m → lms n t (ss a) := H.is
  have pin : ∀ a, a < m → pos n t idx (ss a) = r → a = s := fun a ha he => H.inj ha hs (pos_inj h ho (lt a ha).2.1 (lt s hs).2.1 (by rw [he, hp]))
  have old : ∀ a, a < m → pos n t idx (ss a) < r + 1 → a ≠ s → pos n t idx (ss a) < r := fun a ha p e => by
    have : pos n t idx (ss a) ≠ r := fun e2 => e (pin a ha e2)
    omega
  have ne : ∀ a, a < m → pos n t idx (ss a) < r → a ≠ s := fun a _ p e => by subst e; omega
  -- what is known of those that were named
  have key : ∀ a, a < m → pos n t idx (ss a) < r → nm a ≤ kinds2 ∧ (nm a = kinds2 ↔ piece n t (ss a) = piece n t (ss s)) := by
    intro a ha p
    rcases hk with ⟨_, hn⟩ | ⟨b, hb, hk⟩
    · have := hn a ha; omega
    · have e1 := hI.eq a b ha hb.1 p hb.2.1
      have e2 := hI.top a ha p
      rw [hb.2.2.1] at e1
      rcases hk with ⟨g1, rfl⟩ | ⟨g1, rfl⟩
      · exact ⟨e2, by rw [e1, g1]⟩
      · refine ⟨by omega, ⟨fun e => by omega, fun e => ?_⟩⟩
        exfalso
        have hb3 := hb.2.2.2 a ha p
        by_cases c : a = b
        · subst c; exact g1 e
        · have hlt : pos n t idx (ss a) < pos n t idx (ss b) := by
            have : pos n t idx (ss a) ≠ pos n t idx (ss b) := fun x => c (H.inj ha hb.1 (pos_inj h ho (lt a ha).2.1 (lt b hb.1).2.1 x))
            omega
          have m1 := (pos_iff h ho (lt a ha).2.1 (lt b hb.1).2.1).1 hlt
          have m2 := (pos_iff h ho (lt b hb.1).2.1 (lt s hs).2.1).1 (by have := hb.2.1; omega)
          exact g1 ((piece_mid h (lt a ha).2.1 (lt b hb.1).2.1 (lt s hs).2.1 e m1 m2).symm.trans e)
  refine ⟨⟨fun a b ha hb p q => ?_, fun a b ha hb p q o => ?_, fun a ha p => ?_, fun c hc _ => ?_, fun hn => ?_⟩, hs, by omega, updN_same _ _ _, fun a ha p => by omega⟩
  · by_cases e1 : a = s <;> by_cases e2 : b = s
    · subst e1; subst e2; simp
    · subst e1
      rw [updN_same, updN_ne _ _ e2]
      have := (key b hb (old b hb q e2)).2
      exact ⟨fun x => (this.1 x.symm).symm, fun x => (this.2 x.symm).symm⟩
    · subst e2
      rw [updN_same, updN_ne _ _ e1]
      exact (key a ha (old a ha p e1)).2
    · rw [updN_ne _ _ e1, updN_ne _ _ e2]
      exact hI.eq a b ha hb (old a ha p e1) (old b hb q e2)
  · by_cases e1 : a = s <;> by_cases e2 : b = s
    · subst e1; subst e2; exact Nat.le_refl _
    · subst e1
      have := old b hb q e2
      omega
    · subst e2
      rw [updN_same, updN_ne _ _ e1]
      exact (key a ha (old a ha p e1)).1
    · rw [updN_ne _ _ e1, updN_ne _ _ e2]
      exact hI.le a b ha hb (old a ha p e1) (old b hb q e2) o
  · by_cases e1 : a = s
    · subst e1; rw [updN_same]; exact Nat.le_refl _
    · rw [updN_ne _ _ e1]
      exact (key a ha (old a ha p e1)).1
  · by_cases e : c = kinds2
    · exact ⟨s, hs, by omega, by rw [updN_same, e]⟩
    · rcases hk with ⟨g0, _⟩ | ⟨b, hb, hk⟩
      · omega
      · obtain ⟨a, a1, a2, a3⟩ := hI.some c (by omega) ⟨b, hb.1, hb.2.1⟩
        exact ⟨a, a1, by omega, by rw [updN_ne _ _ (ne a a1 a2)]; exact a3⟩
  · have := hn s hs; omega
/-! ### the text of names -/
theorem red_txt (h : Txt n t) (h2 : 2 ≤ n) (ho : Ord n t idx) (H : Starts n t m ss) {nm : Nat → Nat} {kinds : Nat} (hI : InvN n t idx m ss n nm kinds) : Txt m nm ∧ ∀ k, k < m → nm k ≤ kinds := by
  have hm := H.pos h h2
  have hl := H.last h h2
  have pl : ∀ a, a < m → pos n t idx (ss a) < n := fun a ha => pos_lt (H.is a ha).2.1
  obtain ⟨a, a1, a2, a3⟩ := hI.some 0 (Nat.zero_le _) ⟨0, hm, pl 0 hm⟩
  have hz : nm (m - 1) = 0 := by
    have := hI.le (m - 1) a (by omega) a1 (pl _ (by omega)) a2 (by rw [hl, (pos_last h h2).1]; exact Nat.zero_le _)
    omega
  refine ⟨⟨hm, hz, fun i hi => ?_⟩, fun k hk => hI.top k hk (pl k hk)⟩
  rcases Nat.eq_zero_or_pos (nm i) with e | e
  · have e2 := (hI.eq i (m - 1) (by omega) (by omega) (pl _ (by omega)) (pl _ (by omega))).1 (by rw [e, hz])
    rw [hl] at e2
    have e3 := piece_last h (H.is i (by omega)).2.1 e2
    have := H.up i (m - 1) (by omega) (by omega)
    omega
  · exact e
theorem red_sl (h : Txt n t) (h2 : 2 ≤ n) (ho : Ord n t idx) (H : Starts n t m ss) {nm : Nat → Nat} {kinds : Nat} (hI : InvN n t idx m ss n nm kinds) :
    ∀ {d a b : Nat}, d = m - a → a < m → b < m → sl m nm a b → sl n t (ss a) (ss b) := by
  have pl : ∀ a, a < m → pos n t idx (ss a) < n := fun a ha => pos_lt (H.is a ha).2.1
  have ln : ∀ a, a < m → ss a < n := fun a ha => (H.is a ha).2.1
  intro d
  induction d with
  | zero => intro a b hd ha; omega
  | succ d ih =>
    intro a b hd ha hb hs
    rcases sl_iff.1 hs with ⟨_, _, c⟩ | ⟨c, g⟩
    · have hne : piece n t (ss a) ≠ piece n t (ss b) := fun e => by
        have := (hI.eq a b ha hb (pl a ha) (pl b hb)).2 e; omega
      refine (piece_ne (idx := idx) h (ln a ha) (ln b hb) hne).1.1 ?_
      rw [← pos_iff h ho (ln a ha) (ln b hb)]
      rcases Nat.lt_or_ge (pos n t idx (ss a)) (pos n t idx (ss b)) with x | x
      · exact x
      · have := hI.le b a hb ha (pl b hb) (pl a ha) x; omega
    · obtain ⟨g1, g2⟩ := sl_lt g
      have he := (hI.eq a b ha hb (pl a ha) (pl b hb)).1 c
      obtain ⟨a1, a2⟩ := H.next h g1
      obtain ⟨b1, b2⟩ := H.next h g2
      have hne : ss a ≠ ss b := fun e => by
        have := H.inj ha hb e
        subst this
        exact sl_irr _ hs
      rw [piece_eq h (ln a ha) (ln b hb) he hne (by rw [a2]; exact ln _ g1) (by rw [b2]; exact ln _ g2), a2, b2]
      exact ih (by omega) g1 g2 g
theorem red_iff (h : Txt n t) (h2 : 2 ≤ n) (ho : Ord n t idx) (H : Starts n t m ss) {nm : Nat → Nat} {kinds : Nat} (hI : InvN n t idx m ss n nm kinds) {a b : Nat} (ha : a < m) (hb : b < m) : sl m nm a b ↔ sl n t (ss a) (ss b) := by
  refine ⟨red_sl h h2 ho H hI rfl ha hb, fun hs => ?_⟩
  by_cases e : a = b
  · subst e; exact absurd hs (sl_irr _)
  · rcases sl_tri (red_txt h h2 ho H hI).1 rfl ha hb e with c | c
    · exact c
    · exact absurd (red_sl h h2 ho H hI rfl hb ha c) (sl_asymm hs)
/-- where all names differ, the pieces' order is the suffixes' -/
theorem names_sorted (h : Txt n t) (ho : Ord n t idx) (H : Starts n t m ss) {nm : Nat → Nat} {kinds : Nat} (hI : InvN n t idx m ss n nm kinds) (hk : kinds + 1 = m) {a b : Nat} (ha : a < m) (hb : b < m) : pos n t idx (ss a) < pos n t idx (ss b) ↔ sl n t (ss a) (ss b) := by
  have pl : ∀ a, a < m → pos n t idx (ss a) < n := fun a ha => pos_lt (H.is a ha).2.1
  have ln : ∀ a, a < m → ss a < n := fun a ha => (H.is a ha).2.1
  rw [pos_iff h ho (ln a ha) (ln b hb)]
  by_cases e : a = b
  · subst e; exact ⟨fun x => absurd x (lx_irr _), fun x => absurd x (sl_irr _)⟩
  · refine (piece_ne (idx := idx) h (ln a ha) (ln b hb) fun he => ?_).1
    have hnm := (hI.eq a b ha hb (pl a ha) (pl b hb)).2 he
    -- each name has a start: so no two have one
    have hs : ∀ c, c < m → ∃ x, x < m ∧ nm x = c := fun c hc => by
      obtain ⟨x, x1, _, x3⟩ := hI.some c (by omega) ⟨a, ha, pl a ha⟩
      exact ⟨x, x1, x3⟩
    let g : Nat → Nat := fun c => if hc : c < m then Classical.choose (hs c hc) else 0
    have hg : ∀ c, c < m → g c < m ∧ nm (g c) = c := fun c hc => by
      have := Classical.choose_spec (hs c hc)
      show (if hc : c < m then Classical.choose (hs c hc) else 0) < m ∧ nm (if hc : c < m then Classical.choose (hs c hc) else 0) = c
      rw [dif_pos hc]; exact this
    have sg := surj (n := m) (f := g) (fun c hc => (hg c hc).1) (fun c d hc hd x => by
      have h1 := (hg c hc).2
      have h2 := (hg d hd).2
      rw [x] at h1
      omega)
    obtain ⟨c, c1, c2⟩ := sg a ha
    obtain ⟨d, d1, d2⟩ := sg b hb
    have h1 := (hg c c1).2
    have h2 := (hg d d1).2
    rw [c2] at h1
    rw [d2] at h2
    have : c = d := by omega
    subst this
    omega
end
end Go.Proofs.Ytllmocjfllbbfaa.SA

namespace Go.Proofs.Ytllmocjfllbbfaa
open Go.RowKit
open Go.Proofs.Ytllmocjfllbbfaa.SA
abbrev jV (x : Int) : Value := .int .i32 x
def tabJ (n : Nat) (f : Nat → Int) : Array Value := ((List.range n).map fun i => jV (f i)).toArray
def tabB (n : Nat) (f : Nat → Bool) : Array Value := ((List.range n).map fun i => Value.bool (f i)).toArray
def tabI (n : Nat) (f : Nat → Int) : Array Value := ((List.range n).map fun i => iV (f i)).toArray
theorem tabJ_size {n : Nat} {f : Nat → Int} : (tabJ n f).size = n := by simp [tabJ]
theorem tabB_size {n : Nat} {f : Nat → Bool} : (tabB n f).size = n := by simp [tabB]
theorem tabI_size {n : Nat} {f : Nat → Int} : (tabI n f).size = n := by simp [tabI]
theorem tabJ_at {n i : Nat} {f : Nat → Int} (h : i < n) : (tabJ n f)[i]? = some (jV (f i)) := by simp [tabJ, h]
theorem tabB_at {n i : Nat} {f : Nat → Bool} (h : i < n) : (tabB n f)[i]? = some (.bool (f i)) := by simp [tabB, h]
theorem tabI_at {n i : Nat} {f : Nat → Int} (h : i < n) : (tabI n f)[i]? = some (iV (f i)) := by simp [tabI, h]
theorem tabJ_congr {n : Nat} {f g : Nat → Int} (h : ∀ i, i < n → f i = g i) : tabJ n f = tabJ n g := by
  unfold tabJ
  congr 1
  exact List.map_congr_left fun i hi => by rw [h i (List.mem_range.1 hi)]
theorem tabB_congr {n : Nat} {f g : Nat → Bool} (h : ∀ i, i < n → f i = g i) : tabB n f = tabB n g := by
  unfold tabB
  congr 1
  exact List.map_congr_left fun i hi => by rw [h i (List.mem_range.1 hi)]
theorem tabI_congr {n : Nat} {f g : Nat → Int} (h : ∀ i, i < n → f i = g i) : tabI n f = tabI n g := by
  unfold tabI
  congr 1
  exact List.map_congr_left fun i hi => by rw [h i (List.mem_range.1 hi)]
theorem tabJ_set {n i : Nat} {f : Nat → Int} {v : Int} : (tabJ n f).setIfInBounds i (jV v) = tabJ n (upd f i v) := by
  apply Array.ext_getElem?
  intro j
  rw [Array.getElem?_setIfInBounds, tabJ_size]
  by_cases hj : j < n
  · rw [tabJ_at hj, tabJ_at hj]
    by_cases e : i = j
    · subst e; rw [if_pos rfl, if_pos hj, upd_same]
    · rw [if_neg e, upd_ne _ _ (fun h => e h.symm)]
  · rw [Array.getElem?_eq_none (xs := tabJ n (upd f i v)) (by rw [tabJ_size]; omega), Array.getElem?_eq_none (xs := tabJ n f) (by rw [tabJ_size]; omega)]
    split
    · rw [if_neg (by omega)]
    · rfl
theorem tabI_set {n i : Nat} {f : Nat → Int} {v : Int} : (tabI n f).setIfInBounds i (iV v) = tabI n (upd f i v) := by
  apply Array.ext_getElem?
  intro j
  rw [Array.getElem?_setIfInBounds, tabI_size]
  by_cases hj : j < n
  · rw [tabI_at hj, tabI_at hj]
    by_cases e : i = j
    · subst e; rw [if_pos rfl, if_pos hj, upd_same]
    · rw [if_neg e, upd_ne _ _ (fun h => e h.symm)]
  · rw [Array.getElem?_eq_none (xs := tabI n (upd f i v)) (by rw [tabI_size]; omega), Array.getElem?_eq_none (xs := tabI n f) (by rw [tabI_size]; omega)]
    split
    · rw [if_neg (by omega)]
    · rfl
def updB (f : Nat → Bool) (k : Nat) (v : Bool) : Nat → Bool := fun x => if x = k then v else f x
theorem tabB_set {n i : Nat} {f : Nat → Bool} {v : Bool} : (tabB n f).setIfInBounds i (Value.bool v) = tabB n (updB f i v) := by
  apply Array.ext_getElem?
  intro j
  rw [Array.getElem?_setIfInBounds, tabB_size]
  by_cases hj : j < n
  · rw [tabB_at hj, tabB_at hj]
    unfold updB
    by_cases e : i = j
    · subst e; rw [if_pos rfl, if_pos hj, if_pos rfl]
    · rw [if_neg e, if_neg (fun h => e h.symm)]
  · rw [Array.getElem?_eq_none (xs := tabB n (updB f i v)) (by rw [tabB_size]; omega), Array.getElem?_eq_none (xs := tabB n f) (by rw [tabB_size]; omega)]
    split
    · rw [if_neg (by omega)]
    · rfl
theorem tabJ_zero (n : Nat) : (List.replicate n (Value.int .i32 0)).toArray = tabJ n fun _ => 0 := by
  apply Array.ext_getElem?
  intro j
  by_cases hj : j < n
  · rw [tabJ_at hj]; simp [hj]
  · rw [Array.getElem?_eq_none (xs := tabJ n fun _ => 0) (by rw [tabJ_size]; omega), Array.getElem?_eq_none (by simpa using hj)]
theorem tabI_zero (n : Nat) : (List.replicate n (Value.int .i64 0)).toArray = tabI n fun _ => 0 := by
  apply Array.ext_getElem?
  intro j
  by_cases hj : j < n
  · rw [tabI_at hj]; simp [hj]
  · rw [Array.getElem?_eq_none (xs := tabI n fun _ => 0) (by rw [tabI_size]; omega), Array.getElem?_eq_none (by simpa using hj)]
theorem tabB_zero (n : Nat) : (List.replicate n (Value.bool false)).toArray = tabB n fun _ => false := by
  apply Array.ext_getElem?
  intro j
  by_cases hj : j < n
  · rw [tabB_at hj]; simp [hj]
  · rw [Array.getElem?_eq_none (xs := tabB n fun _ => false) (by rw [tabB_size]; omega), Array.getElem?_eq_none (by simpa using hj)]
/-- a block whose first cells are numbers of 32 bits -/
def VJ (w : World) (g K : Nat) (f : Nat → Int) : Prop := ∃ cur : Array Value, Blk w g 21 cur ∧ K ≤ cur.size ∧ ∀ i, i < K → cur[i]? = some (jV (f i))
theorem VJ.of_blk {w : World} {g n : Nat} {f : Nat → Int} (h : Blk w g 21 (tabJ n f)) : VJ w g n f := ⟨_, h, by rw [tabJ_size]; exact Nat.le_refl _, fun _ hi => tabJ_at hi⟩
theorem VJ.congr {w : World} {g K : Nat} {f f2 : Nat → Int} (h : VJ w g K f) (e : ∀ i, i < K → f i = f2 i) : VJ w g K f2 := by
  obtain ⟨cur, h1, h2, h3⟩ := h
  exact ⟨cur, h1, h2, fun i hi => by rw [h3 i hi, e i hi]⟩
theorem VJ.rd {w : World} {g K i : Nat} {f : Nat → Int} (h : VJ w g K f) (hi : i < K) : w.cell? ⟨g, i, none⟩ = some (jV (f i)) := by
  obtain ⟨cur, h1, h2, h3⟩ := h
  exact h1.rd i (h3 i hi)
theorem VJ.from_ {w w' : World} {g K : Nat} {f : Nat → Int} (h : VJ w g K f) (hF : From w w') : VJ w' g K f := by
  obtain ⟨cur, h1, h2⟩ := h
  exact ⟨cur, h1.from_ hF, h2⟩
theorem VJ.only {w w' : World} {g g2 K : Nat} {f : Nat → Int} (h : VJ w g K f) (o : Only g2 w w') (hne : g ≠ g2) : VJ w' g K f := by
  obtain ⟨cur, h1, h2⟩ := h
  exact ⟨cur, h1.only o hne, h2⟩
theorem VJ.grown {w w' : World} {g K : Nat} {f : Nat → Int} {r : Option Nat} (h : VJ w g K f) (hg : w.grownBy w' r) (hne : ∀ q, r = some q → q ≠ g) : VJ w' g K f := by
  obtain ⟨cur, h1, h2⟩ := h
  exact ⟨cur, h1.grown hg hne, h2⟩
theorem VJ.put {w : World} {g K i : Nat} {f : Nat → Int} {v : Int} {cur : Array Value} (h : Blk w g 21 (cur.setIfInBounds i (jV v))) (hs : K ≤ cur.size) (hc : ∀ i, i < K → cur[i]? = some (jV (f i))) (hi : i < K) : VJ w g K (upd f i v) := by
  refine ⟨_, h, by rw [Array.size_setIfInBounds]; exact hs, fun j hj => ?_⟩
  rw [Array.getElem?_setIfInBounds]
  by_cases e : i = j
  · subst e; rw [if_pos rfl, if_pos (by omega), upd_same]
  · rw [if_neg e, upd_ne _ _ (fun h => e h.symm)]; exact hc j hj
theorem VJ.range {w : World} {g K k : Nat} {f : Nat → Int} (h : VJ w g K f) (hk : k ≤ K) : w.rangeAt g 0 ((List.range k).map fun i => jV (f i)) := fun j v hv => by
  have hj : j < k := by
    rcases Nat.lt_or_ge j k with a | a
    · exact a
    · rw [List.getElem?_eq_none (by simpa using a)] at hv
      cases hv
  have e := h.rd (show j < K by omega)
  simp [hj] at hv
  rw [Nat.zero_add, e, ← hv]
theorem VJ.lt {w : World} {g K : Nat} {f : Nat → Int} (h : VJ w g K f) : g < w.heap.size := by
  obtain ⟨cur, h1, _⟩ := h
  exact h1.lt
theorem VJ.own {w : World} {base g K c : Nat} {f : Nat → Int} (h : w.ownsRow base 21 1 (.slice (some ⟨g, 0, none⟩) K c) K (((List.range K).map f).map jV)) (h0 : 0 < K) : VJ w g K f ∧ base ≤ g := by
  obtain ⟨g', cur, hA, hg, hb, h1, h2, h3, h4⟩ := own_blk h h0
  cases hA
  refine ⟨⟨_, hb, by rw [List.size_toArray, h3]; omega, fun i hi => ?_⟩, hg⟩
  rw [List.getElem?_toArray]
  have e := congrArg (fun l => l[i]?) h4
  rw [List.getElem?_take, if_pos (by omega)] at e
  rw [e]
  simp [hi]
section
variable {P : Program} {ρ : Operand → Value} {w : World} {t yt : TypeId} {x y : Operand}
theorem i32_in {a : Int} (h : -2147483648 ≤ a ∧ a ≤ 2147483647) : IntKind.i32.wrap a = a := by
  have e : ((2 : Int) ^ IntKind.i32.bits) = 4294967296 := by decide
  have e2 : ((2 : Int) ^ (IntKind.i32.bits - 1)) = 2147483648 := by decide
  unfold IntKind.wrap
  simp only [e, e2, show IntKind.i32.signed = true from rfl, Bool.true_and, decide_eq_true_eq]
  split <;> omega
theorem ro_add32 {a b r : Int} (hx : ρ x = .int .i32 a) (hy : ρ y = .int .i32 b) (he : a + b = r) (h : -2147483648 ≤ r ∧ r ≤ 2147483647) : RO P ρ (.binOp .add t x y yt) w (.int .i32 r) w := by
  have := ro_add (P := P) (ρ := ρ) (w := w) (t := t) (yt := yt) hx hy
  rwa [he, i32_in h] at this
theorem ro_sub32 {a b r : Int} (hx : ρ x = .int .i32 a) (hy : ρ y = .int .i32 b) (he : a - b = r) (h : -2147483648 ≤ r ∧ r ≤ 2147483647) : RO P ρ (.binOp .sub t x y yt) w (.int .i32 r) w := by
  have := ro_sub (P := P) (ρ := ρ) (w := w) (t := t) (yt := yt) hx hy
  rwa [he, i32_in h] at this
theorem ro_conv32 {src dst : TypeId} {k : IntKind} {a : Int} (hs : (P.underlying src).isSome = true) (hd : P.underlying dst = some (.int .i32)) (hx : ρ x = .int k a) (h : -2147483648 ≤ a ∧ a ≤ 2147483647) : RO P ρ (.convert src dst x) w (.int .i32 a) w :=
  ro_conv' hs hd hx (i32_in h)
theorem ro_make {e by_ m : Nat} {z : Value} {kl kc : IntKind} (ht : makeQ P t = some (e, by_, z)) (hz : z.cells = #[z]) (hx : ρ x = .int kl (m : Nat)) (hy : ρ y = .int kc (m : Nat)) (hm : m ≤ 9223372036854775807) (hb : by_ * m ≤ 281474976710656) :
    RO P ρ (.makeSlice t x y) w (.slice (some ⟨w.heap.size, 0, none⟩) m m) (w.alloc (.cells (List.replicate m z).toArray e)) := by
  unfold makeQ at ht
  split at ht
  · rename_i e' hu
    cases hi : P.info? e' with
    | none => simp [hi] at ht
    | some i =>
      rw [hi] at ht
      simp only [Option.bind_some] at ht
      split at ht
      · rename_i hs
        cases hzz : i.zero with
        | none => simp [hzz] at ht
        | some z' =>
          simp only [hzz, Option.map_some, Option.some.injEq, Prod.mk.injEq] at ht
          obtain ⟨rfl, rfl, rfl⟩ := ht
          have hr := run_make (P := P) w t e' i z' hu hi hzz kl kc (m : Int) (m : Int) (by omega) (Int.le_refl _) (by
            have : ((i.bytes * m : Nat) : Int) ≤ 281474976710656 := by omega
            rwa [Int.natCast_mul] at this) (by omega)
          have hcells : madeCells z'.cells ((m : Int).toNat * i.size) = (List.replicate m z').toArray := by
            rw [hs, Int.toNat_natCast, Nat.mul_one, hz]
            apply Array.ext_getElem?
            intro j
            simp only [madeCells, Array.getElem?_map]
            by_cases hj : j < m
            · simp [hj, Nat.mod_one]
            · simp [hj]
          rw [hcells, Int.toNat_natCast] at hr
          exact fun _ _ _ _ _ => by simp [execOp, hx, hy, hr]
      · cases ht
  · cases ht
end
/-! ### a text -/
section
open Classical
noncomputable def rb (n : Nat) (t : Nat → Nat) (i : Nat) : Bool := decide (rz n t i)
theorem rb_iff {n i : Nat} {t : Nat → Nat} : rb n t i = true ↔ rz n t i := decide_eq_true_iff
theorem rb_not {n i : Nat} {t : Nat → Nat} : rb n t i = false ↔ ¬ rz n t i := decide_eq_false_iff_not
end
def TextAt (w : World) (b n K : Nat) (t : Nat → Nat) (m : Nat) (ss : Nat → Nat) : Prop := ∃ gl gr AS cs ge, Blk w b 165 #[.slice (some ⟨gl, 0, none⟩) n n, .int .i64 (K : Nat), .slice (some ⟨gr, 0, none⟩) n n, .slice AS m cs, .slice (some ⟨ge, 0, none⟩) K K] ∧
  VJ w gl n (fun i => (t i : Nat)) ∧ Blk w gr 4 (tabB n (rb n t)) ∧ (0 < m → ∃ g, AS = some ⟨g, 0, none⟩ ∧ VJ w g m (fun k => (ss k : Nat))) ∧ VJ w ge K (fun c => (less n t (c + 1) : Nat))
theorem TextAt.from_ {w w' : World} {b n K m : Nat} {t ss : Nat → Nat} (h : TextAt w b n K t m ss) (hF : From w w') : TextAt w' b n K t m ss := by
  obtain ⟨gl, gr, AS, cs, ge, h1, h2, h3, h4, h5⟩ := h
  exact ⟨gl, gr, AS, cs, ge, h1.from_ hF, h2.from_ hF, h3.from_ hF, fun h0 => (let ⟨g, a, b⟩ := h4 h0; ⟨g, a, b.from_ hF⟩), h5.from_ hF⟩
end Go.Proofs.Ytllmocjfllbbfaa

namespace Go.Proofs.Ytllmocjfllbbfaa
open Go.RowKit
open Go.ChangeShapes Go.WideShapes Go.ChangeAt
open Go.Proofs.Ytllmocjfllbbfaa.SA
theorem SufWalks_e40 : elemQ Try.prog 40 = some (3, 1) := by kernel_rfl
theorem SufWalks_e52 : elemQ Try.prog 52 = some (21, 1) := by kernel_rfl
theorem SufWalks_l40 : (elemQ Try.prog 40).isSome = true := by kernel_rfl
theorem SufWalks_g3 : aggQ Try.prog 3 = some false := by kernel_rfl
theorem SufWalks_m52 : makeQ Try.prog 52 = some (21, 4, (.int .i32 0)) := by kernel_rfl
theorem SufWalks_s3 : (Try.prog.underlying 3).isSome = true := by kernel_rfl
theorem SufWalks_i21 : Try.prog.underlying 21 = some (.int .i32) := by kernel_rfl
theorem SufWalks_z21 : sizeQ Try.prog 21 = some 1 := by kernel_rfl
theorem SufWalks_q52 : litQ Try.prog 52 = some (21, 1, 4, (.int .i32 0)) := by kernel_rfl
theorem SufWalks_u52 : Try.prog.underlying 52 = some (.slice 21) := by kernel_rfl
def okS (k x : Int) : Bool := decide (0 ≤ x) && decide (x < k)
theorem okS_no {k x : Int} (h : x < 0 ∨ k ≤ x) : okS k x = false := by
  unfold okS
  rcases h with h | h
  · rw [decide_eq_false (by omega)]; rfl
  · rw [decide_eq_false (p := x < k) (by omega), Bool.and_false]
theorem okS_yes {k x : Int} (h : 0 ≤ x) (g : x < k) : okS k x = true := by
  unfold okS
  rw [decide_eq_true h, decide_eq_true g]; rfl
theorem okS_iff {k x : Int} : okS k x = true ↔ 0 ≤ x ∧ x < k := by simp [okS]
theorem all_take {p : Int → Bool} {l : List Int} {i : Nat} (hi : i < l.length) (h : (l.take i).all p = true) (hp : p l[i] = true) : (l.take (i + 1)).all p = true := by
  rw [List.take_succ_eq_append_getElem hi, List.all_append, h]; simp [hp]
theorem all_end {p : Int → Bool} {l : List Int} {i : Nat} (hi : ¬ i < l.length) (h : (l.take i).all p = true) : l.all p = true := by
  rwa [List.take_of_length_le (by omega)] at h
theorem all_no {p : Int → Bool} {l : List Int} {i : Nat} (hi : i < l.length) (hp : p l[i] = false) : l.all p = false := by
  rw [Bool.eq_false_iff]
  intro h
  have := List.all_eq_true.1 h _ (List.getElem_mem hi)
  rw [hp] at this
  cases this
set_option maxHeartbeats 400000 in
theorem symbols_rt (A : Option Addr) (c n : Nat) (xs : List Int) (w : World) (hr : RowOf iV w A xs) (hn : n = xs.length) (hl : n ≤ 1000000000000) :
    Rt Try.prog 84 [.slice A n c] w (fun v w' => v = .bool (xs.all (okS 512)) ∧ From w w') := by
  refine enter (n := 18) Try.func84 rfl rfl rfl ?_
  refine cd_seq (cd_region ?_)
  refine asb rfl ?_
  refine st_nil (nx_then (cd_seq (cd_seq (cd_region ?_))))
  refine mvs rfl ?_
  refine st_val (ro_len SufWalks_l40 rfl) ?_
  refine mvi rfl ?_
  refine st_nil (nx_then (cd_block ?_))
  refine cd_loop (G := Nat) [2, 4, 8, 9, 10, 11, 12, 13, 14, 15, 16, 17] (fun k => [(7, .int .i64 (k : Nat))]) (fun k w' => k ≤ n ∧ (xs.take k).all (okS 512) = true ∧ From w w') (fun k => n - k) (0) ⟨rfl, trivial⟩ ?_ ?_
  · exact ⟨Nat.zero_le _, rfl, From.rfl_⟩
  rintro k ρ1 w1 ⟨hk, ht, hB⟩
  refine cd_seq (cd_region ?_)
  refine st_val (ro_lss rfl rfl) ?_
  refine st_nil (nx_then (cd_seq ?_))
  refine cd_cond rfl (fun Q2 => ?_) (fun Q2 => ?_)
  · with_reducible replace Q2 := of_decide_eq_true Q2
    have hkn : k < xs.length := by omega
    obtain ⟨ba, oa, rfl, hca⟩ := hr (by omega)
    refine cd_skip (nx_then (cd_seq (cd_block (cd_seq (cd_region ?_)))))
    refine st_val (ro_indexAddr1 SufWalks_e40 rfl rfl (by omega)) ?_
    refine st_val (ro_load SufWalks_g3 rfl (by exact cellF hB (hca k hkn))) ?_
    refine asi rfl ?_
    refine st_nil (nx_then (cd_seq (cd_region ?_)))
    refine mvi rfl ?_
    refine st_val (ro_lss rfl rfl) ?_
    refine mvb rfl ?_
    refine st_split (t := 13) rfl (fun Q3 => ?_) (fun Q3 => ?_)
    · with_reducible replace Q3 := of_decide_eq_true Q3
      refine st_gno rfl rfl ?_
      refine st_gno rfl rfl ?_
      refine st_val (ro_pickT (v := .bool _) rfl rfl) ?_
      refine st_nil (nx_then ?_)
      refine cd_condT rfl ?_
      refine cd_seq (cd_region ?_)
      refine asb rfl ?_
      refine st_nil (nx_then (cd_ret (rt_block (rt_then (rt_then (rt_block (rt_then ?_)))))))
      refine res1 (v := .bool _) rfl rfl ?_
      exact ⟨by rw [all_no hkn (okS_no (by omega))], hB⟩
    with_reducible replace Q3 := of_decide_eq_false Q3
    refine st_unguard rfl ?_
    refine mvi rfl ?_
    refine st_unguard rfl ?_
    refine st_val (ro_geq rfl rfl) ?_
    refine st_val (ro_pickF (v := .bool _) rfl rfl) ?_
    refine st_nil (nx_then ?_)
    refine cd_cond rfl (fun Q4 => ?_) (fun Q4 => ?_)
    · with_reducible replace Q4 := of_decide_eq_true Q4
      refine cd_seq (cd_region ?_)
      refine asb rfl ?_
      refine st_nil (nx_then (cd_ret (rt_block (rt_then (rt_then (rt_block (rt_then ?_)))))))
      refine res1 (v := .bool _) rfl rfl ?_
      exact ⟨by rw [all_no hkn (okS_no (by omega))], hB⟩
    with_reducible replace Q4 := of_decide_eq_false Q4
    refine cd_skip (nx_block (nx_then (cd_region ?_)))
    refine st_val (ro_addN (b := 1) rfl rfl (by omega)) ?_
    refine mvi rfl ?_
    refine st_nil ?_
    refine nx_cut (k + 1) ⟨(by first | rfl | (refine int_eq ?_; omega)), trivial⟩ (by (iterate 26 refine agr_cons rfl ?_); exact agr_rfl) ⟨?_, ?_⟩
    · exact ⟨by omega, all_take hkn ht (okS_yes (by omega) (by omega)), hB⟩
    · show n - (k + 1) < n - k; omega
  with_reducible replace Q2 := of_decide_eq_false Q2
  refine cd_exit ?_
  refine ex_then (ex_then (ex_block (nx_then (cd_seq (cd_region ?_)))))
  refine asb rfl ?_
  refine st_nil (nx_then (cd_ret ?_))
  refine res1 (v := .bool _) rfl rfl ?_
  exact ⟨by rw [all_end (by omega) ht], hB⟩
/-- a list with its end, as a text -/
def endT (L : List Nat) (i : Nat) : Nat := if h : i < L.length then L[i] + 1 else 0
def endTo (L : List Nat) (k : Nat) (i : Nat) : Int := if i < k then (endT L i : Int) else 0
theorem endTo_put {L : List Nat} {k n : Nat} : tabJ n (upd (endTo L k) k (endT L k : Nat)) = tabJ n (endTo L (k + 1)) := tabJ_congr fun i _ => by
  unfold upd endTo
  by_cases e : i = k
  · subst e; rw [if_pos rfl, if_pos (by omega)]
  · rw [if_neg e]
    by_cases h : i < k
    · rw [if_pos h, if_pos (by omega)]
    · rw [if_neg h, if_neg (by omega)]
theorem endTo_all {L : List Nat} : tabJ (L.length + 1) (endTo L L.length) = tabJ (L.length + 1) fun i => (endT L i : Nat) := tabJ_congr fun i hi => by
  unfold endTo
  by_cases h : i < L.length
  · rw [if_pos h]
  · rw [if_neg h]; unfold endT; rw [dif_neg h]; rfl
theorem endT_txt (L : List Nat) : Txt (L.length + 1) (endT L) := ⟨by omega, by unfold endT; rw [dif_neg (by omega)], fun i hi => by unfold endT; rw [dif_pos (by omega)]; omega⟩
set_option maxHeartbeats 400000 in
theorem withEnd_rt (A : Option Addr) (c n : Nat) (L : List Nat) (w : World) (hr : RowOf iV w A (L.map fun x : Nat => (x : Int))) (hn : n = L.length) (hl : n ≤ 131072) (hx : ∀ x ∈ L, x < 512) :
    Rt Try.prog 99 [.slice A n c] w (fun v w' => (∃ g, v = .slice (some ⟨g, 0, none⟩) (n + 1) (n + 1) ∧ w.heap.size ≤ g ∧ Blk w' g 21 (tabJ (n + 1) fun i => (endT L i : Nat))) ∧ From w w') := by
  refine enter (n := 25) Try.func99 rfl rfl rfl ?_
  refine cd_seq (cd_region ?_)
  refine ass rfl ?_
  refine st_nil (nx_then (cd_seq (cd_region ?_)))
  refine mvs rfl ?_
  refine st_val (ro_len SufWalks_l40 rfl) ?_
  refine st_val (ro_addN (b := 1) rfl rfl (by omega)) ?_
  refine st_make SufWalks_m52 rfl rfl rfl (by omega) (by omega) ?_
  intro b9 w1 E9 hb9 hk9
  have hg9 : w.heap.size ≤ b9 := Nat.le_of_eq hb9.symm
  refine ass rfl ?_
  refine st_nil (nx_then (cd_seq (cd_seq (cd_region ?_))))
  refine mvs rfl ?_
  refine st_val (ro_len SufWalks_l40 rfl) ?_
  refine mvi rfl ?_
  refine st_nil (nx_then (cd_block ?_))
  refine cd_loop (G := Nat) [4, 5, 13, 14, 15, 16, 17, 18, 19, 20, 21, 22, 23] (fun k => [(12, .int .i64 (k : Nat))]) (fun k w' => k ≤ n ∧ Blk w' b9 21 (tabJ (n + 1) (endTo L k)) ∧ From w w') (fun k => n - k) (0) ⟨rfl, trivial⟩ ?_ ?_
  · refine ⟨Nat.zero_le _, ?_, (From.rfl_.next E9)⟩
    rw [tabJ_zero] at hk9
    exact hk9
  rintro k ρ2 w2 ⟨hk, hT, hB⟩
  refine cd_seq (cd_region ?_)
  refine st_val (ro_lss rfl rfl) ?_
  refine st_nil (nx_then (cd_seq ?_))
  refine cd_cond rfl (fun Q3 => ?_) (fun Q3 => ?_)
  · with_reducible replace Q3 := of_decide_eq_true Q3
    have hkn : k < L.length := by omega
    obtain ⟨ba, oa, rfl, hca⟩ := hr (by rw [List.length_map]; omega)
    have hck := hca k (by rw [List.length_map]; omega)
    rw [List.getElem_map] at hck
    have hend : endT L k = L[k] + 1 := by unfold endT; rw [dif_pos hkn]
    have hxk := hx _ (List.getElem_mem hkn)
    refine cd_skip (nx_then (cd_seq (cd_block (cd_seq (cd_region ?_)))))
    refine mvi rfl ?_
    refine st_val (ro_indexAddr1 SufWalks_e40 rfl rfl (by omega)) ?_
    refine st_val (ro_load SufWalks_g3 rfl (by exact cellF hB hck)) ?_
    refine asi rfl ?_
    refine asi rfl ?_
    refine st_nil (nx_then (cd_region ?_))
    refine mvs rfl ?_
    refine mvi rfl ?_
    refine mvi rfl ?_
    refine st_val (ro_conv32 SufWalks_s3 SufWalks_i21 rfl (by omega)) ?_
    refine st_val (ro_add32 rfl rfl (r := (endT L k : Nat)) (by rw [hend]; omega) (by rw [hend]; omega)) ?_
    refine st_val (ro_indexAddr0 SufWalks_e52 rfl rfl (by omega)) ?_
    refine st_put (v := .int _ _) SufWalks_z21 rfl rfl rfl (hT) (by rw [tabJ_size]; omega) ?_
    intro w4 O5 P5
    have P5b : Blk w4 b9 21 (tabJ (n + 1) (endTo L (k + 1))) := by rw [← endTo_put, ← tabJ_set]; exact P5
    refine st_nil (nx_block (nx_then (cd_region ?_)))
    refine st_val (ro_addN (b := 1) rfl rfl (by omega)) ?_
    refine mvi rfl ?_
    refine st_nil ?_
    refine nx_cut (k + 1) ⟨(by first | rfl | (refine int_eq ?_; omega)), trivial⟩ (by (iterate 28 refine agr_cons rfl ?_); exact agr_rfl) ⟨?_, ?_⟩
    · exact ⟨by omega, P5b, (hB.only O5 (hg9))⟩
    · show n - (k + 1) < n - k; omega
  with_reducible replace Q3 := of_decide_eq_false Q3
  refine cd_exit ?_
  refine ex_then (ex_then (ex_block (nx_then (cd_seq (cd_region ?_)))))
  refine mvs rfl ?_
  refine ass rfl ?_
  refine st_nil (nx_then (cd_ret ?_))
  refine res1 (v := .slice _ _ _) rfl rfl ?_
  obtain rfl : k = n := by omega
  exact ⟨⟨b9, rfl, hg9, by subst hn; rw [← endTo_all]; exact hT⟩, hB⟩
set_option maxHeartbeats 400000 in
theorem clone32_rt (A : Option Addr) (c n : Nat) (xs : List Value) (w : World) (hx : xs.length = n * 1) (hr : 0 < n → ∃ b o, A = some ⟨b, o, none⟩ ∧ w.rangeAt b o xs) (hn0 : A = none → n = 0 ∧ c = 0) (h1 : ∀ u ∈ xs, u.oneCell' = true) (hl : n ≤ 100000000000) :
    Rt Try.prog 108 [.slice A n c] w (fun v w' => (∃ A' c', v = .slice A' n c' ∧ w'.ownsRow w.heap.size 21 1 (.slice A' n c') n xs) ∧ From w w') := by
  refine enter (n := 8) Try.func108 rfl rfl rfl ?_
  refine cd_seq (cd_region ?_)
  refine ass rfl ?_
  refine st_nil (nx_then (cd_seq (cd_seq (cd_region ?_))))
  refine mvs rfl ?_
  refine st_val (ro_eqlNilS SufWalks_u52 rfl rfl) ?_
  refine st_nil (nx_then ?_)
  refine cd_cond rfl (fun Q1 => ?_) (fun Q1 => ?_)
  · (try first | (replace Q1 := bn_t Q1; trace "@MK N clone32_rt:c4+ 1.1") | (replace Q1 := bn_f Q1; trace "@MK N clone32_rt:c4+ 1.2"))
    (try first | (replace Q1 := bx_t Q1; trace "@MK N clone32_rt:c4+ 2.1") | (replace Q1 := bx_f Q1; trace "@MK N clone32_rt:c4+ 2.2") | (replace Q1 := be_t Q1; trace "@MK N clone32_rt:c4+ 2.3") | (replace Q1 := be_f Q1; trace "@MK N clone32_rt:c4+ 2.4") | (replace Q1 := of_decide_eq_true Q1; trace "@MK N clone32_rt:c4+ 2.5") | (replace Q1 := of_decide_eq_false Q1; trace "@MK N clone32_rt:c4+ 2.6"))
    obtain rfl : A = none := Option.isNone_iff_eq_none.1 Q1
    obtain ⟨rfl, rfl⟩ := hn0 rfl
    obtain rfl : xs = [] := List.eq_nil_of_length_eq_zero (by omega)
    refine cd_seq (cd_region ?_)
    refine ass rfl ?_
    refine st_nil (nx_then (cd_ret (rt_then ?_)))
    refine res1 (v := .slice _ _ _) rfl rfl ?_
    exact ⟨⟨none, 0, rfl, World.ownsRow_nil _ _ _ _⟩, From.rfl_⟩
  (try first | (replace Q1 := bn_t Q1; trace "@MK N clone32_rt:c4- 1.1") | (replace Q1 := bn_f Q1; trace "@MK N clone32_rt:c4- 1.2"))
  (try first | (replace Q1 := bx_t Q1; trace "@MK N clone32_rt:c4- 2.1") | (replace Q1 := bx_f Q1; trace "@MK N clone32_rt:c4- 2.2") | (replace Q1 := be_t Q1; trace "@MK N clone32_rt:c4- 2.3") | (replace Q1 := be_f Q1; trace "@MK N clone32_rt:c4- 2.4") | (replace Q1 := of_decide_eq_true Q1; trace "@MK N clone32_rt:c4- 2.5") | (replace Q1 := of_decide_eq_false Q1; trace "@MK N clone32_rt:c4- 2.6"))
  have hA4 : A = none → c = 0 := fun h => by rw [h] at Q1; cases Q1
  refine cd_skip (nx_then (cd_seq (cd_region ?_)))
  refine st_lit0 SufWalks_q52 _ (From.rfl_.size) ?_
  intro b5 w2 E5 hb5 ho5
  refine mvs rfl ?_
  refine st_append (a0 := w) SufWalks_q52 rfl (by decide) rfl ho5 (From.rfl_.next E5) rfl hx (fun h => (let ⟨b, o, hA, hc⟩ := hr h; ⟨b, o, hA, rangeF (From.rfl_.next E5) hc⟩)) hA4 h1 (by omega) (by omega) ?_
  intro A7 c7 w3 ho7 B7 hg7
  refine ass rfl ?_
  refine st_nil (nx_then (cd_ret ?_))
  refine res1 (v := .slice _ _ _) rfl rfl ?_
  exact ⟨⟨A7, c7, by rw [Nat.zero_add], by simpa using ho7⟩, B7⟩
theorem clone_vj (g n : Nat) (t : Nat → Int) (w : World) (hb : VJ w g n t) (h0 : 0 < n) (hl : n ≤ 1000000) : Rt Try.prog 108 [.slice (some ⟨g, 0, none⟩) n n] w fun v w' => (∃ g2 c2, v = .slice (some ⟨g2, 0, none⟩) n c2 ∧ w.heap.size ≤ g2 ∧ VJ w' g2 n t) ∧ From w w' := by
  refine (clone32_rt (some ⟨g, 0, none⟩) n n (((List.range n).map t).map jV) w (by simp) (fun _ => ⟨g, 0, rfl, fun j v hv => ?_⟩) (fun h => by cases h) (fun u hu => ?_) (by omega)).mono fun v w' h => ?_
  · have hj : j < n := by
      rcases Nat.lt_or_ge j n with a | a
      · exact a
      · rw [List.getElem?_eq_none (by simpa using a)] at hv
        cases hv
    have e := hb.rd hj
    simp [hj] at hv
    rw [Nat.zero_add, e, ← hv]
  · obtain ⟨x, _, rfl⟩ := List.mem_map.1 hu
    rfl
  · obtain ⟨⟨A2, c2, rfl, ho⟩, hF⟩ := h
    obtain ⟨g2, rfl⟩ := own_some ho h0
    exact ⟨⟨g2, c2, rfl, (VJ.own ho h0).2, (VJ.own ho h0).1⟩, hF⟩
end Go.Proofs.Ytllmocjfllbbfaa

namespace Go.Proofs.Ytllmocjfllbbfaa
open Go.RowKit
open Go.ChangeShapes Go.WideShapes Go.ChangeAt
open Go.Proofs.Ytllmocjfllbbfaa.SA
theorem SufHeads_e52 : elemQ Try.prog 52 = some (21, 1) := by kernel_rfl
theorem SufHeads_q52 : litQ Try.prog 52 = some (21, 1, 4, (.int .i32 0)) := by kernel_rfl
theorem SufHeads_f165_4 : fieldQ Try.prog 165 4 = some 4 := by kernel_rfl
theorem SufHeads_g52 : aggQ Try.prog 52 = some false := by kernel_rfl
theorem SufHeads_f165_1 : fieldQ Try.prog 165 1 = some 1 := by kernel_rfl
theorem SufHeads_g3 : aggQ Try.prog 3 = some false := by kernel_rfl
theorem heads_list (n K : Nat) (t : Nat → Nat) (h0 : 0 < K) : [jV 0] ++ ((List.range (K - 1)).map fun c => jV (less n t (c + 1) : Nat)) = ((List.range K).map fun c => ((less n t c : Nat) : Int)).map jV := by
  obtain ⟨K, rfl⟩ : ∃ k, K = k + 1 := ⟨K - 1, by omega⟩
  have e : less n t 0 = 0 := cnt_none fun i _ h => absurd h (by omega)
  rw [Nat.add_sub_cancel, List.range_succ_eq_map]
  simp [e]
set_option maxHeartbeats 400000 in
theorem heads_rt (b n K m : Nat) (t ss : Nat → Nat) (w : World) (hT : TextAt w b n K t m ss) (hK0 : 0 < K) (hK : K ≤ 1000000) :
    Rt Try.prog 110 [.pointer (some ⟨b, 0, none⟩)] w (fun v w' => (∃ g c, v = .slice (some ⟨g, 0, none⟩) K c ∧ w.heap.size ≤ g ∧ VJ w' g K (fun c => (less n t c : Nat))) ∧ From w w') := by
  obtain ⟨gl, gr, AS, cs, ge, hb, hl, hr, hs, he⟩ := hT
  refine enter (n := 15) Try.func110 rfl rfl rfl ?_
  refine cd_seq (cd_region ?_)
  refine ass rfl ?_
  refine st_nil (nx_then (cd_seq ?_))
  apply cd_mu9 12 11 [3] [(3, fun v w' => ∃ q, v = .slice (some ⟨q, 0, none⟩) 1 1 ∧ w'.ownsRow w.heap.size 21 1 (.slice (some ⟨q, 0, none⟩) 1 1) 1 [jV 0] ∧ (w).heap.size ≤ q), (4, eqp _), (5, eqp _), (6, eqp _), (7, eqp _), (8, eqp _), (9, eqp _), (10, eqp _), (11, eqp _), (12, eqp _), (13, eqp _), (14, fun v w' => ∃ A2 c2, v = .slice A2 K c2 ∧ w'.ownsRow w.heap.size 21 1 (.slice A2 K c2) K ([jV 0] ++ ((List.range (K - 1)).map fun c => jV (less n t (c + 1) : Nat))))] (fun w' => From w w') (fun w' => From w w') (by repeat first | exact pq_body | refine pq_then ?_ | refine pq_block ?_) (by kernel_rfl) (by kernel_rfl) (by kernel_rfl) ⟨(fun _ _ _ hF ⟨q, h1, h2, h3⟩ => ⟨q, h1, h2.kept_from hF, h3⟩), eqp_mono _, eqp_mono _, eqp_mono _, eqp_mono _, eqp_mono _, eqp_mono _, eqp_mono _, eqp_mono _, eqp_mono _, eqp_mono _, (fun _ _ _ hF ⟨A2, c2, h1, h2⟩ => ⟨A2, c2, h1, h2.kept_from hF⟩), trivial⟩ (From.rfl_.d1) (From.rfl_.d1) (fun _ _ hF h => h.next hF) (fun _ _ hF h => h.next hF)
  case hop =>
   refine ⟨?_, ?_⟩
   · rintro - w2 D2
     show OpOK _ _ _ _ _ _ _
     exact ok_val (ro_lit1 SufHeads_q52 rfl rfl rfl) (From.rfl_.new _) ⟨_, rfl, ⟨by simp, .inr ⟨_, 1, #[jV 0], rfl, (From.rfl_.next D2).size, heap_alloc_new _ _, Nat.le_refl _, by decide, by simp, by simp⟩⟩, D2.size⟩
   refine ⟨?_, ?_⟩
   · rintro - w3 D3
     show OpOK _ _ _ _ _ _ _
     exact ok_pure (ro_move (v := .pointer _) rfl) rfl
   refine ⟨?_, ?_⟩
   · rintro - w4 D4
     rintro _ rfl
     show OpOK _ _ _ _ _ _ _
     exact ok_pure (ro_nilCheck rfl) rfl
   refine ⟨?_, ?_⟩
   · rintro - w5 D5
     rintro _ rfl
     show OpOK _ _ _ _ _ _ _
     exact ok_pure (ro_fieldAddr SufHeads_f165_4 rfl) rfl
   refine ⟨?_, ?_⟩
   · rintro - w6 D6
     rintro _ rfl
     show OpOK _ _ _ _ _ _ _
     exact ok_pure (ro_load SufHeads_g52 rfl (by exact cellF (From.rfl_.next D6) (hb.rd 4 rfl))) rfl
   refine ⟨?_, ?_⟩
   · rintro - w7 D7
     show OpOK _ _ _ _ _ _ _
     exact ok_pure (ro_move (v := .pointer _) rfl) rfl
   refine ⟨?_, ?_⟩
   · rintro - w8 D8
     rintro _ rfl
     show OpOK _ _ _ _ _ _ _
     exact ok_pure (ro_nilCheck rfl) rfl
   refine ⟨?_, ?_⟩
   · rintro - w9 D9
     rintro _ rfl
     show OpOK _ _ _ _ _ _ _
     exact ok_pure (ro_fieldAddr SufHeads_f165_1 rfl) rfl
   refine ⟨?_, ?_⟩
   · rintro - w10 D10
     rintro _ rfl
     show OpOK _ _ _ _ _ _ _
     exact ok_pure (ro_load SufHeads_g3 rfl (by exact cellF (From.rfl_.next D10) (hb.rd 1 rfl))) rfl
   refine ⟨?_, ?_⟩
   · rintro - w11 D11
     rintro _ rfl
     show OpOK _ _ _ _ _ _ _
     exact ok_pure (ro_subN (b := 1) rfl rfl (by omega)) rfl
   refine ⟨?_, ?_⟩
   · rintro - w12 D12
     rintro _ rfl _ rfl
     show OpOK _ _ _ _ _ _ _
     exact ok_pure (ro_takeN (m := K - 1) SufHeads_e52 rfl rfl (by omega)) rfl
   refine ⟨?_, ?_⟩
   · intro h; cases h
   exact trivial
  case hmu =>
   rintro w14 D14
   rintro v14_3 ⟨q14, rfl, hq14, hz14⟩ _ rfl
   show MuOK _ _ _ _ _ _ _
   refine mu_append SufHeads_q52 rfl (by decide) rfl hq14 (From.rfl_.next D14).size rfl (by simp) ⟨_, _, rfl, (he.from_ (From.rfl_.next D14)).range (k := K - 1) (by omega)⟩ (by simp [Value.oneCell']) (by omega) (by omega) ?_
   intro A3 c3 w3 ho3 hg3
   exact ⟨D14.grew hg3 (fun k hk => by cases hk; exact hz14), ⟨A3, c3, by rw [show 1 + (K - 1) = K by omega], by rw [show 1 + (K - 1) = K by omega] at ho3; exact ho3⟩, fun t u ht h => muR_look (by repeat first | exact trivial | refine ⟨.inl rfl, ?_⟩ | refine ⟨.inr (fun _ h => h), ?_⟩) t u ht h⟩
  case hend =>
   rintro w15 D15
   rintro v3 _ _ rfl _ rfl _ rfl _ rfl _ rfl _ rfl _ rfl _ rfl _ rfl _ rfl v14 ⟨A14_15, c14_15, rfl, ho14_15⟩
   show St _ _ _ _ _ _ _
   rw [heads_list n K t hK0] at ho14_15
   obtain ⟨g, rfl⟩ := own_some ho14_15 hK0
   have hv := VJ.own ho14_15 hK0
   refine ass rfl ?_
   refine st_nil (nx_then (cd_ret ?_))
   refine res1 (v := .slice _ _ _) rfl rfl ?_
   exact ⟨⟨g, _, rfl, hv.2, hv.1⟩, (From.rfl_.next D15)⟩
end Go.Proofs.Ytllmocjfllbbfaa

namespace Go.Proofs.Ytllmocjfllbbfaa
open Go.RowKit
open Go.ChangeShapes Go.WideShapes Go.ChangeAt
open Go.Proofs.Ytllmocjfllbbfaa.SA
theorem SufText_e52 : elemQ Try.prog 52 = some (21, 1) := by kernel_rfl
theorem SufText_m52 : makeQ Try.prog 52 = some (21, 4, (.int .i32 0)) := by kernel_rfl
theorem SufText_m150 : makeQ Try.prog 150 = some (4, 1, (.bool false)) := by kernel_rfl
theorem SufText_s3 : (Try.prog.underlying 3).isSome = true := by kernel_rfl
theorem SufText_i21 : Try.prog.underlying 21 = some (.int .i32) := by kernel_rfl
theorem SufText_bT : ∀ (a0 : Option Addr) (a1 a2 : Nat) (a3 : Int) (a4 : Option Addr) (a5 a6 : Nat) (a7 : Option Addr) (a8 a9 : Nat), Try.prog.built 165 [(0, .slice a0 a1 a2), (1, .int .i64 a3), (2, .slice a4 a5 a6), (4, .slice a7 a8 a9)] = some #[.slice a0 a1 a2, .int .i64 a3, .slice a4 a5 a6, .slice none 0 0, .slice a7 a8 a9] := by intros; kernel_rfl
theorem SufText_q52 : litQ Try.prog 52 = some (21, 1, 4, (.int .i32 0)) := by kernel_rfl
theorem SufText_l52 : (elemQ Try.prog 52).isSome = true := by kernel_rfl
theorem SufText_f165_2 : fieldQ Try.prog 165 2 = some 2 := by kernel_rfl
theorem SufText_g150 : aggQ Try.prog 150 = some false := by kernel_rfl
theorem SufText_e150 : elemQ Try.prog 150 = some (4, 1) := by kernel_rfl
theorem SufText_z4 : sizeQ Try.prog 4 = some 1 := by kernel_rfl
theorem SufText_g21 : aggQ Try.prog 21 = some false := by kernel_rfl
theorem SufText_g4 : aggQ Try.prog 4 = some false := by kernel_rfl
theorem SufText_f165_3 : fieldQ Try.prog 165 3 = some 3 := by kernel_rfl
theorem SufText_g52 : aggQ Try.prog 52 = some false := by kernel_rfl
theorem SufText_z52 : sizeQ Try.prog 52 = some 1 := by kernel_rfl
theorem SufText_f165_4 : fieldQ Try.prog 165 4 = some 4 := by kernel_rfl
theorem SufText_z21 : sizeQ Try.prog 21 = some 1 := by kernel_rfl
theorem VJ.rdN {w : World} {g K i : Nat} {t : Nat → Nat} (h : VJ w g K fun i => (t i : Nat)) (hi : i < K) : w.cell? ⟨g, i, none⟩ = some (.int .i32 ((t i : Nat) : Int)) := h.rd hi
theorem blk_ne {w : World} {g g2 t t2 : Nat} {cs cs2 : Array Value} (h : Blk w g t cs) (h2 : Blk w g2 t2 cs2) (hne : t ≠ t2) : g ≠ g2 := by
  rintro rfl
  unfold Blk at h h2
  rw [h] at h2
  simp only [Option.some.injEq, Obj.cells.injEq] at h2
  exact hne h2.2.1
/-- what rises, as far as it is known -/
noncomputable def rT (n : Nat) (t : Nat → Nat) (j : Nat) : Array Value := tabB n fun x => if j ≤ x then rb n t x else false
theorem rT_start {w : World} {q n : Nat} {t : Nat → Nat} (ht : Txt n t) (h : Blk w q 4 ((tabB n fun _ => false).setIfInBounds (n - 1) (.bool true))) : Blk w q 4 (rT n t (n - 1)) := by
  rw [tabB_set] at h
  have e : tabB n (updB (fun _ => false) (n - 1) true) = rT n t (n - 1) := tabB_congr fun x hx => by
    unfold updB
    by_cases e : x = n - 1
    · subst e; rw [if_pos rfl, if_pos (Nat.le_refl _)]; exact (rb_iff.2 (rz_last ht)).symm
    · rw [if_neg e, if_neg (by omega)]
  rwa [e] at h
theorem rT_put {w : World} {q n i : Nat} {t : Nat → Nat} {X : Bool} (hX : rb n t i = X) (h : Blk w q 4 ((rT n t (i + 1)).setIfInBounds i (.bool X))) : Blk w q 4 (rT n t i) := by
  subst hX
  unfold rT at h
  rw [tabB_set] at h
  have e : tabB n (updB (fun x => if i + 1 ≤ x then rb n t x else false) i (rb n t i)) = rT n t i := tabB_congr fun x hx => by
    unfold updB
    by_cases e : x = i
    · subst e; rw [if_pos rfl, if_pos (Nat.le_refl _)]
    · rw [if_neg e]
      show (if i + 1 ≤ x then rb n t x else false) = _
      by_cases h : i + 1 ≤ x
      · rw [if_pos h, if_pos (by omega)]
      · rw [if_neg h, if_neg (by omega)]
  rwa [e] at h
theorem rT_rd {w : World} {q n j i : Nat} {t : Nat → Nat} (h : Blk w q 4 (rT n t j)) (hj : j ≤ i) (hi : i < n) : w.cell? ⟨q, i, none⟩ = some (.bool (rb n t i)) := h.rd i (by unfold rT; rw [tabB_at hi, if_pos hj])
theorem rT_zero {n : Nat} {t : Nat → Nat} : rT n t 0 = tabB n (rb n t) := tabB_congr fun x _ => if_pos (Nat.zero_le _)
theorem rT_size {n j : Nat} {t : Nat → Nat} : (rT n t j).size = n := tabB_size
theorem rb_lt {n i : Nat} {t : Nat → Nat} (h : Txt n t) (hi : i + 1 < n) (hlt : t i < t (i + 1)) : rb n t i = true := rb_iff.2 ((rz_iff h hi).2 (.inl hlt))
theorem rb_gt {n i : Nat} {t : Nat → Nat} (h : Txt n t) (hi : i + 1 < n) (hlt : t (i + 1) < t i) : rb n t i = false := rb_not.2 fun e => by rcases (rz_iff h hi).1 e with a | a <;> omega
theorem rb_eq {n i : Nat} {t : Nat → Nat} (h : Txt n t) (hi : i + 1 < n) (he : t i = t (i + 1)) : rb n t i = rb n t (i + 1) := by
  rw [Bool.eq_iff_iff, rb_iff, rb_iff, rz_iff h hi]
  exact ⟨fun a => a.elim (fun a => by omega) (fun a => a.2), fun a => .inr ⟨he, a⟩⟩
open Classical in
/-- the starts below i -/
noncomputable def stL (n : Nat) (t : Nat → Nat) : Nat → List Nat
  | 0 => []
  | i + 1 => stL n t i ++ if lms n t i then [i] else []
theorem stL_yes {n i : Nat} {t : Nat → Nat} (hi : 0 < i) (hn : i < n) (h1 : rb n t i = true) (h2 : rb n t (i - 1) = false) : stL n t (i + 1) = stL n t i ++ [i] := by
  conv => lhs; unfold stL
  rw [if_pos ⟨hi, hn, rb_iff.1 h1, rb_not.1 h2⟩]
theorem stL_no {n i : Nat} {t : Nat → Nat} (h : rb n t i = false ∨ rb n t (i - 1) = true) : stL n t (i + 1) = stL n t i := by
  conv => lhs; unfold stL
  rw [if_neg, List.append_nil]
  rintro ⟨_, _, a, b⟩
  rcases h with h | h
  · exact rb_not.1 h a
  · exact b (rb_iff.1 h)
theorem stL_one {n : Nat} {t : Nat → Nat} : stL n t 1 = [] := by
  unfold stL
  rw [if_neg (fun h => absurd h.1 (Nat.lt_irrefl 0))]
  rfl
theorem stL_mem {n s : Nat} {t : Nat → Nat} : ∀ {i : Nat}, s ∈ stL n t i ↔ s < i ∧ lms n t s
  | 0 => by simp [stL]
  | i + 1 => by
    unfold stL
    rw [List.mem_append, stL_mem]
    split
    · rename_i h
      constructor
      · rintro (⟨a, b⟩ | a)
        · exact ⟨by omega, b⟩
        · simp only [List.mem_singleton] at a
          subst a
          exact ⟨by omega, h⟩
      · rintro ⟨a, b⟩
        by_cases e : s = i
        · exact .inr (by simp [e])
        · exact .inl ⟨by omega, b⟩
    · rename_i h
      constructor
      · rintro (⟨a, b⟩ | a)
        · exact ⟨by omega, b⟩
        · cases a
      · rintro ⟨a, b⟩
        refine .inl ⟨?_, b⟩
        rcases Nat.lt_or_ge s i with c | c
        · exact c
        · obtain rfl : s = i := by omega
          exact absurd b h
theorem stL_up {n : Nat} {t : Nat → Nat} : ∀ {i : Nat}, (stL n t i).Pairwise (· < ·)
  | 0 => by simp [stL]
  | i + 1 => by
    unfold stL
    rw [List.pairwise_append]
    refine ⟨stL_up, by split <;> simp, fun a ha b hb => ?_⟩
    split at hb
    · simp only [List.mem_singleton] at hb
      subst hb
      exact (stL_mem.1 ha).1
    · cases hb
theorem stL_len {n : Nat} {t : Nat → Nat} : ∀ {i : Nat}, (stL n t i).length ≤ i
  | 0 => by simp [stL]
  | i + 1 => by
    have := stL_len (n := n) (t := t) (i := i)
    unfold stL
    rw [List.length_append]
    split <;> simp <;> omega
noncomputable def stF (n : Nat) (t : Nat → Nat) (k : Nat) : Nat := (stL n t n)[k]?.getD 0
theorem stF_eq {n k : Nat} {t : Nat → Nat} (h : k < (stL n t n).length) : stF n t k = (stL n t n)[k] := by unfold stF; rw [List.getElem?_eq_getElem h]; rfl
theorem stF_starts (n : Nat) (t : Nat → Nat) : Starts n t (stL n t n).length (stF n t) := by
  refine ⟨fun k hk => ?_, fun a b hab hb => ?_, fun s hs => ?_⟩
  · rw [stF_eq hk]; exact (stL_mem.1 (List.getElem_mem hk)).2
  · rw [stF_eq hb, stF_eq (by omega)]
    exact List.pairwise_iff_getElem.1 stL_up a b (by omega) hb hab
  · obtain ⟨k, hk, e⟩ := List.getElem_of_mem (stL_mem.2 ⟨hs.2.1, hs⟩)
    exact ⟨k, hk, by rw [stF_eq hk, e]⟩
theorem stF_row {n : Nat} {t : Nat → Nat} : ((List.range (stL n t n).length).map fun k => ((stF n t k : Nat) : Int)) = (stL n t n).map fun x : Nat => (x : Int) := by
  apply List.ext_getElem
  · simp
  · intro k h1 h2
    have hk : k < (stL n t n).length := by simpa using h2
    simp [stF_eq hk]
/-- how many of the first k symbols are so -/
noncomputable def cT (n K : Nat) (t : Nat → Nat) (k : Nat) : Array Value := tabJ K fun c => ((cnt k fun i => t i = c : Nat) : Int)
theorem cT_rd {w : World} {p n K k c : Nat} {t : Nat → Nat} (h : Blk w p 21 (cT n K t k)) (hc : c < K) : w.cell? ⟨p, c, none⟩ = some (.int .i32 (cnt k fun i => t i = c : Nat)) := h.rd c (tabJ_at hc)
theorem cT_put {w : World} {p n K k : Nat} {t : Nat → Nat} (h : Blk w p 21 ((cT n K t k).setIfInBounds (t k) (jV (cnt k (fun i => t i = t k) + 1 : Nat)))) : Blk w p 21 (cT n K t (k + 1)) := by
  unfold cT at h
  rw [tabJ_set] at h
  have e : tabJ K (upd (fun c => ((cnt k fun i => t i = c : Nat) : Int)) (t k) ((cnt k (fun i => t i = t k) + 1 : Nat) : Int)) = cT n K t (k + 1) := tabJ_congr fun c _ => by
    conv => rhs; unfold cnt
    by_cases e : c = t k
    · subst e; rw [upd_same, if_pos rfl]
    · rw [upd_ne _ _ e, if_neg (fun h => e h.symm)]; rfl
  rwa [e] at h
/-- the ends, as far as they are known -/
noncomputable def eT (n K : Nat) (t : Nat → Nat) (c : Nat) : Array Value := tabJ K fun x => if x < c then ((less n t (x + 1) : Nat) : Int) else ((cnt n fun i => t i = x : Nat) : Int)
theorem eT_one {n K : Nat} {t : Nat → Nat} : cT n K t n = eT n K t 1 := tabJ_congr fun c _ => by
  by_cases h : c < 1
  · obtain rfl : c = 0 := by omega
    have e : less n t 0 = 0 := cnt_none fun i _ h => absurd h (by omega)
    have := less_succ (n := n) (t := t) 0
    rw [if_pos (by omega)]
    omega
  · rw [if_neg h]
theorem eT_lo {w : World} {p n K c x : Nat} {t : Nat → Nat} (h : Blk w p 21 (eT n K t c)) (hx : x + 1 = c) (hk : x < K) : w.cell? ⟨p, x, none⟩ = some (.int .i32 (less n t c : Nat)) := h.rd x (by unfold eT; rw [tabJ_at hk, if_pos (by omega), hx])
theorem eT_hi {w : World} {p n K c x : Nat} {t : Nat → Nat} (h : Blk w p 21 (eT n K t c)) (hx : ¬ x < c) (hk : x < K) : w.cell? ⟨p, x, none⟩ = some (.int .i32 (cnt n fun i => t i = x : Nat)) := h.rd x (by unfold eT; rw [tabJ_at hk, if_neg hx])
theorem eT_put {w : World} {p n K c : Nat} {t : Nat → Nat} (h : Blk w p 21 ((eT n K t c).setIfInBounds c (jV (less n t (c + 1) : Nat)))) : Blk w p 21 (eT n K t (c + 1)) := by
  unfold eT at h
  rw [tabJ_set] at h
  have e : tabJ K (upd (fun x => if x < c then ((less n t (x + 1) : Nat) : Int) else ((cnt n fun i => t i = x : Nat) : Int)) c ((less n t (c + 1) : Nat) : Int)) = eT n K t (c + 1) := tabJ_congr fun x _ => by
    by_cases e : x = c
    · subst e; rw [upd_same, if_pos (by omega)]
    · rw [upd_ne _ _ e]
      by_cases h : x < c
      · rw [if_pos h, if_pos (by omega)]
      · rw [if_neg h, if_neg (by omega)]
  rwa [e] at h
theorem eT_all {n K c : Nat} {t : Nat → Nat} (h : K ≤ c) : eT n K t c = tabJ K fun x => ((less n t (x + 1) : Nat) : Int) := tabJ_congr fun x hx => if_pos (by omega)
theorem less_le {n c : Nat} {t : Nat → Nat} : less n t c ≤ n := cnt_le_n n _
set_option maxHeartbeats 1500000 in
theorem newText_rt (gl n K : Nat) (t : Nat → Nat) (w : World) (hl : VJ w gl n (fun i => (t i : Nat))) (ht : Txt n t) (hkt : ∀ i, i < n → t i < K) (hn : n ≤ 200000) (hK : K ≤ 200000) :
    Rt Try.prog 98 [.slice (some ⟨gl, 0, none⟩) n n, .int .i64 (K : Nat)] w (fun v w' => (∃ b m ss, v = .pointer (some ⟨b, 0, none⟩) ∧ TextAt w' b n K t m ss ∧ Starts n t m ss) ∧ From w w') := by
  have hn0 := ht.pos
  refine enter (n := 147) Try.func98 rfl rfl rfl ?_
  refine cd_seq (cd_region ?_)
  refine asp rfl ?_
  refine st_nil (nx_then (cd_seq ?_))
  apply cd_drawn 10 [(12, eqp _), (13, eqp _), (14, eqp _), (15, eqp _), (16, fun v w' => ∃ q, v = .slice (some ⟨q, 0, none⟩) n n ∧ w.heap.size ≤ q ∧ Blk w' q 4 (tabB n fun _ => false)), (17, eqp _), (18, fun v w' => ∃ p, v = .slice (some ⟨p, 0, none⟩) K K ∧ w.heap.size ≤ p ∧ Blk w' p 21 (tabJ K fun _ => 0)), (19, fun v w' => ∃ q p, v = .agg #[.slice (some ⟨gl, 0, none⟩) n n, .int .i64 (K : Nat), .slice (some ⟨q, 0, none⟩) n n, .slice none 0 0, .slice (some ⟨p, 0, none⟩) K K] ∧ (w.heap.size ≤ q ∧ Blk w' q 4 (tabB n fun _ => false)) ∧ w.heap.size ≤ p ∧ Blk w' p 21 (tabJ K fun _ => 0)), (20, fun v w' => ∃ b q p, v = .pointer (some ⟨b, 0, none⟩) ∧ (w.heap.size ≤ b ∧ Blk w' b 165 #[.slice (some ⟨gl, 0, none⟩) n n, .int .i64 (K : Nat), .slice (some ⟨q, 0, none⟩) n n, .slice none 0 0, .slice (some ⟨p, 0, none⟩) K K]) ∧ (w.heap.size ≤ q ∧ Blk w' q 4 (tabB n fun _ => false)) ∧ w.heap.size ≤ p ∧ Blk w' p 21 (tabJ K fun _ => 0)), (5, fun v w' => ∃ b q p, v = .pointer (some ⟨b, 0, none⟩) ∧ (w.heap.size ≤ b ∧ Blk w' b 165 #[.slice (some ⟨gl, 0, none⟩) n n, .int .i64 (K : Nat), .slice (some ⟨q, 0, none⟩) n n, .slice none 0 0, .slice (some ⟨p, 0, none⟩) K K]) ∧ (w.heap.size ≤ q ∧ Blk w' q 4 (tabB n fun _ => false)) ∧ w.heap.size ≤ p ∧ Blk w' p 21 (tabJ K fun _ => 0))] (by kernel_rfl) (by kernel_rfl) ⟨eqp_mono _, eqp_mono _, eqp_mono _, eqp_mono _, (fun _ _ _ hF ⟨q, h1, h2, h3⟩ => ⟨q, h1, h2, h3.from_ hF⟩), eqp_mono _, (fun _ _ _ hF ⟨q, h1, h2, h3⟩ => ⟨q, h1, h2, h3.from_ hF⟩), (fun _ _ _ hF ⟨q, p, h1, ⟨h2, h3⟩, h4, h5⟩ => ⟨q, p, h1, ⟨h2, h3.from_ hF⟩, h4, h5.from_ hF⟩), (fun _ _ _ hF ⟨b, q, p, h1, ⟨h6, h7⟩, ⟨h2, h3⟩, h4, h5⟩ => ⟨b, q, p, h1, ⟨h6, h7.from_ hF⟩, ⟨h2, h3.from_ hF⟩, h4, h5.from_ hF⟩), (fun _ _ _ hF ⟨b, q, p, h1, ⟨h6, h7⟩, ⟨h2, h3⟩, h4, h5⟩ => ⟨b, q, p, h1, ⟨h6, h7.from_ hF⟩, ⟨h2, h3.from_ hF⟩, h4, h5.from_ hF⟩), trivial⟩
  case hop =>
   refine ⟨?_, ?_⟩
   · intro w2 D2
     show OpOK _ _ _ _ _ _ _
     exact ok_pure (ro_move (v := .slice _ _ _) rfl) rfl
   refine ⟨?_, ?_⟩
   · intro w3 D3
     show OpOK _ _ _ _ _ _ _
     exact ok_pure (ro_move (v := .int _ _) rfl) rfl
   refine ⟨?_, ?_⟩
   · intro w4 D4
     show OpOK _ _ _ _ _ _ _
     exact ok_pure (ro_move (v := .slice _ _ _) rfl) rfl
   refine ⟨?_, ?_⟩
   · intro w5 D5
     rintro _ rfl
     show OpOK _ _ _ _ _ _ _
     exact ok_pure (ro_len SufText_l52 rfl) rfl
   refine ⟨?_, ?_⟩
   · intro w6 D6
     rintro _ rfl
     show OpOK _ _ _ _ _ _ _
     exact ok_val (ro_make SufText_m150 rfl rfl rfl (by omega) (by omega)) (From.rfl_.new _) ⟨_, rfl, (From.rfl_.next D6).size, by rw [← tabB_zero]; exact Blk.new _ _ _⟩
   refine ⟨?_, ?_⟩
   · intro w7 D7
     show OpOK _ _ _ _ _ _ _
     exact ok_pure (ro_move (v := .int _ _) rfl) rfl
   refine ⟨?_, ?_⟩
   · intro w8 D8
     rintro _ rfl
     show OpOK _ _ _ _ _ _ _
     exact ok_val (ro_make SufText_m52 rfl rfl rfl (by omega) (by omega)) (From.rfl_.new _) ⟨_, rfl, (From.rfl_.next D8).size, by rw [← tabJ_zero]; exact Blk.new _ _ _⟩
   refine ⟨?_, ?_⟩
   · intro w9 D9
     rintro _ rfl _ rfl v9_16 ⟨q9, rfl, gq9, hq9⟩ v9_18 ⟨p9, rfl, gp9, hp9⟩
     show OpOK _ _ _ _ _ _ _
     exact ok_pure (ro_build (SufText_bT _ _ _ _ _ _ _ _ _ _)) ⟨_, _, rfl, ⟨gq9, hq9⟩, gp9, hp9⟩
   refine ⟨?_, ?_⟩
   · intro w10 D10
     rintro v10_19 ⟨q10, p10, rfl, ⟨gq10, hq10⟩, gp10, hp10⟩
     show OpOK _ _ _ _ _ _ _
     exact ok_val (ro_box rfl) (From.rfl_.new _) ⟨_, _, _, rfl, ⟨(From.rfl_.next D10).size, Blk.new _ _ _⟩, ⟨gq10, hq10.from_ (From.rfl_.new _)⟩, gp10, hp10.from_ (From.rfl_.new _)⟩
   refine ⟨?_, ?_⟩
   · intro w11 D11
     rintro v11_20 ⟨b11, q11, p11, rfl, ⟨gb11, hb11⟩, ⟨gq11, hq11⟩, gp11, hp11⟩
     show OpOK _ _ _ _ _ _ _
     exact ok_pure (ro_assign rfl) ⟨_, _, _, rfl, ⟨gb11, hb11⟩, ⟨gq11, hq11⟩, gp11, hp11⟩
   exact trivial
  case hend =>
   intro w12 D12
   rintro _ rfl _ rfl _ rfl _ rfl v16 ⟨q12, rfl, gq12, hq12⟩ _ rfl v18 ⟨p12, rfl, gp12, hp12⟩ v19 ⟨q12, p12, rfl, ⟨gq12, hq12⟩, gp12, hp12⟩ v20 ⟨b12, q12, p12, rfl, ⟨gb12, hb12⟩, ⟨gq12, hq12⟩, gp12, hp12⟩ v5 ⟨b, q, p, rfl, ⟨gb, hT⟩, ⟨gq, hR⟩, gp, hE⟩
   show St _ _ _ _ _ _ _
   obtain ⟨z, hz⟩ : ∃ z, z = (w12).heap.size := ⟨_, rfl⟩
   have hpz := hE.lt
   have hwz : w.heap.size ≤ z := by omega
   refine st_nil (nx_then (cd_seq (cd_region ?_)))
   refine mvs rfl ?_
   refine st_val (ro_len SufText_l52 rfl) ?_
   refine asi rfl ?_
   refine st_nil (nx_then (cd_seq (cd_region ?_)))
   refine mvp rfl ?_
   refine st_val (ro_nilCheck rfl) ?_
   refine st_val (ro_fieldAddr SufText_f165_2 rfl) ?_
   refine st_val (ro_load SufText_g150 rfl (by exact hT.rd 2 rfl)) ?_
   refine mvi rfl ?_
   refine st_val (ro_subN (b := 1) rfl rfl (by omega)) ?_
   refine st_val (ro_indexAddr0 SufText_e150 rfl rfl (by omega)) ?_
   refine st_put (v := .bool _) SufText_z4 rfl rfl rfl (hR) (by rw [tabB_size]; omega) ?_
   intro w13 O3 P3
   have hT3 := hT.only O3 (blk_ne hT hR (by decide))
   have hE3 := hE.only O3 (blk_ne hE hR (by decide))
   have hR3 := rT_start ht P3
   refine st_nil (nx_then (cd_seq (cd_seq (cd_region ?_))))
   refine mvi rfl ?_
   refine st_val (ro_sub64 rfl rfl (by omega)) ?_
   refine asi rfl ?_
   refine st_nil (nx_then (cd_block ?_))
   refine cd_loop (G := Nat) [32, 33, 34, 35, 36, 37, 38, 39, 40, 41, 42, 43, 44, 45, 46, 47, 48, 49, 50, 51, 52, 53, 54, 55, 56, 57, 58, 59, 60, 61, 62, 63, 64, 65, 66, 67, 68, 69, 70, 71, 72, 73] (fun j => [(7, .int .i64 ((j : Nat) - 1 : Int))]) (fun j w' => j ≤ n - 1 ∧ Blk w' b 165 #[.slice (some ⟨gl, 0, none⟩) n n, .int .i64 (K : Nat), .slice (some ⟨q, 0, none⟩) n n, .slice none 0 0, .slice (some ⟨p, 0, none⟩) K K] ∧ Blk w' q 4 (rT n t j) ∧ Blk w' p 21 (tabJ K fun _ => 0) ∧ z ≤ w'.heap.size ∧ From w w') (fun j => j) (n - 1) ⟨(int_eq (by omega)), trivial⟩ ?_ ?_
   · exact ⟨Nat.le_refl _, hT3.from_ From.rfl_, hR3.from_ From.rfl_, hE3.from_ From.rfl_, by rw [hz]; exact Nat.le_trans (Nat.le_of_eq rfl) (O3.size.symm ▸ Nat.le_refl _), ((From.rfl_.next D12).only O3 (gq))⟩
   rintro j ρ14 w14 ⟨hj, hT, hR, hE, hzs, hB⟩
   refine cd_seq (cd_seq (cd_region ?_))
   refine mvi rfl ?_
   refine st_val (ro_geq rfl rfl) ?_
   refine st_nil (nx_then ?_)
   refine cd_cond rfl (fun Q15 => ?_) (fun Q15 => ?_)
   · with_reducible replace Q15 := of_decide_eq_true Q15
     obtain ⟨i, rfl⟩ : ∃ i, j = i + 1 := ⟨j - 1, by omega⟩
     have e7 : (Value.int .i64 (((i + 1 : Nat) : Int) - 1)) = .int .i64 (i : Nat) := int_eq (by omega)
     rw [e7]
     refine cd_skip (nx_then (cd_seq (cd_block ?_)))
     rcases Nat.lt_trichotomy (t i) (t (i + 1)) with h1 | h1 | h1
     · have hX := rb_lt ht (by omega) h1
       apply cd_drawn 38 [(36, eqp _), (37, eqp _), (38, eqp _), (39, eqp _), (40, eqp _), (41, eqp _), (42, eqp _), (43, eqp _), (44, eqp _), (45, eqp _), (46, eqp _), (47, eqp _), (48, eqp _), (49, eqp _), (50, eqp _), (51, eqp _), (52, eqp _), (53, eqp _), (54, eqp _), (55, eqp _), (56, eqp _), (57, eqp _), (58, eqp _), (59, eqp _), (60, eqp _), (61, eqp _), (62, eqp _), (63, eqp _), (64, eqp _), (65, eqp _), (66, eqp _), (67, eqp _), (68, eqp _), (69, eqp _), (70, eqp _), (71, eqp _), (72, eqp _), (73, eqp _)] (by kernel_rfl) (by kernel_rfl) ⟨eqp_mono _, eqp_mono _, eqp_mono _, eqp_mono _, eqp_mono _, eqp_mono _, eqp_mono _, eqp_mono _, eqp_mono _, eqp_mono _, eqp_mono _, eqp_mono _, eqp_mono _, eqp_mono _, eqp_mono _, eqp_mono _, eqp_mono _, eqp_mono _, eqp_mono _, eqp_mono _, eqp_mono _, eqp_mono _, eqp_mono _, eqp_mono _, eqp_mono _, eqp_mono _, eqp_mono _, eqp_mono _, eqp_mono _, eqp_mono _, eqp_mono _, eqp_mono _, eqp_mono _, eqp_mono _, eqp_mono _, eqp_mono _, eqp_mono _, eqp_mono _, trivial⟩
       case hop =>
        refine ⟨?_, ?_⟩
        · intro w17 D17
          show OpOK _ _ _ _ _ _ _
          exact ok_pure (ro_move (v := .pointer _) rfl) rfl
        refine ⟨?_, ?_⟩
        · intro w18 D18
          rintro _ rfl
          show OpOK _ _ _ _ _ _ _
          exact ok_pure (ro_nilCheck rfl) rfl
        refine ⟨?_, ?_⟩
        · intro w19 D19
          rintro _ rfl
          show OpOK _ _ _ _ _ _ _
          exact ok_pure (ro_fieldAddr SufText_f165_2 rfl) rfl
        refine ⟨?_, ?_⟩
        · intro w20 D20
          rintro _ rfl
          show OpOK _ _ _ _ _ _ _
          exact ok_pure (ro_load SufText_g150 rfl (by exact (hT.from_ (From.rfl_.next D20)).rd 2 rfl)) rfl
        refine ⟨?_, ?_⟩
        · intro w21 D21
          show OpOK _ _ _ _ _ _ _
          exact ok_pure (ro_move (v := .int _ _) rfl) rfl
        refine ⟨?_, ?_⟩
        · intro w22 D22
          show OpOK _ _ _ _ _ _ _
          exact ok_pure (ro_move (v := .slice _ _ _) rfl) rfl
        refine ⟨?_, ?_⟩
        · intro w23 D23
          show OpOK _ _ _ _ _ _ _
          exact ok_pure (ro_move (v := .int _ _) rfl) rfl
        refine ⟨?_, ?_⟩
        · intro w24 D24
          rintro _ rfl _ rfl
          show OpOK _ _ _ _ _ _ _
          exact ok_pure (ro_indexAddr0 SufText_e52 rfl rfl (by omega)) rfl
        refine ⟨?_, ?_⟩
        · intro w25 D25
          rintro _ rfl
          show OpOK _ _ _ _ _ _ _
          exact ok_pure (ro_load SufText_g21 rfl (by exact (hl.from_ (hB.next D25)).rdN (by omega))) rfl
        refine ⟨?_, ?_⟩
        · intro w26 D26
          show OpOK _ _ _ _ _ _ _
          exact ok_pure (ro_move (v := .slice _ _ _) rfl) rfl
        refine ⟨?_, ?_⟩
        · intro w27 D27
          show OpOK _ _ _ _ _ _ _
          exact ok_pure (ro_move (v := .int _ _) rfl) rfl
        refine ⟨?_, ?_⟩
        · intro w28 D28
          rintro _ rfl
          show OpOK _ _ _ _ _ _ _
          exact ok_pure (ro_addN (b := 1) rfl rfl (by omega)) rfl
        refine ⟨?_, ?_⟩
        · intro w29 D29
          rintro _ rfl _ rfl
          show OpOK _ _ _ _ _ _ _
          exact ok_pure (ro_indexAddr0 SufText_e52 rfl rfl (by omega)) rfl
        refine ⟨?_, ?_⟩
        · intro w30 D30
          rintro _ rfl
          show OpOK _ _ _ _ _ _ _
          exact ok_pure (ro_load SufText_g21 rfl (by exact (hl.from_ (hB.next D30)).rdN (by omega))) rfl
        refine ⟨?_, ?_⟩
        · intro w31 D31
          rintro _ rfl _ rfl
          show OpOK _ _ _ _ _ _ _
          exact ok_pure (ro_bt (ro_lss rfl rfl) (decide_eq_true (by omega))) rfl
        refine ⟨?_, ?_⟩
        · intro w32 D32
          rintro _ rfl
          show OpOK _ _ _ _ _ _ _
          exact ok_pure (ro_move (v := .bool _) rfl) rfl
        refine ⟨?_, ?_⟩
        · intro w33 D33
          rintro _ rfl
          show OpOK _ _ _ _ _ _ _
          exact ok_gno rfl rfl rfl
        refine ⟨?_, ?_⟩
        · intro w34 D34
          rintro _ rfl
          show OpOK _ _ _ _ _ _ _
          exact ok_gno rfl rfl rfl
        refine ⟨?_, ?_⟩
        · intro w35 D35
          rintro _ rfl _ rfl _ rfl
          show OpOK _ _ _ _ _ _ _
          exact ok_gno rfl rfl rfl
        refine ⟨?_, ?_⟩
        · intro w36 D36
          rintro _ rfl _ rfl
          show OpOK _ _ _ _ _ _ _
          exact ok_gno rfl rfl rfl
        refine ⟨?_, ?_⟩
        · intro w37 D37
          rintro _ rfl
          show OpOK _ _ _ _ _ _ _
          exact ok_gno rfl rfl rfl
        refine ⟨?_, ?_⟩
        · intro w38 D38
          rintro _ rfl
          show OpOK _ _ _ _ _ _ _
          exact ok_gno rfl rfl rfl
        refine ⟨?_, ?_⟩
        · intro w39 D39
          rintro _ rfl _ rfl
          show OpOK _ _ _ _ _ _ _
          exact ok_gno rfl rfl rfl
        refine ⟨?_, ?_⟩
        · intro w40 D40
          rintro _ rfl _ rfl _ rfl
          show OpOK _ _ _ _ _ _ _
          exact ok_gno rfl rfl rfl
        refine ⟨?_, ?_⟩
        · intro w41 D41
          rintro _ rfl _ rfl
          show OpOK _ _ _ _ _ _ _
          exact ok_gno rfl rfl rfl
        refine ⟨?_, ?_⟩
        · intro w42 D42
          rintro _ rfl _ rfl _ rfl
          show OpOK _ _ _ _ _ _ _
          exact ok_gno rfl rfl rfl
        refine ⟨?_, ?_⟩
        · intro w43 D43
          rintro _ rfl _ rfl
          show OpOK _ _ _ _ _ _ _
          exact ok_gno rfl rfl rfl
        refine ⟨?_, ?_⟩
        · intro w44 D44
          rintro _ rfl
          show OpOK _ _ _ _ _ _ _
          exact ok_gund rfl rfl
        refine ⟨?_, ?_⟩
        · intro w45 D45
          rintro _ rfl _ rfl
          show OpOK _ _ _ _ _ _ _
          exact ok_gund rfl rfl
        refine ⟨?_, ?_⟩
        · intro w46 D46
          rintro _ rfl _ rfl
          show OpOK _ _ _ _ _ _ _
          exact ok_gund rfl rfl
        refine ⟨?_, ?_⟩
        · intro w47 D47
          rintro _ rfl _ rfl
          show OpOK _ _ _ _ _ _ _
          exact ok_gund rfl rfl
        refine ⟨?_, ?_⟩
        · intro w48 D48
          rintro _ rfl
          show OpOK _ _ _ _ _ _ _
          exact ok_gund rfl rfl
        refine ⟨?_, ?_⟩
        · intro w49 D49
          rintro _ rfl _ rfl
          show OpOK _ _ _ _ _ _ _
          exact ok_gund rfl rfl
        refine ⟨?_, ?_⟩
        · intro w50 D50
          rintro _ rfl _ rfl _ rfl
          show OpOK _ _ _ _ _ _ _
          exact ok_gund rfl rfl
        refine ⟨?_, ?_⟩
        · intro w51 D51
          rintro _ rfl _ rfl
          show OpOK _ _ _ _ _ _ _
          exact ok_gund rfl rfl
        refine ⟨?_, ?_⟩
        · intro w52 D52
          rintro _ rfl _ rfl _ rfl
          show OpOK _ _ _ _ _ _ _
          exact ok_gno rfl rfl rfl
        refine ⟨?_, ?_⟩
        · intro w53 D53
          rintro _ rfl _ rfl
          show OpOK _ _ _ _ _ _ _
          exact ok_pure (ro_pickT (v := .bool _) rfl rfl) rfl
        refine ⟨?_, ?_⟩
        · intro w54 D54
          rintro _ rfl _ rfl
          show OpOK _ _ _ _ _ _ _
          exact ok_pure (ro_indexAddr0 SufText_e150 rfl rfl (by omega)) rfl
        exact trivial
       case hend =>
        intro w55 D55
        rintro _ rfl _ rfl _ rfl _ rfl _ rfl _ rfl _ rfl _ rfl _ rfl _ rfl _ rfl _ rfl _ rfl _ rfl _ rfl _ rfl _ rfl _ rfl _ rfl _ rfl _ rfl _ rfl _ rfl _ rfl _ rfl _ rfl _ rfl _ rfl _ rfl _ rfl _ rfl _ rfl _ rfl _ rfl _ rfl _ rfl _ rfl _ rfl
        show St _ _ _ _ _ _ _
        have hT7q := hT.from_ D55
        have hR7q := hR.from_ D55
        have hE7q := hE.from_ D55
        have hzs7q := Nat.le_trans hzs D55.size
        refine st_put (v := .bool _) SufText_z4 rfl rfl rfl (hR7q) (by rw [rT_size]; omega) ?_
        intro w56 O7 P7
        have hT7 := hT7q.only O7 (blk_ne hT7q hR7q (by decide))
        have hE7 := hE7q.only O7 (blk_ne hE7q hR7q (by decide))
        have hR7 := rT_put hX P7
        have hzs7 : z ≤ (w56).heap.size := by rw [O7.size]; exact hzs7q
        refine st_nil (nx_block (nx_then (cd_region ?_)))
        refine mvi rfl ?_
        refine st_val (ro_sub64 rfl rfl (by omega)) ?_
        refine asi rfl ?_
        refine st_nil ?_
        refine nx_cut (i) ⟨(by first | rfl | (refine int_eq ?_; omega)), trivial⟩ (by (iterate 86 refine agr_cons rfl ?_); exact agr_rfl) ⟨?_, ?_⟩
        · exact ⟨by omega, hT7.from_ From.rfl_, hR7.from_ From.rfl_, hE7.from_ From.rfl_, Nat.le_trans hzs7 (From.rfl_).size, ((hB.next D55).only O7 (gq))⟩
        · show i < i + 1; omega
     · have hX := rb_eq ht (by omega) h1
       apply cd_drawn 38 [(36, eqp _), (37, eqp _), (38, eqp _), (39, eqp _), (40, eqp _), (41, eqp _), (42, eqp _), (43, eqp _), (44, eqp _), (45, eqp _), (46, eqp _), (47, eqp _), (48, eqp _), (49, eqp _), (50, eqp _), (51, eqp _), (52, eqp _), (53, eqp _), (54, eqp _), (55, eqp _), (56, eqp _), (57, eqp _), (58, eqp _), (59, eqp _), (60, eqp _), (61, eqp _), (62, eqp _), (63, eqp _), (64, eqp _), (65, eqp _), (66, eqp _), (67, eqp _), (68, eqp _), (69, eqp _), (70, eqp _), (71, eqp _), (72, eqp _), (73, eqp _)] (by kernel_rfl) (by kernel_rfl) ⟨eqp_mono _, eqp_mono _, eqp_mono _, eqp_mono _, eqp_mono _, eqp_mono _, eqp_mono _, eqp_mono _, eqp_mono _, eqp_mono _, eqp_mono _, eqp_mono _, eqp_mono _, eqp_mono _, eqp_mono _, eqp_mono _, eqp_mono _, eqp_mono _, eqp_mono _, eqp_mono _, eqp_mono _, eqp_mono _, eqp_mono _, eqp_mono _, eqp_mono _, eqp_mono _, eqp_mono _, eqp_mono _, eqp_mono _, eqp_mono _, eqp_mono _, eqp_mono _, eqp_mono _, eqp_mono _, eqp_mono _, eqp_mono _, eqp_mono _, eqp_mono _, trivial⟩
       case hop =>
        refine ⟨?_, ?_⟩
        · intro w58 D58
          show OpOK _ _ _ _ _ _ _
          exact ok_pure (ro_move (v := .pointer _) rfl) rfl
        refine ⟨?_, ?_⟩
        · intro w59 D59
          rintro _ rfl
          show OpOK _ _ _ _ _ _ _
          exact ok_pure (ro_nilCheck rfl) rfl
        refine ⟨?_, ?_⟩
        · intro w60 D60
          rintro _ rfl
          show OpOK _ _ _ _ _ _ _
          exact ok_pure (ro_fieldAddr SufText_f165_2 rfl) rfl
        refine ⟨?_, ?_⟩
        · intro w61 D61
          rintro _ rfl
          show OpOK _ _ _ _ _ _ _
          exact ok_pure (ro_load SufText_g150 rfl (by exact (hT.from_ (From.rfl_.next D61)).rd 2 rfl)) rfl
        refine ⟨?_, ?_⟩
        · intro w62 D62
          show OpOK _ _ _ _ _ _ _
          exact ok_pure (ro_move (v := .int _ _) rfl) rfl
        refine ⟨?_, ?_⟩
        · intro w63 D63
          show OpOK _ _ _ _ _ _ _
          exact ok_pure (ro_move (v := .slice _ _ _) rfl) rfl
        refine ⟨?_, ?_⟩
        · intro w64 D64
          show OpOK _ _ _ _ _ _ _
          exact ok_pure (ro_move (v := .int _ _) rfl) rfl
        refine ⟨?_, ?_⟩
        · intro w65 D65
          rintro _ rfl _ rfl
          show OpOK _ _ _ _ _ _ _
          exact ok_pure (ro_indexAddr0 SufText_e52 rfl rfl (by omega)) rfl
        refine ⟨?_, ?_⟩
        · intro w66 D66
          rintro _ rfl
          show OpOK _ _ _ _ _ _ _
          exact ok_pure (ro_load SufText_g21 rfl (by exact (hl.from_ (hB.next D66)).rdN (by omega))) rfl
        refine ⟨?_, ?_⟩
        · intro w67 D67
          show OpOK _ _ _ _ _ _ _
          exact ok_pure (ro_move (v := .slice _ _ _) rfl) rfl
        refine ⟨?_, ?_⟩
        · intro w68 D68
          show OpOK _ _ _ _ _ _ _
          exact ok_pure (ro_move (v := .int _ _) rfl) rfl
        refine ⟨?_, ?_⟩
        · intro w69 D69
          rintro _ rfl
          show OpOK _ _ _ _ _ _ _
          exact ok_pure (ro_addN (b := 1) rfl rfl (by omega)) rfl
        refine ⟨?_, ?_⟩
        · intro w70 D70
          rintro _ rfl _ rfl
          show OpOK _ _ _ _ _ _ _
          exact ok_pure (ro_indexAddr0 SufText_e52 rfl rfl (by omega)) rfl
        refine ⟨?_, ?_⟩
        · intro w71 D71
          rintro _ rfl
          show OpOK _ _ _ _ _ _ _
          exact ok_pure (ro_load SufText_g21 rfl (by exact (hl.from_ (hB.next D71)).rdN (by omega))) rfl
        refine ⟨?_, ?_⟩
        · intro w72 D72
          rintro _ rfl _ rfl
          show OpOK _ _ _ _ _ _ _
          exact ok_pure (ro_bf (ro_lss rfl rfl) (decide_eq_false (by omega))) rfl
        refine ⟨?_, ?_⟩
        · intro w73 D73
          rintro _ rfl
          show OpOK _ _ _ _ _ _ _
          exact ok_pure (ro_move (v := .bool _) rfl) rfl
        refine ⟨?_, ?_⟩
        · intro w74 D74
          rintro _ rfl
          show OpOK _ _ _ _ _ _ _
          exact ok_gpure rfl (ro_move (v := .slice _ _ _) rfl) rfl
        refine ⟨?_, ?_⟩
        · intro w75 D75
          rintro _ rfl
          show OpOK _ _ _ _ _ _ _
          exact ok_gpure rfl (ro_move (v := .int _ _) rfl) rfl
        refine ⟨?_, ?_⟩
        · intro w76 D76
          rintro _ rfl _ rfl _ rfl
          show OpOK _ _ _ _ _ _ _
          exact ok_gpure rfl (ro_indexAddr0 SufText_e52 rfl rfl (by omega)) rfl
        refine ⟨?_, ?_⟩
        · intro w77 D77
          rintro _ rfl _ rfl
          show OpOK _ _ _ _ _ _ _
          exact ok_gpure rfl (ro_load SufText_g21 rfl (by exact (hl.from_ (hB.next D77)).rdN (by omega))) rfl
        refine ⟨?_, ?_⟩
        · intro w78 D78
          rintro _ rfl
          show OpOK _ _ _ _ _ _ _
          exact ok_gpure rfl (ro_move (v := .slice _ _ _) rfl) rfl
        refine ⟨?_, ?_⟩
        · intro w79 D79
          rintro _ rfl
          show OpOK _ _ _ _ _ _ _
          exact ok_gpure rfl (ro_move (v := .int _ _) rfl) rfl
        refine ⟨?_, ?_⟩
        · intro w80 D80
          rintro _ rfl _ rfl
          show OpOK _ _ _ _ _ _ _
          exact ok_gpure rfl (ro_addN (b := 1) rfl rfl (by omega)) rfl
        refine ⟨?_, ?_⟩
        · intro w81 D81
          rintro _ rfl _ rfl _ rfl
          show OpOK _ _ _ _ _ _ _
          exact ok_gpure rfl (ro_indexAddr0 SufText_e52 rfl rfl (by omega)) rfl
        refine ⟨?_, ?_⟩
        · intro w82 D82
          rintro _ rfl _ rfl
          show OpOK _ _ _ _ _ _ _
          exact ok_gpure rfl (ro_load SufText_g21 rfl (by exact (hl.from_ (hB.next D82)).rdN (by omega))) rfl
        refine ⟨?_, ?_⟩
        · intro w83 D83
          rintro _ rfl _ rfl _ rfl
          show OpOK _ _ _ _ _ _ _
          exact ok_gpure rfl (ro_bt (ro_eql rfl rfl) (by rw [h1]; exact beq_self_eq_true _)) rfl
        refine ⟨?_, ?_⟩
        · intro w84 D84
          rintro _ rfl _ rfl
          show OpOK _ _ _ _ _ _ _
          exact ok_gpure rfl (ro_move (v := .bool _) rfl) rfl
        refine ⟨?_, ?_⟩
        · intro w85 D85
          rintro _ rfl
          show OpOK _ _ _ _ _ _ _
          exact ok_gpure rfl (ro_move (v := .pointer _) rfl) rfl
        refine ⟨?_, ?_⟩
        · intro w86 D86
          rintro _ rfl _ rfl
          show OpOK _ _ _ _ _ _ _
          exact ok_gpure rfl (ro_nilCheck rfl) rfl
        refine ⟨?_, ?_⟩
        · intro w87 D87
          rintro _ rfl _ rfl
          show OpOK _ _ _ _ _ _ _
          exact ok_gpure rfl (ro_fieldAddr SufText_f165_2 rfl) rfl
        refine ⟨?_, ?_⟩
        · intro w88 D88
          rintro _ rfl _ rfl
          show OpOK _ _ _ _ _ _ _
          exact ok_gpure rfl (ro_load SufText_g150 rfl (by exact (hT.from_ (From.rfl_.next D88)).rd 2 rfl)) rfl
        refine ⟨?_, ?_⟩
        · intro w89 D89
          rintro _ rfl
          show OpOK _ _ _ _ _ _ _
          exact ok_gpure rfl (ro_move (v := .int _ _) rfl) rfl
        refine ⟨?_, ?_⟩
        · intro w90 D90
          rintro _ rfl _ rfl
          show OpOK _ _ _ _ _ _ _
          exact ok_gpure rfl (ro_addN (b := 1) rfl rfl (by omega)) rfl
        refine ⟨?_, ?_⟩
        · intro w91 D91
          rintro _ rfl _ rfl _ rfl
          show OpOK _ _ _ _ _ _ _
          exact ok_gpure rfl (ro_indexAddr0 SufText_e150 rfl rfl (by omega)) rfl
        refine ⟨?_, ?_⟩
        · intro w92 D92
          rintro _ rfl _ rfl
          show OpOK _ _ _ _ _ _ _
          exact ok_gpure rfl (ro_load SufText_g4 rfl (by exact rT_rd (hR.from_ (From.rfl_.next D92)) (Nat.le_refl _) (by omega))) rfl
        refine ⟨?_, ?_⟩
        · intro w93 D93
          rintro _ rfl _ rfl _ rfl
          show OpOK _ _ _ _ _ _ _
          exact ok_gpure rfl (ro_pickT (v := .bool _) rfl rfl) rfl
        refine ⟨?_, ?_⟩
        · intro w94 D94
          rintro _ rfl _ rfl
          show OpOK _ _ _ _ _ _ _
          exact ok_pure (ro_pickF (v := .bool _) rfl rfl) rfl
        refine ⟨?_, ?_⟩
        · intro w95 D95
          rintro _ rfl _ rfl
          show OpOK _ _ _ _ _ _ _
          exact ok_pure (ro_indexAddr0 SufText_e150 rfl rfl (by omega)) rfl
        exact trivial
       case hend =>
        intro w96 D96
        rintro _ rfl _ rfl _ rfl _ rfl _ rfl _ rfl _ rfl _ rfl _ rfl _ rfl _ rfl _ rfl _ rfl _ rfl _ rfl _ rfl _ rfl _ rfl _ rfl _ rfl _ rfl _ rfl _ rfl _ rfl _ rfl _ rfl _ rfl _ rfl _ rfl _ rfl _ rfl _ rfl _ rfl _ rfl _ rfl _ rfl _ rfl _ rfl
        show St _ _ _ _ _ _ _
        have hT7q := hT.from_ D96
        have hR7q := hR.from_ D96
        have hE7q := hE.from_ D96
        have hzs7q := Nat.le_trans hzs D96.size
        refine st_put (v := .bool _) SufText_z4 rfl rfl rfl (hR7q) (by rw [rT_size]; omega) ?_
        intro w97 O7 P7
        have hT7 := hT7q.only O7 (blk_ne hT7q hR7q (by decide))
        have hE7 := hE7q.only O7 (blk_ne hE7q hR7q (by decide))
        have hR7 := rT_put hX P7
        have hzs7 : z ≤ (w97).heap.size := by rw [O7.size]; exact hzs7q
        refine st_nil (nx_block (nx_then (cd_region ?_)))
        refine mvi rfl ?_
        refine st_val (ro_sub64 rfl rfl (by omega)) ?_
        refine asi rfl ?_
        refine st_nil ?_
        refine nx_cut (i) ⟨(by first | rfl | (refine int_eq ?_; omega)), trivial⟩ (by (iterate 86 refine agr_cons rfl ?_); exact agr_rfl) ⟨?_, ?_⟩
        · exact ⟨by omega, hT7.from_ From.rfl_, hR7.from_ From.rfl_, hE7.from_ From.rfl_, Nat.le_trans hzs7 (From.rfl_).size, ((hB.next D96).only O7 (gq))⟩
        · show i < i + 1; omega
     have hX := rb_gt ht (by omega) h1
     apply cd_drawn 38 [(36, eqp _), (37, eqp _), (38, eqp _), (39, eqp _), (40, eqp _), (41, eqp _), (42, eqp _), (43, eqp _), (44, eqp _), (45, eqp _), (46, eqp _), (47, eqp _), (48, eqp _), (49, eqp _), (50, eqp _), (51, eqp _), (52, eqp _), (53, eqp _), (54, eqp _), (55, eqp _), (56, eqp _), (57, eqp _), (58, eqp _), (59, eqp _), (60, eqp _), (61, eqp _), (62, eqp _), (63, eqp _), (64, eqp _), (65, eqp _), (66, eqp _), (67, eqp _), (68, eqp _), (69, eqp _), (70, eqp _), (71, eqp _), (72, eqp _), (73, eqp _)] (by kernel_rfl) (by kernel_rfl) ⟨eqp_mono _, eqp_mono _, eqp_mono _, eqp_mono _, eqp_mono _, eqp_mono _, eqp_mono _, eqp_mono _, eqp_mono _, eqp_mono _, eqp_mono _, eqp_mono _, eqp_mono _, eqp_mono _, eqp_mono _, eqp_mono _, eqp_mono _, eqp_mono _, eqp_mono _, eqp_mono _, eqp_mono _, eqp_mono _, eqp_mono _, eqp_mono _, eqp_mono _, eqp_mono _, eqp_mono _, eqp_mono _, eqp_mono _, eqp_mono _, eqp_mono _, eqp_mono _, eqp_mono _, eqp_mono _, eqp_mono _, eqp_mono _, eqp_mono _, eqp_mono _, trivial⟩
     case hop =>
      refine ⟨?_, ?_⟩
      · intro w99 D99
        show OpOK _ _ _ _ _ _ _
        exact ok_pure (ro_move (v := .pointer _) rfl) rfl
      refine ⟨?_, ?_⟩
      · intro w100 D100
        rintro _ rfl
        show OpOK _ _ _ _ _ _ _
        exact ok_pure (ro_nilCheck rfl) rfl
      refine ⟨?_, ?_⟩
      · intro w101 D101
        rintro _ rfl
        show OpOK _ _ _ _ _ _ _
        exact ok_pure (ro_fieldAddr SufText_f165_2 rfl) rfl
      refine ⟨?_, ?_⟩
      · intro w102 D102
        rintro _ rfl
        show OpOK _ _ _ _ _ _ _
        exact ok_pure (ro_load SufText_g150 rfl (by exact (hT.from_ (From.rfl_.next D102)).rd 2 rfl)) rfl
      refine ⟨?_, ?_⟩
      · intro w103 D103
        show OpOK _ _ _ _ _ _ _
        exact ok_pure (ro_move (v := .int _ _) rfl) rfl
      refine ⟨?_, ?_⟩
      · intro w104 D104
        show OpOK _ _ _ _ _ _ _
        exact ok_pure (ro_move (v := .slice _ _ _) rfl) rfl
      refine ⟨?_, ?_⟩
      · intro w105 D105
        show OpOK _ _ _ _ _ _ _
        exact ok_pure (ro_move (v := .int _ _) rfl) rfl
      refine ⟨?_, ?_⟩
      · intro w106 D106
        rintro _ rfl _ rfl
        show OpOK _ _ _ _ _ _ _
        exact ok_pure (ro_indexAddr0 SufText_e52 rfl rfl (by omega)) rfl
      refine ⟨?_, ?_⟩
      · intro w107 D107
        rintro _ rfl
        show OpOK _ _ _ _ _ _ _
        exact ok_pure (ro_load SufText_g21 rfl (by exact (hl.from_ (hB.next D107)).rdN (by omega))) rfl
      refine ⟨?_, ?_⟩
      · intro w108 D108
        show OpOK _ _ _ _ _ _ _
        exact ok_pure (ro_move (v := .slice _ _ _) rfl) rfl
      refine ⟨?_, ?_⟩
      · intro w109 D109
        show OpOK _ _ _ _ _ _ _
        exact ok_pure (ro_move (v := .int _ _) rfl) rfl
      refine ⟨?_, ?_⟩
      · intro w110 D110
        rintro _ rfl
        show OpOK _ _ _ _ _ _ _
        exact ok_pure (ro_addN (b := 1) rfl rfl (by omega)) rfl
      refine ⟨?_, ?_⟩
      · intro w111 D111
        rintro _ rfl _ rfl
        show OpOK _ _ _ _ _ _ _
        exact ok_pure (ro_indexAddr0 SufText_e52 rfl rfl (by omega)) rfl
      refine ⟨?_, ?_⟩
      · intro w112 D112
        rintro _ rfl
        show OpOK _ _ _ _ _ _ _
        exact ok_pure (ro_load SufText_g21 rfl (by exact (hl.from_ (hB.next D112)).rdN (by omega))) rfl
      refine ⟨?_, ?_⟩
      · intro w113 D113
        rintro _ rfl _ rfl
        show OpOK _ _ _ _ _ _ _
        exact ok_pure (ro_bf (ro_lss rfl rfl) (decide_eq_false (by omega))) rfl
      refine ⟨?_, ?_⟩
      · intro w114 D114
        rintro _ rfl
        show OpOK _ _ _ _ _ _ _
        exact ok_pure (ro_move (v := .bool _) rfl) rfl
      refine ⟨?_, ?_⟩
      · intro w115 D115
        rintro _ rfl
        show OpOK _ _ _ _ _ _ _
        exact ok_gpure rfl (ro_move (v := .slice _ _ _) rfl) rfl
      refine ⟨?_, ?_⟩
      · intro w116 D116
        rintro _ rfl
        show OpOK _ _ _ _ _ _ _
        exact ok_gpure rfl (ro_move (v := .int _ _) rfl) rfl
      refine ⟨?_, ?_⟩
      · intro w117 D117
        rintro _ rfl _ rfl _ rfl
        show OpOK _ _ _ _ _ _ _
        exact ok_gpure rfl (ro_indexAddr0 SufText_e52 rfl rfl (by omega)) rfl
      refine ⟨?_, ?_⟩
      · intro w118 D118
        rintro _ rfl _ rfl
        show OpOK _ _ _ _ _ _ _
        exact ok_gpure rfl (ro_load SufText_g21 rfl (by exact (hl.from_ (hB.next D118)).rdN (by omega))) rfl
      refine ⟨?_, ?_⟩
      · intro w119 D119
        rintro _ rfl
        show OpOK _ _ _ _ _ _ _
        exact ok_gpure rfl (ro_move (v := .slice _ _ _) rfl) rfl
      refine ⟨?_, ?_⟩
      · intro w120 D120
        rintro _ rfl
        show OpOK _ _ _ _ _ _ _
        exact ok_gpure rfl (ro_move (v := .int _ _) rfl) rfl
      refine ⟨?_, ?_⟩
      · intro w121 D121
        rintro _ rfl _ rfl
        show OpOK _ _ _ _ _ _ _
        exact ok_gpure rfl (ro_addN (b := 1) rfl rfl (by omega)) rfl
      refine ⟨?_, ?_⟩
      · intro w122 D122
        rintro _ rfl _ rfl _ rfl
        show OpOK _ _ _ _ _ _ _
        exact ok_gpure rfl (ro_indexAddr0 SufText_e52 rfl rfl (by omega)) rfl
      refine ⟨?_, ?_⟩
      · intro w123 D123
        rintro _ rfl _ rfl
        show OpOK _ _ _ _ _ _ _
        exact ok_gpure rfl (ro_load SufText_g21 rfl (by exact (hl.from_ (hB.next D123)).rdN (by omega))) rfl
      refine ⟨?_, ?_⟩
      · intro w124 D124
        rintro _ rfl _ rfl _ rfl
        show OpOK _ _ _ _ _ _ _
        exact ok_gpure rfl (ro_bf (ro_eql rfl rfl) (beq_false_of_ne (by omega))) rfl
      refine ⟨?_, ?_⟩
      · intro w125 D125
        rintro _ rfl _ rfl
        show OpOK _ _ _ _ _ _ _
        exact ok_gpure rfl (ro_move (v := .bool _) rfl) rfl
      refine ⟨?_, ?_⟩
      · intro w126 D126
        rintro _ rfl
        show OpOK _ _ _ _ _ _ _
        exact ok_gno rfl rfl rfl
      refine ⟨?_, ?_⟩
      · intro w127 D127
        rintro _ rfl _ rfl
        show OpOK _ _ _ _ _ _ _
        exact ok_gno rfl rfl rfl
      refine ⟨?_, ?_⟩
      · intro w128 D128
        rintro _ rfl _ rfl
        show OpOK _ _ _ _ _ _ _
        exact ok_gno rfl rfl rfl
      refine ⟨?_, ?_⟩
      · intro w129 D129
        rintro _ rfl _ rfl
        show OpOK _ _ _ _ _ _ _
        exact ok_gno rfl rfl rfl
      refine ⟨?_, ?_⟩
      · intro w130 D130
        rintro _ rfl
        show OpOK _ _ _ _ _ _ _
        exact ok_gno rfl rfl rfl
      refine ⟨?_, ?_⟩
      · intro w131 D131
        rintro _ rfl _ rfl
        show OpOK _ _ _ _ _ _ _
        exact ok_gno rfl rfl rfl
      refine ⟨?_, ?_⟩
      · intro w132 D132
        rintro _ rfl _ rfl _ rfl
        show OpOK _ _ _ _ _ _ _
        exact ok_gno rfl rfl rfl
      refine ⟨?_, ?_⟩
      · intro w133 D133
        rintro _ rfl _ rfl
        show OpOK _ _ _ _ _ _ _
        exact ok_gno rfl rfl rfl
      refine ⟨?_, ?_⟩
      · intro w134 D134
        rintro _ rfl _ rfl _ rfl
        show OpOK _ _ _ _ _ _ _
        exact ok_gpure rfl (ro_pickF (v := .bool _) rfl rfl) rfl
      refine ⟨?_, ?_⟩
      · intro w135 D135
        rintro _ rfl _ rfl
        show OpOK _ _ _ _ _ _ _
        exact ok_pure (ro_pickF (v := .bool _) rfl rfl) rfl
      refine ⟨?_, ?_⟩
      · intro w136 D136
        rintro _ rfl _ rfl
        show OpOK _ _ _ _ _ _ _
        exact ok_pure (ro_indexAddr0 SufText_e150 rfl rfl (by omega)) rfl
      exact trivial
     case hend =>
      intro w137 D137
      rintro _ rfl _ rfl _ rfl _ rfl _ rfl _ rfl _ rfl _ rfl _ rfl _ rfl _ rfl _ rfl _ rfl _ rfl _ rfl _ rfl _ rfl _ rfl _ rfl _ rfl _ rfl _ rfl _ rfl _ rfl _ rfl _ rfl _ rfl _ rfl _ rfl _ rfl _ rfl _ rfl _ rfl _ rfl _ rfl _ rfl _ rfl _ rfl
      show St _ _ _ _ _ _ _
      have hT7q := hT.from_ D137
      have hR7q := hR.from_ D137
      have hE7q := hE.from_ D137
      have hzs7q := Nat.le_trans hzs D137.size
      refine st_put (v := .bool _) SufText_z4 rfl rfl rfl (hR7q) (by rw [rT_size]; omega) ?_
      intro w138 O7 P7
      have hT7 := hT7q.only O7 (blk_ne hT7q hR7q (by decide))
      have hE7 := hE7q.only O7 (blk_ne hE7q hR7q (by decide))
      have hR7 := rT_put hX P7
      have hzs7 : z ≤ (w138).heap.size := by rw [O7.size]; exact hzs7q
      refine st_nil (nx_block (nx_then (cd_region ?_)))
      refine mvi rfl ?_
      refine st_val (ro_sub64 rfl rfl (by omega)) ?_
      refine asi rfl ?_
      refine st_nil ?_
      refine nx_cut (i) ⟨(by first | rfl | (refine int_eq ?_; omega)), trivial⟩ (by (iterate 86 refine agr_cons rfl ?_); exact agr_rfl) ⟨?_, ?_⟩
      · exact ⟨by omega, hT7.from_ From.rfl_, hR7.from_ From.rfl_, hE7.from_ From.rfl_, Nat.le_trans hzs7 (From.rfl_).size, ((hB.next D137).only O7 (gq))⟩
      · show i < i + 1; omega
   with_reducible replace Q15 := of_decide_eq_false Q15
   refine cd_exit ?_
   refine ex_then (ex_then (ex_block (nx_then (cd_seq (cd_seq (cd_region ?_))))))
   refine asi rfl ?_
   refine st_nil (nx_then (cd_block ?_))
   refine cd_loop (G := Nat × Option Addr × Nat) [74, 75, 76, 77, 78, 79, 80, 81, 82, 83, 84, 85, 86, 87, 88, 89, 90, 91, 92, 93, 94, 95, 96, 97, 98, 99, 100, 101, 102, 103, 104, 105, 106, 107] (fun (i, _, _) => [(8, .int .i64 (i : Nat))]) (fun (i, A3, c3) w' => 0 < i ∧ i ≤ n ∧ Blk w' b 165 #[.slice (some ⟨gl, 0, none⟩) n n, .int .i64 (K : Nat), .slice (some ⟨q, 0, none⟩) n n, .slice A3 (stL n t i).length c3, .slice (some ⟨p, 0, none⟩) K K] ∧ w'.ownsRow z 21 1 (.slice A3 (stL n t i).length c3) (stL n t i).length ((stL n t i).map fun x : Nat => jV (x : Nat)) ∧ Blk w' q 4 (rT n t 0) ∧ Blk w' p 21 (tabJ K fun _ => 0) ∧ z ≤ w'.heap.size ∧ From w w') (fun (i, _, _) => n - i) ((1, none, 0)) ⟨rfl, trivial⟩ ?_ ?_
   · obtain rfl : j = 0 := by omega
     refine ⟨by omega, ht.pos, ?_, ?_, hR.from_ From.rfl_, hE.from_ From.rfl_, Nat.le_trans hzs (From.rfl_).size, hB⟩
     · rw [stL_one]; exact hT.from_ From.rfl_
     · rw [stL_one]; exact World.ownsRow_nil _ _ _ _
   rintro ⟨i, A3, c3⟩ ρ139 w139 ⟨hi0, hin, hT, ho, hR, hE, hzs, hB⟩
   refine cd_seq (cd_seq (cd_region ?_))
   refine mvi rfl ?_
   refine mvi rfl ?_
   refine st_val (ro_lss rfl rfl) ?_
   refine st_nil (nx_then ?_)
   refine cd_cond rfl (fun Q140 => ?_) (fun Q140 => ?_)
   · with_reducible replace Q140 := of_decide_eq_true Q140
     refine cd_skip (nx_then ?_)
     refine cd_cut (G := Option Addr × Nat) [79, 80, 81, 82, 83, 84, 85, 86, 87, 88, 89, 90, 91, 92, 93, 94, 95, 96, 97, 98, 99, 100, 101, 102, 103, 104, 105, 106, 107] (fun (_, _) => []) (fun (A3, c3) w' => Blk w' b 165 #[.slice (some ⟨gl, 0, none⟩) n n, .int .i64 (K : Nat), .slice (some ⟨q, 0, none⟩) n n, .slice A3 (stL n t (i + 1)).length c3, .slice (some ⟨p, 0, none⟩) K K] ∧ w'.ownsRow z 21 1 (.slice A3 (stL n t (i + 1)).length c3) (stL n t (i + 1)).length ((stL n t (i + 1)).map fun x : Nat => jV (x : Nat)) ∧ Blk w' q 4 (rT n t 0) ∧ Blk w' p 21 (tabJ K fun _ => 0) ∧ z ≤ w'.heap.size ∧ From w w') ?_ ?_
     · refine cd_block (cd_seq (cd_region ?_))
       refine mvp rfl ?_
       refine st_val (ro_nilCheck rfl) ?_
       refine st_val (ro_fieldAddr SufText_f165_2 rfl) ?_
       refine st_val (ro_load SufText_g150 rfl (by exact (hT.from_ From.rfl_).rd 2 rfl)) ?_
       refine mvi rfl ?_
       refine st_val (ro_indexAddr0 SufText_e150 rfl rfl (by omega)) ?_
       refine st_val (ro_load SufText_g4 rfl (by exact rT_rd (hR.from_ From.rfl_) (Nat.zero_le _) (by omega))) ?_
       refine mvb rfl ?_
       refine st_split (t := 86) rfl (fun Q141 => ?_) (fun Q141 => ?_)
       · (try with_reducible first | (replace Q141 := of_decide_eq_true Q141; trace "@MK N newText_rt:c33-.c76+.g86+ 1.1") | (replace Q141 := of_decide_eq_false Q141; trace "@MK N newText_rt:c33-.c76+.g86+ 1.2") | (replace Q141 := bn_t Q141; trace "@MK N newText_rt:c33-.c76+.g86+ 1.3") | (replace Q141 := bn_f Q141; trace "@MK N newText_rt:c33-.c76+.g86+ 1.4"))
         (try with_reducible first | (replace Q141 := of_decide_eq_true Q141; trace "@MK N newText_rt:c33-.c76+.g86+ 2.1") | (replace Q141 := of_decide_eq_false Q141; trace "@MK N newText_rt:c33-.c76+.g86+ 2.2") | (replace Q141 := bx_t Q141; trace "@MK N newText_rt:c33-.c76+.g86+ 2.3") | (replace Q141 := bx_f Q141; trace "@MK N newText_rt:c33-.c76+.g86+ 2.4") | (replace Q141 := be_t Q141; trace "@MK N newText_rt:c33-.c76+.g86+ 2.5") | (replace Q141 := be_f Q141; trace "@MK N newText_rt:c33-.c76+.g86+ 2.6"))
         have hq85 : rb n t i = true := Q141
         refine st_unguard rfl ?_
         refine mvp rfl ?_
         refine st_unguard rfl ?_
         refine st_val (ro_nilCheck rfl) ?_
         refine st_unguard rfl ?_
         refine st_val (ro_fieldAddr SufText_f165_2 rfl) ?_
         refine st_unguard rfl ?_
         refine st_val (ro_load SufText_g150 rfl (by exact (hT.from_ From.rfl_).rd 2 rfl)) ?_
         refine st_unguard rfl ?_
         refine mvi rfl ?_
         refine st_unguard rfl ?_
         refine st_val (ro_subN (b := 1) rfl rfl (by omega)) ?_
         refine st_unguard rfl ?_
         refine st_val (ro_indexAddr0 SufText_e150 rfl rfl (by omega)) ?_
         refine st_unguard rfl ?_
         refine st_val (ro_load SufText_g4 rfl (by exact rT_rd (hR.from_ From.rfl_) (Nat.zero_le _) (by omega))) ?_
         refine st_unguard rfl ?_
         refine st_val (ro_not rfl) ?_
         refine st_val (ro_pickT (v := .bool _) rfl rfl) ?_
         refine st_nil (nx_then ?_)
         refine cd_cond rfl (fun Q142 => ?_) (fun Q142 => ?_)
         · with_reducible replace Q142 := bn_t Q142
           have hq94 : rb n t (i - 1) = false := by simpa using Q142
           refine cd_region ?_
           refine mvp rfl ?_
           refine mvp rfl ?_
           refine st_val (ro_nilCheck rfl) ?_
           refine st_val (ro_fieldAddr SufText_f165_3 rfl) ?_
           refine st_val (ro_load SufText_g52 rfl (by exact (hT.from_ From.rfl_).rd 3 rfl)) ?_
           refine mvi rfl ?_
           refine st_val (ro_conv32 SufText_s3 SufText_i21 rfl (by omega)) ?_
           refine st_lit1 (v := .int _ _) SufText_q52 rfl rfl rfl ?_
           intro b104 w143 E104 hb104 hk104
           have hsl := stL_len (n := n) (t := t) (i := i)
           refine st_appendB (base := z) SufText_q52 rfl (by decide) rfl (A := A3) (xs := (stL n t i).map fun x : Nat => jV (x : Nat)) (news := [jV (i : Nat)]) (ho.kept_from E104) (Nat.le_trans hzs E104.size) rfl rfl (fun _ => ⟨b104, 0, rfl, hk104.whole⟩) (fun h => by cases h) (by simp [Value.oneCell']) (by omega) (by omega) ?_
           intro A105 c105 w144 ho105 hg105
           have HB105 : From w w144 := ((hB.next E104)).grew hg105 (fun k hk => Nat.le_trans hwz (own_at ho k hk).1)
           have hoq := ho.kept_from E104
           have hT105 := (hT.from_ E104).grown hg105 (own_off hoq (hT.from_ E104) (by decide))
           have hR105 := (hR.from_ E104).grown hg105 (own_off hoq (hR.from_ E104) (by decide))
           have hE105 := (hE.from_ E104).grown hg105 (fun k hk => by have := (own_at ho k hk).1; omega)
           have hzs105 := Nat.le_trans hzs (Nat.le_trans E104.size hg105.size)
           refine st_val (ro_nilCheck rfl) ?_
           refine st_val (ro_fieldAddr SufText_f165_3 rfl) ?_
           refine st_put (v := .slice _ _ _) SufText_z52 rfl rfl rfl (hT105) (by show 3 < 5; decide) ?_
           intro w145 O12 P12
           have hst := stL_yes (by omega) (by omega) hq85 hq94
           have hT12 := P12
           have ho12 := own_only3 ho105 O12 (own_off ho105 hT105 (by decide))
           have hR12 := hR105.only O12 (blk_ne hR105 hT105 (by decide))
           have hE12 := hE105.only O12 (blk_ne hE105 hT105 (by decide))
           have hzs12 : z ≤ (w145).heap.size := by rw [O12.size]; exact hzs105
           refine st_nil (nx_block ?_)
           refine nx_cut ((A105, c105)) trivial (by (iterate 30 refine agr_cons rfl ?_); exact agr_rfl) ?_
           exact ⟨by rw [hst, List.length_append]; exact hT12, by rw [hst, List.length_append, List.map_append]; exact ho12, hR12, hE12, hzs12, (HB105.only O12 gb)⟩
         with_reducible replace Q142 := bn_f Q142
         refine cd_skip (nx_block ?_)
         refine nx_cut ((A3, c3)) trivial (by (iterate 19 refine agr_cons rfl ?_); exact agr_rfl) ?_
         have hst : stL n t (i + 1) = stL n t i := stL_no (by simp_all)
         exact ⟨by rw [hst]; exact hT.from_ From.rfl_, by rw [hst]; exact ho.kept_from From.rfl_, hR.from_ From.rfl_, hE.from_ From.rfl_, Nat.le_trans hzs (From.rfl_).size, hB⟩
       (try with_reducible first | (replace Q141 := of_decide_eq_true Q141; trace "@MK N newText_rt:c33-.c76+.g86- 1.1") | (replace Q141 := of_decide_eq_false Q141; trace "@MK N newText_rt:c33-.c76+.g86- 1.2") | (replace Q141 := bn_t Q141; trace "@MK N newText_rt:c33-.c76+.g86- 1.3") | (replace Q141 := bn_f Q141; trace "@MK N newText_rt:c33-.c76+.g86- 1.4"))
       (try with_reducible first | (replace Q141 := of_decide_eq_true Q141; trace "@MK N newText_rt:c33-.c76+.g86- 2.1") | (replace Q141 := of_decide_eq_false Q141; trace "@MK N newText_rt:c33-.c76+.g86- 2.2") | (replace Q141 := bx_t Q141; trace "@MK N newText_rt:c33-.c76+.g86- 2.3") | (replace Q141 := bx_f Q141; trace "@MK N newText_rt:c33-.c76+.g86- 2.4") | (replace Q141 := be_t Q141; trace "@MK N newText_rt:c33-.c76+.g86- 2.5") | (replace Q141 := be_f Q141; trace "@MK N newText_rt:c33-.c76+.g86- 2.6"))
       refine st_gno rfl rfl ?_
       refine st_gno rfl rfl ?_
       refine st_gno rfl rfl ?_
       refine st_gno rfl rfl ?_
       refine st_gno rfl rfl ?_
       refine st_gno rfl rfl ?_
       refine st_gno rfl rfl ?_
       refine st_gno rfl rfl ?_
       refine st_gno rfl rfl ?_
       refine st_val (ro_pickF (v := .bool _) rfl rfl) ?_
       refine st_nil (nx_then ?_)
       refine cd_condF rfl ?_
       refine cd_skip (nx_block ?_)
       refine nx_cut ((A3, c3)) trivial (by (iterate 19 refine agr_cons rfl ?_); exact agr_rfl) ?_
       have hst : stL n t (i + 1) = stL n t i := stL_no (by simp_all)
       exact ⟨by rw [hst]; exact hT.from_ From.rfl_, by rw [hst]; exact ho.kept_from From.rfl_, hR.from_ From.rfl_, hE.from_ From.rfl_, Nat.le_trans hzs (From.rfl_).size, hB⟩
     rintro ⟨A4, c4⟩ ρ146 w146 ⟨hT2, ho2, hR2, hE2, hzs2, hB⟩
     refine cd_region ?_
     refine mvi rfl ?_
     refine st_val (ro_addN (b := 1) rfl rfl (by omega)) ?_
     refine asi rfl ?_
     refine st_nil ?_
     refine nx_cut ((i + 1, A4, c4)) ⟨(by first | rfl | (refine int_eq ?_; omega)), trivial⟩ (by (iterate 70 refine agr_cons rfl ?_); exact agr_rfl) ⟨?_, ?_⟩
     · exact ⟨by omega, by omega, hT2.from_ From.rfl_, ho2.kept_from From.rfl_, hR2.from_ From.rfl_, hE2.from_ From.rfl_, Nat.le_trans hzs2 (From.rfl_).size, hB⟩
     · show n - (i + 1) < n - i; omega
   with_reducible replace Q140 := of_decide_eq_false Q140
   refine cd_exit ?_
   refine ex_then (ex_then (ex_block (nx_then (cd_seq (cd_seq (cd_region ?_))))))
   refine mvs rfl ?_
   refine st_val (ro_len SufText_l52 rfl) ?_
   refine mvi rfl ?_
   refine st_nil (nx_then (cd_block ?_))
   refine cd_loop (G := Nat) [10, 111, 112, 113, 114, 115, 116, 117, 118, 119, 120, 121, 122, 123] (fun k => [(110, .int .i64 (k : Nat))]) (fun k w' => k ≤ n ∧ Blk w' b 165 #[.slice (some ⟨gl, 0, none⟩) n n, .int .i64 (K : Nat), .slice (some ⟨q, 0, none⟩) n n, .slice A3 (stL n t n).length c3, .slice (some ⟨p, 0, none⟩) K K] ∧ w'.ownsRow z 21 1 (.slice A3 (stL n t n).length c3) (stL n t n).length ((stL n t n).map fun x : Nat => jV (x : Nat)) ∧ Blk w' q 4 (rT n t 0) ∧ Blk w' p 21 (cT n K t k) ∧ From w w') (fun k => n - k) (0) ⟨rfl, trivial⟩ ?_ ?_
   · obtain rfl : i = n := by omega
     exact ⟨Nat.zero_le _, hT.from_ From.rfl_, ho.kept_from From.rfl_, hR.from_ From.rfl_, hE.from_ From.rfl_, hB⟩
   rintro k ρ147 w147 ⟨hkn, hT, ho, hR, hE, hB⟩
   refine cd_seq (cd_region ?_)
   refine st_val (ro_lss rfl rfl) ?_
   refine st_nil (nx_then (cd_seq ?_))
   refine cd_cond rfl (fun Q148 => ?_) (fun Q148 => ?_)
   · with_reducible replace Q148 := of_decide_eq_true Q148
     refine cd_skip (nx_then (cd_seq (cd_block (cd_seq (cd_region ?_)))))
     refine st_val (ro_indexAddr0 SufText_e52 rfl rfl (by omega)) ?_
     refine st_val (ro_load SufText_g21 rfl (by exact (hl.from_ hB).rdN (by omega))) ?_
     refine asi rfl ?_
     refine st_nil (nx_then (cd_region ?_))
     refine mvp rfl ?_
     refine st_val (ro_nilCheck rfl) ?_
     refine st_val (ro_fieldAddr SufText_f165_4 rfl) ?_
     refine st_val (ro_load SufText_g52 rfl (by exact (hT.from_ From.rfl_).rd 4 rfl)) ?_
     refine mvi rfl ?_
     refine st_val (ro_indexAddr0 SufText_e52 rfl rfl (by exact hkt _ (by omega))) ?_
     refine st_val (ro_load SufText_g21 rfl (by exact cT_rd (hE.from_ From.rfl_) (hkt _ (by omega)))) ?_
     refine st_val (ro_add32 (r := ((cnt k (fun i => t i = t k) + 1 : Nat) : Int)) rfl rfl (by omega) (by have := cnt_le_n k (fun i => t i = t k); omega)) ?_
     refine st_val (ro_indexAddr0 SufText_e52 rfl rfl (by exact hkt _ (by omega))) ?_
     refine st_put (v := .int _ _) SufText_z21 rfl rfl rfl (hE) (by unfold cT; rw [tabJ_size]; exact hkt _ (by omega)) ?_
     intro w149 O16 P16
     have hT16 := hT.only O16 (blk_ne hT hE (by decide))
     have ho16 := own_only3 ho O16 (fun k hk => by have := (own_at ho k hk).1; omega)
     have hR16 := hR.only O16 (blk_ne hR hE (by decide))
     have hE16 := cT_put P16
     refine st_nil (nx_block (nx_then (cd_region ?_)))
     refine st_val (ro_addN (b := 1) rfl rfl (by omega)) ?_
     refine mvi rfl ?_
     refine st_nil ?_
     refine nx_cut (k + 1) ⟨(by first | rfl | (refine int_eq ?_; omega)), trivial⟩ (by (iterate 30 refine agr_cons rfl ?_); exact agr_rfl) ⟨?_, ?_⟩
     · exact ⟨by omega, hT16.from_ From.rfl_, ho16.kept_from From.rfl_, hR16.from_ From.rfl_, hE16.from_ From.rfl_, (hB.only O16 (gp))⟩
     · show n - (k + 1) < n - k; omega
   with_reducible replace Q148 := of_decide_eq_false Q148
   refine cd_exit ?_
   refine ex_then (ex_then (ex_block (nx_then (cd_seq (cd_seq (cd_region ?_))))))
   refine asi rfl ?_
   refine st_nil (nx_then (cd_block ?_))
   refine cd_loop (G := Nat) [124, 125, 126, 127, 128, 129, 130, 131, 132, 133, 134, 135, 136, 137, 138, 139, 140, 141, 142, 143, 144, 145] (fun c => [(11, .int .i64 (c : Nat))]) (fun c w' => 1 ≤ c ∧ Blk w' b 165 #[.slice (some ⟨gl, 0, none⟩) n n, .int .i64 (K : Nat), .slice (some ⟨q, 0, none⟩) n n, .slice A3 (stL n t n).length c3, .slice (some ⟨p, 0, none⟩) K K] ∧ w'.ownsRow z 21 1 (.slice A3 (stL n t n).length c3) (stL n t n).length ((stL n t n).map fun x : Nat => jV (x : Nat)) ∧ Blk w' q 4 (rT n t 0) ∧ Blk w' p 21 (eT n K t c) ∧ From w w') (fun c => K - c) (1) ⟨rfl, trivial⟩ ?_ ?_
   · obtain rfl : k = n := by omega
     exact ⟨Nat.le_refl _, hT.from_ From.rfl_, ho.kept_from From.rfl_, hR.from_ From.rfl_, by rw [← eT_one]; exact hE.from_ From.rfl_, hB⟩
   rintro c ρ150 w150 ⟨hc, hT, ho, hR, hE, hB⟩
   refine cd_seq (cd_seq (cd_region ?_))
   refine mvi rfl ?_
   refine mvi rfl ?_
   refine st_val (ro_lss rfl rfl) ?_
   refine st_nil (nx_then ?_)
   refine cd_cond rfl (fun Q151 => ?_) (fun Q151 => ?_)
   · with_reducible replace Q151 := of_decide_eq_true Q151
     refine cd_skip (nx_then (cd_seq (cd_block ?_)))
     apply cd_drawn 17 [(129, eqp _), (130, eqp _), (131, eqp _), (132, eqp _), (133, eqp _), (134, eqp _), (135, eqp _), (136, eqp _), (137, eqp _), (138, eqp _), (139, eqp _), (140, eqp _), (141, eqp _), (142, eqp _), (143, eqp _), (144, eqp _), (145, eqp _)] (by kernel_rfl) (by kernel_rfl) ⟨eqp_mono _, eqp_mono _, eqp_mono _, eqp_mono _, eqp_mono _, eqp_mono _, eqp_mono _, eqp_mono _, eqp_mono _, eqp_mono _, eqp_mono _, eqp_mono _, eqp_mono _, eqp_mono _, eqp_mono _, eqp_mono _, eqp_mono _, trivial⟩
     case hop =>
      refine ⟨?_, ?_⟩
      · intro w153 D153
        show OpOK _ _ _ _ _ _ _
        exact ok_pure (ro_move (v := .pointer _) rfl) rfl
      refine ⟨?_, ?_⟩
      · intro w154 D154
        rintro _ rfl
        show OpOK _ _ _ _ _ _ _
        exact ok_pure (ro_nilCheck rfl) rfl
      refine ⟨?_, ?_⟩
      · intro w155 D155
        rintro _ rfl
        show OpOK _ _ _ _ _ _ _
        exact ok_pure (ro_fieldAddr SufText_f165_4 rfl) rfl
      refine ⟨?_, ?_⟩
      · intro w156 D156
        rintro _ rfl
        show OpOK _ _ _ _ _ _ _
        exact ok_pure (ro_load SufText_g52 rfl (by exact (hT.from_ (From.rfl_.next D156)).rd 4 rfl)) rfl
      refine ⟨?_, ?_⟩
      · intro w157 D157
        show OpOK _ _ _ _ _ _ _
        exact ok_pure (ro_move (v := .int _ _) rfl) rfl
      refine ⟨?_, ?_⟩
      · intro w158 D158
        rintro _ rfl _ rfl
        show OpOK _ _ _ _ _ _ _
        exact ok_pure (ro_indexAddr0 SufText_e52 rfl rfl (by omega)) rfl
      refine ⟨?_, ?_⟩
      · intro w159 D159
        rintro _ rfl
        show OpOK _ _ _ _ _ _ _
        exact ok_pure (ro_load SufText_g21 rfl (by exact eT_hi (hE.from_ (From.rfl_.next D159)) (by omega) (by omega))) rfl
      refine ⟨?_, ?_⟩
      · intro w160 D160
        show OpOK _ _ _ _ _ _ _
        exact ok_pure (ro_move (v := .pointer _) rfl) rfl
      refine ⟨?_, ?_⟩
      · intro w161 D161
        rintro _ rfl
        show OpOK _ _ _ _ _ _ _
        exact ok_pure (ro_nilCheck rfl) rfl
      refine ⟨?_, ?_⟩
      · intro w162 D162
        rintro _ rfl
        show OpOK _ _ _ _ _ _ _
        exact ok_pure (ro_fieldAddr SufText_f165_4 rfl) rfl
      refine ⟨?_, ?_⟩
      · intro w163 D163
        rintro _ rfl
        show OpOK _ _ _ _ _ _ _
        exact ok_pure (ro_load SufText_g52 rfl (by exact (hT.from_ (From.rfl_.next D163)).rd 4 rfl)) rfl
      refine ⟨?_, ?_⟩
      · intro w164 D164
        show OpOK _ _ _ _ _ _ _
        exact ok_pure (ro_move (v := .int _ _) rfl) rfl
      refine ⟨?_, ?_⟩
      · intro w165 D165
        rintro _ rfl
        show OpOK _ _ _ _ _ _ _
        exact ok_pure (ro_subN (b := 1) rfl rfl (by omega)) rfl
      refine ⟨?_, ?_⟩
      · intro w166 D166
        rintro _ rfl _ rfl
        show OpOK _ _ _ _ _ _ _
        exact ok_pure (ro_indexAddr0 SufText_e52 rfl rfl (by omega)) rfl
      refine ⟨?_, ?_⟩
      · intro w167 D167
        rintro _ rfl
        show OpOK _ _ _ _ _ _ _
        exact ok_pure (ro_load SufText_g21 rfl (by exact eT_lo (hE.from_ (From.rfl_.next D167)) (by omega) (by omega))) rfl
      refine ⟨?_, ?_⟩
      · intro w168 D168
        rintro _ rfl _ rfl
        show OpOK _ _ _ _ _ _ _
        exact ok_pure (ro_add32 (r := ((less n t (c + 1) : Nat) : Int)) rfl rfl (by have := less_succ (n := n) (t := t) c; omega) (by have := less_le (n := n) (t := t) (c := c + 1); omega)) rfl
      refine ⟨?_, ?_⟩
      · intro w169 D169
        rintro _ rfl _ rfl
        show OpOK _ _ _ _ _ _ _
        exact ok_pure (ro_indexAddr0 SufText_e52 rfl rfl (by omega)) rfl
      exact trivial
     case hend =>
      intro w170 D170
      rintro _ rfl _ rfl _ rfl _ rfl _ rfl _ rfl _ rfl _ rfl _ rfl _ rfl _ rfl _ rfl _ rfl _ rfl _ rfl _ rfl _ rfl
      show St _ _ _ _ _ _ _
      have hT21q := hT.from_ D170
      have ho21q := ho.kept_from D170
      have hR21q := hR.from_ D170
      have hE21q := hE.from_ D170
      refine st_put (v := .int _ _) SufText_z21 rfl rfl rfl (hE21q) (by unfold eT; rw [tabJ_size]; omega) ?_
      intro w171 O21 P21
      have hT21 := hT21q.only O21 (blk_ne hT21q hE21q (by decide))
      have ho21 := own_only3 ho21q O21 (fun k hk => by have := (own_at ho21q k hk).1; omega)
      have hR21 := hR21q.only O21 (blk_ne hR21q hE21q (by decide))
      have hE21 := eT_put P21
      refine st_nil (nx_block (nx_then (cd_region ?_)))
      refine mvi rfl ?_
      refine st_val (ro_addN (b := 1) rfl rfl (by omega)) ?_
      refine asi rfl ?_
      refine st_nil ?_
      refine nx_cut (c + 1) ⟨(by first | rfl | (refine int_eq ?_; omega)), trivial⟩ (by (iterate 46 refine agr_cons rfl ?_); exact agr_rfl) ⟨?_, ?_⟩
      · exact ⟨by omega, hT21.from_ From.rfl_, ho21.kept_from From.rfl_, hR21.from_ From.rfl_, hE21.from_ From.rfl_, ((hB.next D170).only O21 (gp))⟩
      · show K - (c + 1) < K - c; omega
   with_reducible replace Q151 := of_decide_eq_false Q151
   refine cd_exit ?_
   refine ex_then (ex_then (ex_block (nx_then (cd_seq (cd_region ?_)))))
   refine mvp rfl ?_
   refine asp rfl ?_
   refine st_nil (nx_then (cd_ret ?_))
   refine res1 (v := .pointer _) rfl rfl ?_
   rw [rT_zero] at hR
   rw [eT_all (by omega)] at hE
   exact ⟨⟨b, (stL n t n).length, stF n t, rfl, ⟨gl, q, A3, c3, p, hT.from_ From.rfl_, hl.from_ hB, hR.from_ From.rfl_, (fun h0 => (let ⟨g, e⟩ := own_some ho h0; ⟨g, e, by rw [e] at ho; exact (VJ.own (f := fun k => ((stF n t k : Nat) : Int)) (by rw [stF_row, List.map_map]; exact ho.kept_from From.rfl_) h0).1⟩)), (VJ.of_blk hE).from_ From.rfl_⟩, stF_starts n t⟩, hB⟩
end Go.Proofs.Ytllmocjfllbbfaa
