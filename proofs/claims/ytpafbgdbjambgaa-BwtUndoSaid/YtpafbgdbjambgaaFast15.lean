/- Rows of the call's own that begin in the midst of their block (s[1:]), and what is appended to them. -/
import Derived.Test.YtpafbgdbjambgaaFast14
import Derived.Deep.AppendLies
namespace Go.Proofs.Ytpafbgdbjambgaa
open Go.RowKit

/-- a row of the call's own, from an offset on, of one cell an element -/
def OwnO (w : World) (base : Nat) (e : TypeId) (A : Option Addr) (n c : Nat) (xs : List Value) : Prop :=
  xs.length = n ∧ n ≤ c ∧ c ≤ maxLen ∧ ∃ g off cs, A = some ⟨g, off, none⟩ ∧ base ≤ g ∧ Blk w g e cs ∧ off + c ≤ cs.size ∧ (cs.toList.drop off).take n = xs
theorem OwnO.of_own {w : World} {base : Nat} {e : TypeId} {A : Option Addr} {n c : Nat} {xs : List Value} (h : w.ownsRow base e 1 (.slice A n c) n xs) (hn : 0 < n) : OwnO w base e A n c xs := by
  have hl : xs.length = n := by simpa using h.1
  rcases h.2 with ⟨h0, _⟩ | ⟨g, cap, cur, hv, hbg, hg, hnc, hcm, hcs, htake⟩
  · simp only [Value.slice.injEq] at h0
    omega
  · simp only [Value.slice.injEq] at hv
    obtain ⟨rfl, _, rfl⟩ := hv
    exact ⟨hl, hnc, hcm, g, 0, cur, rfl, hbg, hg, by omega, by simpa using htake⟩
theorem OwnO.at_ {w : World} {base : Nat} {e : TypeId} {A : Option Addr} {n c : Nat} {xs : List Value} (h : OwnO w base e A n c xs) : ∀ k, A.map (·.block) = some k → base ≤ k ∧ k < w.heap.size := by
  obtain ⟨_, _, _, g, off, cs, rfl, hb, hB, _⟩ := h
  intro k hk
  cases hk
  exact ⟨hb, hB.lt⟩
theorem OwnO.grown {w w' : World} {base : Nat} {e : TypeId} {A : Option Addr} {n c : Nat} {xs : List Value} {r : Option Nat} (h : OwnO w base e A n c xs) (hg : w.grownBy w' r) (hne : ∀ k, A.map (·.block) = some k → r ≠ some k) : OwnO w' base e A n c xs := by
  obtain ⟨h1, h2, h3, g, off, cs, rfl, hb, hB, h4, h5⟩ := h
  exact ⟨h1, h2, h3, g, off, cs, rfl, hb, hB.grown hg (fun k hk e => hne g rfl (by rw [hk, e])), h4, h5⟩
theorem OwnO.from_ {w w' : World} {base : Nat} {e : TypeId} {A : Option Addr} {n c : Nat} {xs : List Value} (h : OwnO w base e A n c xs) (hF : From w w') : OwnO w' base e A n c xs := by
  obtain ⟨h1, h2, h3, g, off, cs, rfl, hb, hB, h4, h5⟩ := h
  exact ⟨h1, h2, h3, g, off, cs, rfl, hb, hB.from_ hF, h4, h5⟩
theorem OwnO.row {α : Type} {f : α → Value} {w : World} {base : Nat} {e : TypeId} {A : Option Addr} {n c : Nat} {l : List α} (h : OwnO w base e A n c (l.map f)) : n = l.length ∧ RowOf f w A l := by
  obtain ⟨h1, h2, h3, g, off, cs, rfl, hb, hB, h4, h5⟩ := h
  rw [List.length_map] at h1
  refine ⟨h1.symm, fun _ => ⟨g, off, rfl, fun i hi => ?_⟩⟩
  rw [hB.cell]
  have : ((cs.toList.drop off).take n)[i]? = (l.map f)[i]? := by rw [h5]
  rw [List.getElem?_take_of_lt (by omega), List.getElem?_drop] at this
  rw [← Array.getElem?_toList, this]
  simp [hi]
/-- the first ones of it -/
theorem OwnO.take {w : World} {base : Nat} {e : TypeId} {A : Option Addr} {n c m : Nat} {xs : List Value} (h : OwnO w base e A n c xs) (hm : m ≤ n) : OwnO w base e A m c (xs.take m) := by
  obtain ⟨h1, h2, h3, g, off, cs, rfl, hb, hB, h4, h5⟩ := h
  exact ⟨by rw [List.length_take]; omega, by omega, h3, g, off, cs, rfl, hb, hB, h4, by rw [← h5, List.take_take, Nat.min_eq_left hm]⟩
/-- what is behind its first one -/
theorem OwnO.tail {w : World} {base : Nat} {e : TypeId} {g off n c : Nat} {xs : List Value} (h : OwnO w base e (some ⟨g, off, none⟩) (n + 1) c xs) : OwnO w base e (some ⟨g, off + 1, none⟩) n (c - 1) (xs.drop 1) := by
  obtain ⟨h1, h2, h3, g', off', cs, hA, hb, hB, h4, h5⟩ := h
  cases hA
  refine ⟨by rw [List.length_drop]; omega, by omega, by omega, g, off + 1, cs, rfl, hb, hB, by omega, ?_⟩
  rw [← h5, List.drop_take, List.drop_drop]
  simp
theorem run_append_roomO {P : Program} (w : World) (t ty e : TypeId) (i : TypeInfo) (ht : P.underlying t = some (.slice e)) (hi : P.info? e = some i) (h1s : i.size = 1)
    (g off sLen sCap : Nat) (cur : Array Value) (hg : w.heap[g]? = some (.cells cur e (0, 0)))
    (a : Addr) (m c : Nat) (news : List Value) (hl : news.length = m) (hnews : ∀ j u, news[j]? = some u → w.cell? (a.add j) = some u) (h1 : ∀ u ∈ news, u.oneCell' = true)
    (hroom : sLen + m ≤ sCap) (hfit : off + sLen + news.length ≤ cur.size) :
    (Builtin.append_ #[t, t] ty #[.slice (some ⟨g, off, none⟩) sLen sCap, .slice (some a) m c]).run P w =
      .ok (.slice (some ⟨g, off, none⟩) (sLen + m) sCap) (w.setRow g (cur.toList.take (off + sLen) ++ news ++ cur.toList.drop (off + sLen + news.length)).toArray) := by
  have hf := run_firstCells_some (P := P) w i.size m a m c news (by rw [h1s, Nat.mul_one]; exact hl) hnews
  have hst := run_storeCells_at P g (off + sLen) e news 0 cur w hg (by simpa using hfit) h1
  simp only [Nat.add_zero] at hst
  rw [h1s] at hf
  simp [Builtin.append_, run_underlying ht, sizeOf, typeInfo, hi, h1s, Builtin.lenOf, hroom, hf, Addr.add_mid, hst]
theorem ro_appendO {P : Program} {ρ : Operand → Value} {w : World} {s x : Operand} {t base : Nat} {A A2 : Option Addr} {m j cap c2 e by_ : Nat} {z : Value} {xs news : List Value} (hq : litQ P t = some (e, 1, by_, z)) (hzs : z.cells.size = 1)
    (hs : ρ s = .slice A m cap) (hown : OwnO w base e A m cap xs) (hB : base ≤ w.heap.size)
    (hx : ρ x = .slice A2 j c2) (hl : news.length = j) (hsrc : ∃ b o, A2 = some ⟨b, o, none⟩ ∧ w.rangeAt b o news) (h1 : ∀ u ∈ news, u.oneCell' = true) (h63 : m + j ≤ 9223372036854775807) (hby : (m + j) * by_ ≤ 140737488355328) :
    ∃ A' cap' w', RO P ρ (.call { callee := .builtin .append, args := #[s, x], argTypes := #[t, t] }) w (.slice A' (m + j) cap') w' ∧ OwnO w' base e A' (m + j) cap' (xs ++ news) ∧ w.grownBy w' (A.map (·.block)) := by
  obtain ⟨i, hu, hi, hsz, hb, hz⟩ := lit_of hq
  obtain ⟨b, o, rfl, hr⟩ := hsrc
  obtain ⟨g1, g2, g3, g, off, cur, rfl, hbg, hg, g4, g5⟩ := hown
  have hnews : ∀ k u, news[k]? = some u → w.cell? ((⟨b, o, none⟩ : Addr).add k) = some u := fun k u hk => by rw [Addr.add_mid]; exact hr k u hk
  have key : ∀ ty, ∃ A' cap' w', (Builtin.append_ #[t, t] ty #[.slice (some ⟨g, off, none⟩) m cap, .slice (some ⟨b, o, none⟩) j c2]).run P w = .ok (.slice A' (m + j) cap') w' ∧ OwnO w' base e A' (m + j) cap' (xs ++ news) ∧ w.grownBy w' (some g) := fun ty => by
    by_cases hroom : m + j ≤ cap
    · have hrun := run_append_roomO w t ty e i hu hi hsz g off m cap cur hg _ j c2 news hl hnews h1 hroom (by omega)
      refine ⟨_, _, _, hrun, ⟨by rw [List.length_append]; omega, hroom, g3, g, off, _, rfl, hbg, setRow_heap w g cur _ e _ hg, ?_, ?_⟩, ⟨rfl, rfl, rfl, by simp, fun k _ hk => setRow_other w g k _ (fun e => hk (by rw [e]))⟩⟩
      · simp only [List.size_toArray, List.length_append, List.length_take, List.length_drop, Array.length_toList]
        omega
      · show ((List.take (off + m) cur.toList ++ news ++ List.drop (off + m + news.length) cur.toList).drop off).take (m + j) = xs ++ news
        have hcl : cur.toList.length = cur.size := Array.length_toList
        rw [List.append_assoc, List.drop_append_of_le_length (by rw [List.length_take]; omega), List.drop_take, show off + m - off = m by omega, g5, ← List.append_assoc]
        exact List.take_left' (by rw [List.length_append]; omega)
    · have holds : ∀ k u, xs[k]? = some u → w.cell? ((⟨g, off, none⟩ : Addr).add k) = some u := fun k u hk => by
        rw [Addr.add_mid]
        have hkl : k < m := by have := (List.getElem?_eq_some_iff.1 hk).1; omega
        rw [hg.cell, ← Array.getElem?_toList, ← List.getElem?_drop, ← hk, ← g5, List.getElem?_take_of_lt hkl]
      have hrun := run_append_grow (P := P) w t ty e i z hu hi hz ⟨g, off, none⟩ m cap xs (by rw [hsz, Nat.mul_one]; exact g1) holds ⟨b, o, none⟩ j c2 news (by rw [hsz, Nat.mul_one]; exact hl) hnews (by omega) (by omega) (by rw [hb]; exact growslice_fits (by omega) hby)
      have hge := grownCap_ge w (m + j) cap e
      refine ⟨_, _, _, hrun, ⟨by rw [List.length_append]; omega, hge, grownCap_le_maxLen w (m + j) cap e (by unfold maxLen; omega), w.heap.size, 0, _, rfl, hB, heap_alloc_new w.drew _, ?_, ?_⟩, ⟨rfl, rfl, rfl, by simp, fun k hk _ => heap_alloc_old w.drew _ hk⟩⟩
      · simp only [Array.size_append, List.size_toArray, size_zeroCells, hzs, g1, hl]
        omega
      · simp only [Array.toList_append, List.drop_zero]
        exact List.take_left' (by rw [List.length_append]; omega)
  obtain ⟨A', cap', w', hrun, hown', hgr⟩ := key 0
  refine ⟨A', cap', w', fun dst ty pos after g => ?_, hown', hgr⟩
  have hty : ∀ y : Value, (Builtin.append_ #[t, t] ty #[y, .slice (some ⟨b, o, none⟩) j c2]).run P w = (Builtin.append_ #[t, t] 0 #[y, .slice (some ⟨b, o, none⟩) j c2]).run P w := fun _ => rfl
  unfold execOp
  simp only [resolve, invoke, builtin, Sem.run_bind, Sem.run_pure, Result.andThen_ok, List.map_toArray, List.map_cons, List.map_nil, hs, hx, hty, hrun]
/-! ### a drawn region by an invariant, operation by operation -/
section
variable {P : Program} {Q : Exit → Act → World → Prop} {n : Fr} {L : List (Nat × Value)} {w : World} {l : List Oper}
def StepsI (P : Program) (n : Fr) (Inv : (Nat → Bool) → List (Nat × Value) → World → Prop) : Nat → List Oper → Prop
  | _, [] => True
  | i, o :: r => (∀ S L' w', Inv S L' w' → S i = false → EdgesOn S o.after.toList → StepI P n o (Inv (setB S i)) L' w') ∧ StepsI P n Inv (i + 1) r
theorem stepsI_at {Inv : (Nat → Bool) → List (Nat × Value) → World → Prop} : ∀ {r : List Oper} {k : Nat}, StepsI P n Inv k r → ∀ (i : Nat) (o : Oper), r[i]? = some o → ∀ S L' w', Inv S L' w' → S (k + i) = false → EdgesOn S o.after.toList → StepI P n o (Inv (setB S (k + i))) L' w'
  | [], _, _, i, o, h => by simp at h
  | x :: r, k, ⟨h1, h2⟩, 0, o, h => by
    simp only [List.getElem?_cons_zero, Option.some.injEq] at h
    subst h
    exact h1
  | x :: r, k, ⟨h1, h2⟩, i + 1, o, h => by
    have := stepsI_at h2 i o (by simpa using h)
    rwa [show k + 1 + i = k + (i + 1) by omega] at this
theorem cd_invS {id : Nat} (Inv : (Nat → Bool) → List (Nat × Value) → World → Prop) (hm : P.follows .mixedOrders = true) (hwf : edgesB l = true) (h0 : Inv (fun _ => false) L { w with drawn := w.drawn + 1 })
    (hstep : StepsI P n Inv 0 l) (hend : ∀ L' w', Inv (fun i => decide (i < l.length)) L' w' → Q .normal (mkA n L') w') : Cd P (.region id l.toArray true) Q n L w :=
  cd_inv Inv hm hwf h0 (fun i o S L' w' ho hI hS hE => by
    have := stepsI_at hstep i o ho S L' w' hI (by rw [Nat.zero_add]; exact hS) (edges_on fun e he => hE e (by simpa using he))
    rwa [Nat.zero_add] at this) hend
theorem inv_mkA {T : List (Nat × Nat × Value)} {S : Nat → Bool} {L' : List (Nat × Value)} (hU : UniT T) (hS : ∀ p ∈ T, S p.1 = true) (hI : InvL L T S L') : mkA n L' = mkA n (T.map (fun p => (p.2.1, p.2.2)) ++ L) := by
  unfold mkA
  rw [mkT_congr fun t _ => look_tab hU hI hS t]
/-- another value for what has not run -/
theorem InvL.swap {T T' : List (Nat × Nat × Value)} {S : Nat → Bool} {L' : List (Nat × Value)} (h : InvL L T S L') (h1 : T'.map (·.2.1) = T.map (·.2.1)) (h2 : ∀ p ∈ T', S p.1 = true → p ∈ T) (h3 : ∀ p ∈ T', ∃ q ∈ T, q.1 = p.1 ∧ q.2.1 = p.2.1) : InvL L T' S L' := by
  refine ⟨fun t ht => h.1 t fun p hp e => ?_, fun p hp hs => h.2.1 p (h2 p hp hs) hs, fun p hp hs => ?_⟩
  case refine_2 =>
    obtain ⟨q, hq, e1, e2⟩ := h3 p hp
    rw [← e2]
    exact h.2.2 q hq (by rw [e1]; exact hs)
  have : p.2.1 ∈ T'.map (·.2.1) := by rw [h1]; exact List.mem_map.2 ⟨p, hp, rfl⟩
  obtain ⟨q, hq, e2⟩ := List.mem_map.1 this
  exact ht q hq (by rw [e2, e])
/-- with values that are not known ahead -/
theorem cd_invE {id : Nat} {X : Type} (T : X → List (Nat × Nat × Value)) (Mem : (Nat → Bool) → X → World → Prop) (hm : P.follows .mixedOrders = true) (hwf : edgesB l = true) (hU : ∀ x, UniT (T x)) (hlt : ∀ x, ∀ p ∈ T x, p.1 < l.length) (x0 : X) (h0 : Mem (fun _ => false) x0 { w with drawn := w.drawn + 1 })
    (hstep : StepsI P n (fun S L' w' => ∃ x, InvL L (T x) S L' ∧ Mem S x w') 0 l) (hend : ∀ x w', Mem (fun i => decide (i < l.length)) x w' → Q .normal (mkA n ((T x).map (fun p => (p.2.1, p.2.2)) ++ L)) w') : Cd P (.region id l.toArray true) Q n L w :=
  cd_invS (fun S L' w' => ∃ x, InvL L (T x) S L' ∧ Mem S x w') hm hwf ⟨x0, ⟨fun _ _ => rfl, fun _ _ h => (by cases h), fun _ _ _ => rfl⟩, h0⟩ hstep fun L' w' ⟨x, hI, hM⟩ => by
    rw [inv_mkA (hU x) (fun p hp => decide_eq_true (hlt x p hp)) hI]
    exact hend x w' hM
end
section
variable {P : Program} {ρ : Operand → Value} {w : World} {t : TypeId} {x : Operand} {e g off c n : Nat}
theorem ro_takeN {m : Nat} {y : Operand} {k : IntKind} (ht : elemQ P t = some (e, 1)) (hx : ρ x = .slice (some ⟨g, off, none⟩) n c) (hy : ρ y = .int k (m : Nat)) (hm : m ≤ c) : RO P ρ (.slice t x none (some y) none) w (.slice (some ⟨g, off, none⟩) m c) w := by
  have := ro_slice (P := P) (ρ := ρ) (w := w) (l := 0) (h := m) ht (lo := none) (hi := some y) hx (.inl ⟨rfl, rfl⟩) (.inr ⟨y, k, rfl, hy⟩) (Nat.zero_le _) hm
  simpa using this
theorem ro_dropN {m : Nat} {y : Operand} {k : IntKind} (ht : elemQ P t = some (e, 1)) (hx : ρ x = .slice (some ⟨g, off, none⟩) n c) (hy : ρ y = .int k (m : Nat)) (hm : m ≤ n) (hn : n ≤ c) : RO P ρ (.slice t x (some y) none none) w (.slice (some ⟨g, if c = m then off else off + m, none⟩) (n - m) (c - m)) w := by
  have := ro_slice (P := P) (ρ := ρ) (w := w) (l := m) (h := n) ht (lo := some y) (hi := none) hx (.inr ⟨y, k, rfl, hy⟩) (.inl ⟨rfl, rfl⟩) hm hn
  simpa using this
end
/-- append, and where the row lies behind it -/
theorem ro_appendL {P : Program} {ρ : Operand → Value} {w : World} {s x : Operand} {t base : Nat} {A A2 : Option Addr} {m j cap c2 e size by_ : Nat} {z : Value} {xs news : List Value} (hq : litQ P t = some (e, size, by_, z)) (hzs : z.cells.size = size) (hs0 : 0 < size)
    (hs : ρ s = .slice A m cap) (hown : w.ownsRow base e size (.slice A m cap) m xs) (hB : base ≤ w.heap.size)
    (hx : ρ x = .slice A2 j c2) (hl : news.length = j * size) (hsrc : ∃ b o, A2 = some ⟨b, o, none⟩ ∧ w.rangeAt b o news) (h1 : ∀ u ∈ news, u.oneCell' = true) (h63 : m + j ≤ 9223372036854775807) (hby : (m + j) * by_ ≤ 140737488355328) :
    ∃ A' cap' w', RO P ρ (.call { callee := .builtin .append, args := #[s, x], argTypes := #[t, t] }) w (.slice A' (m + j) cap') w' ∧ w'.ownsRow base e size (.slice A' (m + j) cap') (m + j) (xs ++ news) ∧ w.grownBy w' (A.map (·.block)) ∧ (A'.map (·.block) = A.map (·.block) ∨ A'.map (·.block) = some w.heap.size) := by
  obtain ⟨i, hu, hi, hsz, hb, hz⟩ := lit_of hq
  obtain ⟨b, o, rfl, hr⟩ := hsrc
  have hobl : ∀ (A : Option Addr) (m c : Nat), (Value.slice A m c).ownBlock = A.map (·.block) := fun A m c => by cases A <;> rfl
  obtain ⟨v', w', hrun, hown', hg, _, h5⟩ := run_append_own_at (P := P) w base t 0 e i z size by_ hu hi hz hsz hb hzs hs0 _ m xs hown ⟨b, o, none⟩ j c2 news hl (fun i u hu => by rw [Addr.add_mid]; exact hr i u hu) h1 (by unfold maxLen; omega) hby hB
  obtain ⟨A', cap', rfl⟩ := own_form hown'
  rw [hobl, hobl] at h5
  refine ⟨A', cap', w', fun dst ty pos after g => ?_, hown', by rw [← hobl A m cap]; exact hg, h5⟩
  have hty : (Builtin.append_ #[t, t] ty #[.slice A m cap, .slice (some ⟨b, o, none⟩) j c2]).run P w = (Builtin.append_ #[t, t] 0 #[.slice A m cap, .slice (some ⟨b, o, none⟩) j c2]).run P w := rfl
  unfold execOp
  simp only [resolve, invoke, builtin, Sem.run_bind, Sem.run_pure, Result.andThen_ok, List.map_toArray, List.map_cons, List.map_nil, hs, hx, hty, hrun]
end Go.Proofs.Ytpafbgdbjambgaa
