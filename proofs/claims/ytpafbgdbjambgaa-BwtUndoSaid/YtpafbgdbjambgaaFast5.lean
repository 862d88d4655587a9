/- STEPS: a slice literal; append onto a row of the call's own. -/
import Derived.Test.YtpafbgdbjambgaaData
import Derived.Laws.AppendOwnNone
namespace Go.Proofs.Ytpafbgdbjambgaa
open Go.RowKit

def litQ (P : Program) (t : TypeId) : Option (TypeId × Nat × Nat × Value) := match P.underlying t with | some (.slice e) => (P.info? e).bind fun i => i.zero.map fun z => (e, i.size, i.bytes, z) | _ => none
theorem lit_of {P : Program} {t e size by_ : Nat} {z : Value} (h : litQ P t = some (e, size, by_, z)) : ∃ i, P.underlying t = some (.slice e) ∧ P.info? e = some i ∧ i.size = size ∧ i.bytes = by_ ∧ i.zero = some z := by
  unfold litQ at h
  split at h
  · rename_i e' hu
    cases hi : P.info? e' with
    | none => simp [hi] at h
    | some i =>
      rw [hi] at h
      cases hz : i.zero with
      | none => simp [hz] at h
      | some z' =>
        simp only [Option.bind_some, hz, Option.map_some, Option.some.injEq, Prod.mk.injEq] at h
        obtain ⟨rfl, rfl, rfl, rfl⟩ := h
        exact ⟨i, hu, hi, rfl, rfl, hz⟩
  · cases h
section
variable {P : Program} {ops : Array Oper} {Q : Exit → Act → World → Prop} {rest : List Oper} {n : Fr} {L : List (Nat × Value)} {w : World} {ty : TypeId} {pos : String} {after : Array Edge} {d : Nat} {t : TypeId} {x s : Operand}
theorem ro_lit {ρ : Operand → Value} {e m size by_ : Nat} {l : List (Nat × Operand)} {cells : Array Value} {z : Value} (hq : litQ P t = some (e, size, by_, z)) (hsmall : Nat.ble (m * size) 16777216 = true) (hpos : Nat.beq (m * size) 0 = false)
    (hf : Instr.fill (fun i => some (i * size, size)) ((Array.range (m * size)).map (z.cells[· % z.cells.size]!)) (l.map fun p => (p.1, ρ p.2)) = some cells) :
    RO P ρ (.buildSlice t m l.toArray) w (.slice (some ⟨w.heap.size, 0, none⟩) m m) (w.alloc (.cells cells e)) := by
  obtain ⟨i, hu, hi, hs, _, hz⟩ := lit_of hq
  subst hs
  refine ro_buildSlice hu hi hz ?_ ?_ hf
  · have := Nat.le_of_ble_eq_true hsmall; omega
  · intro h0; rw [h0] at hpos; cases hpos
theorem st_lit {e m size by_ : Nat} {l : List (Nat × Operand)} {cells : Array Value} {z : Value} (hq : litQ P t = some (e, size, by_, z)) (hsmall : Nat.ble (m * size) 16777216 = true) (hpos : Nat.beq (m * size) 0 = false)
    (hf : Instr.fill (fun i => some (i * size, size)) ((Array.range (m * size)).map (z.cells[· % z.cells.size]!)) (l.map fun p => (p.1, ev n L p.2)) = some cells)
    (k : ∀ g w', From w w' → g = w.heap.size → Blk w' g e cells → St P ops Q rest n ((d, .slice (some ⟨g, 0, none⟩) m m) :: L) w') : St P ops Q (⟨some d, .buildSlice t m l.toArray, ty, pos, after, none⟩ :: rest) n L w :=
  st_val (ro_lit hq hsmall hpos hf) (k _ _ (From.rfl_.new _) rfl (Blk.new w e _))
/-- one element of one cell -/
theorem st_lit1 {e by_ : Nat} {z v : Value} (hq : litQ P t = some (e, 1, by_, z)) (hz : z.cells.size = 1) (hx : ev n L x = v) (hv : v.cells = #[v])
    (k : ∀ g w', From w w' → g = w.heap.size → Blk w' g e #[v] → St P ops Q rest n ((d, .slice (some ⟨g, 0, none⟩) 1 1) :: L) w') : St P ops Q (⟨some d, .buildSlice t 1 #[(0, x)], ty, pos, after, none⟩ :: rest) n L w := by
  refine st_lit (l := [(0, x)]) (cells := #[v]) hq rfl rfl ?_ k
  have e1 : (Array.range (1 * 1)).map (z.cells[· % z.cells.size]!) = #[z.cells[0]!] := by
    rw [show Array.range (1 * 1) = #[0] from rfl]
    simp
  rw [e1]
  simp [Instr.fill, hx, hv]

def litParts {α : Type} : Nat → List α → List (Nat × α)
  | _, [] => []
  | i, x :: r => (i, x) :: litParts (i + 1) r
theorem litParts_map {α β : Type} (f : α → β) : ∀ (i : Nat) (l : List α), (litParts i l).map (fun p => (p.1, f p.2)) = litParts i (l.map f)
  | _, [] => rfl
  | i, x :: r => by simp [litParts, litParts_map f (i + 1) r]
theorem fill_parts : ∀ (vs : List Value) (k : Nat) (cells : Array Value), (∀ v ∈ vs, v.cells = #[v]) → k + vs.length ≤ cells.size →
    ∃ R : Array Value, Instr.fill (fun i => some (i * 1, 1)) cells (litParts k vs) = some R ∧ R.size = cells.size ∧ ∀ j, R[j]? = if k ≤ j ∧ j < k + vs.length then vs[j - k]? else cells[j]?
  | [], k, cells, _, _ => ⟨cells, rfl, rfl, fun j => by rw [if_neg (by simp only [List.length_nil]; omega)]⟩
  | v :: r, k, cells, h, hl => by
    simp only [List.length_cons] at hl
    have hv : v.cells = #[v] := h v (List.mem_cons_self ..)
    obtain ⟨R, hR, hs, hc⟩ := fill_parts r (k + 1) (cells.setIfInBounds k v) (fun u hu => h u (List.mem_cons_of_mem _ hu)) (by rw [Array.size_setIfInBounds]; omega)
    have hcond : ¬ (cells.size < k + 1) := by omega
    refine ⟨R, ?_, by simpa using hs, fun j => ?_⟩
    · simp only [litParts, Instr.fill, Nat.mul_one, hv]
      simpa [hcond] using hR
    · rw [hc]
      by_cases hj : j = k
      · subst hj
        rw [if_neg (by omega), if_pos (by simp)]
        simp [show j < cells.size by omega]
      · by_cases h2 : k + 1 ≤ j ∧ j < k + 1 + r.length
        · rw [if_pos h2, if_pos (by simp; omega)]
          obtain ⟨d, hd⟩ : ∃ d, j - k = d + 1 := ⟨j - k - 1, by omega⟩
          rw [hd, show j - (k + 1) = d by omega, List.getElem?_cons_succ]
        · rw [if_neg h2, if_neg (by simp; omega), Array.getElem?_setIfInBounds_ne (fun e => hj e.symm)]
/-- a literal of one-cell elements -/
theorem st_lits {e by_ m : Nat} {z : Value} (xs : List Operand) (vs : List Value) (hq : litQ P t = some (e, 1, by_, z)) (hm : xs.length = m) (hsmall : Nat.ble m 16777216 = true) (hpos : Nat.beq m 0 = false) (hx : xs.map (ev n L) = vs) (hv : ∀ v ∈ vs, v.cells = #[v])
    (k : ∀ g w', From w w' → g = w.heap.size → Blk w' g e vs.toArray → St P ops Q rest n ((d, .slice (some ⟨g, 0, none⟩) m m) :: L) w') : St P ops Q (⟨some d, .buildSlice t m (litParts 0 xs).toArray, ty, pos, after, none⟩ :: rest) n L w := by
  have hlen : vs.length = m := by rw [← hx, List.length_map, hm]
  obtain ⟨R, hR, hs, hc⟩ := fill_parts vs 0 ((Array.range (m * 1)).map (z.cells[· % z.cells.size]!)) hv (by simp; omega)
  have hRe : R = vs.toArray := by
    apply Array.ext_getElem?
    intro j
    rw [hc]
    by_cases hj : j < m
    · rw [if_pos ⟨by omega, by omega⟩, Nat.sub_zero, List.getElem?_toArray]
    · rw [if_neg (by omega), Array.getElem?_eq_none (by rw [Array.size_map, Array.size_range]; omega), Array.getElem?_eq_none (by rw [List.size_toArray]; omega)]
  subst hRe
  refine st_lit hq (by rw [Nat.mul_one]; exact hsmall) (by rw [Nat.mul_one]; exact hpos) ?_ k
  rw [litParts_map, hx]
  exact hR
theorem st_appendB {base : Nat} {A A2 : Option Addr} {m j cap c2 e size by_ : Nat} {z : Value} {xs news : List Value} (hq : litQ P t = some (e, size, by_, z)) (hzs : z.cells.size = size) (hs0 : 0 < size)
    (hs : ev n L s = .slice A m cap) (hown : w.ownsRow base e size (.slice A m cap) m xs) (hB : base ≤ w.heap.size)
    (hx : ev n L x = .slice A2 j c2) (hl : news.length = j * size) (hsrc : 0 < j → ∃ b o, A2 = some ⟨b, o, none⟩ ∧ w.rangeAt b o news) (hnil : A2 = none → c2 = 0) (h1 : ∀ u ∈ news, u.oneCell' = true) (h63 : m + j ≤ 9223372036854775807) (hby : (m + j) * by_ ≤ 140737488355328)
    (k : ∀ A' cap' w', w'.ownsRow base e size (.slice A' (m + j) cap') (m + j) (xs ++ news) → w.grownBy w' (A.map (·.block)) → St P ops Q rest n ((d, .slice A' (m + j) cap') :: L) w') :
    St P ops Q (⟨some d, .call { callee := .builtin .append, args := #[s, x], argTypes := #[t, t] }, ty, pos, after, none⟩ :: rest) n L w := by
  obtain ⟨i, hu, hi, hsz, hb, hz⟩ := lit_of hq
  have hobl : (Value.slice A m cap).ownBlock = A.map (·.block) := by cases A <;> rfl
  cases A2 with
  | none =>
    have hj : j = 0 := by
      rcases Nat.eq_zero_or_pos j with h | h
      · exact h
      · obtain ⟨b, o, hA, _⟩ := hsrc h; cases hA
    subst hj
    have hnn : news = [] := List.eq_nil_of_length_eq_zero (by simpa using hl)
    subst hnn
    have hc := hnil rfl
    subst hc
    refine ⟨wpList_append_own_none (P := P) (a := mkA n L) rfl s x t rfl base e i size hu hi _ m xs (by rw [eval_mkA]; exact hs) hown (by rw [eval_mkA]; exact hx) ?_⟩
    rw [put_mkA]
    have := k A cap w (by simpa using hown) (World.grownBy.refl _ _)
    simpa using this.out
  | some ad =>
    by_cases hj : j = 0
    · subst hj
      have hnn : news = [] := List.eq_nil_of_length_eq_zero (by simpa using hl)
      subst hnn
      refine ⟨wpList_append_own (P := P) w (a := mkA n L) rfl s x t rfl base e i z size by_ hu hi hz hsz hb hzs hs0 _ m xs (by rw [eval_mkA]; exact hs) hown ad 0 c2 [] (by rw [eval_mkA]; exact hx) (by simp) (by simp) (by simp) (by unfold maxLen; omega) hby hB ?_⟩
      intro v' w' hown' hg _
      obtain ⟨A', cap', rfl⟩ := own_form hown'
      rw [put_mkA]
      exact (k A' cap' w' hown' (by rw [← hobl]; exact hg)).out
    · obtain ⟨b, o, hA, hr⟩ := hsrc (by omega)
      cases hA
      refine ⟨wpList_append_own (P := P) w (a := mkA n L) rfl s x t rfl base e i z size by_ hu hi hz hsz hb hzs hs0 _ m xs (by rw [eval_mkA]; exact hs) hown ⟨b, o, none⟩ j c2 news (by rw [eval_mkA]; exact hx) hl (fun i u hu => by rw [Addr.add_mid]; exact hr i u hu) h1 (by unfold maxLen; omega) hby hB ?_⟩
      intro v' w' hown' hg _
      obtain ⟨A', cap', rfl⟩ := own_form hown'
      rw [put_mkA]
      exact (k A' cap' w' hown' (by rw [← hobl]; exact hg)).out
theorem st_append {a0 : World} {A A2 : Option Addr} {m j cap c2 e size by_ : Nat} {z : Value} {xs news : List Value} (hq : litQ P t = some (e, size, by_, z)) (hzs : z.cells.size = size) (hs0 : 0 < size)
    (hs : ev n L s = .slice A m cap) (hown : w.ownsRow a0.heap.size e size (.slice A m cap) m xs) (hB : From a0 w)
    (hx : ev n L x = .slice A2 j c2) (hl : news.length = j * size) (hsrc : 0 < j → ∃ b o, A2 = some ⟨b, o, none⟩ ∧ w.rangeAt b o news) (hnil : A2 = none → c2 = 0) (h1 : ∀ u ∈ news, u.oneCell' = true) (h63 : m + j ≤ 9223372036854775807) (hby : (m + j) * by_ ≤ 140737488355328)
    (k : ∀ A' cap' w', w'.ownsRow a0.heap.size e size (.slice A' (m + j) cap') (m + j) (xs ++ news) → From a0 w' → w.grownBy w' (A.map (·.block)) → St P ops Q rest n ((d, .slice A' (m + j) cap') :: L) w') :
    St P ops Q (⟨some d, .call { callee := .builtin .append, args := #[s, x], argTypes := #[t, t] }, ty, pos, after, none⟩ :: rest) n L w :=
  st_appendB hq hzs hs0 hs hown hB.size hx hl hsrc hnil h1 h63 hby fun A' cap' w' ho hg => k A' cap' w' ho (hB.grew hg (fun k' hk => (hown.lt k' (by rw [← hk]; cases A <;> rfl)).1)) hg
/-- one more element of one cell, that lies in a block of its own -/
theorem st_push1 {a0 : World} {A : Option Addr} {m cap e by_ b : Nat} {z v : Value} {xs : List Value} (hq : litQ P t = some (e, 1, by_, z)) (hzs : z.cells.size = 1)
    (hs : ev n L s = .slice A m cap) (hown : w.ownsRow a0.heap.size e 1 (.slice A m cap) m xs) (hB : From a0 w)
    (hx : ev n L x = .slice (some ⟨b, 0, none⟩) 1 1) (hb : Blk w b e #[v]) (h1 : v.oneCell' = true) (h63 : m + 1 ≤ 9223372036854775807) (hby : (m + 1) * by_ ≤ 140737488355328)
    (k : ∀ A' cap' w', w'.ownsRow a0.heap.size e 1 (.slice A' (m + 1) cap') (m + 1) (xs ++ [v]) → From a0 w' → w.grownBy w' (A.map (·.block)) → St P ops Q rest n ((d, .slice A' (m + 1) cap') :: L) w') :
    St P ops Q (⟨some d, .call { callee := .builtin .append, args := #[s, x], argTypes := #[t, t] }, ty, pos, after, none⟩ :: rest) n L w :=
  st_append hq hzs (by decide) hs hown hB hx rfl (fun _ => ⟨b, 0, rfl, fun i u hu => by
    cases i with
    | zero => simp at hu; subst hu; rw [hb.cell]; rfl
    | succ i => simp at hu⟩) (fun h => by cases h) (by simpa using h1) h63 hby k
/-- a store into a row of the call's own -/
theorem st_putOwn {g i m cap e base : Nat} {xs : List Value} {v : Value} {y : Operand} (ht : sizeQ P t = some 1) (hx : ev n L x = .pointer (some ⟨g, i, none⟩)) (hy : ev n L y = v) (h1 : v.oneCell' = true)
    (ho : w.ownsRow base e 1 (.slice (some ⟨g, 0, none⟩) m cap) m xs) (hi : i < m)
    (k : ∀ w', Only g w w' → w'.ownsRow base e 1 (.slice (some ⟨g, 0, none⟩) m cap) m (xs.set i v) → St P ops Q rest n L w') : St P ops Q (⟨none, .store t x y, ty, pos, after, none⟩ :: rest) n L w := by
  have hlen : xs.length = m := by simpa using ho.1
  have hc : w.cell? ⟨g, i, none⟩ = some (xs[i]'(by omega)) := by rw [ho.cellAt i (by rw [Nat.mul_one]; exact hi)]; simp [hlen, hi]
  exact st_store (rs_store ht hx hy h1 hc (ho.frozenAt i)) (k _ (Only.setCell w g i v) (ho.stored i v).1)
end
theorem own_some {w : World} {base e s n c : Nat} {A : Option Addr} {xs : List Value} (h : w.ownsRow base e s (.slice A n c) n xs) (hn : 0 < n) : ∃ g, A = some ⟨g, 0, none⟩ := by
  rcases h.2 with ⟨_, h0⟩ | ⟨g, cap, cur, hv, _⟩
  · omega
  · simp only [Value.slice.injEq] at hv
    exact ⟨g, hv.1⟩
theorem own_len {α : Type} {f : α → Value} {w : World} {base e n : Nat} {v : Value} {l : List α} (h : w.ownsRow base e 1 v n (l.map f)) : l.length = n := by simpa using h.1
theorem own_cell {α : Type} {f : α → Value} {w : World} {base e g n c : Nat} {l : List α} (h : w.ownsRow base e 1 (.slice (some ⟨g, 0, none⟩) n c) n (l.map f)) (i : Nat) (hi : i < l.length) : w.cell? ⟨g, i, none⟩ = some (f l[i]) := by
  rw [h.cellAt i (by rw [← own_len h]; omega)]
  simp [hi]
theorem grown_trans {w w1 w2 : World} {r : Option Nat} (h : w.grownBy w1 r) (k : w1.grownBy w2 r) : w.grownBy w2 r :=
  ⟨k.os.trans h.os, k.tape.trans h.tape, k.output.trans h.output, Nat.le_trans h.size k.size, fun i hi hg => (k.block i (Nat.lt_of_lt_of_le hi h.size) hg).trans (h.block i hi hg)⟩
theorem Only.grown {g : Nat} {w w' : World} (h : Only g w w') : w.grownBy w' (some g) := ⟨h.os, h.tape, h.output, by rw [h.size]; exact Nat.le_refl _, fun k _ hk => h.block k (fun e => hk (by rw [e]))⟩
theorem From.grown {w w' : World} (h : From w w') (r : Option Nat) : w.grownBy w' r := ⟨h.os, h.tape, h.output, h.size, fun k hk _ => h.block k hk⟩
/-- a row that is not the one that may have changed -/
theorem own_kept {w w' : World} {r : Option Nat} {base e s n : Nat} {v : Value} {xs : List Value} (h : w.ownsRow base e s v n xs) (hg : w.grownBy w' r) (hne : ∀ k, r = some k → k < base) : w'.ownsRow base e s v n xs := by
  refine h.kept hg ?_
  cases hv : v.ownBlock with
  | none => exact .inl rfl
  | some k =>
    refine .inr fun e => ?_
    have := (h.lt k hv).1
    have := hne k e.symm
    omega
end Go.Proofs.Ytpafbgdbjambgaa
