/- Walks of package entries by the new tool: Merge. -/
import Derived.Test.YtjliefglelcooaaDoorMgRpcAny1
import Derived.Laws.AppendOwnNone
import Derived.Test.YtjliefglelcooaaDoorRows
import Derived.ProofKit
import Derived.Deep.Slices
import Derived.Deep.Fields
import Derived.ChangeSame
import Derived.SizedLaws
import Derived.Deep.DeepHandedRow
import Derived.Lib.LaidTab
import Derived.OpenShut
namespace Go.Proofs.YtjliefglelcooaaDoor
open Go.RowKit

def litQ (P : Program) (t : TypeId) : Option (TypeId × Nat × Nat × Value) := match P.underlying t with | some (.slice e) => (P.info? e).bind fun i => i.zero.map fun z => (e, i.size, i.bytes, z) | _ => none
theorem lit_of {P : Program} {t e size by_ : Nat} {z : Value} (h : litQ P t = some (e, size, by_, z)) : ∃ i, P.underlying t = some (.slice e) ∧ P.info? e = some i ∧ i.size = size ∧ i.bytes = by_ ∧ i.zero = some z := by
  unfold litQ at h
  split at h
  · rename_i e' hu
    cases hi : P.info? e' with
    | none => simp [hi] at h
    | some i =>
      rw [hi] at h
      cases hz : i.zero with
      | none => simp [hz] at h
      | some z' =>
        simp only [Option.bind_some, hz, Option.map_some, Option.some.injEq, Prod.mk.injEq] at h
        obtain ⟨rfl, rfl, rfl, rfl⟩ := h
        exact ⟨i, hu, hi, rfl, rfl, hz⟩
  · cases h
section
variable {P : Program} {ops : Array Oper} {Q : Exit → Act → World → Prop} {rest : List Oper} {n : Nat} {L : List (Nat × Value)} {w : World} {ty : TypeId} {pos : String} {after : Array Edge} {d : Nat} {t : TypeId} {x s : Operand}
theorem ro_lit {ρ : Operand → Value} {e m size by_ : Nat} {l : List (Nat × Operand)} {cells : Array Value} {z : Value} (hq : litQ P t = some (e, size, by_, z)) (hsmall : Nat.ble (m * size) 16777216 = true) (hpos : Nat.beq (m * size) 0 = false)
    (hf : Instr.fill (fun i => some (i * size, size)) ((Array.range (m * size)).map (z.cells[· % z.cells.size]!)) (l.map fun p => (p.1, ρ p.2)) = some cells) :
    RO P ρ (.buildSlice t m l.toArray) w (.slice (some ⟨w.heap.size, 0, none⟩) m m) (w.alloc (.cells cells e)) := by
  obtain ⟨i, hu, hi, hs, _, hz⟩ := lit_of hq
  subst hs
  refine ro_buildSlice hu hi hz ?_ ?_ hf
  · have := Nat.le_of_ble_eq_true hsmall; omega
  · intro h0; rw [h0] at hpos; cases hpos
theorem st_lit {e m size by_ : Nat} {l : List (Nat × Operand)} {cells : Array Value} {z : Value} (hq : litQ P t = some (e, size, by_, z)) (hsmall : Nat.ble (m * size) 16777216 = true) (hpos : Nat.beq (m * size) 0 = false)
    (hf : Instr.fill (fun i => some (i * size, size)) ((Array.range (m * size)).map (z.cells[· % z.cells.size]!)) (l.map fun p => (p.1, ev n L p.2)) = some cells)
    (k : ∀ g w', From w w' → g = w.heap.size → Blk w' g e cells → St P ops Q rest n ((d, .slice (some ⟨g, 0, none⟩) m m) :: L) w') : St P ops Q (⟨some d, .buildSlice t m l.toArray, ty, pos, after, none⟩ :: rest) n L w :=
  st_val (ro_lit hq hsmall hpos hf) (k _ _ (From.rfl_.new _) rfl (Blk.new w e _))
/-- one element of one cell -/
theorem st_lit1 {e by_ : Nat} {z v : Value} (hq : litQ P t = some (e, 1, by_, z)) (hz : z.cells.size = 1) (hx : ev n L x = v) (hv : v.cells = #[v])
    (k : ∀ g w', From w w' → g = w.heap.size → Blk w' g e #[v] → St P ops Q rest n ((d, .slice (some ⟨g, 0, none⟩) 1 1) :: L) w') : St P ops Q (⟨some d, .buildSlice t 1 #[(0, x)], ty, pos, after, none⟩ :: rest) n L w := by
  refine st_lit (l := [(0, x)]) (cells := #[v]) hq rfl rfl ?_ k
  have e1 : (Array.range (1 * 1)).map (z.cells[· % z.cells.size]!) = #[z.cells[0]!] := by
    rw [show Array.range (1 * 1) = #[0] from rfl]
    simp
  rw [e1]
  simp [Instr.fill, hx, hv]

def litParts {α : Type} : Nat → List α → List (Nat × α)
  | _, [] => []
  | i, x :: r => (i, x) :: litParts (i + 1) r
theorem litParts_map {α β : Type} (f : α → β) : ∀ (i : Nat) (l : List α), (litParts i l).map (fun p => (p.1, f p.2)) = litParts i (l.map f)
  | _, [] => rfl
  | i, x :: r => by simp [litParts, litParts_map f (i + 1) r]
theorem fill_parts : ∀ (vs : List Value) (k : Nat) (cells : Array Value), (∀ v ∈ vs, v.cells = #[v]) → k + vs.length ≤ cells.size →
    ∃ R : Array Value, Instr.fill (fun i => some (i * 1, 1)) cells (litParts k vs) = some R ∧ R.size = cells.size ∧ ∀ j, R[j]? = if k ≤ j ∧ j < k + vs.length then vs[j - k]? else cells[j]?
  | [], k, cells, _, _ => ⟨cells, rfl, rfl, fun j => by rw [if_neg (by simp only [List.length_nil]; omega)]⟩
  | v :: r, k, cells, h, hl => by
    simp only [List.length_cons] at hl
    have hv : v.cells = #[v] := h v (List.mem_cons_self ..)
    obtain ⟨R, hR, hs, hc⟩ := fill_parts r (k + 1) (cells.setIfInBounds k v) (fun u hu => h u (List.mem_cons_of_mem _ hu)) (by rw [Array.size_setIfInBounds]; omega)
    have hcond : ¬ (cells.size < k + 1) := by omega
    refine ⟨R, ?_, by simpa using hs, fun j => ?_⟩
    · simp only [litParts, Instr.fill, Nat.mul_one, hv]
      simpa [hcond] using hR
    · rw [hc]
      by_cases hj : j = k
      · subst hj
        rw [if_neg (by omega), if_pos (by simp)]
        simp [show j < cells.size by omega]
      · by_cases h2 : k + 1 ≤ j ∧ j < k + 1 + r.length
        · rw [if_pos h2, if_pos (by simp; omega)]
          obtain ⟨d, hd⟩ : ∃ d, j - k = d + 1 := ⟨j - k - 1, by omega⟩
          rw [hd, show j - (k + 1) = d by omega, List.getElem?_cons_succ]
        · rw [if_neg h2, if_neg (by simp; omega), Array.getElem?_setIfInBounds_ne (fun e => hj e.symm)]
/-- a literal of one-cell elements -/
theorem st_lits {e by_ m : Nat} {z : Value} (xs : List Operand) (vs : List Value) (hq : litQ P t = some (e, 1, by_, z)) (hm : xs.length = m) (hsmall : Nat.ble m 16777216 = true) (hpos : Nat.beq m 0 = false) (hx : xs.map (ev n L) = vs) (hv : ∀ v ∈ vs, v.cells = #[v])
    (k : ∀ g w', From w w' → g = w.heap.size → Blk w' g e vs.toArray → St P ops Q rest n ((d, .slice (some ⟨g, 0, none⟩) m m) :: L) w') : St P ops Q (⟨some d, .buildSlice t m (litParts 0 xs).toArray, ty, pos, after, none⟩ :: rest) n L w := by
  have hlen : vs.length = m := by rw [← hx, List.length_map, hm]
  obtain ⟨R, hR, hs, hc⟩ := fill_parts vs 0 ((Array.range (m * 1)).map (z.cells[· % z.cells.size]!)) hv (by simp; omega)
  have hRe : R = vs.toArray := by
    apply Array.ext_getElem?
    intro j
    rw [hc]
    by_cases hj : j < m
    · rw [if_pos ⟨by omega, by omega⟩, Nat.sub_zero, List.getElem?_toArray]
    · rw [if_neg (by omega), Array.getElem?_eq_none (by rw [Array.size_map, Array.size_range]; omega), Array.getElem?_eq_none (by rw [List.size_toArray]; omega)]
  subst hRe
  refine st_lit hq (by rw [Nat.mul_one]; exact hsmall) (by rw [Nat.mul_one]; exact hpos) ?_ k
  rw [litParts_map, hx]
  exact hR
theorem st_appendB {base : Nat} {A A2 : Option Addr} {m j cap c2 e size by_ : Nat} {z : Value} {xs news : List Value} (hq : litQ P t = some (e, size, by_, z)) (hzs : z.cells.size = size) (hs0 : 0 < size)
    (hs : ev n L s = .slice A m cap) (hown : w.ownsRow base e size (.slice A m cap) m xs) (hB : base ≤ w.heap.size)
    (hx : ev n L x = .slice A2 j c2) (hl : news.length = j * size) (hsrc : 0 < j → ∃ b o, A2 = some ⟨b, o, none⟩ ∧ w.rangeAt b o news) (hnil : A2 = none → c2 = 0) (h1 : ∀ u ∈ news, u.oneCell' = true) (h63 : m + j ≤ 9223372036854775807) (hby : (m + j) * by_ ≤ 140737488355328)
    (k : ∀ A' cap' w', w'.ownsRow base e size (.slice A' (m + j) cap') (m + j) (xs ++ news) → w.grownBy w' (A.map (·.block)) → St P ops Q rest n ((d, .slice A' (m + j) cap') :: L) w') :
    St P ops Q (⟨some d, .call { callee := .builtin .append, args := #[s, x], argTypes := #[t, t] }, ty, pos, after, none⟩ :: rest) n L w := by
  obtain ⟨i, hu, hi, hsz, hb, hz⟩ := lit_of hq
  have hobl : (Value.slice A m cap).ownBlock = A.map (·.block) := by cases A <;> rfl
  cases A2 with
  | none =>
    have hj : j = 0 := by
      rcases Nat.eq_zero_or_pos j with h | h
      · exact h
      · obtain ⟨b, o, hA, _⟩ := hsrc h; cases hA
    subst hj
    have hnn : news = [] := List.eq_nil_of_length_eq_zero (by simpa using hl)
    subst hnn
    have hc := hnil rfl
    subst hc
    refine ⟨wpList_append_own_none (P := P) (a := mkA n L) rfl s x t rfl base e i size hu hi _ m xs (by rw [eval_mkA]; exact hs) hown (by rw [eval_mkA]; exact hx) ?_⟩
    rw [put_mkA]
    have := k A cap w (by simpa using hown) (World.grownBy.refl _ _)
    simpa using this.out
  | some ad =>
    by_cases hj : j = 0
    · subst hj
      have hnn : news = [] := List.eq_nil_of_length_eq_zero (by simpa using hl)
      subst hnn
      refine ⟨wpList_append_own (P := P) w (a := mkA n L) rfl s x t rfl base e i z size by_ hu hi hz hsz hb hzs hs0 _ m xs (by rw [eval_mkA]; exact hs) hown ad 0 c2 [] (by rw [eval_mkA]; exact hx) (by simp) (by simp) (by simp) (by unfold maxLen; omega) hby hB ?_⟩
      intro v' w' hown' hg _
      obtain ⟨A', cap', rfl⟩ := own_form hown'
      rw [put_mkA]
      exact (k A' cap' w' hown' (by rw [← hobl]; exact hg)).out
    · obtain ⟨b, o, hA, hr⟩ := hsrc (by omega)
      cases hA
      refine ⟨wpList_append_own (P := P) w (a := mkA n L) rfl s x t rfl base e i z size by_ hu hi hz hsz hb hzs hs0 _ m xs (by rw [eval_mkA]; exact hs) hown ⟨b, o, none⟩ j c2 news (by rw [eval_mkA]; exact hx) hl (fun i u hu => by rw [Addr.add_mid]; exact hr i u hu) h1 (by unfold maxLen; omega) hby hB ?_⟩
      intro v' w' hown' hg _
      obtain ⟨A', cap', rfl⟩ := own_form hown'
      rw [put_mkA]
      exact (k A' cap' w' hown' (by rw [← hobl]; exact hg)).out
theorem st_append {a0 : World} {A A2 : Option Addr} {m j cap c2 e size by_ : Nat} {z : Value} {xs news : List Value} (hq : litQ P t = some (e, size, by_, z)) (hzs : z.cells.size = size) (hs0 : 0 < size)
    (hs : ev n L s = .slice A m cap) (hown : w.ownsRow a0.heap.size e size (.slice A m cap) m xs) (hB : From a0 w)
    (hx : ev n L x = .slice A2 j c2) (hl : news.length = j * size) (hsrc : 0 < j → ∃ b o, A2 = some ⟨b, o, none⟩ ∧ w.rangeAt b o news) (hnil : A2 = none → c2 = 0) (h1 : ∀ u ∈ news, u.oneCell' = true) (h63 : m + j ≤ 9223372036854775807) (hby : (m + j) * by_ ≤ 140737488355328)
    (k : ∀ A' cap' w', w'.ownsRow a0.heap.size e size (.slice A' (m + j) cap') (m + j) (xs ++ news) → From a0 w' → w.grownBy w' (A.map (·.block)) → St P ops Q rest n ((d, .slice A' (m + j) cap') :: L) w') :
    St P ops Q (⟨some d, .call { callee := .builtin .append, args := #[s, x], argTypes := #[t, t] }, ty, pos, after, none⟩ :: rest) n L w :=
  st_appendB hq hzs hs0 hs hown hB.size hx hl hsrc hnil h1 h63 hby fun A' cap' w' ho hg => k A' cap' w' ho (hB.grew hg (fun k' hk => (hown.lt k' (by rw [← hk]; cases A <;> rfl)).1)) hg
/-- one more element of one cell, that lies in a block of its own -/
theorem st_push1 {a0 : World} {A : Option Addr} {m cap e by_ b : Nat} {z v : Value} {xs : List Value} (hq : litQ P t = some (e, 1, by_, z)) (hzs : z.cells.size = 1)
    (hs : ev n L s = .slice A m cap) (hown : w.ownsRow a0.heap.size e 1 (.slice A m cap) m xs) (hB : From a0 w)
    (hx : ev n L x = .slice (some ⟨b, 0, none⟩) 1 1) (hb : Blk w b e #[v]) (h1 : v.oneCell' = true) (h63 : m + 1 ≤ 9223372036854775807) (hby : (m + 1) * by_ ≤ 140737488355328)
    (k : ∀ A' cap' w', w'.ownsRow a0.heap.size e 1 (.slice A' (m + 1) cap') (m + 1) (xs ++ [v]) → From a0 w' → w.grownBy w' (A.map (·.block)) → St P ops Q rest n ((d, .slice A' (m + 1) cap') :: L) w') :
    St P ops Q (⟨some d, .call { callee := .builtin .append, args := #[s, x], argTypes := #[t, t] }, ty, pos, after, none⟩ :: rest) n L w :=
  st_append hq hzs (by decide) hs hown hB hx rfl (fun _ => ⟨b, 0, rfl, fun i u hu => by
    cases i with
    | zero => simp at hu; subst hu; rw [hb.cell]; rfl
    | succ i => simp at hu⟩) (fun h => by cases h) (by simpa using h1) h63 hby k
/-- a store into a row of the call's own -/
theorem st_putOwn {g i m cap e base : Nat} {xs : List Value} {v : Value} {y : Operand} (ht : sizeQ P t = some 1) (hx : ev n L x = .pointer (some ⟨g, i, none⟩)) (hy : ev n L y = v) (h1 : v.oneCell' = true)
    (ho : w.ownsRow base e 1 (.slice (some ⟨g, 0, none⟩) m cap) m xs) (hi : i < m)
    (k : ∀ w', Only g w w' → w'.ownsRow base e 1 (.slice (some ⟨g, 0, none⟩) m cap) m (xs.set i v) → St P ops Q rest n L w') : St P ops Q (⟨none, .store t x y, ty, pos, after, none⟩ :: rest) n L w := by
  have hlen : xs.length = m := by simpa using ho.1
  have hc : w.cell? ⟨g, i, none⟩ = some (xs[i]'(by omega)) := by rw [ho.cellAt i (by rw [Nat.mul_one]; exact hi)]; simp [hlen, hi]
  exact st_store (rs_store ht hx hy h1 hc (ho.frozenAt i)) (k _ (Only.setCell w g i v) (ho.stored i v).1)
end
theorem own_some {w : World} {base e s n c : Nat} {A : Option Addr} {xs : List Value} (h : w.ownsRow base e s (.slice A n c) n xs) (hn : 0 < n) : ∃ g, A = some ⟨g, 0, none⟩ := by
  rcases h.2 with ⟨_, h0⟩ | ⟨g, cap, cur, hv, _⟩
  · omega
  · simp only [Value.slice.injEq] at hv
    exact ⟨g, hv.1⟩
theorem own_len {α : Type} {f : α → Value} {w : World} {base e n : Nat} {v : Value} {l : List α} (h : w.ownsRow base e 1 v n (l.map f)) : l.length = n := by simpa using h.1
theorem own_cell {α : Type} {f : α → Value} {w : World} {base e g n c : Nat} {l : List α} (h : w.ownsRow base e 1 (.slice (some ⟨g, 0, none⟩) n c) n (l.map f)) (i : Nat) (hi : i < l.length) : w.cell? ⟨g, i, none⟩ = some (f l[i]) := by
  rw [h.cellAt i (by rw [← own_len h]; omega)]
  simp [hi]
theorem grown_trans {w w1 w2 : World} {r : Option Nat} (h : w.grownBy w1 r) (k : w1.grownBy w2 r) : w.grownBy w2 r :=
  ⟨k.os.trans h.os, k.tape.trans h.tape, k.output.trans h.output, Nat.le_trans h.size k.size, fun i hi hg => (k.block i (Nat.lt_of_lt_of_le hi h.size) hg).trans (h.block i hi hg)⟩
theorem Only.grown {g : Nat} {w w' : World} (h : Only g w w') : w.grownBy w' (some g) := ⟨h.os, h.tape, h.output, by rw [h.size]; exact Nat.le_refl _, fun k _ hk => h.block k (fun e => hk (by rw [e]))⟩
theorem From.grown {w w' : World} (h : From w w') (r : Option Nat) : w.grownBy w' r := ⟨h.os, h.tape, h.output, h.size, fun k hk _ => h.block k hk⟩
/-- a row that is not the one that may have changed -/
theorem own_kept {w w' : World} {r : Option Nat} {base e s n : Nat} {v : Value} {xs : List Value} (h : w.ownsRow base e s v n xs) (hg : w.grownBy w' r) (hne : ∀ k, r = some k → k < base) : w'.ownsRow base e s v n xs := by
  refine h.kept hg ?_
  cases hv : v.ownBlock with
  | none => exact .inl rfl
  | some k =>
    refine .inr fun e => ?_
    have := (h.lt k hv).1
    have := hne k e.symm
    omega
end Go.Proofs.YtjliefglelcooaaDoor

namespace Go.Proofs.YtjliefglelcooaaDoor
open Go.RowKit

/-- a result is read as v -/
structure RV (P : Program) (n : Nat) (L : List (Nat × Value)) (w : World) (r : ResultVar) (v : Value) : Prop where
  out : match r with
    | .tmp t => (mkT n L)[t]?.getD undef = v
    | .cell a t => ∃ ad, (mkT n L)[a]?.getD undef = .pointer (some ad) ∧ (loadVar t ad).run P w = .ok v w
section
variable {P : Program} {n : Nat} {L : List (Nat × Value)} {w : World} {fn : Func}
theorem ev_at {t : Nat} {v : Value} (h : ev n L (.tmp t) = v) : (mkT n L)[t]?.getD undef = v := by
  have := getD_mkT n L t
  rw [← Array.getD_eq_getD_getElem?, this]
  exact h
theorem rv_tmp {t : Nat} {v : Value} (h : ev n L (.tmp t) = v) : RV P n L w (.tmp t) v := ⟨ev_at h⟩
theorem rv_cell {t ty : Nat} {ad : Addr} {v : Value} (ht : aggQ P ty = some false) (hx : ev n L (.tmp t) = .pointer (some ad)) (hc : w.cell? ad = some v) : RV P n L w (.cell t ty) v := ⟨ad, ev_at hx, by simp [loadVar, isAgg_of ht, hc]⟩
theorem rv_cellA {t ty b off : Nat} {cs : List Value} (ht : aggQ P ty = some true) (hs : sizeQ P ty = some cs.length) (hx : ev n L (.tmp t) = .pointer (some ⟨b, off, none⟩)) (hc : w.rangeAt b off cs) : RV P n L w (.cell t ty) (.agg cs.toArray) := ⟨_, ev_at hx, by
  have hl : (loadCells ⟨b, off, none⟩ cs.length).run P w = .ok cs.toArray w :=
    run_loadCells_list (P := P) w ⟨b, off, none⟩ cs (fun j v hv => by rw [Addr.add_mid]; exact hc j v hv)
  simp [loadVar, isAgg_of ht, sizeOf_of hs, hl]⟩
theorem ro_eq {ρ : Operand → Value} {op : Op} {w' : World} {v v' : Value} (h : RO P ρ op w v w') (he : v = v') : RO P ρ op w v' w' := he ▸ h
theorem ro_bt {ρ : Operand → Value} {op : Op} {w' : World} {b : Bool} (h : RO P ρ op w (.bool b) w') (he : b = true) : RO P ρ op w (.bool true) w' := he ▸ h
theorem ro_bf {ρ : Operand → Value} {op : Op} {w' : World} {b : Bool} (h : RO P ρ op w (.bool b) w') (he : b = false) : RO P ρ op w (.bool false) w' := he ▸ h
theorem ro_min {ρ : Operand → Value} {x y : Operand} {k : IntKind} {a b : Int} {ats : Array TypeId} (hx : ρ x = .int k a) (hy : ρ y = .int k b) : RO P ρ (.call { callee := .builtin .min, args := #[x, y], argTypes := ats }) w (.int k (min a b)) w := fun _ _ _ _ _ => by
  have h : (if b < a then b else a) = min a b := by split <;> omega
  simp [BigFrame.execOp_builtin, BigFrame.builtin_min, hx, hy, run_min_int2, h]
theorem ro_max {ρ : Operand → Value} {x y : Operand} {k : IntKind} {a b : Int} {ats : Array TypeId} (hx : ρ x = .int k a) (hy : ρ y = .int k b) : RO P ρ (.call { callee := .builtin .max, args := #[x, y], argTypes := ats }) w (.int k (max a b)) w := fun _ _ _ _ _ => by
  have h : (if a < b then b else a) = max a b := by split <;> omega
  simp [BigFrame.execOp_builtin, BigFrame.builtin_max, hx, hy, run_max_int2, h]
def restOf (A : Option Addr) (c l sz : Nat) : Option Addr := if c = l then A else A.map fun x => x.add (l * sz)
/-- a piece of any slice; the bounds are integers that are casts -/
theorem ro_sliceO {ρ : Operand → Value} {x : Operand} {t e sz l h m c : Nat} {A : Option Addr} (ht : elemQ P t = some (e, sz)) {lo hi : Option Operand} (hx : ρ x = .slice A m c)
    (hl : (lo = none ∧ l = 0) ∨ ∃ y k i, lo = some y ∧ ρ y = .int k i ∧ i = (l : Int)) (hh : (hi = none ∧ h = m) ∨ ∃ y k i, hi = some y ∧ ρ y = .int k i ∧ i = (h : Int)) (h1 : l ≤ h) (h2 : h ≤ c) :
    RO P ρ (.slice t x lo hi none) w (.slice (restOf A c l sz) (h - l) (c - l)) w := fun _ _ _ _ _ => by
  obtain ⟨hu, hs⟩ := elem_of ht
  have hE : P.elem t = e := by simp [Program.elem, hu]
  have hu' : P.underlying t = some (.slice (P.elem t)) := by rw [hE]; exact hu
  have fin : (Result.ok (sliced A l h c sz) w : Result Value) = .ok (.slice (restOf A c l sz) (h - l) (c - l)) w := by
    simp only [sliced, restOf]
  rcases hl with ⟨rfl, rfl⟩ | ⟨y1, k1, _, rfl, hy1, rfl⟩ <;> rcases hh with ⟨rfl, rfl⟩ | ⟨y2, k2, _, rfl, hy2, rfl⟩
  · simp only [execOp, hx, Option.map_none, Sem.run_bind]
    rw [run_sliceAt_slice w t _ _ _ _ hu', run_slice_all w t _ _ c hu', hE, sizeOf_of hs, Result.andThen_ok, fin]; rfl
  · simp only [execOp, hx, hy2, Option.map_none, Option.map_some, Sem.run_bind]
    rw [run_sliceAt_slice w t _ _ _ _ hu', run_slice_h w t _ m c hu' k2 (h : Int) (by omega) (by omega), hE, sizeOf_of hs, Result.andThen_ok, Int.toNat_natCast, fin]; rfl
  · simp only [execOp, hx, hy1, Option.map_none, Option.map_some, Sem.run_bind]
    rw [run_sliceAt_slice w t _ _ _ _ hu', run_slice_l w t _ _ c hu' k1 (l : Int) (by omega) (by omega), hE, sizeOf_of hs, Result.andThen_ok, Int.toNat_natCast, fin]; rfl
  · simp only [execOp, hx, hy1, hy2, Option.map_none, Option.map_some, Sem.run_bind]
    rw [run_sliceAt_slice w t _ _ _ _ hu', run_slice_lh w t _ m c hu' k1 k2 (l : Int) (h : Int) (by omega) (by omega) (by omega), hE, sizeOf_of hs, Result.andThen_ok, Int.toNat_natCast, Int.toNat_natCast, fin]; rfl
theorem resr1 {r : ResultVar} {R : Value → World → Prop} {v : Value} (hr : fn.results = #[r]) (h1 : RV P n L w r v) (h : R v w) :
    bodyPost P fn (fun e w' => ∃ v, e = .returned v ∧ R v w') .ret (mkA n L) w := by
  refine bodyPost_ret (v := v) ?_ rfl ⟨v, rfl, h⟩
  have e1 := h1.out
  show (results fn (mkT n L)).run P w = _
  cases r <;> simp_all only [] <;> (try obtain ⟨_, _, _⟩ := e1) <;> simp_all [results, asAddr]
theorem resr2 {r r' : ResultVar} {R : Value → World → Prop} {v v' : Value} (hr : fn.results = #[r, r']) (h1 : RV P n L w r v) (h2 : RV P n L w r' v') (h : R (.tuple #[v, v']) w) :
    bodyPost P fn (fun e w' => ∃ v, e = .returned v ∧ R v w') .ret (mkA n L) w := by
  refine bodyPost_ret (v := .tuple #[v, v']) ?_ rfl ⟨_, rfl, h⟩
  have e1 := h1.out
  have e2 := h2.out
  show (results fn (mkT n L)).run P w = _
  cases r <;> cases r' <;> simp_all only [] <;> (try obtain ⟨_, _, _⟩ := e1) <;> (try obtain ⟨_, _, _⟩ := e2) <;> simp_all [results, asAddr]
theorem resr3 {r r' r'' : ResultVar} {R : Value → World → Prop} {v v' v'' : Value} (hr : fn.results = #[r, r', r'']) (h1 : RV P n L w r v) (h2 : RV P n L w r' v') (h3 : RV P n L w r'' v'') (h : R (.tuple #[v, v', v'']) w) :
    bodyPost P fn (fun e w' => ∃ v, e = .returned v ∧ R v w') .ret (mkA n L) w := by
  refine bodyPost_ret (v := .tuple #[v, v', v'']) ?_ rfl ⟨_, rfl, h⟩
  have e1 := h1.out
  have e2 := h2.out
  have e3 := h3.out
  show (results fn (mkT n L)).run P w = _
  cases r <;> cases r' <;> cases r'' <;> simp_all only [] <;> (try obtain ⟨_, _, _⟩ := e1) <;> (try obtain ⟨_, _, _⟩ := e2) <;> (try obtain ⟨_, _, _⟩ := e3) <;> simp_all [results, asAddr]
end
end Go.Proofs.YtjliefglelcooaaDoor

namespace Go.Proofs.YtjliefglelcooaaDoor
open Go.ChangeShapes Go.WideShapes Go.ChangeAt Go.RowKit

theorem Tryd.own : ownKnob Tryd.prog.godebug = none := by kernel_rfl
theorem Tryd.laidOut : laidOutB Tryd.prog = true := by kernel_rfl

section
variable {H : Type} {enc : TypeId × Value → H} {P : Program}
theorem post_of_below {f : Func} {s : ChangeSpec} {apart fresh handsOn again : Bool} {W W' : World} {args : Array Value} {v : Value} {ds gs : List (DataW H)} {before pa pv : List MemPlace}
    (hW : DataW.Whole enc P f.params.toList s.vars apart W args.toList ds gs before)
    (hres : ∀ (b : Nat) (sp : Nat → Bool) (hd : Bool), DataW.TrodAll enc P W' b sp hd f.resultTypes.toList (v.resultList f.resultTypes.size) (s.fn H (ds ++ gs)).results [])
    (hargs : ∀ sp : Nat → Bool, (∀ p ∈ before, sp p.block = true) → DataW.TrodAll enc P W' 0 sp true f.params.toList args.toList (s.fn H (ds ++ gs)).args pa)
    (hvars : ∀ sp : Nat → Bool, (∀ p ∈ before, sp p.block = true) → DataW.TrodVars enc P W' sp s.vars (s.fn H (ds ++ gs)).vars pv)
    (hps : before = pa ++ pv) (hb : Below W.heap.size W W')
    (hok : ∀ (j : Nat) (t : TypeId) (r : Value), f.resultTypes[j]? = some t → (v.resultList f.resultTypes.size)[j]? = some r → Value.okWide P W' .any 0 t r) :
    s.post enc P f apart fresh handsOn again W args v W' := by
  have hlt : ∀ p ∈ before, p.block < W.heap.size := fun p hp => hW.lt p hp
  have hold : ∀ p ∈ before, (fun b => decide (b < W.heap.size)) p.block = true := fun p hp => by simpa using hlt p hp
  refine ⟨ds, gs, before, [], pa, pv, hW, hres _ _ _, hargs _ hold, hvars _ hold, World.keptBut_mono (fun p hp => ⟨hp, ?_⟩) (hb.frame (· ∈ before)), fun _ => ?_⟩
  · rw [hps, List.mem_append] at hp
    exact Or.inr hp
  · obtain ⟨_, _, _, _, _, hz, hn⟩ := hW
    refine ⟨hok, _, _, ([] ++ pa) ++ pv, ⟨[] ++ pa, pv, trodAll_append (hargs _ (fun _ _ => rfl)) (hres _ _ _), hvars _ (fun _ _ => rfl), rfl, ?_, ?_⟩, ?_⟩
    · intro b off hp
      have hin : MemPlace.cell b off ∈ before := by rw [hps]; simpa using hp
      rw [hb.frozen (hlt _ hin)]
      exact hz b off hin
    · intro ha
      have := hn ha
      rw [hps] at this
      simpa using this
    · intro p hp _
      rw [hps]
      simpa using hp
end

/-- THE STEP of a law with one argument. -/
theorem law_step {H : Type} {enc : TypeId × Value → H} (F : FuncId) (f : Func) (T Tb : TypeId) (s : ChangeSpec) (hp : f.params = #[T]) (hr : f.resultTypes = #[Tb]) (hTb : Tryd.prog.underlying Tb = some .bool)
    (hvars : s.vars = []) (hfn : ∀ d : DataW H, s.fn H [d] = { results := [.lit (.bool true)], args := [d] }) (hrec : Tryd.prog.readableRec T = true) (hrow : T < Tryd.prog.types.size)
    (walk : ∀ (W : World) (base : Nat) (v : Value) (d : DataW H) (p : List MemPlace), Value.okWide Tryd.prog W .any base T v → DataW.Trod enc Tryd.prog W 0 (fun _ => true) true T v d p → (∀ n ∈ d.weights Tryd.prog T, n ≤ 140737488351232) →
      Calls Tryd.prog F #[v] W fun e W' => e = .returned (.bool true) ∧ From W W')
    (W : World) (base : Nat) (args : Array Value) (ds gs : List (DataW H)) (before : List MemPlace)
    (hval0 : ∀ (j : Nat) t v, f.params[j]? = some t → args[j]? = some v → Value.okWide Tryd.prog W .any base t v)
    (hW : DataW.Whole enc Tryd.prog f.params.toList s.vars false W args.toList ds gs before)
    (hsz : (DataW.weightsEach Tryd.prog (f.params.toList ++ s.plain.varTypes Tryd.prog) (ds ++ gs)).all (· ≤ reachBytes) = true) :
    Calls Tryd.prog F args W fun e W' => ∃ v, e = .returned v ∧ s.post enc Tryd.prog f false true false false W args v W' := by
  have hlt : ∀ x ∈ before, x.block < W.heap.size := fun x hx => hW.lt x hx
  have hW' := hW
  obtain ⟨p, q, hA, hV, rfl, hfz, hnd⟩ := hW
  rw [hp] at hA hval0 hsz
  rw [hvars] at hV
  obtain ⟨v0, d0, rfl, rfl, h0⟩ := trodAll_one hA
  obtain ⟨rfl, rfl⟩ := trodVars_none hV
  simp only [List.append_nil] at hW' hlt
  refine (walk W base v0 d0 p (hval0 0 T v0 rfl rfl) h0 (fun n hn => Nat.le_trans (by simpa using List.all_eq_true.1 hsz n (DataW.weights_mem_each (j := 0) (t := T) (d := d0) rfl rfl n hn)) (show reachBytes ≤ 140737488351232 by decide))).mono fun e W' ⟨he, hb⟩ => ?_
  subst he
  refine ⟨_, rfl, post_of_below (pa := p) (pv := []) hW' ?_ ?_ ?_ (by simp) hb ?_⟩
  · intro b sp hd
    rw [List.append_nil, hfn, hr]
    exact trodAll_mk1 (shut_bool hTb _)
  · intro sp hsp
    rw [List.append_nil, hfn, hp]
    exact trodAll_mk1 (WideElems.Trod_stays Tryd.laidOut hrec hrow h0 (fun x hx => hb.same (hlt x hx)) hsp)
  · intro sp hsp
    rw [List.append_nil, hfn, hvars]
    simp [DataW.TrodVars]
  · exact ok_one hr rfl (okWide_bool_mk hTb _)

/-- THE STEP of a law with one argument, over variables that are laid. -/
theorem law_step_laid {H : Type} {enc : TypeId × Value → H} (F : FuncId) (f : Func) (T Tb : TypeId) (s : ChangeSpec) (hp : f.params = #[T]) (hr : f.resultTypes = #[Tb]) (hTb : Tryd.prog.underlying Tb = some .bool)
    (hvars : s.vars = []) (hfn : ∀ d : DataW H, s.fn H [d] = { results := [.lit (.bool true)], args := [d] }) (hrec : Tryd.prog.readableRec T = true) (hrow : T < Tryd.prog.types.size) (laid : List (String × DataW Unit))
    (walk : ∀ (W : World) (base : Nat) (v : Value) (d : DataW H) (p : List MemPlace), laidMetH Tryd.prog laid W → W.ShapedOpen Tryd.prog → Value.okWide Tryd.prog W .any base T v → DataW.Trod enc Tryd.prog W 0 (fun _ => true) true T v d p → (∀ n ∈ d.weights Tryd.prog T, n ≤ 140737488351232) →
      Calls Tryd.prog F #[v] W fun e W' => e = .returned (.bool true) ∧ From W W')
    (W : World) (base : Nat) (args : Array Value) (ds gs : List (DataW H)) (before : List MemPlace)
    (hval0 : ∀ (j : Nat) t v, f.params[j]? = some t → args[j]? = some v → Value.okWide Tryd.prog W .any base t v)
    (hW : DataW.Whole enc Tryd.prog f.params.toList s.vars false W args.toList ds gs before)
    (hsz : (DataW.weightsEach Tryd.prog (f.params.toList ++ s.plain.varTypes Tryd.prog) (ds ++ gs)).all (· ≤ reachBytes) = true)
    (hL : laidMetH Tryd.prog laid W) (hS : W.ShapedOpen Tryd.prog) :
    Calls Tryd.prog F args W fun e W' => ∃ v, e = .returned v ∧ s.post enc Tryd.prog f false true false false W args v W' := by
  have hlt : ∀ x ∈ before, x.block < W.heap.size := fun x hx => hW.lt x hx
  have hW' := hW
  obtain ⟨p, q, hA, hV, rfl, hfz, hnd⟩ := hW
  rw [hp] at hA hval0 hsz
  rw [hvars] at hV
  obtain ⟨v0, d0, rfl, rfl, h0⟩ := trodAll_one hA
  obtain ⟨rfl, rfl⟩ := trodVars_none hV
  simp only [List.append_nil] at hW' hlt
  refine (walk W base v0 d0 p hL hS (hval0 0 T v0 rfl rfl) h0 (fun n hn => Nat.le_trans (by simpa using List.all_eq_true.1 hsz n (DataW.weights_mem_each (j := 0) (t := T) (d := d0) rfl rfl n hn)) (show reachBytes ≤ 140737488351232 by decide))).mono fun e W' ⟨he, hb⟩ => ?_
  subst he
  refine ⟨_, rfl, post_of_below (pa := p) (pv := []) hW' ?_ ?_ ?_ (by simp) hb ?_⟩
  · intro b sp hd
    rw [List.append_nil, hfn, hr]
    exact trodAll_mk1 (shut_bool hTb _)
  · intro sp hsp
    rw [List.append_nil, hfn, hp]
    exact trodAll_mk1 (WideElems.Trod_stays Tryd.laidOut hrec hrow h0 (fun x hx => hb.same (hlt x hx)) hsp)
  · intro sp hsp
    rw [List.append_nil, hfn, hvars]
    simp [DataW.TrodVars]
  · exact ok_one hr rfl (okWide_bool_mk hTb _)
end Go.Proofs.YtjliefglelcooaaDoor

namespace Go.Proofs.YtjliefglelcooaaDoor
open Go.ChangeShapes Go.WideShapes Go.ChangeAt Go.RowKit

/-- a shape; a struct is its fields in a row of 'pr', closed by 'unit' -/
inductive Ty where
  | int (k : IntKind) | bool | str | sl (t : Ty) | pr (t u : Ty) | unit

def Ty.den : Ty → Type
  | .int _ => Int | .bool => Bool | .str => ByteArray | .sl t => List t.den | .pr t u => t.den × u.den | .unit => Unit

def Ty.size : Ty → Nat
  | .pr t u => t.size + u.size | .unit => 0 | _ => 1

/-- at least so many bytes -/
def Ty.bytes : Ty → Nat
  | .int .i8 | .int .u8 | .bool => 1 | .int .i16 | .int .u16 => 2 | .int .i32 | .int .u32 => 4 | .int _ => 8 | .str => 16 | .sl _ => 24 | .pr t u => t.bytes + u.bytes | .unit => 0

/-- does this shape fit a type (inl), or the fields from this offset on (inr)? -/
def Ty.fits (P : Program) : Ty → TypeId ⊕ (List Field × Nat) → Bool
  | .int k, .inl T => match P.underlying T with | some (.int k') => decide (k' = k) | _ => false
  | .bool, .inl T => match P.underlying T with | some .bool => true | _ => false
  | .str, .inl T => match P.underlying T with | some .string => true | _ => false
  | .sl t, .inl T => match P.underlying T with | some (.slice e) => t.fits P (.inl e) && P.cellsOf e == t.size && decide (0 < t.size) && decide (t.bytes ≤ P.bytesOf e) | _ => false
  | .pr t u, .inl T => match P.underlying T with
    | some (.struct fs) => match fs.toList with
      | f :: r => f.offset == 0 && P.cellsOf f.type == t.size && t.fits P (.inl f.type) && u.fits P (.inr (r, t.size)) && P.cellsOf T == t.size + u.size
      | [] => false
    | _ => false
  | .pr t u, .inr (f :: r, o) => f.offset == o && P.cellsOf f.type == t.size && t.fits P (.inl f.type) && u.fits P (.inr (r, o + t.size))
  | .unit, .inr _ => true
  | _, _ => false

/-- the cells 'c' read as this -/
def Ty.At (w : World) : (t : Ty) → (Nat → Option Value) → t.den → Prop
  | .int k, c, n => c 0 = some (.int k n) ∧ (Lit.int k n).wf = true
  | .bool, c, b => c 0 = some (.bool b)
  | .str, c, s => c 0 = some (.string s) ∧ ByteArray.size s ≤ 140737488351232
  | .sl t, c, xs => ∃ (A : Option Addr) (cap : Nat), c 0 = some (.slice A (List.length xs) cap) ∧ List.length xs * t.bytes ≤ 140737488351232 ∧ (List.length xs ≤ cap ∧ cap ≤ 9223372036854775807 ∧ (A = none → cap = 0)) ∧
      (0 < List.length xs → ∃ b o, A = some ⟨b, o, none⟩ ∧ b < w.heap.size ∧ ∀ (i : Nat) (x : t.den), @getElem? (List t.den) Nat t.den _ _ xs i = some x → Ty.At w t (fun j => w.cell? ⟨b, o + i * t.size + j, none⟩) x)
  | .pr t u, c, x => Ty.At w t c x.1 ∧ Ty.At w u (fun j => c (t.size + j)) x.2
  | .unit, _, _ => True

theorem Ty.At.congr {w : World} : ∀ (t : Ty) {c c' : Nat → Option Value} {x : t.den}, (∀ j, j < t.size → c' j = c j) → t.At w c x → t.At w c' x
  | .int k, c, c', n, hc, h => ⟨(hc 0 (by simp [Ty.size])).trans h.1, h.2⟩
  | .bool, c, c', n, hc, h => (hc 0 (by simp [Ty.size])).trans h
  | .str, c, c', n, hc, h => ⟨(hc 0 (by simp [Ty.size])).trans h.1, h.2⟩
  | .sl t, c, c', n, hc, h => by
    obtain ⟨A, cap, h0, r⟩ := h
    exact ⟨A, cap, (hc 0 (by simp [Ty.size])).trans h0, r⟩
  | .pr t u, c, c', x, hc, h => ⟨Ty.At.congr t (fun j hj => hc j (by simp only [Ty.size]; omega)) h.1, Ty.At.congr u (fun j hj => hc _ (by simp only [Ty.size]; omega)) h.2⟩
  | .unit, _, _, _, _, _ => trivial

/-- what reads, reads as it did in a world that only grew -/
theorem Ty.At.from_ {w w' : World} (hw : From w w') : ∀ (t : Ty) {c : Nat → Option Value} {x : t.den}, t.At w c x → t.At w' c x
  | .int k, c, n, h => h
  | .bool, c, n, h => h
  | .str, c, n, h => h
  | .sl t, c, n, h => by
    obtain ⟨A, cap, h0, h1, h2, h3⟩ := h
    refine ⟨A, cap, h0, h1, h2, fun hp => ?_⟩
    obtain ⟨b, o, hA, hb, hi⟩ := h3 hp
    refine ⟨b, o, hA, Nat.lt_of_lt_of_le hb hw.size, fun i x hx => ?_⟩
    exact Ty.At.congr t (fun j _ => Below.cell (p := ⟨b, o + i * t.size + j, none⟩) hw hb) (Ty.At.from_ hw t (hi i x hx))
  | .pr t u, c, x, h => ⟨Ty.At.from_ hw t h.1, Ty.At.from_ hw u h.2⟩
  | .unit, _, _, _ => trivial

theorem lt_of_cell {w : World} {a : Addr} {v : Value} (h : w.cell? a = some v) : a.block < w.heap.size := by
  rcases Nat.lt_or_ge a.block w.heap.size with hlt | hge
  · exact hlt
  · unfold World.cell? at h
    rw [Array.getElem?_eq_none hge] at h
    cases h

section
variable {H : Type} {enc : TypeId × Value → H} {P : Program} {w : World} {base : Nat} {spare : Nat → Bool} {held : Bool}

theorem exists_list {α : Type} {n : Nat} {p : Nat → α → Prop} (h : ∀ i, i < n → ∃ x, p i x) : ∃ xs : List α, xs.length = n ∧ ∀ i x, xs[i]? = some x → p i x := by
  induction n with
  | zero => exact ⟨[], rfl, fun i x hx => by simp at hx⟩
  | succ n ih =>
    obtain ⟨xs, hl, hx⟩ := ih fun i hi => h i (by omega)
    obtain ⟨x, hp⟩ := h n (by omega)
    refine ⟨xs ++ [x], by simp [hl], fun i y hy => ?_⟩
    rcases Nat.lt_or_ge i xs.length with hlt | hge
    · rw [List.getElem?_append_left hlt] at hy
      exact hx i y hy
    · rw [List.getElem?_append_right hge] at hy
      have h0 : i - xs.length = 0 := by
        rcases Nat.eq_zero_or_pos (i - xs.length) with h0 | h0
        · exact h0
        · rw [List.getElem?_eq_none (by simp; omega)] at hy; cases hy
      rw [h0] at hy
      simp at hy
      subst hy
      obtain rfl : i = n := by omega
      exact hp

theorem weights_all {H : Type} {P : Program} {e : TypeId} : ∀ (l : List (DataW H)) (d : DataW H), d ∈ l → ∀ q ∈ d.weights P e, q ∈ DataW.weightsAll P e l
  | x :: r, d, h, q, hq => by
    simp only [DataW.weightsAll, List.mem_append]
    rcases List.mem_cons.1 h with rfl | h
    · exact .inl hq
    · exact .inr (weights_all r d h q hq)

/-- DOWN: what the row reads, and what the struct's fields read, this shape reads. -/
theorem Ty.of_trod : ∀ (t : Ty),
    (∀ (T : TypeId), t.fits P (.inl T) = true → ∀ (fuel : Nat) (cs : List Value) (y : DataW H × List MemPlace), DataW.trod enc P w base spare held fuel T cs = some y → (∀ n ∈ y.1.weights P T, n ≤ 140737488351232) → ∃ x, t.At w (fun j => cs[j]?) x) ∧
    (∀ (fs : List Field) (o : Nat), t.fits P (.inr (fs, o)) = true → ∀ (cs : List Value), cs.length = o + t.size → (∀ (j : Nat) (f : Field), fs[j]? = some f → ∃ (fuel : Nat) (y : DataW H × List MemPlace), DataW.trod enc P w base spare held fuel f.type ((cs.drop f.offset).take (P.cellsOf f.type)) = some y ∧ ∀ n ∈ y.1.weights P f.type, n ≤ 140737488351232) →
      ∃ x, t.At w (fun j => cs[o + j]?) x)
  | .int k => by
    refine ⟨fun T hf fuel cs y h hsz => ?_, fun fs o hf => by simp [Ty.fits] at hf⟩
    simp only [Ty.fits] at hf
    split at hf
    · rename_i k' hu
      obtain rfl : k' = k := by simpa using hf
      obtain ⟨n, rfl, _, hn⟩ := DataW.trod_int hu h
      exact ⟨n, rfl, hn⟩
    · cases hf
  | .bool => by
    refine ⟨fun T hf fuel cs y h hsz => ?_, fun fs o hf => by simp [Ty.fits] at hf⟩
    simp only [Ty.fits] at hf
    split at hf
    · rename_i hu
      obtain ⟨n, rfl, _⟩ := DataW.trod_bool hu h
      exact ⟨n, rfl⟩
    · cases hf
  | .str => by
    refine ⟨fun T hf fuel cs y h hsz => ?_, fun fs o hf => by simp [Ty.fits] at hf⟩
    simp only [Ty.fits] at hf
    split at hf
    · rename_i hu
      obtain ⟨n, rfl, rfl, hn⟩ := DataW.trod_string hu h
      exact ⟨n, rfl, by have := hsz n.data.toList.length (by simp [DataW.weights]); simpa using this⟩
    · cases hf
  | .sl t => by
    refine ⟨fun T hf fuel cs y h hsz => ?_, fun fs o hf => by simp [Ty.fits] at hf⟩
    simp only [Ty.fits] at hf
    split at hf
    · rename_i e hu
      simp only [Bool.and_eq_true, beq_iff_eq, decide_eq_true_eq] at hf
      obtain ⟨⟨⟨hft, hC⟩, hpos⟩, hby⟩ := hf
      rcases Go.Deep.open_slice hu h with ⟨rfl, _⟩ | ⟨a, len, cap, m, n, D, Pl, rfl, hb, hl, hm, hmm, rfl, hi⟩
      · exact ⟨[], none, 0, rfl, by simp, by simp, fun h0 => absurd h0 (by simp)⟩
      · have hlm : len ≤ m := by rw [hmm]; split <;> omega
        have key : ∀ i, i < len → ∃ x, t.At w (fun j => w.cell? ((a.add (i * t.size)).add j)) x := by
          intro i hil
          obtain ⟨cs', hc, ht'⟩ := hi i (by omega)
          obtain ⟨_, hcl, hat⟩ := World.cells?_some hc
          obtain ⟨x, hx⟩ := (Ty.of_trod t).1 e hft n cs' _ ht' (fun q hq => hsz q (by
            simp only [DataW.weights, hu, List.mem_cons, List.mem_append]
            exact .inr (.inl (weights_all ((List.range len).map D) (D i) (List.mem_map.2 ⟨i, List.mem_range.2 hil, rfl⟩) q hq))))
          rw [hC] at hat hcl
          exact ⟨x, Ty.At.congr t (fun j hj => hat j hj) hx⟩
        obtain ⟨xs, hxl, hxs⟩ := exists_list key
        have hwt := hsz ((((List.range len).map D).length + ((List.range (m - len)).map fun j => D (len + j)).length) * P.bytesOf e) (by simp [DataW.weights, hu])
        have hwt2 : len * t.bytes ≤ 140737488351232 := by
          refine Nat.le_trans (Nat.mul_le_mul ?_ hby) hwt
          simp
        unfold maxLen at hm
        refine ⟨xs, some a, cap, by rw [hxl]; rfl, by rw [hxl]; exact hwt2, ⟨by omega, by omega, fun hn => by cases hn⟩, fun h0 => ?_⟩
        have hc0 : ∃ v, w.cell? (a.add 0) = some v := by
          obtain ⟨cs', hc, _⟩ := hi 0 (by omega)
          obtain ⟨_, hcl, hat⟩ := World.cells?_some hc
          have h1 := hat 0 (by omega)
          rw [Go.Deep.add_add] at h1
          simp only [Nat.zero_mul, Nat.add_zero] at h1
          exact ⟨cs'[0]'(by omega), by rw [h1, List.getElem?_eq_getElem (by omega)]⟩
        obtain ⟨v, hv⟩ := hc0
        obtain ⟨b, o, spot⟩ := a
        have hspot : spot = none := by simpa [Addr.add] using World.cell?_spot hv
        subst hspot
        have hblt : b < w.heap.size := by simpa [Addr.add] using lt_of_cell hv
        refine ⟨b, o, rfl, hblt, fun i x hx => ?_⟩
        refine Ty.At.congr t (fun j hj => ?_) (hxs i x hx)
        rw [Go.Deep.add_add, Go.WideShapes.add_plain, Nat.add_assoc]
    · cases hf
  | .pr t u => by
    have main : ∀ (f : Field) (r : List Field) (o : Nat), (f.offset == o && P.cellsOf f.type == t.size && t.fits P (.inl f.type) && u.fits P (.inr (r, o + t.size))) = true → ∀ (cs : List Value), cs.length = o + (t.size + u.size) →
        (∀ (j : Nat) (g : Field), (f :: r)[j]? = some g → ∃ (fuel : Nat) (y : DataW H × List MemPlace), DataW.trod enc P w base spare held fuel g.type ((cs.drop g.offset).take (P.cellsOf g.type)) = some y ∧ ∀ n ∈ y.1.weights P g.type, n ≤ 140737488351232) →
        ∃ x, Ty.At w (.pr t u) (fun j => cs[o + j]?) x := by
      intro f r o hf cs hcs hall
      simp only [Bool.and_eq_true, beq_iff_eq] at hf
      obtain ⟨⟨⟨ho, hc⟩, ht⟩, hu⟩ := hf
      obtain ⟨fuel, y, hy, hyw⟩ := hall 0 f rfl
      obtain ⟨x1, h1⟩ := (Ty.of_trod t).1 _ ht _ _ _ hy hyw
      obtain ⟨x2, h2⟩ := (Ty.of_trod u).2 r (o + t.size) hu cs (by omega) (fun j g hg => hall (j + 1) g (by simpa using hg))
      refine ⟨(x1, x2), Ty.At.congr t (fun j hj => ?_) h1, Ty.At.congr u (fun j hj => ?_) h2⟩
      · simp only [hc, ho]
        rw [List.getElem?_take, if_pos hj, List.getElem?_drop]
      · simp only [Nat.add_assoc]
    refine ⟨fun T hf fuel cs y h hsz => ?_, fun fs o hf cs hcs hall => ?_⟩
    · simp only [Ty.fits] at hf
      split at hf
      · rename_i fs hu
        split at hf
        · rename_i f r hfs
          simp only [Bool.and_eq_true, beq_iff_eq] at hf
          obtain ⟨⟨⟨⟨ho, hc⟩, ht⟩, hu'⟩, hsz⟩ := hf
          obtain ⟨ys, n', _, rfl, hlen, _, hall⟩ := DataW.trod_struct hu h
          have hm := main f r 0 (by simp [ho, hc, ht, hu']) cs (by omega) (fun j g hg => by
            have hg' : fs[j]? = some g := by rw [← hfs] at hg; simpa using hg
            have := hall j g hg'
            have hjl : j < ys.length := by
              have : j < fs.size := (Array.getElem?_eq_some_iff.1 hg').1
              omega
            refine ⟨n', ys[j], by rw [hall j g hg', List.getElem?_eq_getElem hjl], fun q hq => hsz q ?_⟩
            simp only [DataW.weights, hu]
            exact DataW.weights_mem_each (j := j) (t := g.type) (d := ys[j].1) (by rw [List.getElem?_map, Array.getElem?_toList, hg']; rfl) (by rw [List.getElem?_map, List.getElem?_eq_getElem hjl]; rfl) q hq)
          simpa using hm
        · cases hf
      · cases hf
    · match fs, hf with
      | f :: r, hf =>
        simp only [Ty.fits] at hf
        exact main f r o hf cs (by simpa [Ty.size] using hcs) hall
      | [], hf => simp [Ty.fits] at hf
  | .unit => by
    refine ⟨fun T hf => by simp [Ty.fits] at hf, fun fs o hf cs hcs hall => ⟨(), trivial⟩⟩

end

/-- AN ARGUMENT that is a slice: it is of this form, and its elements read. -/
theorem arg_sl {H : Type} {enc : TypeId × Value → H} {w : World} {base : Nat} {T : TypeId} {v : Value} {d : DataW H} {p : List MemPlace} (t : Ty) (hf : (Ty.sl t).fits Tryd.prog (.inl T) = true)
    (hv : Value.okWide Tryd.prog w .any base T v) (h : DataW.Trod enc Tryd.prog w 0 (fun _ => true) true T v d p) (hsz : ∀ n ∈ d.weights Tryd.prog T, n ≤ 140737488351232) :
    ∃ (A : Option Addr) (cap : Nat) (xs : List t.den), v = .slice A xs.length cap ∧ xs.length * t.bytes ≤ 140737488351232 ∧ (xs.length ≤ cap ∧ cap ≤ 9223372036854775807) ∧
      (0 < xs.length → ∃ b o, A = some ⟨b, o, none⟩ ∧ b < w.heap.size ∧ ∀ (i : Nat) (x : t.den), xs[i]? = some x → t.At w (fun j => w.cell? ⟨b, o + i * t.size + j, none⟩) x) := by
  have hu : ∃ e, Tryd.prog.underlying T = some (.slice e) := by
    simp only [Ty.fits] at hf
    split at hf
    · rename_i e hu
      exact ⟨e, hu⟩
    · cases hf
  obtain ⟨e, hu⟩ := hu
  obtain ⟨a, len, cap, rfl⟩ := okWide_slice hu hv
  obtain ⟨fuel, hfu⟩ := h
  obtain ⟨xs, A, cap', h0, h1, h2, h3⟩ := (Ty.of_trod (.sl t)).1 T hf fuel _ _ hfu hsz
  refine ⟨A, cap', xs, ?_, h1, ⟨h2.1, h2.2.1⟩, h3⟩
  simpa [Value.cells] using h0

/-- AN ARGUMENT that is a struct by value: its cells read. -/
theorem arg_st {H : Type} {enc : TypeId × Value → H} {w : World} {base : Nat} {T : TypeId} {v : Value} {d : DataW H} {p : List MemPlace} (t u : Ty) (hf : (Ty.pr t u).fits Tryd.prog (.inl T) = true)
    (hv : Value.okWide Tryd.prog w .any base T v) (h : DataW.Trod enc Tryd.prog w 0 (fun _ => true) true T v d p) (hsz : ∀ n ∈ d.weights Tryd.prog T, n ≤ 140737488351232) :
    ∃ (cs : Array Value) (x : (Ty.pr t u).den), v = .agg cs ∧ cs.size = (Ty.pr t u).size ∧ (Ty.pr t u).At w (fun j => cs[j]?) x := by
  have hu : ∃ fs, Tryd.prog.underlying T = some (.struct fs) ∧ Tryd.prog.cellsOf T = (Ty.pr t u).size := by
    have hf' := hf
    simp only [Ty.fits] at hf'
    split at hf'
    · rename_i fs hu
      split at hf'
      · simp only [Bool.and_eq_true, beq_iff_eq] at hf'
        exact ⟨fs, hu, hf'.2⟩
      · cases hf'
    · cases hf'
  obtain ⟨fs, hu, hC⟩ := hu
  obtain ⟨cs, rfl, hcs⟩ := okWide_struct hu hv
  obtain ⟨fuel, hfu⟩ := h
  obtain ⟨x, hx⟩ := (Ty.of_trod (.pr t u)).1 T hf fuel _ _ hfu hsz
  refine ⟨cs, x, rfl, hcs.trans hC, ?_⟩
  simpa [Value.cells] using hx

/-- a slice of integers that reads: its value, its numbers -/
theorem at_ints {w : World} {k : IntKind} {c : Nat → Option Value} {xs : List Int} (h : (Ty.sl (.int k)).At w c xs) :
    ∃ (A : Option Addr) (cap : Nat), c 0 = some (.slice A xs.length cap) ∧ Row w (.slice A xs.length cap) (xs.map fun x => .int k x) ∧ (∀ x ∈ xs, (Lit.int k x).wf = true) ∧ xs.length * (Ty.int k).bytes ≤ 140737488351232 ∧ (xs.length ≤ cap ∧ cap ≤ 9223372036854775807) := by
  obtain ⟨A, cap, h0, h1, h2, h3⟩ := h
  refine ⟨A, cap, h0, ⟨A, cap, by rw [List.length_map], fun hp => ?_⟩, ?_, h1, ⟨h2.1, h2.2.1⟩⟩
  · obtain ⟨b, o, hA, hb, hi⟩ := h3 (by rw [List.length_map] at hp; exact hp)
    refine ⟨b, o, hA, hb, fun i u hu => ?_⟩
    rw [List.getElem?_map] at hu
    cases hx : xs[i]? with
    | none => rw [hx] at hu; cases hu
    | some x =>
      rw [hx] at hu
      simp only [Option.map_some, Option.some.injEq] at hu
      subst hu
      have := (hi i x hx).1
      simpa [Ty.size] using this
  · intro x hx
    obtain ⟨i, hi, rfl⟩ := List.mem_iff_getElem.1 hx
    obtain ⟨b, o, hA, hb, hii⟩ := h3 (Nat.lt_of_le_of_lt (Nat.zero_le _) hi)
    exact (hii i _ (List.getElem?_eq_getElem hi)).2

/-- a slice of bytes that reads -/
theorem at_bytes {w : World} {c : Nat → Option Value} {xs : List Int} (h : (Ty.sl (.int .u8)).At w c xs) :
    ∃ (A : Option Addr) (cap : Nat) (l : List Nat), c 0 = some (.slice A l.length cap) ∧ Row w (.slice A l.length cap) (l.map fun (x : Nat) => .int .u8 x) ∧ (∀ x ∈ l, x < 256) ∧ l.length ≤ 140737488351232 ∧ (l.length ≤ cap ∧ cap ≤ 9223372036854775807) := by
  obtain ⟨A, cap, h0, h1, h2, h3, h4⟩ := at_ints h
  have hr : ∀ x ∈ xs, 0 ≤ x ∧ x ≤ 255 := fun x hx => bounds_u8 (h2 x hx)
  have hm : (xs.map (·.toNat)).map (fun (x : Nat) => Value.int .u8 x) = xs.map fun x => .int .u8 x := by
    rw [List.map_map]
    refine List.map_congr_left fun x hx => ?_
    have := hr x hx
    simp only [Function.comp]
    congr 1
    omega
  refine ⟨A, cap, xs.map (·.toNat), by rw [List.length_map]; exact h0, by rw [List.length_map, hm]; exact h1, fun y hy => ?_, ?_, by rw [List.length_map]; exact h4⟩
  · simp only [List.mem_map] at hy
    obtain ⟨x, hx, rfl⟩ := hy
    have := hr x hx
    omega
  · rw [List.length_map]
    simpa [Ty.bytes] using h3

/-- a slice that reads is nil where it has no address -/
theorem at_nil {w : World} {t : Ty} {c : Nat → Option Value} {xs : List t.den} (h : (Ty.sl t).At w c xs) {m k : Nat} (h0 : c 0 = some (.slice none m k)) : m = 0 ∧ k = 0 := by
  obtain ⟨A, cap, h1, _, h2, h3⟩ := h
  rw [h0] at h1
  simp only [Option.some.injEq, Value.slice.injEq] at h1
  obtain ⟨rfl, rfl, rfl⟩ := h1
  have := h2.2.2 rfl
  omega

/-- a slice of strings that reads -/
theorem at_strs {w : World} {c : Nat → Option Value} {xs : List ByteArray} (h : (Ty.sl .str).At w c xs) :
    ∃ (A : Option Addr) (cap : Nat) (ts : List ByteArray), c 0 = some (.slice A ts.length cap) ∧ Row w (.slice A ts.length cap) (ts.map .string) ∧ (∀ x ∈ ts, ByteArray.size x ≤ 140737488351232) ∧ ts.length * 16 ≤ 140737488351232 ∧ (ts.length ≤ cap ∧ cap ≤ 9223372036854775807) := by
  obtain ⟨A, cap, h0, h1, h2, h3⟩ := h
  refine ⟨A, cap, xs, h0, ⟨A, cap, by rw [List.length_map], fun hp => ?_⟩, ?_, h1, ⟨h2.1, h2.2.1⟩⟩
  · obtain ⟨b, o, hA, hb, hi⟩ := h3 (by rw [List.length_map] at hp; exact hp)
    refine ⟨b, o, hA, hb, fun i u hu => ?_⟩
    rw [List.getElem?_map] at hu
    cases hx : xs[i]? with
    | none => rw [hx] at hu; cases hu
    | some x =>
      rw [hx] at hu
      simp only [Option.map_some, Option.some.injEq] at hu
      subst hu
      have := (hi i x hx).1
      simpa [Ty.size] using this
  · intro x hx
    obtain ⟨i, hi, rfl⟩ := List.mem_iff_getElem.1 hx
    obtain ⟨b, o, hA, hb, hii⟩ := h3 (Nat.lt_of_le_of_lt (Nat.zero_le _) hi)
    exact (hii i _ (List.getElem?_eq_getElem hi)).2

theorem at_int {w : World} {k : IntKind} {c : Nat → Option Value} {n : Int} (h : (Ty.int k).At w c n) : c 0 = some (.int k n) ∧ (Lit.int k n).wf = true := h
end Go.Proofs.YtjliefglelcooaaDoor

namespace Go.Proofs.YtjliefglelcooaaDoor
open Go.RowKit Go.ChangeShapes Go.WideShapes Go.ChangeAt

/-- a slice of unsigned integers that reads -/
theorem at_nats {w : World} {k : IntKind} {c : Nat → Option Value} {xs : List Int} (h : (Ty.sl (.int k)).At w c xs) (hk : ∀ x, (Lit.int k x).wf = true → 0 ≤ x) :
    ∃ (A : Option Addr) (cap : Nat) (l : List Nat), c 0 = some (.slice A l.length cap) ∧ RowOf (fun x : Nat => .int k x) w A l ∧ (∀ x ∈ l, (Lit.int k (x : Nat)).wf = true) ∧ l.length * (Ty.int k).bytes ≤ 140737488351232 ∧ xs = l.map (fun x : Nat => (x : Int)) ∧ l.length ≤ cap := by
  obtain ⟨A, cap, h0, hr, hw, hb, hc⟩ := at_ints h
  have hm : (xs.map (·.toNat)).map (fun x : Nat => (x : Int)) = xs := by
    rw [List.map_map]
    refine (List.map_congr_left fun x hx => ?_).trans (List.map_id xs)
    have := hk x (hw x hx)
    simp only [Function.comp, id]
    omega
  have hm2 : (xs.map (·.toNat)).map (fun (x : Nat) => Value.int k x) = xs.map fun x => .int k x := by
    have := congrArg (List.map fun x : Int => Value.int k x) hm
    rwa [List.map_map] at this
  have hr2 : Row w (.slice A (xs.map (·.toNat)).length cap) ((xs.map (·.toNat)).map (fun (x : Nat) => Value.int k x)) := by rw [List.length_map, hm2]; exact hr
  refine ⟨A, cap, xs.map (·.toNat), by rw [List.length_map]; exact h0, (RowOf.of_row hr2).2, fun y hy => ?_, by rw [List.length_map]; exact hb, hm.symm, by rw [List.length_map]; exact hc.1⟩
  obtain ⟨x, hx, rfl⟩ := List.mem_map.1 hy
  have h1 := hw x hx
  have h2 := hk x h1
  rwa [Int.toNat_of_nonneg h2]
theorem wf_bounds {k : IntKind} {x : Int} (h : (Lit.int k x).wf = true) : k.min ≤ x ∧ x ≤ k.max := by simpa [Lit.wf] using h
theorem wf_u64 {x : Int} (h : (Lit.int .u64 x).wf = true) : 0 ≤ x ∧ x < 18446744073709551616 := by
  have := wf_bounds h
  have e1 : IntKind.u64.min = 0 := by decide
  have e2 : IntKind.u64.max = 18446744073709551615 := by decide
  omega
theorem wf_u8 {x : Int} (h : (Lit.int .u8 x).wf = true) : 0 ≤ x ∧ x < 256 := by
  have := wf_bounds h
  have e1 : IntKind.u8.min = 0 := by decide
  have e2 : IntKind.u8.max = 255 := by decide
  omega
theorem wf_i64 {x : Int} (h : (Lit.int .i64 x).wf = true) : -9223372036854775808 ≤ x ∧ x ≤ 9223372036854775807 := by
  have := wf_bounds h
  have e1 : IntKind.i64.min = -9223372036854775808 := by decide
  have e2 : IntKind.i64.max = 9223372036854775807 := by decide
  omega
theorem at_longs {w : World} {c : Nat → Option Value} {xs : List Int} (h : (Ty.sl (.int .u64)).At w c xs) :
    ∃ (A : Option Addr) (cap : Nat) (l : List Nat), c 0 = some (.slice A l.length cap) ∧ RowOf uV w A l ∧ (∀ x ∈ l, x < 2 ^ 64) ∧ l.length * 8 ≤ 140737488351232 ∧ l.length ≤ cap := by
  obtain ⟨A, cap, l, h0, hr, hw, hb, _, hc⟩ := at_nats h (fun x hx => (wf_u64 hx).1)
  exact ⟨A, cap, l, h0, hr, fun x hx => by have := wf_u64 (hw x hx); omega, hb, hc⟩
theorem at_bytes' {w : World} {c : Nat → Option Value} {xs : List Int} (h : (Ty.sl (.int .u8)).At w c xs) :
    ∃ (A : Option Addr) (cap : Nat) (l : List Nat), c 0 = some (.slice A l.length cap) ∧ RowOf bV w A l ∧ (∀ x ∈ l, x < 256) ∧ l.length ≤ 140737488351232 ∧ l.length ≤ cap := by
  obtain ⟨A, cap, l, h0, hr, hw, hb, _, hc⟩ := at_nats h (fun x hx => (wf_u8 hx).1)
  exact ⟨A, cap, l, h0, hr, fun x hx => by have := wf_u8 (hw x hx); omega, by simpa [Ty.bytes] using hb, hc⟩
/-- a slice of numbers -/
theorem at_nums {w : World} {c : Nat → Option Value} {xs : List Int} (h : (Ty.sl (.int .i64)).At w c xs) :
    ∃ (A : Option Addr) (cap : Nat), c 0 = some (.slice A xs.length cap) ∧ RowOf iV w A xs ∧ (∀ x ∈ xs, -9223372036854775808 ≤ x ∧ x ≤ 9223372036854775807) ∧ xs.length * 8 ≤ 140737488351232 ∧ xs.length ≤ cap := by
  obtain ⟨A, cap, h0, hr, hw, hb, hc⟩ := at_ints h
  exact ⟨A, cap, h0, (RowOf.of_row hr).2, fun x hx => wf_i64 (hw x hx), hb, hc.1⟩
theorem Blk.grown {w w' : World} {g : Nat} {t : TypeId} {cs : Array Value} {r : Option Nat} (h : Blk w g t cs) (hg : w.grownBy w' r) (hne : ∀ k, r = some k → k ≠ g) : Blk w' g t cs :=
  (hg.block g h.lt (fun e => hne g e.symm rfl)).trans h
end Go.Proofs.YtjliefglelcooaaDoor
namespace Go.Proofs.YtjliefglelcooaaDoor
open Go.RowKit Go.ChangeShapes Go.WideShapes Go.ChangeAt
/-- a law over a slice: what the frame asks, out of the walk -/
theorem walk_sl {H : Type} {enc : TypeId × Value → H} {F : FuncId} {T : TypeId} (t : Ty) (hf : (Ty.sl t).fits Tryd.prog (.inl T) = true)
    (h : ∀ (A : Option Addr) (c : Nat) (xs : List t.den) (w : World), xs.length * t.bytes ≤ 140737488351232 → (0 < xs.length → ∃ b o, A = some ⟨b, o, none⟩ ∧ ∀ (i : Nat) (hi : i < xs.length), t.At w (fun j => w.cell? ⟨b, o + i * t.size + j, none⟩) xs[i]) →
      Rt Tryd.prog F [.slice A xs.length c] w fun v w' => v = .bool true ∧ From w w')
    (W : World) (base : Nat) (v : Value) (d : DataW H) (p : List MemPlace) (hok : Value.okWide Tryd.prog W .any base T v) (ht : DataW.Trod enc Tryd.prog W 0 (fun _ => true) true T v d p) (hsz : ∀ n ∈ d.weights Tryd.prog T, n ≤ 140737488351232) :
    Calls Tryd.prog F #[v] W fun e W' => e = .returned (.bool true) ∧ From W W' := by
  obtain ⟨A, cap, xs, rfl, hb, _, he⟩ := arg_sl t hf hok ht hsz
  refine Rt.to (h A cap xs W hb fun h0 => ?_)
  obtain ⟨b, o, hA, _, hi⟩ := he h0
  exact ⟨b, o, hA, fun i h => hi i _ (List.getElem?_eq_getElem h)⟩
theorem range4 {w : World} {b a : Nat} {v0 v1 v2 v3 : Value} (h0 : w.cell? ⟨b, a, none⟩ = some v0) (h1 : w.cell? ⟨b, a + 1, none⟩ = some v1) (h2 : w.cell? ⟨b, a + 2, none⟩ = some v2) (h3 : w.cell? ⟨b, a + 3, none⟩ = some v3) : w.rangeAt b a [v0, v1, v2, v3] := fun j v hv => by
  match j, hv with
  | 0, hv => simp at hv; subst hv; exact h0
  | 1, hv => simp at hv; subst hv; exact h1
  | 2, hv => simp at hv; subst hv; exact h2
  | 3, hv => simp at hv; subst hv; exact h3
  | j + 4, hv => simp at hv
end Go.Proofs.YtjliefglelcooaaDoor

namespace Go.Proofs.YtjliefglelcooaaDoor
open Go.RowKit

theorem EntCompact_e23 : elemQ Tryd.prog 25 = some (41, 3) := by kernel_rfl
def coErr (B T : Int) (xs : List Ent) (i : Int) : Int := if mayLog B T xs = true then (if B + 1 ≤ i ∧ i ≤ min (lastI B xs) 1099511625728 then 0 else 1) else 1
def CoGot (w w' : World) (i t : Int) (xs : List Ent) (c : Int) (L : Value) : Prop :=
  (c ≠ 0 → L = zeroLog) ∧ (c = 0 → ∃ A cap, L = .agg #[.int .i64 i, .int .i64 t, .slice A xs.length cap] ∧ w'.ownsRow w.heap.size 41 3 (.slice A xs.length cap) xs.length (entV xs))
theorem Ents.restA {w : World} {A : Option Addr} {n cap : Nat} {xs : List Ent} (h : Ents w (.slice A n cap) xs) {k : Nat} (hk : k ≤ xs.length) : Ents w (.slice (restOf A cap k 3) (n - k) (cap - k)) (xs.drop k) := h.rest hk
theorem within_rt (lo hi x : Int) (g : Nat) (w : World) (hb : Blk w g 3 #[.int .i64 x]) :
    Rt Tryd.prog 42 [.int .i64 lo, .int .i64 hi, .slice (some ⟨g, 0, none⟩) 1 1] w fun v w' => v = .bool (inb lo hi x) ∧ From w w' :=
  Rt.mono (Rt.of (within_row lo hi x _ w (Row.blk hb 1))) fun v w' ⟨h1, h2⟩ => ⟨h1, h2 ▸ From.rfl_⟩
theorem own_only {w w' : World} {base g : Nat} {e n : Nat} {A : Option Addr} {c m : Nat} {xs : List Value} (h : w.ownsRow base e 3 (.slice A n c) m xs) (o : Only g w w') (hg : g < base) : w'.ownsRow base e 3 (.slice A n c) m xs := by
  refine ⟨h.1, ?_⟩
  rcases h.2 with h0 | ⟨b, cap, cur, h1, h2, h3, h4⟩
  · exact .inl h0
  · exact .inr ⟨b, cap, cur, h1, h2, (o.block b (by omega)).trans h3, h4⟩
end Go.Proofs.YtjliefglelcooaaDoor

namespace Go.Proofs.YtjliefglelcooaaDoor
open Go.RowKit

/-- a panic speaks of no slot -/
structure PQ (Q : Exit → Act → World → Prop) : Prop where
  out : ∀ (d : Option Nat) (v : Value) (c : List PanicEntry) (a : Act) (w : World), Q (.panic c) (a.put d v) w → Q (.panic c) a w
theorem pq_then {K : Act → World → Prop} {Q : Exit → Act → World → Prop} (h : PQ Q) : PQ (Exit.then K Q) := ⟨fun d v c a w hq => h.out d v c a w hq⟩
theorem pq_block {id : Nat} {Q : Exit → Act → World → Prop} (h : PQ Q) : PQ (Exit.inBlock id Q) := ⟨fun d v c a w hq => h.out d v c a w hq⟩
theorem pq_body {P : Program} {fn : Func} {R : Ending → World → Prop} : PQ (bodyPost P fn R) := ⟨fun d v c a w hq => by
  cases d with
  | none => exact hq
  | some d => exact hq⟩

/-- operations that reckon without memory -/
def lateK : Op → Bool | .move _ => true | .assign _ => true | .extract _ _ => true | _ => false
theorem late_run {P : Program} {ρ : Operand → Value} {o : Oper} (h : lateK o.op = true) {w w' : World} {r : Next} (hr : (execOp ρ o).run P w = .ok r w') : w' = w ∧ ∀ w2, (execOp ρ o).run P w2 = .ok r w2 := by
  obtain ⟨dst, op, ty, pos, after, guard⟩ := o
  cases op <;> simp only [lateK, Bool.false_eq_true] at h
  · simp only [execOp, Sem.run_pure, Result.ok.injEq] at hr ⊢
    exact ⟨hr.2.symm, fun w2 => ⟨hr.1, trivial⟩⟩
  · simp only [execOp, Sem.run_pure, Result.ok.injEq] at hr ⊢
    exact ⟨hr.2.symm, fun w2 => ⟨hr.1, trivial⟩⟩
  · rename_i x i
    simp only [execOp, Sem.run_bind] at hr ⊢
    cases hx : ρ x <;> simp only [hx, Instr.extract] at hr ⊢ <;> (try (simp at hr; done))
    rename_i vs
    cases hv : vs[i]? <;> simp [hv] at hr ⊢
    exact ⟨hr.2.symm, hr.1⟩

def isLate (l : List Oper) (K j : Nat) : Bool := (List.range l.length).any fun i => decide (K ≤ i) && (match l[i]? with | some o => !hasEdge o j | none => false)
def lateB (l : List Oper) (K : Nat) : Bool :=
  (List.range K).all fun j => !isLate l K j || match l[j]? with
    | none => false
    | some o => lateK o.op && o.guard.isNone && o.dst.isSome && (List.range l.length).all fun i => i == j || match l[i]? with
      | none => false
      | some y => (if i < K then !isLate l K i else hasEdge y j) || o.apart l.toArray y
/-- the region's shape -/
def monoL (l : List Oper) (K : Nat) : Bool :=
  let ops := l.toArray
  let dst (i : Nat) : Option Nat := (l[i]?).bind (·.dst)
  (decide (K ≤ l.length) &&
  (List.range l.length).all fun i => match l[i]? with
    | none => false
    | some o =>
      (o.after.toList.all fun e => !Region.binds .any e || decide (e.on < i)) && !isSelect o.op &&
      (if i < K then
        (match o.dst with
         | none => false
         | some d => (List.range K).all (fun j => j == i || dst j != some d) && !((o.looksAt ops).elem d)) &&
        (List.range K).all (fun j => match dst j with
          | none => false
          | some d => !(o.looksAt ops).elem d || (decide (j < i) && hasEdge o j))
       else (List.range i).all (fun j => hasEdge o j || decide (j < K)))) && lateB l K

section late
variable {P : Program} {Q : Exit → Act → World → Prop} {n : Nat} {L : List (Nat × Value)} {w : World} {l : List Oper} {K : Nat} {R : Nat → Value → World → Prop}
theorem late_spec (hc : lateB l K = true) {j : Nat} {o : Oper} (hj : j < K) (ho : l[j]? = some o) (hl : isLate l K j = true) :
    lateK o.op = true ∧ o.guard = none ∧ ∀ i y, l[i]? = some y → i ≠ j → ((i < K ∧ isLate l K i = true) ∨ (K ≤ i ∧ hasEdge y j = false)) → o.apart l.toArray y = true := by
  have h := List.all_eq_true.1 hc j (List.mem_range.2 hj)
  rw [hl, ho] at h
  simp only [Bool.not_true, Bool.false_or, Bool.and_eq_true] at h
  refine ⟨h.1.1.1, by simpa using h.1.1.2, fun i y hi hne hcase => ?_⟩
  have h2 := List.all_eq_true.1 h.2 i (List.mem_range.2 (List.getElem?_eq_some_iff.1 hi).1)
  rw [hi] at h2
  simp only [beq_iff_eq, hne, Bool.or_eq_true, false_or] at h2
  rcases hcase with ⟨h3, h4⟩ | ⟨h3, h4⟩
  · simp [h3, h4] at h2
    exact h2
  · simp [show ¬ i < K by omega, h4] at h2
    exact h2
theorem nonlate_edge {i j : Nat} {o : Oper} (hl : isLate l K j = false) (ho : l[i]? = some o) (hi : K ≤ i) : hasEdge o j = true := by
  unfold isLate at hl
  have := List.any_eq_false.1 hl i (List.mem_range.2 (List.getElem?_eq_some_iff.1 ho).1)
  rw [ho] at this
  simpa [hi] using this
/-- values that are still to be put -/
def pend (l : List Oper) (f : Nat → Value) : List Nat → Act → Act
  | [], a => a
  | i :: r, a => (pend l f r a).put ((l[i]?).bind (·.dst)) (f i)
theorem pend_put {f : Nat → Value} {x : Option Nat} {v : Value} : ∀ (U : List Nat) (a : Act), (∀ i ∈ U, ∀ d, x = some d → (l[i]?).bind (·.dst) ≠ some d) → pend l f U (a.put x v) = (pend l f U a).put x v
  | [], _, _ => rfl
  | i :: r, a, h => by
    show (pend l f r (a.put x v)).put _ _ = ((pend l f r a).put _ _).put _ _
    rw [pend_put r a (fun j hj => h j (List.mem_cons_of_mem _ hj))]
    exact Act.put_comm _ _ _ (h i (List.mem_cons_self ..))
theorem pend_erase {f : Nat → Value} {i : Nat} : ∀ (U : List Nat) (a : Act), i ∈ U → U.Nodup → (∀ j ∈ U, j ≠ i → ∀ d, (l[i]?).bind (·.dst) = some d → (l[j]?).bind (·.dst) ≠ some d) → pend l f (U.erase i) (a.put ((l[i]?).bind (·.dst)) (f i)) = pend l f U a
  | [], _, h, _, _ => by cases h
  | j :: r, a, h, hn, hd => by
    obtain ⟨hn1, hn2⟩ := List.nodup_cons.1 hn
    by_cases e : j = i
    · subst e
      rw [List.erase_cons_head]
      exact pend_put r a (fun k hk => hd k (List.mem_cons_of_mem _ hk) (fun e => hn1 (e ▸ hk)))
    · rw [List.erase_cons_tail (by simpa using e)]
      show (pend l f (r.erase i) _).put _ _ = (pend l f r a).put _ _
      rw [pend_erase r a ((List.mem_cons.1 h).resolve_left (fun h => e h.symm)) hn2 (fun k hk => hd k (List.mem_cons_of_mem _ hk))]
theorem yields_put {o y : Oper} {v u : Value} {a : Act} (hs : isSelect o.op = false) (hap : o.apart l.toArray y = true) : Yields P l.toArray o v (a.put y.dst u) ↔ Yields P l.toArray o v a := by
  have h3 := (Oper.apart_spec hap).2.2
  have hs' : ∀ cs b, o.op ≠ .select cs b := fun cs b e => by rw [e] at hs; simp [isSelect] at hs
  exact ⟨fun h => h.of_same (execOp_put o hs' a y.dst u h3).symm (wanted_put o a y.dst u h3).symm, fun h => h.of_same (execOp_put o hs' a y.dst u h3) (wanted_put o a y.dst u h3)⟩
theorem yields_pend {f : Nat → Value} {o : Oper} {v : Value} (hs : isSelect o.op = false) : ∀ (U : List Nat) (a : Act), (∀ i ∈ U, ∃ y, l[i]? = some y ∧ o.apart l.toArray y = true) → (Yields P l.toArray o v (pend l f U a) ↔ Yields P l.toArray o v a)
  | [], _, _ => Iff.rfl
  | i :: r, a, h => by
    obtain ⟨y, hy, hap⟩ := h i (List.mem_cons_self ..)
    show Yields P l.toArray o v ((pend l f r a).put _ _) ↔ _
    rw [hy]
    exact (yields_put hs hap).trans (yields_pend hs r a (fun j hj => h j (List.mem_cons_of_mem _ hj)))
theorem wpOp_pend (hQ : PQ Q) {f : Nat → Value} {k : Nat} {o : Oper} (ho : l[k]? = some o) (hs : isSelect o.op = false) : ∀ (U : List Nat) (Kk : Act → World → Prop) (a : Act), U.Nodup →
    (∀ i ∈ U, ∃ y, l[i]? = some y ∧ isSelect y.op = false ∧ y.apart l.toArray o = true ∧ Yields P l.toArray y (f i) a ∧ ∀ j ∈ U, j ≠ i → ∃ z, l[j]? = some z ∧ y.apart l.toArray z = true) →
    wpOp P l.toArray Q k Kk (pend l f U a) w → wpOp P l.toArray Q k (fun a' w' => (∀ i ∈ U, ∀ y, l[i]? = some y → Yields P l.toArray y (f i) a') ∧ Kk (pend l f U a') w') a w
  | [], Kk, a, _, _, h => wpOp_mono (fun a w h => ⟨by simp, h⟩) h
  | i :: r, Kk, a, hn, hU, h => by
    obtain ⟨hn1, hn2⟩ := List.nodup_cons.1 hn
    obtain ⟨y, hy, hsy, hap, hyl, hoth⟩ := hU i (List.mem_cons_self ..)
    have hr : ∀ j ∈ r, ∃ z, l[j]? = some z ∧ y.apart l.toArray z = true := fun j hj => hoth j (List.mem_cons_of_mem _ hj) (fun e => hn1 (e ▸ hj))
    have hsel : ∀ {x : Oper}, isSelect x.op = false → ∀ cs b, x.op ≠ .select cs b := fun hs cs b e => by rw [e] at hs; simp [isSelect] at hs
    have e0 : pend l f (i :: r) a = (pend l f r a).put y.dst (f i) := by
      show (pend l f r a).put _ _ = _
      rw [hy]; rfl
    rw [e0] at h
    have h1 := wpOp_put (P := P) (ops := l.toArray) (by rw [List.getElem?_toArray]; exact ho) hap (hsel hsy) (hsel hs) (fun c a w => hQ.out _ _ c a w) ((yields_pend hsy r a hr).2 hyl) h
    have h2 := wpOp_pend hQ ho hs r _ a hn2 (fun j hj => by
      obtain ⟨z, h1, h2, h3, h4, h5⟩ := hU j (List.mem_cons_of_mem _ hj)
      exact ⟨z, h1, h2, h3, h4, fun k hk => h5 k (List.mem_cons_of_mem _ hk)⟩) h1
    refine wpOp_mono (fun a' w' hh => ?_) h2
    obtain ⟨g1, g2, g3⟩ := hh
    refine ⟨fun j hj z hz => ?_, ?_⟩
    · rcases List.mem_cons.1 hj with rfl | hj
      · rw [hy] at hz
        cases hz
        exact (yields_pend hsy r a' hr).1 g2
      · exact g1 j hj z hz
    · show Kk ((pend l f r a').put _ _) w'
      rw [hy]
      exact g3
/-- behind the head: one order, but for the late ones -/
theorem tail_late (hQ : PQ Q) (hc : monoL l K = true) {f : Nat → Value} : ∀ (m k : Nat) (listed : Array Bool) (U : List Nat) (a : Act) (w' : World), listed.toList.count false = m → listed.size = l.length → K ≤ k → k ≤ l.length →
    (∀ j, K ≤ j → j < l.length → listed.getD j true = decide (j < k)) → U.Nodup → (∀ j, j < K → (listed.getD j true = false ↔ j ∈ U)) → (∀ j ∈ U, j < K ∧ isLate l K j = true ∧ ∃ o, l[j]? = some o ∧ Yields P l.toArray o (f j) a) →
    wpList P l.toArray Q (l.drop k) (pend l f U a) w' → wpAny P .any l.toArray Q m listed a w' := by
  have hc1 := (Bool.and_eq_true_iff.1 hc).1
  have hlate := (Bool.and_eq_true_iff.1 hc).2
  have hKl : K ≤ l.length := of_decide_eq_true (Bool.and_eq_true_iff.1 hc1).1
  have hck := (List.all_eq_true.1 (Bool.and_eq_true_iff.1 hc1).2)
  intro m
  induction m with
  | zero =>
    intro k listed U a w' hcount hs hK hkl htail hn hU hUl h
    have hall : ∀ j, j < l.length → listed.getD j true = true := by
      intro j hj
      have hm : listed[j]'(by omega) ∈ listed.toList := by simp
      cases hb : listed[j]'(by omega) with
      | true => simp [Array.getD, show j < listed.size by omega, hb]
      | false =>
        rw [hb] at hm
        exact absurd hcount (Nat.pos_iff_ne_zero.1 (List.count_pos_iff.2 hm))
    have hU0 : U = [] := by
      rw [List.eq_nil_iff_forall_not_mem]
      intro j hj
      have h1 := (hU j (hUl j hj).1).2 hj
      rw [hall j (by have := (hUl j hj).1; omega)] at h1
      cases h1
    have hke : k = l.length := by
      rcases Nat.lt_or_ge k l.length with hlt | hge
      · have h1 := htail k hK hlt
        rw [hall k hlt] at h1
        simp at h1
      · omega
    subst hU0 hke
    refine ⟨?_, by simpa [pend, wpList] using h⟩
    rw [List.eq_nil_iff_forall_not_mem]
    intro j hj
    obtain ⟨h0, o, ho, _⟩ := mem_ready.1 hj
    rw [List.getElem?_toArray] at ho
    rw [hall j (List.getElem?_eq_some_iff.1 ho).1] at h0
    cases h0
  | succ m ih =>
    intro k listed U a w' hcount hs hK hkl htail hn hU hUl h
    have hex : ∃ i, i < l.length ∧ listed.getD i true = false := by
      obtain ⟨i, hi, hb⟩ := List.mem_iff_getElem.1 (List.count_pos_iff.1 (by rw [hcount]; omega : 0 < listed.toList.count false))
      have hi' : i < listed.size := by simpa using hi
      exact ⟨i, by omega, by simpa [Array.getD, hi'] using hb⟩
    obtain ⟨i0, hi0, hmin⟩ := exists_least hex
    have hready : i0 ∈ Region.ready .any l.toArray listed := by
      refine mem_ready.2 ⟨hi0.2, l[i0]'hi0.1, by rw [List.getElem?_toArray, List.getElem?_eq_getElem hi0.1], fun e he hb => ?_⟩
      have hx := hck i0 (List.mem_range.2 hi0.1)
      rw [List.getElem?_eq_getElem hi0.1] at hx
      simp only [Bool.and_eq_true] at hx
      have he2 := List.all_eq_true.1 hx.1.1 e (by simpa using he)
      rw [hb] at he2
      simp at he2
      rw [← getD_true_false (by omega)]
      cases hb2 : listed.getD e.on true with
      | true => rfl
      | false => exact absurd (hmin e.on ⟨by omega, hb2⟩) (by omega)
    refine ⟨fun h0 => (by rw [h0] at hready; cases hready), fun i hi => ?_⟩
    obtain ⟨h0, o, ho, hall⟩ := mem_ready.1 hi
    rw [List.getElem?_toArray] at ho
    have hil : i < l.length := (List.getElem?_eq_some_iff.1 ho).1
    have hx := hck i (List.mem_range.2 hil)
    rw [ho] at hx
    simp only [Bool.and_eq_true] at hx
    have hsel : isSelect o.op = false := by simpa using hx.1.2
    have hcnt : (listed.setIfInBounds i true).toList.count false = m := by
      have hil' : i < listed.size := by omega
      have hfalse : listed.toList[i]? = some false := by
        rw [Array.getElem?_toList, Array.getElem?_eq_getElem hil']
        simp [Array.getD, hil'] at h0
        rw [h0]
      rw [Array.toList_setIfInBounds]
      have := count_set_true (l := listed.toList) (i := i) hfalse
      omega
    by_cases hiK : i < K
    · -- a late one
      have hiU := (hU i hiK).1 h0
      obtain ⟨_, hil8, o', ho', hy⟩ := hUl i hiU
      rw [ho] at ho'
      cases ho'
      obtain ⟨_, _, hap⟩ := late_spec hlate hiK ho hil8
      refine Yields.wpOp (by rw [List.getElem?_toArray]; exact ho) hy ?_
      have he : a.put o.dst (f i) = a.put ((l[i]?).bind (·.dst)) (f i) := by rw [ho]; rfl
      refine ih k _ (U.erase i) _ w' hcnt (by simpa using hs) hK hkl (fun j h1 h2 => by rw [getD_set_ne true (by omega)]; exact htail j h1 h2) (hn.erase i) (fun j hj => ?_) (fun j hj => ?_) ?_
      · by_cases e : i = j
        · subst e
          simp [hs, hil, hn.not_mem_erase]
        · rw [getD_set_ne true e, hU j hj]
          exact (List.mem_erase_of_ne (Ne.symm e)).symm
      · have hjU := List.mem_of_mem_erase hj
        obtain ⟨h1, h2, oj, h3, h4⟩ := hUl j hjU
        have hne : i ≠ j := fun e => by subst e; exact (hn.not_mem_erase) hj
        obtain ⟨_, _, hapj⟩ := late_spec hlate h1 h3 h2
        have hxj := hck j (List.mem_range.2 (by omega))
        rw [h3] at hxj
        simp only [Bool.and_eq_true] at hxj
        exact ⟨h1, h2, oj, h3, (yields_put (by simpa using hxj.1.2) (hapj i o ho hne (.inl ⟨hiK, hil8⟩))).2 h4⟩
      · rw [he, pend_erase U a hiU hn (fun j hj hne d hd => ?_)]
        · exact h
        · obtain ⟨h1, h2, oj, h3, h4⟩ := hUl j hj
          have h5 := (Oper.apart_spec (hap j oj h3 hne (.inl ⟨h1, h2⟩))).2.1 d (by rw [ho] at hd; exact hd)
          rw [h3]
          exact h5
    · -- the next of the tail
      have hik : i = k := by
        rw [htail i (by omega) hil] at h0
        have h0' : k ≤ i := by simpa using h0
        rcases Nat.eq_or_lt_of_le h0' with e | hlt
        · exact e.symm
        · exfalso
          have h3 := hx.2
          rw [if_neg hiK] at h3
          have h4 := List.all_eq_true.1 h3 k (List.mem_range.2 hlt)
          simp only [show ¬ k < K by omega, decide_false, Bool.or_false] at h4
          obtain ⟨e, he, he2⟩ := List.any_eq_true.1 h4
          simp only [Bool.and_eq_true, beq_iff_eq] at he2
          have h5 := hall e (by simpa using he) he2.1
          rw [he2.2, ← getD_true_false (by omega), htail k hK (by omega)] at h5
          simp at h5
      subst hik
      have hdrop : l.drop i = o :: l.drop (i + 1) := by
        rw [List.drop_eq_getElem_cons hil]
        rw [List.getElem?_eq_getElem hil] at ho
        cases ho
        rfl
      rw [hdrop] at h
      have hk2 : wpOp P l.toArray Q i (wpList P l.toArray Q (l.drop (i + 1))) (pend l f U a) w' := by
        unfold wpOp
        rw [List.getElem?_toArray, ho]
        exact h
      have hne : ∀ j ∈ U, j ≠ i := fun j hj e => by have := (hUl j hj).1; omega
      have hk3 := wpOp_pend hQ ho hsel U _ a hn (fun j hj => by
        obtain ⟨h1, h2, oj, h3, h4⟩ := hUl j hj
        obtain ⟨_, _, hapj⟩ := late_spec hlate h1 h3 h2
        have hxj := hck j (List.mem_range.2 (by omega))
        rw [h3] at hxj
        simp only [Bool.and_eq_true] at hxj
        refine ⟨oj, h3, by simpa using hxj.1.2, hapj i o ho (Ne.symm (hne j hj)) (.inr ⟨by omega, ?_⟩), h4, fun j' hj' hne' => ?_⟩
        · cases hE : hasEdge o j with
          | false => rfl
          | true =>
            obtain ⟨e, he, he2⟩ := List.any_eq_true.1 hE
            simp only [Bool.and_eq_true, beq_iff_eq] at he2
            have h5 := hall e (by simpa using he) he2.1
            rw [he2.2, ← getD_true_false (by omega), (hU j h1).2 hj] at h5
            cases h5
        · obtain ⟨h1', h2', oj', h3', _⟩ := hUl j' hj'
          exact ⟨oj', h3', hapj j' oj' h3' hne' (.inl ⟨h1', h2'⟩)⟩) hk2
      refine wpOp_mono (fun a' w'' hh => ?_) hk3
      refine ih (i + 1) _ U a' w'' hcnt (by simpa using hs) (by omega) (by omega) (fun j h1 h2 => ?_) hn (fun j hj => ?_) (fun j hj => ?_) hh.2
      · by_cases e : i = j
        · subst e
          simp [hs, hil]
        · rw [getD_set_ne true e, htail j h1 h2]
          have : (j < i + 1) ↔ (j < i) := by omega
          simp [this]
      · rw [getD_set_ne true (by omega)]
        exact hU j hj
      · obtain ⟨h1, h2, oj, h3, _⟩ := hUl j hj
        exact ⟨h1, h2, oj, h3, hh.1 j hj oj h3⟩
theorem pend_mkA {f : Nat → Value} : ∀ (U : List Nat) (L' : List (Nat × Value)), pend l f U (mkA n L') = mkA n ((U.filterMap fun i => ((l[i]?).bind (·.dst)).map fun d => (d, f i)) ++ L')
  | [], _ => rfl
  | i :: r, L' => by
    show (pend l f r (mkA n L')).put _ _ = _
    rw [pend_mkA r L', List.filterMap_cons]
    cases hd : (l[i]?).bind (·.dst) with
    | none => rfl
    | some d =>
      rw [put_mkA]
      rfl
theorem look_pend {f : Nat → Value} {L' : List (Nat × Value)} {t : Nat} : ∀ (U : List Nat), (∀ i ∈ U, (l[i]?).bind (·.dst) ≠ some t) → look ((U.filterMap fun i => ((l[i]?).bind (·.dst)).map fun d => (d, f i)) ++ L') t = look L' t
  | [], _ => rfl
  | i :: r, h => by
    rw [List.filterMap_cons]
    have h1 := h i (List.mem_cons_self ..)
    cases hd : (l[i]?).bind (·.dst) with
    | none => exact look_pend r (fun j hj => h j (List.mem_cons_of_mem _ hj))
    | some d =>
      simp only [Option.map_some, List.cons_append]
      rw [look_cons, if_neg (fun e => h1 (by rw [hd, e]))]
      exact look_pend r (fun j hj => h j (List.mem_cons_of_mem _ hj))
theorem look_pend_at {f : Nat → Value} {L' : List (Nat × Value)} {i d : Nat} : ∀ (U : List Nat), i ∈ U → (l[i]?).bind (·.dst) = some d → (∀ j ∈ U, j ≠ i → (l[j]?).bind (·.dst) ≠ some d) → look ((U.filterMap fun i => ((l[i]?).bind (·.dst)).map fun d => (d, f i)) ++ L') d = f i
  | [], h, _, _ => by cases h
  | j :: r, h, hd, hne => by
    rw [List.filterMap_cons]
    by_cases e : j = i
    · subst e
      rw [hd]
      simp only [Option.map_some, List.cons_append]
      rw [look_cons, if_pos rfl]
    · have h1 := hne j (List.mem_cons_self ..) e
      have ih := look_pend_at (f := f) (L' := L') r ((List.mem_cons.1 h).resolve_left (fun h => e h.symm)) hd (fun k hk => hne k (List.mem_cons_of_mem _ hk))
      cases hdj : (l[j]?).bind (·.dst) with
      | none => exact ih
      | some d' =>
        simp only [Option.map_some, List.cons_append]
        rw [look_cons, if_neg (fun e => h1 (by rw [hdj, e]))]
        exact ih
theorem late_fin (hQ : PQ Q) (hc : monoL l K = true) (hop : OpsOK P l.toArray n L w R (preOf l K) (l.take K))
    (hend : ∀ w', From w w' → AllF R w' (preOf l K) fun M => St P l.toArray Q (l.drop K) n (M ++ L) w') (m : Nat) (listed : Array Bool) (L' : List (Nat × Value)) (w' : World) (hcount : listed.toList.count false = m) (hs : listed.size = l.length)
    (htail : ∀ j, K ≤ j → j < l.length → listed.getD j true = false) (hF : From w w')
    (hfr : ∀ t, (∀ i o, i < K → l[i]? = some o → listed.getD i true = true → o.dst ≠ some t) → look L' t = look L t)
    (hR : ∀ i o d, i < K → l[i]? = some o → listed.getD i true = true → o.dst = some d → R d (look L' d) w') (hpre : ∀ i, i < K → listed.getD i true = false → isLate l K i = true) : wpAny P .any l.toArray Q m listed (mkA n L') w' := by
  have hc1 := (Bool.and_eq_true_iff.1 hc).1
  have hlate := (Bool.and_eq_true_iff.1 hc).2
  have hKl : K ≤ l.length := of_decide_eq_true (Bool.and_eq_true_iff.1 hc1).1
  have hck := (List.all_eq_true.1 (Bool.and_eq_true_iff.1 hc1).2)
  -- what is known of an operation of the head
  have hhead : ∀ i, i < K → ∃ o d, l[i]? = some o ∧ o.dst = some d ∧ isSelect o.op = false ∧ (∀ j oj, j < K → j ≠ i → l[j]? = some oj → oj.dst ≠ some d) ∧
      (∀ j oj t, j < K → l[j]? = some oj → oj.dst = some t → (o.looksAt l.toArray).elem t = true → j < i ∧ hasEdge o j = true) := by
    intro i hi
    have hil : i < l.length := by omega
    have hx := hck i (List.mem_range.2 hil)
    rw [List.getElem?_eq_getElem hil] at hx
    simp only [Bool.and_eq_true] at hx
    have h3 := hx.2
    rw [if_pos hi] at h3
    simp only [Bool.and_eq_true] at h3
    obtain ⟨h3a, h3b⟩ := h3
    cases hod : (l[i]).dst with
    | none => rw [hod] at h3a; cases h3a
    | some d =>
      rw [hod] at h3a
      simp only [Bool.and_eq_true] at h3a
      refine ⟨l[i], d, List.getElem?_eq_getElem hil, hod, by simpa using hx.1.2, fun j oj hj hne hoj e => ?_, fun j oj t hj hoj hd ht => ?_⟩
      · have h5 := List.all_eq_true.1 h3a.1 j (List.mem_range.2 hj)
        rw [hoj] at h5
        simp [hne, e] at h5
      · have h5 := List.all_eq_true.1 h3b j (List.mem_range.2 hj)
        rw [hoj] at h5
        have ht' : t ∈ (l[i]).looksAt l.toArray := by simpa using ht
        simpa [hd, ht'] using h5
  -- the values of those that are still to come
  have hval : ∀ i, i < K → listed.getD i true = false → ∃ v, ∀ o d, l[i]? = some o → o.dst = some d → Yields P l.toArray o v (mkA n L') ∧ R d v w' := by
    intro i hi hf
    have hil8 := hpre i hi hf
    obtain ⟨o, d, ho, hd, hsel, _, hlk⟩ := hhead i hi
    obtain ⟨hk, hg, hap⟩ := late_spec hlate hi ho hil8
    have hfact : ∀ t ∈ slotsOf l.toArray (preOf l K) o, R t (look L' t) w' := by
      intro t ht
      obtain ⟨ht1, ht2⟩ := List.mem_filter.1 ht
      obtain ⟨oj, hoj, hdj⟩ := List.mem_filterMap.1 ht1
      obtain ⟨j, hj⟩ := List.mem_iff_getElem?.1 hoj
      rw [List.getElem?_take] at hj
      split at hj
      · rename_i hjK
        have h5 := hlk j oj t hjK hj hdj ht2
        refine hR j oj t hjK hj ?_ hdj
        cases hb : listed.getD j true with
        | true => rfl
        | false =>
          have h6 := hpre j hjK hb
          have h7 := (Oper.apart_spec (hap j oj hj (by omega) (.inl ⟨hjK, h6⟩))).2.2 t hdj
          exact absurd (by simpa using ht2) h7
      · cases hj
    have hlooks : ∀ t, (o.looksAt l.toArray).elem t = true → look ((slotsOf l.toArray (preOf l K) o).map (fun d => (d, look L' d)) ++ L) t = look L' t := by
      intro t ht
      rw [look_map]
      split
      · rfl
      · rename_i hne
        refine (hfr t fun j oj hj hoj hlj hd => hne ?_).symm
        simp only [List.elem_eq_mem, decide_eq_true_eq]
        refine List.mem_filter.2 ⟨List.mem_filterMap.2 ⟨oj, List.mem_iff_getElem?.2 ⟨j, by rw [List.getElem?_take, if_pos hj]; exact hoj⟩, hd⟩, ht⟩
    have hok := allF_at (look L') _ hfact (opsOK_at hop i o (by rw [List.getElem?_take, if_pos hi]; exact ho) w' hF)
    obtain ⟨hE, hW⟩ := looksAt_agree (n := n) (ops := l.toArray) (o := o) hsel hlooks
    rw [hd] at hok
    simp only [Option.getD_some] at hok
    have hyl : ∃ v, Yields P l.toArray o v (mkA n L') ∧ R d v w' := by
      unfold OpOK at hok
      rw [hE, hW] at hok
      rcases hok with ⟨hw, ⟨v, w'', hr, hF', hRv⟩ | ⟨f, args, hr, hcall⟩⟩ | ⟨hw, hRv⟩
      · obtain ⟨rfl, hall⟩ := late_run hk hr
        refine ⟨v, .inl ⟨hw, fun w2 => ?_⟩, hRv⟩
        rw [eval_mkA]
        exact hall w2
      · exfalso
        obtain ⟨dst, op, ty, pos, after, guard⟩ := o
        cases op <;> simp only [lateK, Bool.false_eq_true] at hk <;> simp only [execOp, Sem.run_pure, Sem.run_bind, Result.ok.injEq] at hr
        · cases hr.1
        · cases hr.1
        · rename_i x i'
          cases hx : ev n L' x <;> simp only [hx, Instr.extract] at hr <;> (try (simp at hr; done))
          rename_i vs
          cases hv : vs[i']? <;> simp [hv] at hr
      · exact ⟨undef, .inr ⟨hw, rfl⟩, hRv⟩
    obtain ⟨v, hv1, hv2⟩ := hyl
    refine ⟨v, fun o' d' ho' hd' => ?_⟩
    rw [ho] at ho'
    cases ho'
    rw [hd] at hd'
    cases hd'
    exact ⟨hv1, hv2⟩
  obtain ⟨f, hf⟩ : ∃ f : Nat → Value, ∀ i, i < K → listed.getD i true = false → ∀ o d, l[i]? = some o → o.dst = some d → Yields P l.toArray o (f i) (mkA n L') ∧ R d (f i) w' := by
    refine ⟨fun i => open Classical in if h : ∃ v, ∀ o d, l[i]? = some o → o.dst = some d → Yields P l.toArray o v (mkA n L') ∧ R d v w' then h.choose else undef, fun i hi hl => ?_⟩
    have h := hval i hi hl
    simp only [dif_pos h]
    exact h.choose_spec
  have hUm : ∀ i, i ∈ (List.range K).filter (fun i => !listed.getD i true) ↔ i < K ∧ listed.getD i true = false := fun i => by
    rw [List.mem_filter, List.mem_range]
    simp
  obtain ⟨U, hU, hUn⟩ : ∃ U : List Nat, (∀ i, i ∈ U ↔ i < K ∧ listed.getD i true = false) ∧ U.Nodup := ⟨_, hUm, List.nodup_range.sublist (List.filter_sublist ..)⟩
  have hbind : ∀ {i : Nat} {o : Oper}, l[i]? = some o → (l[i]?).bind (·.dst) = o.dst := fun h => by rw [h]; rfl
  -- the frame with all of them
  have hRall : ∀ d ∈ preOf l K, R d (look ((U.filterMap fun i => ((l[i]?).bind (·.dst)).map fun d => (d, f i)) ++ L') d) w' := by
    intro d hd
    obtain ⟨o, ho, hod⟩ := List.mem_filterMap.1 hd
    obtain ⟨i, hi⟩ := List.mem_iff_getElem?.1 ho
    rw [List.getElem?_take] at hi
    split at hi
    · rename_i hiK
      obtain ⟨o', d', ho', hd', _, hdist, _⟩ := hhead i hiK
      rw [hi] at ho'
      cases ho'
      rw [hod] at hd'
      cases hd'
      have hne : ∀ j ∈ U, j ≠ i → (l[j]?).bind (·.dst) ≠ some d := fun j hj hji => by
        have hjK := ((hU j).1 hj).1
        obtain ⟨oj, dj, hoj, _⟩ := hhead j hjK
        rw [hbind hoj]
        exact hdist j oj hjK hji hoj
      cases hb : listed.getD i true with
      | true =>
        rw [look_pend U fun j hj => hne j hj (fun e => by subst e; have := ((hU j).1 hj).2; rw [hb] at this; cases this)]
        exact hR i o d hiK hi hb hod
      | false =>
        rw [look_pend_at U ((hU i).2 ⟨hiK, hb⟩) ((hbind hi).trans hod) hne]
        exact (hf i hiK hb o d hi hod).2
    · cases hi
  have he := allF_at _ (preOf l K) hRall (hend w' hF)
  have hL : mkA n ((preOf l K).map (fun d => (d, look ((U.filterMap fun i => ((l[i]?).bind (·.dst)).map fun d => (d, f i)) ++ L') d)) ++ L) = pend l f U (mkA n L') := by
    rw [pend_mkA]
    refine mkA_congr fun t _ => ?_
    rw [look_map]
    split
    · rfl
    · rename_i hne
      have hnd : ∀ i, i < K → ∀ o, l[i]? = some o → o.dst ≠ some t := fun i hi o ho hod => hne (by
        simp only [List.elem_eq_mem, decide_eq_true_eq]
        exact List.mem_filterMap.2 ⟨o, List.mem_iff_getElem?.2 ⟨i, by rw [List.getElem?_take, if_pos hi]; exact ho⟩, hod⟩)
      rw [look_pend U fun j hj => by
        have hjK := ((hU j).1 hj).1
        obtain ⟨oj, dj, hoj, _⟩ := hhead j hjK
        rw [hbind hoj]
        exact hnd j hjK oj hoj]
      exact (hfr t fun i o hi ho _ hod => hnd i hi o ho hod).symm
  replace he := he.out
  rw [hL] at he
  refine tail_late hQ hc m K listed U _ w' hcount hs (Nat.le_refl _) hKl (fun j h1 h2 => by rw [htail j h1 h2]; simp [h1]) hUn (fun j hj => ⟨fun h => (hU j).2 ⟨hj, h⟩, fun h => ((hU j).1 h).2⟩) (fun j hj => ?_) he
  obtain ⟨h1, h2⟩ := (hU j).1 hj
  obtain ⟨oj, dj, hoj, hdj, _⟩ := hhead j h1
  exact ⟨h1, hpre j h1 h2, oj, hoj, (hf j h1 h2 oj dj hoj hdj).1⟩
theorem mono_late (hQ : PQ Q) (hc : monoL l K = true) (hmono : ∀ t v w1 w2, From w1 w2 → R t v w1 → R t v w2) (hop : OpsOK P l.toArray n L w R (preOf l K) (l.take K))
    (hend : ∀ w', From w w' → AllF R w' (preOf l K) fun M => St P l.toArray Q (l.drop K) n (M ++ L) w') :
    ∀ (m : Nat) (listed : Array Bool) (L' : List (Nat × Value)) (w' : World), listed.toList.count false = m → listed.size = l.length → (∀ j, K ≤ j → j < l.length → listed.getD j true = false) → From w w' →
      (∀ t, (∀ i o, i < K → l[i]? = some o → listed.getD i true = true → o.dst ≠ some t) → look L' t = look L t) →
      (∀ i o d, i < K → l[i]? = some o → listed.getD i true = true → o.dst = some d → R d (look L' d) w') → wpAny P .any l.toArray Q m listed (mkA n L') w' := by
  have hc1 := (Bool.and_eq_true_iff.1 hc).1
  have hlate := (Bool.and_eq_true_iff.1 hc).2
  have hKl : K ≤ l.length := of_decide_eq_true (Bool.and_eq_true_iff.1 hc1).1
  have hck := (List.all_eq_true.1 (Bool.and_eq_true_iff.1 hc1).2)
  intro m
  induction m with
  | zero =>
    intro listed L' w' hcount hs htail hF hfr hR
    exact late_fin hQ hc hop hend 0 listed L' w' hcount hs htail hF hfr hR (fun i hi h => by
      have hm : listed[i]'(by omega) ∈ listed.toList := by simp
      have hb : listed[i]'(by omega) = false := by simpa [Array.getD, show i < listed.size by omega] using h
      rw [hb] at hm
      exact absurd hcount (Nat.pos_iff_ne_zero.1 (List.count_pos_iff.2 hm)))
  | succ m ih =>
    intro listed L' w' hcount hs htail hF hfr hR
    by_cases hpre : ∀ i, i < K → listed.getD i true = false → isLate l K i = true
    · exact late_fin hQ hc hop hend (m + 1) listed L' w' hcount hs htail hF hfr hR hpre
    · -- some operation of the head is still to come
      have hn0 : ∃ i, i < K ∧ listed.getD i true = false ∧ isLate l K i = false := by
        refine Classical.byContradiction fun hno => hpre fun i hi hf => ?_
        cases hb : isLate l K i with
        | true => rfl
        | false => exact absurd ⟨i, hi, hf, hb⟩ hno
      obtain ⟨n0, hn0⟩ := hn0
      obtain ⟨i0, hi0, hmin⟩ := exists_least (p := fun i => i < K ∧ listed.getD i true = false) ⟨n0, hn0.1, hn0.2.1⟩
      have hi0l : i0 < l.length := by omega
      have hready : i0 ∈ Region.ready .any l.toArray listed := by
        refine mem_ready.2 ⟨hi0.2, l[i0], by rw [List.getElem?_toArray, List.getElem?_eq_getElem hi0l], fun e he hb => ?_⟩
        have hx := hck i0 (List.mem_range.2 hi0l)
        rw [List.getElem?_eq_getElem hi0l] at hx
        simp only [Bool.and_eq_true] at hx
        have he2 := List.all_eq_true.1 hx.1.1 e (by simpa using he)
        rw [hb] at he2
        simp at he2
        rw [← getD_true_false (by omega)]
        cases hb2 : listed.getD e.on true with
        | true => rfl
        | false => exact absurd (hmin e.on ⟨by omega, hb2⟩) (by omega)
      refine ⟨fun h0 => (by rw [h0] at hready; cases hready), fun i hi => ?_⟩
      obtain ⟨h0, o, ho, hall⟩ := mem_ready.1 hi
      rw [List.getElem?_toArray] at ho
      have hil : i < l.length := (List.getElem?_eq_some_iff.1 ho).1
      have hx := hck i (List.mem_range.2 hil)
      rw [ho] at hx
      simp only [Bool.and_eq_true] at hx
      have hiK : i < K := by
        rcases Nat.lt_or_ge i K with h | h
        · exact h
        · exfalso
          obtain ⟨e, he, he2⟩ := List.any_eq_true.1 (nonlate_edge hn0.2.2 ho h)
          simp only [Bool.and_eq_true, beq_iff_eq] at he2
          have h5 := hall e (by simpa using he) he2.1
          rw [he2.2, ← getD_true_false (by omega), hn0.2.1] at h5
          cases h5
      have h3 := hx.2
      rw [if_pos hiK] at h3
      simp only [Bool.and_eq_true] at h3
      obtain ⟨h3a, h3b⟩ := h3
      cases hod : o.dst with
      | none => rw [hod] at h3a; cases h3a
      | some d =>
        rw [hod] at h3a
        simp only [Bool.and_eq_true] at h3a
        have hlooks : ∀ t, (o.looksAt l.toArray).elem t = true → look ((slotsOf l.toArray (preOf l K) o).map (fun d => (d, look L' d)) ++ L) t = look L' t := by
          intro t ht
          rw [look_map]
          split
          · rfl
          · rename_i hne
            refine (hfr t fun j oj hj hoj hlj hd => hne ?_).symm
            simp only [List.elem_eq_mem, decide_eq_true_eq]
            refine List.mem_filter.2 ⟨List.mem_filterMap.2 ⟨oj, List.mem_iff_getElem?.2 ⟨j, by rw [List.getElem?_take, if_pos hj]; exact hoj⟩, hd⟩, ht⟩
        have hfact : ∀ t ∈ slotsOf l.toArray (preOf l K) o, R t (look L' t) w' := by
          intro t ht
          obtain ⟨ht1, ht2⟩ := List.mem_filter.1 ht
          obtain ⟨oj, hoj, hd⟩ := List.mem_filterMap.1 ht1
          obtain ⟨j, hj⟩ := List.mem_iff_getElem?.1 hoj
          rw [List.getElem?_take] at hj
          split at hj
          · rename_i hjK
            have h5 := List.all_eq_true.1 h3b j (List.mem_range.2 hjK)
            rw [hj] at h5
            simp only [Option.bind_some, hd, ht2, Bool.not_true, Bool.false_or, Bool.and_eq_true, decide_eq_true_eq] at h5
            obtain ⟨e, he, he2⟩ := List.any_eq_true.1 h5.2
            simp only [Bool.and_eq_true, beq_iff_eq] at he2
            have h6 := hall e (by simpa using he) he2.1
            rw [he2.2] at h6
            exact hR j oj t hjK hj (by rw [getD_true_false (by omega)]; exact h6) hd
          · cases hj
        have hok := allF_at (look L') _ hfact (opsOK_at hop i o (by rw [List.getElem?_take, if_pos hiK]; exact ho) w' hF)
        have hsel : isSelect o.op = false := by simpa using hx.1.2
        obtain ⟨hE, hW⟩ := looksAt_agree (n := n) (ops := l.toArray) (o := o) hsel hlooks
        rw [hod] at hok
        simp only [Option.getD_some] at hok
        have next : ∀ v w'', From w' w'' → R d v w'' → wpAny P .any l.toArray Q m (listed.setIfInBounds i true) ((mkA n L').put (some d) v) w'' := by
          intro v w'' hF' hRv
          rw [put_mkA]
          have hne : ∀ j oj d', j < K → l[j]? = some oj → j ≠ i → oj.dst = some d' → d' ≠ d := by
            intro j oj d' hj hoj hji hd e
            have h5 := List.all_eq_true.1 h3a.1 j (List.mem_range.2 hj)
            rw [hoj] at h5
            simp [hji, hd, e] at h5
          refine ih _ _ w'' ?_ (by simpa using hs) (fun j hj1 hj2 => ?_) (hF.next hF') (fun t ht => ?_) (fun j oj d' hj hoj hlj hd => ?_)
          · have hil' : i < listed.size := by omega
            have hfalse : listed.toList[i]? = some false := by
              rw [Array.getElem?_toList, Array.getElem?_eq_getElem hil']
              simp [Array.getD, hil'] at h0
              rw [h0]
            rw [Array.toList_setIfInBounds]
            have := count_set_true (l := listed.toList) (i := i) hfalse
            omega
          · rw [getD_set_ne true (by omega)]
            exact htail j hj1 hj2
          · have htd : t ≠ d := fun e => ht i o hiK ho (by simp [show i < listed.size by omega]) (by rw [hod, e])
            rw [look_cons, if_neg htd]
            refine hfr t fun j oj hj hoj hlj => ht j oj hj hoj ?_
            by_cases e : i = j
            · subst e; rw [h0] at hlj; cases hlj
            · rw [getD_set_ne true e]; exact hlj
          · rw [look_cons]
            by_cases e : j = i
            · subst e
              rw [ho] at hoj
              cases hoj
              rw [hod] at hd
              cases hd
              rw [if_pos rfl]
              exact hRv
            · rw [if_neg (hne j oj d' hj hoj e hd)]
              rw [getD_set_ne true (Ne.symm e)] at hlj
              exact hmono _ _ _ _ hF' (hR j oj d' hj hoj hlj hd)
        unfold wpOp
        rw [List.getElem?_toArray, ho]
        show if Region.wanted o (yielded l.toArray (mkT n L')) = true then _ else _
        unfold OpOK at hok
        rw [hE, hW] at hok
        rcases hok with ⟨hw, ⟨v, w'', hr, hF', hRv⟩ | ⟨f, args, hr, hcall⟩⟩ | ⟨hw, hRv⟩
        · rw [if_pos hw]
          refine .inl ?_
          unfold Oper.wp
          rw [eval_mkA, hr, Oper.upon_value, hod]
          exact next v w'' hF' hRv
        · rw [if_pos hw]
          refine .inl ?_
          unfold Oper.wp
          rw [eval_mkA, hr, Oper.upon_enter, hod]
          refine Calls.mono hcall fun e w'' ⟨v, he, hF', hRv⟩ => ?_
          subst he
          exact next v w'' hF' hRv
        · rw [if_neg (by rw [hw]; simp), hod]
          exact next undef w' From.rfl_ hRv

/-- a region that draws its order -/
theorem cd_drawnL {id : Nat} (K : Nat) (RL : List (Nat × (Value → World → Prop))) (hQ : PQ Q) (hm : P.follows .mixedOrders = true) (hc : monoL l K = true) (hmono : MonoR RL)
    (hop : OpsOK P l.toArray n L w (lookR RL) (preOf l K) (l.take K)) (hend : ∀ w', From w w' → AllF (lookR RL) w' (preOf l K) fun M => St P l.toArray Q (l.drop K) n (M ++ L) w') : Cd P (.region id l.toArray true) Q n L w := by
  refine ⟨wp_region_any hm ?_⟩
  have hKl : K ≤ l.length := of_decide_eq_true (Bool.and_eq_true_iff.1 (Bool.and_eq_true_iff.1 hc).1).1
  have := mono_late (Q := Q) (w := w) hQ hc (lookR_mono hmono) hop hend l.length (Array.replicate l.length false) L { w with drawn := w.drawn + 1 } (by simp) (by simp)
    (fun j _ hj => by simp [Array.getD, hj]) (From.rfl_.d1) (fun _ _ => rfl) (fun i o d hi _ hl => by
      have : i < l.length := by omega
      simp [Array.getD, this] at hl)
  simpa using this
end late
end Go.Proofs.YtjliefglelcooaaDoor

namespace Go.Proofs.YtjliefglelcooaaDoor
open Go.RowKit
open Go.ChangeShapes Go.WideShapes Go.ChangeAt
theorem termI_cons (B T : Int) (e : Ent) (r : List Ent) (k : Nat) : termI B T (e :: r) (B + ((k + 1 : Nat) : Int)) = termI (B + 1) e.t r (B + 1 + (k : Int)) := by
  unfold termI
  rw [if_neg (by omega)]
  cases k with
  | zero => rw [if_pos (by omega)]; have : (B + ((0 + 1 : Nat) : Int) - B - 1).toNat = 0 := by omega
            rw [this]; rfl
  | succ k =>
    rw [if_neg (by omega)]
    have h1 : (B + ((k + 1 + 1 : Nat) : Int) - B - 1).toNat = k + 1 := by omega
    have h2 : (B + 1 + ((k + 1 : Nat) : Int) - (B + 1) - 1).toNat = k := by omega
    rw [h1, h2]; rfl
theorem termI_zero (B T : Int) (xs : List Ent) : termI B T xs (B + ((0 : Nat) : Int)) = T := by unfold termI; rw [if_pos (by omega)]
theorem lastT_cons (T : Int) (e : Ent) (r : List Ent) : lastT T (e :: r) = lastT e.t r := by
  unfold lastT
  cases r with
  | nil => rfl
  | cons f r => rw [List.getLast?_cons_cons, List.getLast?_eq_getElem?, List.getElem?_eq_getElem (by simp)]
theorem runs_drop : ∀ (xs : List Ent) (k : Nat) (B T : Int), k ≤ xs.length → runs xs B T = true → inb 0 1099511627775 T = true →
    runs (xs.drop k) (B + k) (termI B T xs (B + k)) = true ∧ inb 0 1099511627775 (termI B T xs (B + k)) = true ∧ lastT (termI B T xs (B + k)) (xs.drop k) = lastT T xs
  | xs, 0, B, T, _, h, hT => by
    rw [termI_zero, List.drop_zero]
    exact ⟨by simpa using h, hT, rfl⟩
  | [], k + 1, _, _, hk, _, _ => by simp at hk
  | e :: r, k + 1, B, T, hk, h, hT => by
    simp only [runs, Bool.and_eq_true] at h
    obtain ⟨h1, h2⟩ := h
    have he : inb 0 1099511627775 e.t = true := by
      simp only [entOk, Bool.and_eq_true, decide_eq_true_eq] at h1
      have := inb_true h1.1.2
      exact inb_mk ⟨by omega, this.2⟩
    have ih := runs_drop r k (B + 1) e.t (by simpa using hk) h2 he
    rw [termI_cons, List.drop_succ_cons, lastT_cons]
    have e1 : B + ((k + 1 : Nat) : Int) = B + 1 + (k : Int) := by omega
    rw [e1]
    exact ih
theorem may_drop {B T : Int} {xs : List Ent} (h : mayLog B T xs = true) {k : Nat} (hk : k ≤ xs.length) (hB : B + k ≤ 1099511625728) :
    mayLog (B + k) (termI B T xs (B + k)) (xs.drop k) = true ∧ lastT (termI B T xs (B + k)) (xs.drop k) = lastT T xs := by
  obtain ⟨_, h0, h1, h2⟩ := may_last h
  simp only [mayLog, Bool.and_eq_true, decide_eq_true_eq] at h ⊢
  obtain ⟨⟨⟨a1, a2⟩, a3⟩, a4⟩ := h
  obtain ⟨b1, b2, b3⟩ := runs_drop xs k B T hk a4 a2
  exact ⟨⟨⟨⟨inb_mk ⟨by omega, hB⟩, b2⟩, by rw [List.length_drop]; omega⟩, b1⟩, b3⟩
theorem last_drop {B T : Int} {xs : List Ent} (h : mayLog B T xs = true) {k : Nat} (hk : k ≤ xs.length) (hB : B + k ≤ 1099511625728) : lastV (B + k) (termI B T xs (B + k)) (xs.drop k) = lastV B T xs := by
  obtain ⟨h1, h2⟩ := may_drop h hk hB
  obtain ⟨a1, _⟩ := may_last h
  obtain ⟨b1, _⟩ := may_last h1
  unfold lastV
  rw [if_pos h, if_pos h1, a1, b1, h2, List.length_drop]
  have : B + (k : Int) + ((xs.length - k : Nat) : Int) = B + (xs.length : Int) := by omega
  rw [this]
end Go.Proofs.YtjliefglelcooaaDoor

namespace Go.Proofs.YtjliefglelcooaaDoor
open Go.RowKit

theorem EntMerge_e23 : elemQ Tryd.prog 25 = some (41, 3) := by kernel_rfl
theorem EntMerge_o72 : zeroQ Tryd.prog 72 = some (.agg #[.int .i64 0, .int .i64 0, .slice none 0 0]) := by kernel_rfl
theorem EntMerge_g72 : aggQ Tryd.prog 72 = some true := by kernel_rfl
theorem EntMerge_z72 : sizeQ Tryd.prog 72 = some 3 := by kernel_rfl
theorem EntMerge_k41 : callable Tryd.prog 41 = true := by kernel_rfl
theorem EntMerge_b72_ : Tryd.prog.built 72 [] = some #[.int .i64 0, .int .i64 0, .slice none 0 0] := by kernel_rfl
theorem EntMerge_q64 : litQ Tryd.prog 64 = some (3, 1, 8, (.int .i64 0)) := by kernel_rfl
theorem EntMerge_k42 : callable Tryd.prog 42 = true := by kernel_rfl
theorem EntMerge_k43 : callable Tryd.prog 43 = true := by kernel_rfl
theorem EntMerge_f72_0 : fieldQ Tryd.prog 72 0 = some 0 := by kernel_rfl
theorem EntMerge_g3 : aggQ Tryd.prog 3 = some false := by kernel_rfl
theorem EntMerge_l25 : (elemQ Tryd.prog 25).isSome = true := by kernel_rfl
theorem EntMerge_f72_1 : fieldQ Tryd.prog 72 1 = some 1 := by kernel_rfl
theorem EntMerge_k44 : callable Tryd.prog 44 = true := by kernel_rfl
theorem EntMerge_k46 : callable Tryd.prog 46 = true := by kernel_rfl
theorem EntMerge_k45 : callable Tryd.prog 45 = true := by kernel_rfl
theorem EntMerge_e25 : elemQ Tryd.prog 25 = some (41, 3) := by kernel_rfl
theorem EntMerge_f41_0 : fieldQ Tryd.prog 41 0 = some 0 := by kernel_rfl
theorem EntMerge_f41_1 : fieldQ Tryd.prog 41 1 = some 1 := by kernel_rfl
def mgCut (B p : Int) (es : List Ent) : List Ent := if p < B then es.drop (min (B - p) es.length).toNat else es
def mgP (B p : Int) : Int := if p < B then B else p
def mgQ (B T p q : Int) : Int := if p < B then T else q
def mgSkip (B T : Int) (xs : List Ent) : List Ent → List Ent
  | [] => []
  | e :: r => if e.i ≤ B + xs.length ∧ termI B T xs e.i = e.t then mgSkip B T xs r else e :: r
def mgIdx (B : Int) (xs : List Ent) : List Ent → Nat | [] => xs.length | e :: _ => (e.i - 1 - B).toNat
def mg2 (B T : Int) (xs ys : List Ent) : Int × Bool × List Ent :=
  if 512 < mgIdx B xs ys + ys.length then (6, false, []) else if mayLog B T (xs.take (mgIdx B xs ys) ++ ys) = true then (0, false, xs.take (mgIdx B xs ys) ++ ys) else (1, false, [])
def mergeF (B T p q : Int) (xs es : List Ent) : Int × Bool × List Ent :=
  if mayLog B T xs = true ∧ inb 0 1099511627776 p = true ∧ inb 0 1099511627775 q = true ∧ runs es p q = true then
    if B + xs.length < mgP B p ∨ ¬ termI B T xs (mgP B p) = mgQ B T p q then (0, true, xs) else mg2 B T xs (mgSkip B T xs (mgCut B p es))
  else (1, false, [])
def MgGot (w w' : World) (B T : Int) (r : Int × Bool × List Ent) (v : Value) : Prop :=
  ∃ (X Y : Int) (A : Option Addr) (m c : Nat), v = .tuple #[.agg #[.int .i64 X, .int .i64 Y, .slice A m c], .bool r.2.1, .int .i64 r.1] ∧
    (r.1 ≠ 0 → X = 0 ∧ Y = 0 ∧ A = none ∧ m = 0 ∧ c = 0) ∧ (r.1 = 0 → X = B ∧ Y = T ∧ m = r.2.2.length ∧ w'.ownsRow w.heap.size 41 3 (.slice A m c) m (entV r.2.2))
theorem mg_bad {w w' : World} {B T : Int} {r : Int × Bool × List Ent} {c : Int} {b : Bool} (h : r = (c, b, [])) (hc : c ≠ 0) : MgGot w w' B T r (.tuple #[.agg #[.int .i64 0, .int .i64 0, .slice none 0 0], .bool b, .int .i64 c]) := by
  subst h
  exact ⟨0, 0, none, 0, 0, rfl, fun _ => ⟨rfl, rfl, rfl, rfl, rfl⟩, fun h => absurd h hc⟩
theorem mg_good {w w' : World} {B T : Int} {r : Int × Bool × List Ent} {b : Bool} {ys : List Ent} {A : Option Addr} {m c : Nat} (h : r = (0, b, ys)) (hm : m = ys.length) (ho : w'.ownsRow w.heap.size 41 3 (.slice A m c) m (entV ys)) : MgGot w w' B T r (.tuple #[.agg #[.int .i64 B, .int .i64 T, .slice A m c], .bool b, .int .i64 0]) := by
  subst h
  exact ⟨B, T, A, m, c, rfl, fun h => absurd rfl h, fun _ => ⟨rfl, rfl, hm, ho⟩⟩
theorem joined_rt (B T i : Int) (k : Nat) (A A' : Option Addr) (n c m d : Nat) (xs ys : List Ent) (w : World) (h : Ents w (.slice A n c) xs) (hu : Ents w (.slice A' m d) ys) (hB0 : 0 ≤ B) (hB1 : B ≤ 4611686018427387904) (hi : i = B + k) (hk : k ≤ xs.length) (hx : xs.length ≤ 400000000000) (hy : ys.length ≤ 400000000000) :
    Rt Tryd.prog 46 [.agg #[.int .i64 B, .int .i64 T, .slice A n c], .int .i64 i, .slice A' m d] w fun v w' => ∃ A2 c2, v = .agg #[.int .i64 B, .int .i64 T, .slice A2 (k + ys.length) c2] ∧ w'.ownsRow w.heap.size 41 3 (.slice A2 (k + ys.length) c2) (k + ys.length) (entV (xs.take k ++ ys)) ∧ From w w' := by
  subst hi
  exact Calls.mono (joined_any B T k _ _ xs ys w h hu hB0 hB1 hk hx hy) fun e w' ⟨v', he, ho, hF⟩ => ⟨_, he, by obtain ⟨A2, c2, rfl⟩ := own_form ho; exact ⟨A2, c2, rfl, ho, hF⟩⟩
theorem range3 {w : World} {b o : Nat} {x y z : Value} (h0 : w.cell? ⟨b, o, none⟩ = some x) (h1 : w.cell? ⟨b, o + 1, none⟩ = some y) (h2 : w.cell? ⟨b, o + 2, none⟩ = some z) : w.rangeAt b o [x, y, z] := fun j v hv => by
  match j, hv with
  | 0, hv => cases hv; exact h0
  | 1, hv => cases hv; exact h1
  | 2, hv => cases hv; exact h2
theorem Ents.head {w : World} {A : Option Addr} {n c : Nat} {e : Ent} {r : List Ent} (h : Ents w (.slice A n c) (e :: r)) : ∃ b o, A = some ⟨b, o, none⟩ ∧ w.rangeAt b o [.int .i64 e.i, .int .i64 e.t, .string e.d] := by
  obtain ⟨A', c', hv, _, _, _, hp⟩ := h
  simp only [Value.slice.injEq] at hv
  obtain ⟨rfl, _, _⟩ := hv
  obtain ⟨b, o, hA, _, hc⟩ := hp (by simp)
  have := hc 0 (by simp)
  simp only [Nat.zero_mul, Nat.add_zero, List.getElem_cons_zero] at this
  exact ⟨b, o, hA, range3 this.1 this.2.1 this.2.2⟩
theorem Ents.len {w : World} {A : Option Addr} {n c : Nat} {xs : List Ent} (h : Ents w (.slice A n c) xs) : n = xs.length ∧ xs.length ≤ c := by
  obtain ⟨A', c', hv, h1, _⟩ := h
  simp only [Value.slice.injEq] at hv
  obtain ⟨_, rfl, rfl⟩ := hv
  exact ⟨rfl, h1⟩
theorem runs_cut {B p q : Int} {es : List Ent} (hB : 0 ≤ B) (h : runs es p q = true) (hq : inb 0 1099511627775 q = true) : ∃ t, runs (mgCut B p es) (mgP B p) t = true := by
  unfold mgCut mgP
  split
  · rename_i hp
    by_cases hl : B - p ≤ es.length
    · have := (runs_drop es (B - p).toNat p q (by omega) h hq).1
      rw [show p + (((B - p).toNat : Nat) : Int) = B by omega] at this
      rw [show min (B - p) (es.length : Int) = B - p by omega]
      exact ⟨_, this⟩
    · rw [show (min (B - p) (es.length : Int)).toNat = es.length by omega, List.drop_length]
      exact ⟨0, rfl⟩
  · exact ⟨q, h⟩
theorem runs_head {e : Ent} {r : List Ent} {p t : Int} (h : runs (e :: r) p t = true) : e.i = p + 1 ∧ runs r (p + 1) e.t = true := by
  simp only [runs, entOk, Bool.and_eq_true, decide_eq_true_eq] at h
  exact ⟨h.1.1.1.1, h.2⟩
theorem lastOf_rt (B T : Int) (A : Option Addr) (n c : Nat) (xs : List Ent) (w : World) (h : Ents w (.slice A n c) xs) (hl : lastI B xs = B + xs.length) :
    Rt Tryd.prog 44 [.agg #[.int .i64 B, .int .i64 T, .slice A n c]] w fun v w' => v = .tuple #[.int .i64 (B + xs.length), .int .i64 (lastT T xs)] ∧ From w w' :=
  Rt.mono (Rt.of (lastOf_any B T _ xs w h)) fun v w' h => ⟨by rw [h.1, hl], h.2⟩
theorem mgSkip_stop {B T : Int} {xs : List Ent} {e : Ent} {r : List Ent} (h : ¬ (e.i ≤ B + xs.length ∧ termI B T xs e.i = e.t)) : mgSkip B T xs (e :: r) = e :: r := by
  unfold mgSkip; rw [if_neg h]
theorem mgSkip_go {B T : Int} {xs : List Ent} {e : Ent} {r : List Ent} (h : e.i ≤ B + xs.length ∧ termI B T xs e.i = e.t) : mgSkip B T xs (e :: r) = mgSkip B T xs r := by
  rw [mgSkip, if_pos h]
set_option maxRecDepth 100000 in
set_option maxHeartbeats 2000000 in
theorem merge_rt (B T p q : Int) (A U : Option Addr) (cA cU : Nat) (xs es : List Ent) (w : World) (h : Ents w (.slice A xs.length cA) xs) (he : Ents w (.slice U es.length cU) es) (hel : es.length ≤ 400000000000) :
    Rt Tryd.prog 39 [.agg #[.int .i64 B, .int .i64 T, .slice A xs.length cA], .int .i64 p, .int .i64 q, .slice U es.length cU] w (fun v w' => MgGot w w' B T (mergeF B T p q xs es) v ∧ From w w') := by
  refine enter (n := 123) Tryd.func39 rfl rfl rfl ?_
  refine cd_seq ?_
  refine cd_region ?_
  refine st_box (v := .agg _) rfl ?_
  intro b4 w1 E4 hb4 hk4
  have hl4 := hk4.lt
  refine st_alloc EntMerge_o72 ?_
  intro b8 w2 E8 hb8 hk8
  replace hk4 := hk4.from_ E8
  have hg8 : w.heap.size ≤ b8 := by rw [hb8]; exact E4.size
  have h48 : b4 < b8 := by omega
  refine st_val (ro_assign (v := .bool _) rfl) ?_
  refine st_val (ro_assign (v := .int _ _) rfl) ?_
  refine st_nil ?_
  refine nx_then ?_
  refine cd_seq ?_
  refine cd_seq ?_
  refine cd_region ?_
  refine st_val (ro_loadA (cs := [_, _, _]) EntMerge_g72 EntMerge_z72 rfl (by first | (first | exact (hk4.from_ From.rfl_).whole | exact (hk4.from_ From.rfl_).rd 0 rfl | exact (hk4.from_ From.rfl_).rd 1 rfl | exact (hk4.from_ From.rfl_).rd 2 rfl))) ?_
  refine st_call EntMerge_k41 (Rt.of (check_any B T _ xs _ (h.from_ ((From.rfl_.next E4).next E8)))) ?_
  rintro v14 w3 ⟨rfl, E14⟩
  refine st_val (ro_neq rfl rfl) ?_
  refine st_val (ro_move (v := .bool _) rfl) ?_
  refine st_split (t := 16) rfl (fun Q4 => ?_) (fun Q4 => ?_)
  · (try first | replace Q4 := bn_t Q4 | replace Q4 := bn_f Q4)
    (try first | replace Q4 := bx_t Q4 | replace Q4 := bx_f Q4 | replace Q4 := be_t Q4 | replace Q4 := be_f Q4 | replace Q4 := of_decide_eq_true Q4 | replace Q4 := of_decide_eq_false Q4)
    have hbad : ¬ (mayLog B T xs = true ∧ inb 0 1099511627776 p = true ∧ inb 0 1099511627775 q = true ∧ runs es p q = true) := fun h0 => Q4 (by unfold chk; rw [if_pos h0.1])
    refine st_gno rfl rfl ?_
    refine st_gno rfl rfl ?_
    refine st_gno rfl rfl ?_
    refine st_gno rfl rfl ?_
    refine st_val (ro_pickT (v := .bool _) rfl rfl) ?_
    refine st_val (ro_move (v := .bool _) rfl) ?_
    refine st_gno rfl rfl ?_
    refine st_gno rfl rfl ?_
    refine st_gno rfl rfl ?_
    refine st_gno rfl rfl ?_
    refine st_val (ro_pickT (v := .bool _) rfl rfl) ?_
    refine st_val (ro_move (v := .bool _) rfl) ?_
    refine st_gno rfl rfl ?_
    refine st_gno rfl rfl ?_
    refine st_gno rfl rfl ?_
    refine st_gno rfl rfl ?_
    refine st_gno rfl rfl ?_
    refine st_val (ro_pickT (v := .bool _) rfl rfl) ?_
    refine st_nil ?_
    refine nx_then ?_
    refine cd_condT rfl ?_
    refine cd_seq ?_
    refine cd_region ?_
    refine st_val (ro_build (l := []) (EntMerge_b72_)) ?_
    refine st_putW (vs := [_, _, _]) EntMerge_z72 rfl rfl (by simp [Value.oneCell']) (hk8.from_ (From.rfl_.next E14)) rfl ?_
    intro w5 O2 P2
    refine st_val (ro_assign (v := .bool _) rfl) ?_
    refine st_val (ro_assign (v := .int _ _) rfl) ?_
    refine st_nil ?_
    refine nx_then ?_
    refine cd_ret ?_
    refine rt_then ?_
    refine resr3 rfl (rv_cellA (cs := [_, _, _]) EntMerge_g72 EntMerge_z72 rfl (by first | exact P2.whole | exact P8.whole | exact P14.whole | exact P17.whole | exact P18.whole)) (rv_tmp (v := .bool _) rfl) (rv_tmp (v := .int _ _) rfl) ?_
    exact ⟨mg_bad (by unfold mergeF; rw [if_neg hbad]) (by decide), ((((From.rfl_.next E4).next E8).next E14).only O2 (hg8))⟩
  · (try first | replace Q4 := bn_t Q4 | replace Q4 := bn_f Q4)
    (try first | replace Q4 := bx_t Q4 | replace Q4 := bx_f Q4 | replace Q4 := be_t Q4 | replace Q4 := be_f Q4 | replace Q4 := of_decide_eq_true Q4 | replace Q4 := of_decide_eq_false Q4)
    have hm : mayLog B T xs = true := by
      cases hm : mayLog B T xs with
      | true => rfl
      | false => unfold chk at Q4; rw [hm] at Q4; cases Q4
    obtain ⟨hl, hB0, hB1, hx⟩ := may_last hm
    refine st_unguard rfl ?_
    refine st_val (ro_move (v := .int _ _) rfl) ?_
    refine st_unguard rfl ?_
    refine st_lit1 (v := .int _ _) EntMerge_q64 rfl rfl rfl ?_
    intro b18 w6 E18 hb18 hk18
    refine st_unguard rfl ?_
    refine st_call EntMerge_k42 (within_rt _ _ _ _ _ hk18) ?_
    rintro v19 w7 ⟨rfl, E19⟩
    refine st_unguard rfl ?_
    refine st_val (ro_not rfl) ?_
    refine st_val (ro_pickF (v := .bool _) rfl rfl) ?_
    refine st_val (ro_move (v := .bool _) rfl) ?_
    refine st_split (t := 22) rfl (fun Q8 => ?_) (fun Q8 => ?_)
    · (try first | replace Q8 := bn_t Q8 | replace Q8 := bn_f Q8)
      (try first | replace Q8 := bx_t Q8 | replace Q8 := bx_f Q8 | replace Q8 := be_t Q8 | replace Q8 := be_f Q8 | replace Q8 := of_decide_eq_true Q8 | replace Q8 := of_decide_eq_false Q8)
      have hbad : ¬ (mayLog B T xs = true ∧ inb 0 1099511627776 p = true ∧ inb 0 1099511627775 q = true ∧ runs es p q = true) := fun h0 => by rw [h0.2.1] at Q8; cases Q8
      refine st_gno rfl rfl ?_
      refine st_gno rfl rfl ?_
      refine st_gno rfl rfl ?_
      refine st_gno rfl rfl ?_
      refine st_val (ro_pickT (v := .bool _) rfl rfl) ?_
      refine st_val (ro_move (v := .bool _) rfl) ?_
      refine st_gno rfl rfl ?_
      refine st_gno rfl rfl ?_
      refine st_gno rfl rfl ?_
      refine st_gno rfl rfl ?_
      refine st_gno rfl rfl ?_
      refine st_val (ro_pickT (v := .bool _) rfl rfl) ?_
      refine st_nil ?_
      refine nx_then ?_
      refine cd_condT rfl ?_
      refine cd_seq ?_
      refine cd_region ?_
      refine st_val (ro_build (l := []) (EntMerge_b72_)) ?_
      refine st_putW (vs := [_, _, _]) EntMerge_z72 rfl rfl (by simp [Value.oneCell']) (hk8.from_ (((From.rfl_.next E14).next E18).next E19)) rfl ?_
      intro w9 O2 P2
      refine st_val (ro_assign (v := .bool _) rfl) ?_
      refine st_val (ro_assign (v := .int _ _) rfl) ?_
      refine st_nil ?_
      refine nx_then ?_
      refine cd_ret ?_
      refine rt_then ?_
      refine resr3 rfl (rv_cellA (cs := [_, _, _]) EntMerge_g72 EntMerge_z72 rfl (by first | exact P2.whole | exact P8.whole | exact P14.whole | exact P17.whole | exact P18.whole)) (rv_tmp (v := .bool _) rfl) (rv_tmp (v := .int _ _) rfl) ?_
      exact ⟨mg_bad (by unfold mergeF; rw [if_neg hbad]) (by decide), ((((((From.rfl_.next E4).next E8).next E14).next E18).next E19).only O2 (hg8))⟩
    · (try first | replace Q8 := bn_t Q8 | replace Q8 := bn_f Q8)
      (try first | replace Q8 := bx_t Q8 | replace Q8 := bx_f Q8 | replace Q8 := be_t Q8 | replace Q8 := be_f Q8 | replace Q8 := of_decide_eq_true Q8 | replace Q8 := of_decide_eq_false Q8)
      have hPv := Q8
      have hpb := inb_true Q8
      refine st_unguard rfl ?_
      refine st_val (ro_move (v := .int _ _) rfl) ?_
      refine st_unguard rfl ?_
      refine st_lit1 (v := .int _ _) EntMerge_q64 rfl rfl rfl ?_
      intro b24 w10 E24 hb24 hk24
      refine st_unguard rfl ?_
      refine st_call EntMerge_k42 (within_rt _ _ _ _ _ hk24) ?_
      rintro v25 w11 ⟨rfl, E25⟩
      refine st_unguard rfl ?_
      refine st_val (ro_not rfl) ?_
      refine st_val (ro_pickF (v := .bool _) rfl rfl) ?_
      refine st_val (ro_move (v := .bool _) rfl) ?_
      refine st_split (t := 28) rfl (fun Q12 => ?_) (fun Q12 => ?_)
      · (try first | replace Q12 := bn_t Q12 | replace Q12 := bn_f Q12)
        (try first | replace Q12 := bx_t Q12 | replace Q12 := bx_f Q12 | replace Q12 := be_t Q12 | replace Q12 := be_f Q12 | replace Q12 := of_decide_eq_true Q12 | replace Q12 := of_decide_eq_false Q12)
        have hbad : ¬ (mayLog B T xs = true ∧ inb 0 1099511627776 p = true ∧ inb 0 1099511627775 q = true ∧ runs es p q = true) := fun h0 => by rw [h0.2.2.1] at Q12; cases Q12
        refine st_gno rfl rfl ?_
        refine st_gno rfl rfl ?_
        refine st_gno rfl rfl ?_
        refine st_gno rfl rfl ?_
        refine st_gno rfl rfl ?_
        refine st_val (ro_pickT (v := .bool _) rfl rfl) ?_
        refine st_nil ?_
        refine nx_then ?_
        refine cd_condT rfl ?_
        refine cd_seq ?_
        refine cd_region ?_
        refine st_val (ro_build (l := []) (EntMerge_b72_)) ?_
        refine st_putW (vs := [_, _, _]) EntMerge_z72 rfl rfl (by simp [Value.oneCell']) (hk8.from_ (((((From.rfl_.next E14).next E18).next E19).next E24).next E25)) rfl ?_
        intro w13 O2 P2
        refine st_val (ro_assign (v := .bool _) rfl) ?_
        refine st_val (ro_assign (v := .int _ _) rfl) ?_
        refine st_nil ?_
        refine nx_then ?_
        refine cd_ret ?_
        refine rt_then ?_
        refine resr3 rfl (rv_cellA (cs := [_, _, _]) EntMerge_g72 EntMerge_z72 rfl (by first | exact P2.whole | exact P8.whole | exact P14.whole | exact P17.whole | exact P18.whole)) (rv_tmp (v := .bool _) rfl) (rv_tmp (v := .int _ _) rfl) ?_
        exact ⟨mg_bad (by unfold mergeF; rw [if_neg hbad]) (by decide), ((((((((From.rfl_.next E4).next E8).next E14).next E18).next E19).next E24).next E25).only O2 (hg8))⟩
      · (try first | replace Q12 := bn_t Q12 | replace Q12 := bn_f Q12)
        (try first | replace Q12 := bx_t Q12 | replace Q12 := bx_f Q12 | replace Q12 := be_t Q12 | replace Q12 := be_f Q12 | replace Q12 := of_decide_eq_true Q12 | replace Q12 := of_decide_eq_false Q12)
        have hQv := Q12
        have hqb := inb_true Q12
        refine st_unguard rfl ?_
        refine st_val (ro_move (v := .int _ _) rfl) ?_
        refine st_unguard rfl ?_
        refine st_val (ro_move (v := .int _ _) rfl) ?_
        refine st_unguard rfl ?_
        refine st_val (ro_move (v := .slice _ _ _) rfl) ?_
        refine st_unguard rfl ?_
        refine st_call EntMerge_k43 (Rt.of (follow_any p q _ es _ (he.from_ (((((((From.rfl_.next E4).next E8).next E14).next E18).next E19).next E24).next E25)) (by omega) (by omega) (by omega) (by omega))) ?_
        rintro v32 w14 ⟨rfl, E32⟩
        refine st_unguard rfl ?_
        refine st_val (ro_not rfl) ?_
        refine st_val (ro_pickF (v := .bool _) rfl rfl) ?_
        refine st_nil ?_
        refine nx_then ?_
        refine cd_cond rfl (fun Q15 => ?_) (fun Q15 => ?_)
        · (try first | replace Q15 := bn_t Q15 | replace Q15 := bn_f Q15)
          (try first | replace Q15 := bx_t Q15 | replace Q15 := bx_f Q15 | replace Q15 := be_t Q15 | replace Q15 := be_f Q15 | replace Q15 := of_decide_eq_true Q15 | replace Q15 := of_decide_eq_false Q15)
          have hbad : ¬ (mayLog B T xs = true ∧ inb 0 1099511627776 p = true ∧ inb 0 1099511627775 q = true ∧ runs es p q = true) := fun h0 => by rw [h0.2.2.2] at Q15; cases Q15
          refine cd_seq ?_
          refine cd_region ?_
          refine st_val (ro_build (l := []) (EntMerge_b72_)) ?_
          refine st_putW (vs := [_, _, _]) EntMerge_z72 rfl rfl (by simp [Value.oneCell']) (hk8.from_ ((((((From.rfl_.next E14).next E18).next E19).next E24).next E25).next E32)) rfl ?_
          intro w16 O2 P2
          refine st_val (ro_assign (v := .bool _) rfl) ?_
          refine st_val (ro_assign (v := .int _ _) rfl) ?_
          refine st_nil ?_
          refine nx_then ?_
          refine cd_ret ?_
          refine rt_then ?_
          refine resr3 rfl (rv_cellA (cs := [_, _, _]) EntMerge_g72 EntMerge_z72 rfl (by first | exact P2.whole | exact P8.whole | exact P14.whole | exact P17.whole | exact P18.whole)) (rv_tmp (v := .bool _) rfl) (rv_tmp (v := .int _ _) rfl) ?_
          exact ⟨mg_bad (by unfold mergeF; rw [if_neg hbad]) (by decide), (((((((((From.rfl_.next E4).next E8).next E14).next E18).next E19).next E24).next E25).next E32).only O2 (hg8))⟩
        · (try first | replace Q15 := bn_t Q15 | replace Q15 := bn_f Q15)
          (try first | replace Q15 := bx_t Q15 | replace Q15 := bx_f Q15 | replace Q15 := be_t Q15 | replace Q15 := be_f Q15 | replace Q15 := of_decide_eq_true Q15 | replace Q15 := of_decide_eq_false Q15)
          have hR := Q15
          refine cd_skip ?_
          refine nx_then ?_
          refine cd_cut (G := Int × Int × List Ent × Option Addr × Nat × Nat) [36, 37, 38, 39, 40, 41, 42, 43, 44, 45, 46, 47, 48, 49, 50, 51, 52] (fun (P, Q, ys, A3, n3, c3) => [(1, .int .i64 P), (2, .int .i64 Q), (3, .slice A3 n3 c3)]) (fun (P, Q, ys, A3, n3, c3) w' => P = mgP B p ∧ Q = mgQ B T p q ∧ ys = mgCut B p es ∧ n3 = ys.length ∧ Ents w' (.slice A3 n3 c3) ys ∧ Blk w' b4 72 #[.int .i64 B, .int .i64 T, .slice A xs.length cA] ∧ Blk w' b8 72 #[.int .i64 0, .int .i64 0, .slice none 0 0] ∧ From w w') ?_ ?_
          · refine cd_seq ?_
            refine cd_region ?_
            refine st_val (ro_move (v := .int _ _) rfl) ?_
            refine st_val (ro_fieldAddr EntMerge_f72_0 rfl) ?_
            refine st_val (ro_load EntMerge_g3 rfl (by first | (first | exact (hk4.from_ ((((((From.rfl_.next E14).next E18).next E19).next E24).next E25).next E32)).whole | exact (hk4.from_ ((((((From.rfl_.next E14).next E18).next E19).next E24).next E25).next E32)).rd 0 rfl | exact (hk4.from_ ((((((From.rfl_.next E14).next E18).next E19).next E24).next E25).next E32)).rd 1 rfl | exact (hk4.from_ ((((((From.rfl_.next E14).next E18).next E19).next E24).next E25).next E32)).rd 2 rfl))) ?_
            refine st_val (ro_lss rfl rfl) ?_
            refine st_nil ?_
            refine nx_then ?_
            refine cd_cond rfl (fun Q17 => ?_) (fun Q17 => ?_)
            · (try first | replace Q17 := bn_t Q17 | replace Q17 := bn_f Q17)
              (try first | replace Q17 := bx_t Q17 | replace Q17 := bx_f Q17 | replace Q17 := be_t Q17 | replace Q17 := be_f Q17 | replace Q17 := of_decide_eq_true Q17 | replace Q17 := of_decide_eq_false Q17)
              have hlt := Q17
              refine cd_seq ?_
              refine cd_region ?_
              refine st_val (ro_move (v := .slice _ _ _) rfl) ?_
              refine st_val (ro_fieldAddr EntMerge_f72_0 rfl) ?_
              refine st_val (ro_load EntMerge_g3 rfl (by first | (first | exact (hk4.from_ ((((((From.rfl_.next E14).next E18).next E19).next E24).next E25).next E32)).whole | exact (hk4.from_ ((((((From.rfl_.next E14).next E18).next E19).next E24).next E25).next E32)).rd 0 rfl | exact (hk4.from_ ((((((From.rfl_.next E14).next E18).next E19).next E24).next E25).next E32)).rd 1 rfl | exact (hk4.from_ ((((((From.rfl_.next E14).next E18).next E19).next E24).next E25).next E32)).rd 2 rfl))) ?_
              refine st_val (ro_move (v := .int _ _) rfl) ?_
              refine st_val (ro_sub64 rfl rfl (by omega)) ?_
              refine st_val (ro_move (v := .slice _ _ _) rfl) ?_
              refine st_val (ro_len EntMerge_l25 rfl) ?_
              refine st_val (ro_min rfl rfl) ?_
              refine st_val (ro_sliceO (l := (min (B - p) es.length).toNat) EntMerge_e23 rfl (.inr ⟨_, _, _, rfl, rfl, (by omega)⟩) (.inl ⟨rfl, rfl⟩) (by omega) (by have := he.len; omega)) ?_
              refine st_val (ro_assign (v := .slice _ _ _) rfl) ?_
              refine st_nil ?_
              refine nx_then ?_
              apply cd_drawn 6 [(49, eqp _), (50, eqp _), (51, eqp _), (52, eqp _), (1, eqp _), (2, eqp _)] (by kernel_rfl) (by kernel_rfl) ⟨eqp_mono _, eqp_mono _, eqp_mono _, eqp_mono _, eqp_mono _, eqp_mono _, trivial⟩
              case hop =>
               refine ⟨?_, ?_⟩
               · intro w19 D19
                 show OpOK _ _ _ _ _ _ _
                 exact ok_pure (ro_fieldAddr EntMerge_f72_0 rfl) rfl
               refine ⟨?_, ?_⟩
               · intro w20 D20
                 rintro _ rfl
                 show OpOK _ _ _ _ _ _ _
                 exact ok_pure (ro_load EntMerge_g3 rfl (by first | (first | exact (hk4.from_ (((((((From.rfl_.next E14).next E18).next E19).next E24).next E25).next E32).next D20)).whole | exact (hk4.from_ (((((((From.rfl_.next E14).next E18).next E19).next E24).next E25).next E32).next D20)).rd 0 rfl | exact (hk4.from_ (((((((From.rfl_.next E14).next E18).next E19).next E24).next E25).next E32).next D20)).rd 1 rfl | exact (hk4.from_ (((((((From.rfl_.next E14).next E18).next E19).next E24).next E25).next E32).next D20)).rd 2 rfl))) rfl
               refine ⟨?_, ?_⟩
               · intro w21 D21
                 show OpOK _ _ _ _ _ _ _
                 exact ok_pure (ro_fieldAddr EntMerge_f72_1 rfl) rfl
               refine ⟨?_, ?_⟩
               · intro w22 D22
                 rintro _ rfl
                 show OpOK _ _ _ _ _ _ _
                 exact ok_pure (ro_load EntMerge_g3 rfl (by first | (first | exact (hk4.from_ (((((((From.rfl_.next E14).next E18).next E19).next E24).next E25).next E32).next D22)).whole | exact (hk4.from_ (((((((From.rfl_.next E14).next E18).next E19).next E24).next E25).next E32).next D22)).rd 0 rfl | exact (hk4.from_ (((((((From.rfl_.next E14).next E18).next E19).next E24).next E25).next E32).next D22)).rd 1 rfl | exact (hk4.from_ (((((((From.rfl_.next E14).next E18).next E19).next E24).next E25).next E32).next D22)).rd 2 rfl))) rfl
               refine ⟨?_, ?_⟩
               · intro w23 D23
                 rintro _ rfl
                 show OpOK _ _ _ _ _ _ _
                 exact ok_pure (ro_assign (v := .int _ _) rfl) rfl
               refine ⟨?_, ?_⟩
               · intro w24 D24
                 rintro _ rfl
                 show OpOK _ _ _ _ _ _ _
                 exact ok_pure (ro_assign (v := .int _ _) rfl) rfl
               exact trivial
              case hend =>
               intro w25 D25
               rintro _ rfl _ rfl _ rfl _ rfl _ rfl _ rfl
               show St _ _ _ _ _ _ _
               refine st_nil ?_
               refine nx_cut ((_, _, mgCut B p es, _, _, _)) ⟨rfl, rfl, rfl, trivial⟩ (by (iterate 20 refine agr_cons rfl ?_); exact agr_rfl) ?_
               first
                 | exact ⟨by unfold mgP; rw [if_pos hlt], by unfold mgQ; rw [if_pos hlt], rfl, by unfold mgCut; rw [if_pos hlt, List.length_drop], by unfold mgCut; rw [if_pos hlt]; exact (he.from_ (((((((((From.rfl_.next E4).next E8).next E14).next E18).next E19).next E24).next E25).next E32).next D25)).restA (by omega), hk4.from_ (((((((From.rfl_.next E14).next E18).next E19).next E24).next E25).next E32).next D25), hk8.from_ (((((((From.rfl_.next E14).next E18).next E19).next E24).next E25).next E32).next D25), (((((((((From.rfl_.next E4).next E8).next E14).next E18).next E19).next E24).next E25).next E32).next D25)⟩
                 | exact ⟨by unfold mgP; rw [if_neg hlt], by unfold mgQ; rw [if_neg hlt], rfl, by unfold mgCut; rw [if_neg hlt], by unfold mgCut; rw [if_neg hlt]; exact he.from_ (((((((((From.rfl_.next E4).next E8).next E14).next E18).next E19).next E24).next E25).next E32).next D25), hk4.from_ (((((((From.rfl_.next E14).next E18).next E19).next E24).next E25).next E32).next D25), hk8.from_ (((((((From.rfl_.next E14).next E18).next E19).next E24).next E25).next E32).next D25), (((((((((From.rfl_.next E4).next E8).next E14).next E18).next E19).next E24).next E25).next E32).next D25)⟩
            · (try first | replace Q17 := bn_t Q17 | replace Q17 := bn_f Q17)
              (try first | replace Q17 := bx_t Q17 | replace Q17 := bx_f Q17 | replace Q17 := be_t Q17 | replace Q17 := be_f Q17 | replace Q17 := of_decide_eq_true Q17 | replace Q17 := of_decide_eq_false Q17)
              have hlt := Q17
              refine cd_skip ?_
              refine nx_cut ((_, _, mgCut B p es, _, _, _)) ⟨rfl, rfl, rfl, trivial⟩ (by (iterate 4 refine agr_cons rfl ?_); exact agr_rfl) ?_
              first
                | exact ⟨by unfold mgP; rw [if_pos hlt], by unfold mgQ; rw [if_pos hlt], rfl, by unfold mgCut; rw [if_pos hlt, List.length_drop], by unfold mgCut; rw [if_pos hlt]; exact (he.from_ ((((((((From.rfl_.next E4).next E8).next E14).next E18).next E19).next E24).next E25).next E32)).restA (by omega), hk4.from_ ((((((From.rfl_.next E14).next E18).next E19).next E24).next E25).next E32), hk8.from_ ((((((From.rfl_.next E14).next E18).next E19).next E24).next E25).next E32), ((((((((From.rfl_.next E4).next E8).next E14).next E18).next E19).next E24).next E25).next E32)⟩
                | exact ⟨by unfold mgP; rw [if_neg hlt], by unfold mgQ; rw [if_neg hlt], rfl, by unfold mgCut; rw [if_neg hlt], by unfold mgCut; rw [if_neg hlt]; exact he.from_ ((((((((From.rfl_.next E4).next E8).next E14).next E18).next E19).next E24).next E25).next E32), hk4.from_ ((((((From.rfl_.next E14).next E18).next E19).next E24).next E25).next E32), hk8.from_ ((((((From.rfl_.next E14).next E18).next E19).next E24).next E25).next E32), ((((((((From.rfl_.next E4).next E8).next E14).next E18).next E19).next E24).next E25).next E32)⟩
          · rintro ⟨P, Q, ys, A3, n3, c3⟩ ρ26 w26 ⟨hP6, hQ6, hys6, rfl, hes, hk4, hk8, hB⟩
            have hPB : B ≤ P := by rw [hP6]; unfold mgP; split <;> omega
            obtain ⟨t6, hrun6⟩ : ∃ t, runs ys P t = true := by rw [hP6, hys6]; exact runs_cut hB0 hR hQv
            have hy6 : ys.length ≤ es.length := by rw [hys6]; unfold mgCut; split <;> simp
            refine cd_seq ?_
            refine cd_region ?_
            refine st_val (ro_loadA (cs := [_, _, _]) EntMerge_g72 EntMerge_z72 rfl (by first | (first | exact (hk4.from_ From.rfl_).whole | exact (hk4.from_ From.rfl_).rd 0 rfl | exact (hk4.from_ From.rfl_).rd 1 rfl | exact (hk4.from_ From.rfl_).rd 2 rfl))) ?_
            refine st_call EntMerge_k44 (lastOf_rt B T A _ cA xs _ (h.from_ hB) hl) ?_
            rintro v55 w27 ⟨rfl, E55⟩
            refine st_val (ro_move (v := .tuple _) rfl) ?_
            refine st_val (ro_extract rfl rfl) ?_
            refine st_val (ro_extract rfl rfl) ?_
            refine st_val (ro_assign (v := .int _ _) rfl) ?_
            refine st_val (ro_assign (v := .int _ _) rfl) ?_
            refine st_nil ?_
            refine nx_then ?_
            refine cd_seq ?_
            refine cd_seq ?_
            refine cd_region ?_
            refine st_val (ro_move (v := .int _ _) rfl) ?_
            refine st_val (ro_move (v := .int _ _) rfl) ?_
            refine st_val (ro_gtr rfl rfl) ?_
            refine st_val (ro_move (v := .bool _) rfl) ?_
            refine st_split (t := 61) rfl (fun Q28 => ?_) (fun Q28 => ?_)
            · (try first | replace Q28 := bn_t Q28 | replace Q28 := bn_f Q28)
              (try first | replace Q28 := bx_t Q28 | replace Q28 := bx_f Q28 | replace Q28 := be_t Q28 | replace Q28 := be_f Q28 | replace Q28 := of_decide_eq_true Q28 | replace Q28 := of_decide_eq_false Q28)
              have hms : B + (xs.length : Int) < mgP B p ∨ ¬ termI B T xs (mgP B p) = mgQ B T p q := .inl (by rw [← hP6]; exact Q28)
              refine st_gno rfl rfl ?_
              refine st_gno rfl rfl ?_
              refine st_gno rfl rfl ?_
              refine st_gno rfl rfl ?_
              refine st_gno rfl rfl ?_
              refine st_val (ro_pickT (v := .bool _) rfl rfl) ?_
              refine st_nil ?_
              refine nx_then ?_
              refine cd_condT rfl ?_
              refine cd_seq ?_
              refine cd_region ?_
              refine st_val (ro_loadA (cs := [_, _, _]) EntMerge_g72 EntMerge_z72 rfl (by first | (first | exact (hk4.from_ (From.rfl_.next E55)).whole | exact (hk4.from_ (From.rfl_.next E55)).rd 0 rfl | exact (hk4.from_ (From.rfl_.next E55)).rd 1 rfl | exact (hk4.from_ (From.rfl_.next E55)).rd 2 rfl))) ?_
              refine st_val (ro_move (v := .int _ _) rfl) ?_
              have hb70 := (hk8.from_ (From.rfl_.next E55)).lt
              refine st_call EntMerge_k46 (joined_rt B T _ xs.length A none _ cA 0 0 xs [] _ (h.from_ (hB.next E55)) (Ents.nil_ _) hB0 (by omega) rfl (Nat.le_refl _) (by omega) (by simp)) ?_
              rintro v70 w29 ⟨A70, c70, rfl, ho70, E70⟩
              refine st_putW (vs := [_, _, _]) EntMerge_z72 rfl rfl (by simp [Value.oneCell']) (hk8.from_ ((From.rfl_.next E55).next E70)) rfl ?_
              intro w30 O8 P8
              refine st_val (ro_assign (v := .bool _) rfl) ?_
              refine st_val (ro_assign (v := .int _ _) rfl) ?_
              refine st_nil ?_
              refine nx_then ?_
              refine cd_ret ?_
              refine rt_then ?_
              refine resr3 rfl (rv_cellA (cs := [_, _, _]) EntMerge_g72 EntMerge_z72 rfl (by first | exact P2.whole | exact P8.whole | exact P14.whole | exact P17.whole | exact P18.whole)) (rv_tmp (v := .bool _) rfl) (rv_tmp (v := .int _ _) rfl) ?_
              refine ⟨mg_good (ys := xs.take xs.length ++ []) (by unfold mergeF; rw [if_pos ⟨hm, hPv, hQv, hR⟩, if_pos hms]; simp) (by simp) (ownsRow_le (own_only ho70 O8 hb70) (by omega)), (((hB.next E55).next E70).only O8 (hg8))⟩
            · (try first | replace Q28 := bn_t Q28 | replace Q28 := bn_f Q28)
              (try first | replace Q28 := bx_t Q28 | replace Q28 := bx_f Q28 | replace Q28 := be_t Q28 | replace Q28 := be_f Q28 | replace Q28 := of_decide_eq_true Q28 | replace Q28 := of_decide_eq_false Q28)
              have hPL : P ≤ B + (xs.length : Int) := by omega
              refine st_unguard rfl ?_
              refine st_val (ro_loadA (cs := [_, _, _]) EntMerge_g72 EntMerge_z72 rfl (by first | (first | exact (hk4.from_ (From.rfl_.next E55)).whole | exact (hk4.from_ (From.rfl_.next E55)).rd 0 rfl | exact (hk4.from_ (From.rfl_.next E55)).rd 1 rfl | exact (hk4.from_ (From.rfl_.next E55)).rd 2 rfl))) ?_
              refine st_unguard rfl ?_
              refine st_val (ro_move (v := .int _ _) rfl) ?_
              refine st_unguard rfl ?_
              refine st_call EntMerge_k45 (Rt.of (termAt_any B T P _ xs _ (h.from_ (hB.next E55)) hB0 (by omega) hPB (by omega) (by omega))) ?_
              rintro v64 w31 ⟨rfl, E64⟩
              refine st_unguard rfl ?_
              refine st_val (ro_move (v := .int _ _) rfl) ?_
              refine st_unguard rfl ?_
              refine st_val (ro_neq rfl rfl) ?_
              refine st_val (ro_pickF (v := .bool _) rfl rfl) ?_
              refine st_nil ?_
              refine nx_then ?_
              refine cd_cond rfl (fun Q32 => ?_) (fun Q32 => ?_)
              · (try first | replace Q32 := bn_t Q32 | replace Q32 := bn_f Q32)
                (try first | replace Q32 := bx_t Q32 | replace Q32 := bx_f Q32 | replace Q32 := be_t Q32 | replace Q32 := be_f Q32 | replace Q32 := of_decide_eq_true Q32 | replace Q32 := of_decide_eq_false Q32)
                have hms : B + (xs.length : Int) < mgP B p ∨ ¬ termI B T xs (mgP B p) = mgQ B T p q := .inr (by rw [← hP6, ← hQ6]; exact Q32)
                refine cd_seq ?_
                refine cd_region ?_
                refine st_val (ro_loadA (cs := [_, _, _]) EntMerge_g72 EntMerge_z72 rfl (by first | (first | exact (hk4.from_ ((From.rfl_.next E55).next E64)).whole | exact (hk4.from_ ((From.rfl_.next E55).next E64)).rd 0 rfl | exact (hk4.from_ ((From.rfl_.next E55).next E64)).rd 1 rfl | exact (hk4.from_ ((From.rfl_.next E55).next E64)).rd 2 rfl))) ?_
                refine st_val (ro_move (v := .int _ _) rfl) ?_
                have hb70 := (hk8.from_ ((From.rfl_.next E55).next E64)).lt
                refine st_call EntMerge_k46 (joined_rt B T _ xs.length A none _ cA 0 0 xs [] _ (h.from_ ((hB.next E55).next E64)) (Ents.nil_ _) hB0 (by omega) rfl (Nat.le_refl _) (by omega) (by simp)) ?_
                rintro v70 w33 ⟨A70, c70, rfl, ho70, E70⟩
                refine st_putW (vs := [_, _, _]) EntMerge_z72 rfl rfl (by simp [Value.oneCell']) (hk8.from_ (((From.rfl_.next E55).next E64).next E70)) rfl ?_
                intro w34 O8 P8
                refine st_val (ro_assign (v := .bool _) rfl) ?_
                refine st_val (ro_assign (v := .int _ _) rfl) ?_
                refine st_nil ?_
                refine nx_then ?_
                refine cd_ret ?_
                refine rt_then ?_
                refine resr3 rfl (rv_cellA (cs := [_, _, _]) EntMerge_g72 EntMerge_z72 rfl (by first | exact P2.whole | exact P8.whole | exact P14.whole | exact P17.whole | exact P18.whole)) (rv_tmp (v := .bool _) rfl) (rv_tmp (v := .int _ _) rfl) ?_
                refine ⟨mg_good (ys := xs.take xs.length ++ []) (by unfold mergeF; rw [if_pos ⟨hm, hPv, hQv, hR⟩, if_pos hms]; simp) (by simp) (ownsRow_le (own_only ho70 O8 hb70) (by omega)), ((((hB.next E55).next E64).next E70).only O8 (hg8))⟩
              · (try first | replace Q32 := bn_t Q32 | replace Q32 := bn_f Q32)
                (try first | replace Q32 := bx_t Q32 | replace Q32 := bx_f Q32 | replace Q32 := be_t Q32 | replace Q32 := be_f Q32 | replace Q32 := of_decide_eq_true Q32 | replace Q32 := of_decide_eq_false Q32)
                have hnm : ¬ (B + (xs.length : Int) < mgP B p ∨ ¬ termI B T xs (mgP B p) = mgQ B T p q) := by rw [← hP6, ← hQ6]; exact fun h0 => h0.elim (fun h1 => by omega) (fun h1 => h1 Q32)
                refine cd_skip ?_
                refine nx_then ?_
                refine cd_cut (G := List Ent × Option Addr × Nat) [71, 72, 73, 74, 75, 76, 77, 78, 79, 80, 81, 82, 83, 84, 85, 86, 87, 88, 89, 90, 91, 92, 93, 94, 95, 96] (fun (ys, A4, c4) => [(3, .slice A4 ys.length c4)]) (fun (ys, A4, c4) w' => Ents w' (.slice A4 ys.length c4) ys ∧ ys = mgSkip B T xs (mgCut B p es) ∧ (∀ e r, ys = e :: r → B + 1 ≤ e.i ∧ e.i ≤ B + xs.length + 1) ∧ ys.length ≤ es.length ∧ Blk w' b4 72 #[.int .i64 B, .int .i64 T, .slice A xs.length cA] ∧ Blk w' b8 72 #[.int .i64 0, .int .i64 0, .slice none 0 0] ∧ From w w') ?_ ?_
                · refine cd_block ?_
                  refine cd_loop (G := List Ent × Option Addr × Nat × Int × Int) [71, 72, 73, 74, 75, 76, 77, 78, 79, 80, 81, 82, 83, 84, 85, 86, 87, 88, 89, 90, 91, 92, 93, 94, 95, 96] (fun (zs, A4, c4, p', t') => [(3, .slice A4 zs.length c4)]) (fun (zs, A4, c4, p', t') w' => Ents w' (.slice A4 zs.length c4) zs ∧ mgSkip B T xs zs = mgSkip B T xs ys ∧ runs zs p' t' = true ∧ B ≤ p' ∧ p' ≤ B + xs.length ∧ zs.length ≤ es.length ∧ Blk w' b4 72 #[.int .i64 B, .int .i64 T, .slice A xs.length cA] ∧ Blk w' b8 72 #[.int .i64 0, .int .i64 0, .slice none 0 0] ∧ From w w') (fun (zs, A4, c4, p', t') => zs.length) ((ys, A3, c3, P, t6)) ⟨rfl, trivial⟩ ?_ ?_
                  · exact ⟨hes.from_ ((From.rfl_.next E55).next E64), rfl, hrun6, hPB, hPL, hy6, hk4.from_ ((From.rfl_.next E55).next E64), hk8.from_ ((From.rfl_.next E55).next E64), ((hB.next E55).next E64)⟩
                  rintro ⟨zs, A4, c4, p', t'⟩ ρ35 w35 ⟨hzs, hsk, hrun, hpB, hpL, hzl, hk4, hk8, hB⟩
                  refine cd_seq ?_
                  refine cd_seq ?_
                  have hcases : zs = [] ∨ (∃ e r, zs = e :: r ∧ ¬ e.i ≤ B + xs.length) ∨ (∃ e r, zs = e :: r ∧ e.i ≤ B + xs.length) := by
                    cases zs with
                    | nil => exact .inl rfl
                    | cons e r => by_cases h1 : e.i ≤ B + xs.length
                                  · exact .inr (.inr ⟨e, r, rfl, h1⟩)
                                  · exact .inr (.inl ⟨e, r, rfl, h1⟩)
                  rcases hcases with rfl | ⟨e, r, rfl, h1⟩ | ⟨e, r, rfl, h1⟩
                  · have hfin := hsk.trans (congrArg _ hys6)
                    apply cd_drawn 24 [(71, eqp _), (72, eqp _), (73, eqp _), (74, eqp _), (75, eqp _), (76, eqp _), (77, eqp _), (78, eqp _), (79, eqp _), (80, eqp _), (81, eqp _), (82, eqp _), (83, eqp _), (84, eqp _), (85, eqp _), (86, eqp _), (87, eqp _), (88, eqp _), (89, eqp _), (90, eqp _), (91, eqp _), (92, eqp _), (93, eqp _), (94, eqp _)] (by kernel_rfl) (by kernel_rfl) ⟨eqp_mono _, eqp_mono _, eqp_mono _, eqp_mono _, eqp_mono _, eqp_mono _, eqp_mono _, eqp_mono _, eqp_mono _, eqp_mono _, eqp_mono _, eqp_mono _, eqp_mono _, eqp_mono _, eqp_mono _, eqp_mono _, eqp_mono _, eqp_mono _, eqp_mono _, eqp_mono _, eqp_mono _, eqp_mono _, eqp_mono _, eqp_mono _, trivial⟩
                    case hop =>
                     refine ⟨?_, ?_⟩
                     · intro w37 D37
                       show OpOK _ _ _ _ _ _ _
                       exact ok_pure (ro_move (v := .slice _ _ _) rfl) rfl
                     refine ⟨?_, ?_⟩
                     · intro w38 D38
                       rintro _ rfl
                       show OpOK _ _ _ _ _ _ _
                       exact ok_pure (ro_len EntMerge_l25 rfl) rfl
                     refine ⟨?_, ?_⟩
                     · intro w39 D39
                       rintro _ rfl
                       show OpOK _ _ _ _ _ _ _
                       exact ok_pure (ro_bf (ro_gtr rfl rfl) (by simp)) rfl
                     refine ⟨?_, ?_⟩
                     · intro w40 D40
                       rintro _ rfl
                       show OpOK _ _ _ _ _ _ _
                       exact ok_pure (ro_move (v := .bool _) rfl) rfl
                     refine ⟨?_, ?_⟩
                     · intro w41 D41
                       rintro _ rfl
                       show OpOK _ _ _ _ _ _ _
                       exact ok_gno rfl rfl rfl
                     refine ⟨?_, ?_⟩
                     · intro w42 D42
                       rintro _ rfl _ rfl
                       show OpOK _ _ _ _ _ _ _
                       exact ok_gno rfl rfl rfl
                     refine ⟨?_, ?_⟩
                     · intro w43 D43
                       rintro _ rfl _ rfl
                       show OpOK _ _ _ _ _ _ _
                       exact ok_gno rfl rfl rfl
                     refine ⟨?_, ?_⟩
                     · intro w44 D44
                       rintro _ rfl _ rfl
                       show OpOK _ _ _ _ _ _ _
                       exact ok_gno rfl rfl rfl
                     refine ⟨?_, ?_⟩
                     · intro w45 D45
                       rintro _ rfl
                       show OpOK _ _ _ _ _ _ _
                       exact ok_gno rfl rfl rfl
                     refine ⟨?_, ?_⟩
                     · intro w46 D46
                       rintro _ rfl _ rfl _ rfl
                       show OpOK _ _ _ _ _ _ _
                       exact ok_gno rfl rfl rfl
                     refine ⟨?_, ?_⟩
                     · intro w47 D47
                       rintro _ rfl _ rfl
                       show OpOK _ _ _ _ _ _ _
                       exact ok_pure (ro_pickF (v := .bool _) rfl rfl) rfl
                     refine ⟨?_, ?_⟩
                     · intro w48 D48
                       rintro _ rfl
                       show OpOK _ _ _ _ _ _ _
                       exact ok_pure (ro_move (v := .bool _) rfl) rfl
                     refine ⟨?_, ?_⟩
                     · intro w49 D49
                       rintro _ rfl
                       show OpOK _ _ _ _ _ _ _
                       exact ok_gno rfl rfl rfl
                     refine ⟨?_, ?_⟩
                     · intro w50 D50
                       rintro _ rfl
                       show OpOK _ _ _ _ _ _ _
                       exact ok_gno rfl rfl rfl
                     refine ⟨?_, ?_⟩
                     · intro w51 D51
                       rintro _ rfl _ rfl
                       show OpOK _ _ _ _ _ _ _
                       exact ok_gno rfl rfl rfl
                     refine ⟨?_, ?_⟩
                     · intro w52 D52
                       rintro _ rfl _ rfl
                       show OpOK _ _ _ _ _ _ _
                       exact ok_gno rfl rfl rfl
                     refine ⟨?_, ?_⟩
                     · intro w53 D53
                       rintro _ rfl _ rfl
                       show OpOK _ _ _ _ _ _ _
                       exact ok_gno rfl rfl rfl
                     refine ⟨?_, ?_⟩
                     · intro w54 D54
                       rintro _ rfl _ rfl _ rfl
                       show OpOK _ _ _ _ _ _ _
                       exact ok_gno rfl rfl rfl
                     refine ⟨?_, ?_⟩
                     · intro w55 D55
                       rintro _ rfl
                       show OpOK _ _ _ _ _ _ _
                       exact ok_gno rfl rfl rfl
                     refine ⟨?_, ?_⟩
                     · intro w56 D56
                       rintro _ rfl _ rfl
                       show OpOK _ _ _ _ _ _ _
                       exact ok_gno rfl rfl rfl
                     refine ⟨?_, ?_⟩
                     · intro w57 D57
                       rintro _ rfl _ rfl
                       show OpOK _ _ _ _ _ _ _
                       exact ok_gno rfl rfl rfl
                     refine ⟨?_, ?_⟩
                     · intro w58 D58
                       rintro _ rfl _ rfl
                       show OpOK _ _ _ _ _ _ _
                       exact ok_gno rfl rfl rfl
                     refine ⟨?_, ?_⟩
                     · intro w59 D59
                       rintro _ rfl _ rfl _ rfl
                       show OpOK _ _ _ _ _ _ _
                       exact ok_gno rfl rfl rfl
                     refine ⟨?_, ?_⟩
                     · intro w60 D60
                       rintro _ rfl _ rfl
                       show OpOK _ _ _ _ _ _ _
                       exact ok_pure (ro_pickF (v := .bool _) rfl rfl) rfl
                     exact trivial
                    case hend =>
                     intro w61 D61
                     rintro _ rfl _ rfl _ rfl _ rfl _ rfl _ rfl _ rfl _ rfl _ rfl _ rfl _ rfl _ rfl _ rfl _ rfl _ rfl _ rfl _ rfl _ rfl _ rfl _ rfl _ rfl _ rfl _ rfl _ rfl
                     show St _ _ _ _ _ _ _
                     refine st_nil ?_
                     refine nx_then ?_
                     refine cd_condF rfl ?_
                     refine cd_exit ?_
                     refine ex_then ?_
                     refine ex_then ?_
                     refine ex_block ?_
                     refine nx_cut ((_, _, _)) ⟨rfl, trivial⟩ (by (iterate 51 refine agr_cons rfl ?_); exact agr_rfl) ?_
                     exact ⟨hzs.from_ (From.rfl_.next D61), hfin, (fun e r h0 => by cases h0 <;> (have := (runs_head hrun).1; omega)), hzl, hk4.from_ (From.rfl_.next D61), hk8.from_ (From.rfl_.next D61), (hB.next D61)⟩
                  · have hfin := (mgSkip_stop (r := r) (fun h0 => h1 h0.1)).symm.trans (hsk.trans (congrArg _ hys6))
                    obtain ⟨b9, o9, rfl, hcell⟩ := hzs.head
                    apply cd_drawn 24 [(71, eqp _), (72, eqp _), (73, eqp _), (74, eqp _), (75, eqp _), (76, eqp _), (77, eqp _), (78, eqp _), (79, eqp _), (80, eqp _), (81, eqp _), (82, eqp _), (83, eqp _), (84, eqp _), (85, eqp _), (86, eqp _), (87, eqp _), (88, eqp _), (89, eqp _), (90, eqp _), (91, eqp _), (92, eqp _), (93, eqp _), (94, eqp _)] (by kernel_rfl) (by kernel_rfl) ⟨eqp_mono _, eqp_mono _, eqp_mono _, eqp_mono _, eqp_mono _, eqp_mono _, eqp_mono _, eqp_mono _, eqp_mono _, eqp_mono _, eqp_mono _, eqp_mono _, eqp_mono _, eqp_mono _, eqp_mono _, eqp_mono _, eqp_mono _, eqp_mono _, eqp_mono _, eqp_mono _, eqp_mono _, eqp_mono _, eqp_mono _, eqp_mono _, trivial⟩
                    case hop =>
                     refine ⟨?_, ?_⟩
                     · intro w63 D63
                       show OpOK _ _ _ _ _ _ _
                       exact ok_pure (ro_move (v := .slice _ _ _) rfl) rfl
                     refine ⟨?_, ?_⟩
                     · intro w64 D64
                       rintro _ rfl
                       show OpOK _ _ _ _ _ _ _
                       exact ok_pure (ro_len EntMerge_l25 rfl) rfl
                     refine ⟨?_, ?_⟩
                     · intro w65 D65
                       rintro _ rfl
                       show OpOK _ _ _ _ _ _ _
                       exact ok_pure (ro_bt (ro_gtr rfl rfl) (by simp)) rfl
                     refine ⟨?_, ?_⟩
                     · intro w66 D66
                       rintro _ rfl
                       show OpOK _ _ _ _ _ _ _
                       exact ok_pure (ro_move (v := .bool _) rfl) rfl
                     refine ⟨?_, ?_⟩
                     · intro w67 D67
                       rintro _ rfl
                       show OpOK _ _ _ _ _ _ _
                       exact ok_gpure rfl (ro_move (v := .slice _ _ _) rfl) rfl
                     refine ⟨?_, ?_⟩
                     · intro w68 D68
                       rintro _ rfl _ rfl
                       show OpOK _ _ _ _ _ _ _
                       exact ok_gpure rfl (ro_indexAddr EntMerge_e25 rfl rfl (by simp <;> omega)) rfl
                     refine ⟨?_, ?_⟩
                     · intro w69 D69
                       rintro _ rfl _ rfl
                       show OpOK _ _ _ _ _ _ _
                       exact ok_gpure rfl (ro_fieldAddr EntMerge_f41_0 rfl) rfl
                     refine ⟨?_, ?_⟩
                     · intro w70 D70
                       rintro _ rfl _ rfl
                       show OpOK _ _ _ _ _ _ _
                       exact ok_gpure rfl (ro_load EntMerge_g3 rfl (by exact rangeF (From.rfl_.next D70) hcell 0 _ rfl)) rfl
                     refine ⟨?_, ?_⟩
                     · intro w71 D71
                       rintro _ rfl
                       show OpOK _ _ _ _ _ _ _
                       exact ok_gpure rfl (ro_move (v := .int _ _) rfl) rfl
                     refine ⟨?_, ?_⟩
                     · intro w72 D72
                       rintro _ rfl _ rfl _ rfl
                       show OpOK _ _ _ _ _ _ _
                       exact ok_gpure rfl (ro_bf (ro_leq rfl rfl) (decide_eq_false h1)) rfl
                     refine ⟨?_, ?_⟩
                     · intro w73 D73
                       rintro _ rfl _ rfl
                       show OpOK _ _ _ _ _ _ _
                       exact ok_pure (ro_pickT (v := .bool _) rfl rfl) rfl
                     refine ⟨?_, ?_⟩
                     · intro w74 D74
                       rintro _ rfl
                       show OpOK _ _ _ _ _ _ _
                       exact ok_pure (ro_move (v := .bool _) rfl) rfl
                     refine ⟨?_, ?_⟩
                     · intro w75 D75
                       rintro _ rfl
                       show OpOK _ _ _ _ _ _ _
                       exact ok_gno rfl rfl rfl
                     refine ⟨?_, ?_⟩
                     · intro w76 D76
                       rintro _ rfl
                       show OpOK _ _ _ _ _ _ _
                       exact ok_gno rfl rfl rfl
                     refine ⟨?_, ?_⟩
                     · intro w77 D77
                       rintro _ rfl _ rfl
                       show OpOK _ _ _ _ _ _ _
                       exact ok_gno rfl rfl rfl
                     refine ⟨?_, ?_⟩
                     · intro w78 D78
                       rintro _ rfl _ rfl
                       show OpOK _ _ _ _ _ _ _
                       exact ok_gno rfl rfl rfl
                     refine ⟨?_, ?_⟩
                     · intro w79 D79
                       rintro _ rfl _ rfl
                       show OpOK _ _ _ _ _ _ _
                       exact ok_gno rfl rfl rfl
                     refine ⟨?_, ?_⟩
                     · intro w80 D80
                       rintro _ rfl _ rfl _ rfl
                       show OpOK _ _ _ _ _ _ _
                       exact ok_gno rfl rfl rfl
                     refine ⟨?_, ?_⟩
                     · intro w81 D81
                       rintro _ rfl
                       show OpOK _ _ _ _ _ _ _
                       exact ok_gno rfl rfl rfl
                     refine ⟨?_, ?_⟩
                     · intro w82 D82
                       rintro _ rfl _ rfl
                       show OpOK _ _ _ _ _ _ _
                       exact ok_gno rfl rfl rfl
                     refine ⟨?_, ?_⟩
                     · intro w83 D83
                       rintro _ rfl _ rfl
                       show OpOK _ _ _ _ _ _ _
                       exact ok_gno rfl rfl rfl
                     refine ⟨?_, ?_⟩
                     · intro w84 D84
                       rintro _ rfl _ rfl
                       show OpOK _ _ _ _ _ _ _
                       exact ok_gno rfl rfl rfl
                     refine ⟨?_, ?_⟩
                     · intro w85 D85
                       rintro _ rfl _ rfl _ rfl
                       show OpOK _ _ _ _ _ _ _
                       exact ok_gno rfl rfl rfl
                     refine ⟨?_, ?_⟩
                     · intro w86 D86
                       rintro _ rfl _ rfl
                       show OpOK _ _ _ _ _ _ _
                       exact ok_pure (ro_pickF (v := .bool _) rfl rfl) rfl
                     exact trivial
                    case hend =>
                     intro w87 D87
                     rintro _ rfl _ rfl _ rfl _ rfl _ rfl _ rfl _ rfl _ rfl _ rfl _ rfl _ rfl _ rfl _ rfl _ rfl _ rfl _ rfl _ rfl _ rfl _ rfl _ rfl _ rfl _ rfl _ rfl _ rfl
                     show St _ _ _ _ _ _ _
                     refine st_nil ?_
                     refine nx_then ?_
                     refine cd_condF rfl ?_
                     refine cd_exit ?_
                     refine ex_then ?_
                     refine ex_then ?_
                     refine ex_block ?_
                     refine nx_cut ((_, _, _)) ⟨rfl, trivial⟩ (by (iterate 51 refine agr_cons rfl ?_); exact agr_rfl) ?_
                     exact ⟨hzs.from_ (From.rfl_.next D87), hfin, (fun e r h0 => by cases h0 <;> (have := (runs_head hrun).1; omega)), hzl, hk4.from_ (From.rfl_.next D87), hk8.from_ (From.rfl_.next D87), (hB.next D87)⟩
                  · obtain ⟨b9, o9, rfl, hcell⟩ := hzs.head
                    apply cd_drawn 24 [(71, eqp _), (72, eqp _), (73, eqp _), (74, eqp _), (75, eqp _), (76, eqp _), (77, eqp _), (78, eqp _), (79, eqp _), (80, eqp _), (81, eqp _), (82, eqp _), (83, eqp _), (84, eqp _), (85, eqp _), (86, eqp _), (87, eqp _), (88, eqp _), (89, eqp _), (90, eqp _), (91, eqp _), (92, eqp _), (93, eqp _), (94, eqp _)] (by kernel_rfl) (by kernel_rfl) ⟨eqp_mono _, eqp_mono _, eqp_mono _, eqp_mono _, eqp_mono _, eqp_mono _, eqp_mono _, eqp_mono _, eqp_mono _, eqp_mono _, eqp_mono _, eqp_mono _, eqp_mono _, eqp_mono _, eqp_mono _, eqp_mono _, eqp_mono _, eqp_mono _, eqp_mono _, eqp_mono _, eqp_mono _, eqp_mono _, eqp_mono _, eqp_mono _, trivial⟩
                    case hop =>
                     refine ⟨?_, ?_⟩
                     · intro w89 D89
                       show OpOK _ _ _ _ _ _ _
                       exact ok_pure (ro_move (v := .slice _ _ _) rfl) rfl
                     refine ⟨?_, ?_⟩
                     · intro w90 D90
                       rintro _ rfl
                       show OpOK _ _ _ _ _ _ _
                       exact ok_pure (ro_len EntMerge_l25 rfl) rfl
                     refine ⟨?_, ?_⟩
                     · intro w91 D91
                       rintro _ rfl
                       show OpOK _ _ _ _ _ _ _
                       exact ok_pure (ro_bt (ro_gtr rfl rfl) (by simp)) rfl
                     refine ⟨?_, ?_⟩
                     · intro w92 D92
                       rintro _ rfl
                       show OpOK _ _ _ _ _ _ _
                       exact ok_pure (ro_move (v := .bool _) rfl) rfl
                     refine ⟨?_, ?_⟩
                     · intro w93 D93
                       rintro _ rfl
                       show OpOK _ _ _ _ _ _ _
                       exact ok_gpure rfl (ro_move (v := .slice _ _ _) rfl) rfl
                     refine ⟨?_, ?_⟩
                     · intro w94 D94
                       rintro _ rfl _ rfl
                       show OpOK _ _ _ _ _ _ _
                       exact ok_gpure rfl (ro_indexAddr EntMerge_e25 rfl rfl (by simp <;> omega)) rfl
                     refine ⟨?_, ?_⟩
                     · intro w95 D95
                       rintro _ rfl _ rfl
                       show OpOK _ _ _ _ _ _ _
                       exact ok_gpure rfl (ro_fieldAddr EntMerge_f41_0 rfl) rfl
                     refine ⟨?_, ?_⟩
                     · intro w96 D96
                       rintro _ rfl _ rfl
                       show OpOK _ _ _ _ _ _ _
                       exact ok_gpure rfl (ro_load EntMerge_g3 rfl (by exact rangeF (From.rfl_.next D96) hcell 0 _ rfl)) rfl
                     refine ⟨?_, ?_⟩
                     · intro w97 D97
                       rintro _ rfl
                       show OpOK _ _ _ _ _ _ _
                       exact ok_gpure rfl (ro_move (v := .int _ _) rfl) rfl
                     refine ⟨?_, ?_⟩
                     · intro w98 D98
                       rintro _ rfl _ rfl _ rfl
                       show OpOK _ _ _ _ _ _ _
                       exact ok_gpure rfl (ro_bt (ro_leq rfl rfl) (decide_eq_true h1)) rfl
                     refine ⟨?_, ?_⟩
                     · intro w99 D99
                       rintro _ rfl _ rfl
                       show OpOK _ _ _ _ _ _ _
                       exact ok_pure (ro_pickT (v := .bool _) rfl rfl) rfl
                     refine ⟨?_, ?_⟩
                     · intro w100 D100
                       rintro _ rfl
                       show OpOK _ _ _ _ _ _ _
                       exact ok_pure (ro_move (v := .bool _) rfl) rfl
                     refine ⟨?_, ?_⟩
                     · intro w101 D101
                       rintro _ rfl
                       show OpOK _ _ _ _ _ _ _
                       exact ok_gpure rfl (ro_loadA (cs := [_, _, _]) EntMerge_g72 EntMerge_z72 rfl (by first | (first | exact (hk4.from_ (From.rfl_.next D101)).whole | exact (hk4.from_ (From.rfl_.next D101)).rd 0 rfl | exact (hk4.from_ (From.rfl_.next D101)).rd 1 rfl | exact (hk4.from_ (From.rfl_.next D101)).rd 2 rfl))) rfl
                     refine ⟨?_, ?_⟩
                     · intro w102 D102
                       rintro _ rfl
                       show OpOK _ _ _ _ _ _ _
                       exact ok_gpure rfl (ro_move (v := .slice _ _ _) rfl) rfl
                     refine ⟨?_, ?_⟩
                     · intro w103 D103
                       rintro _ rfl _ rfl
                       show OpOK _ _ _ _ _ _ _
                       exact ok_gpure rfl (ro_indexAddr EntMerge_e25 rfl rfl (by simp <;> omega)) rfl
                     refine ⟨?_, ?_⟩
                     · intro w104 D104
                       rintro _ rfl _ rfl
                       show OpOK _ _ _ _ _ _ _
                       exact ok_gpure rfl (ro_fieldAddr EntMerge_f41_0 rfl) rfl
                     refine ⟨?_, ?_⟩
                     · intro w105 D105
                       rintro _ rfl _ rfl
                       show OpOK _ _ _ _ _ _ _
                       exact ok_gpure rfl (ro_load EntMerge_g3 rfl (by exact rangeF (From.rfl_.next D105) hcell 0 _ rfl)) rfl
                     refine ⟨?_, ?_⟩
                     · intro w106 D106
                       rintro _ rfl _ rfl _ rfl
                       show OpOK _ _ _ _ _ _ _
                       refine ok_gcall rfl EntMerge_k45 ((Rt.of (termAt_any B T e.i _ xs _ (h.from_ (hB.next D106)) hB0 (by omega) (by have := (runs_head hrun).1; omega) (by omega) (by omega))).mono ?_)
                       rintro v _ ⟨rfl, E106'⟩; exact ⟨E106', rfl⟩
                     refine ⟨?_, ?_⟩
                     · intro w107 D107
                       rintro _ rfl
                       show OpOK _ _ _ _ _ _ _
                       exact ok_gpure rfl (ro_move (v := .slice _ _ _) rfl) rfl
                     refine ⟨?_, ?_⟩
                     · intro w108 D108
                       rintro _ rfl _ rfl
                       show OpOK _ _ _ _ _ _ _
                       exact ok_gpure rfl (ro_indexAddr EntMerge_e25 rfl rfl (by simp <;> omega)) rfl
                     refine ⟨?_, ?_⟩
                     · intro w109 D109
                       rintro _ rfl _ rfl
                       show OpOK _ _ _ _ _ _ _
                       exact ok_gpure rfl (ro_fieldAddr EntMerge_f41_1 rfl) rfl
                     refine ⟨?_, ?_⟩
                     · intro w110 D110
                       rintro _ rfl _ rfl
                       show OpOK _ _ _ _ _ _ _
                       exact ok_gpure rfl (ro_load EntMerge_g3 rfl (by exact rangeF (From.rfl_.next D110) hcell 1 _ rfl)) rfl
                     refine ⟨?_, ?_⟩
                     · intro w111 D111
                       rintro _ rfl _ rfl _ rfl
                       show OpOK _ _ _ _ _ _ _
                       exact ok_gpure rfl (ro_eql rfl rfl) rfl
                     refine ⟨?_, ?_⟩
                     · intro w112 D112
                       rintro _ rfl _ rfl
                       show OpOK _ _ _ _ _ _ _
                       exact ok_pure (ro_pickT (v := .bool _) rfl rfl) rfl
                     exact trivial
                    case hend =>
                     intro w113 D113
                     rintro _ rfl _ rfl _ rfl _ rfl _ rfl _ rfl _ rfl _ rfl _ rfl _ rfl _ rfl _ rfl _ rfl _ rfl _ rfl _ rfl _ rfl _ rfl _ rfl _ rfl _ rfl _ rfl _ rfl _ rfl
                     show St _ _ _ _ _ _ _
                     refine st_nil ?_
                     refine nx_then ?_
                     refine cd_cond rfl (fun Q114 => ?_) (fun Q114 => ?_)
                     · (try first | replace Q114 := bn_t Q114 | replace Q114 := bn_f Q114)
                       (try first | replace Q114 := bx_t Q114 | replace Q114 := bx_f Q114 | replace Q114 := be_t Q114 | replace Q114 := be_f Q114 | replace Q114 := of_decide_eq_true Q114 | replace Q114 := of_decide_eq_false Q114)
                       have hq := Q114
                       refine cd_skip ?_
                       refine nx_then ?_
                       refine cd_block ?_
                       refine cd_region ?_
                       refine st_val (ro_move (v := .slice _ _ _) rfl) ?_
                       refine st_val (ro_sliceO (l := 1) EntMerge_e23 rfl (.inr ⟨_, _, _, rfl, rfl, rfl⟩) (.inl ⟨rfl, rfl⟩) (by simp) (by have := hzs.len; simp at this; omega)) ?_
                       refine st_val (ro_assign (v := .slice _ _ _) rfl) ?_
                       refine st_nil ?_
                       refine nx_block ?_
                       refine nx_cut ((r, restOf (some ⟨b9, o9, none⟩) c4 1 3, c4 - 1, p' + 1, e.t)) ⟨(by first | rfl | (refine int_eq ?_; omega)), trivial⟩ (by (iterate 54 refine agr_cons rfl ?_); exact agr_rfl) ⟨?_, ?_⟩
                       · exact ⟨(hzs.from_ (From.rfl_.next D113)).restA (k := 1) (by simp), (mgSkip_go ⟨h1, hq⟩).symm.trans hsk, (runs_head hrun).2, by omega, by have := (runs_head hrun).1; omega, by simp at hzl; omega, hk4.from_ (From.rfl_.next D113), hk8.from_ (From.rfl_.next D113), (hB.next D113)⟩
                       · simp
                     · (try first | replace Q114 := bn_t Q114 | replace Q114 := bn_f Q114)
                       (try first | replace Q114 := bx_t Q114 | replace Q114 := bx_f Q114 | replace Q114 := be_t Q114 | replace Q114 := be_f Q114 | replace Q114 := of_decide_eq_true Q114 | replace Q114 := of_decide_eq_false Q114)
                       have hfin := (mgSkip_stop (r := r) (fun h0 => Q114 h0.2)).symm.trans (hsk.trans (congrArg _ hys6))
                       refine cd_exit ?_
                       refine ex_then ?_
                       refine ex_then ?_
                       refine ex_block ?_
                       refine nx_cut ((_, _, _)) ⟨rfl, trivial⟩ (by (iterate 51 refine agr_cons rfl ?_); exact agr_rfl) ?_
                       exact ⟨hzs.from_ (From.rfl_.next D113), hfin, (fun e r h0 => by cases h0 <;> (have := (runs_head hrun).1; omega)), hzl, hk4.from_ (From.rfl_.next D113), hk8.from_ (From.rfl_.next D113), (hB.next D113)⟩
                · rintro ⟨zs, A4, c4⟩ ρ115 w115 ⟨hzs, hsk, hhold, hzl, hk4, hk8, hB⟩
                  refine cd_cut (G := Nat) [97, 98, 99, 100, 101, 102, 103, 104] (fun k => [(11, .int .i64 (B + (k : Nat)))]) (fun k w' => k = mgIdx B xs zs ∧ k ≤ xs.length ∧ Ents w' (.slice A4 zs.length c4) zs ∧ Blk w' b4 72 #[.int .i64 B, .int .i64 T, .slice A xs.length cA] ∧ Blk w' b8 72 #[.int .i64 0, .int .i64 0, .slice none 0 0] ∧ From w w') ?_ ?_
                  · refine cd_seq ?_
                    refine cd_region ?_
                    refine st_val (ro_move (v := .slice _ _ _) rfl) ?_
                    refine st_val (ro_len EntMerge_l25 rfl) ?_
                    refine st_val (ro_gtr rfl rfl) ?_
                    refine st_nil ?_
                    refine nx_then ?_
                    refine cd_cond rfl (fun Q116 => ?_) (fun Q116 => ?_)
                    · (try first | replace Q116 := bn_t Q116 | replace Q116 := bn_f Q116)
                      (try first | replace Q116 := bx_t Q116 | replace Q116 := bx_f Q116 | replace Q116 := be_t Q116 | replace Q116 := be_f Q116 | replace Q116 := of_decide_eq_true Q116 | replace Q116 := of_decide_eq_false Q116)
                      obtain ⟨e, r, rfl⟩ := List.exists_cons_of_length_pos (show 0 < zs.length by omega)
                      obtain ⟨b9, o9, rfl, hcell⟩ := hzs.head
                      obtain ⟨hh1, hh2⟩ := hhold e r rfl
                      obtain ⟨k0, hk0⟩ : ∃ k0, k0 = (e.i - 1 - B).toNat := ⟨_, rfl⟩
                      refine cd_region ?_
                      refine st_val (ro_move (v := .slice _ _ _) rfl) ?_
                      refine st_val (ro_indexAddr EntMerge_e25 rfl rfl (by simp <;> omega)) ?_
                      refine st_val (ro_fieldAddr EntMerge_f41_0 rfl) ?_
                      refine st_val (ro_load EntMerge_g3 rfl (by exact rangeF From.rfl_ hcell 0 _ rfl)) ?_
                      refine st_val (ro_sub64 rfl rfl (by omega)) ?_
                      refine st_val (ro_assign (v := .int _ _) rfl) ?_
                      refine st_nil ?_
                      refine nx_cut (k0) ⟨(by first | rfl | (refine int_eq ?_; omega)), trivial⟩ (by (iterate 9 refine agr_cons rfl ?_); exact agr_rfl) ?_
                      exact ⟨hk0, by omega, hzs.from_ From.rfl_, hk4.from_ From.rfl_, hk8.from_ From.rfl_, hB⟩
                    · (try first | replace Q116 := bn_t Q116 | replace Q116 := bn_f Q116)
                      (try first | replace Q116 := bx_t Q116 | replace Q116 := bx_f Q116 | replace Q116 := be_t Q116 | replace Q116 := be_f Q116 | replace Q116 := of_decide_eq_true Q116 | replace Q116 := of_decide_eq_false Q116)
                      obtain rfl : zs = [] := List.eq_nil_of_length_eq_zero (by omega)
                      obtain ⟨k0, hk0⟩ : ∃ k0, k0 = xs.length := ⟨_, rfl⟩
                      refine cd_skip ?_
                      refine nx_cut (k0) ⟨(by first | rfl | (refine int_eq ?_; omega)), trivial⟩ (by (iterate 3 refine agr_cons rfl ?_); exact agr_rfl) ?_
                      exact ⟨hk0, by omega, hzs.from_ From.rfl_, hk4.from_ From.rfl_, hk8.from_ From.rfl_, hB⟩
                  · rintro k ρ117 w117 ⟨hk13, hkl, hzs, hk4, hk8, hB⟩
                    refine cd_seq ?_
                    refine cd_seq ?_
                    refine cd_region ?_
                    refine st_val (ro_move (v := .int _ _) rfl) ?_
                    refine st_val (ro_fieldAddr EntMerge_f72_0 rfl) ?_
                    refine st_val (ro_load EntMerge_g3 rfl (by first | (first | exact (hk4.from_ From.rfl_).whole | exact (hk4.from_ From.rfl_).rd 0 rfl | exact (hk4.from_ From.rfl_).rd 1 rfl | exact (hk4.from_ From.rfl_).rd 2 rfl))) ?_
                    refine st_val (ro_sub64 rfl rfl (by omega)) ?_
                    refine st_val (ro_move (v := .slice _ _ _) rfl) ?_
                    refine st_val (ro_len EntMerge_l25 rfl) ?_
                    refine st_val (ro_add64 rfl rfl (by omega)) ?_
                    refine st_val (ro_gtr rfl rfl) ?_
                    refine st_nil ?_
                    refine nx_then ?_
                    refine cd_cond rfl (fun Q118 => ?_) (fun Q118 => ?_)
                    · (try first | replace Q118 := bn_t Q118 | replace Q118 := bn_f Q118)
                      (try first | replace Q118 := bx_t Q118 | replace Q118 := bx_f Q118 | replace Q118 := be_t Q118 | replace Q118 := be_f Q118 | replace Q118 := of_decide_eq_true Q118 | replace Q118 := of_decide_eq_false Q118)
                      refine cd_seq ?_
                      refine cd_region ?_
                      refine st_val (ro_build (l := []) (EntMerge_b72_)) ?_
                      refine st_putW (vs := [_, _, _]) EntMerge_z72 rfl rfl (by simp [Value.oneCell']) (hk8.from_ From.rfl_) rfl ?_
                      intro w119 O14 P14
                      refine st_val (ro_assign (v := .bool _) rfl) ?_
                      refine st_val (ro_assign (v := .int _ _) rfl) ?_
                      refine st_nil ?_
                      refine nx_then ?_
                      refine cd_ret ?_
                      refine rt_then ?_
                      refine resr3 rfl (rv_cellA (cs := [_, _, _]) EntMerge_g72 EntMerge_z72 rfl (by first | exact P2.whole | exact P8.whole | exact P14.whole | exact P17.whole | exact P18.whole)) (rv_tmp (v := .bool _) rfl) (rv_tmp (v := .int _ _) rfl) ?_
                      exact ⟨mg_bad (by unfold mergeF; rw [if_pos ⟨hm, hPv, hQv, hR⟩, if_neg hnm, ← hsk]; unfold mg2; rw [← hk13, if_pos (by omega)]) (by decide), (hB.only O14 (hg8))⟩
                    · (try first | replace Q118 := bn_t Q118 | replace Q118 := bn_f Q118)
                      (try first | replace Q118 := bx_t Q118 | replace Q118 := bx_f Q118 | replace Q118 := be_t Q118 | replace Q118 := be_f Q118 | replace Q118 := of_decide_eq_true Q118 | replace Q118 := of_decide_eq_false Q118)
                      refine cd_skip ?_
                      refine nx_then ?_
                      refine cd_seq ?_
                      refine cd_region ?_
                      refine st_val (ro_loadA (cs := [_, _, _]) EntMerge_g72 EntMerge_z72 rfl (by first | (first | exact (hk4.from_ From.rfl_).whole | exact (hk4.from_ From.rfl_).rd 0 rfl | exact (hk4.from_ From.rfl_).rd 1 rfl | exact (hk4.from_ From.rfl_).rd 2 rfl))) ?_
                      refine st_val (ro_move (v := .int _ _) rfl) ?_
                      refine st_val (ro_move (v := .slice _ _ _) rfl) ?_
                      have hb117 := (hk8.from_ From.rfl_).lt
                      refine st_call EntMerge_k46 (joined_rt B T _ k A A4 _ cA _ c4 xs zs _ (h.from_ hB) (hzs.from_ From.rfl_) hB0 (by omega) rfl hkl (by omega) (by omega)) ?_
                      rintro v117 w120 ⟨A117, c117, rfl, ho117, E117⟩
                      refine st_putW (vs := [_, _, _]) EntMerge_z72 rfl rfl (by simp [Value.oneCell']) (hk8.from_ (From.rfl_.next E117)) rfl ?_
                      intro w121 O15 P15
                      refine st_nil ?_
                      refine nx_then ?_
                      refine cd_seq ?_
                      refine cd_seq ?_
                      refine cd_region ?_
                      refine st_val (ro_loadA (cs := [_, _, _]) EntMerge_g72 EntMerge_z72 rfl (by exact P15.whole)) ?_
                      refine st_call EntMerge_k41 (Rt.of (check_any B T _ (xs.take k ++ zs) _ (Ents.of_own (own_only ho117 O15 hb117) (by simp; omega)))) ?_
                      rintro v119 w122 ⟨rfl, E119⟩
                      refine st_val (ro_neq rfl rfl) ?_
                      refine st_nil ?_
                      refine nx_then ?_
                      refine cd_cond rfl (fun Q123 => ?_) (fun Q123 => ?_)
                      · (try first | replace Q123 := bn_t Q123 | replace Q123 := bn_f Q123)
                        (try first | replace Q123 := bx_t Q123 | replace Q123 := bx_f Q123 | replace Q123 := be_t Q123 | replace Q123 := be_f Q123 | replace Q123 := of_decide_eq_true Q123 | replace Q123 := of_decide_eq_false Q123)
                        have hmay : ¬ mayLog B T (xs.take k ++ zs) = true := fun h0 => Q123 (by unfold chk; rw [if_pos h0])
                        refine cd_seq ?_
                        refine cd_region ?_
                        refine st_val (ro_build (l := []) (EntMerge_b72_)) ?_
                        refine st_putW (vs := [_, _, _]) EntMerge_z72 rfl rfl (by simp [Value.oneCell']) (P15.from_ (From.rfl_.next E119)) rfl ?_
                        intro w124 O17 P17
                        refine st_val (ro_assign (v := .bool _) rfl) ?_
                        refine st_val (ro_assign (v := .int _ _) rfl) ?_
                        refine st_nil ?_
                        refine nx_then ?_
                        refine cd_ret ?_
                        refine rt_then ?_
                        refine resr3 rfl (rv_cellA (cs := [_, _, _]) EntMerge_g72 EntMerge_z72 rfl (by first | exact P2.whole | exact P8.whole | exact P14.whole | exact P17.whole | exact P18.whole)) (rv_tmp (v := .bool _) rfl) (rv_tmp (v := .int _ _) rfl) ?_
                        exact ⟨mg_bad (by unfold mergeF; rw [if_pos ⟨hm, hPv, hQv, hR⟩, if_neg hnm, ← hsk]; unfold mg2; rw [← hk13, if_neg (by omega), if_neg hmay]) (by decide), ((((hB.next E117).only O15 (hg8)).next E119).only O17 (hg8))⟩
                      · (try first | replace Q123 := bn_t Q123 | replace Q123 := bn_f Q123)
                        (try first | replace Q123 := bx_t Q123 | replace Q123 := bx_f Q123 | replace Q123 := be_t Q123 | replace Q123 := be_f Q123 | replace Q123 := of_decide_eq_true Q123 | replace Q123 := of_decide_eq_false Q123)
                        have hmay : mayLog B T (xs.take k ++ zs) = true := by
                          cases hm : mayLog B T (xs.take k ++ zs) with
                          | true => rfl
                          | false => unfold chk at Q123; rw [hm] at Q123; cases Q123
                        refine cd_skip ?_
                        refine nx_then ?_
                        refine cd_seq ?_
                        refine cd_region ?_
                        refine st_val (ro_loadA (cs := [_, _, _]) EntMerge_g72 EntMerge_z72 rfl (by exact (P15.from_ (From.rfl_.next E119)).whole)) ?_
                        have ho122 := (own_only ho117 O15 hb117).kept_from (From.rfl_.next E119)
                        refine st_putW (vs := [_, _, _]) EntMerge_z72 rfl rfl (by simp [Value.oneCell']) (P15.from_ (From.rfl_.next E119)) rfl ?_
                        intro w125 O18 P18
                        refine st_val (ro_assign (v := .bool _) rfl) ?_
                        refine st_val (ro_assign (v := .int _ _) rfl) ?_
                        refine st_nil ?_
                        refine nx_then ?_
                        refine cd_ret ?_
                        refine resr3 rfl (rv_cellA (cs := [_, _, _]) EntMerge_g72 EntMerge_z72 rfl (by first | exact P2.whole | exact P8.whole | exact P14.whole | exact P17.whole | exact P18.whole)) (rv_tmp (v := .bool _) rfl) (rv_tmp (v := .int _ _) rfl) ?_
                        refine ⟨mg_good (ys := xs.take k ++ zs) (by unfold mergeF; rw [if_pos ⟨hm, hPv, hQv, hR⟩, if_neg hnm, ← hsk]; unfold mg2; rw [← hk13, if_neg (by omega), if_pos hmay]) (by simp; omega) (ownsRow_le (own_only ho122 O18 hb117) (by omega)), ((((hB.next E117).only O15 (hg8)).next E119).only O18 (hg8))⟩
end Go.Proofs.YtjliefglelcooaaDoor
