/- Rows of 32-bit numbers and of bools, as functions. -/
import Derived.Test.YtpafbgdbjambgaaFast16
import Derived.Test.YtpafbgdbjambgaaSaE
namespace Go.Proofs.Ytpafbgdbjambgaa
open Go.RowKit
open Go.Proofs.Ytpafbgdbjambgaa.SA
abbrev jV (x : Int) : Value := .int .i32 x
def tabJ (n : Nat) (f : Nat → Int) : Array Value := ((List.range n).map fun i => jV (f i)).toArray
def tabB (n : Nat) (f : Nat → Bool) : Array Value := ((List.range n).map fun i => Value.bool (f i)).toArray
def tabI (n : Nat) (f : Nat → Int) : Array Value := ((List.range n).map fun i => iV (f i)).toArray
theorem tabJ_size {n : Nat} {f : Nat → Int} : (tabJ n f).size = n := by simp [tabJ]
theorem tabB_size {n : Nat} {f : Nat → Bool} : (tabB n f).size = n := by simp [tabB]
theorem tabI_size {n : Nat} {f : Nat → Int} : (tabI n f).size = n := by simp [tabI]
theorem tabJ_at {n i : Nat} {f : Nat → Int} (h : i < n) : (tabJ n f)[i]? = some (jV (f i)) := by simp [tabJ, h]
theorem tabB_at {n i : Nat} {f : Nat → Bool} (h : i < n) : (tabB n f)[i]? = some (.bool (f i)) := by simp [tabB, h]
theorem tabI_at {n i : Nat} {f : Nat → Int} (h : i < n) : (tabI n f)[i]? = some (iV (f i)) := by simp [tabI, h]
theorem tabJ_congr {n : Nat} {f g : Nat → Int} (h : ∀ i, i < n → f i = g i) : tabJ n f = tabJ n g := by
  unfold tabJ
  congr 1
  exact List.map_congr_left fun i hi => by rw [h i (List.mem_range.1 hi)]
theorem tabB_congr {n : Nat} {f g : Nat → Bool} (h : ∀ i, i < n → f i = g i) : tabB n f = tabB n g := by
  unfold tabB
  congr 1
  exact List.map_congr_left fun i hi => by rw [h i (List.mem_range.1 hi)]
theorem tabI_congr {n : Nat} {f g : Nat → Int} (h : ∀ i, i < n → f i = g i) : tabI n f = tabI n g := by
  unfold tabI
  congr 1
  exact List.map_congr_left fun i hi => by rw [h i (List.mem_range.1 hi)]
theorem tabJ_set {n i : Nat} {f : Nat → Int} {v : Int} : (tabJ n f).setIfInBounds i (jV v) = tabJ n (upd f i v) := by
  apply Array.ext_getElem?
  intro j
  rw [Array.getElem?_setIfInBounds, tabJ_size]
  by_cases hj : j < n
  · rw [tabJ_at hj, tabJ_at hj]
    by_cases e : i = j
    · subst e; rw [if_pos rfl, if_pos hj, upd_same]
    · rw [if_neg e, upd_ne _ _ (fun h => e h.symm)]
  · rw [Array.getElem?_eq_none (xs := tabJ n (upd f i v)) (by rw [tabJ_size]; omega), Array.getElem?_eq_none (xs := tabJ n f) (by rw [tabJ_size]; omega)]
    split
    · rw [if_neg (by omega)]
    · rfl
theorem tabI_set {n i : Nat} {f : Nat → Int} {v : Int} : (tabI n f).setIfInBounds i (iV v) = tabI n (upd f i v) := by
  apply Array.ext_getElem?
  intro j
  rw [Array.getElem?_setIfInBounds, tabI_size]
  by_cases hj : j < n
  · rw [tabI_at hj, tabI_at hj]
    by_cases e : i = j
    · subst e; rw [if_pos rfl, if_pos hj, upd_same]
    · rw [if_neg e, upd_ne _ _ (fun h => e h.symm)]
  · rw [Array.getElem?_eq_none (xs := tabI n (upd f i v)) (by rw [tabI_size]; omega), Array.getElem?_eq_none (xs := tabI n f) (by rw [tabI_size]; omega)]
    split
    · rw [if_neg (by omega)]
    · rfl
def updB (f : Nat → Bool) (k : Nat) (v : Bool) : Nat → Bool := fun x => if x = k then v else f x
theorem tabB_set {n i : Nat} {f : Nat → Bool} {v : Bool} : (tabB n f).setIfInBounds i (Value.bool v) = tabB n (updB f i v) := by
  apply Array.ext_getElem?
  intro j
  rw [Array.getElem?_setIfInBounds, tabB_size]
  by_cases hj : j < n
  · rw [tabB_at hj, tabB_at hj]
    unfold updB
    by_cases e : i = j
    · subst e; rw [if_pos rfl, if_pos hj, if_pos rfl]
    · rw [if_neg e, if_neg (fun h => e h.symm)]
  · rw [Array.getElem?_eq_none (xs := tabB n (updB f i v)) (by rw [tabB_size]; omega), Array.getElem?_eq_none (xs := tabB n f) (by rw [tabB_size]; omega)]
    split
    · rw [if_neg (by omega)]
    · rfl
theorem tabJ_zero (n : Nat) : (List.replicate n (Value.int .i32 0)).toArray = tabJ n fun _ => 0 := by
  apply Array.ext_getElem?
  intro j
  by_cases hj : j < n
  · rw [tabJ_at hj]; simp [hj]
  · rw [Array.getElem?_eq_none (xs := tabJ n fun _ => 0) (by rw [tabJ_size]; omega), Array.getElem?_eq_none (by simpa using hj)]
theorem tabI_zero (n : Nat) : (List.replicate n (Value.int .i64 0)).toArray = tabI n fun _ => 0 := by
  apply Array.ext_getElem?
  intro j
  by_cases hj : j < n
  · rw [tabI_at hj]; simp [hj]
  · rw [Array.getElem?_eq_none (xs := tabI n fun _ => 0) (by rw [tabI_size]; omega), Array.getElem?_eq_none (by simpa using hj)]
theorem tabB_zero (n : Nat) : (List.replicate n (Value.bool false)).toArray = tabB n fun _ => false := by
  apply Array.ext_getElem?
  intro j
  by_cases hj : j < n
  · rw [tabB_at hj]; simp [hj]
  · rw [Array.getElem?_eq_none (xs := tabB n fun _ => false) (by rw [tabB_size]; omega), Array.getElem?_eq_none (by simpa using hj)]
/-- a block whose first cells are numbers of 32 bits -/
def VJ (w : World) (g K : Nat) (f : Nat → Int) : Prop := ∃ cur : Array Value, Blk w g 21 cur ∧ K ≤ cur.size ∧ ∀ i, i < K → cur[i]? = some (jV (f i))
theorem VJ.of_blk {w : World} {g n : Nat} {f : Nat → Int} (h : Blk w g 21 (tabJ n f)) : VJ w g n f := ⟨_, h, by rw [tabJ_size]; exact Nat.le_refl _, fun _ hi => tabJ_at hi⟩
theorem VJ.congr {w : World} {g K : Nat} {f f2 : Nat → Int} (h : VJ w g K f) (e : ∀ i, i < K → f i = f2 i) : VJ w g K f2 := by
  obtain ⟨cur, h1, h2, h3⟩ := h
  exact ⟨cur, h1, h2, fun i hi => by rw [h3 i hi, e i hi]⟩
theorem VJ.rd {w : World} {g K i : Nat} {f : Nat → Int} (h : VJ w g K f) (hi : i < K) : w.cell? ⟨g, i, none⟩ = some (jV (f i)) := by
  obtain ⟨cur, h1, h2, h3⟩ := h
  exact h1.rd i (h3 i hi)
theorem VJ.from_ {w w' : World} {g K : Nat} {f : Nat → Int} (h : VJ w g K f) (hF : From w w') : VJ w' g K f := by
  obtain ⟨cur, h1, h2⟩ := h
  exact ⟨cur, h1.from_ hF, h2⟩
theorem VJ.only {w w' : World} {g g2 K : Nat} {f : Nat → Int} (h : VJ w g K f) (o : Only g2 w w') (hne : g ≠ g2) : VJ w' g K f := by
  obtain ⟨cur, h1, h2⟩ := h
  exact ⟨cur, h1.only o hne, h2⟩
theorem VJ.grown {w w' : World} {g K : Nat} {f : Nat → Int} {r : Option Nat} (h : VJ w g K f) (hg : w.grownBy w' r) (hne : ∀ q, r = some q → q ≠ g) : VJ w' g K f := by
  obtain ⟨cur, h1, h2⟩ := h
  exact ⟨cur, h1.grown hg hne, h2⟩
theorem VJ.put {w : World} {g K i : Nat} {f : Nat → Int} {v : Int} {cur : Array Value} (h : Blk w g 21 (cur.setIfInBounds i (jV v))) (hs : K ≤ cur.size) (hc : ∀ i, i < K → cur[i]? = some (jV (f i))) (hi : i < K) : VJ w g K (upd f i v) := by
  refine ⟨_, h, by rw [Array.size_setIfInBounds]; exact hs, fun j hj => ?_⟩
  rw [Array.getElem?_setIfInBounds]
  by_cases e : i = j
  · subst e; rw [if_pos rfl, if_pos (by omega), upd_same]
  · rw [if_neg e, upd_ne _ _ (fun h => e h.symm)]; exact hc j hj
theorem VJ.row {w : World} {g K : Nat} {f : Nat → Int} (h : VJ w g K f) : RowOf jV w (some ⟨g, 0, none⟩) ((List.range K).map f) := fun _ =>
  ⟨g, 0, rfl, fun i hi => by
    have hk : i < K := by simpa using hi
    have := h.rd hk
    simpa using this⟩
theorem VJ.range {w : World} {g K k : Nat} {f : Nat → Int} (h : VJ w g K f) (hk : k ≤ K) : w.rangeAt g 0 ((List.range k).map fun i => jV (f i)) := fun j v hv => by
  have hj : j < k := by
    rcases Nat.lt_or_ge j k with a | a
    · exact a
    · rw [List.getElem?_eq_none (by simpa using a)] at hv
      cases hv
  have e := h.rd (show j < K by omega)
  simp [hj] at hv
  rw [Nat.zero_add, e, ← hv]
theorem VJ.lt {w : World} {g K : Nat} {f : Nat → Int} (h : VJ w g K f) : g < w.heap.size := by
  obtain ⟨cur, h1, _⟩ := h
  exact h1.lt
theorem VJ.own {w : World} {base g K c : Nat} {f : Nat → Int} (h : w.ownsRow base 21 1 (.slice (some ⟨g, 0, none⟩) K c) K (((List.range K).map f).map jV)) (h0 : 0 < K) : VJ w g K f ∧ base ≤ g := by
  obtain ⟨g', cur, hA, hg, hb, h1, h2, h3, h4⟩ := own_blk h h0
  cases hA
  refine ⟨⟨_, hb, by rw [List.size_toArray, h3]; omega, fun i hi => ?_⟩, hg⟩
  rw [List.getElem?_toArray]
  have e := congrArg (fun l => l[i]?) h4
  rw [List.getElem?_take, if_pos (by omega)] at e
  rw [e]
  simp [hi]
section
variable {P : Program} {ρ : Operand → Value} {w : World} {t yt : TypeId} {x y : Operand}
theorem i32_in {a : Int} (h : -2147483648 ≤ a ∧ a ≤ 2147483647) : IntKind.i32.wrap a = a := by
  have e : ((2 : Int) ^ IntKind.i32.bits) = 4294967296 := by decide
  have e2 : ((2 : Int) ^ (IntKind.i32.bits - 1)) = 2147483648 := by decide
  unfold IntKind.wrap
  simp only [e, e2, show IntKind.i32.signed = true from rfl, Bool.true_and, decide_eq_true_eq]
  split <;> omega
theorem ro_add32 {a b r : Int} (hx : ρ x = .int .i32 a) (hy : ρ y = .int .i32 b) (he : a + b = r) (h : -2147483648 ≤ r ∧ r ≤ 2147483647) : RO P ρ (.binOp .add t x y yt) w (.int .i32 r) w := by
  have := ro_add (P := P) (ρ := ρ) (w := w) (t := t) (yt := yt) hx hy
  rwa [he, i32_in h] at this
theorem ro_sub32 {a b r : Int} (hx : ρ x = .int .i32 a) (hy : ρ y = .int .i32 b) (he : a - b = r) (h : -2147483648 ≤ r ∧ r ≤ 2147483647) : RO P ρ (.binOp .sub t x y yt) w (.int .i32 r) w := by
  have := ro_sub (P := P) (ρ := ρ) (w := w) (t := t) (yt := yt) hx hy
  rwa [he, i32_in h] at this
theorem ro_conv32 {src dst : TypeId} {k : IntKind} {a : Int} (hs : (P.underlying src).isSome = true) (hd : P.underlying dst = some (.int .i32)) (hx : ρ x = .int k a) (h : -2147483648 ≤ a ∧ a ≤ 2147483647) : RO P ρ (.convert src dst x) w (.int .i32 a) w :=
  ro_conv' hs hd hx (i32_in h)
theorem ro_make {e by_ m : Nat} {z : Value} {kl kc : IntKind} (ht : makeQ P t = some (e, by_, z)) (hz : z.cells = #[z]) (hx : ρ x = .int kl (m : Nat)) (hy : ρ y = .int kc (m : Nat)) (hm : m ≤ 9223372036854775807) (hb : by_ * m ≤ 281474976710656) :
    RO P ρ (.makeSlice t x y) w (.slice (some ⟨w.heap.size, 0, none⟩) m m) (w.alloc (.cells (List.replicate m z).toArray e)) := by
  unfold makeQ at ht
  split at ht
  · rename_i e' hu
    cases hi : P.info? e' with
    | none => simp [hi] at ht
    | some i =>
      rw [hi] at ht
      simp only [Option.bind_some] at ht
      split at ht
      · rename_i hs
        cases hzz : i.zero with
        | none => simp [hzz] at ht
        | some z' =>
          simp only [hzz, Option.map_some, Option.some.injEq, Prod.mk.injEq] at ht
          obtain ⟨rfl, rfl, rfl⟩ := ht
          have hr := run_make (P := P) w t e' i z' hu hi hzz kl kc (m : Int) (m : Int) (by omega) (Int.le_refl _) (by
            have : ((i.bytes * m : Nat) : Int) ≤ 281474976710656 := by omega
            rwa [Int.natCast_mul] at this) (by omega)
          have hcells : madeCells z'.cells ((m : Int).toNat * i.size) = (List.replicate m z').toArray := by
            rw [hs, Int.toNat_natCast, Nat.mul_one, hz]
            apply Array.ext_getElem?
            intro j
            simp only [madeCells, Array.getElem?_map]
            by_cases hj : j < m
            · simp [hj, Nat.mod_one]
            · simp [hj]
          rw [hcells, Int.toNat_natCast] at hr
          exact fun _ _ _ _ _ => by simp [execOp, hx, hy, hr]
      · cases ht
  · cases ht
end
/-! ### a text -/
section
open Classical
noncomputable def rb (n : Nat) (t : Nat → Nat) (i : Nat) : Bool := decide (rz n t i)
theorem rb_iff {n i : Nat} {t : Nat → Nat} : rb n t i = true ↔ rz n t i := decide_eq_true_iff
theorem rb_not {n i : Nat} {t : Nat → Nat} : rb n t i = false ↔ ¬ rz n t i := decide_eq_false_iff_not
end
def TextAt (w : World) (b n K : Nat) (t : Nat → Nat) (m : Nat) (ss : Nat → Nat) : Prop := ∃ gl gr AS cs ge, Blk w b 60 #[.slice (some ⟨gl, 0, none⟩) n n, .int .i64 (K : Nat), .slice (some ⟨gr, 0, none⟩) n n, .slice AS m cs, .slice (some ⟨ge, 0, none⟩) K K] ∧
  VJ w gl n (fun i => (t i : Nat)) ∧ Blk w gr 4 (tabB n (rb n t)) ∧ (0 < m → ∃ g, AS = some ⟨g, 0, none⟩ ∧ VJ w g m (fun k => (ss k : Nat))) ∧ VJ w ge K (fun c => (less n t (c + 1) : Nat))
theorem TextAt.from_ {w w' : World} {b n K m : Nat} {t ss : Nat → Nat} (h : TextAt w b n K t m ss) (hF : From w w') : TextAt w' b n K t m ss := by
  obtain ⟨gl, gr, AS, cs, ge, h1, h2, h3, h4, h5⟩ := h
  exact ⟨gl, gr, AS, cs, ge, h1.from_ hF, h2.from_ hF, h3.from_ hF, fun h0 => (let ⟨g, a, b⟩ := h4 h0; ⟨g, a, b.from_ hF⟩), h5.from_ hF⟩
end Go.Proofs.Ytpafbgdbjambgaa
