/- RESULTS THAT STAND IN CELLS; CALLS THROUGH FUNCTION VALUES. -/
import Derived.Test.YtpafbgdbjambgaaFast5
namespace Go.Proofs.Ytpafbgdbjambgaa
open Go.RowKit

/-- a result is read as v -/
structure RV (P : Program) (n : Fr) (L : List (Nat × Value)) (w : World) (r : ResultVar) (v : Value) : Prop where
  out : match r with
    | .tmp t => (mkT n.n L)[t]?.getD undef = v
    | .cell a t => ∃ ad, (mkT n.n L)[a]?.getD undef = .pointer (some ad) ∧ (loadVar t ad).run P w = .ok v w
section
variable {P : Program} {n : Fr} {L : List (Nat × Value)} {w : World} {fn : Func}
theorem ev_at {t : Nat} {v : Value} (h : ev n L (.tmp t) = v) : (mkT n.n L)[t]?.getD undef = v := by
  have := getD_mkT n.n L t
  rw [← Array.getD_eq_getD_getElem?, this]
  exact h
theorem rv_tmp {t : Nat} {v : Value} (h : ev n L (.tmp t) = v) : RV P n L w (.tmp t) v := ⟨ev_at h⟩
theorem rv_cell {t ty : Nat} {ad : Addr} {v : Value} (ht : aggQ P ty = some false) (hx : ev n L (.tmp t) = .pointer (some ad)) (hc : w.cell? ad = some v) : RV P n L w (.cell t ty) v := ⟨ad, ev_at hx, by simp [loadVar, isAgg_of ht, hc]⟩
theorem rv_cellA {t ty b off : Nat} {cs : List Value} (ht : aggQ P ty = some true) (hs : sizeQ P ty = some cs.length) (hx : ev n L (.tmp t) = .pointer (some ⟨b, off, none⟩)) (hc : w.rangeAt b off cs) : RV P n L w (.cell t ty) (.agg cs.toArray) := ⟨_, ev_at hx, by
  have hl : (loadCells ⟨b, off, none⟩ cs.length).run P w = .ok cs.toArray w :=
    run_loadCells_list (P := P) w ⟨b, off, none⟩ cs (fun j v hv => by rw [Addr.add_mid]; exact hc j v hv)
  simp [loadVar, isAgg_of ht, sizeOf_of hs, hl]⟩
theorem ro_eq {ρ : Operand → Value} {op : Op} {w' : World} {v v' : Value} (h : RO P ρ op w v w') (he : v = v') : RO P ρ op w v' w' := he ▸ h
theorem ro_bt {ρ : Operand → Value} {op : Op} {w' : World} {b : Bool} (h : RO P ρ op w (.bool b) w') (he : b = true) : RO P ρ op w (.bool true) w' := he ▸ h
theorem ro_bf {ρ : Operand → Value} {op : Op} {w' : World} {b : Bool} (h : RO P ρ op w (.bool b) w') (he : b = false) : RO P ρ op w (.bool false) w' := he ▸ h
theorem ro_min {ρ : Operand → Value} {x y : Operand} {k : IntKind} {a b : Int} {ats : Array TypeId} (hx : ρ x = .int k a) (hy : ρ y = .int k b) : RO P ρ (.call { callee := .builtin .min, args := #[x, y], argTypes := ats }) w (.int k (min a b)) w := fun _ _ _ _ _ => by
  have h : (if b < a then b else a) = min a b := by split <;> omega
  simp [BigFrame.execOp_builtin, BigFrame.builtin_min, hx, hy, run_min_int2, h]
theorem ro_max {ρ : Operand → Value} {x y : Operand} {k : IntKind} {a b : Int} {ats : Array TypeId} (hx : ρ x = .int k a) (hy : ρ y = .int k b) : RO P ρ (.call { callee := .builtin .max, args := #[x, y], argTypes := ats }) w (.int k (max a b)) w := fun _ _ _ _ _ => by
  have h : (if a < b then b else a) = max a b := by split <;> omega
  simp [BigFrame.execOp_builtin, BigFrame.builtin_max, hx, hy, run_max_int2, h]
def restOf (A : Option Addr) (c l sz : Nat) : Option Addr := if c = l then A else A.map fun x => x.add (l * sz)
/-- a piece of any slice; the bounds are integers that are casts -/
theorem ro_sliceO {ρ : Operand → Value} {x : Operand} {t e sz l h m c : Nat} {A : Option Addr} (ht : elemQ P t = some (e, sz)) {lo hi : Option Operand} (hx : ρ x = .slice A m c)
    (hl : (lo = none ∧ l = 0) ∨ ∃ y k i, lo = some y ∧ ρ y = .int k i ∧ i = (l : Int)) (hh : (hi = none ∧ h = m) ∨ ∃ y k i, hi = some y ∧ ρ y = .int k i ∧ i = (h : Int)) (h1 : l ≤ h) (h2 : h ≤ c) :
    RO P ρ (.slice t x lo hi none) w (.slice (restOf A c l sz) (h - l) (c - l)) w := fun _ _ _ _ _ => by
  obtain ⟨hu, hs⟩ := elem_of ht
  have hE : P.elem t = e := by simp [Program.elem, hu]
  have hu' : P.underlying t = some (.slice (P.elem t)) := by rw [hE]; exact hu
  have fin : (Result.ok (sliced A l h c sz) w : Result Value) = .ok (.slice (restOf A c l sz) (h - l) (c - l)) w := by
    simp only [sliced, restOf]
  rcases hl with ⟨rfl, rfl⟩ | ⟨y1, k1, _, rfl, hy1, rfl⟩ <;> rcases hh with ⟨rfl, rfl⟩ | ⟨y2, k2, _, rfl, hy2, rfl⟩
  · simp only [execOp, hx, Option.map_none, Sem.run_bind]
    rw [run_sliceAt_slice w t _ _ _ _ hu', run_slice_all w t _ _ c hu', hE, sizeOf_of hs, Result.andThen_ok, fin]; rfl
  · simp only [execOp, hx, hy2, Option.map_none, Option.map_some, Sem.run_bind]
    rw [run_sliceAt_slice w t _ _ _ _ hu', run_slice_h w t _ m c hu' k2 (h : Int) (by omega) (by omega), hE, sizeOf_of hs, Result.andThen_ok, Int.toNat_natCast, fin]; rfl
  · simp only [execOp, hx, hy1, Option.map_none, Option.map_some, Sem.run_bind]
    rw [run_sliceAt_slice w t _ _ _ _ hu', run_slice_l w t _ _ c hu' k1 (l : Int) (by omega) (by omega), hE, sizeOf_of hs, Result.andThen_ok, Int.toNat_natCast, fin]; rfl
  · simp only [execOp, hx, hy1, hy2, Option.map_none, Option.map_some, Sem.run_bind]
    rw [run_sliceAt_slice w t _ _ _ _ hu', run_slice_lh w t _ m c hu' k1 k2 (l : Int) (h : Int) (by omega) (by omega) (by omega), hE, sizeOf_of hs, Result.andThen_ok, Int.toNat_natCast, Int.toNat_natCast, fin]; rfl
theorem resr1 {m : Nat} {r : ResultVar} {R : Value → World → Prop} {v : Value} (hr : fn.results = #[r]) (h1 : RV P ⟨m, []⟩ L w r v) (h : R v w) :
    bodyPost P fn (fun e w' => ∃ v, e = .returned v ∧ R v w') .ret (mkA ⟨m, []⟩ L) w := by
  refine bodyPost_ret (v := v) ?_ rfl ⟨v, rfl, h⟩
  have e1 := h1.out
  show (results fn (mkT m L)).run P w = _
  cases r <;> simp_all only [] <;> (try obtain ⟨_, _, _⟩ := e1) <;> simp_all [results, asAddr]
theorem resr2 {m : Nat} {r r' : ResultVar} {R : Value → World → Prop} {v v' : Value} (hr : fn.results = #[r, r']) (h1 : RV P ⟨m, []⟩ L w r v) (h2 : RV P ⟨m, []⟩ L w r' v') (h : R (.tuple #[v, v']) w) :
    bodyPost P fn (fun e w' => ∃ v, e = .returned v ∧ R v w') .ret (mkA ⟨m, []⟩ L) w := by
  refine bodyPost_ret (v := .tuple #[v, v']) ?_ rfl ⟨_, rfl, h⟩
  have e1 := h1.out
  have e2 := h2.out
  show (results fn (mkT m L)).run P w = _
  cases r <;> cases r' <;> simp_all only [] <;> (try obtain ⟨_, _, _⟩ := e1) <;> (try obtain ⟨_, _, _⟩ := e2) <;> simp_all [results, asAddr]
theorem resr3 {m : Nat} {r r' r'' : ResultVar} {R : Value → World → Prop} {v v' v'' : Value} (hr : fn.results = #[r, r', r'']) (h1 : RV P ⟨m, []⟩ L w r v) (h2 : RV P ⟨m, []⟩ L w r' v') (h3 : RV P ⟨m, []⟩ L w r'' v'') (h : R (.tuple #[v, v', v'']) w) :
    bodyPost P fn (fun e w' => ∃ v, e = .returned v ∧ R v w') .ret (mkA ⟨m, []⟩ L) w := by
  refine bodyPost_ret (v := .tuple #[v, v', v'']) ?_ rfl ⟨_, rfl, h⟩
  have e1 := h1.out
  have e2 := h2.out
  have e3 := h3.out
  show (results fn (mkT m L)).run P w = _
  cases r <;> cases r' <;> cases r'' <;> simp_all only [] <;> (try obtain ⟨_, _, _⟩ := e1) <;> (try obtain ⟨_, _, _⟩ := e2) <;> (try obtain ⟨_, _, _⟩ := e3) <;> simp_all [results, asAddr]
end
end Go.Proofs.Ytpafbgdbjambgaa
