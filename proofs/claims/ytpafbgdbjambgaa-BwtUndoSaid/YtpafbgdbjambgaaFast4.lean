/- STEPS THAT MAKE MEMORY OR WRITE INTO MEMORY OF THE CALL'S OWN: blocks that are known whole. -/
import Derived.Test.YtpafbgdbjambgaaFast3
namespace Go.Proofs.Ytpafbgdbjambgaa
open Go.RowKit

/-- nothing but block g has changed -/
structure Only (g : Nat) (w w' : World) : Prop where
  os : w'.os = w.os
  tape : w'.tape = w.tape
  output : w'.output = w.output
  size : w'.heap.size = w.heap.size
  block : ∀ k, k ≠ g → w'.heap[k]? = w.heap[k]?
theorem Only.setCell (w : World) (g i : Nat) (v : Value) : Only g w (w.setCell ⟨g, i, none⟩ v) := ⟨rfl, rfl, rfl, by simp, fun k hk => Below.heap_setCell w ⟨g, i, none⟩ v k hk⟩
theorem Only.trans {g : Nat} {w w1 w2 : World} (h : Only g w w1) (k : Only g w1 w2) : Only g w w2 := ⟨k.os.trans h.os, k.tape.trans h.tape, k.output.trans h.output, k.size.trans h.size, fun i hi => (k.block i hi).trans (h.block i hi)⟩
theorem Only.rfl_ {g : Nat} {w : World} : Only g w w := ⟨rfl, rfl, rfl, rfl, fun _ _ => rfl⟩
theorem From.only {a w w' : World} {g : Nat} (h : From a w) (o : Only g w w') (hg : a.heap.size ≤ g) : From a w' :=
  ⟨o.os.trans h.os, o.tape.trans h.tape, o.output.trans h.output, by rw [o.size]; exact h.size, fun k hk => (o.block k (by omega)).trans (h.block k hk)⟩
theorem Blk.only {w w' : World} {k g : Nat} {t : TypeId} {cs : Array Value} (h : Blk w k t cs) (o : Only g w w') (hk : k ≠ g) : Blk w' k t cs := (o.block k hk).trans h
theorem Only.cell {w w' : World} {g b i : Nat} (o : Only g w w') (hb : b ≠ g) : w'.cell? ⟨b, i, none⟩ = w.cell? ⟨b, i, none⟩ := World.cell?_of_block (w := w) (o.block b hb)
/-- a cell that is there stays as the world grows -/
theorem cellF {w w' : World} {a : Addr} {v : Value} (h : From w w') (hc : w.cell? a = some v) : w'.cell? a = some v :=
  (Below.cell h (World.block_lt_of_cell? w a hc)).trans hc
theorem Blk.rd {w : World} {g : Nat} {t : TypeId} {cs : Array Value} (h : Blk w g t cs) (i : Nat) {v : Value} (hv : cs[i]? = some v) : w.cell? ⟨g, i, none⟩ = some v := by rw [h.cell i]; exact hv
/-- some block that was made behind a -/
theorem Blk.ge {w : World} {g : Nat} {t : TypeId} {cs : Array Value} (_h : Blk w g t cs) {a : World} (hg : a.heap.size ≤ g) : a.heap.size ≤ g := hg

def over (cs : List Value) (o : Nat) (vs : List Value) : List Value := cs.take o ++ vs ++ cs.drop (o + vs.length)
theorem set_over (cs : List Value) (o : Nat) (v : Value) (vs : List Value) (h : o < cs.length) : over (cs.set o v) (o + 1) vs = over cs o (v :: vs) := by
  unfold over
  have h1 : (cs.set o v).take (o + 1) = cs.take o ++ [v] := by
    rw [List.take_set]
    have : cs.take (o + 1) = cs.take o ++ [cs[o]] := (List.take_append_getElem h).symm
    rw [this, List.set_append_right _ _ (by simp; omega)]
    have hm : min o cs.length = o := by omega
    simp [hm]
  have h2 : (cs.set o v).drop (o + 1 + vs.length) = cs.drop (o + (v :: vs).length) := by
    rw [List.drop_set_of_lt (by omega)]
    simp only [List.length_cons]
    congr 1
    omega
  rw [h1, h2]
  simp
theorem Blk.sets {t : TypeId} {g : Nat} : ∀ (vs : List Value) (o : Nat) {w : World} {cs : List Value}, Blk w g t cs.toArray → o + vs.length ≤ cs.length → Blk (w.setCells g o vs) g t (over cs o vs).toArray
  | [], o, w, cs, h, _ => by
    have : over cs o [] = cs := by simp [over]
    rw [this]
    exact h
  | v :: vs, o, w, cs, h, hl => by
    simp only [List.length_cons] at hl
    have h1 := h.set_ o v
    rw [List.setIfInBounds_toArray] at h1
    have := Blk.sets vs (o + 1) h1 (by simp; omega)
    rw [set_over cs o v vs (by omega)] at this
    exact this
theorem Only.sets {g : Nat} : ∀ (vs : List Value) (o : Nat) (w : World), Only g w (w.setCells g o vs)
  | [], _, _ => Only.rfl_
  | v :: vs, o, w => (Only.setCell w g o v).trans (Only.sets vs (o + 1) _)
theorem Blk.there {w : World} {g : Nat} {t : TypeId} {cs : Array Value} (h : Blk w g t cs) (o n : Nat) (hl : o + n ≤ cs.size) : w.there g o n := fun j hj =>
  ⟨by rw [h.cell]; simp [show o + j < cs.size by omega], h.frozen _⟩
theorem Blk.range {w : World} {g : Nat} {t : TypeId} {cs : List Value} (h : Blk w g t cs.toArray) (o : Nat) (vs : List Value) (hl : ∀ j v, vs[j]? = some v → cs[o + j]? = some v) : w.rangeAt g o vs := fun j v hv => by
  rw [h.cell]
  simpa using hl j v hv
theorem Blk.whole {w : World} {g : Nat} {t : TypeId} {cs : List Value} (h : Blk w g t cs.toArray) : w.rangeAt g 0 cs := h.range 0 cs fun j v hv => by rw [Nat.zero_add]; exact hv
theorem rangeF {w w' : World} {b o : Nat} {cs : List Value} (h : From w w') (hc : w.rangeAt b o cs) : w'.rangeAt b o cs := fun j v hv => cellF h (hc j v hv)

section
variable {P : Program} {ops : Array Oper} {Q : Exit → Act → World → Prop} {rest : List Oper} {n : Fr} {L : List (Nat × Value)} {w : World} {ty : TypeId} {pos : String} {after : Array Edge} {d : Nat} {t : TypeId} {x y : Operand}
theorem st_box {v : Value} (hx : ev n L x = v) (k : ∀ b w', From w w' → b = w.heap.size → Blk w' b t v.cells → St P ops Q rest n ((d, .pointer (some ⟨b, 0, none⟩)) :: L) w') :
    St P ops Q (⟨some d, .box t x, ty, pos, after, none⟩ :: rest) n L w :=
  st_val (ro_box hx) (k _ _ (From.rfl_.new _) rfl (Blk.new w t _))
theorem st_gbox {v : Value} {j : Nat} {b : Bool} (hg : wantQ ops n L j = .bool b) (hx : ev n L x = v) (k : ∀ b w', From w w' → b = w.heap.size → Blk w' b t v.cells → St P ops Q rest n ((d, .pointer (some ⟨b, 0, none⟩)) :: L) w') :
    St P ops Q (⟨some d, .box t x, ty, pos, after, some (j, b)⟩ :: rest) n L w :=
  st_gyes hg (ro_box hx) (k _ _ (From.rfl_.new _) rfl (Blk.new w t _))
theorem st_alloc {z : Value} (hz : zeroQ P t = some z) (k : ∀ b w', From w w' → b = w.heap.size → Blk w' b t z.cells → St P ops Q rest n ((d, .pointer (some ⟨b, 0, none⟩)) :: L) w') :
    St P ops Q (⟨some d, .alloc t, ty, pos, after, none⟩ :: rest) n L w :=
  st_val (ro_alloc hz) (k _ _ (From.rfl_.new _) rfl (Blk.new w t _))
/-- a store of one cell into a block that is known whole -/
theorem st_put {g i : Nat} {u : TypeId} {cs : Array Value} {v : Value} (ht : sizeQ P t = some 1) (hx : ev n L x = .pointer (some ⟨g, i, none⟩)) (hy : ev n L y = v) (h1 : v.oneCell' = true) (hb : Blk w g u cs) (hi : i < cs.size)
    (k : ∀ w', Only g w w' → Blk w' g u (cs.setIfInBounds i v) → St P ops Q rest n L w') : St P ops Q (⟨none, .store t x y, ty, pos, after, none⟩ :: rest) n L w := by
  have hc : w.cell? ⟨g, i, none⟩ = some (cs[i]'hi) := by rw [hb.cell]; simp [hi]
  exact st_store (rs_store ht hx hy h1 hc (hb.frozen i)) (k _ (Only.setCell w g i v) (hb.set_ i v))
/-- a store of many cells -/
theorem st_putA {g i : Nat} {u : TypeId} {cs vs : List Value} (ht : sizeQ P t = some vs.length) (hx : ev n L x = .pointer (some ⟨g, i, none⟩)) (hy : ev n L y = .agg vs.toArray) (h1 : ∀ v ∈ vs, v.oneCell' = true) (hb : Blk w g u cs.toArray) (hi : i + vs.length ≤ cs.length)
    (k : ∀ w', Only g w w' → Blk w' g u (over cs i vs).toArray → St P ops Q rest n L w') : St P ops Q (⟨none, .store t x y, ty, pos, after, none⟩ :: rest) n L w :=
  st_store (rs_storeA ht hx hy h1 (hb.there i vs.length (by simpa using hi))) (k _ (Only.sets vs i w) (Blk.sets vs i hb hi))
theorem over_all (cs vs : List Value) (h : vs.length = cs.length) : over cs 0 vs = vs := by
  unfold over
  simp [h]
/-- a store into a whole block -/
theorem st_putW {g : Nat} {u : TypeId} {cs : Array Value} {vs : List Value} (ht : sizeQ P t = some vs.length) (hx : ev n L x = .pointer (some ⟨g, 0, none⟩)) (hy : ev n L y = .agg vs.toArray) (h1 : ∀ v ∈ vs, v.oneCell' = true) (hb : Blk w g u cs) (hi : vs.length = cs.size)
    (k : ∀ w', Only g w w' → Blk w' g u vs.toArray → St P ops Q rest n L w') : St P ops Q (⟨none, .store t x y, ty, pos, after, none⟩ :: rest) n L w := by
  refine st_putA (cs := cs.toList) (u := u) ht hx hy h1 (by simpa using hb) (by simp; omega) fun w' o b => ?_
  rw [over_all cs.toList vs (by simp; omega)] at b
  exact k w' o b
/-- make -/
def makeQ (P : Program) (t : TypeId) : Option (TypeId × Nat × Value) := match P.underlying t with | some (.slice e) => (P.info? e).bind fun i => if i.size = 1 then i.zero.map fun z => (e, i.bytes, z) else none | _ => none
theorem st_make {e by_ m : Nat} {z : Value} {kl kc : IntKind} (ht : makeQ P t = some (e, by_, z)) (hz : z.cells = #[z]) (hx : ev n L x = .int kl (m : Nat)) (hy : ev n L y = .int kc (m : Nat)) (hm : m ≤ 9223372036854775807) (hb : by_ * m ≤ 281474976710656)
    (k : ∀ g w', From w w' → g = w.heap.size → Blk w' g e (List.replicate m z).toArray → St P ops Q rest n ((d, .slice (some ⟨g, 0, none⟩) m m) :: L) w') : St P ops Q (⟨some d, .makeSlice t x y, ty, pos, after, none⟩ :: rest) n L w := by
  unfold makeQ at ht
  split at ht
  · rename_i e' hu
    cases hi : P.info? e' with
    | none => simp [hi] at ht
    | some i =>
      rw [hi] at ht
      simp only [Option.bind_some] at ht
      split at ht
      · rename_i hs
        cases hzz : i.zero with
        | none => simp [hzz] at ht
        | some z' =>
          simp only [hzz, Option.map_some, Option.some.injEq, Prod.mk.injEq] at ht
          obtain ⟨rfl, rfl, rfl⟩ := ht
          have hr := run_make (P := P) w t e' i z' hu hi hzz kl kc (m : Int) (m : Int) (by omega) (Int.le_refl _) (by
            have : ((i.bytes * m : Nat) : Int) ≤ 281474976710656 := by omega
            rwa [Int.natCast_mul] at this) (by omega)
          have hcells : madeCells z'.cells ((m : Int).toNat * i.size) = (List.replicate m z').toArray := by
            rw [hs, Int.toNat_natCast, Nat.mul_one, hz]
            apply Array.ext_getElem?
            intro j
            simp only [madeCells, Array.getElem?_map]
            by_cases hj : j < m
            · simp [hj, Nat.mod_one]
            · simp [hj]
          rw [hcells, Int.toNat_natCast] at hr
          refine st_val (v := .slice (some ⟨w.heap.size, 0, none⟩) m m) (w' := w.alloc (.cells (List.replicate m z').toArray e')) (fun _ _ _ _ _ => ?_) (k _ _ (From.rfl_.new _) rfl (Blk.new w e' _))
          simp [execOp, hx, hy, hr]
      · cases ht
  · cases ht
end
end Go.Proofs.Ytpafbgdbjambgaa
