/- ARGUMENTS OF PLAIN DATA, READ BY THEIR SHAPE: integers, bools, strings, slices and structs of these, however deep. -/
import Derived.Test.YtpafbgdbjambgaaFrame
import Derived.OpenShut
namespace Go.Proofs.Ytpafbgdbjambgaa
open Go.ChangeShapes Go.WideShapes Go.ChangeAt Go.RowKit

/-- a shape; a struct is its fields in a row of 'pr', closed by 'unit' -/
inductive Ty where
  | int (k : IntKind) | bool | str | sl (t : Ty) | pr (t u : Ty) | unit

def Ty.den : Ty → Type
  | .int _ => Int | .bool => Bool | .str => ByteArray | .sl t => List t.den | .pr t u => t.den × u.den | .unit => Unit

def Ty.size : Ty → Nat
  | .pr t u => t.size + u.size | .unit => 0 | _ => 1

/-- at least so many bytes -/
def Ty.bytes : Ty → Nat
  | .int .i8 | .int .u8 | .bool => 1 | .int .i16 | .int .u16 => 2 | .int .i32 | .int .u32 => 4 | .int _ => 8 | .str => 16 | .sl _ => 24 | .pr t u => t.bytes + u.bytes | .unit => 0

/-- does this shape fit a type (inl), or the fields from this offset on (inr)? -/
def Ty.fits (P : Program) : Ty → TypeId ⊕ (List Field × Nat) → Bool
  | .int k, .inl T => match P.underlying T with | some (.int k') => decide (k' = k) | _ => false
  | .bool, .inl T => match P.underlying T with | some .bool => true | _ => false
  | .str, .inl T => match P.underlying T with | some .string => true | _ => false
  | .sl t, .inl T => match P.underlying T with | some (.slice e) => t.fits P (.inl e) && P.cellsOf e == t.size && decide (0 < t.size) && decide (t.bytes ≤ P.bytesOf e) | _ => false
  | .pr t u, .inl T => match P.underlying T with
    | some (.struct fs) => match fs.toList with
      | f :: r => f.offset == 0 && P.cellsOf f.type == t.size && t.fits P (.inl f.type) && u.fits P (.inr (r, t.size)) && P.cellsOf T == t.size + u.size
      | [] => false
    | _ => false
  | .pr t u, .inr (f :: r, o) => f.offset == o && P.cellsOf f.type == t.size && t.fits P (.inl f.type) && u.fits P (.inr (r, o + t.size))
  | .unit, .inr _ => true
  | _, _ => false

/-- the cells 'c' read as this -/
def Ty.At (w : World) : (t : Ty) → (Nat → Option Value) → t.den → Prop
  | .int k, c, n => c 0 = some (.int k n) ∧ (Lit.int k n).wf = true
  | .bool, c, b => c 0 = some (.bool b)
  | .str, c, s => c 0 = some (.string s) ∧ ByteArray.size s ≤ 140737488351232
  | .sl t, c, xs => ∃ (A : Option Addr) (cap : Nat), c 0 = some (.slice A (List.length xs) cap) ∧ List.length xs * t.bytes ≤ 140737488351232 ∧ (List.length xs ≤ cap ∧ cap ≤ 9223372036854775807 ∧ (A = none → cap = 0)) ∧
      (0 < List.length xs → ∃ b o, A = some ⟨b, o, none⟩ ∧ b < w.heap.size ∧ ∀ (i : Nat) (x : t.den), @getElem? (List t.den) Nat t.den _ _ xs i = some x → Ty.At w t (fun j => w.cell? ⟨b, o + i * t.size + j, none⟩) x)
  | .pr t u, c, x => Ty.At w t c x.1 ∧ Ty.At w u (fun j => c (t.size + j)) x.2
  | .unit, _, _ => True

theorem Ty.At.congr {w : World} : ∀ (t : Ty) {c c' : Nat → Option Value} {x : t.den}, (∀ j, j < t.size → c' j = c j) → t.At w c x → t.At w c' x
  | .int k, c, c', n, hc, h => ⟨(hc 0 (by simp [Ty.size])).trans h.1, h.2⟩
  | .bool, c, c', n, hc, h => (hc 0 (by simp [Ty.size])).trans h
  | .str, c, c', n, hc, h => ⟨(hc 0 (by simp [Ty.size])).trans h.1, h.2⟩
  | .sl t, c, c', n, hc, h => by
    obtain ⟨A, cap, h0, r⟩ := h
    exact ⟨A, cap, (hc 0 (by simp [Ty.size])).trans h0, r⟩
  | .pr t u, c, c', x, hc, h => ⟨Ty.At.congr t (fun j hj => hc j (by simp only [Ty.size]; omega)) h.1, Ty.At.congr u (fun j hj => hc _ (by simp only [Ty.size]; omega)) h.2⟩
  | .unit, _, _, _, _, _ => trivial

/-- what reads, reads as it did in a world that only grew -/
theorem Ty.At.from_ {w w' : World} (hw : From w w') : ∀ (t : Ty) {c : Nat → Option Value} {x : t.den}, t.At w c x → t.At w' c x
  | .int k, c, n, h => h
  | .bool, c, n, h => h
  | .str, c, n, h => h
  | .sl t, c, n, h => by
    obtain ⟨A, cap, h0, h1, h2, h3⟩ := h
    refine ⟨A, cap, h0, h1, h2, fun hp => ?_⟩
    obtain ⟨b, o, hA, hb, hi⟩ := h3 hp
    refine ⟨b, o, hA, Nat.lt_of_lt_of_le hb hw.size, fun i x hx => ?_⟩
    exact Ty.At.congr t (fun j _ => Below.cell (p := ⟨b, o + i * t.size + j, none⟩) hw hb) (Ty.At.from_ hw t (hi i x hx))
  | .pr t u, c, x, h => ⟨Ty.At.from_ hw t h.1, Ty.At.from_ hw u h.2⟩
  | .unit, _, _, _ => trivial

theorem lt_of_cell {w : World} {a : Addr} {v : Value} (h : w.cell? a = some v) : a.block < w.heap.size := by
  rcases Nat.lt_or_ge a.block w.heap.size with hlt | hge
  · exact hlt
  · unfold World.cell? at h
    rw [Array.getElem?_eq_none hge] at h
    cases h

section
variable {H : Type} {enc : TypeId × Value → H} {P : Program} {w : World} {base : Nat} {spare : Nat → Bool} {held : Bool}

theorem exists_list {α : Type} {n : Nat} {p : Nat → α → Prop} (h : ∀ i, i < n → ∃ x, p i x) : ∃ xs : List α, xs.length = n ∧ ∀ i x, xs[i]? = some x → p i x := by
  induction n with
  | zero => exact ⟨[], rfl, fun i x hx => by simp at hx⟩
  | succ n ih =>
    obtain ⟨xs, hl, hx⟩ := ih fun i hi => h i (by omega)
    obtain ⟨x, hp⟩ := h n (by omega)
    refine ⟨xs ++ [x], by simp [hl], fun i y hy => ?_⟩
    rcases Nat.lt_or_ge i xs.length with hlt | hge
    · rw [List.getElem?_append_left hlt] at hy
      exact hx i y hy
    · rw [List.getElem?_append_right hge] at hy
      have h0 : i - xs.length = 0 := by
        rcases Nat.eq_zero_or_pos (i - xs.length) with h0 | h0
        · exact h0
        · rw [List.getElem?_eq_none (by simp; omega)] at hy; cases hy
      rw [h0] at hy
      simp at hy
      subst hy
      obtain rfl : i = n := by omega
      exact hp

theorem weights_all {H : Type} {P : Program} {e : TypeId} : ∀ (l : List (DataW H)) (d : DataW H), d ∈ l → ∀ q ∈ d.weights P e, q ∈ DataW.weightsAll P e l
  | x :: r, d, h, q, hq => by
    simp only [DataW.weightsAll, List.mem_append]
    rcases List.mem_cons.1 h with rfl | h
    · exact .inl hq
    · exact .inr (weights_all r d h q hq)

/-- DOWN: what the row reads, and what the struct's fields read, this shape reads. -/
theorem Ty.of_trod : ∀ (t : Ty),
    (∀ (T : TypeId), t.fits P (.inl T) = true → ∀ (fuel : Nat) (cs : List Value) (y : DataW H × List MemPlace), DataW.trod enc P w base spare held fuel T cs = some y → (∀ n ∈ y.1.weights P T, n ≤ 140737488351232) → ∃ x, t.At w (fun j => cs[j]?) x) ∧
    (∀ (fs : List Field) (o : Nat), t.fits P (.inr (fs, o)) = true → ∀ (cs : List Value), cs.length = o + t.size → (∀ (j : Nat) (f : Field), fs[j]? = some f → ∃ (fuel : Nat) (y : DataW H × List MemPlace), DataW.trod enc P w base spare held fuel f.type ((cs.drop f.offset).take (P.cellsOf f.type)) = some y ∧ ∀ n ∈ y.1.weights P f.type, n ≤ 140737488351232) →
      ∃ x, t.At w (fun j => cs[o + j]?) x)
  | .int k => by
    refine ⟨fun T hf fuel cs y h hsz => ?_, fun fs o hf => by simp [Ty.fits] at hf⟩
    simp only [Ty.fits] at hf
    split at hf
    · rename_i k' hu
      obtain rfl : k' = k := by simpa using hf
      obtain ⟨n, rfl, _, hn⟩ := DataW.trod_int hu h
      exact ⟨n, rfl, hn⟩
    · cases hf
  | .bool => by
    refine ⟨fun T hf fuel cs y h hsz => ?_, fun fs o hf => by simp [Ty.fits] at hf⟩
    simp only [Ty.fits] at hf
    split at hf
    · rename_i hu
      obtain ⟨n, rfl, _⟩ := DataW.trod_bool hu h
      exact ⟨n, rfl⟩
    · cases hf
  | .str => by
    refine ⟨fun T hf fuel cs y h hsz => ?_, fun fs o hf => by simp [Ty.fits] at hf⟩
    simp only [Ty.fits] at hf
    split at hf
    · rename_i hu
      obtain ⟨n, rfl, rfl, hn⟩ := DataW.trod_string hu h
      exact ⟨n, rfl, by have := hsz n.data.toList.length (by simp [DataW.weights]); simpa using this⟩
    · cases hf
  | .sl t => by
    refine ⟨fun T hf fuel cs y h hsz => ?_, fun fs o hf => by simp [Ty.fits] at hf⟩
    simp only [Ty.fits] at hf
    split at hf
    · rename_i e hu
      simp only [Bool.and_eq_true, beq_iff_eq, decide_eq_true_eq] at hf
      obtain ⟨⟨⟨hft, hC⟩, hpos⟩, hby⟩ := hf
      rcases Go.Deep.open_slice hu h with ⟨rfl, _⟩ | ⟨a, len, cap, m, n, D, Pl, rfl, hb, hl, hm, hmm, rfl, hi⟩
      · exact ⟨[], none, 0, rfl, by simp, by simp, fun h0 => absurd h0 (by simp)⟩
      · have hlm : len ≤ m := by rw [hmm]; split <;> omega
        have key : ∀ i, i < len → ∃ x, t.At w (fun j => w.cell? ((a.add (i * t.size)).add j)) x := by
          intro i hil
          obtain ⟨cs', hc, ht'⟩ := hi i (by omega)
          obtain ⟨_, hcl, hat⟩ := World.cells?_some hc
          obtain ⟨x, hx⟩ := (Ty.of_trod t).1 e hft n cs' _ ht' (fun q hq => hsz q (by
            simp only [DataW.weights, hu, List.mem_cons, List.mem_append]
            exact .inr (.inl (weights_all ((List.range len).map D) (D i) (List.mem_map.2 ⟨i, List.mem_range.2 hil, rfl⟩) q hq))))
          rw [hC] at hat hcl
          exact ⟨x, Ty.At.congr t (fun j hj => hat j hj) hx⟩
        obtain ⟨xs, hxl, hxs⟩ := exists_list key
        have hwt := hsz ((((List.range len).map D).length + ((List.range (m - len)).map fun j => D (len + j)).length) * P.bytesOf e) (by simp [DataW.weights, hu])
        have hwt2 : len * t.bytes ≤ 140737488351232 := by
          refine Nat.le_trans (Nat.mul_le_mul ?_ hby) hwt
          simp
        unfold maxLen at hm
        refine ⟨xs, some a, cap, by rw [hxl]; rfl, by rw [hxl]; exact hwt2, ⟨by omega, by omega, fun hn => by cases hn⟩, fun h0 => ?_⟩
        have hc0 : ∃ v, w.cell? (a.add 0) = some v := by
          obtain ⟨cs', hc, _⟩ := hi 0 (by omega)
          obtain ⟨_, hcl, hat⟩ := World.cells?_some hc
          have h1 := hat 0 (by omega)
          rw [Go.Deep.add_add] at h1
          simp only [Nat.zero_mul, Nat.add_zero] at h1
          exact ⟨cs'[0]'(by omega), by rw [h1, List.getElem?_eq_getElem (by omega)]⟩
        obtain ⟨v, hv⟩ := hc0
        obtain ⟨b, o, spot⟩ := a
        have hspot : spot = none := by simpa [Addr.add] using World.cell?_spot hv
        subst hspot
        have hblt : b < w.heap.size := by simpa [Addr.add] using lt_of_cell hv
        refine ⟨b, o, rfl, hblt, fun i x hx => ?_⟩
        refine Ty.At.congr t (fun j hj => ?_) (hxs i x hx)
        rw [Go.Deep.add_add, Go.WideShapes.add_plain, Nat.add_assoc]
    · cases hf
  | .pr t u => by
    have main : ∀ (f : Field) (r : List Field) (o : Nat), (f.offset == o && P.cellsOf f.type == t.size && t.fits P (.inl f.type) && u.fits P (.inr (r, o + t.size))) = true → ∀ (cs : List Value), cs.length = o + (t.size + u.size) →
        (∀ (j : Nat) (g : Field), (f :: r)[j]? = some g → ∃ (fuel : Nat) (y : DataW H × List MemPlace), DataW.trod enc P w base spare held fuel g.type ((cs.drop g.offset).take (P.cellsOf g.type)) = some y ∧ ∀ n ∈ y.1.weights P g.type, n ≤ 140737488351232) →
        ∃ x, Ty.At w (.pr t u) (fun j => cs[o + j]?) x := by
      intro f r o hf cs hcs hall
      simp only [Bool.and_eq_true, beq_iff_eq] at hf
      obtain ⟨⟨⟨ho, hc⟩, ht⟩, hu⟩ := hf
      obtain ⟨fuel, y, hy, hyw⟩ := hall 0 f rfl
      obtain ⟨x1, h1⟩ := (Ty.of_trod t).1 _ ht _ _ _ hy hyw
      obtain ⟨x2, h2⟩ := (Ty.of_trod u).2 r (o + t.size) hu cs (by omega) (fun j g hg => hall (j + 1) g (by simpa using hg))
      refine ⟨(x1, x2), Ty.At.congr t (fun j hj => ?_) h1, Ty.At.congr u (fun j hj => ?_) h2⟩
      · simp only [hc, ho]
        rw [List.getElem?_take, if_pos hj, List.getElem?_drop]
      · simp only [Nat.add_assoc]
    refine ⟨fun T hf fuel cs y h hsz => ?_, fun fs o hf cs hcs hall => ?_⟩
    · simp only [Ty.fits] at hf
      split at hf
      · rename_i fs hu
        split at hf
        · rename_i f r hfs
          simp only [Bool.and_eq_true, beq_iff_eq] at hf
          obtain ⟨⟨⟨⟨ho, hc⟩, ht⟩, hu'⟩, hsz⟩ := hf
          obtain ⟨ys, n', _, rfl, hlen, _, hall⟩ := DataW.trod_struct hu h
          have hm := main f r 0 (by simp [ho, hc, ht, hu']) cs (by omega) (fun j g hg => by
            have hg' : fs[j]? = some g := by rw [← hfs] at hg; simpa using hg
            have := hall j g hg'
            have hjl : j < ys.length := by
              have : j < fs.size := (Array.getElem?_eq_some_iff.1 hg').1
              omega
            refine ⟨n', ys[j], by rw [hall j g hg', List.getElem?_eq_getElem hjl], fun q hq => hsz q ?_⟩
            simp only [DataW.weights, hu]
            exact DataW.weights_mem_each (j := j) (t := g.type) (d := ys[j].1) (by rw [List.getElem?_map, Array.getElem?_toList, hg']; rfl) (by rw [List.getElem?_map, List.getElem?_eq_getElem hjl]; rfl) q hq)
          simpa using hm
        · cases hf
      · cases hf
    · match fs, hf with
      | f :: r, hf =>
        simp only [Ty.fits] at hf
        exact main f r o hf cs (by simpa [Ty.size] using hcs) hall
      | [], hf => simp [Ty.fits] at hf
  | .unit => by
    refine ⟨fun T hf => by simp [Ty.fits] at hf, fun fs o hf cs hcs hall => ⟨(), trivial⟩⟩

end

/-- AN ARGUMENT that is a slice: it is of this form, and its elements read. -/
theorem arg_sl {H : Type} {enc : TypeId × Value → H} {w : World} {base : Nat} {T : TypeId} {v : Value} {d : DataW H} {p : List MemPlace} (t : Ty) (hf : (Ty.sl t).fits Try.prog (.inl T) = true)
    (hv : Value.okWide Try.prog w .any base T v) (h : DataW.Trod enc Try.prog w 0 (fun _ => true) true T v d p) (hsz : ∀ n ∈ d.weights Try.prog T, n ≤ 140737488351232) :
    ∃ (A : Option Addr) (cap : Nat) (xs : List t.den), v = .slice A xs.length cap ∧ xs.length * t.bytes ≤ 140737488351232 ∧ (xs.length ≤ cap ∧ cap ≤ 9223372036854775807) ∧
      (0 < xs.length → ∃ b o, A = some ⟨b, o, none⟩ ∧ b < w.heap.size ∧ ∀ (i : Nat) (x : t.den), xs[i]? = some x → t.At w (fun j => w.cell? ⟨b, o + i * t.size + j, none⟩) x) := by
  have hu : ∃ e, Try.prog.underlying T = some (.slice e) := by
    simp only [Ty.fits] at hf
    split at hf
    · rename_i e hu
      exact ⟨e, hu⟩
    · cases hf
  obtain ⟨e, hu⟩ := hu
  obtain ⟨a, len, cap, rfl⟩ := okWide_slice hu hv
  obtain ⟨fuel, hfu⟩ := h
  obtain ⟨xs, A, cap', h0, h1, h2, h3⟩ := (Ty.of_trod (.sl t)).1 T hf fuel _ _ hfu hsz
  refine ⟨A, cap', xs, ?_, h1, ⟨h2.1, h2.2.1⟩, h3⟩
  simpa [Value.cells] using h0

/-- AN ARGUMENT that is a struct by value: its cells read. -/
theorem arg_st {H : Type} {enc : TypeId × Value → H} {w : World} {base : Nat} {T : TypeId} {v : Value} {d : DataW H} {p : List MemPlace} (t u : Ty) (hf : (Ty.pr t u).fits Try.prog (.inl T) = true)
    (hv : Value.okWide Try.prog w .any base T v) (h : DataW.Trod enc Try.prog w 0 (fun _ => true) true T v d p) (hsz : ∀ n ∈ d.weights Try.prog T, n ≤ 140737488351232) :
    ∃ (cs : Array Value) (x : (Ty.pr t u).den), v = .agg cs ∧ cs.size = (Ty.pr t u).size ∧ (Ty.pr t u).At w (fun j => cs[j]?) x := by
  have hu : ∃ fs, Try.prog.underlying T = some (.struct fs) ∧ Try.prog.cellsOf T = (Ty.pr t u).size := by
    have hf' := hf
    simp only [Ty.fits] at hf'
    split at hf'
    · rename_i fs hu
      split at hf'
      · simp only [Bool.and_eq_true, beq_iff_eq] at hf'
        exact ⟨fs, hu, hf'.2⟩
      · cases hf'
    · cases hf'
  obtain ⟨fs, hu, hC⟩ := hu
  obtain ⟨cs, rfl, hcs⟩ := okWide_struct hu hv
  obtain ⟨fuel, hfu⟩ := h
  obtain ⟨x, hx⟩ := (Ty.of_trod (.pr t u)).1 T hf fuel _ _ hfu hsz
  refine ⟨cs, x, rfl, hcs.trans hC, ?_⟩
  simpa [Value.cells] using hx

/-- a slice of integers that reads: its value, its numbers -/
theorem at_ints {w : World} {k : IntKind} {c : Nat → Option Value} {xs : List Int} (h : (Ty.sl (.int k)).At w c xs) :
    ∃ (A : Option Addr) (cap : Nat), c 0 = some (.slice A xs.length cap) ∧ Row w (.slice A xs.length cap) (xs.map fun x => .int k x) ∧ (∀ x ∈ xs, (Lit.int k x).wf = true) ∧ xs.length * (Ty.int k).bytes ≤ 140737488351232 ∧ (xs.length ≤ cap ∧ cap ≤ 9223372036854775807) := by
  obtain ⟨A, cap, h0, h1, h2, h3⟩ := h
  refine ⟨A, cap, h0, ⟨A, cap, by rw [List.length_map], fun hp => ?_⟩, ?_, h1, ⟨h2.1, h2.2.1⟩⟩
  · obtain ⟨b, o, hA, hb, hi⟩ := h3 (by rw [List.length_map] at hp; exact hp)
    refine ⟨b, o, hA, hb, fun i u hu => ?_⟩
    rw [List.getElem?_map] at hu
    cases hx : xs[i]? with
    | none => rw [hx] at hu; cases hu
    | some x =>
      rw [hx] at hu
      simp only [Option.map_some, Option.some.injEq] at hu
      subst hu
      have := (hi i x hx).1
      simpa [Ty.size] using this
  · intro x hx
    obtain ⟨i, hi, rfl⟩ := List.mem_iff_getElem.1 hx
    obtain ⟨b, o, hA, hb, hii⟩ := h3 (Nat.lt_of_le_of_lt (Nat.zero_le _) hi)
    exact (hii i _ (List.getElem?_eq_getElem hi)).2

/-- a slice of bytes that reads -/
theorem at_bytes {w : World} {c : Nat → Option Value} {xs : List Int} (h : (Ty.sl (.int .u8)).At w c xs) :
    ∃ (A : Option Addr) (cap : Nat) (l : List Nat), c 0 = some (.slice A l.length cap) ∧ Row w (.slice A l.length cap) (l.map fun (x : Nat) => .int .u8 x) ∧ (∀ x ∈ l, x < 256) ∧ l.length ≤ 140737488351232 ∧ (l.length ≤ cap ∧ cap ≤ 9223372036854775807) := by
  obtain ⟨A, cap, h0, h1, h2, h3, h4⟩ := at_ints h
  have hr : ∀ x ∈ xs, 0 ≤ x ∧ x ≤ 255 := fun x hx => bounds_u8 (h2 x hx)
  have hm : (xs.map (·.toNat)).map (fun (x : Nat) => Value.int .u8 x) = xs.map fun x => .int .u8 x := by
    rw [List.map_map]
    refine List.map_congr_left fun x hx => ?_
    have := hr x hx
    simp only [Function.comp]
    congr 1
    omega
  refine ⟨A, cap, xs.map (·.toNat), by rw [List.length_map]; exact h0, by rw [List.length_map, hm]; exact h1, fun y hy => ?_, ?_, by rw [List.length_map]; exact h4⟩
  · simp only [List.mem_map] at hy
    obtain ⟨x, hx, rfl⟩ := hy
    have := hr x hx
    omega
  · rw [List.length_map]
    simpa [Ty.bytes] using h3

/-- a slice that reads is nil where it has no address -/
theorem at_nil {w : World} {t : Ty} {c : Nat → Option Value} {xs : List t.den} (h : (Ty.sl t).At w c xs) {m k : Nat} (h0 : c 0 = some (.slice none m k)) : m = 0 ∧ k = 0 := by
  obtain ⟨A, cap, h1, _, h2, h3⟩ := h
  rw [h0] at h1
  simp only [Option.some.injEq, Value.slice.injEq] at h1
  obtain ⟨rfl, rfl, rfl⟩ := h1
  have := h2.2.2 rfl
  omega

/-- a slice of strings that reads -/
theorem at_strs {w : World} {c : Nat → Option Value} {xs : List ByteArray} (h : (Ty.sl .str).At w c xs) :
    ∃ (A : Option Addr) (cap : Nat) (ts : List ByteArray), c 0 = some (.slice A ts.length cap) ∧ Row w (.slice A ts.length cap) (ts.map .string) ∧ (∀ x ∈ ts, ByteArray.size x ≤ 140737488351232) ∧ ts.length * 16 ≤ 140737488351232 ∧ (ts.length ≤ cap ∧ cap ≤ 9223372036854775807) := by
  obtain ⟨A, cap, h0, h1, h2, h3⟩ := h
  refine ⟨A, cap, xs, h0, ⟨A, cap, by rw [List.length_map], fun hp => ?_⟩, ?_, h1, ⟨h2.1, h2.2.1⟩⟩
  · obtain ⟨b, o, hA, hb, hi⟩ := h3 (by rw [List.length_map] at hp; exact hp)
    refine ⟨b, o, hA, hb, fun i u hu => ?_⟩
    rw [List.getElem?_map] at hu
    cases hx : xs[i]? with
    | none => rw [hx] at hu; cases hu
    | some x =>
      rw [hx] at hu
      simp only [Option.map_some, Option.some.injEq] at hu
      subst hu
      have := (hi i x hx).1
      simpa [Ty.size] using this
  · intro x hx
    obtain ⟨i, hi, rfl⟩ := List.mem_iff_getElem.1 hx
    obtain ⟨b, o, hA, hb, hii⟩ := h3 (Nat.lt_of_le_of_lt (Nat.zero_le _) hi)
    exact (hii i _ (List.getElem?_eq_getElem hi)).2

theorem at_int {w : World} {k : IntKind} {c : Nat → Option Value} {n : Int} (h : (Ty.int k).At w c n) : c 0 = some (.int k n) ∧ (Lit.int k n).wf = true := h
end Go.Proofs.Ytpafbgdbjambgaa
