/- A REGION THAT DRAWS ITS ORDER, WITH LATE OPERATIONS: some operations of the head that reckon without memory need not stand ahead of all that is behind the head. -/
import Derived.Test.YtglndihdhaaccaaDoorProg
import Derived.WalkKit
import Derived.WalkSpells
import Derived.WalkLawsBesides
import Derived.Deep.QuietTactic
import Derived.BigQuiet
import Derived.Lib.Hide
import Derived.Deep.RegionHeld3
import Derived.Deep.LoopGhost
import Derived.OwnWalk
import Derived.KernelRfl
import Derived.Laws.BitsAllLaws
import Derived.Lib.AppendStr
import Derived.Laws.AppendOwnNone
import Derived.Still
import Derived.Deep.Draws
import Derived.Deep.MidRow
import Derived.Great.BuildSlice
import Derived.Test.YtglndihdhaaccaaDoorRows
import Derived.ProofKit
import Derived.Deep.Slices
import Derived.Deep.Fields
import Derived.ChangeSame
import Derived.SizedLaws
import Derived.Deep.DeepHandedRow
import Derived.Lib.LaidTab
import Derived.OpenShut
import Derived.Laws.IdiomStrings
set_option maxRecDepth 100000
namespace Go.Proofs.YtglndihdhaaccaaDoor
open Go.RowKit

/-- all that was there in a is in w as it was -/
abbrev From (a w : World) : Prop := Below a.heap.size a w

section
variable {a b w w' : World}
theorem From.rfl_ : From a a := Below.refl _ _
theorem From.new (h : From a w) (o : Obj) : From a (w.alloc o) := Below.alloc h h.size o
theorem From.d1 (h : From a w) : From a w.drew := Below.drew h
theorem From.next (h : From a w) (k : From w w') : From a w' := Below.trans h (Below.mono k h.size)
theorem From.set_ (h : From a w) {p : Addr} (hp : a.heap.size ≤ p.block) (u : Value) : From a (w.setCell p u) := Below.setCell h hp u
theorem From.grew (h : From a w) {row : Option Nat} (hg : w.grownBy w' row) (hr : ∀ k, row = some k → a.heap.size ≤ k) : From a w' := Below.grown h hg h.size hr
theorem From.cells (h : From a w) : ∀ k o, k < a.heap.size → w.cell? ⟨k, o, none⟩ = a.cell? ⟨k, o, none⟩ := fun k o hk => Below.cell (p := ⟨k, o, none⟩) h hk
end

theorem ret_int {k : IntKind} {a b : Int} (h : a = b) : Ending.returned (.int k a) = .returned (.int k b) := by rw [h]

/-- a block that is known whole -/
def Blk (w : World) (g : Nat) (t : TypeId) (cs : Array Value) : Prop := w.heap[g]? = some (.cells cs t (0, 0))
section
variable {w w' : World} {g : Nat} {t : TypeId} {cs : Array Value}
theorem Blk.lt (h : Blk w g t cs) : g < w.heap.size := by
  rcases Nat.lt_or_ge g w.heap.size with hlt | hge
  · exact hlt
  · unfold Blk at h; rw [Array.getElem?_eq_none hge] at h; cases h
theorem Blk.cell (h : Blk w g t cs) (i : Nat) : w.cell? ⟨g, i, none⟩ = cs[i]? := cell_of_row w g i cs t (0, 0) h
theorem Blk.frozen (h : Blk w g t cs) (i : Nat) : w.frozen? ⟨g, i, none⟩ = false := by
  unfold Blk at h
  simp [World.frozen?, h]
theorem Blk.new (w : World) (t : TypeId) (cs : Array Value) : Blk (w.alloc (.cells cs t)) w.heap.size t cs := heap_alloc_new w _
theorem Blk.set_ (h : Blk w g t cs) (i : Nat) (u : Value) : Blk (w.setCell ⟨g, i, none⟩ u) g t (cs.setIfInBounds i u) := by
  unfold Blk at h ⊢
  simp [World.setCell, Array.getElem?_modify, h]
theorem Blk.below {B : Nat} (h : Blk w g t cs) (hb : Below B w w') (hg : g < B) : Blk w' g t cs := (hb.block g hg).trans h
theorem Blk.from_ (h : Blk w g t cs) (hb : From w w') : Blk w' g t cs := h.below hb h.lt
end

/-- the slice value v reads as these one-cell values -/
def Row (w : World) (v : Value) (vs : List Value) : Prop :=
  ∃ (A : Option Addr) (cap : Nat), v = .slice A vs.length cap ∧ (0 < vs.length → ∃ b o, A = some ⟨b, o, none⟩ ∧ b < w.heap.size ∧ ∀ i u, vs[i]? = some u → w.cell? ⟨b, o + i, none⟩ = some u)
theorem Row.from_ {w w' : World} {v : Value} {vs : List Value} (h : Row w v vs) (hw : From w w') : Row w' v vs := by
  obtain ⟨A, cap, hv, hp⟩ := h
  refine ⟨A, cap, hv, fun h0 => ?_⟩
  obtain ⟨b, o, hA, hb, hc⟩ := hp h0
  exact ⟨b, o, hA, Nat.lt_of_lt_of_le hb hw.size, fun i u hu => (hw.cells _ _ hb).trans (hc i u hu)⟩
theorem Row.nil_ (w : World) : Row w (.slice none 0 0) [] := ⟨none, 0, rfl, fun h => absurd h (by simp)⟩
theorem Row.of_own {w : World} {base : Nat} {e : TypeId} {v : Value} {n : Nat} {xs : List Value} (h : w.ownsRow base e 1 v n xs) : Row w v xs := by
  have hl : xs.length = n := by simpa using h.1
  rcases h.2 with ⟨rfl, rfl⟩ | ⟨g, cap, cur, rfl, hg, hh, _⟩
  · have : xs = [] := List.eq_nil_of_length_eq_zero hl
    subst this
    exact Row.nil_ w
  · subst hl
    refine ⟨some ⟨g, 0, none⟩, cap, rfl, fun _ => ⟨g, 0, rfl, ?_, fun i u hu => ?_⟩⟩
    · rcases Nat.lt_or_ge g w.heap.size with hlt | hge
      · exact hlt
      · rw [Array.getElem?_eq_none hge] at hh; cases hh
    · have := h.cells (g := g) rfl i u hu
      rw [Addr.add_lit] at this
      exact this
theorem Row.blk {w : World} {g : Nat} {t : TypeId} {cs : Array Value} (h : Blk w g t cs) (cap : Nat) : Row w (.slice (some ⟨g, 0, none⟩) cs.size cap) cs.toList := by
  refine ⟨some ⟨g, 0, none⟩, cap, by simp, fun _ => ⟨g, 0, rfl, h.lt, fun i u hu => ?_⟩⟩
  rw [Nat.zero_add, h.cell i]
  simpa using hu

/-- the values that a slice value reads as, by index -/
theorem row_vals {α : Type} {f : α → Value} {w : World} {v : Value} {xs : List α} (hr : Row w v (xs.map f)) : ∃ A cap, v = .slice A xs.length cap ∧
    (0 < xs.length → ∃ b o, A = some ⟨b, o, none⟩ ∧ b < w.heap.size ∧ ∀ i (h : i < xs.length), w.cell? ⟨b, o + i, none⟩ = some (f xs[i])) := by
  obtain ⟨A, cap, rfl, hp⟩ := hr
  rw [List.length_map] at hp ⊢
  refine ⟨A, cap, rfl, fun h0 => ?_⟩
  obtain ⟨b, o, hA, hb, hc⟩ := hp h0
  refine ⟨b, o, hA, hb, fun i hi => hc i _ ?_⟩
  rw [List.getElem?_map, List.getElem?_eq_getElem hi]
  rfl

/-- append(s, u) onto a row of the call's own: the new one-cell block lies on top -/
theorem wpList_push {ops : Array Oper} {rest : List Oper} {o : Oper} {a : Act} {Q : Exit → Act → World → Prop} {wr : World} {u : Value} {te : TypeId} (a0 : World) (hgd : o.guard = none) (s x : Operand) (t : TypeId)
    (ho : o.op = .call { callee := .builtin .append, args := #[s, x], argTypes := #[t, t] }) (e : TypeId) (i : TypeInfo) (z : Value) (bytes : Nat)
    (ht : Tryd.prog.underlying t = some (.slice e)) (hi : Tryd.prog.info? e = some i) (hz : i.zero = some z) (hsize : i.size = 1) (hby : i.bytes = bytes) (hzs : z.cells.size = 1)
    (v : Value) (n : Nat) (xs : List Value) (hs : a.eval s = v) (hown : wr.ownsRow a0.heap.size e 1 v n xs) (hw : From a0 wr) (hx : a.eval x = .slice (some ⟨wr.heap.size, 0, none⟩) 1 1) (h1 : u.oneCell' = true)
    (hroom : (n + 1) * bytes ≤ 140737488355328) (hmax : n + 1 ≤ maxLen)
    (h : ∀ v' w', w'.ownsRow a0.heap.size e 1 v' (n + 1) (xs ++ [u]) → From a0 w' → wpList Tryd.prog ops Q rest (a.put o.dst v') w') : wpList Tryd.prog ops Q (o :: rest) a (wr.alloc (.cells #[u] te)) := by
  refine wpList_append_own (P := Tryd.prog) _ hgd s x t ho a0.heap.size e i z 1 bytes ht hi hz hsize hby hzs (by decide) v n xs hs (hown.alloc _) ⟨wr.heap.size, 0, none⟩ 1 1 [u] hx rfl ?_ ?_ hmax hroom ?_ ?_
  · intro j y hy
    cases j with
    | zero =>
      simp only [List.getElem?_cons_zero, Option.some.injEq] at hy
      subst hy
      rw [Addr.add_lit, (Blk.new wr te #[u]).cell]
      rfl
    | succ j => simp at hy
  · intro y hy
    simp only [List.mem_singleton] at hy
    subst hy
    exact h1
  · exact (hw.new _).size
  · intro v' w' hown' hg _
    exact h v' w' hown' ((hw.new _).grew hg (fun k hk => (hown.lt k hk).1))

theorem own_form {w : World} {base : Nat} {e : TypeId} {size : Nat} {v : Value} {n : Nat} {xs : List Value} (h : w.ownsRow base e size v n xs) : ∃ A cap, v = .slice A n cap := by
  rcases h.2 with ⟨rfl, rfl⟩ | ⟨g, cap, cur, rfl, _⟩
  · exact ⟨none, 0, rfl⟩
  · exact ⟨_, cap, rfl⟩

theorem _root_.Go.World.ownsRow.kept_from {w w' : World} {base : Nat} {e : TypeId} {size : Nat} {v : Value} {n : Nat} {xs : List Value} (h : w.ownsRow base e size v n xs) (hw : From w w') : w'.ownsRow base e size v n xs := by
  refine ⟨h.1, ?_⟩
  rcases h.2 with h2 | ⟨g, cap, cur, hv, hg, hh, r⟩
  · exact .inl h2
  · refine .inr ⟨g, cap, cur, hv, hg, ?_, r⟩
    rw [hw.block g (by
      rcases Nat.lt_or_ge g w.heap.size with hlt | hge
      · exact hlt
      · rw [Array.getElem?_eq_none hge] at hh; cases hh)]
    exact hh
end Go.Proofs.YtglndihdhaaccaaDoor

namespace Go.Proofs.YtglndihdhaaccaaDoor.CM

abbrev W32 := BitVec 32

/-- the sum of the columns where x has a bit, from bit i on -/
def comb : List W32 → Nat → W32 → W32
  | [], _, _ => 0#32
  | c :: r, i, x => (if x.getLsbD i then c else 0#32) ^^^ comb r (i + 1) x

structure Add (f : W32 → W32) : Prop where
  zero : f 0#32 = 0#32
  add : ∀ a b, f (a ^^^ b) = f a ^^^ f b

theorem top (x : W32) (i : Nat) : (x >>> i) <<< i = (if x.getLsbD i then (1#32 <<< i) else 0#32) ^^^ ((x >>> (i + 1)) <<< (i + 1)) := by
  apply BitVec.eq_of_getLsbD_eq
  intro j hj
  rw [BitVec.getLsbD_xor]
  have e : (if x.getLsbD i then (1#32 <<< i) else 0#32).getLsbD j = (x.getLsbD i && decide (j = i)) := by
    by_cases h : x.getLsbD i
    · simp only [h, if_true, Bool.true_and]
      simp [BitVec.getLsbD_shiftLeft, hj]
      by_cases hji : j = i
      · simp [hji]
      · by_cases hlt : j < i
        · simp [hlt, hji]
        · have : j - i ≠ 0 := by omega
          simp [hlt, hji, this]
    · simp [h]
  rw [e]
  simp only [BitVec.getLsbD_shiftLeft, BitVec.getLsbD_ushiftRight, hj, decide_true, Bool.true_and]
  by_cases h1 : j < i
  · have h2 : j < i + 1 := by omega
    have h3 : ¬ j = i := by omega
    simp [h1, h2, h3]
  · by_cases h3 : j = i
    · subst h3
      simp
    · have h2 : ¬ j < i + 1 := by omega
      have h4 : i + (j - i) = j := by omega
      have h5 : i + 1 + (j - (i + 1)) = j := by omega
      simp [h1, h2, h3, h4, h5]

def basis : List W32 := (List.range' 0 32).map fun k => 1#32 <<< k

/-- gauss, to find an inverse's columns (what it finds is checked, not trusted) -/
def pivot (r : W32 × W32) (l : List (W32 × W32)) (i : Nat) : List (W32 × W32) := l.map fun p => if p.1.getLsbD i then (p.1 ^^^ r.1, p.2 ^^^ r.2) else p
def gauss : Nat → Nat → List (W32 × W32) → List (W32 × W32) → List (W32 × W32)
  | 0, _, done, _ => done
  | n + 1, i, done, todo =>
    match todo.find? (fun p => p.1.getLsbD i) with
    | none => done
    | some r => gauss n (i + 1) (pivot r done i ++ [r]) (pivot r (todo.filter fun p => p.1 != r.1) i)
def invCols (f : W32 → W32) : List W32 := (gauss 32 0 [] (basis.map fun e => (f e, e))).map (·.2)

def tabL : List W32 := [0, 498536548, 997073096, 651767980, 1994146192, 1802195444, 1303535960, 1342533948, 3988292384, 4027552580, 3604390888, 3412177804, 2607071920, 2262029012, 2685067896, 3183342108]
def tab (i : Nat) : W32 := tabL.getD i 0
def half (c : W32) : W32 := (c >>> 4) ^^^ tab (c &&& 15#32).toNat
def bstep (c : W32) : W32 := if c &&& 1#32 = 1#32 then (c >>> 1) ^^^ 3988292384#32 else c >>> 1

theorem low4 (a : W32) : (a &&& 15#32).toNat < 16 := by
  rw [BitVec.toNat_and]
  exact Nat.lt_of_le_of_lt Nat.and_le_right (by decide)
def step8 (c : W32) : W32 := half (half c)
def inv8 : W32 → W32 := comb (invCols step8) 0
/-- the register behind these bytes -/
def reg : W32 → List Nat → W32
  | c, [] => c
  | c, b :: r => reg (step8 (c ^^^ BitVec.ofNat 32 b)) r
theorem reg_app : ∀ (l m : List Nat) (c : W32), reg c (l ++ m) = reg (reg c l) m
  | [], _, _ => rfl
  | x :: r, m, c => by simp only [List.cons_append, reg]; exact reg_app r m _
end Go.Proofs.YtglndihdhaaccaaDoor.CM

namespace Go.Proofs.YtglndihdhaaccaaDoor

def RowC (w : World) (v : Value) (vs : List Value) : Prop := Row w v vs ∧ ∃ A cap, v = .slice A vs.length cap ∧ vs.length ≤ cap ∧ cap ≤ 9223372036854775807
theorem RowC.from_ {w w' : World} {v : Value} {vs : List Value} (h : RowC w v vs) (hw : From w w') : RowC w' v vs := ⟨h.1.from_ hw, h.2⟩
theorem RowC.of_own {w : World} {base : Nat} {e : TypeId} {v : Value} {n : Nat} {xs : List Value} (h : w.ownsRow base e 1 v n xs) : RowC w v xs := by
  refine ⟨Row.of_own h, ?_⟩
  have hl : xs.length = n := by simpa using h.1
  rcases h.2 with ⟨rfl, rfl⟩ | ⟨g, cap, cur, rfl, hg, hh, h1, h2, _⟩
  · exact ⟨none, 0, by rw [hl], by omega, by decide⟩
  · exact ⟨_, cap, by rw [hl], by omega, by unfold maxLen at h2; omega⟩
theorem RowC.parts {w : World} {v : Value} {vs : List Value} (h : RowC w v vs) : ∃ A cap, v = .slice A vs.length cap ∧ vs.length ≤ cap ∧ cap ≤ 9223372036854775807 ∧ (0 < vs.length → ∃ b o, A = some ⟨b, o, none⟩ ∧ b < w.heap.size ∧ ∀ i u, vs[i]? = some u → w.cell? ⟨b, o + i, none⟩ = some u) := by
  obtain ⟨⟨A', c', hv', hp⟩, A, cap, rfl, h1, h2⟩ := h
  simp only [Value.slice.injEq] at hv'
  obtain ⟨rfl, -, rfl⟩ := hv'
  exact ⟨A, cap, rfl, h1, h2, hp⟩
theorem RowC.cut {w : World} {A : Option Addr} {n cap : Nat} {vs : List Value} (h : RowC w (.slice A n cap) vs) {k : Nat} (hk : k ≤ vs.length) : RowC w (.slice A k cap) (vs.take k) := by
  obtain ⟨A', c', hv, h1, h2, hp⟩ := h.parts
  simp only [Value.slice.injEq] at hv
  obtain ⟨rfl, rfl, rfl⟩ := hv
  have hlen : (vs.take k).length = k := by simp [Nat.min_eq_left hk]
  refine ⟨⟨A, cap, by rw [hlen], fun h0 => ?_⟩, A, cap, by rw [hlen], by omega, h2⟩
  rw [hlen] at h0
  obtain ⟨b, o, hA, hb, hc⟩ := hp (by omega)
  refine ⟨b, o, hA, hb, fun i u hu => hc i u ?_⟩
  rw [List.getElem?_take] at hu
  split at hu
  · exact hu
  · cases hu
theorem RowC.blk {w : World} {g : Nat} {t : TypeId} {cs : Array Value} (h : Blk w g t cs) (cap : Nat) (h1 : cs.size ≤ cap) (h2 : cap ≤ 9223372036854775807) : RowC w (.slice (some ⟨g, 0, none⟩) cs.size cap) cs.toList :=
  ⟨Row.blk h cap, some ⟨g, 0, none⟩, cap, by simp, by simpa using h1, h2⟩
/-- the address of a rest, as the model spells it -/
def restA (A : Option Addr) (cap k : Nat) : Option Addr := if cap = k then A else A.map (·.add k)
theorem RowC.rest {w : World} {A : Option Addr} {n cap : Nat} {vs : List Value} (h : RowC w (.slice A n cap) vs) {k : Nat} (hk : k ≤ vs.length) : RowC w (.slice (restA A cap k) (n - k) (cap - k)) (vs.drop k) := by
  obtain ⟨A', c', hv, h1, h2, hp⟩ := h.parts
  simp only [Value.slice.injEq] at hv
  obtain ⟨rfl, rfl, rfl⟩ := hv
  have hlen : (vs.drop k).length = vs.length - k := by simp
  refine ⟨⟨_, _, by rw [hlen], fun h0 => ?_⟩, _, _, by rw [hlen], by omega, by omega⟩
  rw [hlen] at h0
  obtain ⟨b, o, rfl, hb, hcc⟩ := hp (by omega)
  refine ⟨b, o + k, by unfold restA; rw [if_neg (by omega)]; simp [Addr.add_lit], hb, fun i u hu => ?_⟩
  rw [Nat.add_assoc]
  refine hcc _ u ?_
  rwa [List.getElem?_drop] at hu
end Go.Proofs.YtglndihdhaaccaaDoor

namespace Go.Proofs.YtglndihdhaaccaaDoor

def strB (s : ByteArray) : List Nat := s.data.toList.map (·.toNat)
theorem strB_length (s : ByteArray) : (strB s).length = s.size := by rw [strB, List.length_map, Array.length_toList]; rfl
theorem strB_lt (s : ByteArray) : ∀ b ∈ strB s, b < 256 := by
  intro b hb
  simp only [strB, List.mem_map] at hb
  obtain ⟨x, _, rfl⟩ := hb
  exact x.toNat_lt
def bytesV (l : List Nat) : List Value := l.map fun (x : Nat) => .int .u8 x
theorem bytesV_length (l : List Nat) : (bytesV l).length = l.length := by simp [bytesV]
theorem bytesV_append (l m : List Nat) : bytesV (l ++ m) = bytesV l ++ bytesV m := by simp [bytesV]
theorem strCells_bytesV (s : ByteArray) : Lib.strCells s = bytesV (strB s) := by simp [Lib.strCells, bytesV, strB]
theorem bytesV_one (l : List Nat) : ∀ u ∈ bytesV l, u.oneCell' = true := by
  intro u hu
  simp only [bytesV, List.mem_map] at hu
  obtain ⟨b, _, rfl⟩ := hu
  rfl

theorem wpList_pusht {ops : Array Oper} {rest : List Oper} {o : Oper} {a : Act} {Q : Exit → Act → World → Prop} {wr : World} (a0 : World) (hgd : o.guard = none) (s x : Operand) (t u : TypeId)
    (ho : o.op = .call { callee := .builtin .append, args := #[s, x], argTypes := #[t, u] }) (e : TypeId) (i : TypeInfo)
    (ht : Tryd.prog.underlying t = some (.slice e)) (hu : Tryd.prog.underlying u = some .string) (hi : Tryd.prog.info? e = some i) (hz : i.zero = some (.int .u8 0)) (hsize : i.size = 1) (hby : i.bytes = 1)
    (v : Value) (n : Nat) (xs : List Nat) (hs : a.eval s = v) (hown : wr.ownsRow a0.heap.size e 1 v n (bytesV xs)) (hw : From a0 wr) (str : ByteArray) (hx : a.eval x = .string str)
    (hroom : n + str.size ≤ 140737488355328)
    (h : ∀ v' w', w'.ownsRow a0.heap.size e 1 v' (n + str.size) (bytesV (xs ++ strB str)) → From a0 w' → wpList Tryd.prog ops Q rest (a.put o.dst v') w') : wpList Tryd.prog ops Q (o :: rest) a wr := by
  refine Lib.wpList_append_own_string (P := Tryd.prog) _ hgd s x t u ho a0.heap.size e i ht hu hi hz hsize hby v n _ hs hown str hx (by unfold maxLen; omega) hroom hw.size ?_
  intro v' w' hown' hg _
  rw [strCells_bytesV, ← bytesV_append] at hown'
  exact h v' w' hown' (hw.grew hg (fun k hk => (hown.lt k hk).1))
end Go.Proofs.YtglndihdhaaccaaDoor

namespace Go.Proofs.YtglndihdhaaccaaDoor
open Go.RowKit CM

theorem u32_ofInt (x : BitVec 32) : BitVec.ofInt 32 (x.toNat : Int) = x := by
  rw [BitVec.ofInt_natCast]; apply BitVec.eq_of_toNat_eq; rw [BitVec.toNat_ofNat]; exact Nat.mod_eq_of_lt x.isLt
theorem wrap_toNat (x : BitVec 32) : IntKind.u32.wrap (x.toNat : Int) = (x.toNat : Int) := by
  have h := x.isLt
  rw [IntKind.wrap_u32']
  omega
theorem xor32 (x y : BitVec 32) : bits BinOp.xor IntKind.u32 (x.toNat : Int) (y.toNat : Int) = ((x ^^^ y).toNat : Int) := by
  show IntKind.u32.wrap ((BitVec.ofInt 32 (x.toNat : Int) ^^^ BitVec.ofInt 32 (y.toNat : Int)).toNat : Int) = _
  rw [u32_ofInt, u32_ofInt, wrap_toNat]
theorem and32 (x y : BitVec 32) : bits BinOp.and IntKind.u32 (x.toNat : Int) (y.toNat : Int) = ((x &&& y).toNat : Int) := by
  show IntKind.u32.wrap ((BitVec.ofInt 32 (x.toNat : Int) &&& BitVec.ofInt 32 (y.toNat : Int)).toNat : Int) = _
  rw [u32_ofInt, u32_ofInt, wrap_toNat]
theorem and15 (x : BitVec 32) : bits BinOp.and IntKind.u32 (x.toNat : Int) 15 = ((x &&& 15#32).toNat : Int) := and32 x 15#32
theorem shr4 (x : BitVec 32) : (x.toNat : Int) / 16 = ((x >>> 4).toNat : Int) := by
  rw [BitVec.toNat_ushiftRight, Nat.shiftRight_eq_div_pow]; omega
/-- the table, in every world that only grew -/
def Table (w : World) : Prop := ∀ i, i < 16 → w.cell? ⟨0, i, none⟩ = some (.int .u32 ((tab i).toNat : Int))
theorem Table.from_ {w w' : World} (h : Table w) (hw : From w w') : Table w' := fun i hi => (hw.cells _ _ (by
  rcases Nat.lt_or_ge 0 w.heap.size with hlt | hge
  · exact hlt
  · have := h 0 (by omega)
    unfold World.cell? at this
    rw [Array.getElem?_eq_none hge] at this
    cases this)).trans (h i hi)

set_option maxHeartbeats 400000 in
theorem half_any (c : BitVec 32) (w : World) (hT : Table w) :
    Calls Tryd.prog 34 #[.int .u32 (c.toNat : Int)] w fun e w' => e = .returned (.int .u32 ((half c).toNat : Int)) ∧ w = w' := by
  have h15 := low4 c
  have hT1 := hT _ h15
  have e1 := and15 c
  have e2 := shr4 c
  have e3 := xor32 (c >>> 4) (tab (c &&& 15#32).toNat)
  rw [← e2] at e3
  have hh : half c = (c >>> 4) ^^^ tab (c &&& 15#32).toNat := rfl
  rw [← hh] at e3
  clear hh hT e2
  generalize (half c).toNat = r at *
  generalize (tab (c &&& 15#32).toNat).toNat = t at *
  generalize (c &&& 15#32).toNat = m at *
  generalize c.toNat = x at *
  have i1 : (0 : Int) ≤ (m : Int) := by omega
  have i2 : (m : Int) < 16 := by omega
  go_enter Tryd.func34, Tryd.ntmps34
  go_wp2
  go_ret
  exact ⟨ret_int e3, rfl⟩

set_option maxHeartbeats 400000 in
/-- the receiver's block -/
theorem take_any (g : Nat) (c : BitVec 32) (b : Nat) (w : World) (hb : b < 256) (hT : Table w) (hg : w.cell? ⟨g, 0, none⟩ = some (.int .u32 (c.toNat : Int))) (hf : w.frozen? ⟨g, 0, none⟩ = false) :
    Calls Tryd.prog 29 #[.pointer (some ⟨g, 0, none⟩), .int .u8 (b : Int)] w fun e w' => e = .returned (.tuple #[]) ∧ w' = w.setCell ⟨g, 0, none⟩ (.int .u32 ((step8 (c ^^^ BitVec.ofNat 32 b)).toNat : Int)) := by
  have e1 := xor32 c (BitVec.ofNat 32 b)
  have hbn : ((BitVec.ofNat 32 b).toNat : Int) = (b : Int) := by rw [BitVec.toNat_ofNat, Nat.mod_eq_of_lt (by omega)]
  rw [hbn] at e1
  have c1 := half_any (c ^^^ BitVec.ofNat 32 b) w hT
  have c2 := half_any (half (c ^^^ BitVec.ofNat 32 b)) w hT
  have hs : step8 (c ^^^ BitVec.ofNat 32 b) = half (half (c ^^^ BitVec.ofNat 32 b)) := rfl
  rw [hs]
  clear hbn hs hT
  generalize (half (half (c ^^^ BitVec.ofNat 32 b))).toNat = r at *
  generalize (half (c ^^^ BitVec.ofNat 32 b)).toNat = q at *
  generalize (c ^^^ BitVec.ofNat 32 b).toNat = p at *
  generalize c.toNat = x at *
  have C1 := Lib.hid c1
  have C2 := Lib.hid c2
  clear c1 c2
  go_enter Tryd.func29, Tryd.ntmps29
  go_wp2_with (first
    | (go_at_call 34; (with_reducible refine C1.out.mono ?_); rintro e w1 ⟨rfl, rfl⟩)
    | (go_at_call 34; (with_reducible refine C2.out.mono ?_); rintro e w1 ⟨rfl, rfl⟩))
  go_end0
  exact ⟨rfl, rfl⟩

def CM.Bytes (l : List Nat) : Prop := ∀ b ∈ l, b < 256
def sumF (s : BitVec 32) (l : List Nat) : BitVec 32 := ~~~(reg (~~~s) l)

theorem not32 (x : BitVec 32) : bits BinOp.xor IntKind.u32 IntKind.u32.max (x.toNat : Int) = ((~~~x).toNat : Int) := by
  have h := xor32 (BitVec.allOnes 32) x
  have e : ((BitVec.allOnes 32).toNat : Int) = IntKind.u32.max := by decide +kernel
  rw [e, BitVec.allOnes_xor] at h
  exact h

def SumRel (w : World) (ns : BitVec 32) (l : List Nat) (i : Value) (wr : World) : Prop :=
  ∃ j : Nat, j ≤ l.length ∧ i = .int .i64 j ∧ From w wr ∧ wr.cell? ⟨w.heap.size, 0, none⟩ = some (.int .u32 ((reg ns (l.take j)).toNat : Int)) ∧ wr.frozen? ⟨w.heap.size, 0, none⟩ = false

theorem sum_next {w wr : World} {ns : BitVec 32} {l : List Nat} {j : Nat} (hlt : j < l.length) (hw : From w wr) {u : Value} (hc : wr.cell? ⟨w.heap.size, 0, none⟩ = some u) (hf : wr.frozen? ⟨w.heap.size, 0, none⟩ = false) :
    SumRel w ns l (.int .i64 ((j : Int) + 1)) (wr.setCell ⟨w.heap.size, 0, none⟩ (.int .u32 ((reg ns (l.take (j + 1))).toNat : Int))) :=
  ⟨j + 1, by omega, by go_num, hw.set_ (Nat.le_refl _) _, World.cell?_setCell_same wr _ _ hc, by rw [World.frozen?_setCell]; exact hf⟩

set_option maxHeartbeats 400000 in
theorem sum_any (s : BitVec 32) (v : Value) (l : List Nat) (w : World) (hr : Row w v (bytesV l)) (hl : CM.Bytes l) (hlen : l.length ≤ 140737488351232) (hT : Table w) :
    Calls Tryd.prog 20 #[.int .u32 (s.toNat : Int), v] w fun e w' => e = .returned (.int .u32 ((sumF s l).toNat : Int)) ∧ From w w' := by
  obtain ⟨A, cap, rfl, hrow⟩ := row_vals hr
  have hn := not32 s
  have HT := Lib.hid (fun w' (h : From w w') => hT.from_ h)
  have hres : sumF s l = ~~~(reg (~~~s) l) := rfl
  rw [hres]
  clear hres
  generalize ~~~s = ns at *
  have hfin := not32 (reg ns l)
  generalize ~~~(reg ns l) = out at *
  have HF := Lib.hid hfin
  clear hT hr hfin
  go_enter Tryd.func20, Tryd.ntmps20
  go_wp2
  go_loopw [13] (SumRel w ns l) (fun i _ => l.length - (intOf i).toNat)
  case atStart =>
    exact ⟨0, by omega, rfl, From.rfl_.new _, (Blk.new w _ _).cell 0, World.frozen?_alloc_new _ _ _ _⟩
  case round =>
    obtain ⟨j, hj, rfl, hw, hc, hf⟩ := hrel
    by_cases hlt : j < l.length
    · obtain ⟨b, o, rfl, hb, hcell⟩ := hrow (by omega)
      have d1 := (hw.cells b (o + j) hb).trans (hcell j hlt)
      have i1 : (0 : Int) ≤ (j : Int) := by omega
      have i2 : (j : Int) < (l.length : Int) := by omega
      have hx : l[j] < 256 := hl _ (List.getElem_mem hlt)
      have hsn : reg ns (l.take (j + 1)) = step8 (reg ns (l.take j) ^^^ BitVec.ofNat 32 l[j]) := by
        rw [List.take_succ_eq_append_getElem hlt, reg_app]
        rfl
      have ct := take_any w.heap.size (reg ns (l.take j)) l[j] wr hx (HT.out wr hw) hc hf
      rw [← hsn] at ct
      have CT := Lib.hid ct
      clear ct hsn hcell hrow hl hn
      generalize l[j] = x at *
      go_wp2_with (go_at_call 29; (with_reducible refine CT.out.mono ?_); rintro e w1 ⟨rfl, rfl⟩)
      go_roundw
      case rel => exact sum_next hlt hw hc hf
      case measure => simp [intOf]; omega
    · obtain hjl : j = l.length := by omega
      rw [hjl, List.take_length] at hc
      clear hj hjl
      generalize (reg ns l).toNat = r at *
      go_wp2
      go_ret
      exact ⟨ret_int HF.out, hw⟩

def b8 (c : BitVec 32) : Nat → BitVec 32
  | 0 => c
  | k + 1 => bstep (b8 c k)
def RefRel (w : World) (ns : BitVec 32) (l : List Nat) (c i : Value) (wr : World) : Prop :=
  ∃ j : Nat, j ≤ l.length ∧ i = .int .i64 j ∧ From w wr ∧ c = .int .u32 ((reg ns (l.take j)).toNat : Int)
def RefRel2 (w : World) (c0 : BitVec 32) (c k : Value) (wr : World) : Prop :=
  ∃ q : Nat, q ≤ 8 ∧ k = .int .i64 q ∧ From w wr ∧ c = .int .u32 ((b8 c0 q).toNat : Int)

end Go.Proofs.YtglndihdhaaccaaDoor

namespace Go.Proofs.YtglndihdhaaccaaDoor
open Go.RowKit

/-! ### the frame -/
def look : List (Nat × Value) → Nat → Value
  | [], _ => undef
  | (k, v) :: r, i => bif Nat.beq i k then v else look r i
theorem look_cons (k : Nat) (v : Value) (r : List (Nat × Value)) (i : Nat) : look ((k, v) :: r) i = if i = k then v else look r i := by
  show cond (Nat.beq i k) v (look r i) = _
  by_cases h : i = k
  · subst h; simp
  · have : Nat.beq i k = false := by rw [← Bool.not_eq_true, Nat.beq_eq]; exact h
    rw [this, if_neg h]; rfl
def mkT (n : Nat) (L : List (Nat × Value)) : Array Value := Array.ofFn (n := n) fun i => look L i
/-- a frame: how many slots, and what waits for its end (behind a loop over an iterator: the block of the rounds' own) -/
structure Fr where
  n : Nat
  ds : List Deferred
instance (k : Nat) : OfNat Fr k := ⟨⟨k, []⟩⟩
def mkA (n : Fr) (L : List (Nat × Value)) : Act := { tmps := mkT n.n L, defers := n.ds }
theorem mkT_get (n : Nat) (L : List (Nat × Value)) (t : Nat) : (mkT n L)[t]? = if t < n then some (look L t) else none := by
  unfold mkT
  rw [Array.getElem?_ofFn]
  rfl
def ev (n : Fr) (L : List (Nat × Value)) : Operand → Value
  | .tmp t => bif Nat.blt t n.n then look L t else undef
  | .const v => v
  | .global g => .pointer (some ⟨g, 0, none⟩)
  | .func f => .func (.func f) #[] #[]
theorem blt_iff (t n : Nat) : Nat.blt t n = decide (t < n) := by
  by_cases h : t < n
  · rw [decide_eq_true h]; exact Nat.ble_eq_true_of_le h
  · rw [decide_eq_false h, ← Bool.not_eq_true]; intro h2; exact h (Nat.le_of_ble_eq_true h2)
theorem getD_mkT (n : Nat) (L : List (Nat × Value)) (t : Nat) : (mkT n L).getD t undef = bif Nat.blt t n then look L t else undef := by
  rw [Array.getD_eq_getD_getElem?, mkT_get, blt_iff]
  by_cases h : t < n
  · simp [h]
  · simp [h]
theorem eval_mkA (n : Fr) (L : List (Nat × Value)) : (mkA n L).eval = ev n L := by
  funext x
  cases x with
  | tmp t => exact getD_mkT n.n L t
  | _ => rfl
theorem mkT_congr {n : Nat} {L L' : List (Nat × Value)} (h : ∀ t, t < n → look L t = look L' t) : mkT n L = mkT n L' := by
  unfold mkT
  congr 1
  funext i
  exact h i i.2
theorem mkA_congr {n : Fr} {L L' : List (Nat × Value)} (h : ∀ t, t < n.n → look L t = look L' t) : mkA n L = mkA n L' := by
  unfold mkA
  rw [mkT_congr h]
theorem put_mkA (n : Fr) (L : List (Nat × Value)) (d : Nat) (v : Value) : (mkA n L).put (some d) v = mkA n ((d, v) :: L) := by
  show (⟨(mkT n.n L).setIfInBounds d v, n.ds⟩ : Act) = ⟨mkT n.n ((d, v) :: L), n.ds⟩
  obtain ⟨n, ds⟩ := n
  show (⟨(mkT n L).setIfInBounds d v, ds⟩ : Act) = ⟨mkT n ((d, v) :: L), ds⟩
  congr 1
  apply Array.ext_getElem?
  intro i
  rw [Array.getElem?_setIfInBounds, mkT_get, mkT_get, look_cons]
  by_cases h : i < n
  · by_cases hd : d = i
    · subst hd
      have hs : (mkT n L).size = n := by simp [mkT]
      simp [h, hs]
    · have hd' : ¬ i = d := fun e => hd e.symm
      simp [hd, hd', h]
  · by_cases hd : d = i
    · subst hd
      have hs : (mkT n L).size = n := by simp [mkT]
      simp [h, hs]
    · simp [hd, h]
def putL : Option Nat → Value → List (Nat × Value) → List (Nat × Value)
  | some d, v, L => (d, v) :: L
  | none, _, L => L
def argsL : Nat → List Value → List (Nat × Value)
  | _, [] => []
  | i, v :: r => (i, v) :: argsL (i + 1) r
theorem look_argsL (l : List Value) : ∀ (i t : Nat), look (argsL i l) t = if i ≤ t then (l[t - i]?).getD undef else undef := by
  induction l with
  | nil => intro i t; simp [argsL, look]
  | cons v r ih =>
    intro i t
    rw [argsL, look_cons, ih]
    by_cases h : t = i
    · subst h; simp
    · by_cases h2 : i ≤ t
      · have : t - i = (t - (i + 1)) + 1 := by omega
        rw [if_neg h, if_pos h2, if_pos (by omega), this, List.getElem?_cons_succ]
      · rw [if_neg h, if_neg h2, if_neg (by omega)]
theorem args_mkT (n : Nat) (l : List Value) (h : l.length ≤ n) : l.toArray ++ Array.replicate (n - l.toArray.size) undef = mkT n (argsL 0 l) := by
  apply Array.ext_getElem?
  intro i
  rw [mkT_get, look_argsL, Array.getElem?_append]
  simp only [List.size_toArray, List.getElem?_toArray, Nat.zero_le, if_true, Nat.sub_zero, Array.getElem?_replicate]
  by_cases h1 : i < l.length
  · rw [if_pos h1, if_pos (by omega), List.getElem?_eq_getElem h1]; rfl
  · rw [if_neg h1]
    by_cases h2 : i < n
    · rw [if_pos h2, if_pos (by omega), List.getElem?_eq_none (by omega)]; rfl
    · rw [if_neg h2, if_neg (by omega)]

theorem int_eq {k : IntKind} {a b : Int} (h : a = b) : Value.int k a = Value.int k b := by rw [h]
/-! ### what a test's Bool says -/
theorem bn_t {b : Bool} (h : (!b) = true) : b = false := by cases b <;> simp_all
theorem bn_f {b : Bool} (h : (!b) = false) : b = true := by cases b <;> simp_all
theorem be_t {α : Type} [BEq α] [LawfulBEq α] {a b : α} (h : (a == b) = true) : a = b := eq_of_beq h
theorem be_f {α : Type} [BEq α] [LawfulBEq α] {a b : α} (h : (a == b) = false) : ¬ a = b := ne_of_beq_false h
theorem bx_t {α : Type} [BEq α] [LawfulBEq α] {a b : α} (h : (a != b) = true) : ¬ a = b := by simpa using h
theorem bx_f {α : Type} [BEq α] [LawfulBEq α] {a b : α} (h : (a != b) = false) : a = b := by simpa using h
/-! ### the judgements -/
structure Cd (P : Program) (c : Code) (Q : Exit → Act → World → Prop) (n : Fr) (L : List (Nat × Value)) (w : World) : Prop where
  out : c.wp P Q (mkA n L) w
structure St (P : Program) (ops : Array Oper) (Q : Exit → Act → World → Prop) (rest : List Oper) (n : Fr) (L : List (Nat × Value)) (w : World) : Prop where
  out : wpList P ops Q rest (mkA n L) w
/-- what is asked of a function: it returns, so -/
def Rt (P : Program) (f : FuncId) (l : List Value) (w : World) (R : Value → World → Prop) : Prop := Calls P f l.toArray w fun e w' => ∃ v, e = .returned v ∧ R v w'
theorem Rt.mono {P : Program} {f : FuncId} {l : List Value} {w : World} {R R' : Value → World → Prop} (h : Rt P f l w R) (hr : ∀ v w', R v w' → R' v w') : Rt P f l w R' :=
  Calls.mono h fun _ _ ⟨v, e, r⟩ => ⟨v, e, hr v _ r⟩
theorem Rt.to {P : Program} {f : FuncId} {l : List Value} {w : World} {v : Value} {R : World → Prop} (h : Rt P f l w fun v' w' => v' = v ∧ R w') : Calls P f l.toArray w fun e w' => e = .returned v ∧ R w' :=
  Calls.mono h fun _ _ ⟨_, e, e2, r⟩ => ⟨by rw [e, e2], r⟩

section control
variable {P : Program} {Q : Exit → Act → World → Prop} {n : Fr} {L : List (Nat × Value)} {w : World}
theorem enter {f : FuncId} {fn : Func} {c : Code} {l : List Value} {R : Value → World → Prop} {n : Nat} (hf : P.funcs[f]? = some fn) (hb : fn.body = some c) (hn : fn.ntmps = n) (hl : Nat.ble l.length n = true)
    (h : Cd P c (bodyPost P fn fun e w' => ∃ v, e = .returned v ∧ R v w') ⟨n, []⟩ (argsL 0 l) w) : Rt P f l w R := by
  refine calls_of_wp hf hb ?_
  rw [hn, args_mkT n l (Nat.le_of_ble_eq_true hl)]
  exact h.out
theorem cd_skip (h : Q .normal (mkA n L) w) : Cd P .skip Q n L w := ⟨wp_skip h⟩
theorem cd_seq {x y : Code} (h : Cd P x (Exit.then (fun a w => y.wp P Q a w) Q) n L w) : Cd P (.seq x y) Q n L w := ⟨wp_seq h.out⟩
theorem cd_block {id : Nat} {c : Code} (h : Cd P c (Exit.inBlock id Q) n L w) : Cd P (.block id c) Q n L w := ⟨wp_block h.out⟩
theorem cd_exit {id : Nat} (h : Q (.exit id) (mkA n L) w) : Cd P (.exit id) Q n L w := ⟨wp_exit h⟩
theorem cd_ret (h : Q .ret (mkA n L) w) : Cd P .ret Q n L w := ⟨wp_ret h⟩
theorem cd_cond {c : Operand} {x y : Code} {t : Bool} (hc : ev n L c = .bool t) (ht : t = true → Cd P x Q n L w) (hf : t = false → Cd P y Q n L w) : Cd P (.cond c x y) Q n L w :=
  ⟨wp_cond_split (by rw [eval_mkA]; exact hc) (fun h => (ht h).out) (fun h => (hf h).out)⟩
theorem cd_condT {c : Operand} {x y : Code} (hc : ev n L c = .bool true) (ht : Cd P x Q n L w) : Cd P (.cond c x y) Q n L w :=
  ⟨wp_cond_true (by rw [eval_mkA]; exact hc) ht.out⟩
theorem cd_condF {c : Operand} {x y : Code} (hc : ev n L c = .bool false) (ht : Cd P y Q n L w) : Cd P (.cond c x y) Q n L w :=
  ⟨wp_cond_false (by rw [eval_mkA]; exact hc) ht.out⟩
theorem cd_region {id : Nat} {l : List Oper} (h : St P l.toArray Q l n L w) : Cd P (.region id l.toArray false) Q n L w := ⟨wp_region_lit h.out⟩
theorem st_nil {ops : Array Oper} (h : Q .normal (mkA n L) w) : St P ops Q [] n L w := ⟨h⟩
variable {y : Code} {K : Act → World → Prop} {a : Act}
theorem nx_then (h : Cd P y Q n L w) : Exit.then (fun a w => y.wp P Q a w) Q .normal (mkA n L) w := h.out
theorem nx_block {id : Nat} (h : Q .normal a w) : Exit.inBlock id Q .normal a w := h
theorem ex_then {id : Nat} (h : Q (.exit id) a w) : Exit.then K Q (.exit id) a w := h
theorem ex_block {id : Nat} (h : Q .normal a w) : Exit.inBlock id Q (.exit id) a w := by
  show (if id = id then Q .normal a w else Q (.exit id) a w)
  rw [if_pos rfl]
  exact h
theorem rt_then (h : Q .ret a w) : Exit.then K Q .ret a w := h
theorem rt_block {id : Nat} (h : Q .ret a w) : Exit.inBlock id Q .ret a w := h
/-- the ends -/
theorem res1 {fn : Func} {m : Nat} {t : Nat} {R : Value → World → Prop} {v : Value} (hr : fn.results = #[.tmp t]) (hv : ev ⟨m, []⟩ L (.tmp t) = v) (h : R v w) :
    bodyPost P fn (fun e w' => ∃ v, e = .returned v ∧ R v w') .ret (mkA ⟨m, []⟩ L) w :=
  bodyPost_ret (results_tmp hr _ _ _) rfl ⟨v, by rw [← hv]; exact congrArg Ending.returned (getD_mkT m L t), h⟩
theorem res2 {fn : Func} {m : Nat} {t u : Nat} {R : Value → World → Prop} {v v' : Value} (hr : fn.results = #[.tmp t, .tmp u]) (hv : ev ⟨m, []⟩ L (.tmp t) = v) (hv' : ev ⟨m, []⟩ L (.tmp u) = v') (h : R (.tuple #[v, v']) w) :
    bodyPost P fn (fun e w' => ∃ v, e = .returned v ∧ R v w') .ret (mkA ⟨m, []⟩ L) w :=
  bodyPost_ret (results_tmp2 hr _ _ _) rfl ⟨.tuple #[v, v'], by rw [← hv, ← hv']; show Ending.returned (.tuple #[(mkT m L).getD t undef, (mkT m L).getD u undef]) = _; rw [getD_mkT, getD_mkT]; rfl, h⟩
theorem res3 {fn : Func} {m : Nat} {t u s : Nat} {R : Value → World → Prop} {v v' v'' : Value} (hr : fn.results = #[.tmp t, .tmp u, .tmp s]) (hv : ev ⟨m, []⟩ L (.tmp t) = v) (hv' : ev ⟨m, []⟩ L (.tmp u) = v') (hv'' : ev ⟨m, []⟩ L (.tmp s) = v'') (h : R (.tuple #[v, v', v'']) w) :
    bodyPost P fn (fun e w' => ∃ v, e = .returned v ∧ R v w') .ret (mkA ⟨m, []⟩ L) w :=
  bodyPost_ret (results_tmp3 hr _ _ _) rfl ⟨.tuple #[v, v', v''], by rw [← hv, ← hv', ← hv'']; show Ending.returned (.tuple #[(mkT m L).getD t undef, (mkT m L).getD u undef, (mkT m L).getD s undef]) = _; rw [getD_mkT, getD_mkT, getD_mkT]; rfl, h⟩
theorem res0 {fn : Func} {m : Nat} {R : Value → World → Prop} (hr : fn.results = #[]) (h : R (.tuple #[]) w) :
    bodyPost P fn (fun e w' => ∃ v, e = .returned v ∧ R v w') .ret (mkA ⟨m, []⟩ L) w :=
  bodyPost_ret (results_none hr _ _ _) rfl ⟨_, rfl, h⟩
theorem end_ret {fn : Func} {R : Ending → World → Prop} (h : bodyPost P fn R .ret a w) : bodyPost P fn R .normal a w := h
end control

/-! ### loops and meeting points -/
def Agr (Wr : List Nat) (L' L : List (Nat × Value)) : Prop := ∀ t, Wr.elem t = false → look L' t = look L t
theorem agr_rfl {Wr : List Nat} {L : List (Nat × Value)} : Agr Wr L L := fun _ _ => rfl
theorem agr_cons {Wr : List Nat} {L' L : List (Nat × Value)} {d : Nat} {v : Value} (hd : Wr.elem d = true) (h : Agr Wr L' L) : Agr Wr ((d, v) :: L') L := fun t ht => by
  rw [look_cons, if_neg (fun e => by subst e; rw [hd] at ht; cases ht)]
  exact h t ht
def AllV (L' : List (Nat × Value)) : List (Nat × Value) → Prop
  | [] => True
  | (t, v) :: r => look L' t = v ∧ AllV L' r
def junk (J : List Nat) (ρ : Nat → Value) (L : List (Nat × Value)) : List (Nat × Value) := J.foldr (fun t r => (t, ρ t) :: r) L
theorem look_junk (J : List Nat) (ρ : Nat → Value) (L : List (Nat × Value)) (t : Nat) : look (junk J ρ L) t = if J.elem t then ρ t else look L t := by
  induction J with
  | nil => rfl
  | cons j J ih =>
    show look ((j, ρ j) :: junk J ρ L) t = _
    rw [look_cons, ih]
    by_cases h : t = j
    · subst h; simp
    · have : (j :: J).elem t = J.elem t := by simp [List.elem_cons, h]
      rw [if_neg h, this]
theorem look_app (V L : List (Nat × Value)) (t : Nat) : look (V ++ L) t = if (V.map (·.1)).elem t then look V t else look L t := by
  induction V with
  | nil => rfl
  | cons x V ih =>
    obtain ⟨k, v⟩ := x
    show look ((k, v) :: (V ++ L)) t = if ((k :: V.map (·.1)).elem t) then look ((k, v) :: V) t else _
    rw [look_cons, look_cons, ih]
    by_cases h : t = k
    · subst h; simp
    · have : (k :: V.map (·.1)).elem t = (V.map (·.1)).elem t := by simp [List.elem_cons, h]
      rw [if_neg h, this, if_neg h]
theorem allV_look {L' : List (Nat × Value)} : ∀ {V : List (Nat × Value)}, AllV L' V → ∀ t, (V.map (·.1)).elem t = true → look L' t = look V t
  | [], _, t, h => by simp at h
  | (k, v) :: V, ⟨h1, h2⟩, t, h => by
    rw [look_cons]
    by_cases e : t = k
    · subst e; rw [if_pos rfl]; exact h1
    · rw [if_neg e]
      exact allV_look h2 t (by simpa [List.elem_cons, e] using h)
/-- the frame at a head: these slots hold these values, those hold anything, the others hold what L has -/
def hd (V : List (Nat × Value)) (J : List Nat) (ρ : Nat → Value) (L : List (Nat × Value)) : List (Nat × Value) := V ++ junk J ρ L
theorem hd_of {n : Fr} {V : List (Nat × Value)} {J : List Nat} {L' L : List (Nat × Value)} (hv : AllV L' V) (hj : Agr (V.map (·.1) ++ J) L' L) : mkA n L' = mkA n (hd V J (look L') L) := by
  refine mkA_congr fun t _ => ?_
  unfold hd
  rw [look_app, look_junk]
  by_cases h1 : (V.map (·.1)).elem t = true
  · rw [if_pos h1]; exact allV_look hv t h1
  · rw [if_neg h1]
    by_cases h2 : J.elem t = true
    · rw [if_pos h2]
    · rw [if_neg h2]
      refine hj t ?_
      rw [Bool.not_eq_true] at h1 h2
      simp only [List.elem_eq_mem, decide_eq_false_iff_not] at h1 h2 ⊢
      simp only [List.mem_append, not_or]
      exact ⟨h1, h2⟩
/-- what is known at a head -/
def At (n : Fr) (L : List (Nat × Value)) (J : List Nat) {G : Type} (V : G → List (Nat × Value)) (F : G → World → Prop) (a : Act) (w : World) : Prop := ∃ g ρ, a = mkA n (hd (V g) J ρ L) ∧ F g w
theorem at_mk {n : Fr} {L L' : List (Nat × Value)} {J : List Nat} {G : Type} {V : G → List (Nat × Value)} {F : G → World → Prop} {w : World} (g : G) (hv : AllV L' (V g)) (hj : Agr ((V g).map (·.1) ++ J) L' L) (hF : F g w) :
    At n L J V F (mkA n L') w := ⟨g, look L', hd_of hv hj, hF⟩
section
variable {P : Program} {Q : Exit → Act → World → Prop} {n : Fr} {L : List (Nat × Value)} {w : World} {G : Type}
theorem cd_cut {x y : Code} (J : List Nat) (V : G → List (Nat × Value)) (F : G → World → Prop) (hx : Cd P x (Exit.then (At n L J V F) Q) n L w)
    (hy : ∀ g ρ w', F g w' → Cd P y Q n (hd (V g) J ρ L) w') : Cd P (.seq x y) Q n L w := by
  refine ⟨wp_seq (wp_mono hx.out fun e a w' q => ?_)⟩
  cases e <;> first
    | exact q
    | (obtain ⟨g, ρ, rfl, hF⟩ := q; exact (hy g ρ w' hF).out)
theorem nx_cut {L0 : List (Nat × Value)} {J : List Nat} {V : G → List (Nat × Value)} {F : G → World → Prop} (g : G) (hv : AllV L (V g)) (hj : Agr ((V g).map (·.1) ++ J) L L0) (hF : F g w) : Exit.then (At n L0 J V F) Q .normal (mkA n L) w :=
  at_mk g hv hj hF
/-- a loop: its head, a measure on what is named there -/
theorem cd_loop {c : Code} (J : List Nat) (V : G → List (Nat × Value)) (F : G → World → Prop) (μ : G → Nat) (g0 : G) (hv : AllV L (V g0)) (hF : F g0 w)
    (round : ∀ g ρ w', F g w' → Cd P c (Exit.then (At n L J V (fun g' w'' => F g' w'' ∧ μ g' < μ g)) Q) n (hd (V g) J ρ L) w') : Cd P (.loop c) Q n L w := by
  refine ⟨wp_loop_ghost (fun m a w => At n L J V (fun g w => F g w ∧ μ g = m) a w) (μ g0) ⟨g0, look L, hd_of hv fun t _ => rfl, hF, rfl⟩ ?_⟩
  rintro m a w ⟨g, ρ, rfl, hF, rfl⟩
  refine wp_mono (round g ρ w hF).out fun e a' w' q => ?_
  cases e <;> first
    | exact q
    | (obtain ⟨g', ρ', rfl, hF', hlt⟩ := q; exact ⟨μ g', hlt, g', ρ', rfl, hF', rfl⟩)
end
end Go.Proofs.YtglndihdhaaccaaDoor

namespace Go.Proofs.YtglndihdhaaccaaDoor
open Go.RowKit

/-- this operation, in this world, over slots that read so: this value, that world -/
def RO (P : Program) (ρ : Operand → Value) (op : Op) (w : World) (v : Value) (w' : World) : Prop :=
  ∀ dst ty pos after g, (execOp ρ ⟨dst, op, ty, pos, after, g⟩).run P w = .ok (.value v) w'
/-- a store -/
def RS (P : Program) (ρ : Operand → Value) (op : Op) (w w' : World) : Prop :=
  ∀ dst ty pos after g, (execOp ρ ⟨dst, op, ty, pos, after, g⟩).run P w = .ok .skip w'

/-! ### what a table of types tells -/
def aggQ (P : Program) (t : TypeId) : Option Bool := (P.underlying t).map fun | .struct _ | .array _ _ => true | _ => false
def sizeQ (P : Program) (t : TypeId) : Option Nat := (P.info? t).map (·.size)
def elemQ (P : Program) (t : TypeId) : Option (Nat × Nat) := match P.underlying t with | some (.slice e) => (P.info? e).map fun i => (e, i.size) | _ => none
def arrQ (P : Program) (t : TypeId) : Option (Nat × Nat) := match P.underlying t with | some (.array n e) => (P.info? e).map fun i => (n, i.size) | _ => none
def fieldQ (P : Program) (t : TypeId) (f : Nat) : Option Nat := match P.underlying t with
  | some (.struct fs) => match fs[f]? with
    | some fl => match P.info? fl.type with
      | some i => if i.size = 0 then none else some fl.offset
      | none => none
    | none => none
  | _ => none
def zeroQ (P : Program) (t : TypeId) : Option Value := (P.info? t).bind (·.zero)

section
variable {P : Program} {ρ : Operand → Value} {w : World}
theorem isAgg_of {t : TypeId} {b : Bool} (h : aggQ P t = some b) : (isAgg t).run P w = .ok b w := by
  unfold aggQ at h
  cases hu : P.underlying t with
  | none => simp [hu] at h
  | some d =>
    rw [hu] at h
    simp only [Option.map_some, Option.some.injEq] at h
    subst h
    unfold isAgg
    rw [Sem.run_bind, run_underlying hu w]
    cases d <;> rfl
theorem sizeOf_of {t : TypeId} {s : Nat} (h : sizeQ P t = some s) : (sizeOf t).run P w = .ok s w := by
  unfold sizeQ at h
  cases hi : P.info? t with
  | none => simp [hi] at h
  | some i =>
    simp only [hi, Option.map_some, Option.some.injEq] at h
    simp [sizeOf, typeInfo, hi, h]
theorem zero_of {t : TypeId} {z : Value} (h : zeroQ P t = some z) : (zeroValue t).run P w = .ok z w := by
  unfold zeroQ at h
  cases hi : P.info? t with
  | none => simp [hi] at h
  | some i =>
    simp only [hi, Option.bind_some] at h
    simp [zeroValue, typeInfo, hi, h]
theorem elem_of {t e s : Nat} (h : elemQ P t = some (e, s)) : P.underlying t = some (.slice e) ∧ sizeQ P e = some s := by
  unfold elemQ at h
  split at h
  · rename_i e' hu
    cases hi : P.info? e' with
    | none => simp [hi] at h
    | some i =>
      simp only [hi, Option.map_some, Option.some.injEq, Prod.mk.injEq] at h
      obtain ⟨rfl, rfl⟩ := h
      exact ⟨hu, by simp [sizeQ, hi]⟩
  · cases h
/-! ### slots -/
theorem ro_move {x : Operand} {v : Value} (hx : ρ x = v) : RO P ρ (.move x) w v w := fun _ _ _ _ _ => by subst hx; rfl
theorem ro_assign {x : Operand} {v : Value} (hx : ρ x = v) : RO P ρ (.assign x) w v w := fun _ _ _ _ _ => by subst hx; rfl
theorem ro_pickT {c x y : Operand} {v : Value} (hc : ρ c = .bool true) (hv : ρ x = v) : RO P ρ (.pick c x y) w v w := fun _ _ _ _ _ => by subst hv; simp [execOp, hc, asBool]
theorem ro_pickF {c x y : Operand} {v : Value} (hc : ρ c = .bool false) (hv : ρ y = v) : RO P ρ (.pick c x y) w v w := fun _ _ _ _ _ => by subst hv; simp [execOp, hc, asBool]

/-! ### integers -/
variable {t yt : TypeId} {x y : Operand} {k : IntKind} {a b : Int}
theorem ro_bin {op : BinOp} {u v r : Value} (hx : ρ x = u) (hy : ρ y = v) (hg : (eqGuard op t x y u v).run P w = .ok () w) (hr : (binOp op t u v).run P w = .ok r w) : RO P ρ (.binOp op t x y yt) w r w := fun _ _ _ _ _ => by
  subst hx; subst hy; simp [execOp, hg, hr]
theorem guard_int (op : BinOp) : (eqGuard op t x y (.int k a) (.int k b)).run P w = .ok () w := by unfold eqGuard; split <;> rfl
theorem ro_int {op : BinOp} {r : Value} (hx : ρ x = .int k a) (hy : ρ y = .int k b) (hr : (binOp op t (.int k a) (.int k b)).run P w = .ok r w) : RO P ρ (.binOp op t x y yt) w r w :=
  ro_bin hx hy (guard_int op) hr
theorem ro_add (hx : ρ x = .int k a) (hy : ρ y = .int k b) : RO P ρ (.binOp .add t x y yt) w (.int k (k.wrap (a + b))) w := ro_int hx hy (by simp [binOp, Op.intArith])
theorem ro_sub (hx : ρ x = .int k a) (hy : ρ y = .int k b) : RO P ρ (.binOp .sub t x y yt) w (.int k (k.wrap (a - b))) w := ro_int hx hy (by simp [binOp, Op.intArith])
theorem ro_add64 (hx : ρ x = .int .i64 a) (hy : ρ y = .int .i64 b) (h : -9223372036854775808 ≤ a + b ∧ a + b ≤ 9223372036854775807) : RO P ρ (.binOp .add t x y yt) w (.int .i64 (a + b)) w := by
  have := ro_add (P := P) (ρ := ρ) (w := w) (t := t) (yt := yt) hx hy; rwa [IntWalk.i64_in _ h] at this
theorem ro_sub64 (hx : ρ x = .int .i64 a) (hy : ρ y = .int .i64 b) (h : -9223372036854775808 ≤ a - b ∧ a - b ≤ 9223372036854775807) : RO P ρ (.binOp .sub t x y yt) w (.int .i64 (a - b)) w := by
  have := ro_sub (P := P) (ρ := ρ) (w := w) (t := t) (yt := yt) hx hy; rwa [IntWalk.i64_in _ h] at this
theorem ro_add64' {r : Int} (hx : ρ x = .int .i64 a) (hy : ρ y = .int .i64 b) (he : a + b = r) (h : -9223372036854775808 ≤ r ∧ r ≤ 9223372036854775807) : RO P ρ (.binOp .add t x y yt) w (.int .i64 r) w := by
  subst he; exact ro_add64 hx hy h
theorem ro_sub64' {r : Int} (hx : ρ x = .int .i64 a) (hy : ρ y = .int .i64 b) (he : a - b = r) (h : -9223372036854775808 ≤ r ∧ r ≤ 9223372036854775807) : RO P ρ (.binOp .sub t x y yt) w (.int .i64 r) w := by
  subst he; exact ro_sub64 hx hy h
theorem ro_quo (hx : ρ x = .int k a) (hy : ρ y = .int k b) (hb : b ≠ 0) : RO P ρ (.binOp .quo t x y yt) w (.int k (k.wrap (a.tdiv b))) w := ro_int hx hy (by simp [binOp, Op.intDiv, hb])
theorem ro_rem (hx : ρ x = .int k a) (hy : ρ y = .int k b) (hb : b ≠ 0) : RO P ρ (.binOp .rem t x y yt) w (.int k (a.tmod b)) w := ro_int hx hy (by simp [binOp, Op.intDiv, hb])
theorem ro_quo64 (hx : ρ x = .int .i64 a) (hy : ρ y = .int .i64 b) (h : 0 ≤ a ∧ a ≤ 9223372036854775807 ∧ 0 < b) : RO P ρ (.binOp .quo t x y yt) w (.int .i64 (a / b)) w := by
  have := ro_quo (P := P) (ρ := ρ) (w := w) (t := t) (yt := yt) hx hy (by omega)
  have h2 : a / b ≤ a := Int.ediv_le_self b h.1
  have h3 : 0 ≤ a / b := Int.ediv_nonneg h.1 (by omega)
  rwa [Int.tdiv_eq_ediv_of_nonneg h.1, IntWalk.i64_in _ (by omega)] at this
theorem ro_rem64 (hx : ρ x = .int .i64 a) (hy : ρ y = .int .i64 b) (h : 0 ≤ a ∧ 0 < b) : RO P ρ (.binOp .rem t x y yt) w (.int .i64 (a % b)) w := by
  have := ro_rem (P := P) (ρ := ρ) (w := w) (t := t) (yt := yt) hx hy (by omega)
  rwa [Int.tmod_eq_emod_of_nonneg h.1] at this
theorem ro_and (hx : ρ x = .int k a) (hy : ρ y = .int k b) : RO P ρ (.binOp .and t x y yt) w (.int k (bits .and k a b)) w := ro_int hx hy (by simp [binOp, intBits_and])
theorem ro_or (hx : ρ x = .int k a) (hy : ρ y = .int k b) : RO P ρ (.binOp .or t x y yt) w (.int k (bits .or k a b)) w := ro_int hx hy (by simp [binOp, intBits_or])
theorem ro_shl {k' : IntKind} (hx : ρ x = .int k a) (hy : ρ y = .int k' b) (h : 0 ≤ b) : RO P ρ (.binOp .shl t x y yt) w (.int k (k.wrap (a * 2 ^ (min b.toNat k.bits)))) w :=
  ro_bin hx hy (by unfold eqGuard; rfl) (by
    have : ¬ b < 0 := by omega
    simp [binOp, Op.shift, this])
theorem ro_shr {k' : IntKind} (hx : ρ x = .int k a) (hy : ρ y = .int k' b) (h : 0 ≤ b) : RO P ρ (.binOp .shr t x y yt) w (.int k (a.fdiv (2 ^ (min b.toNat k.bits)))) w :=
  ro_bin hx hy (by unfold eqGuard; rfl) (by
    have : ¬ b < 0 := by omega
    simp [binOp, Op.shift, this])
theorem ro_eql (hx : ρ x = .int k a) (hy : ρ y = .int k b) : RO P ρ (.binOp .eql t x y yt) w (.bool (a == b)) w := ro_int hx hy (by simp [binOp, Op.intCmp])
theorem ro_neq (hx : ρ x = .int k a) (hy : ρ y = .int k b) : RO P ρ (.binOp .neq t x y yt) w (.bool (a != b)) w := ro_int hx hy (by simp [binOp, Op.intCmp])
theorem ro_lss (hx : ρ x = .int k a) (hy : ρ y = .int k b) : RO P ρ (.binOp .lss t x y yt) w (.bool (decide (a < b))) w := ro_int hx hy (by simp [binOp, Op.intCmp])
theorem ro_leq (hx : ρ x = .int k a) (hy : ρ y = .int k b) : RO P ρ (.binOp .leq t x y yt) w (.bool (decide (a ≤ b))) w := ro_int hx hy (by simp [binOp, Op.intCmp])
theorem ro_gtr (hx : ρ x = .int k a) (hy : ρ y = .int k b) : RO P ρ (.binOp .gtr t x y yt) w (.bool (decide (a > b))) w := ro_int hx hy (by simp [binOp, Op.intCmp])
theorem ro_geq (hx : ρ x = .int k a) (hy : ρ y = .int k b) : RO P ρ (.binOp .geq t x y yt) w (.bool (decide (a ≥ b))) w := ro_int hx hy (by simp [binOp, Op.intCmp])
/-! ### bools, strings, pointers -/
variable {p q : Bool} {s s' : ByteArray}
theorem ro_eqlS (hx : ρ x = .string s) (hy : ρ y = .string s') : RO P ρ (.binOp .eql t x y yt) w (.bool (s.toList == s'.toList)) w :=
  ro_bin hx hy (by unfold eqGuard; rfl) (by simp [binOp, Op.stringOp])
theorem ro_eqlNil {r : Option Addr} (ht : P.underlying t = some (.pointer (P.pointee t))) (hx : ρ x = .pointer r) (hy : ρ y = .pointer none) : RO P ρ (.binOp .eql t x y yt) w (.bool r.isNone) w :=
  ro_bin hx hy (by unfold eqGuard; cases r <;> rfl) (run_eql_pointer_nil w t r ht)
theorem ro_neqNil {r : Option Addr} (ht : P.underlying t = some (.pointer (P.pointee t))) (hx : ρ x = .pointer r) (hy : ρ y = .pointer none) : RO P ρ (.binOp .neq t x y yt) w (.bool (!r.isNone)) w :=
  ro_bin hx hy (by unfold eqGuard; cases r <;> rfl) (run_neq_pointer_nil w t r ht)
theorem ro_not (hx : ρ x = .bool p) : RO P ρ (.unOp .not t x) w (.bool (!p)) w := fun _ _ _ _ _ => by simp [execOp, hx, Op.unary]
theorem ro_conv {src dst : TypeId} {k' : IntKind} (hs : (P.underlying src).isSome = true) (hd : P.underlying dst = some (.int k')) (hx : ρ x = .int k a) : RO P ρ (.convert src dst x) w (.int k' (k'.wrap a)) w := fun _ _ _ _ _ => by
  obtain ⟨d, hd'⟩ := Option.isSome_iff_exists.mp hs
  simp [execOp, hx, convert, run_underlying hd', run_underlying hd, Conv.intToInt]
/-- from one kind to the same, or to one that holds it -/
theorem ro_conv' {src dst : TypeId} {k' : IntKind} {r : Int} (hs : (P.underlying src).isSome = true) (hd : P.underlying dst = some (.int k')) (hx : ρ x = .int k a) (hr : k'.wrap a = r) : RO P ρ (.convert src dst x) w (.int k' r) w := by
  subst hr; exact ro_conv hs hd hx
/-! ### numbers that are casts of natural ones -/
theorem ro_addN {a b : Nat} (hx : ρ x = .int .i64 (a : Nat)) (hy : ρ y = .int .i64 (b : Nat)) (h : a + b ≤ 9223372036854775807) : RO P ρ (.binOp .add t x y yt) w (.int .i64 ((a + b : Nat) : Int)) w :=
  ro_add64' hx hy (by omega) (by omega)
theorem ro_subN {a b : Nat} (hx : ρ x = .int .i64 (a : Nat)) (hy : ρ y = .int .i64 (b : Nat)) (h : b ≤ a ∧ a ≤ 9223372036854775807) : RO P ρ (.binOp .sub t x y yt) w (.int .i64 ((a - b : Nat) : Int)) w :=
  ro_sub64' hx hy (by omega) (by omega)
theorem ro_quoN {a b : Nat} (hx : ρ x = .int .i64 (a : Nat)) (hy : ρ y = .int .i64 (b : Nat)) (h : 0 < b ∧ a ≤ 9223372036854775807) : RO P ρ (.binOp .quo t x y yt) w (.int .i64 ((a / b : Nat) : Int)) w := by
  have := ro_quo64 (P := P) (ρ := ρ) (w := w) (t := t) (yt := yt) hx hy (by omega)
  rwa [← Int.natCast_ediv] at this
theorem ro_remN {a b : Nat} (hx : ρ x = .int .i64 (a : Nat)) (hy : ρ y = .int .i64 (b : Nat)) (h : 0 < b) : RO P ρ (.binOp .rem t x y yt) w (.int .i64 ((a % b : Nat) : Int)) w := by
  have := ro_rem64 (P := P) (ρ := ρ) (w := w) (t := t) (yt := yt) hx hy (by omega)
  rwa [← Int.natCast_emod] at this
theorem ro_shrN {a b : Nat} {k k' : IntKind} (hx : ρ x = .int k (a : Nat)) (hy : ρ y = .int k' (b : Nat)) (h : b ≤ k.bits) : RO P ρ (.binOp .shr t x y yt) w (.int k ((a / 2 ^ b : Nat) : Int)) w := by
  have := ro_shr (P := P) (ρ := ρ) (w := w) (t := t) (yt := yt) hx hy (by omega)
  have e : min ((b : Nat) : Int).toNat k.bits = b := by rw [Int.toNat_natCast]; omega
  rw [e] at this
  have e2 : ((a : Nat) : Int).fdiv (2 ^ b) = ((a / 2 ^ b : Nat) : Int) := by
    rw [Int.fdiv_eq_ediv_of_nonneg _ (Int.pow_nonneg (by decide)), Int.natCast_ediv]
    norm_cast
  rwa [e2] at this
theorem ro_shlN {a b : Nat} {k' : IntKind} (hx : ρ x = .int .u64 (a : Nat)) (hy : ρ y = .int k' (b : Nat)) (h : b ≤ 64) : RO P ρ (.binOp .shl t x y yt) w (.int .u64 ((a * 2 ^ b % 2 ^ 64 : Nat) : Int)) w := by
  have := ro_shl (P := P) (ρ := ρ) (w := w) (t := t) (yt := yt) hx hy (by omega)
  have e : min ((b : Nat) : Int).toNat IntKind.u64.bits = b := by rw [Int.toNat_natCast]; show min b 64 = b; omega
  rw [e] at this
  have e2 : IntKind.u64.wrap (((a : Nat) : Int) * 2 ^ b) = ((a * 2 ^ b % 2 ^ 64 : Nat) : Int) := by
    have h : (a : Int) * 2 ^ b = ((a * 2 ^ b : Nat) : Int) := by norm_cast
    rw [h, IntKind.wrap_u64]
    generalize a * 2 ^ b = c
    omega
  rwa [e2] at this
theorem bits_u64 {a b : Nat} (ha : a < 2 ^ 64) (hb : b < 2 ^ 64) : bits .and .u64 (a : Int) (b : Int) = ((a &&& b : Nat) : Int) ∧ bits .or .u64 (a : Int) (b : Int) = ((a ||| b : Nat) : Int) ∧ bits .xor .u64 (a : Int) (b : Int) = ((a ^^^ b : Nat) : Int) := by
  have e1 : (BitVec.ofInt 64 (a : Int)).toNat = a := by rw [BitVec.ofInt_natCast, BitVec.toNat_ofNat]; exact Nat.mod_eq_of_lt ha
  have e2 : (BitVec.ofInt 64 (b : Int)).toNat = b := by rw [BitVec.ofInt_natCast, BitVec.toNat_ofNat]; exact Nat.mod_eq_of_lt hb
  refine ⟨?_, ?_, ?_⟩
  · show IntKind.u64.wrap ((BitVec.ofInt 64 (a : Int) &&& BitVec.ofInt 64 (b : Int)).toNat : Int) = _
    have h : a &&& b < 2 ^ 64 := Nat.and_lt_two_pow _ hb
    rw [BitVec.toNat_and, e1, e2, IntKind.wrap_u64]; generalize a &&& b = c at *; omega
  · show IntKind.u64.wrap ((BitVec.ofInt 64 (a : Int) ||| BitVec.ofInt 64 (b : Int)).toNat : Int) = _
    have h := Nat.or_lt_two_pow ha hb
    rw [BitVec.toNat_or, e1, e2, IntKind.wrap_u64]; generalize a ||| b = c at *; omega
  · show IntKind.u64.wrap ((BitVec.ofInt 64 (a : Int) ^^^ BitVec.ofInt 64 (b : Int)).toNat : Int) = _
    have h := Nat.xor_lt_two_pow ha hb
    rw [BitVec.toNat_xor, e1, e2, IntKind.wrap_u64]; generalize a ^^^ b = c at *; omega
theorem ro_andN {a b : Nat} (hx : ρ x = .int .u64 (a : Nat)) (hy : ρ y = .int .u64 (b : Nat)) (h : a < 2 ^ 64 ∧ b < 2 ^ 64) : RO P ρ (.binOp .and t x y yt) w (.int .u64 ((a &&& b : Nat) : Int)) w := by
  have := ro_and (P := P) (ρ := ρ) (w := w) (t := t) (yt := yt) hx hy; rwa [(bits_u64 h.1 h.2).1] at this
theorem ro_orN {a b : Nat} (hx : ρ x = .int .u64 (a : Nat)) (hy : ρ y = .int .u64 (b : Nat)) (h : a < 2 ^ 64 ∧ b < 2 ^ 64) : RO P ρ (.binOp .or t x y yt) w (.int .u64 ((a ||| b : Nat) : Int)) w := by
  have := ro_or (P := P) (ρ := ρ) (w := w) (t := t) (yt := yt) hx hy; rwa [(bits_u64 h.1 h.2).2.1] at this
/-- a byte as a word -/
theorem ro_conv64 {src dst : TypeId} {a : Nat} {k : IntKind} (hs : (P.underlying src).isSome = true) (hd : P.underlying dst = some (.int .u64)) (hx : ρ x = .int k (a : Nat)) (h : a < 2 ^ 64) : RO P ρ (.convert src dst x) w (.int .u64 (a : Nat)) w :=
  ro_conv' hs hd hx (IntWalk.u64_in _ (by omega))
theorem ro_convI {src dst : TypeId} {a : Nat} {k : IntKind} (hs : (P.underlying src).isSome = true) (hd : P.underlying dst = some (.int .i64)) (hx : ρ x = .int k (a : Nat)) (h : a ≤ 9223372036854775807) : RO P ρ (.convert src dst x) w (.int .i64 (a : Nat)) w :=
  ro_conv' hs hd hx (IntWalk.i64_in _ (by omega))
theorem ro_conv8 {src dst : TypeId} {a : Nat} {k : IntKind} (hs : (P.underlying src).isSome = true) (hd : P.underlying dst = some (.int .u8)) (hx : ρ x = .int k (a : Nat)) : RO P ρ (.convert src dst x) w (.int .u8 ((a % 256 : Nat) : Int)) w :=
  ro_conv' hs hd hx (by rw [IntKind.wrap_u8]; omega)
/-! ### slices and memory -/
variable {A : Option Addr} {ad : Addr} {n c : Nat}
theorem ro_len (ht : (elemQ P t).isSome = true) (hx : ρ x = .slice A n c) : RO P ρ (.call { callee := .builtin .len, args := #[x], argTypes := #[t] }) w (.int .i64 n) w := fun _ _ _ _ _ => by
  obtain ⟨⟨e, sz⟩, he⟩ := Option.isSome_iff_exists.mp ht
  obtain ⟨hu, _⟩ := elem_of he
  simp [BigFrame.execOp_builtin, BigFrame.builtin_len, Builtin.len_, run_underlying hu, hx, goInt]
theorem ro_lenS (ht : P.underlying t = some .string) (hx : ρ x = .string s) : RO P ρ (.call { callee := .builtin .len, args := #[x], argTypes := #[t] }) w (.int .i64 s.size) w := fun _ _ _ _ _ => by
  simp [BigFrame.execOp_builtin, BigFrame.builtin_len, Builtin.len_, run_underlying ht, hx, goInt]
theorem ro_nilCheck (hx : ρ x = .pointer (some ad)) : RO P ρ (.nilCheck x) w (.pointer (some ad)) w := fun _ _ _ _ _ => by simp [execOp, hx]
theorem ro_fieldAddr {f o b off : Nat} (hf : fieldQ P t f = some o) (hx : ρ x = .pointer (some ⟨b, off, none⟩)) : RO P ρ (.fieldAddr t x f) w (.pointer (some ⟨b, off + o, none⟩)) w := fun _ _ _ _ _ => by
  unfold fieldQ at hf
  split at hf
  · rename_i fs hu
    split at hf
    · rename_i fl hfl
      split at hf
      · rename_i i hi
        split at hf
        · cases hf
        · rename_i hs
          obtain rfl := Option.some.inj hf
          simp [execOp, hx, Instr.fieldAt, run_underlying hu, hfl, Instr.sureAddr, fieldPlace, sizeOf, typeInfo, hi, hs, Addr.add_mid]
      · cases hf
    · cases hf
  · cases hf
theorem ro_indexAddr {e sz b off : Nat} {i : Int} {k : IntKind} (ht : elemQ P t = some (e, sz)) (hx : ρ x = .slice (some ⟨b, off, none⟩) n c) (hy : ρ y = .int k i) (h : 0 ≤ i ∧ i < n) :
    RO P ρ (.indexAddr t x y) w (.pointer (some ⟨b, off + i.toNat * sz, none⟩)) w := fun _ _ _ _ _ => by
  obtain ⟨hu, hs⟩ := elem_of ht
  simp [execOp, hx, hy, Instr.indexAt, asIntOf, run_underlying hu, h, sizeOf_of hs, Addr.add_mid]
/-- the index a Nat -/
theorem ro_indexAddrN {e sz b off i : Nat} {k : IntKind} (ht : elemQ P t = some (e, sz)) (hx : ρ x = .slice (some ⟨b, off, none⟩) n c) (hy : ρ y = .int k (i : Nat)) (h : i < n) :
    RO P ρ (.indexAddr t x y) w (.pointer (some ⟨b, off + i * sz, none⟩)) w := ro_indexAddr ht hx hy ⟨by omega, by omega⟩
/-- cells of one value -/
theorem ro_indexAddr1 {e b off i : Nat} {k : IntKind} (ht : elemQ P t = some (e, 1)) (hx : ρ x = .slice (some ⟨b, off, none⟩) n c) (hy : ρ y = .int k (i : Nat)) (h : i < n) :
    RO P ρ (.indexAddr t x y) w (.pointer (some ⟨b, off + i, none⟩)) w := by
  have := ro_indexAddrN (P := P) (ρ := ρ) (w := w) ht hx hy h
  rwa [Nat.mul_one] at this
/-- from the head of a block on -/
theorem ro_indexAddr0 {e b i : Nat} {k : IntKind} (ht : elemQ P t = some (e, 1)) (hx : ρ x = .slice (some ⟨b, 0, none⟩) n c) (hy : ρ y = .int k (i : Nat)) (h : i < n) :
    RO P ρ (.indexAddr t x y) w (.pointer (some ⟨b, i, none⟩)) w := by
  have := ro_indexAddr1 (P := P) (ρ := ρ) (w := w) ht hx hy h
  rwa [Nat.zero_add] at this
theorem ro_indexS {i : Int} {k : IntKind} (ht : P.underlying t = some .string) (hx : ρ x = .string s) (hy : ρ y = .int k i) (h0 : 0 ≤ i) {u : UInt8} (hu : s[i.toNat]? = some u) :
    RO P ρ (.index t x y) w (.int .u8 u.toNat) w := fun _ _ _ _ _ => by
  simp [execOp, hx, hy, Instr.index, asIntOf, run_underlying ht, h0, hu]
theorem ro_load {v : Value} (ht : aggQ P t = some false) (hx : ρ x = .pointer (some ad)) (hc : w.cell? ad = some v) : RO P ρ (.load t x) w v w := fun _ _ _ _ _ => by
  simp [execOp, hx, Instr.loadAt, Instr.sureAddr, loadVar, isAgg_of ht, hc]
theorem ro_loadA {b off : Nat} {cs : List Value} (ht : aggQ P t = some true) (hs : sizeQ P t = some cs.length) (hx : ρ x = .pointer (some ⟨b, off, none⟩)) (hc : w.rangeAt b off cs) : RO P ρ (.load t x) w (.agg cs.toArray) w := fun _ _ _ _ _ => by
  have hl : (loadCells ⟨b, off, none⟩ cs.length).run P w = .ok cs.toArray w :=
    run_loadCells_list (P := P) w ⟨b, off, none⟩ cs (fun j v hv => by rw [Addr.add_mid]; exact hc j v hv)
  simp [execOp, hx, Instr.loadAt, Instr.sureAddr, loadVar, isAgg_of ht, sizeOf_of hs, hl]
theorem rs_store {v u : Value} (ht : sizeQ P t = some 1) (hx : ρ x = .pointer (some ad)) (hy : ρ y = v) (h1 : v.oneCell' = true) (hc : w.cell? ad = some u) (hf : w.frozen? ad = false) : RS P ρ (.store t x y) w (w.setCell ad v) := fun _ _ _ _ _ => by
  have hcs : v.cells = #[v] := by cases v <;> first | rfl | (simp [Value.oneCell'] at h1)
  have hst := run_store P w ad v .plain h1
  rw [hc] at hst
  simp only [hf] at hst
  have e0 : ad.add 0 = ad := by unfold Addr.add; simp
  simp [execOp, hx, hy, Instr.storeAt, Instr.sureAddr, storeVar, sizeOf_of ht, hcs, storeCells, e0, hst]
theorem rs_storeA {b off : Nat} {cs : List Value} (hs : sizeQ P t = some cs.length) (hx : ρ x = .pointer (some ⟨b, off, none⟩)) (hy : ρ y = .agg cs.toArray) (h1 : ∀ v ∈ cs, v.oneCell' = true) (hc : w.there b off cs.length) :
    RS P ρ (.store t x y) w (w.setCells b off cs) := fun _ _ _ _ _ => by
  have hr := run_storeAt_mid (P := P) w b off t cs.toArray (by simpa using hc) (by simpa [sizeQ] using hs) (all_oneCell_toArray h1)
  simp [execOp, hx, hy, hr]
theorem ro_alloc {z : Value} (hz : zeroQ P t = some z) : RO P ρ (.alloc t) w (.pointer (some ⟨w.heap.size, 0, none⟩)) (w.alloc (.cells z.cells t)) := fun _ _ _ _ _ => by
  simp [execOp, Instr.alloc, zero_of hz, newVar, newRow]
theorem ro_box {v : Value} (hx : ρ x = v) : RO P ρ (.box t x) w (.pointer (some ⟨w.heap.size, 0, none⟩)) (w.alloc (.cells v.cells t)) := fun _ _ _ _ _ => by
  simp [execOp, Instr.box, hx, newVar, newRow]
theorem ro_build {l : List (Nat × Operand)} {cells : Array Value} (h : P.built t (l.map fun p => (p.1, ρ p.2)) = some cells) : RO P ρ (.build t l.toArray) w (.agg cells) w := fun _ _ _ _ _ => by
  have := run_build (P := P) w t ((l.map fun p => (p.1, ρ p.2)).toArray) cells (by simpa using h)
  simp only [execOp, List.map_toArray, Sem.run_bind]
  rw [this]
  rfl
theorem ro_buildSlice {e m : Nat} {l : List (Nat × Operand)} {cells : Array Value} {ie : TypeInfo} {z : Value} (hu : P.underlying t = some (.slice e)) (hie : P.info? e = some ie) (hz : ie.zero = some z) (hsmall : ¬ m * ie.size > 2 ^ 24) (hpos : ¬ m * ie.size = 0)
    (hf : Instr.fill (fun i => some (i * ie.size, ie.size)) ((Array.range (m * ie.size)).map (z.cells[· % z.cells.size]!)) (l.map fun p => (p.1, ρ p.2)) = some cells) :
    RO P ρ (.buildSlice t m l.toArray) w (.slice (some ⟨w.heap.size, 0, none⟩) m m) (w.alloc (.cells cells e)) := fun _ _ _ _ _ => by
  have := run_buildSlice (P := P) w t e m ((l.map fun p => (p.1, ρ p.2)).toArray) cells ie z hu hie hz hsmall hpos (by simpa using hf)
  simp only [execOp, List.map_toArray, Sem.run_bind]
  rw [this]
  rfl
theorem ro_extract {i : Nat} {l : List Value} {v : Value} (hx : ρ x = .tuple l.toArray) (hv : l[i]? = some v) : RO P ρ (.extract x i) w v w := fun _ _ _ _ _ => by
  simp [execOp, hx, Instr.extract, hv]
/-! ### pieces of a slice -/
theorem ro_slice {e sz b off l h : Nat} (ht : elemQ P t = some (e, sz)) {lo hi : Option Operand} (hx : ρ x = .slice (some ⟨b, off, none⟩) n c)
    (hl : (lo = none ∧ l = 0) ∨ ∃ y k, lo = some y ∧ ρ y = .int k (l : Nat)) (hh : (hi = none ∧ h = n) ∨ ∃ y k, hi = some y ∧ ρ y = .int k (h : Nat)) (h1 : l ≤ h) (h2 : h ≤ c) :
    RO P ρ (.slice t x lo hi none) w (.slice (some ⟨b, if c = l then off else off + l * sz, none⟩) (h - l) (c - l)) w := fun _ _ _ _ _ => by
  obtain ⟨hu, hs⟩ := elem_of ht
  have key : ∀ A : Addr, A = ⟨b, off, none⟩ → (Option.some (if c = l then A else A.add (l * sz))) = some ⟨b, if c = l then off else off + l * sz, none⟩ := fun A hA => by subst hA; split <;> simp [Addr.add_mid]
  have hE : P.elem t = e := by simp [Program.elem, hu]
  have hu' : P.underlying t = some (.slice (P.elem t)) := by rw [hE]; exact hu
  have fin : (Result.ok (sliced (some ⟨b, off, none⟩) l h c sz) w : Result Value) = .ok (.slice (some ⟨b, if c = l then off else off + l * sz, none⟩) (h - l) (c - l)) w := by
    simp only [sliced]
    split <;> simp [Addr.add_mid]
  rcases hl with ⟨rfl, rfl⟩ | ⟨y1, k1, rfl, hy1⟩ <;> rcases hh with ⟨rfl, rfl⟩ | ⟨y2, k2, rfl, hy2⟩
  · simp only [execOp, hx, Option.map_none, Sem.run_bind]
    rw [run_sliceAt_slice w t _ _ _ _ hu', run_slice_all w t _ _ c hu', hE, sizeOf_of hs, Result.andThen_ok, fin]; rfl
  · simp only [execOp, hx, hy2, Option.map_none, Option.map_some, Sem.run_bind]
    rw [run_sliceAt_slice w t _ _ _ _ hu', run_slice_h w t _ n c hu' k2 (h : Int) (by omega) (by omega), hE, sizeOf_of hs, Result.andThen_ok, Int.toNat_natCast, fin]; rfl
  · simp only [execOp, hx, hy1, Option.map_none, Option.map_some, Sem.run_bind]
    rw [run_sliceAt_slice w t _ _ _ _ hu', run_slice_l w t _ _ c hu' k1 (l : Int) (by omega) (by omega), hE, sizeOf_of hs, Result.andThen_ok, Int.toNat_natCast, fin]; rfl
  · simp only [execOp, hx, hy1, hy2, Option.map_none, Option.map_some, Sem.run_bind]
    rw [run_sliceAt_slice w t _ _ _ _ hu', run_slice_lh w t _ n c hu' k1 k2 (l : Int) (h : Int) (by omega) (by omega) (by omega), hE, sizeOf_of hs, Result.andThen_ok, Int.toNat_natCast, Int.toNat_natCast, fin]; rfl
end

/-! ### steps -/
section steps
variable {P : Program} {ops : Array Oper} {Q : Exit → Act → World → Prop} {rest : List Oper} {n : Fr} {L : List (Nat × Value)} {w w' : World} {op : Op} {ty : TypeId} {pos : String} {after : Array Edge} {d : Nat}
theorem st_val {v : Value} (hr : RO P (ev n L) op w v w') (k : St P ops Q rest n ((d, v) :: L) w') : St P ops Q (⟨some d, op, ty, pos, after, none⟩ :: rest) n L w := by
  refine ⟨wpList_plain rfl fun K hK => ?_⟩
  unfold Oper.wp
  rw [eval_mkA, hr]
  rw [Oper.upon_value, put_mkA]
  exact hK _ _ k.out
theorem st_store (hr : RS P (ev n L) op w w') (k : St P ops Q rest n L w') : St P ops Q (⟨none, op, ty, pos, after, none⟩ :: rest) n L w := by
  refine ⟨wpList_plain rfl fun K hK => ?_⟩
  unfold Oper.wp
  rw [eval_mkA, hr]
  rw [Oper.upon_skip]
  exact hK _ _ k.out
/-- what a guard's slot says -/
def nthDst : List Oper → Nat → Option Nat
  | [], _ => none
  | o :: _, 0 => o.dst
  | _ :: r, j + 1 => nthDst r j
theorem nthDst_eq : ∀ (l : List Oper) (j : Nat), nthDst l j = (l[j]?).bind (·.dst)
  | [], _ => by simp [nthDst]
  | o :: _, 0 => by simp [nthDst]
  | _ :: r, j + 1 => by simpa [nthDst] using nthDst_eq r j
def wantQ (ops : Array Oper) (n : Fr) (L : List (Nat × Value)) (j : Nat) : Value := match nthDst ops.toList j with | some t => ev n L (.tmp t) | none => undef
theorem yielded_mkT {j : Nat} {b : Bool} (h : wantQ ops n L j = .bool b) : yielded ops (mkT n.n L) j = some b := by
  unfold wantQ at h
  rw [nthDst_eq, Array.getElem?_toList] at h
  unfold yielded
  cases hd : (ops[j]?).bind (·.dst) with
  | none => rw [hd] at h; simp [undef] at h
  | some t =>
    rw [hd] at h
    simp only [Option.bind_some, mkT_get]
    simp only [ev, blt_iff] at h
    by_cases ht : t < n.n
    · simp only [ht, decide_true, cond_true] at h
      simp [ht, h]
    · simp [ht, undef] at h
theorem mvi {x : Operand} {k : IntKind} {a : Int} (hx : ev n L x = .int k a) (h : St P ops Q rest n ((d, .int k a) :: L) w) : St P ops Q (⟨some d, .move x, ty, pos, after, none⟩ :: rest) n L w := st_val (ro_move hx) h
theorem mvs {x : Operand} {A : Option Addr} {m c : Nat} (hx : ev n L x = .slice A m c) (h : St P ops Q rest n ((d, .slice A m c) :: L) w) : St P ops Q (⟨some d, .move x, ty, pos, after, none⟩ :: rest) n L w := st_val (ro_move hx) h
theorem mvb {x : Operand} {b : Bool} (hx : ev n L x = .bool b) (h : St P ops Q rest n ((d, .bool b) :: L) w) : St P ops Q (⟨some d, .move x, ty, pos, after, none⟩ :: rest) n L w := st_val (ro_move hx) h
theorem mvp {x : Operand} {A : Option Addr} (hx : ev n L x = .pointer A) (h : St P ops Q rest n ((d, .pointer A) :: L) w) : St P ops Q (⟨some d, .move x, ty, pos, after, none⟩ :: rest) n L w := st_val (ro_move hx) h
theorem mvt {x : Operand} {l : Array Value} (hx : ev n L x = .tuple l) (h : St P ops Q rest n ((d, .tuple l) :: L) w) : St P ops Q (⟨some d, .move x, ty, pos, after, none⟩ :: rest) n L w := st_val (ro_move hx) h
theorem mvg {x : Operand} {s : ByteArray} (hx : ev n L x = .string s) (h : St P ops Q rest n ((d, .string s) :: L) w) : St P ops Q (⟨some d, .move x, ty, pos, after, none⟩ :: rest) n L w := st_val (ro_move hx) h
theorem asi {x : Operand} {k : IntKind} {a : Int} (hx : ev n L x = .int k a) (h : St P ops Q rest n ((d, .int k a) :: L) w) : St P ops Q (⟨some d, .assign x, ty, pos, after, none⟩ :: rest) n L w := st_val (ro_assign hx) h
theorem ass {x : Operand} {A : Option Addr} {m c : Nat} (hx : ev n L x = .slice A m c) (h : St P ops Q rest n ((d, .slice A m c) :: L) w) : St P ops Q (⟨some d, .assign x, ty, pos, after, none⟩ :: rest) n L w := st_val (ro_assign hx) h
theorem asb {x : Operand} {b : Bool} (hx : ev n L x = .bool b) (h : St P ops Q rest n ((d, .bool b) :: L) w) : St P ops Q (⟨some d, .assign x, ty, pos, after, none⟩ :: rest) n L w := st_val (ro_assign hx) h
theorem asp {x : Operand} {A : Option Addr} (hx : ev n L x = .pointer A) (h : St P ops Q rest n ((d, .pointer A) :: L) w) : St P ops Q (⟨some d, .assign x, ty, pos, after, none⟩ :: rest) n L w := st_val (ro_assign hx) h
theorem st_gno {j : Nat} {b b' : Bool} (hg : wantQ ops n L j = .bool b') (hb : (b' == b) = false) (k : St P ops Q rest n ((d, undef) :: L) w) : St P ops Q (⟨some d, op, ty, pos, after, some (j, b)⟩ :: rest) n L w := by
  refine ⟨wpList_step fun K hK => ?_⟩
  have hw : Region.wanted ⟨some d, op, ty, pos, after, some (j, b)⟩ (yielded ops (mkA n L).tmps) = false := by
    show (yielded ops (mkT n.n L) j == some b) = false
    rw [yielded_mkT hg]; simpa using hb
  rw [if_neg (by rw [hw]; simp), put_mkA]
  exact hK _ _ k.out
/-- a guard over an operation that was passed over itself -/
theorem yielded_undef {j : Nat} (h : wantQ ops n L j = undef) : yielded ops (mkT n.n L) j = none := by
  unfold wantQ at h
  rw [nthDst_eq, Array.getElem?_toList] at h
  unfold yielded
  cases hd : (ops[j]?).bind (·.dst) with
  | none => rfl
  | some t =>
    rw [hd] at h
    simp only [Option.bind_some, mkT_get]
    simp only [ev, blt_iff] at h
    by_cases ht : t < n.n
    · simp only [ht, decide_true, cond_true] at h
      rw [if_pos ht, h]
      rfl
    · simp [ht]
theorem st_gund {j : Nat} {b : Bool} (hg : wantQ ops n L j = undef) (k : St P ops Q rest n ((d, undef) :: L) w) : St P ops Q (⟨some d, op, ty, pos, after, some (j, b)⟩ :: rest) n L w := by
  refine ⟨wpList_step fun K hK => ?_⟩
  have hw : Region.wanted ⟨some d, op, ty, pos, after, some (j, b)⟩ (yielded ops (mkA n L).tmps) = false := by
    show (yielded ops (mkT n.n L) j == some b) = false
    rw [yielded_undef hg]; rfl
  rw [if_neg (by rw [hw]; simp), put_mkA]
  exact hK _ _ k.out
/-- a guard that says yes -/
theorem st_unguard {dst : Option Tmp} {j : Nat} {b : Bool} (hg : wantQ ops n L j = .bool b) (k : St P ops Q (⟨dst, op, ty, pos, after, none⟩ :: rest) n L w) : St P ops Q (⟨dst, op, ty, pos, after, some (j, b)⟩ :: rest) n L w := by
  have hw : Region.wanted ⟨dst, op, ty, pos, after, some (j, b)⟩ (yielded ops (mkA n L).tmps) = true := by
    show (yielded ops (mkT n.n L) j == some b) = true
    rw [yielded_mkT hg]; simp
  have hk := k.out
  constructor
  unfold wpList at hk ⊢
  rw [if_pos hw]
  exact hk
/-- by cases on the bool that a slot holds -/
theorem st_split {t : Nat} {e : Bool} (h : look L t = .bool e) (hT : e = true → St P ops Q rest n ((t, .bool true) :: L) w) (hF : e = false → St P ops Q rest n ((t, .bool false) :: L) w) : St P ops Q rest n L w := by
  have key : ∀ v, look L t = v → mkA n ((t, v) :: L) = mkA n L := fun v hv => mkA_congr fun i _ => by
    rw [look_cons]
    split
    · rename_i hi; subst hi; exact hv.symm
    · rfl
  cases e with
  | true => have := (hT rfl).out; rw [key _ h] at this; exact ⟨this⟩
  | false => have := (hF rfl).out; rw [key _ h] at this; exact ⟨this⟩
/-- a slot's value, spelled otherwise -/
theorem st_spell {t : Nat} {v v' : Value} (h : look L t = v) (he : v = v') (k : St P ops Q rest n ((t, v') :: L) w) : St P ops Q rest n L w := by
  have key : mkA n ((t, v') :: L) = mkA n L := mkA_congr fun i _ => by
    rw [look_cons]
    split
    · rename_i hi; subst hi; rw [h, he]
    · rfl
  have := k.out
  rw [key] at this
  exact ⟨this⟩
/-! calls -/
def callable (P : Program) (f : FuncId) : Bool := match P.funcs[f]? with | some fn => !(fn.name == "runtime.NumGoroutine") && fn.body.isSome | none => false
theorem run_call {f : FuncId} (hf : callable P f = true) (args : Array Value) : (callFunc f args).run P w = .ok (.enter f args) w := by
  unfold callable at hf
  cases h : P.funcs[f]? with
  | none => simp [h] at hf
  | some fn =>
    simp only [h, Bool.and_eq_true, Bool.not_eq_true'] at hf
    have hb : fn.body.isNone = false := by cases hb : fn.body <;> simp_all
    simp only [callFunc, Sem.run_bind, run_program, Result.andThen_ok, h, hf.1, hb, Bool.false_eq_true, if_false]
    rfl
theorem exec_call {ρ : Operand → Value} (hρ : ∀ f, ρ (.func f) = .func (.func f) #[] #[]) {f : FuncId} {l : List Operand} {ats : Array TypeId} {g : Option (Nat × Bool)} {dst : Option Tmp} :
    execOp ρ ⟨dst, .call { callee := .value (.func f), args := l.toArray, argTypes := ats }, ty, pos, after, g⟩ = callFunc f (l.map ρ).toArray := by
  have : execOp ρ ⟨dst, .call { callee := .value (.func f), args := l.toArray, argTypes := ats }, ty, pos, after, g⟩ = (do let d ← Deferred.ofValue (ρ (.func f)) (l.toArray.map ρ); invoke d.target d.args) := rfl
  rw [this, hρ]
  show callFunc f (#[] ++ l.toArray.map ρ ++ #[]) = _
  simp
theorem st_call {f : FuncId} {l : List Operand} {ats : Array TypeId} {R : Value → World → Prop} (hf : callable P f = true) (hc : Rt P f (l.map (ev n L)) w R) (k : ∀ v w', R v w' → St P ops Q rest n ((d, v) :: L) w') :
    St P ops Q (⟨some d, .call { callee := .value (.func f), args := l.toArray, argTypes := ats }, ty, pos, after, none⟩ :: rest) n L w := by
  refine ⟨wpList_plain rfl fun K hK => ?_⟩
  unfold Oper.wp
  rw [eval_mkA, exec_call (fun _ => rfl), run_call hf, Oper.upon_enter]
  refine Calls.mono hc fun e w' ⟨v, he, hR⟩ => ?_
  subst he
  show K ((mkA n L).put (some d) v) w'
  rw [put_mkA]
  exact hK _ _ (k v w' hR).out
end steps
end Go.Proofs.YtglndihdhaaccaaDoor

namespace Go.Proofs.YtglndihdhaaccaaDoor
open Go.RowKit

/-- no more than this value -/
def eqp (x : Value) : Value → World → Prop := fun v _ => v = x
def lookR : List (Nat × (Value → World → Prop)) → Nat → Value → World → Prop
  | [], _ => fun _ _ => True
  | (k, R) :: r, i => bif Nat.beq i k then R else lookR r i
def MonoR : List (Nat × (Value → World → Prop)) → Prop
  | [] => True
  | (_, R) :: r => (∀ v w1 w2, From w1 w2 → R v w1 → R v w2) ∧ MonoR r
theorem eqp_mono (x : Value) : ∀ v w1 w2, From w1 w2 → eqp x v w1 → eqp x v w2 := fun _ _ _ _ h => h
theorem lookR_mono : ∀ {l : List (Nat × (Value → World → Prop))}, MonoR l → ∀ t v w1 w2, From w1 w2 → lookR l t v w1 → lookR l t v w2
  | [], _, _, _, _, _, _, _ => trivial
  | (k, R) :: r, ⟨h1, h2⟩, t, v, w1, w2, hF, h => by
    have e : lookR ((k, R) :: r) t = bif Nat.beq t k then R else lookR r t := rfl
    rw [e] at h ⊢
    cases hb : Nat.beq t k with
    | true => rw [hb] at h; exact h1 _ _ _ hF h
    | false => rw [hb] at h; exact lookR_mono h2 t v w1 w2 hF h
/-- for whatever values of these slots that fit -/
def AllF (R : Nat → Value → World → Prop) (w : World) : List Nat → (List (Nat × Value) → Prop) → Prop
  | [], K => K []
  | d :: r, K => ∀ v, R d v w → AllF R w r fun M => K ((d, v) :: M)
theorem allF_at {R : Nat → Value → World → Prop} {w : World} (ρ : Nat → Value) : ∀ (l : List Nat) {K : List (Nat × Value) → Prop}, (∀ d ∈ l, R d (ρ d) w) → AllF R w l K → K (l.map fun d => (d, ρ d))
  | [], _, _, h => h
  | d :: r, _, hr, h => allF_at ρ r (fun e he => hr e (List.mem_cons_of_mem _ he)) (h (ρ d) (hr d (List.mem_cons_self ..)))
theorem look_map (ρ : Nat → Value) (l : List Nat) (L : List (Nat × Value)) (t : Nat) : look (l.map (fun d => (d, ρ d)) ++ L) t = if l.elem t then ρ t else look L t := by
  induction l with
  | nil => rfl
  | cons d l ih =>
    show look ((d, ρ d) :: (l.map (fun d => (d, ρ d)) ++ L)) t = _
    rw [look_cons, ih]
    by_cases h : t = d
    · subst h; simp
    · have : (d :: l).elem t = l.elem t := by simp [List.elem_cons, h]
      rw [if_neg h, this]

/-- one operation: it yields a value that fits, and the world only grows -/
def OpOK (P : Program) (ops : Array Oper) (n : Fr) (L : List (Nat × Value)) (o : Oper) (w : World) (R : Value → World → Prop) : Prop :=
  (Region.wanted o (yielded ops (mkT n.n L)) = true ∧ ((∃ v w', (execOp (ev n L) o).run P w = .ok (.value v) w' ∧ From w w' ∧ R v w') ∨
    (∃ f l, (execOp (ev n L) o).run P w = .ok (.enter f (List.toArray l)) w ∧ Rt P f l w fun v w' => From w w' ∧ R v w'))) ∨
  (Region.wanted o (yielded ops (mkT n.n L)) = false ∧ R undef w)
section
variable {P : Program} {ops : Array Oper} {n : Fr} {L : List (Nat × Value)} {w w' : World} {op : Op} {ty : TypeId} {pos : String} {after : Array Edge} {d : Option Nat} {R : Value → World → Prop}
theorem ok_val {v : Value} (hr : RO P (ev n L) op w v w') (hF : From w w') (hR : R v w') : OpOK P ops n L ⟨d, op, ty, pos, after, none⟩ w R :=
  .inl ⟨rfl, .inl ⟨v, w', hr _ _ _ _ _, hF, hR⟩⟩
theorem ok_pure {v : Value} (hr : RO P (ev n L) op w v w) (hR : R v w) : OpOK P ops n L ⟨d, op, ty, pos, after, none⟩ w R := ok_val hr From.rfl_ hR
theorem ok_call {f : FuncId} {l : List Operand} {ats : Array TypeId} (hf : callable P f = true) (hc : Rt P f (l.map (ev n L)) w fun v w' => From w w' ∧ R v w') :
    OpOK P ops n L ⟨d, .call { callee := .value (.func f), args := l.toArray, argTypes := ats }, ty, pos, after, none⟩ w R :=
  .inl ⟨rfl, .inr ⟨f, l.map (ev n L), by rw [exec_call (fun _ => rfl), run_call hf], hc⟩⟩
theorem ok_gpure {v : Value} {j : Nat} {b : Bool} (hg : wantQ ops n L j = .bool b) (hr : RO P (ev n L) op w v w) (hR : R v w) : OpOK P ops n L ⟨d, op, ty, pos, after, some (j, b)⟩ w R :=
  .inl ⟨by show (yielded ops (mkT n.n L) j == some b) = true; rw [yielded_mkT hg]; simp, .inl ⟨v, w, hr _ _ _ _ _, From.rfl_, hR⟩⟩
theorem ok_gcall {f : FuncId} {l : List Operand} {ats : Array TypeId} {j : Nat} {b : Bool} (hg : wantQ ops n L j = .bool b) (hf : callable P f = true) (hc : Rt P f (l.map (ev n L)) w fun v w' => From w w' ∧ R v w') :
    OpOK P ops n L ⟨d, .call { callee := .value (.func f), args := l.toArray, argTypes := ats }, ty, pos, after, some (j, b)⟩ w R :=
  .inl ⟨by show (yielded ops (mkT n.n L) j == some b) = true; rw [yielded_mkT hg]; simp, .inr ⟨f, l.map (ev n L), by rw [exec_call (fun _ => rfl), run_call hf], hc⟩⟩
theorem ok_gno {j : Nat} {b b' : Bool} (hg : wantQ ops n L j = .bool b') (hb : (b' == b) = false) (hR : R undef w) : OpOK P ops n L ⟨d, op, ty, pos, after, some (j, b)⟩ w R :=
  .inr ⟨by show (yielded ops (mkT n.n L) j == some b) = false; rw [yielded_mkT hg]; simpa using hb, hR⟩
end

/-- the slots that an operation looks at, of those that the region's head writes -/
def slotsOf (ops : Array Oper) (pre : List Nat) (o : Oper) : List Nat := (pre.filter fun t => (o.looksAt ops).elem t)
def isSelect : Op → Bool | .select _ _ => true | _ => false
def hasEdge (o : Oper) (i : Nat) : Bool := o.after.toList.any fun e => Region.binds .any e && e.on == i
/-- the region's shape -/
def monoB (l : List Oper) (K : Nat) : Bool :=
  let ops := l.toArray
  let dst (i : Nat) : Option Nat := (l[i]?).bind (·.dst)
  decide (K ≤ l.length) &&
  (List.range l.length).all fun i => match l[i]? with
    | none => false
    | some o =>
      (o.after.toList.all fun e => !Region.binds .any e || decide (e.on < i)) && !isSelect o.op &&
      (if i < K then
        (match o.dst with
         | none => false
         | some d => (List.range K).all (fun j => j == i || dst j != some d) && !((o.looksAt ops).elem d)) &&
        (List.range K).all (fun j => match dst j with
          | none => false
          | some d => !(o.looksAt ops).elem d || (decide (j < i) && hasEdge o j))
       else (List.range i).all (fun j => hasEdge o j))
def OpsOK (P : Program) (ops : Array Oper) (n : Fr) (L : List (Nat × Value)) (w : World) (R : Nat → Value → World → Prop) (pre : List Nat) : List Oper → Prop
  | [] => True
  | o :: r => (∀ w', From w w' → AllF R w' (slotsOf ops pre o) fun M => OpOK P ops n (M ++ L) o w' (R (o.dst.getD 0))) ∧ OpsOK P ops n L w R pre r
theorem opsOK_at {P : Program} {ops : Array Oper} {n : Fr} {L : List (Nat × Value)} {w : World} {R : Nat → Value → World → Prop} {pre : List Nat} : ∀ {l : List Oper}, OpsOK P ops n L w R pre l → ∀ (i : Nat) (o : Oper), l[i]? = some o →
    ∀ w', From w w' → AllF R w' (slotsOf ops pre o) fun M => OpOK P ops n (M ++ L) o w' (R (o.dst.getD 0))
  | [], _, i, o, h => by simp at h
  | x :: r, ⟨h1, h2⟩, 0, o, h => by
    simp only [List.getElem?_cons_zero, Option.some.injEq] at h
    subst h
    exact h1
  | x :: r, ⟨h1, h2⟩, i + 1, o, h => opsOK_at h2 i o (by simpa using h)
def preOf (l : List Oper) (K : Nat) : List Nat := (l.take K).filterMap (·.dst)

theorem count_set_true : ∀ {l : List Bool} {i : Nat}, l[i]? = some false → (l.set i true).count false + 1 = l.count false
  | [], i, h => by simp at h
  | x :: r, 0, h => by
    simp only [List.getElem?_cons_zero, Option.some.injEq] at h
    subst h
    simp
  | x :: r, i + 1, h => by
    have := count_set_true (l := r) (i := i) (by simpa using h)
    simp only [List.set_cons_succ, List.count_cons]
    omega
section main
variable {P : Program} {Q : Exit → Act → World → Prop} {n : Fr} {L : List (Nat × Value)} {w : World} {l : List Oper} {K : Nat} {R : Nat → Value → World → Prop}
theorem getD_true_false {listed : Array Bool} {i : Nat} (h : i < listed.size) : listed.getD i true = listed.getD i false := by
  simp [Array.getD, h]
/-- behind the head there is one order only -/
theorem tail_seq (hc : monoB l K = true) : ∀ (m k : Nat) (listed : Array Bool) (a : Act) (w' : World), k + m = l.length → K ≤ k → listed.size = l.length → (∀ j, j < l.length → listed.getD j true = decide (j < k)) →
    wpList P l.toArray Q (l.drop k) a w' → wpAny P .any l.toArray Q m listed a w'
  | 0, k, listed, a, w', hk, hK, hs, hl, h => by
    have hd : l.drop k = [] := List.drop_eq_nil_of_le (by omega)
    rw [hd] at h
    refine ⟨?_, h⟩
    rw [List.eq_nil_iff_forall_not_mem]
    intro j hj
    obtain ⟨h0, o, ho, _⟩ := mem_ready.1 hj
    have hjl : j < l.length := by
      rw [List.getElem?_toArray] at ho
      exact (List.getElem?_eq_some_iff.1 ho).1
    rw [hl j hjl] at h0
    simp at h0
    omega
  | m + 1, k, listed, a, w', hk, hK, hs, hl, h => by
    have hkl : k < l.length := by omega
    have hdrop : l.drop k = l[k] :: l.drop (k + 1) := List.drop_eq_getElem_cons hkl
    have hck := (List.all_eq_true.1 (Bool.and_eq_true_iff.1 hc).2)
    have hrk : k ∈ Region.ready .any l.toArray listed := by
      refine mem_ready.2 ⟨by rw [hl k hkl]; simp, l[k], by rw [List.getElem?_toArray, List.getElem?_eq_getElem hkl], fun e he hb => ?_⟩
      have hx := hck k (List.mem_range.2 hkl)
      rw [List.getElem?_eq_getElem hkl] at hx
      simp only [Bool.and_eq_true] at hx
      have he2 := List.all_eq_true.1 hx.1.1 e (by simpa using he)
      rw [hb] at he2
      simp at he2
      rw [← getD_true_false (by omega), hl _ (by omega)]
      simpa using he2
    refine ⟨fun h0 => (by rw [h0] at hrk; cases hrk), fun j hj => ?_⟩
    obtain ⟨h0, o, ho, hall⟩ := mem_ready.1 hj
    rw [List.getElem?_toArray] at ho
    have hjl : j < l.length := (List.getElem?_eq_some_iff.1 ho).1
    rw [hl j hjl] at h0
    have hjk : j = k := by
      simp at h0
      rcases Nat.eq_or_lt_of_le h0 with e | hlt
      · exact e.symm
      · exfalso
        have hx := hck j (List.mem_range.2 hjl)
        rw [ho] at hx
        simp only [Bool.and_eq_true] at hx
        have h3 := hx.2
        rw [if_neg (by omega)] at h3
        have h4 := List.all_eq_true.1 h3 k (List.mem_range.2 hlt)
        obtain ⟨e, he, he2⟩ := List.any_eq_true.1 h4
        simp only [Bool.and_eq_true, beq_iff_eq] at he2
        have h5 := hall e (by simpa using he) he2.1
        rw [he2.2, ← getD_true_false (by omega), hl k hkl] at h5
        simp at h5
    subst hjk
    rw [hdrop] at h
    have hk2 : wpOp P l.toArray Q j (wpList P l.toArray Q (l.drop (j + 1))) a w' := by
      unfold wpOp
      rw [List.getElem?_toArray, List.getElem?_eq_getElem hkl]
      exact h
    refine wpOp_mono (fun a'' w'' h'' => tail_seq hc m (j + 1) _ a'' w'' (by omega) (by omega) (by simpa using hs) (fun i hi => ?_) h'') hk2
    by_cases e : j = i
    · subst e
      simp [hs, hkl]
    · rw [getD_set_ne true e, hl i hi]
      have : (i < j + 1) ↔ (i < j) := by omega
      simp [this]

theorem looksAt_agree {ops : Array Oper} {o : Oper} {L1 L2 : List (Nat × Value)} (hs : isSelect o.op = false) (h : ∀ t, (o.looksAt ops).elem t = true → look L1 t = look L2 t) :
    execOp (ev n L1) o = execOp (ev n L2) o ∧ Region.wanted o (yielded ops (mkT n.n L1)) = Region.wanted o (yielded ops (mkT n.n L2)) := by
  constructor
  · refine execOp_congr o (fun cs b e => by rw [e] at hs; simp [isSelect] at hs) fun x hx => ?_
    cases x with
    | tmp t =>
      have : look L1 t = look L2 t := h t (by
        simp only [List.elem_eq_mem, decide_eq_true_eq]
        exact List.mem_append_left _ (List.mem_filterMap.2 ⟨.tmp t, by simpa using hx, rfl⟩))
      simp only [ev, this]
    | _ => rfl
  · unfold Region.wanted
    cases hg : o.guard with
    | none => rfl
    | some gw =>
      obtain ⟨g, want⟩ := gw
      have hy : yielded ops (mkT n.n L1) g = yielded ops (mkT n.n L2) g := by
        unfold yielded
        cases ht : (ops[g]?).bind (·.dst) with
        | none => rfl
        | some t =>
          have : look L1 t = look L2 t := h t (by
            simp only [List.elem_eq_mem, decide_eq_true_eq]
            exact List.mem_append_right _ (by simp [hg, ht]))
          simp only [Option.bind_some, mkT_get, this]
      simp only [hy]

theorem mono_seq (hc : monoB l K = true) (hmono : ∀ t v w1 w2, From w1 w2 → R t v w1 → R t v w2) (hop : OpsOK P l.toArray n L w R (preOf l K) (l.take K))
    (hend : ∀ w', From w w' → AllF R w' (preOf l K) fun M => St P l.toArray Q (l.drop K) n (M ++ L) w') :
    ∀ (m : Nat) (listed : Array Bool) (L' : List (Nat × Value)) (w' : World), listed.toList.count false = m → listed.size = l.length → (∀ j, K ≤ j → j < l.length → listed.getD j true = false) → From w w' →
      (∀ t, (∀ i o, i < K → l[i]? = some o → listed.getD i true = true → o.dst ≠ some t) → look L' t = look L t) →
      (∀ i o d, i < K → l[i]? = some o → listed.getD i true = true → o.dst = some d → R d (look L' d) w') → wpAny P .any l.toArray Q m listed (mkA n L') w' := by
  have hKl : K ≤ l.length := of_decide_eq_true (Bool.and_eq_true_iff.1 hc).1
  have hck := (List.all_eq_true.1 (Bool.and_eq_true_iff.1 hc).2)
  intro m
  induction m with
  | zero =>
    intro listed L' w' hcount hs htail hF hfr hR
    have hall : ∀ j, j < l.length → listed.getD j true = true := by
      intro j hj
      have hm : listed[j]'(by omega) ∈ listed.toList := by simp
      cases hb : listed[j]'(by omega) with
      | true => simp [Array.getD, show j < listed.size by omega, hb]
      | false =>
        rw [hb] at hm
        exact absurd hcount (Nat.pos_iff_ne_zero.1 (List.count_pos_iff.2 hm))
    have hKe : K = l.length := by
      rcases Nat.lt_or_ge K l.length with h | h
      · have h1 := htail K (Nat.le_refl _) h
        rw [hall K h] at h1
        cases h1
      · omega
    have he := allF_at (look L') (preOf l K) (fun d hd => by
      obtain ⟨o, ho, hod⟩ := List.mem_filterMap.1 hd
      obtain ⟨i, hi⟩ := List.mem_iff_getElem?.1 ho
      rw [List.getElem?_take] at hi
      split at hi
      · exact hR i o d (by assumption) hi (hall i (List.getElem?_eq_some_iff.1 hi).1) hod
      · cases hi) (hend w' hF)
    have hL : mkA n ((preOf l K).map (fun d => (d, look L' d)) ++ L) = mkA n L' := mkA_congr fun t _ => by
      rw [look_map]
      split
      · rfl
      · rename_i hne
        refine (hfr t fun i o hi ho _ hod => hne ?_).symm
        simp only [List.elem_eq_mem, decide_eq_true_eq]
        exact List.mem_filterMap.2 ⟨o, List.mem_iff_getElem?.2 ⟨i, by rw [List.getElem?_take, if_pos hi]; exact ho⟩, hod⟩
    replace he := he.out
    rw [hL] at he
    exact tail_seq hc 0 l.length listed _ w' (by omega) (by omega) hs (fun j hj => by rw [hall j hj]; simp [hj]) (by rw [hKe] at he; exact he)
  | succ m ih =>
    intro listed L' w' hcount hs htail hF hfr hR
    by_cases hpre : ∀ i, i < K → listed.getD i true = true
    · -- the head is done
      have he := allF_at (look L') (preOf l K) (fun d hd => by
        obtain ⟨o, ho, hod⟩ := List.mem_filterMap.1 hd
        obtain ⟨i, hi⟩ := List.mem_iff_getElem?.1 ho
        rw [List.getElem?_take] at hi
        split at hi
        · exact hR i o d (by assumption) hi (hpre i (by assumption)) hod
        · cases hi) (hend w' hF)
      have hL : mkA n ((preOf l K).map (fun d => (d, look L' d)) ++ L) = mkA n L' := mkA_congr fun t _ => by
        rw [look_map]
        split
        · rfl
        · rename_i hne
          refine (hfr t fun i o hi ho _ hod => hne ?_).symm
          simp only [List.elem_eq_mem, decide_eq_true_eq]
          exact List.mem_filterMap.2 ⟨o, List.mem_iff_getElem?.2 ⟨i, by rw [List.getElem?_take, if_pos hi]; exact ho⟩, hod⟩
      replace he := he.out
      rw [hL] at he
      have hcnt : m + 1 = l.length - K := by
        have : listed.toList = List.replicate K true ++ List.replicate (l.length - K) false := by
          apply List.ext_getElem?
          intro j
          rw [Array.getElem?_toList]
          rw [List.getElem?_append]
          simp only [List.length_replicate, List.getElem?_replicate]
          by_cases hj : j < l.length
          · have hjs : j < listed.size := by omega
            by_cases hjK : j < K
            · have := hpre j hjK
              simp [Array.getD, hjs] at this
              simp [hjs, hjK, this]
            · have := htail j (by omega) hj
              simp [Array.getD, hjs] at this
              rw [if_neg hjK, if_pos (by omega), Array.getElem?_eq_getElem hjs, this]
          · rw [Array.getElem?_eq_none (by omega), if_neg (by omega), if_neg (by omega)]
        rw [this, List.count_append, List.count_replicate, List.count_replicate] at hcount
        simp at hcount
        exact hcount.symm
      refine tail_seq hc (m + 1) K listed _ w' (by omega) (Nat.le_refl _) hs (fun j hj => ?_) he
      by_cases hjK : j < K
      · rw [hpre j hjK]; simp [hjK]
      · rw [htail j (by omega) hj]; simp [hjK]
    · -- some operation of the head is still to come
      have hex : ∃ i, i < K ∧ listed.getD i true = false := by
        refine Classical.byContradiction fun hno => hpre fun i hi => ?_
        cases hb : listed.getD i true with
        | true => rfl
        | false => exact absurd ⟨i, hi, hb⟩ hno
      obtain ⟨i0, hi0, hmin⟩ := exists_least hex
      have hi0l : i0 < l.length := by omega
      have hready : i0 ∈ Region.ready .any l.toArray listed := by
        refine mem_ready.2 ⟨hi0.2, l[i0], by rw [List.getElem?_toArray, List.getElem?_eq_getElem hi0l], fun e he hb => ?_⟩
        have hx := hck i0 (List.mem_range.2 hi0l)
        rw [List.getElem?_eq_getElem hi0l] at hx
        simp only [Bool.and_eq_true] at hx
        have he2 := List.all_eq_true.1 hx.1.1 e (by simpa using he)
        rw [hb] at he2
        simp at he2
        rw [← getD_true_false (by omega)]
        cases hb2 : listed.getD e.on true with
        | true => rfl
        | false => exact absurd (hmin e.on ⟨by omega, hb2⟩) (by omega)
      refine ⟨fun h0 => (by rw [h0] at hready; cases hready), fun i hi => ?_⟩
      obtain ⟨h0, o, ho, hall⟩ := mem_ready.1 hi
      rw [List.getElem?_toArray] at ho
      have hil : i < l.length := (List.getElem?_eq_some_iff.1 ho).1
      have hx := hck i (List.mem_range.2 hil)
      rw [ho] at hx
      simp only [Bool.and_eq_true] at hx
      have hiK : i < K := by
        rcases Nat.lt_or_ge i K with h | h
        · exact h
        · exfalso
          have h3 := hx.2
          rw [if_neg (by omega)] at h3
          have h4 := List.all_eq_true.1 h3 i0 (List.mem_range.2 (by omega))
          obtain ⟨e, he, he2⟩ := List.any_eq_true.1 h4
          simp only [Bool.and_eq_true, beq_iff_eq] at he2
          have h5 := hall e (by simpa using he) he2.1
          rw [he2.2, ← getD_true_false (by omega), hi0.2] at h5
          cases h5
      have h3 := hx.2
      rw [if_pos hiK] at h3
      simp only [Bool.and_eq_true] at h3
      obtain ⟨h3a, h3b⟩ := h3
      cases hod : o.dst with
      | none => rw [hod] at h3a; cases h3a
      | some d =>
        rw [hod] at h3a
        simp only [Bool.and_eq_true] at h3a
        have hlooks : ∀ t, (o.looksAt l.toArray).elem t = true → look ((slotsOf l.toArray (preOf l K) o).map (fun d => (d, look L' d)) ++ L) t = look L' t := by
          intro t ht
          rw [look_map]
          split
          · rfl
          · rename_i hne
            refine (hfr t fun j oj hj hoj hlj hd => hne ?_).symm
            simp only [List.elem_eq_mem, decide_eq_true_eq]
            refine List.mem_filter.2 ⟨List.mem_filterMap.2 ⟨oj, List.mem_iff_getElem?.2 ⟨j, by rw [List.getElem?_take, if_pos hj]; exact hoj⟩, hd⟩, ht⟩
        have hfact : ∀ t ∈ slotsOf l.toArray (preOf l K) o, R t (look L' t) w' := by
          intro t ht
          obtain ⟨ht1, ht2⟩ := List.mem_filter.1 ht
          obtain ⟨oj, hoj, hd⟩ := List.mem_filterMap.1 ht1
          obtain ⟨j, hj⟩ := List.mem_iff_getElem?.1 hoj
          rw [List.getElem?_take] at hj
          split at hj
          · rename_i hjK
            have h5 := List.all_eq_true.1 h3b j (List.mem_range.2 hjK)
            rw [hj] at h5
            simp only [Option.bind_some, hd, ht2, Bool.not_true, Bool.false_or, Bool.and_eq_true, decide_eq_true_eq] at h5
            obtain ⟨e, he, he2⟩ := List.any_eq_true.1 h5.2
            simp only [Bool.and_eq_true, beq_iff_eq] at he2
            have h6 := hall e (by simpa using he) he2.1
            rw [he2.2] at h6
            exact hR j oj t hjK hj (by rw [getD_true_false (by omega)]; exact h6) hd
          · cases hj
        have hok := allF_at (look L') _ hfact (opsOK_at hop i o (by rw [List.getElem?_take, if_pos hiK]; exact ho) w' hF)
        have hsel : isSelect o.op = false := by simpa using hx.1.2
        obtain ⟨hE, hW⟩ := looksAt_agree (n := n) (ops := l.toArray) (o := o) hsel hlooks
        rw [hod] at hok
        simp only [Option.getD_some] at hok
        have next : ∀ v w'', From w' w'' → R d v w'' → wpAny P .any l.toArray Q m (listed.setIfInBounds i true) ((mkA n L').put (some d) v) w'' := by
          intro v w'' hF' hRv
          rw [put_mkA]
          have hne : ∀ j oj d', j < K → l[j]? = some oj → j ≠ i → oj.dst = some d' → d' ≠ d := by
            intro j oj d' hj hoj hji hd e
            have h5 := List.all_eq_true.1 h3a.1 j (List.mem_range.2 hj)
            rw [hoj] at h5
            simp [hji, hd, e] at h5
          refine ih _ _ w'' ?_ (by simpa using hs) (fun j hj1 hj2 => ?_) (hF.next hF') (fun t ht => ?_) (fun j oj d' hj hoj hlj hd => ?_)
          · have hil' : i < listed.size := by omega
            have hfalse : listed.toList[i]? = some false := by
              rw [Array.getElem?_toList, Array.getElem?_eq_getElem hil']
              simp [Array.getD, hil'] at h0
              rw [h0]
            rw [Array.toList_setIfInBounds]
            have := count_set_true (l := listed.toList) (i := i) hfalse
            omega
          · rw [getD_set_ne true (by omega)]
            exact htail j hj1 hj2
          · have htd : t ≠ d := fun e => ht i o hiK ho (by simp [show i < listed.size by omega]) (by rw [hod, e])
            rw [look_cons, if_neg htd]
            refine hfr t fun j oj hj hoj hlj => ht j oj hj hoj ?_
            by_cases e : i = j
            · subst e; rw [h0] at hlj; cases hlj
            · rw [getD_set_ne true e]; exact hlj
          · rw [look_cons]
            by_cases e : j = i
            · subst e
              rw [ho] at hoj
              cases hoj
              rw [hod] at hd
              cases hd
              rw [if_pos rfl]
              exact hRv
            · rw [if_neg (hne j oj d' hj hoj e hd)]
              rw [getD_set_ne true (Ne.symm e)] at hlj
              exact hmono _ _ _ _ hF' (hR j oj d' hj hoj hlj hd)
        unfold wpOp
        rw [List.getElem?_toArray, ho]
        show if Region.wanted o (yielded l.toArray (mkT n.n L')) = true then _ else _
        unfold OpOK at hok
        rw [hE, hW] at hok
        rcases hok with ⟨hw, ⟨v, w'', hr, hF', hRv⟩ | ⟨f, args, hr, hcall⟩⟩ | ⟨hw, hRv⟩
        · rw [if_pos hw]
          refine .inl ?_
          unfold Oper.wp
          rw [eval_mkA, hr, Oper.upon_value, hod]
          exact next v w'' hF' hRv
        · rw [if_pos hw]
          refine .inl ?_
          unfold Oper.wp
          rw [eval_mkA, hr, Oper.upon_enter, hod]
          refine Calls.mono hcall fun e w'' ⟨v, he, hF', hRv⟩ => ?_
          subst he
          exact next v w'' hF' hRv
        · rw [if_neg (by rw [hw]; simp), hod]
          exact next undef w' From.rfl_ hRv

theorem cd_drawn {id : Nat} (K : Nat) (RL : List (Nat × (Value → World → Prop))) (hm : P.follows .mixedOrders = true) (hc : monoB l K = true) (hmono : MonoR RL)
    (hop : OpsOK P l.toArray n L w (lookR RL) (preOf l K) (l.take K)) (hend : ∀ w', From w w' → AllF (lookR RL) w' (preOf l K) fun M => St P l.toArray Q (l.drop K) n (M ++ L) w') : Cd P (.region id l.toArray true) Q n L w := by
  refine ⟨wp_region_any hm ?_⟩
  have hKl : K ≤ l.length := of_decide_eq_true (Bool.and_eq_true_iff.1 hc).1
  have := mono_seq (Q := Q) (w := w) hc (lookR_mono hmono) hop hend l.length (Array.replicate l.length false) L { w with drawn := w.drawn + 1 } (by simp) (by simp)
    (fun j _ hj => by simp [Array.getD, hj]) (From.rfl_.d1) (fun _ _ => rfl) (fun i o d hi _ hl => by
      have : i < l.length := by omega
      simp [Array.getD, this] at hl)
  simpa using this
end main
end Go.Proofs.YtglndihdhaaccaaDoor

namespace Go.Proofs.YtglndihdhaaccaaDoor
open Go.RowKit

/-- nothing but block g has changed -/
structure Only (g : Nat) (w w' : World) : Prop where
  os : w'.os = w.os
  tape : w'.tape = w.tape
  output : w'.output = w.output
  size : w'.heap.size = w.heap.size
  block : ∀ k, k ≠ g → w'.heap[k]? = w.heap[k]?
theorem Only.setCell (w : World) (g i : Nat) (v : Value) : Only g w (w.setCell ⟨g, i, none⟩ v) := ⟨rfl, rfl, rfl, by simp, fun k hk => Below.heap_setCell w ⟨g, i, none⟩ v k hk⟩
theorem Only.trans {g : Nat} {w w1 w2 : World} (h : Only g w w1) (k : Only g w1 w2) : Only g w w2 := ⟨k.os.trans h.os, k.tape.trans h.tape, k.output.trans h.output, k.size.trans h.size, fun i hi => (k.block i hi).trans (h.block i hi)⟩
theorem Only.rfl_ {g : Nat} {w : World} : Only g w w := ⟨rfl, rfl, rfl, rfl, fun _ _ => rfl⟩
theorem From.only {a w w' : World} {g : Nat} (h : From a w) (o : Only g w w') (hg : a.heap.size ≤ g) : From a w' :=
  ⟨o.os.trans h.os, o.tape.trans h.tape, o.output.trans h.output, by rw [o.size]; exact h.size, fun k hk => (o.block k (by omega)).trans (h.block k hk)⟩
theorem Blk.only {w w' : World} {k g : Nat} {t : TypeId} {cs : Array Value} (h : Blk w k t cs) (o : Only g w w') (hk : k ≠ g) : Blk w' k t cs := (o.block k hk).trans h
theorem Only.cell {w w' : World} {g b i : Nat} (o : Only g w w') (hb : b ≠ g) : w'.cell? ⟨b, i, none⟩ = w.cell? ⟨b, i, none⟩ := World.cell?_of_block (w := w) (o.block b hb)
/-- a cell that is there stays as the world grows -/
theorem cellF {w w' : World} {a : Addr} {v : Value} (h : From w w') (hc : w.cell? a = some v) : w'.cell? a = some v :=
  (Below.cell h (World.block_lt_of_cell? w a hc)).trans hc
theorem Blk.rd {w : World} {g : Nat} {t : TypeId} {cs : Array Value} (h : Blk w g t cs) (i : Nat) {v : Value} (hv : cs[i]? = some v) : w.cell? ⟨g, i, none⟩ = some v := by rw [h.cell i]; exact hv
def over (cs : List Value) (o : Nat) (vs : List Value) : List Value := cs.take o ++ vs ++ cs.drop (o + vs.length)
theorem set_over (cs : List Value) (o : Nat) (v : Value) (vs : List Value) (h : o < cs.length) : over (cs.set o v) (o + 1) vs = over cs o (v :: vs) := by
  unfold over
  have h1 : (cs.set o v).take (o + 1) = cs.take o ++ [v] := by
    rw [List.take_set]
    have : cs.take (o + 1) = cs.take o ++ [cs[o]] := (List.take_append_getElem h).symm
    rw [this, List.set_append_right _ _ (by simp; omega)]
    have hm : min o cs.length = o := by omega
    simp [hm]
  have h2 : (cs.set o v).drop (o + 1 + vs.length) = cs.drop (o + (v :: vs).length) := by
    rw [List.drop_set_of_lt (by omega)]
    simp only [List.length_cons]
    congr 1
    omega
  rw [h1, h2]
  simp
theorem Blk.sets {t : TypeId} {g : Nat} : ∀ (vs : List Value) (o : Nat) {w : World} {cs : List Value}, Blk w g t cs.toArray → o + vs.length ≤ cs.length → Blk (w.setCells g o vs) g t (over cs o vs).toArray
  | [], o, w, cs, h, _ => by
    have : over cs o [] = cs := by simp [over]
    rw [this]
    exact h
  | v :: vs, o, w, cs, h, hl => by
    simp only [List.length_cons] at hl
    have h1 := h.set_ o v
    rw [List.setIfInBounds_toArray] at h1
    have := Blk.sets vs (o + 1) h1 (by simp; omega)
    rw [set_over cs o v vs (by omega)] at this
    exact this
theorem Only.sets {g : Nat} : ∀ (vs : List Value) (o : Nat) (w : World), Only g w (w.setCells g o vs)
  | [], _, _ => Only.rfl_
  | v :: vs, o, w => (Only.setCell w g o v).trans (Only.sets vs (o + 1) _)
theorem Blk.there {w : World} {g : Nat} {t : TypeId} {cs : Array Value} (h : Blk w g t cs) (o n : Nat) (hl : o + n ≤ cs.size) : w.there g o n := fun j hj =>
  ⟨by rw [h.cell]; simp [show o + j < cs.size by omega], h.frozen _⟩
theorem Blk.range {w : World} {g : Nat} {t : TypeId} {cs : List Value} (h : Blk w g t cs.toArray) (o : Nat) (vs : List Value) (hl : ∀ j v, vs[j]? = some v → cs[o + j]? = some v) : w.rangeAt g o vs := fun j v hv => by
  rw [h.cell]
  simpa using hl j v hv
theorem Blk.whole {w : World} {g : Nat} {t : TypeId} {cs : List Value} (h : Blk w g t cs.toArray) : w.rangeAt g 0 cs := h.range 0 cs fun j v hv => by rw [Nat.zero_add]; exact hv
theorem rangeF {w w' : World} {b o : Nat} {cs : List Value} (h : From w w') (hc : w.rangeAt b o cs) : w'.rangeAt b o cs := fun j v hv => cellF h (hc j v hv)

section
variable {P : Program} {ops : Array Oper} {Q : Exit → Act → World → Prop} {rest : List Oper} {n : Fr} {L : List (Nat × Value)} {w : World} {ty : TypeId} {pos : String} {after : Array Edge} {d : Nat} {t : TypeId} {x y : Operand}
theorem st_box {v : Value} (hx : ev n L x = v) (k : ∀ b w', From w w' → b = w.heap.size → Blk w' b t v.cells → St P ops Q rest n ((d, .pointer (some ⟨b, 0, none⟩)) :: L) w') :
    St P ops Q (⟨some d, .box t x, ty, pos, after, none⟩ :: rest) n L w :=
  st_val (ro_box hx) (k _ _ (From.rfl_.new _) rfl (Blk.new w t _))
theorem st_alloc {z : Value} (hz : zeroQ P t = some z) (k : ∀ b w', From w w' → b = w.heap.size → Blk w' b t z.cells → St P ops Q rest n ((d, .pointer (some ⟨b, 0, none⟩)) :: L) w') :
    St P ops Q (⟨some d, .alloc t, ty, pos, after, none⟩ :: rest) n L w :=
  st_val (ro_alloc hz) (k _ _ (From.rfl_.new _) rfl (Blk.new w t _))
/-- a store of one cell into a block that is known whole -/
theorem st_put {g i : Nat} {u : TypeId} {cs : Array Value} {v : Value} (ht : sizeQ P t = some 1) (hx : ev n L x = .pointer (some ⟨g, i, none⟩)) (hy : ev n L y = v) (h1 : v.oneCell' = true) (hb : Blk w g u cs) (hi : i < cs.size)
    (k : ∀ w', Only g w w' → Blk w' g u (cs.setIfInBounds i v) → St P ops Q rest n L w') : St P ops Q (⟨none, .store t x y, ty, pos, after, none⟩ :: rest) n L w := by
  have hc : w.cell? ⟨g, i, none⟩ = some (cs[i]'hi) := by rw [hb.cell]; simp [hi]
  exact st_store (rs_store ht hx hy h1 hc (hb.frozen i)) (k _ (Only.setCell w g i v) (hb.set_ i v))
/-- a store of many cells -/
theorem st_putA {g i : Nat} {u : TypeId} {cs vs : List Value} (ht : sizeQ P t = some vs.length) (hx : ev n L x = .pointer (some ⟨g, i, none⟩)) (hy : ev n L y = .agg vs.toArray) (h1 : ∀ v ∈ vs, v.oneCell' = true) (hb : Blk w g u cs.toArray) (hi : i + vs.length ≤ cs.length)
    (k : ∀ w', Only g w w' → Blk w' g u (over cs i vs).toArray → St P ops Q rest n L w') : St P ops Q (⟨none, .store t x y, ty, pos, after, none⟩ :: rest) n L w :=
  st_store (rs_storeA ht hx hy h1 (hb.there i vs.length (by simpa using hi))) (k _ (Only.sets vs i w) (Blk.sets vs i hb hi))
theorem over_all (cs vs : List Value) (h : vs.length = cs.length) : over cs 0 vs = vs := by
  unfold over
  simp [h]
/-- a store into a whole block -/
theorem st_putW {g : Nat} {u : TypeId} {cs : Array Value} {vs : List Value} (ht : sizeQ P t = some vs.length) (hx : ev n L x = .pointer (some ⟨g, 0, none⟩)) (hy : ev n L y = .agg vs.toArray) (h1 : ∀ v ∈ vs, v.oneCell' = true) (hb : Blk w g u cs) (hi : vs.length = cs.size)
    (k : ∀ w', Only g w w' → Blk w' g u vs.toArray → St P ops Q rest n L w') : St P ops Q (⟨none, .store t x y, ty, pos, after, none⟩ :: rest) n L w := by
  refine st_putA (cs := cs.toList) (u := u) ht hx hy h1 (by simpa using hb) (by simp; omega) fun w' o b => ?_
  rw [over_all cs.toList vs (by simp; omega)] at b
  exact k w' o b
/-- make -/
def makeQ (P : Program) (t : TypeId) : Option (TypeId × Nat × Value) := match P.underlying t with | some (.slice e) => (P.info? e).bind fun i => if i.size = 1 then i.zero.map fun z => (e, i.bytes, z) else none | _ => none
theorem st_make {e by_ m : Nat} {z : Value} {kl kc : IntKind} (ht : makeQ P t = some (e, by_, z)) (hz : z.cells = #[z]) (hx : ev n L x = .int kl (m : Nat)) (hy : ev n L y = .int kc (m : Nat)) (hm : m ≤ 9223372036854775807) (hb : by_ * m ≤ 281474976710656)
    (k : ∀ g w', From w w' → g = w.heap.size → Blk w' g e (List.replicate m z).toArray → St P ops Q rest n ((d, .slice (some ⟨g, 0, none⟩) m m) :: L) w') : St P ops Q (⟨some d, .makeSlice t x y, ty, pos, after, none⟩ :: rest) n L w := by
  unfold makeQ at ht
  split at ht
  · rename_i e' hu
    cases hi : P.info? e' with
    | none => simp [hi] at ht
    | some i =>
      rw [hi] at ht
      simp only [Option.bind_some] at ht
      split at ht
      · rename_i hs
        cases hzz : i.zero with
        | none => simp [hzz] at ht
        | some z' =>
          simp only [hzz, Option.map_some, Option.some.injEq, Prod.mk.injEq] at ht
          obtain ⟨rfl, rfl, rfl⟩ := ht
          have hr := run_make (P := P) w t e' i z' hu hi hzz kl kc (m : Int) (m : Int) (by omega) (Int.le_refl _) (by
            have : ((i.bytes * m : Nat) : Int) ≤ 281474976710656 := by omega
            rwa [Int.natCast_mul] at this) (by omega)
          have hcells : madeCells z'.cells ((m : Int).toNat * i.size) = (List.replicate m z').toArray := by
            rw [hs, Int.toNat_natCast, Nat.mul_one, hz]
            apply Array.ext_getElem?
            intro j
            simp only [madeCells, Array.getElem?_map]
            by_cases hj : j < m
            · simp [hj, Nat.mod_one]
            · simp [hj]
          rw [hcells, Int.toNat_natCast] at hr
          refine st_val (v := .slice (some ⟨w.heap.size, 0, none⟩) m m) (w' := w.alloc (.cells (List.replicate m z').toArray e')) (fun _ _ _ _ _ => ?_) (k _ _ (From.rfl_.new _) rfl (Blk.new w e' _))
          simp [execOp, hx, hy, hr]
      · cases ht
  · cases ht
end
end Go.Proofs.YtglndihdhaaccaaDoor

namespace Go.Proofs.YtglndihdhaaccaaDoor
open Go.RowKit

/-- from this address on lie these, a cell each -/
def RowOf {α : Type} (f : α → Value) (w : World) (A : Option Addr) (l : List α) : Prop :=
  0 < l.length → ∃ b o, A = some ⟨b, o, none⟩ ∧ ∀ i (h : i < l.length), w.cell? ⟨b, o + i, none⟩ = some (f l[i])
theorem RowOf.from_ {α : Type} {f : α → Value} {w w' : World} {A : Option Addr} {l : List α} (h : RowOf f w A l) (hw : From w w') : RowOf f w' A l := fun h0 =>
  let ⟨b, o, hA, hc⟩ := h h0
  ⟨b, o, hA, fun i hi => cellF hw (hc i hi)⟩
theorem RowOf.of_row {α : Type} {f : α → Value} {w : World} {A : Option Addr} {n cap : Nat} {l : List α} (h : Row w (.slice A n cap) (l.map f)) : n = l.length ∧ RowOf f w A l := by
  obtain ⟨A', c', he, hp⟩ := row_vals h
  simp only [Value.slice.injEq] at he
  obtain ⟨rfl, rfl, rfl⟩ := he
  exact ⟨rfl, fun h0 => let ⟨b, o, hA, _, hc⟩ := hp h0; ⟨b, o, hA, hc⟩⟩
theorem RowOf.blk {α : Type} {f : α → Value} {w : World} {g : Nat} {t : TypeId} {cs : Array Value} {l : List α} (h : Blk w g t cs) (hl : ∀ i (hi : i < l.length), cs[i]? = some (f l[i])) : RowOf f w (some ⟨g, 0, none⟩) l := fun _ =>
  ⟨g, 0, rfl, fun i hi => by rw [Nat.zero_add, h.cell]; exact hl i hi⟩
theorem RowOf.own {α : Type} {f : α → Value} {w : World} {base : Nat} {e : TypeId} {A : Option Addr} {n cap : Nat} {l : List α} (h : w.ownsRow base e 1 (.slice A n cap) n (l.map f)) : n = l.length ∧ RowOf f w A l := RowOf.of_row (Row.of_own h)

/-- nothing but block g may have changed; more may be there -/
structure But (g : Nat) (w w' : World) : Prop where
  os : w'.os = w.os
  tape : w'.tape = w.tape
  output : w'.output = w.output
  size : w.heap.size ≤ w'.heap.size
  block : ∀ k, k < w.heap.size → k ≠ g → w'.heap[k]? = w.heap[k]?
theorem map_take_succ {α β : Type} (f : α → β) {l : List α} {k : Nat} (h : k < l.length) : (l.take (k + 1)).map f = (l.take k).map f ++ [f l[k]] := by
  rw [List.take_succ_eq_append_getElem h, List.map_append]
  rfl
/-! ### bytes, words -/
abbrev bV (x : Nat) : Value := .int .u8 x
abbrev uV (x : Nat) : Value := .int .u64 x
abbrev iV (x : Int) : Value := .int .i64 x
end Go.Proofs.YtglndihdhaaccaaDoor

namespace Go.Proofs.YtglndihdhaaccaaDoor
open Go.RowKit

def litQ (P : Program) (t : TypeId) : Option (TypeId × Nat × Nat × Value) := match P.underlying t with | some (.slice e) => (P.info? e).bind fun i => i.zero.map fun z => (e, i.size, i.bytes, z) | _ => none
theorem lit_of {P : Program} {t e size by_ : Nat} {z : Value} (h : litQ P t = some (e, size, by_, z)) : ∃ i, P.underlying t = some (.slice e) ∧ P.info? e = some i ∧ i.size = size ∧ i.bytes = by_ ∧ i.zero = some z := by
  unfold litQ at h
  split at h
  · rename_i e' hu
    cases hi : P.info? e' with
    | none => simp [hi] at h
    | some i =>
      rw [hi] at h
      cases hz : i.zero with
      | none => simp [hz] at h
      | some z' =>
        simp only [Option.bind_some, hz, Option.map_some, Option.some.injEq, Prod.mk.injEq] at h
        obtain ⟨rfl, rfl, rfl, rfl⟩ := h
        exact ⟨i, hu, hi, rfl, rfl, hz⟩
  · cases h
section
variable {P : Program} {ops : Array Oper} {Q : Exit → Act → World → Prop} {rest : List Oper} {n : Fr} {L : List (Nat × Value)} {w : World} {ty : TypeId} {pos : String} {after : Array Edge} {d : Nat} {t : TypeId} {x s : Operand}
theorem ro_lit {ρ : Operand → Value} {e m size by_ : Nat} {l : List (Nat × Operand)} {cells : Array Value} {z : Value} (hq : litQ P t = some (e, size, by_, z)) (hsmall : Nat.ble (m * size) 16777216 = true) (hpos : Nat.beq (m * size) 0 = false)
    (hf : Instr.fill (fun i => some (i * size, size)) ((Array.range (m * size)).map (z.cells[· % z.cells.size]!)) (l.map fun p => (p.1, ρ p.2)) = some cells) :
    RO P ρ (.buildSlice t m l.toArray) w (.slice (some ⟨w.heap.size, 0, none⟩) m m) (w.alloc (.cells cells e)) := by
  obtain ⟨i, hu, hi, hs, _, hz⟩ := lit_of hq
  subst hs
  refine ro_buildSlice hu hi hz ?_ ?_ hf
  · have := Nat.le_of_ble_eq_true hsmall; omega
  · intro h0; rw [h0] at hpos; cases hpos
theorem st_lit {e m size by_ : Nat} {l : List (Nat × Operand)} {cells : Array Value} {z : Value} (hq : litQ P t = some (e, size, by_, z)) (hsmall : Nat.ble (m * size) 16777216 = true) (hpos : Nat.beq (m * size) 0 = false)
    (hf : Instr.fill (fun i => some (i * size, size)) ((Array.range (m * size)).map (z.cells[· % z.cells.size]!)) (l.map fun p => (p.1, ev n L p.2)) = some cells)
    (k : ∀ g w', From w w' → g = w.heap.size → Blk w' g e cells → St P ops Q rest n ((d, .slice (some ⟨g, 0, none⟩) m m) :: L) w') : St P ops Q (⟨some d, .buildSlice t m l.toArray, ty, pos, after, none⟩ :: rest) n L w :=
  st_val (ro_lit hq hsmall hpos hf) (k _ _ (From.rfl_.new _) rfl (Blk.new w e _))
/-- one element of one cell -/
theorem st_lit1 {e by_ : Nat} {z v : Value} (hq : litQ P t = some (e, 1, by_, z)) (hz : z.cells.size = 1) (hx : ev n L x = v) (hv : v.cells = #[v])
    (k : ∀ g w', From w w' → g = w.heap.size → Blk w' g e #[v] → St P ops Q rest n ((d, .slice (some ⟨g, 0, none⟩) 1 1) :: L) w') : St P ops Q (⟨some d, .buildSlice t 1 #[(0, x)], ty, pos, after, none⟩ :: rest) n L w := by
  refine st_lit (l := [(0, x)]) (cells := #[v]) hq rfl rfl ?_ k
  have e1 : (Array.range (1 * 1)).map (z.cells[· % z.cells.size]!) = #[z.cells[0]!] := by
    rw [show Array.range (1 * 1) = #[0] from rfl]
    simp
  rw [e1]
  simp [Instr.fill, hx, hv]

def litParts {α : Type} : Nat → List α → List (Nat × α)
  | _, [] => []
  | i, x :: r => (i, x) :: litParts (i + 1) r
theorem litParts_map {α β : Type} (f : α → β) : ∀ (i : Nat) (l : List α), (litParts i l).map (fun p => (p.1, f p.2)) = litParts i (l.map f)
  | _, [] => rfl
  | i, x :: r => by simp [litParts, litParts_map f (i + 1) r]
theorem fill_parts : ∀ (vs : List Value) (k : Nat) (cells : Array Value), (∀ v ∈ vs, v.cells = #[v]) → k + vs.length ≤ cells.size →
    ∃ R : Array Value, Instr.fill (fun i => some (i * 1, 1)) cells (litParts k vs) = some R ∧ R.size = cells.size ∧ ∀ j, R[j]? = if k ≤ j ∧ j < k + vs.length then vs[j - k]? else cells[j]?
  | [], k, cells, _, _ => ⟨cells, rfl, rfl, fun j => by rw [if_neg (by simp only [List.length_nil]; omega)]⟩
  | v :: r, k, cells, h, hl => by
    simp only [List.length_cons] at hl
    have hv : v.cells = #[v] := h v (List.mem_cons_self ..)
    obtain ⟨R, hR, hs, hc⟩ := fill_parts r (k + 1) (cells.setIfInBounds k v) (fun u hu => h u (List.mem_cons_of_mem _ hu)) (by rw [Array.size_setIfInBounds]; omega)
    have hcond : ¬ (cells.size < k + 1) := by omega
    refine ⟨R, ?_, by simpa using hs, fun j => ?_⟩
    · simp only [litParts, Instr.fill, Nat.mul_one, hv]
      simpa [hcond] using hR
    · rw [hc]
      by_cases hj : j = k
      · subst hj
        rw [if_neg (by omega), if_pos (by simp)]
        simp [show j < cells.size by omega]
      · by_cases h2 : k + 1 ≤ j ∧ j < k + 1 + r.length
        · rw [if_pos h2, if_pos (by simp; omega)]
          obtain ⟨d, hd⟩ : ∃ d, j - k = d + 1 := ⟨j - k - 1, by omega⟩
          rw [hd, show j - (k + 1) = d by omega, List.getElem?_cons_succ]
        · rw [if_neg h2, if_neg (by simp; omega), Array.getElem?_setIfInBounds_ne (fun e => hj e.symm)]
/-- a literal of one-cell elements -/
theorem st_lits {e by_ m : Nat} {z : Value} (xs : List Operand) (vs : List Value) (hq : litQ P t = some (e, 1, by_, z)) (hm : xs.length = m) (hsmall : Nat.ble m 16777216 = true) (hpos : Nat.beq m 0 = false) (hx : xs.map (ev n L) = vs) (hv : ∀ v ∈ vs, v.cells = #[v])
    (k : ∀ g w', From w w' → g = w.heap.size → Blk w' g e vs.toArray → St P ops Q rest n ((d, .slice (some ⟨g, 0, none⟩) m m) :: L) w') : St P ops Q (⟨some d, .buildSlice t m (litParts 0 xs).toArray, ty, pos, after, none⟩ :: rest) n L w := by
  have hlen : vs.length = m := by rw [← hx, List.length_map, hm]
  obtain ⟨R, hR, hs, hc⟩ := fill_parts vs 0 ((Array.range (m * 1)).map (z.cells[· % z.cells.size]!)) hv (by simp; omega)
  have hRe : R = vs.toArray := by
    apply Array.ext_getElem?
    intro j
    rw [hc]
    by_cases hj : j < m
    · rw [if_pos ⟨by omega, by omega⟩, Nat.sub_zero, List.getElem?_toArray]
    · rw [if_neg (by omega), Array.getElem?_eq_none (by rw [Array.size_map, Array.size_range]; omega), Array.getElem?_eq_none (by rw [List.size_toArray]; omega)]
  subst hRe
  refine st_lit hq (by rw [Nat.mul_one]; exact hsmall) (by rw [Nat.mul_one]; exact hpos) ?_ k
  rw [litParts_map, hx]
  exact hR
theorem st_appendB {base : Nat} {A A2 : Option Addr} {m j cap c2 e size by_ : Nat} {z : Value} {xs news : List Value} (hq : litQ P t = some (e, size, by_, z)) (hzs : z.cells.size = size) (hs0 : 0 < size)
    (hs : ev n L s = .slice A m cap) (hown : w.ownsRow base e size (.slice A m cap) m xs) (hB : base ≤ w.heap.size)
    (hx : ev n L x = .slice A2 j c2) (hl : news.length = j * size) (hsrc : 0 < j → ∃ b o, A2 = some ⟨b, o, none⟩ ∧ w.rangeAt b o news) (hnil : A2 = none → c2 = 0) (h1 : ∀ u ∈ news, u.oneCell' = true) (h63 : m + j ≤ 9223372036854775807) (hby : (m + j) * by_ ≤ 140737488355328)
    (k : ∀ A' cap' w', w'.ownsRow base e size (.slice A' (m + j) cap') (m + j) (xs ++ news) → w.grownBy w' (A.map (·.block)) → St P ops Q rest n ((d, .slice A' (m + j) cap') :: L) w') :
    St P ops Q (⟨some d, .call { callee := .builtin .append, args := #[s, x], argTypes := #[t, t] }, ty, pos, after, none⟩ :: rest) n L w := by
  obtain ⟨i, hu, hi, hsz, hb, hz⟩ := lit_of hq
  have hobl : (Value.slice A m cap).ownBlock = A.map (·.block) := by cases A <;> rfl
  cases A2 with
  | none =>
    have hj : j = 0 := by
      rcases Nat.eq_zero_or_pos j with h | h
      · exact h
      · obtain ⟨b, o, hA, _⟩ := hsrc h; cases hA
    subst hj
    have hnn : news = [] := List.eq_nil_of_length_eq_zero (by simpa using hl)
    subst hnn
    have hc := hnil rfl
    subst hc
    refine ⟨wpList_append_own_none (P := P) (a := mkA n L) rfl s x t rfl base e i size hu hi _ m xs (by rw [eval_mkA]; exact hs) hown (by rw [eval_mkA]; exact hx) ?_⟩
    rw [put_mkA]
    have := k A cap w (by simpa using hown) (World.grownBy.refl _ _)
    simpa using this.out
  | some ad =>
    by_cases hj : j = 0
    · subst hj
      have hnn : news = [] := List.eq_nil_of_length_eq_zero (by simpa using hl)
      subst hnn
      refine ⟨wpList_append_own (P := P) w (a := mkA n L) rfl s x t rfl base e i z size by_ hu hi hz hsz hb hzs hs0 _ m xs (by rw [eval_mkA]; exact hs) hown ad 0 c2 [] (by rw [eval_mkA]; exact hx) (by simp) (by simp) (by simp) (by unfold maxLen; omega) hby hB ?_⟩
      intro v' w' hown' hg _
      obtain ⟨A', cap', rfl⟩ := own_form hown'
      rw [put_mkA]
      exact (k A' cap' w' hown' (by rw [← hobl]; exact hg)).out
    · obtain ⟨b, o, hA, hr⟩ := hsrc (by omega)
      cases hA
      refine ⟨wpList_append_own (P := P) w (a := mkA n L) rfl s x t rfl base e i z size by_ hu hi hz hsz hb hzs hs0 _ m xs (by rw [eval_mkA]; exact hs) hown ⟨b, o, none⟩ j c2 news (by rw [eval_mkA]; exact hx) hl (fun i u hu => by rw [Addr.add_mid]; exact hr i u hu) h1 (by unfold maxLen; omega) hby hB ?_⟩
      intro v' w' hown' hg _
      obtain ⟨A', cap', rfl⟩ := own_form hown'
      rw [put_mkA]
      exact (k A' cap' w' hown' (by rw [← hobl]; exact hg)).out
theorem st_append {a0 : World} {A A2 : Option Addr} {m j cap c2 e size by_ : Nat} {z : Value} {xs news : List Value} (hq : litQ P t = some (e, size, by_, z)) (hzs : z.cells.size = size) (hs0 : 0 < size)
    (hs : ev n L s = .slice A m cap) (hown : w.ownsRow a0.heap.size e size (.slice A m cap) m xs) (hB : From a0 w)
    (hx : ev n L x = .slice A2 j c2) (hl : news.length = j * size) (hsrc : 0 < j → ∃ b o, A2 = some ⟨b, o, none⟩ ∧ w.rangeAt b o news) (hnil : A2 = none → c2 = 0) (h1 : ∀ u ∈ news, u.oneCell' = true) (h63 : m + j ≤ 9223372036854775807) (hby : (m + j) * by_ ≤ 140737488355328)
    (k : ∀ A' cap' w', w'.ownsRow a0.heap.size e size (.slice A' (m + j) cap') (m + j) (xs ++ news) → From a0 w' → w.grownBy w' (A.map (·.block)) → St P ops Q rest n ((d, .slice A' (m + j) cap') :: L) w') :
    St P ops Q (⟨some d, .call { callee := .builtin .append, args := #[s, x], argTypes := #[t, t] }, ty, pos, after, none⟩ :: rest) n L w :=
  st_appendB hq hzs hs0 hs hown hB.size hx hl hsrc hnil h1 h63 hby fun A' cap' w' ho hg => k A' cap' w' ho (hB.grew hg (fun k' hk => (hown.lt k' (by rw [← hk]; cases A <;> rfl)).1)) hg
/-- one more element of one cell, that lies in a block of its own -/
theorem st_push1 {a0 : World} {A : Option Addr} {m cap e by_ b : Nat} {z v : Value} {xs : List Value} (hq : litQ P t = some (e, 1, by_, z)) (hzs : z.cells.size = 1)
    (hs : ev n L s = .slice A m cap) (hown : w.ownsRow a0.heap.size e 1 (.slice A m cap) m xs) (hB : From a0 w)
    (hx : ev n L x = .slice (some ⟨b, 0, none⟩) 1 1) (hb : Blk w b e #[v]) (h1 : v.oneCell' = true) (h63 : m + 1 ≤ 9223372036854775807) (hby : (m + 1) * by_ ≤ 140737488355328)
    (k : ∀ A' cap' w', w'.ownsRow a0.heap.size e 1 (.slice A' (m + 1) cap') (m + 1) (xs ++ [v]) → From a0 w' → w.grownBy w' (A.map (·.block)) → St P ops Q rest n ((d, .slice A' (m + 1) cap') :: L) w') :
    St P ops Q (⟨some d, .call { callee := .builtin .append, args := #[s, x], argTypes := #[t, t] }, ty, pos, after, none⟩ :: rest) n L w :=
  st_append hq hzs (by decide) hs hown hB hx rfl (fun _ => ⟨b, 0, rfl, fun i u hu => by
    cases i with
    | zero => simp at hu; subst hu; rw [hb.cell]; rfl
    | succ i => simp at hu⟩) (fun h => by cases h) (by simpa using h1) h63 hby k
end
theorem own_some {w : World} {base e s n c : Nat} {A : Option Addr} {xs : List Value} (h : w.ownsRow base e s (.slice A n c) n xs) (hn : 0 < n) : ∃ g, A = some ⟨g, 0, none⟩ := by
  rcases h.2 with ⟨_, h0⟩ | ⟨g, cap, cur, hv, _⟩
  · omega
  · simp only [Value.slice.injEq] at hv
    exact ⟨g, hv.1⟩
theorem grown_trans {w w1 w2 : World} {r : Option Nat} (h : w.grownBy w1 r) (k : w1.grownBy w2 r) : w.grownBy w2 r :=
  ⟨k.os.trans h.os, k.tape.trans h.tape, k.output.trans h.output, Nat.le_trans h.size k.size, fun i hi hg => (k.block i (Nat.lt_of_lt_of_le hi h.size) hg).trans (h.block i hi hg)⟩
theorem Only.grown {g : Nat} {w w' : World} (h : Only g w w') : w.grownBy w' (some g) := ⟨h.os, h.tape, h.output, by rw [h.size]; exact Nat.le_refl _, fun k _ hk => h.block k (fun e => hk (by rw [e]))⟩
theorem From.grown {w w' : World} (h : From w w') (r : Option Nat) : w.grownBy w' r := ⟨h.os, h.tape, h.output, h.size, fun k hk _ => h.block k hk⟩
/-- a row that is not the one that may have changed -/
theorem own_kept {w w' : World} {r : Option Nat} {base e s n : Nat} {v : Value} {xs : List Value} (h : w.ownsRow base e s v n xs) (hg : w.grownBy w' r) (hne : ∀ k, r = some k → k < base) : w'.ownsRow base e s v n xs := by
  refine h.kept hg ?_
  cases hv : v.ownBlock with
  | none => exact .inl rfl
  | some k =>
    refine .inr fun e => ?_
    have := (h.lt k hv).1
    have := hne k e.symm
    omega
end Go.Proofs.YtglndihdhaaccaaDoor

namespace Go.Proofs.YtglndihdhaaccaaDoor
open Go.ChangeShapes Go.WideShapes Go.ChangeAt Go.RowKit

theorem Tryd.own : ownKnob Tryd.prog.godebug = none := by kernel_rfl
theorem Tryd.laidOut : laidOutB Tryd.prog = true := by kernel_rfl

section
variable {H : Type} {enc : TypeId × Value → H} {P : Program}
theorem post_of_below {f : Func} {s : ChangeSpec} {apart fresh handsOn again : Bool} {W W' : World} {args : Array Value} {v : Value} {ds gs : List (DataW H)} {before pa pv : List MemPlace}
    (hW : DataW.Whole enc P f.params.toList s.vars apart W args.toList ds gs before)
    (hres : ∀ (b : Nat) (sp : Nat → Bool) (hd : Bool), DataW.TrodAll enc P W' b sp hd f.resultTypes.toList (v.resultList f.resultTypes.size) (s.fn H (ds ++ gs)).results [])
    (hargs : ∀ sp : Nat → Bool, (∀ p ∈ before, sp p.block = true) → DataW.TrodAll enc P W' 0 sp true f.params.toList args.toList (s.fn H (ds ++ gs)).args pa)
    (hvars : ∀ sp : Nat → Bool, (∀ p ∈ before, sp p.block = true) → DataW.TrodVars enc P W' sp s.vars (s.fn H (ds ++ gs)).vars pv)
    (hps : before = pa ++ pv) (hb : Below W.heap.size W W')
    (hok : ∀ (j : Nat) (t : TypeId) (r : Value), f.resultTypes[j]? = some t → (v.resultList f.resultTypes.size)[j]? = some r → Value.okWide P W' .any 0 t r) :
    s.post enc P f apart fresh handsOn again W args v W' := by
  have hlt : ∀ p ∈ before, p.block < W.heap.size := fun p hp => hW.lt p hp
  have hold : ∀ p ∈ before, (fun b => decide (b < W.heap.size)) p.block = true := fun p hp => by simpa using hlt p hp
  refine ⟨ds, gs, before, [], pa, pv, hW, hres _ _ _, hargs _ hold, hvars _ hold, World.keptBut_mono (fun p hp => ⟨hp, ?_⟩) (hb.frame (· ∈ before)), fun _ => ?_⟩
  · rw [hps, List.mem_append] at hp
    exact Or.inr hp
  · obtain ⟨_, _, _, _, _, hz, hn⟩ := hW
    refine ⟨hok, _, _, ([] ++ pa) ++ pv, ⟨[] ++ pa, pv, trodAll_append (hargs _ (fun _ _ => rfl)) (hres _ _ _), hvars _ (fun _ _ => rfl), rfl, ?_, ?_⟩, ?_⟩
    · intro b off hp
      have hin : MemPlace.cell b off ∈ before := by rw [hps]; simpa using hp
      rw [hb.frozen (hlt _ hin)]
      exact hz b off hin
    · intro ha
      have := hn ha
      rw [hps] at this
      simpa using this
    · intro p hp _
      rw [hps]
      simpa using hp
end

/-- THE STEP of a law with one argument. -/
theorem law_step {H : Type} {enc : TypeId × Value → H} (F : FuncId) (f : Func) (T Tb : TypeId) (s : ChangeSpec) (hp : f.params = #[T]) (hr : f.resultTypes = #[Tb]) (hTb : Tryd.prog.underlying Tb = some .bool)
    (hvars : s.vars = []) (hfn : ∀ d : DataW H, s.fn H [d] = { results := [.lit (.bool true)], args := [d] }) (hrec : Tryd.prog.readableRec T = true) (hrow : T < Tryd.prog.types.size)
    (walk : ∀ (W : World) (base : Nat) (v : Value) (d : DataW H) (p : List MemPlace), Value.okWide Tryd.prog W .any base T v → DataW.Trod enc Tryd.prog W 0 (fun _ => true) true T v d p → (∀ n ∈ d.weights Tryd.prog T, n ≤ 140737488351232) →
      Calls Tryd.prog F #[v] W fun e W' => e = .returned (.bool true) ∧ From W W')
    (W : World) (base : Nat) (args : Array Value) (ds gs : List (DataW H)) (before : List MemPlace)
    (hval0 : ∀ (j : Nat) t v, f.params[j]? = some t → args[j]? = some v → Value.okWide Tryd.prog W .any base t v)
    (hW : DataW.Whole enc Tryd.prog f.params.toList s.vars false W args.toList ds gs before)
    (hsz : (DataW.weightsEach Tryd.prog (f.params.toList ++ s.plain.varTypes Tryd.prog) (ds ++ gs)).all (· ≤ reachBytes) = true) :
    Calls Tryd.prog F args W fun e W' => ∃ v, e = .returned v ∧ s.post enc Tryd.prog f false true false false W args v W' := by
  have hlt : ∀ x ∈ before, x.block < W.heap.size := fun x hx => hW.lt x hx
  have hW' := hW
  obtain ⟨p, q, hA, hV, rfl, hfz, hnd⟩ := hW
  rw [hp] at hA hval0 hsz
  rw [hvars] at hV
  obtain ⟨v0, d0, rfl, rfl, h0⟩ := trodAll_one hA
  obtain ⟨rfl, rfl⟩ := trodVars_none hV
  simp only [List.append_nil] at hW' hlt
  refine (walk W base v0 d0 p (hval0 0 T v0 rfl rfl) h0 (fun n hn => Nat.le_trans (by simpa using List.all_eq_true.1 hsz n (DataW.weights_mem_each (j := 0) (t := T) (d := d0) rfl rfl n hn)) (show reachBytes ≤ 140737488351232 by decide))).mono fun e W' ⟨he, hb⟩ => ?_
  subst he
  refine ⟨_, rfl, post_of_below (pa := p) (pv := []) hW' ?_ ?_ ?_ (by simp) hb ?_⟩
  · intro b sp hd
    rw [List.append_nil, hfn, hr]
    exact trodAll_mk1 (shut_bool hTb _)
  · intro sp hsp
    rw [List.append_nil, hfn, hp]
    exact trodAll_mk1 (WideElems.Trod_stays Tryd.laidOut hrec hrow h0 (fun x hx => hb.same (hlt x hx)) hsp)
  · intro sp hsp
    rw [List.append_nil, hfn, hvars]
    simp [DataW.TrodVars]
  · exact ok_one hr rfl (okWide_bool_mk hTb _)

/-- THE STEP of a law with one argument, over variables that are laid. -/
theorem law_step_laid {H : Type} {enc : TypeId × Value → H} (F : FuncId) (f : Func) (T Tb : TypeId) (s : ChangeSpec) (hp : f.params = #[T]) (hr : f.resultTypes = #[Tb]) (hTb : Tryd.prog.underlying Tb = some .bool)
    (hvars : s.vars = []) (hfn : ∀ d : DataW H, s.fn H [d] = { results := [.lit (.bool true)], args := [d] }) (hrec : Tryd.prog.readableRec T = true) (hrow : T < Tryd.prog.types.size) (laid : List (String × DataW Unit))
    (walk : ∀ (W : World) (base : Nat) (v : Value) (d : DataW H) (p : List MemPlace), laidMetH Tryd.prog laid W → W.ShapedOpen Tryd.prog → Value.okWide Tryd.prog W .any base T v → DataW.Trod enc Tryd.prog W 0 (fun _ => true) true T v d p → (∀ n ∈ d.weights Tryd.prog T, n ≤ 140737488351232) →
      Calls Tryd.prog F #[v] W fun e W' => e = .returned (.bool true) ∧ From W W')
    (W : World) (base : Nat) (args : Array Value) (ds gs : List (DataW H)) (before : List MemPlace)
    (hval0 : ∀ (j : Nat) t v, f.params[j]? = some t → args[j]? = some v → Value.okWide Tryd.prog W .any base t v)
    (hW : DataW.Whole enc Tryd.prog f.params.toList s.vars false W args.toList ds gs before)
    (hsz : (DataW.weightsEach Tryd.prog (f.params.toList ++ s.plain.varTypes Tryd.prog) (ds ++ gs)).all (· ≤ reachBytes) = true)
    (hL : laidMetH Tryd.prog laid W) (hS : W.ShapedOpen Tryd.prog) :
    Calls Tryd.prog F args W fun e W' => ∃ v, e = .returned v ∧ s.post enc Tryd.prog f false true false false W args v W' := by
  have hlt : ∀ x ∈ before, x.block < W.heap.size := fun x hx => hW.lt x hx
  have hW' := hW
  obtain ⟨p, q, hA, hV, rfl, hfz, hnd⟩ := hW
  rw [hp] at hA hval0 hsz
  rw [hvars] at hV
  obtain ⟨v0, d0, rfl, rfl, h0⟩ := trodAll_one hA
  obtain ⟨rfl, rfl⟩ := trodVars_none hV
  simp only [List.append_nil] at hW' hlt
  refine (walk W base v0 d0 p hL hS (hval0 0 T v0 rfl rfl) h0 (fun n hn => Nat.le_trans (by simpa using List.all_eq_true.1 hsz n (DataW.weights_mem_each (j := 0) (t := T) (d := d0) rfl rfl n hn)) (show reachBytes ≤ 140737488351232 by decide))).mono fun e W' ⟨he, hb⟩ => ?_
  subst he
  refine ⟨_, rfl, post_of_below (pa := p) (pv := []) hW' ?_ ?_ ?_ (by simp) hb ?_⟩
  · intro b sp hd
    rw [List.append_nil, hfn, hr]
    exact trodAll_mk1 (shut_bool hTb _)
  · intro sp hsp
    rw [List.append_nil, hfn, hp]
    exact trodAll_mk1 (WideElems.Trod_stays Tryd.laidOut hrec hrow h0 (fun x hx => hb.same (hlt x hx)) hsp)
  · intro sp hsp
    rw [List.append_nil, hfn, hvars]
    simp [DataW.TrodVars]
  · exact ok_one hr rfl (okWide_bool_mk hTb _)
end Go.Proofs.YtglndihdhaaccaaDoor

namespace Go.Proofs.YtglndihdhaaccaaDoor
open Go.ChangeShapes Go.WideShapes Go.ChangeAt Go.RowKit

/-- a shape; a struct is its fields in a row of 'pr', closed by 'unit' -/
inductive Ty where
  | int (k : IntKind) | bool | str | sl (t : Ty) | pr (t u : Ty) | unit

def Ty.den : Ty → Type
  | .int _ => Int | .bool => Bool | .str => ByteArray | .sl t => List t.den | .pr t u => t.den × u.den | .unit => Unit

def Ty.size : Ty → Nat
  | .pr t u => t.size + u.size | .unit => 0 | _ => 1

/-- at least so many bytes -/
def Ty.bytes : Ty → Nat
  | .int .i8 | .int .u8 | .bool => 1 | .int .i16 | .int .u16 => 2 | .int .i32 | .int .u32 => 4 | .int _ => 8 | .str => 16 | .sl _ => 24 | .pr t u => t.bytes + u.bytes | .unit => 0

/-- does this shape fit a type (inl), or the fields from this offset on (inr)? -/
def Ty.fits (P : Program) : Ty → TypeId ⊕ (List Field × Nat) → Bool
  | .int k, .inl T => match P.underlying T with | some (.int k') => decide (k' = k) | _ => false
  | .bool, .inl T => match P.underlying T with | some .bool => true | _ => false
  | .str, .inl T => match P.underlying T with | some .string => true | _ => false
  | .sl t, .inl T => match P.underlying T with | some (.slice e) => t.fits P (.inl e) && P.cellsOf e == t.size && decide (0 < t.size) && decide (t.bytes ≤ P.bytesOf e) | _ => false
  | .pr t u, .inl T => match P.underlying T with
    | some (.struct fs) => match fs.toList with
      | f :: r => f.offset == 0 && P.cellsOf f.type == t.size && t.fits P (.inl f.type) && u.fits P (.inr (r, t.size)) && P.cellsOf T == t.size + u.size
      | [] => false
    | _ => false
  | .pr t u, .inr (f :: r, o) => f.offset == o && P.cellsOf f.type == t.size && t.fits P (.inl f.type) && u.fits P (.inr (r, o + t.size))
  | .unit, .inr _ => true
  | _, _ => false

/-- the cells 'c' read as this -/
def Ty.At (w : World) : (t : Ty) → (Nat → Option Value) → t.den → Prop
  | .int k, c, n => c 0 = some (.int k n) ∧ (Lit.int k n).wf = true
  | .bool, c, b => c 0 = some (.bool b)
  | .str, c, s => c 0 = some (.string s) ∧ ByteArray.size s ≤ 140737488351232
  | .sl t, c, xs => ∃ (A : Option Addr) (cap : Nat), c 0 = some (.slice A (List.length xs) cap) ∧ List.length xs * t.bytes ≤ 140737488351232 ∧ (List.length xs ≤ cap ∧ cap ≤ 9223372036854775807 ∧ (A = none → cap = 0)) ∧
      (0 < List.length xs → ∃ b o, A = some ⟨b, o, none⟩ ∧ b < w.heap.size ∧ ∀ (i : Nat) (x : t.den), @getElem? (List t.den) Nat t.den _ _ xs i = some x → Ty.At w t (fun j => w.cell? ⟨b, o + i * t.size + j, none⟩) x)
  | .pr t u, c, x => Ty.At w t c x.1 ∧ Ty.At w u (fun j => c (t.size + j)) x.2
  | .unit, _, _ => True

theorem Ty.At.congr {w : World} : ∀ (t : Ty) {c c' : Nat → Option Value} {x : t.den}, (∀ j, j < t.size → c' j = c j) → t.At w c x → t.At w c' x
  | .int k, c, c', n, hc, h => ⟨(hc 0 (by simp [Ty.size])).trans h.1, h.2⟩
  | .bool, c, c', n, hc, h => (hc 0 (by simp [Ty.size])).trans h
  | .str, c, c', n, hc, h => ⟨(hc 0 (by simp [Ty.size])).trans h.1, h.2⟩
  | .sl t, c, c', n, hc, h => by
    obtain ⟨A, cap, h0, r⟩ := h
    exact ⟨A, cap, (hc 0 (by simp [Ty.size])).trans h0, r⟩
  | .pr t u, c, c', x, hc, h => ⟨Ty.At.congr t (fun j hj => hc j (by simp only [Ty.size]; omega)) h.1, Ty.At.congr u (fun j hj => hc _ (by simp only [Ty.size]; omega)) h.2⟩
  | .unit, _, _, _, _, _ => trivial

theorem lt_of_cell {w : World} {a : Addr} {v : Value} (h : w.cell? a = some v) : a.block < w.heap.size := by
  rcases Nat.lt_or_ge a.block w.heap.size with hlt | hge
  · exact hlt
  · unfold World.cell? at h
    rw [Array.getElem?_eq_none hge] at h
    cases h

section
variable {H : Type} {enc : TypeId × Value → H} {P : Program} {w : World} {base : Nat} {spare : Nat → Bool} {held : Bool}

theorem exists_list {α : Type} {n : Nat} {p : Nat → α → Prop} (h : ∀ i, i < n → ∃ x, p i x) : ∃ xs : List α, xs.length = n ∧ ∀ i x, xs[i]? = some x → p i x := by
  induction n with
  | zero => exact ⟨[], rfl, fun i x hx => by simp at hx⟩
  | succ n ih =>
    obtain ⟨xs, hl, hx⟩ := ih fun i hi => h i (by omega)
    obtain ⟨x, hp⟩ := h n (by omega)
    refine ⟨xs ++ [x], by simp [hl], fun i y hy => ?_⟩
    rcases Nat.lt_or_ge i xs.length with hlt | hge
    · rw [List.getElem?_append_left hlt] at hy
      exact hx i y hy
    · rw [List.getElem?_append_right hge] at hy
      have h0 : i - xs.length = 0 := by
        rcases Nat.eq_zero_or_pos (i - xs.length) with h0 | h0
        · exact h0
        · rw [List.getElem?_eq_none (by simp; omega)] at hy; cases hy
      rw [h0] at hy
      simp at hy
      subst hy
      obtain rfl : i = n := by omega
      exact hp

theorem weights_all {H : Type} {P : Program} {e : TypeId} : ∀ (l : List (DataW H)) (d : DataW H), d ∈ l → ∀ q ∈ d.weights P e, q ∈ DataW.weightsAll P e l
  | x :: r, d, h, q, hq => by
    simp only [DataW.weightsAll, List.mem_append]
    rcases List.mem_cons.1 h with rfl | h
    · exact .inl hq
    · exact .inr (weights_all r d h q hq)

/-- DOWN: what the row reads, and what the struct's fields read, this shape reads. -/
theorem Ty.of_trod : ∀ (t : Ty),
    (∀ (T : TypeId), t.fits P (.inl T) = true → ∀ (fuel : Nat) (cs : List Value) (y : DataW H × List MemPlace), DataW.trod enc P w base spare held fuel T cs = some y → (∀ n ∈ y.1.weights P T, n ≤ 140737488351232) → ∃ x, t.At w (fun j => cs[j]?) x) ∧
    (∀ (fs : List Field) (o : Nat), t.fits P (.inr (fs, o)) = true → ∀ (cs : List Value), cs.length = o + t.size → (∀ (j : Nat) (f : Field), fs[j]? = some f → ∃ (fuel : Nat) (y : DataW H × List MemPlace), DataW.trod enc P w base spare held fuel f.type ((cs.drop f.offset).take (P.cellsOf f.type)) = some y ∧ ∀ n ∈ y.1.weights P f.type, n ≤ 140737488351232) →
      ∃ x, t.At w (fun j => cs[o + j]?) x)
  | .int k => by
    refine ⟨fun T hf fuel cs y h hsz => ?_, fun fs o hf => by simp [Ty.fits] at hf⟩
    simp only [Ty.fits] at hf
    split at hf
    · rename_i k' hu
      obtain rfl : k' = k := by simpa using hf
      obtain ⟨n, rfl, _, hn⟩ := DataW.trod_int hu h
      exact ⟨n, rfl, hn⟩
    · cases hf
  | .bool => by
    refine ⟨fun T hf fuel cs y h hsz => ?_, fun fs o hf => by simp [Ty.fits] at hf⟩
    simp only [Ty.fits] at hf
    split at hf
    · rename_i hu
      obtain ⟨n, rfl, _⟩ := DataW.trod_bool hu h
      exact ⟨n, rfl⟩
    · cases hf
  | .str => by
    refine ⟨fun T hf fuel cs y h hsz => ?_, fun fs o hf => by simp [Ty.fits] at hf⟩
    simp only [Ty.fits] at hf
    split at hf
    · rename_i hu
      obtain ⟨n, rfl, rfl, hn⟩ := DataW.trod_string hu h
      exact ⟨n, rfl, by have := hsz n.data.toList.length (by simp [DataW.weights]); simpa using this⟩
    · cases hf
  | .sl t => by
    refine ⟨fun T hf fuel cs y h hsz => ?_, fun fs o hf => by simp [Ty.fits] at hf⟩
    simp only [Ty.fits] at hf
    split at hf
    · rename_i e hu
      simp only [Bool.and_eq_true, beq_iff_eq, decide_eq_true_eq] at hf
      obtain ⟨⟨⟨hft, hC⟩, hpos⟩, hby⟩ := hf
      rcases Go.Deep.open_slice hu h with ⟨rfl, _⟩ | ⟨a, len, cap, m, n, D, Pl, rfl, hb, hl, hm, hmm, rfl, hi⟩
      · exact ⟨[], none, 0, rfl, by simp, by simp, fun h0 => absurd h0 (by simp)⟩
      · have hlm : len ≤ m := by rw [hmm]; split <;> omega
        have key : ∀ i, i < len → ∃ x, t.At w (fun j => w.cell? ((a.add (i * t.size)).add j)) x := by
          intro i hil
          obtain ⟨cs', hc, ht'⟩ := hi i (by omega)
          obtain ⟨_, hcl, hat⟩ := World.cells?_some hc
          obtain ⟨x, hx⟩ := (Ty.of_trod t).1 e hft n cs' _ ht' (fun q hq => hsz q (by
            simp only [DataW.weights, hu, List.mem_cons, List.mem_append]
            exact .inr (.inl (weights_all ((List.range len).map D) (D i) (List.mem_map.2 ⟨i, List.mem_range.2 hil, rfl⟩) q hq))))
          rw [hC] at hat hcl
          exact ⟨x, Ty.At.congr t (fun j hj => hat j hj) hx⟩
        obtain ⟨xs, hxl, hxs⟩ := exists_list key
        have hwt := hsz ((((List.range len).map D).length + ((List.range (m - len)).map fun j => D (len + j)).length) * P.bytesOf e) (by simp [DataW.weights, hu])
        have hwt2 : len * t.bytes ≤ 140737488351232 := by
          refine Nat.le_trans (Nat.mul_le_mul ?_ hby) hwt
          simp
        unfold maxLen at hm
        refine ⟨xs, some a, cap, by rw [hxl]; rfl, by rw [hxl]; exact hwt2, ⟨by omega, by omega, fun hn => by cases hn⟩, fun h0 => ?_⟩
        have hc0 : ∃ v, w.cell? (a.add 0) = some v := by
          obtain ⟨cs', hc, _⟩ := hi 0 (by omega)
          obtain ⟨_, hcl, hat⟩ := World.cells?_some hc
          have h1 := hat 0 (by omega)
          rw [Go.Deep.add_add] at h1
          simp only [Nat.zero_mul, Nat.add_zero] at h1
          exact ⟨cs'[0]'(by omega), by rw [h1, List.getElem?_eq_getElem (by omega)]⟩
        obtain ⟨v, hv⟩ := hc0
        obtain ⟨b, o, spot⟩ := a
        have hspot : spot = none := by simpa [Addr.add] using World.cell?_spot hv
        subst hspot
        have hblt : b < w.heap.size := by simpa [Addr.add] using lt_of_cell hv
        refine ⟨b, o, rfl, hblt, fun i x hx => ?_⟩
        refine Ty.At.congr t (fun j hj => ?_) (hxs i x hx)
        rw [Go.Deep.add_add, Go.WideShapes.add_plain, Nat.add_assoc]
    · cases hf
  | .pr t u => by
    have main : ∀ (f : Field) (r : List Field) (o : Nat), (f.offset == o && P.cellsOf f.type == t.size && t.fits P (.inl f.type) && u.fits P (.inr (r, o + t.size))) = true → ∀ (cs : List Value), cs.length = o + (t.size + u.size) →
        (∀ (j : Nat) (g : Field), (f :: r)[j]? = some g → ∃ (fuel : Nat) (y : DataW H × List MemPlace), DataW.trod enc P w base spare held fuel g.type ((cs.drop g.offset).take (P.cellsOf g.type)) = some y ∧ ∀ n ∈ y.1.weights P g.type, n ≤ 140737488351232) →
        ∃ x, Ty.At w (.pr t u) (fun j => cs[o + j]?) x := by
      intro f r o hf cs hcs hall
      simp only [Bool.and_eq_true, beq_iff_eq] at hf
      obtain ⟨⟨⟨ho, hc⟩, ht⟩, hu⟩ := hf
      obtain ⟨fuel, y, hy, hyw⟩ := hall 0 f rfl
      obtain ⟨x1, h1⟩ := (Ty.of_trod t).1 _ ht _ _ _ hy hyw
      obtain ⟨x2, h2⟩ := (Ty.of_trod u).2 r (o + t.size) hu cs (by omega) (fun j g hg => hall (j + 1) g (by simpa using hg))
      refine ⟨(x1, x2), Ty.At.congr t (fun j hj => ?_) h1, Ty.At.congr u (fun j hj => ?_) h2⟩
      · simp only [hc, ho]
        rw [List.getElem?_take, if_pos hj, List.getElem?_drop]
      · simp only [Nat.add_assoc]
    refine ⟨fun T hf fuel cs y h hsz => ?_, fun fs o hf cs hcs hall => ?_⟩
    · simp only [Ty.fits] at hf
      split at hf
      · rename_i fs hu
        split at hf
        · rename_i f r hfs
          simp only [Bool.and_eq_true, beq_iff_eq] at hf
          obtain ⟨⟨⟨⟨ho, hc⟩, ht⟩, hu'⟩, hsz⟩ := hf
          obtain ⟨ys, n', _, rfl, hlen, _, hall⟩ := DataW.trod_struct hu h
          have hm := main f r 0 (by simp [ho, hc, ht, hu']) cs (by omega) (fun j g hg => by
            have hg' : fs[j]? = some g := by rw [← hfs] at hg; simpa using hg
            have := hall j g hg'
            have hjl : j < ys.length := by
              have : j < fs.size := (Array.getElem?_eq_some_iff.1 hg').1
              omega
            refine ⟨n', ys[j], by rw [hall j g hg', List.getElem?_eq_getElem hjl], fun q hq => hsz q ?_⟩
            simp only [DataW.weights, hu]
            exact DataW.weights_mem_each (j := j) (t := g.type) (d := ys[j].1) (by rw [List.getElem?_map, Array.getElem?_toList, hg']; rfl) (by rw [List.getElem?_map, List.getElem?_eq_getElem hjl]; rfl) q hq)
          simpa using hm
        · cases hf
      · cases hf
    · match fs, hf with
      | f :: r, hf =>
        simp only [Ty.fits] at hf
        exact main f r o hf cs (by simpa [Ty.size] using hcs) hall
      | [], hf => simp [Ty.fits] at hf
  | .unit => by
    refine ⟨fun T hf => by simp [Ty.fits] at hf, fun fs o hf cs hcs hall => ⟨(), trivial⟩⟩

end

/-- AN ARGUMENT that is a slice: it is of this form, and its elements read. -/
theorem arg_sl {H : Type} {enc : TypeId × Value → H} {w : World} {base : Nat} {T : TypeId} {v : Value} {d : DataW H} {p : List MemPlace} (t : Ty) (hf : (Ty.sl t).fits Tryd.prog (.inl T) = true)
    (hv : Value.okWide Tryd.prog w .any base T v) (h : DataW.Trod enc Tryd.prog w 0 (fun _ => true) true T v d p) (hsz : ∀ n ∈ d.weights Tryd.prog T, n ≤ 140737488351232) :
    ∃ (A : Option Addr) (cap : Nat) (xs : List t.den), v = .slice A xs.length cap ∧ xs.length * t.bytes ≤ 140737488351232 ∧ (xs.length ≤ cap ∧ cap ≤ 9223372036854775807) ∧
      (0 < xs.length → ∃ b o, A = some ⟨b, o, none⟩ ∧ b < w.heap.size ∧ ∀ (i : Nat) (x : t.den), xs[i]? = some x → t.At w (fun j => w.cell? ⟨b, o + i * t.size + j, none⟩) x) := by
  have hu : ∃ e, Tryd.prog.underlying T = some (.slice e) := by
    simp only [Ty.fits] at hf
    split at hf
    · rename_i e hu
      exact ⟨e, hu⟩
    · cases hf
  obtain ⟨e, hu⟩ := hu
  obtain ⟨a, len, cap, rfl⟩ := okWide_slice hu hv
  obtain ⟨fuel, hfu⟩ := h
  obtain ⟨xs, A, cap', h0, h1, h2, h3⟩ := (Ty.of_trod (.sl t)).1 T hf fuel _ _ hfu hsz
  refine ⟨A, cap', xs, ?_, h1, ⟨h2.1, h2.2.1⟩, h3⟩
  simpa [Value.cells] using h0

/-- a slice of integers that reads: its value, its numbers -/
theorem at_ints {w : World} {k : IntKind} {c : Nat → Option Value} {xs : List Int} (h : (Ty.sl (.int k)).At w c xs) :
    ∃ (A : Option Addr) (cap : Nat), c 0 = some (.slice A xs.length cap) ∧ Row w (.slice A xs.length cap) (xs.map fun x => .int k x) ∧ (∀ x ∈ xs, (Lit.int k x).wf = true) ∧ xs.length * (Ty.int k).bytes ≤ 140737488351232 ∧ (xs.length ≤ cap ∧ cap ≤ 9223372036854775807) := by
  obtain ⟨A, cap, h0, h1, h2, h3⟩ := h
  refine ⟨A, cap, h0, ⟨A, cap, by rw [List.length_map], fun hp => ?_⟩, ?_, h1, ⟨h2.1, h2.2.1⟩⟩
  · obtain ⟨b, o, hA, hb, hi⟩ := h3 (by rw [List.length_map] at hp; exact hp)
    refine ⟨b, o, hA, hb, fun i u hu => ?_⟩
    rw [List.getElem?_map] at hu
    cases hx : xs[i]? with
    | none => rw [hx] at hu; cases hu
    | some x =>
      rw [hx] at hu
      simp only [Option.map_some, Option.some.injEq] at hu
      subst hu
      have := (hi i x hx).1
      simpa [Ty.size] using this
  · intro x hx
    obtain ⟨i, hi, rfl⟩ := List.mem_iff_getElem.1 hx
    obtain ⟨b, o, hA, hb, hii⟩ := h3 (Nat.lt_of_le_of_lt (Nat.zero_le _) hi)
    exact (hii i _ (List.getElem?_eq_getElem hi)).2

end Go.Proofs.YtglndihdhaaccaaDoor

namespace Go.Proofs.YtglndihdhaaccaaDoor
open Go.RowKit Go.ChangeShapes Go.WideShapes Go.ChangeAt

/-- a slice of unsigned integers that reads -/
theorem at_nats {w : World} {k : IntKind} {c : Nat → Option Value} {xs : List Int} (h : (Ty.sl (.int k)).At w c xs) (hk : ∀ x, (Lit.int k x).wf = true → 0 ≤ x) :
    ∃ (A : Option Addr) (cap : Nat) (l : List Nat), c 0 = some (.slice A l.length cap) ∧ RowOf (fun x : Nat => .int k x) w A l ∧ (∀ x ∈ l, (Lit.int k (x : Nat)).wf = true) ∧ l.length * (Ty.int k).bytes ≤ 140737488351232 ∧ xs = l.map (fun x : Nat => (x : Int)) ∧ l.length ≤ cap := by
  obtain ⟨A, cap, h0, hr, hw, hb, hc⟩ := at_ints h
  have hm : (xs.map (·.toNat)).map (fun x : Nat => (x : Int)) = xs := by
    rw [List.map_map]
    refine (List.map_congr_left fun x hx => ?_).trans (List.map_id xs)
    have := hk x (hw x hx)
    simp only [Function.comp, id]
    omega
  have hm2 : (xs.map (·.toNat)).map (fun (x : Nat) => Value.int k x) = xs.map fun x => .int k x := by
    have := congrArg (List.map fun x : Int => Value.int k x) hm
    rwa [List.map_map] at this
  have hr2 : Row w (.slice A (xs.map (·.toNat)).length cap) ((xs.map (·.toNat)).map (fun (x : Nat) => Value.int k x)) := by rw [List.length_map, hm2]; exact hr
  refine ⟨A, cap, xs.map (·.toNat), by rw [List.length_map]; exact h0, (RowOf.of_row hr2).2, fun y hy => ?_, by rw [List.length_map]; exact hb, hm.symm, by rw [List.length_map]; exact hc.1⟩
  obtain ⟨x, hx, rfl⟩ := List.mem_map.1 hy
  have h1 := hw x hx
  have h2 := hk x h1
  rwa [Int.toNat_of_nonneg h2]
theorem wf_bounds {k : IntKind} {x : Int} (h : (Lit.int k x).wf = true) : k.min ≤ x ∧ x ≤ k.max := by simpa [Lit.wf] using h
theorem wf_u8 {x : Int} (h : (Lit.int .u8 x).wf = true) : 0 ≤ x ∧ x < 256 := by
  have := wf_bounds h
  have e1 : IntKind.u8.min = 0 := by decide
  have e2 : IntKind.u8.max = 255 := by decide
  omega
theorem at_bytes' {w : World} {c : Nat → Option Value} {xs : List Int} (h : (Ty.sl (.int .u8)).At w c xs) :
    ∃ (A : Option Addr) (cap : Nat) (l : List Nat), c 0 = some (.slice A l.length cap) ∧ RowOf bV w A l ∧ (∀ x ∈ l, x < 256) ∧ l.length ≤ 140737488351232 ∧ l.length ≤ cap := by
  obtain ⟨A, cap, l, h0, hr, hw, hb, _, hc⟩ := at_nats h (fun x hx => (wf_u8 hx).1)
  exact ⟨A, cap, l, h0, hr, fun x hx => by have := wf_u8 (hw x hx); omega, by simpa [Ty.bytes] using hb, hc⟩
theorem Blk.grown {w w' : World} {g : Nat} {t : TypeId} {cs : Array Value} {r : Option Nat} (h : Blk w g t cs) (hg : w.grownBy w' r) (hne : ∀ k, r = some k → k ≠ g) : Blk w' g t cs :=
  (hg.block g h.lt (fun e => hne g e.symm rfl)).trans h
end Go.Proofs.YtglndihdhaaccaaDoor
namespace Go.Proofs.YtglndihdhaaccaaDoor
open Go.RowKit Go.ChangeShapes Go.WideShapes Go.ChangeAt
end Go.Proofs.YtglndihdhaaccaaDoor

namespace Go.Proofs.YtglndihdhaaccaaDoor

/-- the bytes of a number -/
def nums (n : Nat) : List Nat := if n < 128 then [n] else (n % 128 + 128) :: nums (n / 128)
termination_by n

theorem nums_small {n : Nat} (h : n < 128) : nums n = [n] := by rw [nums, if_pos h]
theorem nums_big {n : Nat} (h : ¬ n < 128) : nums n = (n % 128 + 128) :: nums (n / 128) := by rw [nums, if_neg h]
theorem nums_pos (n : Nat) : 1 ≤ (nums n).length := by
  by_cases h : n < 128
  · simp [nums_small h]
  · simp [nums_big h]
theorem nums_len : ∀ (j n : Nat), n < 128 ^ (j + 1) → (nums n).length ≤ j + 1
  | 0, n, h => by rw [nums_small (by omega)]; simp
  | j + 1, n, h => by
    by_cases hn : n < 128
    · simp [nums_small hn]
    · rw [nums_big hn, List.length_cons]
      have := nums_len j (n / 128) (by rw [Nat.div_lt_iff_lt_mul (by decide), ← Nat.pow_succ]; exact h)
      omega
theorem nums_len9 {n : Nat} (h : n ≤ 9223372036854775807) : (nums n).length ≤ 9 := nums_len 8 n (by omega)
theorem nums_byte : ∀ (j n : Nat), n < 128 ^ (j + 1) → ∀ b ∈ nums n, b < 256
  | 0, n, h, b, hb => by rw [nums_small (by omega)] at hb; simp at hb; omega
  | j + 1, n, h, b, hb => by
    by_cases hn : n < 128
    · rw [nums_small hn] at hb; simp at hb; omega
    · rw [nums_big hn, List.mem_cons] at hb
      rcases hb with rfl | hb
      · omega
      · exact nums_byte j (n / 128) (by rw [Nat.div_lt_iff_lt_mul (by decide), ← Nat.pow_succ]; exact h) b hb
theorem nums_byte9 {n : Nat} (h : n ≤ 9223372036854775807) : ∀ b ∈ nums n, b < 256 := nums_byte 8 n (by omega)

/-- the number that a list of bytes begins with, from place i on, n being there: the number, and how many bytes -/
def getAt : Nat → Nat → List Nat → Option (Nat × Nat)
  | _, _, [] => none
  | i, n, x :: t =>
    if 9 ≤ i then none
    else if 128 ≤ x then getAt (i + 1) (n + (x - 128) * 128 ^ i) t
    else if x = 0 ∧ 0 < i then none
    else some (n + x * 128 ^ i, i + 1)
def getNum (l : List Nat) : Option (Nat × Nat) := getAt 0 0 l

theorem getAt_nums : ∀ (j i n m : Nat) (t : List Nat), m < 128 ^ (j + 1) → i + j < 9 → (0 < i → 0 < m) → getAt i n (nums m ++ t) = some (n + m * 128 ^ i, i + (nums m).length)
  | 0, i, n, m, t, h, hi, h0 => by
    have hm : m < 128 := by omega
    rw [nums_small hm]
    simp only [List.cons_append, List.nil_append, getAt, List.length_cons, List.length_nil]
    rw [if_neg (by omega), if_neg (by omega), if_neg (by omega)]
  | j + 1, i, n, m, t, h, hi, h0 => by
    by_cases hm : m < 128
    · rw [nums_small hm]
      simp only [List.cons_append, List.nil_append, getAt, List.length_cons, List.length_nil]
      rw [if_neg (by omega), if_neg (by omega), if_neg (by omega)]
    · rw [nums_big hm]
      simp only [List.cons_append, getAt, List.length_cons]
      rw [if_neg (by omega), if_pos (by omega), getAt_nums j (i + 1) _ (m / 128) t (by rw [Nat.div_lt_iff_lt_mul (by decide), ← Nat.pow_succ]; exact h) (by omega) (by omega)]
      congr 2
      · have e : m = 128 * (m / 128) + m % 128 := (Nat.div_add_mod m 128).symm
        rw [Nat.pow_succ, Nat.add_sub_cancel, Nat.add_assoc]
        congr 1
        conv => rhs; rw [e, Nat.add_mul]
        rw [Nat.add_comm, Nat.mul_comm (128 ^ i) 128, ← Nat.mul_assoc, Nat.mul_comm (m / 128) 128]
      · omega
theorem getNum_nums {m : Nat} (h : m ≤ 9223372036854775807) (t : List Nat) : getNum (nums m ++ t) = some (m, (nums m).length) := by
  have := getAt_nums 8 0 0 m t (by omega) (by omega) (by omega)
  simpa [getNum] using this

theorem getAt_bound : ∀ (l : List Nat) (i n : Nat) {m k : Nat}, (∀ b ∈ l, b < 256) → getAt i n l = some (m, k) → n < 128 ^ i → m < 128 ^ k ∧ i < k ∧ k ≤ 9 ∧ k ≤ i + l.length
  | [], i, n, m, k, _, h, _ => by simp [getAt] at h
  | x :: t, i, n, m, k, hb, h, hn => by
    have hx := hb x (by simp)
    simp only [getAt] at h
    split at h
    · cases h
    · split at h
      · have hp : n + (x - 128) * 128 ^ i < 128 ^ (i + 1) := by
          have : (x - 128) * 128 ^ i ≤ 127 * 128 ^ i := Nat.mul_le_mul_right _ (by omega)
          rw [Nat.pow_succ]; omega
        have := getAt_bound t (i + 1) _ (fun b h => hb b (by simp [h])) h hp
        simp only [List.length_cons]
        omega
      · split at h
        · cases h
        · simp only [Option.some.injEq, Prod.mk.injEq] at h
          obtain ⟨rfl, rfl⟩ := h
          have : x * 128 ^ i ≤ 127 * 128 ^ i := Nat.mul_le_mul_right _ (by omega)
          simp only [List.length_cons, Nat.pow_succ]
          omega
/-- what is read is told by just these bytes -/
theorem getAt_back : ∀ (l : List Nat) (i n : Nat) {m k : Nat}, (∀ b ∈ l, b < 256) → getAt i n l = some (m, k) → ∃ q, m = n + q * 128 ^ i ∧ (0 < i → 0 < q) ∧ l.take (k - i) = nums q
  | [], i, n, m, k, _, h => by simp [getAt] at h
  | x :: t, i, n, m, k, hb, h => by
    have hx := hb x (by simp)
    simp only [getAt] at h
    split at h
    · cases h
    · split at h
      · rename_i h9 h128
        obtain ⟨q, hq, hq0, ht⟩ := getAt_back t (i + 1) _ (fun b h => hb b (by simp [h])) h
        have hq1 := hq0 (by omega)
        have hk : i + 1 < k := by
          by_cases hk : i + 1 < k
          · exact hk
          · exfalso
            have : k - (i + 1) = 0 := by omega
            rw [this] at ht
            have := nums_pos q
            rw [← ht] at this
            simp at this
        refine ⟨(x - 128) + 128 * q, ?_, by omega, ?_⟩
        · rw [hq, Nat.pow_succ, Nat.add_mul, Nat.add_assoc]
          congr 2
          rw [Nat.mul_comm (128 ^ i) 128, ← Nat.mul_assoc, Nat.mul_comm q 128]
        · rw [nums_big (by omega), show k - i = (k - (i + 1)) + 1 by omega, List.take_succ_cons, ht]
          congr 1
          · omega
          · congr 1; omega
      · split at h
        · cases h
        · simp only [Option.some.injEq, Prod.mk.injEq] at h
          obtain ⟨rfl, rfl⟩ := h
          exact ⟨x, rfl, by omega, by rw [nums_small (by omega), show i + 1 - i = 1 by omega]; simp⟩
theorem getNum_bound {l : List Nat} {m k : Nat} (hb : ∀ b ∈ l, b < 256) (h : getNum l = some (m, k)) : m ≤ 9223372036854775807 ∧ 0 < k ∧ k ≤ 9 ∧ k ≤ l.length := by
  have h1 := getAt_bound l 0 0 hb h (by decide)
  have h2 : 128 ^ k ≤ 128 ^ 9 := Nat.pow_le_pow_right (by decide) h1.2.2.1
  omega
theorem getNum_back {l : List Nat} {m k : Nat} (hb : ∀ b ∈ l, b < 256) (h : getNum l = some (m, k)) : l.take k = nums m := by
  obtain ⟨q, hq, _, ht⟩ := getAt_back l 0 0 hb h
  simp only [Nat.pow_zero, Nat.mul_one, Nat.zero_add] at hq
  subst hq
  simpa using ht

end Go.Proofs.YtglndihdhaaccaaDoor

namespace Go.Proofs.YtglndihdhaaccaaDoor
open Go.RowKit

theorem u8_info : (Tryd.prog.info? 5).map (fun i => (i.zero, i.size, i.bytes)) = some (some (.int .u8 0), 1, 1) := by kernel_rfl
theorem or128 (m : Nat) : bits .or .u8 (IntKind.u8.wrap (m : Int)) 128 = ((m % 128 + 128 : Nat) : Int) := by
  have H : ∀ b : Fin 256, bits .or .u8 ((b.val : Nat) : Int) 128 = ((b.val % 128 + 128 : Nat) : Int) := by decide +kernel
  have := H ⟨m % 256, by omega⟩
  rw [IntKind.wrap_u8]
  have e : ((m : Int) % 256) = ((m % 256 : Nat) : Int) := by omega
  rw [e, this]
  simp only
  omega

set_option maxHeartbeats 400000 in
theorem appendNum_any (a0 w : World) (v : Value) (k : Nat) (xs : List Nat) (m : Nat) (hm : m ≤ 9223372036854775807) (hown : w.ownsRow a0.heap.size 5 1 v k (bytesV xs)) (hw : From a0 w) (hk : k ≤ 1000000000000) :
    Calls Tryd.prog 28 #[v, .int .i64 m] w fun e w' => ∃ v', e = .returned v' ∧ w'.ownsRow a0.heap.size 5 1 v' (k + (nums m).length) (bytesV (xs ++ nums m)) ∧ From a0 w' := by
  obtain ⟨i0, hi0, hz0, hz1, hz2⟩ := info_parts u8_info
  have hm9 := nums_len9 hm
  go_enter Tryd.func28, Tryd.ntmps28
  go_wp2
  go_loopw [0, 1] (fun v i wr => ∃ m' ys, i = .int .i64 (m' : Nat) ∧ m' ≤ 9223372036854775807 ∧ wr.ownsRow a0.heap.size 5 1 v (k + ys.length) (bytesV (xs ++ ys)) ∧ ys ++ nums m' = nums m ∧ From a0 wr) (fun _ i _ => (intOf i).toNat)
  case atStart => exact ⟨m, [], rfl, hm, by simpa using hown, rfl, hw⟩
  case round =>
    obtain ⟨m', ys, rfl, hm', hown', hys, hw'⟩ := hrel
    have hlen : ys.length + (nums m').length = (nums m).length := by rw [← hys, List.length_append]
    have hp := nums_pos m'
    have hr1 : (k + ys.length + 1) * 1 ≤ 140737488355328 := by omega
    have hr2 : k + ys.length + 1 ≤ maxLen := by unfold maxLen; omega
    by_cases h : m' < 128
    · have hd : decide ((128 : Int) ≤ (m' : Int)) = false := by simp; omega
      have hb : ((m' : Int) % 256) = (m' : Int) := by omega
      rw [nums_small h] at hys
      have HY := Lib.hid hys
      clear hys
      go_wp2_with (at_builtin; refine wpList_push a0 rfl (.tmp 15) (.tmp 18) 23 rfl 5 i0 _ 1 Tryd.underlying23 hi0 hz0 hz1 hz2 rfl _ _ _ rfl hown' hw' rfl rfl hr1 hr2 ?_; intro v1 w1 hown1 hw1)
      go_ret
      refine ⟨_, rfl, ?_, hw1⟩
      have e1 : k + (nums m).length = k + ys.length + 1 := by rw [← HY.out]; simp; omega
      rw [e1, ← HY.out]
      simpa [bytesV, ← List.append_assoc] using hown1
    · have hd : decide ((128 : Int) ≤ (m' : Int)) = true := by simp; omega
      rw [nums_big h] at hys
      have HY := Lib.hid hys
      have hor := or128 m'
      rw [IntKind.wrap_u8] at hor
      clear hys
      go_wp2_with (at_builtin; refine wpList_push a0 rfl (.tmp 7) (.tmp 11) 23 rfl 5 i0 _ 1 Tryd.underlying23 hi0 hz0 hz1 hz2 rfl _ _ _ rfl hown' hw' rfl rfl hr1 hr2 ?_; intro v1 w1 hown1 hw1)
      go_roundw
      case rel =>
        refine ⟨m' / 128, ys ++ [m' % 128 + 128], by go_num, by omega, ?_, by rw [← HY.out]; simp, hw1⟩
        have e1 : k + (ys ++ [m' % 128 + 128]).length = k + ys.length + 1 := by simp; omega
        rw [e1]
        simpa [bytesV, ← List.append_assoc] using hown1
      case measure => simp [intOf]; omega

def gotV : Option (Nat × Nat) → Value
  | some (m, k) => .tuple #[.int .i64 (m : Nat), .int .i64 (k : Nat), .int .i64 0]
  | none => .tuple #[.int .i64 0, .int .i64 0, .int .i64 1]

theorem or_i64w (j n y : Nat) (hj : j ≤ 8) (hn : n < 128 ^ j) (hy : y < 128) : bits .or .i64 (n : Int) (wrap64 (wrap64 (y : Int) * 2 ^ (7 * j))) = ((n + y * 128 ^ j : Nat) : Int) := by
  have e1 : (128 : Nat) ^ j = 2 ^ (7 * j) := by rw [Nat.pow_mul]
  have h8 : 128 ^ j ≤ 128 ^ 8 := Nat.pow_le_pow_right (by decide) hj
  have h9 : y * 128 ^ j ≤ 127 * 128 ^ j := Nat.mul_le_mul_right _ (by omega)
  have e2 : ((y : Int) * 2 ^ (7 * j)) = ((y * 128 ^ j : Nat) : Int) := by rw [e1]; simp
  rw [IntWalk.wrap64_in (y : Int) (by omega), e2, IntWalk.wrap64_in _ (by omega)]
  show IntKind.i64.wrap ((BitVec.ofInt 64 (n : Int) ||| BitVec.ofInt 64 ((y * 128 ^ j : Nat) : Int)).toNat : Int) = _
  have t1 : (BitVec.ofInt 64 (n : Int)).toNat = n := by rw [BitVec.ofInt_natCast, BitVec.toNat_ofNat]; exact Nat.mod_eq_of_lt (by omega)
  have t2 : (BitVec.ofInt 64 ((y * 128 ^ j : Nat) : Int)).toNat = y * 128 ^ j := by rw [BitVec.ofInt_natCast, BitVec.toNat_ofNat]; exact Nat.mod_eq_of_lt (by omega)
  have t3 : n ||| y * 128 ^ j = n + y * 128 ^ j := by
    rw [Nat.or_comm, Nat.mul_comm y, e1, ← Nat.two_pow_add_eq_or_of_lt (by rw [← e1]; exact hn)]
    omega
  rw [BitVec.toNat_or, t1, t2, t3, IntKind.wrap_i64]
  omega
theorem andnot128 {x : Nat} (h : x < 256) : bits .andNot .u8 (x : Int) 128 = ((x % 128 : Nat) : Int) := by
  have H : ∀ b : Fin 256, bits .andNot .u8 ((b.val : Nat) : Int) 128 = ((b.val % 128 : Nat) : Int) := by decide +kernel
  exact H ⟨x, h⟩
theorem and128 {x : Nat} (h : x < 256) : (bits .and .u8 (x : Int) 128 != 0) = decide (128 ≤ x) := by
  have H : ∀ b : Fin 256, (bits .and .u8 ((b.val : Nat) : Int) 128 != 0) = decide (128 ≤ b.val) := by decide +kernel
  exact H ⟨x, h⟩

set_option maxHeartbeats 400000 in
theorem getnum_long (v : Value) (l : List Nat) (hl : ∀ b ∈ l, b < 256) (w : World) (hr : RowC w v (bytesV l)) (h9 : (9 : Int) < (l.length : Int)) :
    Calls Tryd.prog 21 #[v] w fun e w' => e = .returned (gotV (getNum l)) ∧ w = w' := by
  obtain ⟨A, cap, rfl, hc1, hc2, hrow⟩ := hr.parts
  have hlen : (bytesV l).length = l.length := by simp [bytesV]
  rw [hlen] at hc1 hrow ⊢
  have i4 : (9 : Int) ≤ (cap : Int) := by omega
  go_enter Tryd.func21, Tryd.ntmps21
  go_wp2
  go_loopw [2, 13] (fun s i wr => ∃ j n : Nat, s = .int .i64 (n : Nat) ∧ i = .int .i64 (j : Nat) ∧ j ≤ 9 ∧ n < 128 ^ j ∧ getAt j n (l.drop j) = getNum l ∧ w = wr) (fun _ i _ => 9 - (intOf i).toNat)
  case atStart => exact ⟨0, 0, rfl, rfl, by omega, by decide, rfl, rfl⟩
  case round =>
    obtain ⟨j, n, rfl, rfl, hj, hn, hg, rfl⟩ := hrel
    have HG := Lib.hid hg
    clear hg
    by_cases hlt : j < 9
    · have hd : decide ((j : Int) < 9) = true := by simp; omega
      have hj2 : j < l.length := by omega
      obtain ⟨b, o, rfl, hb, hcell⟩ := hrow (by omega)
      have d1 : w.cell? ⟨b, o + j, none⟩ = some (.int .u8 (l[j] : Nat)) := hcell j _ (by simp [bytesV, hj2])
      have i1 : (0 : Int) ≤ (j : Int) := by omega
      have i2 : (j : Int) < 9 := by omega
      have hx : l[j] < 256 := hl _ (List.getElem_mem hj2)
      have hg := HG.out
      rw [List.drop_eq_getElem_cons hj2] at hg
      simp only [getAt] at hg
      rw [if_neg (by omega)] at hg
      clear hcell hrow hr HG
      generalize l[j] = x at *
      have hor := or_i64w j n (x % 128) (by omega) hn (by omega)
      rw [← andnot128 hx] at hor
      have hbit := and128 hx
      have e7 : 127 * 128 ^ j + 128 ^ j = 128 ^ (j + 1) := by rw [Nat.pow_succ]; omega
      have h9' : (x % 128) * 128 ^ j ≤ 127 * 128 ^ j := Nat.mul_le_mul_right _ (by omega)
      by_cases hbig : 128 ≤ x
      · rw [if_pos hbig] at hg
        rw [decide_eq_true hbig] at hbit
        have H := Lib.hid (And.intro hg (And.intro hn (And.intro e7 h9')))
        have HB := Lib.hid (And.intro hbig hx)
        clear hg e7 h9' hbig hx hn
        go_wp2
        go_roundw
        case rel =>
          obtain ⟨hg, hn, e7, h9'⟩ := H.out
          have hxx : x % 128 = x - 128 := by have := HB.out; omega
          refine ⟨j + 1, n + (x % 128) * 128 ^ j, rfl, by go_num, by omega, by omega, ?_, trivial⟩
          rw [hxx]
          exact hg
        case measure => simp [intOf]; omega
      · rw [if_neg hbig] at hg
        rw [decide_eq_false hbig] at hbit
        have hxx : x % 128 = x := by omega
        rw [hxx] at hor
        by_cases hx0 : x = 0
        · subst hx0
          simp only [Int.ofNat_zero, Int.natCast_zero, Nat.zero_mul, Nat.add_zero] at d1 hor hbit
          have H := Lib.hid (And.intro hg (And.intro hn (And.intro e7 h9')))
          clear hg e7 h9' hbig hx hn hxx
          by_cases hj0 : 0 < j
          · go_wp2
            go_ret3
            refine ⟨?_, rfl⟩
            have h := H.out.1
            rw [if_pos ⟨by trivial, hj0⟩] at h
            rw [← h]
            rfl
          · go_wp2
            go_ret3
            refine ⟨?_, rfl⟩
            have h := H.out.1
            rw [if_neg (fun c => hj0 c.2)] at h
            rw [← h]
            simp [gotV]
        · rw [if_neg (by omega)] at hg
          have H := Lib.hid (And.intro hg (And.intro hn (And.intro e7 h9')))
          clear hg e7 h9' hbig hx hn hxx
          go_wp2
          go_ret3
          refine ⟨?_, rfl⟩
          rw [← H.out.1]
          simp [gotV]
    · have hd : decide ((j : Int) < 9) = false := by simp; omega
      go_wp2
      go_ret3
      refine ⟨?_, rfl⟩
      rw [← HG.out]
      have hjc : j = 9 := by omega
      rw [hjc]
      rw [List.drop_eq_getElem_cons (show 9 < l.length by omega)]; simp only [getAt]; rw [if_pos (by omega)]; rfl

set_option maxHeartbeats 400000 in
theorem getnum_short (v : Value) (l : List Nat) (hl : ∀ b ∈ l, b < 256) (w : World) (hr : RowC w v (bytesV l)) (h9 : ¬ (9 : Int) < (l.length : Int)) :
    Calls Tryd.prog 21 #[v] w fun e w' => e = .returned (gotV (getNum l)) ∧ w = w' := by
  obtain ⟨A, cap, rfl, hc1, hc2, hrow⟩ := hr.parts
  have hlen : (bytesV l).length = l.length := by simp [bytesV]
  rw [hlen] at hc1 hrow ⊢
  have i4 : ((l.length : Int) : Int) ≤ (cap : Int) := by omega
  go_enter Tryd.func21, Tryd.ntmps21
  go_wp2
  go_loopw [2, 13] (fun s i wr => ∃ j n : Nat, s = .int .i64 (n : Nat) ∧ i = .int .i64 (j : Nat) ∧ j ≤ l.length ∧ n < 128 ^ j ∧ getAt j n (l.drop j) = getNum l ∧ w = wr) (fun _ i _ => l.length - (intOf i).toNat)
  case atStart => exact ⟨0, 0, rfl, rfl, by omega, by decide, rfl, rfl⟩
  case round =>
    obtain ⟨j, n, rfl, rfl, hj, hn, hg, rfl⟩ := hrel
    have HG := Lib.hid hg
    clear hg
    by_cases hlt : j < l.length
    · have hd : decide ((j : Int) < (l.length : Int)) = true := by simp; omega
      have hj2 : j < l.length := by omega
      obtain ⟨b, o, rfl, hb, hcell⟩ := hrow (by omega)
      have d1 : w.cell? ⟨b, o + j, none⟩ = some (.int .u8 (l[j] : Nat)) := hcell j _ (by simp [bytesV, hj2])
      have i1 : (0 : Int) ≤ (j : Int) := by omega
      have i2 : (j : Int) < (l.length : Int) := by omega
      have hx : l[j] < 256 := hl _ (List.getElem_mem hj2)
      have hg := HG.out
      rw [List.drop_eq_getElem_cons hj2] at hg
      simp only [getAt] at hg
      rw [if_neg (by omega)] at hg
      clear hcell hrow hr HG
      generalize l[j] = x at *
      have hor := or_i64w j n (x % 128) (by omega) hn (by omega)
      rw [← andnot128 hx] at hor
      have hbit := and128 hx
      have e7 : 127 * 128 ^ j + 128 ^ j = 128 ^ (j + 1) := by rw [Nat.pow_succ]; omega
      have h9' : (x % 128) * 128 ^ j ≤ 127 * 128 ^ j := Nat.mul_le_mul_right _ (by omega)
      by_cases hbig : 128 ≤ x
      · rw [if_pos hbig] at hg
        rw [decide_eq_true hbig] at hbit
        have H := Lib.hid (And.intro hg (And.intro hn (And.intro e7 h9')))
        have HB := Lib.hid (And.intro hbig hx)
        clear hg e7 h9' hbig hx hn
        go_wp2
        go_roundw
        case rel =>
          obtain ⟨hg, hn, e7, h9'⟩ := H.out
          have hxx : x % 128 = x - 128 := by have := HB.out; omega
          refine ⟨j + 1, n + (x % 128) * 128 ^ j, rfl, by go_num, by omega, by omega, ?_, trivial⟩
          rw [hxx]
          exact hg
        case measure => simp [intOf]; omega
      · rw [if_neg hbig] at hg
        rw [decide_eq_false hbig] at hbit
        have hxx : x % 128 = x := by omega
        rw [hxx] at hor
        by_cases hx0 : x = 0
        · subst hx0
          simp only [Int.ofNat_zero, Int.natCast_zero, Nat.zero_mul, Nat.add_zero] at d1 hor hbit
          have H := Lib.hid (And.intro hg (And.intro hn (And.intro e7 h9')))
          clear hg e7 h9' hbig hx hn hxx
          by_cases hj0 : 0 < j
          · go_wp2
            go_ret3
            refine ⟨?_, rfl⟩
            have h := H.out.1
            rw [if_pos ⟨by trivial, hj0⟩] at h
            rw [← h]
            rfl
          · go_wp2
            go_ret3
            refine ⟨?_, rfl⟩
            have h := H.out.1
            rw [if_neg (fun c => hj0 c.2)] at h
            rw [← h]
            simp [gotV]
        · rw [if_neg (by omega)] at hg
          have H := Lib.hid (And.intro hg (And.intro hn (And.intro e7 h9')))
          clear hg e7 h9' hbig hx hn hxx
          go_wp2
          go_ret3
          refine ⟨?_, rfl⟩
          rw [← H.out.1]
          simp [gotV]
    · have hd : decide ((j : Int) < (l.length : Int)) = false := by simp; omega
      go_wp2
      go_ret3
      refine ⟨?_, rfl⟩
      rw [← HG.out]
      have hjc : j = l.length := by omega
      rw [hjc]
      rw [List.drop_length]; rfl


theorem getnum_any (v : Value) (l : List Nat) (hl : ∀ b ∈ l, b < 256) (w : World) (hr : RowC w v (bytesV l)) :
    Calls Tryd.prog 21 #[v] w fun e w' => e = .returned (gotV (getNum l)) ∧ w = w' := by
  by_cases h : (9 : Int) < (l.length : Int)
  · exact getnum_long v l hl w hr h
  · exact getnum_short v l hl w hr h

def refGotV : Option (Nat × Nat) → Value
  | some (m, k) => .tuple #[.int .i64 (m : Nat), .int .i64 (k : Nat)]
  | none => .tuple #[.int .i64 0, .int .i64 0]
end Go.Proofs.YtglndihdhaaccaaDoor

namespace Go.Proofs.YtglndihdhaaccaaDoor
open Go.RowKit

set_option maxHeartbeats 400000 in
theorem numsize_any (m : Nat) (hm : m ≤ 9223372036854775807) (w : World) :
    Calls Tryd.prog 27 #[.int .i64 m] w fun e w' => e = .returned (.int .i64 ((nums m).length : Nat)) ∧ w = w' := by
  have hm9 := nums_len9 hm
  go_enter Tryd.func27, Tryd.ntmps27
  go_wp2
  go_loopw [0, 3] (fun i c wr => ∃ m' k, i = .int .i64 (m' : Nat) ∧ c = .int .i64 (k : Nat) ∧ m' ≤ 9223372036854775807 ∧ k + (nums m').length = (nums m).length + 1 ∧ w = wr) (fun i _ _ => (intOf i).toNat)
  case atStart => exact ⟨m, 1, rfl, rfl, hm, by omega, rfl⟩
  case round =>
    obtain ⟨m', k, rfl, rfl, hm', hk, rfl⟩ := hrel
    have hpm := nums_pos m'
    have hk10 : k ≤ 10 := by omega
    by_cases h : m' < 128
    · have hd : decide ((128 : Int) ≤ (m' : Int)) = false := by simp; omega
      rw [nums_small h] at hk
      have HK := Lib.hid hk
      clear hk
      go_wp2
      go_ret
      have := HK.out
      simp only [List.length_cons, List.length_nil] at this
      exact ⟨ret_int (by omega), rfl⟩
    · have hd : decide ((128 : Int) ≤ (m' : Int)) = true := by simp; omega
      rw [nums_big h] at hk
      have hp := nums_pos (m' / 128)
      have HK := Lib.hid hk
      clear hk
      go_wp2
      go_roundw
      case rel => exact ⟨m' / 128, k + 1, by go_num, by go_num, by omega, by have := HK.out; simp only [List.length_cons] at this; omega, trivial⟩
      case measure => simp [intOf]; omega

/-- the bytes of a text; of texts, one behind the other; of a list of texts -/
def encS (s : ByteArray) : List Nat := nums s.size ++ strB s
def encL : List ByteArray → List Nat
  | [] => []
  | s :: r => encS s ++ encL r
def putB (ts : List ByteArray) : List Nat := nums ts.length ++ encL ts
theorem encL_snoc : ∀ (l : List ByteArray) (s : ByteArray), encL (l ++ [s]) = encL l ++ encS s
  | [], s => by simp [encL]
  | x :: r, s => by simp only [List.cons_append, encL, encL_snoc r s, List.append_assoc]
theorem encL_take {ts : List ByteArray} {j : Nat} (h : j < ts.length) : encL (ts.take (j + 1)) = encL (ts.take j) ++ encS ts[j] := by
  rw [List.take_succ_eq_append_getElem h, encL_snoc]
theorem encS_length (s : ByteArray) : (encS s).length = (nums s.size).length + s.size := by rw [encS, List.length_append, strB_length]
theorem encL_append : ∀ (l m : List ByteArray), encL (l ++ m) = encL l ++ encL m
  | [], m => rfl
  | x :: r, m => by simp only [List.cons_append, encL, encL_append r m, List.append_assoc]
theorem encL_le (ts : List ByteArray) (j : Nat) : (encL (ts.take j)).length ≤ (encL ts).length := by
  conv => rhs; rw [← List.take_append_drop j ts, encL_append, List.length_append]
  omega
theorem encL_count : ∀ (ts : List ByteArray), ts.length ≤ (encL ts).length
  | [] => by simp
  | x :: r => by
    have := encL_count r
    have := nums_pos x.size
    simp only [encL, List.length_cons, List.length_append, encS_length]
    omega

/-- the strings that a slice value reads as, by index -/
theorem strs_at {w : World} {v : Value} {ts : List ByteArray} (hr : RowC w v (ts.map .string)) : ∃ A cap, v = .slice A ts.length cap ∧ ts.length ≤ cap ∧ cap ≤ 9223372036854775807 ∧
    (0 < ts.length → ∃ b o, A = some ⟨b, o, none⟩ ∧ b < w.heap.size ∧ ∀ i (h : i < ts.length), w.cell? ⟨b, o + i, none⟩ = some (.string ts[i])) := by
  obtain ⟨A, cap, rfl, h1, h2, hp⟩ := hr.parts
  rw [List.length_map] at h1 hp ⊢
  refine ⟨A, cap, rfl, h1, h2, fun h0 => ?_⟩
  obtain ⟨b, o, hA, hb, hc⟩ := hp h0
  exact ⟨b, o, hA, hb, fun i hi => hc i _ (by simp [hi])⟩

set_option maxHeartbeats 1000000 in
theorem put_any (v : Value) (ts : List ByteArray) (w : World) (hr : RowC w v (ts.map .string)) (hs : ∀ s ∈ ts, s.size ≤ 140737488351232) (hfit : (putB ts).length ≤ 1048576) :
    Calls Tryd.prog 18 #[v] w fun e w' => ∃ v', e = .returned (.tuple #[v', .int .i64 0]) ∧ w'.ownsRow w.heap.size 5 1 v' (putB ts).length (bytesV (putB ts)) ∧ From w w' := by
  obtain ⟨A, cap, rfl, hc1, hc2, hrow⟩ := strs_at hr
  obtain ⟨i0, hi0, hz0, hz1, hz2⟩ := info_parts u8_info
  have hn9 := nums_len9 (show ts.length ≤ 9223372036854775807 by omega)
  have hnum := fun m (hm : m ≤ 9223372036854775807) w => numsize_any m hm w
  have HN := Lib.hid hnum
  clear hnum
  have hl := hfit
  rw [putB, List.length_append] at hl
  go_enter Tryd.func18, Tryd.ntmps18
  go_wp2_with (go_at_call 27; (with_reducible refine (HN.out ts.length (by omega) _).mono ?_); rintro e w1 ⟨rfl, rfl⟩)
  go_loopw [4, 15] (fun z i wr => ∃ j q : Nat, i = .int .i64 (j : Nat) ∧ z = .int .i64 (q : Nat) ∧ j ≤ ts.length ∧ q = (nums ts.length).length + (encL (ts.take j)).length ∧ q ≤ 1048576 ∧ w = wr) (fun _ i _ => ts.length - (intOf i).toNat)
  case atStart => exact ⟨0, _, rfl, rfl, by omega, by simp [encL], by omega, rfl⟩
  case round =>
    obtain ⟨j, q, rfl, rfl, hj, hq, hq2, rfl⟩ := hrel
    by_cases hlt : j < ts.length
    · have hd : decide ((j : Int) < (ts.length : Int)) = true := by simp; omega
      obtain ⟨b, o, rfl, hb, hc⟩ := hrow (by omega)
      have d1 := hc j hlt
      have hsz := hs _ (List.getElem_mem hlt)
      have i1 : (0 : Int) ≤ (j : Int) := by omega
      have i2 : (j : Int) < (ts.length : Int) := by omega
      have hnext := encL_take hlt
      have hsl := encS_length ts[j]
      have hle := encL_le ts (j + 1)
      rw [hnext, List.length_append, hsl] at hle
      have HQ := Lib.hid hq
      have HX := Lib.hid (And.intro hnext hsl)
      have hov : q + ((nums ts[j].size).length + ts[j].size) ≤ 1048576 := by omega
      clear hnext hsl hc hrow hr hq hle
      generalize ts[j] = s at *
      have hz9 := nums_len9 (show s.size ≤ 9223372036854775807 by omega)
      have hd2 : decide ((1048576 : Int) < (q : Int) + (((nums s.size).length : Int) + (s.size : Int))) = false := by simp; omega
      go_wp2_with (go_at_call 27; (with_reducible refine (HN.out s.size (by omega) _).mono ?_); rintro e w1 ⟨rfl, rfl⟩)
      go_roundw
      case rel =>
        refine ⟨j + 1, q + ((nums s.size).length + s.size), by go_num, by go_num, by omega, ?_, by omega, trivial⟩
        have h1 := HQ.out
        have h2 := HX.out.1
        have h3 := HX.out.2
        rw [h2, List.length_append, h3]
        omega
      case measure => simp [intOf]; omega
    · have hd : decide ((j : Int) < (ts.length : Int)) = false := by simp; omega
      have happ := fun (v : Value) (k : Nat) (xs : List Nat) (m : Nat) (wr : World) => appendNum_any w wr v k xs m
      have HA := Lib.hid happ
      have HQ := Lib.hid hq
      clear happ hq
      go_wp2_with (refine wpList_make_own (P := Tryd.prog) _ rfl _ _ _ rfl w.heap.size 5 i0 _ 1 Tryd.underlying23 hi0 hz0 hz1 .i64 .i64 _ q rfl rfl rfl (by rw [hz2]; omega) (by unfold maxLen; omega) (Nat.le_refl _) ?_; intro w1 hown1 hg1)
      have hw1 : From w w1 := From.rfl_.grew hg1 (fun k hk => by cases hk)
      refine (HA.out _ 0 [] ts.length w1 (by omega) hown1 hw1 (by omega)).mono ?_
      rintro e w2 ⟨v2, rfl, hown2, hw2⟩
      simp only [Nat.zero_add, List.nil_append] at hown2
      go_wp2
      go_loopw [7, 37] (fun u i wr => ∃ k : Nat, i = .int .i64 (k : Nat) ∧ k ≤ ts.length ∧ wr.ownsRow w.heap.size 5 1 u ((nums ts.length).length + (encL (ts.take k)).length) (bytesV (nums ts.length ++ encL (ts.take k))) ∧ From w wr) (fun _ i _ => ts.length - (intOf i).toNat)
      case atStart => exact ⟨0, rfl, by omega, by simpa [encL] using hown2, hw2⟩
      case round =>
        obtain ⟨k, rfl, hk, hown, hw⟩ := hrel
        by_cases hlt2 : k < ts.length
        · have hd3 : decide ((k : Int) < (ts.length : Int)) = true := by simp; omega
          obtain ⟨b, o, rfl, hb, hc⟩ := hrow (by omega)
          have d1 : ∀ w', From w w' → w'.cell? ⟨b, o + k, none⟩ = some (.string ts[k]) := fun w' h => (h.cells _ _ hb).trans (hc k hlt2)
          have hsz := hs _ (List.getElem_mem hlt2)
          have i1 : (0 : Int) ≤ (k : Int) := by omega
          have i2 : (k : Int) < (ts.length : Int) := by omega
          have hnext := encL_take hlt2
          have hsl := encS_length ts[k]
          have hle := encL_le ts (k + 1)
          rw [hnext, List.length_append, hsl] at hle
          have HX := Lib.hid (And.intro hnext hsl)
          have hov : (nums ts.length).length + (encL (ts.take k)).length + ((nums ts[k].size).length + ts[k].size) ≤ 1048576 := by omega
          clear hnext hsl hc hrow hr hle
          generalize ts[k] = s at *
          have HO := Lib.hid hown
          clear hown
          go_wp2_with (first
            | (go_at_call 28; refine (HA.out _ _ _ s.size _ (by omega) HO.out hw (by omega)).mono ?_; rintro e w3 ⟨v3, rfl, hown3, hw3⟩)
            | (at_builtin; refine wpList_pusht w rfl (.tmp 44) (.tmp 45) 23 9 rfl 5 i0 Tryd.underlying23 Tryd.underlying9 hi0 hz0 hz1 hz2 _ _ _ rfl hown3 hw3 s rfl (by omega) ?_; intro v4 w4 hown4 hw4))
          go_roundw
          case rel =>
            refine ⟨k + 1, by go_num, by omega, ?_, hw4⟩
            have h2 := HX.out.1
            rw [h2, encS, List.length_append, List.length_append, strB_length]
            have e1 : (nums ts.length).length + ((encL (ts.take k)).length + ((nums s.size).length + s.size)) = (nums ts.length).length + (encL (ts.take k)).length + (nums s.size).length + s.size := by omega
            rw [e1]
            simpa [List.append_assoc] using hown4
          case measure => simp [intOf]; omega
        · have hd3 : decide ((k : Int) < (ts.length : Int)) = false := by simp; omega
          have hkl : k = ts.length := by omega
          have HK := Lib.hid hkl
          clear hkl
          go_wp2
          go_ret2
          rw [HK.out, List.take_length] at hown
          refine ⟨_, rfl, ?_, hw⟩
          rw [putB, List.length_append]
          exact hown
end Go.Proofs.YtglndihdhaaccaaDoor

namespace Go.Proofs.YtglndihdhaaccaaDoor

def strOf (l : List Nat) : ByteArray := ⟨(l.map UInt8.ofNat).toArray⟩
theorem strOf_strB (s : ByteArray) : strOf (strB s) = s := by
  unfold strOf strB
  rw [List.map_map]
  have : (UInt8.ofNat ∘ fun x : UInt8 => x.toNat) = id := by funext x; simp
  rw [this, List.map_id]
theorem strB_strOf {l : List Nat} (h : ∀ b ∈ l, b < 256) : strB (strOf l) = l := by
  unfold strOf strB
  simp only [List.map_map]
  conv => rhs; rw [← List.map_id l]
  refine List.map_congr_left fun x hx => ?_
  simp only [Function.comp, id]
  have := h x hx
  simp only [UInt8.toNat_ofNat']
  omega
theorem strOf_size (l : List Nat) : (strOf l).size = l.length := by
  show ((l.map UInt8.ofNat).toArray).size = _
  simp

/-- so many texts off a list of bytes: they, and what is left -/
def getStrs : Nat → List Nat → Option (List ByteArray × List Nat)
  | 0, l => some ([], l)
  | c + 1, l =>
    match getNum l with
    | none => none
    | some (n, k) =>
      if l.length - k < n then none
      else match getStrs c (l.drop (k + n)) with
        | none => none
        | some (ss, r) => some (strOf ((l.drop k).take n) :: ss, r)
def getB (l : List Nat) : Option (List ByteArray) :=
  if 1048576 < l.length then none
  else match getNum l with
    | none => none
    | some (c, k) =>
      if l.length < c then none
      else match getStrs c (l.drop k) with
        | some (ss, []) => some ss
        | _ => none

theorem getStrs_enc : ∀ (ts : List ByteArray) (t : List Nat), (∀ s ∈ ts, s.size ≤ 140737488351232) → getStrs ts.length (encL ts ++ t) = some (ts, t)
  | [], t, _ => rfl
  | s :: r, t, h => by
    have hs := h s (by simp)
    have ih := getStrs_enc r t (fun x hx => h x (by simp [hx]))
    simp only [encL, encS, List.length_cons, getStrs, List.append_assoc]
    rw [getNum_nums (by omega)]
    have hl := strB_length s
    simp only
    rw [if_neg (by simp only [List.length_append]; omega)]
    have e1 : List.drop ((nums s.size).length + s.size) (nums s.size ++ (strB s ++ (encL r ++ t))) = encL r ++ t := by
      rw [← List.append_assoc, List.drop_append_of_le_length (by simp [hl]), List.drop_eq_nil_of_le (by simp [hl]), List.nil_append]
    have e2 : List.take s.size (List.drop (nums s.size).length (nums s.size ++ (strB s ++ (encL r ++ t)))) = strB s := by
      rw [List.drop_append_of_le_length (Nat.le_refl _), List.drop_length, List.nil_append, List.take_append_of_le_length (by omega), List.take_of_length_le (by omega)]
    rw [e1, e2, ih, strOf_strB]
theorem getB_putB {ts : List ByteArray} (h : ∀ s ∈ ts, s.size ≤ 140737488351232) (hfit : (putB ts).length ≤ 1048576) : getB (putB ts) = some ts := by
  have hc := encL_count ts
  have hl : (putB ts).length = (nums ts.length).length + (encL ts).length := by rw [putB, List.length_append]
  unfold getB
  rw [if_neg (by omega)]
  have e : getNum (putB ts) = some (ts.length, (nums ts.length).length) := getNum_nums (by omega) _
  have hs := getStrs_enc ts [] h
  rw [List.append_nil] at hs
  rw [e]
  simp only
  rw [if_neg (by omega), putB, List.drop_append_of_le_length (Nat.le_refl _), List.drop_length, List.nil_append, hs]

/-- what is read is told by just these bytes -/
theorem getStrs_back : ∀ (c : Nat) (l : List Nat) {ss : List ByteArray} {r : List Nat}, (∀ b ∈ l, b < 256) → getStrs c l = some (ss, r) → ss.length = c ∧ l = encL ss ++ r
  | 0, l, ss, r, _, h => by
    simp only [getStrs, Option.some.injEq, Prod.mk.injEq] at h
    obtain ⟨rfl, rfl⟩ := h
    exact ⟨rfl, rfl⟩
  | c + 1, l, ss, r, hb, h => by
    simp only [getStrs] at h
    split at h
    · cases h
    · rename_i n k hg
      have hk := getNum_bound hb hg
      have hback := getNum_back hb hg
      split at h
      · cases h
      · rename_i hn
        split at h
        · cases h
        · rename_i ss' r' hs
          simp only [Option.some.injEq, Prod.mk.injEq] at h
          obtain ⟨rfl, rfl⟩ := h
          obtain ⟨h1, h2⟩ := getStrs_back c _ (fun b h => hb b (List.mem_of_mem_drop h)) hs
          have hlt : ((l.drop k).take n).length = n := by rw [List.length_take, List.length_drop]; omega
          refine ⟨by simp [h1], ?_⟩
          simp only [encL, encS]
          rw [strOf_size, hlt, strB_strOf (fun b h => hb b (List.mem_of_mem_drop (List.mem_of_mem_take h))), ← hback, List.append_assoc, List.append_assoc, ← h2]
          conv => lhs; rw [← List.take_append_drop k l, ← List.take_append_drop n (l.drop k), List.drop_drop]
theorem getB_back {l : List Nat} {ss : List ByteArray} (hb : ∀ b ∈ l, b < 256) (h : getB l = some ss) : putB ss = l ∧ l.length ≤ 1048576 := by
  unfold getB at h
  split at h
  · cases h
  · split at h
    · cases h
    · rename_i c k hg
      split at h
      · cases h
      · split at h
        · rename_i ss' hs
          simp only [Option.some.injEq] at h
          subst h
          obtain ⟨h1, h2⟩ := getStrs_back c _ (fun b h => hb b (List.mem_of_mem_drop h)) hs
          rw [List.append_nil] at h2
          refine ⟨?_, by omega⟩
          rw [putB, h1, ← h2, ← getNum_back hb hg, List.take_append_drop]
        · cases h
end Go.Proofs.YtglndihdhaaccaaDoor

namespace Go.Proofs.YtglndihdhaaccaaDoor
open Go.RowKit

/-- string(b), by rows -/
theorem conv_str {w : World} {src dst e : TypeId} (hs : Tryd.prog.underlying src = some (.slice e)) (he : Tryd.prog.underlying e = some (.int .u8)) (hd : Tryd.prog.underlying dst = some .string)
    {v : Value} {l : List Nat} (hl : ∀ b ∈ l, b < 256) (hr : RowC w v (bytesV l)) : (convert src dst v).run Tryd.prog w = .ok (.string (strOf l)) w := by
  obtain ⟨A, cap, rfl, _, _, hp⟩ := hr.parts
  rw [bytesV_length] at hp ⊢
  cases A with
  | none =>
    have h0 : l = [] := by
      cases l with
      | nil => rfl
      | cons x t =>
        obtain ⟨b, o, hA, _⟩ := hp (by simp)
        cases hA
    subst h0
    rw [run_convert_bytes_string w src dst e none _ cap hs he hd]
    rfl
  | some a =>
    have hm : (l.map UInt8.ofNat).length = l.length := by simp
    have := run_convert_bytes_back (P := Tryd.prog) w src dst e a cap (l.map UInt8.ofNat) hs he hd (fun j hj => by
      have hj' : j < l.length := by simpa using hj
      obtain ⟨b, o, hA, _, hc⟩ := hp (by omega)
      simp only [Option.some.injEq] at hA
      subst hA
      rw [Go.WideShapes.add_plain]
      have hb := hl _ (List.getElem_mem hj')
      rw [hc j (.int .u8 (l[j] : Nat)) (by simp [bytesV, hj'])]
      simp only [List.getElem_map, UInt8.toNat_ofNat']
      congr 2
      omega)
    rw [hm] at this
    exact this
theorem str_info : (Tryd.prog.info? 9).map (fun i => (i.zero, i.size, i.bytes)) = some (some (.string ⟨#[]⟩), 1, 16) := by kernel_rfl
def GotB (w w' : World) (e : Ending) : Option (List ByteArray) → Prop
  | none => e = .returned (.tuple #[.slice none 0 0, .int .i64 1])
  | some ss => ∃ v', e = .returned (.tuple #[v', .int .i64 0]) ∧ w'.ownsRow w.heap.size 9 1 v' ss.length (ss.map .string)
/-- the loop: so many texts read, so many bytes left -/
def GetRel (w : World) (c : Nat) (whole : Option (List ByteArray × List Nat)) (vb u i : Value) (wr : World) : Prop :=
  ∃ (j : Nat) (ss : List ByteArray) (rest : List Nat), i = .int .i64 (j : Nat) ∧ j ≤ c ∧ RowC w vb (bytesV rest) ∧ (∀ b ∈ rest, b < 256) ∧ rest.length ≤ 1048576 ∧
    wr.ownsRow w.heap.size 9 1 u j (ss.map .string) ∧ whole = (getStrs (c - j) rest).map (fun x => (ss ++ x.1, x.2)) ∧ From w wr

set_option maxHeartbeats 1000000 in
theorem get_any (v : Value) (l : List Nat) (hl : ∀ b ∈ l, b < 256) (w : World) (hr : RowC w v (bytesV l)) :
    Calls Tryd.prog 14 #[v] w fun e w' => GotB w w' e (getB l) ∧ From w w' := by
  obtain ⟨A, cap, rfl, hc1, hc2, _⟩ := hr.parts
  rw [bytesV_length] at hc1 hr ⊢
  obtain ⟨i0, hi0, hz0, hz1, hz2⟩ := info_parts str_info
  by_cases hbig : 1048576 < l.length
  · have hd : decide ((1048576 : Int) < (l.length : Int)) = true := by simp; omega
    have hn : getB l = none := by unfold getB; rw [if_pos hbig]
    have HN := Lib.hid hn
    clear hn
    go_enter Tryd.func14, Tryd.ntmps14
    go_wp2
    go_ret2
    rw [HN.out]
    exact ⟨rfl, From.rfl_⟩
  have hd : decide ((1048576 : Int) < (l.length : Int)) = false := by simp; omega
  have hget := getnum_any _ l hl w hr
  rcases hg : getNum l with _ | ⟨c, k⟩
  · rw [hg] at hget
    simp only [gotV] at hget
    have hn : getB l = none := by unfold getB; rw [if_neg hbig, hg]
    have HN := Lib.hid hn
    have HG := Lib.hid hget
    clear hn hg hget
    go_enter Tryd.func14, Tryd.ntmps14
    go_wp2_with (go_at_call 21; (with_reducible refine HG.out.mono ?_); rintro e w1 ⟨rfl, rfl⟩)
    go_ret2
    rw [HN.out]
    exact ⟨rfl, From.rfl_⟩
  rw [hg] at hget
  simp only [gotV] at hget
  have hk := getNum_bound hl hg
  by_cases hcl : l.length < c
  · have hd2 : decide ((l.length : Int) < (c : Int)) = true := by simp; omega
    have hn : getB l = none := by unfold getB; rw [if_neg hbig, hg]; simp only; rw [if_pos hcl]
    have HN := Lib.hid hn
    have HG := Lib.hid hget
    clear hn hg hget
    go_enter Tryd.func14, Tryd.ntmps14
    go_wp2_with (go_at_call 21; (with_reducible refine HG.out.mono ?_); rintro e w1 ⟨rfl, rfl⟩)
    go_ret2
    rw [HN.out]
    exact ⟨rfl, From.rfl_⟩
  have hd2 : decide ((l.length : Int) < (c : Int)) = false := by simp; omega
  have hB : getB l = match getStrs c (l.drop k) with | some (ss, []) => some ss | _ => none := by unfold getB; rw [if_neg hbig, hg]; simp only; rw [if_neg hcl]; (first | done | rfl)
  have hrest := hr.rest (k := k) (by rw [bytesV_length]; omega)
  have hdrop : (bytesV l).drop k = bytesV (l.drop k) := by simp [bytesV, List.map_drop]
  rw [hdrop] at hrest
  have hra : (if cap = k then A else Option.map (fun x => x.add k) A) = restA A cap k := rfl
  have j1 : (0 : Int) ≤ (k : Int) := by omega
  have j2 : (k : Int) ≤ (l.length : Int) := by omega
  have j3 : (k : Int) ≤ (cap : Int) := by omega
  have HB := Lib.hid hB
  have HG := Lib.hid hget
  clear hB hg hget
  have hck : c ≤ 1048576 := by omega
  go_enter Tryd.func14, Tryd.ntmps14
  go_wp2_with (first
    | (go_at_call 21; (with_reducible refine HG.out.mono ?_); rintro e w1 ⟨rfl, rfl⟩)
    | (refine wpList_make_own (P := Tryd.prog) _ rfl _ _ _ rfl w.heap.size 9 i0 _ 1 Tryd.underlying39 hi0 hz0 hz1 .i64 .i64 _ c rfl rfl rfl (by rw [hz2]; omega) (by unfold maxLen; omega) (Nat.le_refl _) ?_; intro w1 hown1 hg1))
  have hw1 : From w w1 := From.rfl_.grew hg1 (fun k hk => by cases hk)
  go_loopw [0, 7, 34] (GetRel w c (getStrs c (l.drop k))) (fun _ _ i _ => c - (intOf i).toNat)
  case atStart => exact ⟨0, [], l.drop k, rfl, by omega, hrest, fun b hb => hl b (List.mem_of_mem_drop hb), by rw [List.length_drop]; omega, by simpa using hown1, by simp, hw1⟩
  case round =>
    rename_i vb u _ _
    obtain ⟨j, ss, rest, rfl, hj, hrow, hrb, hrl, hown, hwhole, hw⟩ := hrel
    clear hrest hra hown1 hg1 hr
    obtain ⟨A2, cap2, rfl, hcc1, hcc2, _⟩ := hrow.parts
    rw [bytesV_length] at hcc1 hrow ⊢
    have hgetr := fun w' (h : From w w') => getnum_any _ rest hrb w' (hrow.from_ h)
    by_cases hlt : j < c
    · have hd3 : decide ((j : Int) < (c : Int)) = true := by simp; omega
      obtain ⟨d, hd4⟩ : ∃ d, c - j = d + 1 := ⟨c - j - 1, by omega⟩
      rw [hd4] at hwhole
      simp only [getStrs] at hwhole
      rcases hgr : getNum rest with _ | ⟨n, q⟩
      · rw [hgr] at hgetr hwhole
        simp only [gotV] at hgetr
        have hB : getB l = none := by rw [HB.out, hwhole]; rfl
        have H1 := Lib.hid hgetr
        have HN := Lib.hid hB
        clear hgetr hgr hwhole hown hB
        go_wp2_with (go_at_call 21; (with_reducible refine (H1.out _ hw).mono ?_); rintro e w2 ⟨rfl, rfl⟩)
        go_ret2
        rw [HN.out]
        exact ⟨rfl, hw⟩
      have hq := getNum_bound hrb hgr
      rw [hgr] at hgetr hwhole
      simp only [gotV] at hgetr hwhole
      by_cases hbad : rest.length - q < n
      · rw [if_pos hbad] at hwhole
        have hd5 : decide ((rest.length : Int) - (q : Int) < (n : Int)) = true := by simp; omega
        have hB : getB l = none := by rw [HB.out, hwhole]; rfl
        have H1 := Lib.hid hgetr
        have HN := Lib.hid hB
        clear hgetr hgr hwhole hown hB
        go_wp2_with (go_at_call 21; (with_reducible refine (H1.out _ hw).mono ?_); rintro e w2 ⟨rfl, rfl⟩)
        go_ret2
        rw [HN.out]
        exact ⟨rfl, hw⟩
      · rw [if_neg hbad] at hwhole
        have hd5 : decide ((rest.length : Int) - (q : Int) < (n : Int)) = false := by simp; omega
        obtain ⟨p, hp⟩ : ∃ p, p = q + n := ⟨_, rfl⟩
        have hsum : (q : Int) + (n : Int) = (p : Int) := by omega
        have hpl : p ≤ rest.length := by omega
        have hqp : q ≤ p := by omega
        have hcut := (hrow.cut (k := p) (by rw [bytesV_length]; omega)).rest (k := q) (by rw [List.length_take, bytesV_length]; omega)
        have hpart : ((bytesV rest).take p).drop q = bytesV ((rest.drop q).take n) := by
          have : p - q = n := by omega
          simp only [bytesV]
          rw [List.drop_take, this, List.map_take, List.map_drop]
        have hsub : p - q = n := by omega
        rw [hpart, hsub] at hcut
        have hconv := fun w' (h : From w w') => conv_str Tryd.underlying23 Tryd.underlying5 Tryd.underlying9 (fun b hb => hrb b (List.mem_of_mem_drop (List.mem_of_mem_take hb))) (hcut.from_ h)
        have hnext := hrow.rest (k := p) (by rw [bytesV_length]; omega)
        have hnd : (bytesV rest).drop p = bytesV (rest.drop p) := by simp [bytesV, List.map_drop]
        rw [hnd] at hnext
        have hra1 : (if cap2 = q then A2 else Option.map (fun x => x.add q) A2) = restA A2 cap2 q := rfl
        have hra2 : (if cap2 = p then A2 else Option.map (fun x => x.add p) A2) = restA A2 cap2 p := rfl
        have k1 : (0 : Int) ≤ (q : Int) := by omega
        have k2 : (q : Int) ≤ (p : Int) := by omega
        have k3 : (p : Int) ≤ (cap2 : Int) := by omega
        have k4 : (p : Int) ≤ (rest.length : Int) := by omega
        have H1 := Lib.hid hgetr
        have HW := Lib.hid (And.intro hwhole hp)
        have hr1 : (j + 1) * 16 ≤ 140737488355328 := by omega
        have hr2 : j + 1 ≤ maxLen := by unfold maxLen; omega
        have HO := Lib.hid hown
        clear hgetr hgr hwhole hp hown hpart hcut hnd
        go_wp2_with (first
          | (go_at_call 21; (with_reducible refine (H1.out _ hw).mono ?_); rintro e w2 ⟨rfl, rfl⟩)
          | (at_builtin; refine wpList_push w rfl (.tmp 52) (.tmp 60) 39 rfl 9 i0 _ 16 Tryd.underlying39 hi0 hz0 hz1 hz2 rfl _ _ _ rfl HO.out hw rfl rfl hr1 hr2 ?_; intro v3 w3 hown3 hw3))
        go_roundw
        case rel =>
          refine ⟨j + 1, ss ++ [strOf ((rest.drop q).take n)], rest.drop p, by go_num, by omega, hnext, fun b hb => hrb b (List.mem_of_mem_drop hb), by rw [List.length_drop]; omega, ?_, ?_, hw3⟩
          · rw [List.map_append]
            exact hown3
          · rw [HW.out.1, HW.out.2, show c - (j + 1) = d by omega]
            cases getStrs d (List.drop (q + n) rest) <;> simp
        case measure => simp [intOf]; omega
    · have hd3 : decide ((j : Int) < (c : Int)) = false := by simp; omega
      rw [show c - j = 0 by omega] at hwhole
      simp only [getStrs, Option.map_some, List.append_nil] at hwhole
      have hsl : ss.length = j := by simpa using hown.1
      have HW := Lib.hid (And.intro hwhole hsl)
      have HO := Lib.hid hown
      clear hwhole hown hgetr hsl
      by_cases hend : 0 < rest.length
      · have hd6 : decide ((0 : Int) < (rest.length : Int)) = true := by simp; omega
        have hB : getB l = none := by
          rw [HB.out, HW.out.1]
          cases rest with
          | nil => simp at hend
          | cons x t => rfl
        have HN := Lib.hid hB
        clear hB
        go_wp2
        go_ret2
        rw [HN.out]
        exact ⟨rfl, hw⟩
      · have hd6 : decide ((0 : Int) < (rest.length : Int)) = false := decide_eq_false (by omega)
        have hB : getB l = some ss := by
          rw [HB.out, HW.out.1]
          cases rest with
          | nil => rfl
          | cons x t => simp at hend
        have HN := Lib.hid hB
        clear hB
        go_wp2
        go_ret2
        rw [HN.out]
        exact ⟨⟨_, rfl, by rw [HW.out.2]; exact HO.out⟩, hw⟩

end Go.Proofs.YtglndihdhaaccaaDoor

namespace Go.Proofs.YtglndihdhaaccaaDoor
open Go.RowKit

/-- a result is read as v -/
structure RV (P : Program) (n : Fr) (L : List (Nat × Value)) (w : World) (r : ResultVar) (v : Value) : Prop where
  out : match r with
    | .tmp t => (mkT n.n L)[t]?.getD undef = v
    | .cell a t => ∃ ad, (mkT n.n L)[a]?.getD undef = .pointer (some ad) ∧ (loadVar t ad).run P w = .ok v w
section
variable {P : Program} {n : Fr} {L : List (Nat × Value)} {w : World} {fn : Func}
theorem ev_at {t : Nat} {v : Value} (h : ev n L (.tmp t) = v) : (mkT n.n L)[t]?.getD undef = v := by
  have := getD_mkT n.n L t
  rw [← Array.getD_eq_getD_getElem?, this]
  exact h
theorem rv_tmp {t : Nat} {v : Value} (h : ev n L (.tmp t) = v) : RV P n L w (.tmp t) v := ⟨ev_at h⟩
theorem rv_cellA {t ty b off : Nat} {cs : List Value} (ht : aggQ P ty = some true) (hs : sizeQ P ty = some cs.length) (hx : ev n L (.tmp t) = .pointer (some ⟨b, off, none⟩)) (hc : w.rangeAt b off cs) : RV P n L w (.cell t ty) (.agg cs.toArray) := ⟨_, ev_at hx, by
  have hl : (loadCells ⟨b, off, none⟩ cs.length).run P w = .ok cs.toArray w :=
    run_loadCells_list (P := P) w ⟨b, off, none⟩ cs (fun j v hv => by rw [Addr.add_mid]; exact hc j v hv)
  simp [loadVar, isAgg_of ht, sizeOf_of hs, hl]⟩
theorem ro_eq {ρ : Operand → Value} {op : Op} {w' : World} {v v' : Value} (h : RO P ρ op w v w') (he : v = v') : RO P ρ op w v' w' := he ▸ h
theorem ro_bt {ρ : Operand → Value} {op : Op} {w' : World} {b : Bool} (h : RO P ρ op w (.bool b) w') (he : b = true) : RO P ρ op w (.bool true) w' := he ▸ h
theorem ro_bf {ρ : Operand → Value} {op : Op} {w' : World} {b : Bool} (h : RO P ρ op w (.bool b) w') (he : b = false) : RO P ρ op w (.bool false) w' := he ▸ h
def restOf (A : Option Addr) (c l sz : Nat) : Option Addr := if c = l then A else A.map fun x => x.add (l * sz)
/-- a piece of any slice; the bounds are integers that are casts -/
theorem ro_sliceO {ρ : Operand → Value} {x : Operand} {t e sz l h m c : Nat} {A : Option Addr} (ht : elemQ P t = some (e, sz)) {lo hi : Option Operand} (hx : ρ x = .slice A m c)
    (hl : (lo = none ∧ l = 0) ∨ ∃ y k i, lo = some y ∧ ρ y = .int k i ∧ i = (l : Int)) (hh : (hi = none ∧ h = m) ∨ ∃ y k i, hi = some y ∧ ρ y = .int k i ∧ i = (h : Int)) (h1 : l ≤ h) (h2 : h ≤ c) :
    RO P ρ (.slice t x lo hi none) w (.slice (restOf A c l sz) (h - l) (c - l)) w := fun _ _ _ _ _ => by
  obtain ⟨hu, hs⟩ := elem_of ht
  have hE : P.elem t = e := by simp [Program.elem, hu]
  have hu' : P.underlying t = some (.slice (P.elem t)) := by rw [hE]; exact hu
  have fin : (Result.ok (sliced A l h c sz) w : Result Value) = .ok (.slice (restOf A c l sz) (h - l) (c - l)) w := by
    simp only [sliced, restOf]
  rcases hl with ⟨rfl, rfl⟩ | ⟨y1, k1, _, rfl, hy1, rfl⟩ <;> rcases hh with ⟨rfl, rfl⟩ | ⟨y2, k2, _, rfl, hy2, rfl⟩
  · simp only [execOp, hx, Option.map_none, Sem.run_bind]
    rw [run_sliceAt_slice w t _ _ _ _ hu', run_slice_all w t _ _ c hu', hE, sizeOf_of hs, Result.andThen_ok, fin]; rfl
  · simp only [execOp, hx, hy2, Option.map_none, Option.map_some, Sem.run_bind]
    rw [run_sliceAt_slice w t _ _ _ _ hu', run_slice_h w t _ m c hu' k2 (h : Int) (by omega) (by omega), hE, sizeOf_of hs, Result.andThen_ok, Int.toNat_natCast, fin]; rfl
  · simp only [execOp, hx, hy1, Option.map_none, Option.map_some, Sem.run_bind]
    rw [run_sliceAt_slice w t _ _ _ _ hu', run_slice_l w t _ _ c hu' k1 (l : Int) (by omega) (by omega), hE, sizeOf_of hs, Result.andThen_ok, Int.toNat_natCast, fin]; rfl
  · simp only [execOp, hx, hy1, hy2, Option.map_none, Option.map_some, Sem.run_bind]
    rw [run_sliceAt_slice w t _ _ _ _ hu', run_slice_lh w t _ m c hu' k1 k2 (l : Int) (h : Int) (by omega) (by omega) (by omega), hE, sizeOf_of hs, Result.andThen_ok, Int.toNat_natCast, Int.toNat_natCast, fin]; rfl
theorem resr1 {m : Nat} {r : ResultVar} {R : Value → World → Prop} {v : Value} (hr : fn.results = #[r]) (h1 : RV P ⟨m, []⟩ L w r v) (h : R v w) :
    bodyPost P fn (fun e w' => ∃ v, e = .returned v ∧ R v w') .ret (mkA ⟨m, []⟩ L) w := by
  refine bodyPost_ret (v := v) ?_ rfl ⟨v, rfl, h⟩
  have e1 := h1.out
  show (results fn (mkT m L)).run P w = _
  cases r <;> simp_all only [] <;> (try obtain ⟨_, _, _⟩ := e1) <;> simp_all [results, asAddr]
theorem resr3 {m : Nat} {r r' r'' : ResultVar} {R : Value → World → Prop} {v v' v'' : Value} (hr : fn.results = #[r, r', r'']) (h1 : RV P ⟨m, []⟩ L w r v) (h2 : RV P ⟨m, []⟩ L w r' v') (h3 : RV P ⟨m, []⟩ L w r'' v'') (h : R (.tuple #[v, v', v'']) w) :
    bodyPost P fn (fun e w' => ∃ v, e = .returned v ∧ R v w') .ret (mkA ⟨m, []⟩ L) w := by
  refine bodyPost_ret (v := .tuple #[v, v', v'']) ?_ rfl ⟨_, rfl, h⟩
  have e1 := h1.out
  have e2 := h2.out
  have e3 := h3.out
  show (results fn (mkT m L)).run P w = _
  cases r <;> cases r' <;> cases r'' <;> simp_all only [] <;> (try obtain ⟨_, _, _⟩ := e1) <;> (try obtain ⟨_, _, _⟩ := e2) <;> (try obtain ⟨_, _, _⟩ := e3) <;> simp_all [results, asAddr]
end
end Go.Proofs.YtglndihdhaaccaaDoor

namespace Go.Proofs.YtglndihdhaaccaaDoor
open Go.RowKit

/-- a panic speaks of no slot -/
structure PQ (Q : Exit → Act → World → Prop) : Prop where
  out : ∀ (d : Option Nat) (v : Value) (c : List PanicEntry) (a : Act) (w : World), Q (.panic c) (a.put d v) w → Q (.panic c) a w
theorem pq_then {K : Act → World → Prop} {Q : Exit → Act → World → Prop} (h : PQ Q) : PQ (Exit.then K Q) := ⟨fun d v c a w hq => h.out d v c a w hq⟩
theorem pq_block {id : Nat} {Q : Exit → Act → World → Prop} (h : PQ Q) : PQ (Exit.inBlock id Q) := ⟨fun d v c a w hq => h.out d v c a w hq⟩
theorem pq_body {P : Program} {fn : Func} {R : Ending → World → Prop} : PQ (bodyPost P fn R) := ⟨fun d v c a w hq => by
  cases d with
  | none => exact hq
  | some d => exact hq⟩

/-- operations that reckon without memory -/
def lateK : Op → Bool | .move _ => true | .assign _ => true | .extract _ _ => true | _ => false
theorem late_run {P : Program} {ρ : Operand → Value} {o : Oper} (h : lateK o.op = true) {w w' : World} {r : Next} (hr : (execOp ρ o).run P w = .ok r w') : w' = w ∧ ∀ w2, (execOp ρ o).run P w2 = .ok r w2 := by
  obtain ⟨dst, op, ty, pos, after, guard⟩ := o
  cases op <;> simp only [lateK, Bool.false_eq_true] at h
  · simp only [execOp, Sem.run_pure, Result.ok.injEq] at hr ⊢
    exact ⟨hr.2.symm, fun w2 => ⟨hr.1, trivial⟩⟩
  · simp only [execOp, Sem.run_pure, Result.ok.injEq] at hr ⊢
    exact ⟨hr.2.symm, fun w2 => ⟨hr.1, trivial⟩⟩
  · rename_i x i
    simp only [execOp, Sem.run_bind] at hr ⊢
    cases hx : ρ x <;> simp only [hx, Instr.extract] at hr ⊢ <;> (try (simp at hr; done))
    rename_i vs
    cases hv : vs[i]? <;> simp [hv] at hr ⊢
    exact ⟨hr.2.symm, hr.1⟩

def isLate (l : List Oper) (K j : Nat) : Bool := (List.range l.length).any fun i => decide (K ≤ i) && (match l[i]? with | some o => !hasEdge o j | none => false)
def lateB (l : List Oper) (K : Nat) : Bool :=
  (List.range K).all fun j => !isLate l K j || match l[j]? with
    | none => false
    | some o => lateK o.op && o.guard.isNone && o.dst.isSome && (List.range l.length).all fun i => i == j || match l[i]? with
      | none => false
      | some y => (if i < K then !isLate l K i else hasEdge y j) || o.apart l.toArray y
/-- the region's shape -/
def monoL (l : List Oper) (K : Nat) : Bool :=
  let ops := l.toArray
  let dst (i : Nat) : Option Nat := (l[i]?).bind (·.dst)
  (decide (K ≤ l.length) &&
  (List.range l.length).all fun i => match l[i]? with
    | none => false
    | some o =>
      (o.after.toList.all fun e => !Region.binds .any e || decide (e.on < i)) && !isSelect o.op &&
      (if i < K then
        (match o.dst with
         | none => false
         | some d => (List.range K).all (fun j => j == i || dst j != some d) && !((o.looksAt ops).elem d)) &&
        (List.range K).all (fun j => match dst j with
          | none => false
          | some d => !(o.looksAt ops).elem d || (decide (j < i) && hasEdge o j))
       else (List.range i).all (fun j => hasEdge o j || decide (j < K)))) && lateB l K

section late
variable {P : Program} {Q : Exit → Act → World → Prop} {n : Fr} {L : List (Nat × Value)} {w : World} {l : List Oper} {K : Nat} {R : Nat → Value → World → Prop}
/-- values that are still to be put -/
def pend (l : List Oper) (f : Nat → Value) : List Nat → Act → Act
  | [], a => a
  | i :: r, a => (pend l f r a).put ((l[i]?).bind (·.dst)) (f i)
theorem pend_put {f : Nat → Value} {x : Option Nat} {v : Value} : ∀ (U : List Nat) (a : Act), (∀ i ∈ U, ∀ d, x = some d → (l[i]?).bind (·.dst) ≠ some d) → pend l f U (a.put x v) = (pend l f U a).put x v
  | [], _, _ => rfl
  | i :: r, a, h => by
    show (pend l f r (a.put x v)).put _ _ = ((pend l f r a).put _ _).put _ _
    rw [pend_put r a (fun j hj => h j (List.mem_cons_of_mem _ hj))]
    exact Act.put_comm _ _ _ (h i (List.mem_cons_self ..))
theorem pend_erase {f : Nat → Value} {i : Nat} : ∀ (U : List Nat) (a : Act), i ∈ U → U.Nodup → (∀ j ∈ U, j ≠ i → ∀ d, (l[i]?).bind (·.dst) = some d → (l[j]?).bind (·.dst) ≠ some d) → pend l f (U.erase i) (a.put ((l[i]?).bind (·.dst)) (f i)) = pend l f U a
  | [], _, h, _, _ => by cases h
  | j :: r, a, h, hn, hd => by
    obtain ⟨hn1, hn2⟩ := List.nodup_cons.1 hn
    by_cases e : j = i
    · subst e
      rw [List.erase_cons_head]
      exact pend_put r a (fun k hk => hd k (List.mem_cons_of_mem _ hk) (fun e => hn1 (e ▸ hk)))
    · rw [List.erase_cons_tail (by simpa using e)]
      show (pend l f (r.erase i) _).put _ _ = (pend l f r a).put _ _
      rw [pend_erase r a ((List.mem_cons.1 h).resolve_left (fun h => e h.symm)) hn2 (fun k hk => hd k (List.mem_cons_of_mem _ hk))]
theorem yields_put {o y : Oper} {v u : Value} {a : Act} (hs : isSelect o.op = false) (hap : o.apart l.toArray y = true) : Yields P l.toArray o v (a.put y.dst u) ↔ Yields P l.toArray o v a := by
  have h3 := (Oper.apart_spec hap).2.2
  have hs' : ∀ cs b, o.op ≠ .select cs b := fun cs b e => by rw [e] at hs; simp [isSelect] at hs
  exact ⟨fun h => h.of_same (execOp_put o hs' a y.dst u h3).symm (wanted_put o a y.dst u h3).symm, fun h => h.of_same (execOp_put o hs' a y.dst u h3) (wanted_put o a y.dst u h3)⟩
theorem yields_pend {f : Nat → Value} {o : Oper} {v : Value} (hs : isSelect o.op = false) : ∀ (U : List Nat) (a : Act), (∀ i ∈ U, ∃ y, l[i]? = some y ∧ o.apart l.toArray y = true) → (Yields P l.toArray o v (pend l f U a) ↔ Yields P l.toArray o v a)
  | [], _, _ => Iff.rfl
  | i :: r, a, h => by
    obtain ⟨y, hy, hap⟩ := h i (List.mem_cons_self ..)
    show Yields P l.toArray o v ((pend l f r a).put _ _) ↔ _
    rw [hy]
    exact (yields_put hs hap).trans (yields_pend hs r a (fun j hj => h j (List.mem_cons_of_mem _ hj)))
theorem wpOp_pend (hQ : PQ Q) {f : Nat → Value} {k : Nat} {o : Oper} (ho : l[k]? = some o) (hs : isSelect o.op = false) : ∀ (U : List Nat) (Kk : Act → World → Prop) (a : Act), U.Nodup →
    (∀ i ∈ U, ∃ y, l[i]? = some y ∧ isSelect y.op = false ∧ y.apart l.toArray o = true ∧ Yields P l.toArray y (f i) a ∧ ∀ j ∈ U, j ≠ i → ∃ z, l[j]? = some z ∧ y.apart l.toArray z = true) →
    wpOp P l.toArray Q k Kk (pend l f U a) w → wpOp P l.toArray Q k (fun a' w' => (∀ i ∈ U, ∀ y, l[i]? = some y → Yields P l.toArray y (f i) a') ∧ Kk (pend l f U a') w') a w
  | [], Kk, a, _, _, h => wpOp_mono (fun a w h => ⟨by simp, h⟩) h
  | i :: r, Kk, a, hn, hU, h => by
    obtain ⟨hn1, hn2⟩ := List.nodup_cons.1 hn
    obtain ⟨y, hy, hsy, hap, hyl, hoth⟩ := hU i (List.mem_cons_self ..)
    have hr : ∀ j ∈ r, ∃ z, l[j]? = some z ∧ y.apart l.toArray z = true := fun j hj => hoth j (List.mem_cons_of_mem _ hj) (fun e => hn1 (e ▸ hj))
    have hsel : ∀ {x : Oper}, isSelect x.op = false → ∀ cs b, x.op ≠ .select cs b := fun hs cs b e => by rw [e] at hs; simp [isSelect] at hs
    have e0 : pend l f (i :: r) a = (pend l f r a).put y.dst (f i) := by
      show (pend l f r a).put _ _ = _
      rw [hy]; rfl
    rw [e0] at h
    have h1 := wpOp_put (P := P) (ops := l.toArray) (by rw [List.getElem?_toArray]; exact ho) hap (hsel hsy) (hsel hs) (fun c a w => hQ.out _ _ c a w) ((yields_pend hsy r a hr).2 hyl) h
    have h2 := wpOp_pend hQ ho hs r _ a hn2 (fun j hj => by
      obtain ⟨z, h1, h2, h3, h4, h5⟩ := hU j (List.mem_cons_of_mem _ hj)
      exact ⟨z, h1, h2, h3, h4, fun k hk => h5 k (List.mem_cons_of_mem _ hk)⟩) h1
    refine wpOp_mono (fun a' w' hh => ?_) h2
    obtain ⟨g1, g2, g3⟩ := hh
    refine ⟨fun j hj z hz => ?_, ?_⟩
    · rcases List.mem_cons.1 hj with rfl | hj
      · rw [hy] at hz
        cases hz
        exact (yields_pend hsy r a' hr).1 g2
      · exact g1 j hj z hz
    · show Kk ((pend l f r a').put _ _) w'
      rw [hy]
      exact g3
theorem pend_mkA {f : Nat → Value} : ∀ (U : List Nat) (L' : List (Nat × Value)), pend l f U (mkA n L') = mkA n ((U.filterMap fun i => ((l[i]?).bind (·.dst)).map fun d => (d, f i)) ++ L')
  | [], _ => rfl
  | i :: r, L' => by
    show (pend l f r (mkA n L')).put _ _ = _
    rw [pend_mkA r L', List.filterMap_cons]
    cases hd : (l[i]?).bind (·.dst) with
    | none => rfl
    | some d =>
      rw [put_mkA]
      rfl
theorem look_pend {f : Nat → Value} {L' : List (Nat × Value)} {t : Nat} : ∀ (U : List Nat), (∀ i ∈ U, (l[i]?).bind (·.dst) ≠ some t) → look ((U.filterMap fun i => ((l[i]?).bind (·.dst)).map fun d => (d, f i)) ++ L') t = look L' t
  | [], _ => rfl
  | i :: r, h => by
    rw [List.filterMap_cons]
    have h1 := h i (List.mem_cons_self ..)
    cases hd : (l[i]?).bind (·.dst) with
    | none => exact look_pend r (fun j hj => h j (List.mem_cons_of_mem _ hj))
    | some d =>
      simp only [Option.map_some, List.cons_append]
      rw [look_cons, if_neg (fun e => h1 (by rw [hd, e]))]
      exact look_pend r (fun j hj => h j (List.mem_cons_of_mem _ hj))
theorem look_pend_at {f : Nat → Value} {L' : List (Nat × Value)} {i d : Nat} : ∀ (U : List Nat), i ∈ U → (l[i]?).bind (·.dst) = some d → (∀ j ∈ U, j ≠ i → (l[j]?).bind (·.dst) ≠ some d) → look ((U.filterMap fun i => ((l[i]?).bind (·.dst)).map fun d => (d, f i)) ++ L') d = f i
  | [], h, _, _ => by cases h
  | j :: r, h, hd, hne => by
    rw [List.filterMap_cons]
    by_cases e : j = i
    · subst e
      rw [hd]
      simp only [Option.map_some, List.cons_append]
      rw [look_cons, if_pos rfl]
    · have h1 := hne j (List.mem_cons_self ..) e
      have ih := look_pend_at (f := f) (L' := L') r ((List.mem_cons.1 h).resolve_left (fun h => e h.symm)) hd (fun k hk => hne k (List.mem_cons_of_mem _ hk))
      cases hdj : (l[j]?).bind (·.dst) with
      | none => exact ih
      | some d' =>
        simp only [Option.map_some, List.cons_append]
        rw [look_cons, if_neg (fun e => h1 (by rw [hdj, e]))]
        exact ih
end late
end Go.Proofs.YtglndihdhaaccaaDoor
