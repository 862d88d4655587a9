/- WHAT A SLICE READS AS, by its address; blocks that stay. -/
import Derived.Test.YtjliefglelcooaaDoorProg
import Derived.WalkKit
import Derived.WalkSpells
import Derived.WalkLawsBesides
import Derived.Deep.QuietTactic
import Derived.BigQuiet
import Derived.Lib.Hide
import Derived.Deep.RegionHeld3
import Derived.Deep.LoopGhost
import Derived.OwnWalk
import Derived.KernelRfl
import Derived.Deep.Slices
import Derived.Lib.AppendZeros
import Derived.Laws.AppendOwnNone
import Derived.Handy
import Derived.Lib.BufferMore
import Derived.Still
import Derived.Deep.Draws
import Derived.Deep.MidRow
import Derived.Great.BuildSlice
namespace Go.Proofs.YtjliefglelcooaaDoor
open Go.RowKit

/-- all that was there in a is in w as it was -/
abbrev From (a w : World) : Prop := Below a.heap.size a w

section
variable {a b w w' : World}
theorem From.rfl_ : From a a := Below.refl _ _
theorem From.new (h : From a w) (o : Obj) : From a (w.alloc o) := Below.alloc h h.size o
theorem From.dn (h : From a w) (n : Nat) : From a (w.drewN n) := below_drewN h n
theorem From.d1 (h : From a w) : From a w.drew := Below.drew h
theorem From.next (h : From a w) (k : From w w') : From a w' := Below.trans h (Below.mono k h.size)
theorem From.set_ (h : From a w) {p : Addr} (hp : a.heap.size ≤ p.block) (u : Value) : From a (w.setCell p u) := Below.setCell h hp u
theorem From.grew (h : From a w) {row : Option Nat} (hg : w.grownBy w' row) (hr : ∀ k, row = some k → a.heap.size ≤ k) : From a w' := Below.grown h hg h.size hr
theorem From.cells (h : From a w) : ∀ k o, k < a.heap.size → w.cell? ⟨k, o, none⟩ = a.cell? ⟨k, o, none⟩ := fun k o hk => Below.cell (p := ⟨k, o, none⟩) h hk
end

theorem ret_int {k : IntKind} {a b : Int} (h : a = b) : Ending.returned (.int k a) = .returned (.int k b) := by rw [h]

/-- a block that is known whole -/
def Blk (w : World) (g : Nat) (t : TypeId) (cs : Array Value) : Prop := w.heap[g]? = some (.cells cs t (0, 0))
section
variable {w w' : World} {g : Nat} {t : TypeId} {cs : Array Value}
theorem Blk.lt (h : Blk w g t cs) : g < w.heap.size := by
  rcases Nat.lt_or_ge g w.heap.size with hlt | hge
  · exact hlt
  · unfold Blk at h; rw [Array.getElem?_eq_none hge] at h; cases h
theorem Blk.cell (h : Blk w g t cs) (i : Nat) : w.cell? ⟨g, i, none⟩ = cs[i]? := cell_of_row w g i cs t (0, 0) h
theorem Blk.frozen (h : Blk w g t cs) (i : Nat) : w.frozen? ⟨g, i, none⟩ = false := by
  unfold Blk at h
  simp [World.frozen?, h]
theorem Blk.new (w : World) (t : TypeId) (cs : Array Value) : Blk (w.alloc (.cells cs t)) w.heap.size t cs := heap_alloc_new w _
theorem Blk.drewN (h : Blk w g t cs) (n : Nat) : Blk (w.drewN n) g t cs := h
theorem Blk.alloc (h : Blk w g t cs) (o : Obj) : Blk (w.alloc o) g t cs := (Below.heap_alloc w o g h.lt).trans h
theorem Blk.set_ (h : Blk w g t cs) (i : Nat) (u : Value) : Blk (w.setCell ⟨g, i, none⟩ u) g t (cs.setIfInBounds i u) := by
  unfold Blk at h ⊢
  simp [World.setCell, Array.getElem?_modify, h]
theorem Blk.far (h : Blk w g t cs) {p : Addr} (hp : g ≠ p.block) (u : Value) : Blk (w.setCell p u) g t cs := (Below.heap_setCell w p u g hp).trans h
theorem Blk.below {B : Nat} (h : Blk w g t cs) (hb : Below B w w') (hg : g < B) : Blk w' g t cs := (hb.block g hg).trans h
theorem Blk.from_ (h : Blk w g t cs) (hb : From w w') : Blk w' g t cs := h.below hb h.lt
end

/-- the slice value v reads as these one-cell values -/
def Row (w : World) (v : Value) (vs : List Value) : Prop :=
  ∃ (A : Option Addr) (cap : Nat), v = .slice A vs.length cap ∧ (0 < vs.length → ∃ b o, A = some ⟨b, o, none⟩ ∧ b < w.heap.size ∧ ∀ i u, vs[i]? = some u → w.cell? ⟨b, o + i, none⟩ = some u)
theorem Row.from_ {w w' : World} {v : Value} {vs : List Value} (h : Row w v vs) (hw : From w w') : Row w' v vs := by
  obtain ⟨A, cap, hv, hp⟩ := h
  refine ⟨A, cap, hv, fun h0 => ?_⟩
  obtain ⟨b, o, hA, hb, hc⟩ := hp h0
  exact ⟨b, o, hA, Nat.lt_of_lt_of_le hb hw.size, fun i u hu => (hw.cells _ _ hb).trans (hc i u hu)⟩
theorem Row.nil_ (w : World) : Row w (.slice none 0 0) [] := ⟨none, 0, rfl, fun h => absurd h (by simp)⟩
theorem Row.of_own {w : World} {base : Nat} {e : TypeId} {v : Value} {n : Nat} {xs : List Value} (h : w.ownsRow base e 1 v n xs) : Row w v xs := by
  have hl : xs.length = n := by simpa using h.1
  rcases h.2 with ⟨rfl, rfl⟩ | ⟨g, cap, cur, rfl, hg, hh, _⟩
  · have : xs = [] := List.eq_nil_of_length_eq_zero hl
    subst this
    exact Row.nil_ w
  · subst hl
    refine ⟨some ⟨g, 0, none⟩, cap, rfl, fun _ => ⟨g, 0, rfl, ?_, fun i u hu => ?_⟩⟩
    · rcases Nat.lt_or_ge g w.heap.size with hlt | hge
      · exact hlt
      · rw [Array.getElem?_eq_none hge] at hh; cases hh
    · have := h.cells (g := g) rfl i u hu
      rw [Addr.add_lit] at this
      exact this
theorem Row.blk {w : World} {g : Nat} {t : TypeId} {cs : Array Value} (h : Blk w g t cs) (cap : Nat) : Row w (.slice (some ⟨g, 0, none⟩) cs.size cap) cs.toList := by
  refine ⟨some ⟨g, 0, none⟩, cap, by simp, fun _ => ⟨g, 0, rfl, h.lt, fun i u hu => ?_⟩⟩
  rw [Nat.zero_add, h.cell i]
  simpa using hu

/-- the values that a slice value reads as, by index -/
theorem row_vals {α : Type} {f : α → Value} {w : World} {v : Value} {xs : List α} (hr : Row w v (xs.map f)) : ∃ A cap, v = .slice A xs.length cap ∧
    (0 < xs.length → ∃ b o, A = some ⟨b, o, none⟩ ∧ b < w.heap.size ∧ ∀ i (h : i < xs.length), w.cell? ⟨b, o + i, none⟩ = some (f xs[i])) := by
  obtain ⟨A, cap, rfl, hp⟩ := hr
  rw [List.length_map] at hp ⊢
  refine ⟨A, cap, rfl, fun h0 => ?_⟩
  obtain ⟨b, o, hA, hb, hc⟩ := hp h0
  refine ⟨b, o, hA, hb, fun i hi => hc i _ ?_⟩
  rw [List.getElem?_map, List.getElem?_eq_getElem hi]
  rfl

/-- append(s, u) onto a row of the call's own: the new one-cell block lies on top -/
theorem wpList_push {ops : Array Oper} {rest : List Oper} {o : Oper} {a : Act} {Q : Exit → Act → World → Prop} {wr : World} {u : Value} {te : TypeId} (a0 : World) (hgd : o.guard = none) (s x : Operand) (t : TypeId)
    (ho : o.op = .call { callee := .builtin .append, args := #[s, x], argTypes := #[t, t] }) (e : TypeId) (i : TypeInfo) (z : Value) (bytes : Nat)
    (ht : Tryd.prog.underlying t = some (.slice e)) (hi : Tryd.prog.info? e = some i) (hz : i.zero = some z) (hsize : i.size = 1) (hby : i.bytes = bytes) (hzs : z.cells.size = 1)
    (v : Value) (n : Nat) (xs : List Value) (hs : a.eval s = v) (hown : wr.ownsRow a0.heap.size e 1 v n xs) (hw : From a0 wr) (hx : a.eval x = .slice (some ⟨wr.heap.size, 0, none⟩) 1 1) (h1 : u.oneCell' = true)
    (hroom : (n + 1) * bytes ≤ 140737488355328) (hmax : n + 1 ≤ maxLen)
    (h : ∀ v' w', w'.ownsRow a0.heap.size e 1 v' (n + 1) (xs ++ [u]) → From a0 w' → wpList Tryd.prog ops Q rest (a.put o.dst v') w') : wpList Tryd.prog ops Q (o :: rest) a (wr.alloc (.cells #[u] te)) := by
  refine wpList_append_own (P := Tryd.prog) _ hgd s x t ho a0.heap.size e i z 1 bytes ht hi hz hsize hby hzs (by decide) v n xs hs (hown.alloc _) ⟨wr.heap.size, 0, none⟩ 1 1 [u] hx rfl ?_ ?_ hmax hroom ?_ ?_
  · intro j y hy
    cases j with
    | zero =>
      simp only [List.getElem?_cons_zero, Option.some.injEq] at hy
      subst hy
      rw [Addr.add_lit, (Blk.new wr te #[u]).cell]
      rfl
    | succ j => simp at hy
  · intro y hy
    simp only [List.mem_singleton] at hy
    subst hy
    exact h1
  · exact (hw.new _).size
  · intro v' w' hown' hg _
    exact h v' w' hown' ((hw.new _).grew hg (fun k hk => (hown.lt k hk).1))

theorem and1_i64 (x : Int) (h0 : 0 ≤ x) (h1 : x ≤ 9223372036854775807) : bits .and .i64 x 1 = x % 2 := by
  obtain ⟨a, rfl⟩ := Int.eq_ofNat_of_zero_le h0
  show IntKind.i64.wrap ((BitVec.ofInt 64 (a : Int) &&& BitVec.ofInt 64 1).toNat : Int) = _
  have e1 : (BitVec.ofInt 64 (a : Int)).toNat = a := by rw [BitVec.ofInt_natCast, BitVec.toNat_ofNat]; exact Nat.mod_eq_of_lt (by omega)
  have e2 : (BitVec.ofInt 64 1).toNat = 1 := rfl
  rw [BitVec.toNat_and, e1, e2, Nat.and_one_is_mod, IntKind.wrap_i64]
  omega

theorem own_form {w : World} {base : Nat} {e : TypeId} {size : Nat} {v : Value} {n : Nat} {xs : List Value} (h : w.ownsRow base e size v n xs) : ∃ A cap, v = .slice A n cap := by
  rcases h.2 with ⟨rfl, rfl⟩ | ⟨g, cap, cur, rfl, _⟩
  · exact ⟨none, 0, rfl⟩
  · exact ⟨_, cap, rfl⟩

theorem _root_.Go.World.ownsRow.kept_from {w w' : World} {base : Nat} {e : TypeId} {size : Nat} {v : Value} {n : Nat} {xs : List Value} (h : w.ownsRow base e size v n xs) (hw : From w w') : w'.ownsRow base e size v n xs := by
  refine ⟨h.1, ?_⟩
  rcases h.2 with h2 | ⟨g, cap, cur, hv, hg, hh, r⟩
  · exact .inl h2
  · refine .inr ⟨g, cap, cur, hv, hg, ?_, r⟩
    rw [hw.block g (by
      rcases Nat.lt_or_ge g w.heap.size with hlt | hge
      · exact hlt
      · rw [Array.getElem?_eq_none hge] at hh; cases hh)]
    exact hh
end Go.Proofs.YtjliefglelcooaaDoor

namespace Go.Proofs.YtjliefglelcooaaDoor

def RowC (w : World) (v : Value) (vs : List Value) : Prop := Row w v vs ∧ ∃ A cap, v = .slice A vs.length cap ∧ vs.length ≤ cap ∧ cap ≤ 9223372036854775807
theorem RowC.row {w : World} {v : Value} {vs : List Value} (h : RowC w v vs) : Row w v vs := h.1
theorem RowC.from_ {w w' : World} {v : Value} {vs : List Value} (h : RowC w v vs) (hw : From w w') : RowC w' v vs := ⟨h.1.from_ hw, h.2⟩
theorem RowC.nil_ (w : World) : RowC w (.slice none 0 0) [] := ⟨Row.nil_ w, none, 0, rfl, by simp, by decide⟩
theorem RowC.of_own {w : World} {base : Nat} {e : TypeId} {v : Value} {n : Nat} {xs : List Value} (h : w.ownsRow base e 1 v n xs) : RowC w v xs := by
  refine ⟨Row.of_own h, ?_⟩
  have hl : xs.length = n := by simpa using h.1
  rcases h.2 with ⟨rfl, rfl⟩ | ⟨g, cap, cur, rfl, hg, hh, h1, h2, _⟩
  · exact ⟨none, 0, by rw [hl], by omega, by decide⟩
  · exact ⟨_, cap, by rw [hl], by omega, by unfold maxLen at h2; omega⟩
theorem RowC.parts {w : World} {v : Value} {vs : List Value} (h : RowC w v vs) : ∃ A cap, v = .slice A vs.length cap ∧ vs.length ≤ cap ∧ cap ≤ 9223372036854775807 ∧ (0 < vs.length → ∃ b o, A = some ⟨b, o, none⟩ ∧ b < w.heap.size ∧ ∀ i u, vs[i]? = some u → w.cell? ⟨b, o + i, none⟩ = some u) := by
  obtain ⟨⟨A', c', hv', hp⟩, A, cap, rfl, h1, h2⟩ := h
  simp only [Value.slice.injEq] at hv'
  obtain ⟨rfl, -, rfl⟩ := hv'
  exact ⟨A, cap, rfl, h1, h2, hp⟩
theorem RowC.cut {w : World} {A : Option Addr} {n cap : Nat} {vs : List Value} (h : RowC w (.slice A n cap) vs) {k : Nat} (hk : k ≤ vs.length) : RowC w (.slice A k cap) (vs.take k) := by
  obtain ⟨A', c', hv, h1, h2, hp⟩ := h.parts
  simp only [Value.slice.injEq] at hv
  obtain ⟨rfl, rfl, rfl⟩ := hv
  have hlen : (vs.take k).length = k := by simp [Nat.min_eq_left hk]
  refine ⟨⟨A, cap, by rw [hlen], fun h0 => ?_⟩, A, cap, by rw [hlen], by omega, h2⟩
  rw [hlen] at h0
  obtain ⟨b, o, hA, hb, hc⟩ := hp (by omega)
  refine ⟨b, o, hA, hb, fun i u hu => hc i u ?_⟩
  rw [List.getElem?_take] at hu
  split at hu
  · exact hu
  · cases hu
theorem RowC.blk {w : World} {g : Nat} {t : TypeId} {cs : Array Value} (h : Blk w g t cs) (cap : Nat) (h1 : cs.size ≤ cap) (h2 : cap ≤ 9223372036854775807) : RowC w (.slice (some ⟨g, 0, none⟩) cs.size cap) cs.toList :=
  ⟨Row.blk h cap, some ⟨g, 0, none⟩, cap, by simp, by simpa using h1, h2⟩
theorem RowC.mk_ {w : World} {A : Option Addr} {n cap : Nat} {vs : List Value} (h : Row w (.slice A n cap) vs) (hl : vs.length = n) (h1 : n ≤ cap) (h2 : cap ≤ 9223372036854775807) : RowC w (.slice A n cap) vs :=
  ⟨h, A, cap, by rw [hl], by omega, h2⟩
/-- the address of a rest, as the model spells it -/
def restA (A : Option Addr) (cap k : Nat) : Option Addr := if cap = k then A else A.map (·.add k)
theorem RowC.rest {w : World} {A : Option Addr} {n cap : Nat} {vs : List Value} (h : RowC w (.slice A n cap) vs) {k : Nat} (hk : k ≤ vs.length) : RowC w (.slice (restA A cap k) (n - k) (cap - k)) (vs.drop k) := by
  obtain ⟨A', c', hv, h1, h2, hp⟩ := h.parts
  simp only [Value.slice.injEq] at hv
  obtain ⟨rfl, rfl, rfl⟩ := hv
  have hlen : (vs.drop k).length = vs.length - k := by simp
  refine ⟨⟨_, _, by rw [hlen], fun h0 => ?_⟩, _, _, by rw [hlen], by omega, by omega⟩
  rw [hlen] at h0
  obtain ⟨b, o, rfl, hb, hcc⟩ := hp (by omega)
  refine ⟨b, o + k, by unfold restA; rw [if_neg (by omega)]; simp [Addr.add_lit], hb, fun i u hu => ?_⟩
  rw [Nat.add_assoc]
  refine hcc _ u ?_
  rwa [List.getElem?_drop] at hu
end Go.Proofs.YtjliefglelcooaaDoor

namespace Go.Proofs.YtjliefglelcooaaDoor
open Go.RowKit

structure Ent where
  i : Int
  t : Int
  d : ByteArray
def Ent.Ok (e : Ent) : Prop := -9223372036854775808 ≤ e.i ∧ e.i ≤ 9223372036854775807 ∧ -9223372036854775808 ≤ e.t ∧ e.t ≤ 9223372036854775807 ∧ e.d.size ≤ 140737488351232
def inb (lo hi x : Int) : Bool := decide (lo ≤ x) && decide (x ≤ hi)
theorem inb_true {lo hi x : Int} (h : inb lo hi x = true) : lo ≤ x ∧ x ≤ hi := by simpa [inb] using h
theorem inb_mk {lo hi x : Int} (h : lo ≤ x ∧ x ≤ hi) : inb lo hi x = true := by simpa [inb] using h
theorem inb_no {lo hi x : Int} (h : ¬ (lo ≤ x ∧ x ≤ hi)) : inb lo hi x = false := by
  rcases hx : inb lo hi x with _ | _
  · rfl
  · exact absurd (inb_true hx) h
def entOk (e : Ent) (index term : Int) : Bool := decide (e.i = index + 1) && inb 1 1099511627776 e.i && inb (max term 0) 1099511627775 e.t && decide (e.d.size ≤ 4096)
def runs : List Ent → Int → Int → Bool
  | [], _, _ => true
  | e :: r, index, term => entOk e index term && runs r (index + 1) e.t
def mayLog (B T : Int) (xs : List Ent) : Bool := inb 0 1099511625728 B && inb 0 1099511627775 T && decide (xs.length ≤ 512) && runs xs B T

/-- the slice value v reads as these entries -/
def Ents (w : World) (v : Value) (xs : List Ent) : Prop :=
  ∃ (A : Option Addr) (cap : Nat), v = .slice A xs.length cap ∧ xs.length ≤ cap ∧ cap ≤ 9223372036854775807 ∧ (A = none → cap = 0) ∧
    (0 < xs.length → ∃ b o, A = some ⟨b, o, none⟩ ∧ b < w.heap.size ∧ ∀ i (h : i < xs.length), w.cell? ⟨b, o + i * 3, none⟩ = some (.int .i64 xs[i].i) ∧ w.cell? ⟨b, o + i * 3 + 1, none⟩ = some (.int .i64 xs[i].t) ∧ w.cell? ⟨b, o + i * 3 + 2, none⟩ = some (.string xs[i].d))
theorem Ents.from_ {w w' : World} {v : Value} {xs : List Ent} (h : Ents w v xs) (hw : From w w') : Ents w' v xs := by
  obtain ⟨A, cap, hv, h1, h2, h3, hp⟩ := h
  refine ⟨A, cap, hv, h1, h2, h3, fun h0 => ?_⟩
  obtain ⟨b, o, hA, hb, hc⟩ := hp h0
  exact ⟨b, o, hA, Nat.lt_of_lt_of_le hb hw.size, fun i hi => ⟨(hw.cells _ _ hb).trans (hc i hi).1, (hw.cells _ _ hb).trans (hc i hi).2.1, (hw.cells _ _ hb).trans (hc i hi).2.2⟩⟩
theorem Ents.nil_ (w : World) : Ents w (.slice none 0 0) [] := ⟨none, 0, rfl, by simp, by decide, fun _ => rfl, fun h => absurd h (by simp)⟩
theorem Ents.cut {w : World} {A : Option Addr} {n cap : Nat} {xs : List Ent} (h : Ents w (.slice A n cap) xs) {k : Nat} (hk : k ≤ xs.length) : Ents w (.slice A k cap) (xs.take k) := by
  obtain ⟨A', c', hv, h1, h2, h3, hp⟩ := h
  simp only [Value.slice.injEq] at hv
  obtain ⟨rfl, rfl, rfl⟩ := hv
  have hlen : (xs.take k).length = k := by simp [Nat.min_eq_left hk]
  refine ⟨A, cap, by rw [hlen], by omega, h2, h3, fun h0 => ?_⟩
  rw [hlen] at h0
  obtain ⟨b, o, hA, hb, hc⟩ := hp (by omega)
  refine ⟨b, o, hA, hb, fun i hi => ?_⟩
  have := hc i (by omega)
  simpa using this
theorem Ents.rest {w : World} {A : Option Addr} {n cap : Nat} {xs : List Ent} (h : Ents w (.slice A n cap) xs) {k : Nat} (hk : k ≤ xs.length) :
    Ents w (.slice (if cap = k then A else Option.map (fun x => x.add (k * 3)) A) (n - k) (cap - k)) (xs.drop k) := by
  obtain ⟨A', c', hv, h1, h2, h3, hp⟩ := h
  simp only [Value.slice.injEq] at hv
  obtain ⟨rfl, rfl, rfl⟩ := hv
  have hlen : (xs.drop k).length = xs.length - k := by simp
  refine ⟨_, _, by rw [hlen], by omega, by omega, fun hA => ?_, fun h0 => ?_⟩
  · split at hA
    · have := h3 hA
      omega
    · cases A with
      | none =>
        have := h3 rfl
        omega
      | some a => simp at hA
  · rw [hlen] at h0
    obtain ⟨b, o, rfl, hb, hc⟩ := hp (by omega)
    refine ⟨b, o + k * 3, by rw [if_neg (by omega)]; simp [Addr.add_lit, Go.WideShapes.add_plain], hb, fun i hi => ?_⟩
    have := hc (k + i) (by omega)
    rw [show o + k * 3 + i * 3 = o + (k + i) * 3 by omega]
    simpa using this
theorem Ents.of_own {w : World} {base : Nat} {e : TypeId} {v : Value} {n : Nat} {xs : List Ent} (h : w.ownsRow base e 3 v n (xs.flatMap fun x => [.int .i64 x.i, .int .i64 x.t, .string x.d])) (hn : xs.length = n) : Ents w v xs := by
  have get : ∀ (xs : List Ent) (i : Nat) (h : i < xs.length), (xs.flatMap fun x => [Value.int .i64 x.i, .int .i64 x.t, .string x.d])[i * 3]? = some (.int .i64 xs[i].i) ∧ (xs.flatMap fun x => [Value.int .i64 x.i, .int .i64 x.t, .string x.d])[i * 3 + 1]? = some (.int .i64 xs[i].t) ∧ (xs.flatMap fun x => [Value.int .i64 x.i, .int .i64 x.t, .string x.d])[i * 3 + 2]? = some (.string xs[i].d) := by
    intro xs
    induction xs with
    | nil => intro i h; simp at h
    | cons x r ih =>
      intro i h
      cases i with
      | zero => simp
      | succ i =>
        have := ih i (by simpa using h)
        rw [Nat.succ_mul]
        simpa using this
  rcases h.2 with ⟨rfl, rfl⟩ | ⟨g, cap, cur, rfl, hg, hh, h1, h2, h4, h5⟩
  · have : xs = [] := List.eq_nil_of_length_eq_zero hn
    subst this
    exact Ents.nil_ w
  · subst hn
    refine ⟨some ⟨g, 0, none⟩, cap, rfl, h1, by unfold maxLen at h2; omega, fun hA => (by cases hA), fun _ => ⟨g, 0, rfl, ?_, fun i hi => ?_⟩⟩
    · rcases Nat.lt_or_ge g w.heap.size with hlt | hge
      · exact hlt
      · rw [Array.getElem?_eq_none hge] at hh; cases hh
    · obtain ⟨g1, g2, g3⟩ := get xs i hi
      have e0 := h.cells (g := g) rfl _ _ g1
      have e1 := h.cells (g := g) rfl _ _ g2
      have e2 := h.cells (g := g) rfl _ _ g3
      rw [Addr.add_lit] at e0 e1 e2
      exact ⟨e0, e1, e2⟩
end Go.Proofs.YtjliefglelcooaaDoor

namespace Go.Proofs.YtjliefglelcooaaDoor
open Go.RowKit

set_option maxRecDepth 100000 in
set_option maxHeartbeats 400000 in
theorem within_row (lo hi x : Int) (v : Value) (w : World) (hr : Row w v [.int .i64 x]) :
    Calls Tryd.prog 42 #[.int .i64 lo, .int .i64 hi, v] w fun e w' => e = .returned (.bool (inb lo hi x)) ∧ w = w' := by
  obtain ⟨A, cap, rfl, hrow⟩ := hr
  obtain ⟨b, o, rfl, hb, hc⟩ := hrow (by simp)
  have d1 := hc 0 _ rfl
  clear hrow hc
  simp only [Nat.add_zero, List.length_cons, List.length_nil, Nat.zero_add] at d1 ⊢
  go_enter Tryd.func42, Tryd.ntmps42
  go_wp2
  go_loop [11] (fun i => ∃ j : Nat, j ≤ 1 ∧ i = .int .i64 j ∧ (j = 1 → lo ≤ x ∧ x ≤ hi)) (fun i => 1 - (intOf i).toNat)
  case atStart => exact ⟨0, by omega, rfl, by omega⟩
  case round =>
    obtain ⟨j, hj, rfl, hin⟩ := hrel
    by_cases h0 : j = 0
    · subst h0
      by_cases h1 : lo ≤ x
      · by_cases h2 : x ≤ hi
        · have HIN := Lib.hid (And.intro h1 h2)
          have e1 : decide (x < lo) = false := by simp; omega
          have e2 : decide (hi < x) = false := by simp; omega
          clear h1 h2 hin
          go_wp2
          go_round
          case rel => exact ⟨1, by omega, by go_num, fun _ => HIN.out⟩
          case measure => simp [intOf]
        · have HIN := Lib.hid (inb_no (lo := lo) (hi := hi) (x := x) (by omega))
          have e1 : decide (x < lo) = false := by simp; omega
          have e2 : decide (hi < x) = true := by simp; omega
          clear h1 h2 hin
          go_wp2
          go_ret
          exact ⟨by rw [HIN.out]; rfl, rfl⟩
      · have HIN := Lib.hid (inb_no (lo := lo) (hi := hi) (x := x) (by omega))
        have e1 : decide (x < lo) = true := by simp; omega
        clear h1 hin
        go_wp2
        go_ret
        exact ⟨by rw [HIN.out]; rfl, rfl⟩
    · obtain rfl : j = 1 := by omega
      have HIN := Lib.hid (inb_mk (hin rfl))
      clear hin h0
      go_wp2
      go_ret
      exact ⟨by rw [HIN.out]; rfl, rfl⟩

theorem within_any (lo hi x : Int) (w : World) :
    Calls Tryd.prog 42 #[.int .i64 lo, .int .i64 hi, .slice (some ⟨w.heap.size, 0, none⟩) 1 1] (w.alloc (.cells #[.int .i64 x] 3)) fun e w' => e = .returned (.bool (inb lo hi x)) ∧ From w w' :=
  (within_row lo hi x _ _ (Row.blk (Blk.new w 3 #[.int .i64 x]) 1)).mono fun e w' ⟨h1, h2⟩ => ⟨h1, h2 ▸ From.rfl_.new _⟩

theorem within_any2 (lo hi x : Int) (w : World) (ob : Obj) :
    Calls Tryd.prog 42 #[.int .i64 lo, .int .i64 hi, .slice (some ⟨w.heap.size + 1, 0, none⟩) 1 1] ((w.alloc ob).alloc (.cells #[.int .i64 x] 3)) fun e w' => e = .returned (.bool (inb lo hi x)) ∧ From (w.alloc ob) w' := by
  have h := within_any lo hi x (w.alloc ob)
  have e : (w.alloc ob).heap.size = w.heap.size + 1 := by simp
  rw [e] at h
  exact h

def FollowRel (w : World) (xs : List Ent) (index term : Int) (a b i : Value) (wr : World) : Prop :=
  ∃ (j : Nat) (t : Int), j ≤ xs.length ∧ i = .int .i64 j ∧ a = .int .i64 (index + j) ∧ b = .int .i64 t ∧ 0 ≤ t ∧ runs xs index term = runs (xs.drop j) (index + j) t ∧ From w wr

set_option maxRecDepth 100000 in
set_option maxHeartbeats 1000000 in
theorem follow_any (index term : Int) (v : Value) (xs : List Ent) (w : World) (h : Ents w v xs) (hi0 : -4611686018427387904 ≤ index) (hi1 : index ≤ 4611686018427387904) (ht0 : 0 ≤ term) (hl : xs.length ≤ 140737488351232) :
    Calls Tryd.prog 43 #[.int .i64 index, .int .i64 term, v] w fun e w' => e = .returned (.bool (runs xs index term)) ∧ From w w' := by
  obtain ⟨A, cap, rfl, hc1, hc2, hc3, hrow⟩ := h
  have hwi := within_any
  have hwi2 := within_any2
  have HW := Lib.hid hwi
  have HW2 := Lib.hid hwi2
  clear hwi hwi2
  go_enter Tryd.func43, Tryd.ntmps43
  go_wp2
  go_loopw [0, 1, 11] (FollowRel w xs index term) (fun _ _ i _ => xs.length - (intOf i).toNat)
  case atStart => exact ⟨0, term, by omega, rfl, by simp, rfl, ht0, by simp, From.rfl_⟩
  case round =>
    obtain ⟨j, t, hj, rfl, rfl, rfl, ht, hruns, hw⟩ := hrel
    by_cases hlt : j < xs.length
    · obtain ⟨b, o, rfl, hb, hc⟩ := hrow (by omega)
      obtain ⟨c1, c2, c3⟩ := hc j hlt
      have d1 := (hw.cells b (o + j * 3) hb).trans c1
      have d2 := (hw.cells b (o + j * 3 + 1) hb).trans c2
      have d3 := (hw.cells b (o + j * 3 + 2) hb).trans c3
      have i1 : (0 : Int) ≤ (j : Int) := by omega
      have i2 : (j : Int) < (xs.length : Int) := by omega
      rw [List.drop_eq_getElem_cons hlt] at hruns
      simp only [runs] at hruns
      clear hc c1 c2 c3 hrow
      generalize xs[j] = e at *
      obtain ⟨wb, hwb⟩ : ∃ wb, wb = wr.alloc (.cells #[.int .i64 e.i, .int .i64 e.t, .string e.d] 41) := ⟨_, rfl⟩
      have hblk : Blk wb wr.heap.size 41 #[.int .i64 e.i, .int .i64 e.t, .string e.d] := hwb ▸ Blk.new _ _ _
      have f0 : ∀ w', From wb w' → w'.cell? ⟨wr.heap.size, 0, none⟩ = some (.int .i64 e.i) := fun w' h => by simpa using (hblk.from_ h).cell 0
      have f1 : ∀ w', From wb w' → w'.cell? ⟨wr.heap.size, 1, none⟩ = some (.int .i64 e.t) := fun w' h => by simpa using (hblk.from_ h).cell 1
      have f2 : ∀ w', From wb w' → w'.cell? ⟨wr.heap.size, 2, none⟩ = some (.string e.d) := fun w' h => by simpa using (hblk.from_ h).cell 2
      have hwwb : From w wb := hwb ▸ hw.new _
      have hbb : From wb wb := From.rfl_
      rw [hwb] at f0 f1 f2 hwwb hbb
      clear hblk hwb wb
      have hmx : max t 0 = t := by omega
      simp only [entOk, hmx] at hruns
      by_cases h1 : e.i = index + j + 1
      · have e1 : (e.i != index + j + 1) = false := by simpa using h1
        rcases h2 : inb 1 1099511627776 e.i with _ | _
        · have HR := Lib.hid (hruns.trans (by simp [h2]) : runs xs index term = false)
          clear hruns h1
          go_wp2_with (go_at_call 42; (with_reducible refine (HW2.out _ _ _ _ _).mono ?_); rintro e w1 ⟨rfl, hb1⟩)
          go_ret
          exact ⟨by rw [HR.out]; rfl, hwwb.next hb1⟩
        · rcases h3 : inb t 1099511627775 e.t with _ | _
          · have HR := Lib.hid (hruns.trans (by simp [h3]) : runs xs index term = false)
            clear hruns h1
            go_wp2_with (first
              | (go_at_call 42; (with_reducible refine (HW2.out 1 1099511627776 _ _ _).mono ?_); rintro e w1 ⟨rfl, hb1⟩; have hw1 := From.next (a := w) hwwb hb1)
              | (go_at_call 42; (with_reducible refine (HW.out t _ _ _).mono ?_); rintro e w2 ⟨rfl, hb2⟩; have hw2 := From.next (a := w) hw1 hb2))
            go_ret
            exact ⟨by rw [HR.out]; rfl, hw2⟩
          · by_cases h4 : e.d.size ≤ 4096
            · have e4 : decide ((4096 : Int) < (e.d.size : Int)) = false := by simp; omega
              rw [decide_eq_true h1, h2, h3, decide_eq_true h4] at hruns
              simp only [Bool.and_self, Bool.true_and] at hruns
              have ht2 := inb_true h3
              have HR := Lib.hid (And.intro hruns ht2)
              clear hruns h1 ht2
              go_wp2_with (first
                | (go_at_call 42; (with_reducible refine (HW2.out 1 1099511627776 _ _ _).mono ?_); rintro e w1 ⟨rfl, hb1⟩; have hw1 := From.next (a := w) hwwb hb1)
                | (go_at_call 42; (with_reducible refine (HW.out t _ _ _).mono ?_); rintro e w2 ⟨rfl, hb2⟩; have hw2 := From.next (a := w) hw1 hb2; have hbw2 := From.next (a := _) hb1 hb2))
              go_roundw
              case rel =>
                obtain ⟨r1, r2⟩ := HR.out
                refine ⟨j + 1, e.t, by omega, by go_num, by go_num, rfl, by omega, ?_, hw2⟩
                rw [r1, show index + ((j + 1 : Nat) : Int) = index + j + 1 by omega]
              case measure => simp [intOf]; omega
            · have e4 : decide ((4096 : Int) < (e.d.size : Int)) = true := by simp; omega
              have HR := Lib.hid (hruns.trans (by simp [h4]) : runs xs index term = false)
              clear hruns h1
              go_wp2_with (first
                | (go_at_call 42; (with_reducible refine (HW2.out 1 1099511627776 _ _ _).mono ?_); rintro e w1 ⟨rfl, hb1⟩; have hw1 := From.next (a := w) hwwb hb1)
                | (go_at_call 42; (with_reducible refine (HW.out t _ _ _).mono ?_); rintro e w2 ⟨rfl, hb2⟩; have hw2 := From.next (a := w) hw1 hb2; have hbw2 := From.next (a := _) hb1 hb2))
              go_ret
              exact ⟨by rw [HR.out]; rfl, hw2⟩
      · have e1 : (e.i != index + j + 1) = true := by simpa using h1
        have HR := Lib.hid (hruns.trans (by simp [h1]) : runs xs index term = false)
        clear hruns h1
        go_wp2
        go_ret
        exact ⟨by rw [HR.out]; rfl, hwwb⟩
    · have hruns' : runs xs index term = true := by
        rw [hruns, List.drop_eq_nil_of_le (by omega)]
        rfl
      have HR := Lib.hid hruns'
      clear hruns hruns'
      go_wp2
      go_ret
      exact ⟨by rw [HR.out]; rfl, hw⟩
end Go.Proofs.YtjliefglelcooaaDoor

namespace Go.Proofs.YtjliefglelcooaaDoor
open Go.RowKit

def chk (B T : Int) (xs : List Ent) : Int := if mayLog B T xs = true then 0 else 1

/-- a log by value, boxed: its cells -/
theorem box_log {w : World} {B T : Int} {v : Value} {t : TypeId} :
    (∀ w', From (w.alloc (.cells #[.int .i64 B, .int .i64 T, v] t)) w' → w'.cell? ⟨w.heap.size, 0, none⟩ = some (.int .i64 B)) ∧
    (∀ w', From (w.alloc (.cells #[.int .i64 B, .int .i64 T, v] t)) w' → w'.cell? ⟨w.heap.size, 1, none⟩ = some (.int .i64 T)) ∧
    (∀ w', From (w.alloc (.cells #[.int .i64 B, .int .i64 T, v] t)) w' → w'.cell? ⟨w.heap.size, 2, none⟩ = some v) ∧
    From (w.alloc (.cells #[.int .i64 B, .int .i64 T, v] t)) (w.alloc (.cells #[.int .i64 B, .int .i64 T, v] t)) ∧ From w (w.alloc (.cells #[.int .i64 B, .int .i64 T, v] t)) :=
  ⟨fun w' h => by simpa using ((Blk.new w t #[.int .i64 B, .int .i64 T, v]).from_ h).cell 0, fun w' h => by simpa using ((Blk.new w t #[.int .i64 B, .int .i64 T, v]).from_ h).cell 1,
    fun w' h => by simpa using ((Blk.new w t #[.int .i64 B, .int .i64 T, v]).from_ h).cell 2, From.rfl_, From.rfl_.new _⟩

set_option maxRecDepth 100000 in
set_option maxHeartbeats 1000000 in
theorem check_any (B T : Int) (v : Value) (xs : List Ent) (w : World) (h : Ents w v xs) :
    Calls Tryd.prog 41 #[.agg #[.int .i64 B, .int .i64 T, v]] w fun e w' => e = .returned (.int .i64 (chk B T xs)) ∧ From w w' := by
  have hwi := within_any
  have hwi2 := within_any2
  have HW := Lib.hid hwi
  have HW2 := Lib.hid hwi2
  clear hwi hwi2
  obtain ⟨f0, f1, f2, hbb, hwb⟩ := box_log (w := w) (B := B) (T := T) (v := v) (t := 72)
  have HE := Lib.hid h
  obtain ⟨A, cap, rfl, hc1, hc2, hc3, hrow⟩ := h
  clear hc3 hrow
  by_cases hm : mayLog B T xs = true
  · have hch : chk B T xs = 0 := if_pos hm
    simp only [mayLog, Bool.and_eq_true, decide_eq_true_eq] at hm
    obtain ⟨⟨⟨h1, h2⟩, h3⟩, h4⟩ := hm
    have b1 := inb_true h1
    have b2 := inb_true h2
    have e3 : decide ((512 : Int) < (xs.length : Int)) = false := by simp; omega
    have hfo := fun w' (h : From w w') => follow_any B T _ xs w' (HE.out.from_ h) (by omega) (by omega) b2.1 (by omega)
    rw [h4] at hfo
    have HF := Lib.hid hfo
    have HC := Lib.hid hch
    clear hfo h4 hch b1 b2
    go_enter Tryd.func41, Tryd.ntmps41
    go_wp2_with (first
      | (go_at_call 42; (with_reducible refine (HW2.out 0 1099511625728 _ _ _).mono ?_); rintro e w1 ⟨rfl, hb1⟩; have hw1 := From.next (a := w) hwb hb1)
      | (go_at_call 42; (with_reducible refine (HW.out _ _ _ _).mono ?_); rintro e w2 ⟨rfl, hb2⟩; have hw2 := From.next (a := w) hw1 hb2; have hbw2 := From.next (a := _) hb1 hb2)
      | (go_at_call 43; (with_reducible refine (HF.out _ hw2).mono ?_); rintro e w3 ⟨rfl, hb3⟩; have hw3 := From.next (a := w) hw2 hb3))
    go_ret
    exact ⟨by rw [HC.out]; rfl, hw3⟩
  · have hch : chk B T xs = 1 := if_neg hm
    have HC := Lib.hid hch
    clear hch
    rcases h1 : inb 0 1099511625728 B with _ | _
    · clear hm
      go_enter Tryd.func41, Tryd.ntmps41
      go_wp2_with (first
        | (go_at_call 42; (with_reducible refine (HW2.out 0 1099511625728 _ _ _).mono ?_); rintro e w1 ⟨rfl, hb1⟩; have hw1 := From.next (a := w) hwb hb1))
      go_ret
      exact ⟨by rw [HC.out]; rfl, hw1⟩
    rcases h2 : inb 0 1099511627775 T with _ | _
    · clear hm
      go_enter Tryd.func41, Tryd.ntmps41
      go_wp2_with (first
        | (go_at_call 42; (with_reducible refine (HW2.out 0 1099511625728 _ _ _).mono ?_); rintro e w1 ⟨rfl, hb1⟩; have hw1 := From.next (a := w) hwb hb1)
        | (go_at_call 42; (with_reducible refine (HW.out _ _ _ _).mono ?_); rintro e w2 ⟨rfl, hb2⟩; have hw2 := From.next (a := w) hw1 hb2))
      go_ret
      exact ⟨by rw [HC.out]; rfl, hw2⟩
    by_cases h3 : xs.length ≤ 512
    · have b1 := inb_true h1
      have b2 := inb_true h2
      have e3 : decide ((512 : Int) < (xs.length : Int)) = false := by simp; omega
      have h4 : runs xs B T = false := by
        simp only [mayLog, h1, h2, decide_eq_true h3, Bool.true_and] at hm
        simpa using hm
      have hfo := fun w' (h : From w w') => follow_any B T _ xs w' (HE.out.from_ h) (by omega) (by omega) b2.1 (by omega)
      rw [h4] at hfo
      have HF := Lib.hid hfo
      clear hfo h4 hm b1 b2
      go_enter Tryd.func41, Tryd.ntmps41
      go_wp2_with (first
        | (go_at_call 42; (with_reducible refine (HW2.out 0 1099511625728 _ _ _).mono ?_); rintro e w1 ⟨rfl, hb1⟩; have hw1 := From.next (a := w) hwb hb1)
        | (go_at_call 42; (with_reducible refine (HW.out _ _ _ _).mono ?_); rintro e w2 ⟨rfl, hb2⟩; have hw2 := From.next (a := w) hw1 hb2; have hbw2 := From.next (a := _) hb1 hb2)
        | (go_at_call 43; (with_reducible refine (HF.out _ hw2).mono ?_); rintro e w3 ⟨rfl, hb3⟩; have hw3 := From.next (a := w) hw2 hb3))
      go_ret
      exact ⟨by rw [HC.out]; rfl, hw3⟩
    · have e3 : decide ((512 : Int) < (xs.length : Int)) = true := by simp; omega
      clear hm
      go_enter Tryd.func41, Tryd.ntmps41
      go_wp2_with (first
        | (go_at_call 42; (with_reducible refine (HW2.out 0 1099511625728 _ _ _).mono ?_); rintro e w1 ⟨rfl, hb1⟩; have hw1 := From.next (a := w) hwb hb1)
        | (go_at_call 42; (with_reducible refine (HW.out _ _ _ _).mono ?_); rintro e w2 ⟨rfl, hb2⟩; have hw2 := From.next (a := w) hw1 hb2; have hbw2 := From.next (a := _) hb1 hb2))
      go_ret
      exact ⟨by rw [HC.out]; rfl, hw2⟩

def lastI (B : Int) (xs : List Ent) : Int := match xs.getLast? with | some e => e.i | none => B
def lastT (T : Int) (xs : List Ent) : Int := match xs.getLast? with | some e => e.t | none => T
theorem last_at {xs : List Ent} (h : 0 < xs.length) (B T : Int) : lastI B xs = xs[xs.length - 1].i ∧ lastT T xs = xs[xs.length - 1].t := by
  have : xs.getLast? = some xs[xs.length - 1] := by rw [List.getLast?_eq_getElem?, List.getElem?_eq_getElem (by omega)]
  simp [lastI, lastT, this]

set_option maxRecDepth 100000 in
set_option maxHeartbeats 1000000 in
theorem lastOf_any (B T : Int) (v : Value) (xs : List Ent) (w : World) (h : Ents w v xs) :
    Calls Tryd.prog 44 #[.agg #[.int .i64 B, .int .i64 T, v]] w fun e w' => e = .returned (.tuple #[.int .i64 (lastI B xs), .int .i64 (lastT T xs)]) ∧ From w w' := by
  obtain ⟨f0, f1, f2, hbb, hwb⟩ := box_log (w := w) (B := B) (T := T) (v := v) (t := 72)
  obtain ⟨A, cap, rfl, hc1, hc2, hc3, hrow⟩ := h
  by_cases h0 : 0 < xs.length
  · obtain ⟨b, o, rfl, hb, hc⟩ := hrow h0
    obtain ⟨l1, l2⟩ := last_at h0 B T
    obtain ⟨c1, c2, c3⟩ := hc (xs.length - 1) (by omega)
    rw [← l1] at c1
    rw [← l2] at c2
    have d1 : ∀ w', From w w' → w'.cell? ⟨b, o + (xs.length - 1) * 3, none⟩ = some (.int .i64 (lastI B xs)) := fun w' h => (h.cells b _ hb).trans c1
    have d2 : ∀ w', From w w' → w'.cell? ⟨b, o + (xs.length - 1) * 3 + 1, none⟩ = some (.int .i64 (lastT T xs)) := fun w' h => (h.cells b _ hb).trans c2
    have hd : decide ((0 : Int) < (xs.length : Int)) = true := by simp; omega
    obtain ⟨n, hn⟩ : ∃ n, xs.length = n + 1 := ⟨xs.length - 1, by omega⟩
    rw [hn] at d1 d2 hd hc1 f0 f1 f2 hbb hwb ⊢
    simp only [Nat.add_sub_cancel] at d1 d2
    have i0 : ((n + 1 : Nat) : Int) - 1 = (n : Int) := by omega
    have hwr : IntKind.i64.wrap (n : Int) = (n : Int) := by rw [IntKind.wrap_i64]; omega
    have i1 : (0 : Int) ≤ (n : Int) := by omega
    have i2 : (n : Int) < ((n + 1 : Nat) : Int) := by omega
    have i3 : (n : Int) < (n : Int) + 1 := by omega
    clear hc c1 c2 c3 hrow l1 l2 hn h0
    generalize lastI B xs = x at *
    generalize lastT T xs = y at *
    go_enter Tryd.func44, Tryd.ntmps44
    go_wp2
    go_quiet (fail)
    go_wp2
    go_ret2
    exact ⟨rfl, hwb.dn _⟩
  · have hx : xs = [] := List.eq_nil_of_length_eq_zero (by omega)
    subst hx
    have hd : decide ((0 : Int) < (0 : Int)) = false := by decide
    simp only [List.length_nil] at f0 f1 f2 hbb hwb ⊢
    go_enter Tryd.func44, Tryd.ntmps44
    go_wp2
    go_quiet (fail)
    go_wp2
    go_ret2
    exact ⟨rfl, hwb.dn _⟩

def lastV (B T : Int) (xs : List Ent) : Value := if mayLog B T xs = true then .tuple #[.int .i64 (lastI B xs), .int .i64 (lastT T xs), .int .i64 0] else .tuple #[.int .i64 0, .int .i64 0, .int .i64 1]
end Go.Proofs.YtjliefglelcooaaDoor

namespace Go.Proofs.YtjliefglelcooaaDoor
open Go.RowKit

def mayE (e : Ent) : Bool := inb 1 1099511627776 e.i && inb 0 1099511627775 e.t && decide (e.d.size ≤ 4096)
theorem entOk_may {e : Ent} {index term : Int} : entOk e index term = (mayE e && decide (e.i = index + 1) && decide (term ≤ e.t)) := by
  unfold entOk mayE inb
  rw [Bool.eq_iff_iff]
  simp only [Bool.and_eq_true, decide_eq_true_eq]
  constructor
  · rintro ⟨⟨⟨h1, h2⟩, h3⟩, h4⟩
    exact ⟨⟨⟨⟨h2, by omega⟩, h4⟩, h1⟩, by omega⟩
  · rintro ⟨⟨⟨⟨h2, h3⟩, h4⟩, h1⟩, h5⟩
    exact ⟨⟨⟨h1, h2⟩, by omega⟩, h4⟩

theorem box_ent {w : World} {e : Ent} {t : TypeId} :
    (∀ w', From (w.alloc (.cells #[.int .i64 e.i, .int .i64 e.t, .string e.d] t)) w' → w'.cell? ⟨w.heap.size, 0, none⟩ = some (.int .i64 e.i)) ∧
    (∀ w', From (w.alloc (.cells #[.int .i64 e.i, .int .i64 e.t, .string e.d] t)) w' → w'.cell? ⟨w.heap.size, 1, none⟩ = some (.int .i64 e.t)) ∧
    (∀ w', From (w.alloc (.cells #[.int .i64 e.i, .int .i64 e.t, .string e.d] t)) w' → w'.cell? ⟨w.heap.size, 2, none⟩ = some (.string e.d)) ∧
    From (w.alloc (.cells #[.int .i64 e.i, .int .i64 e.t, .string e.d] t)) (w.alloc (.cells #[.int .i64 e.i, .int .i64 e.t, .string e.d] t)) ∧ From w (w.alloc (.cells #[.int .i64 e.i, .int .i64 e.t, .string e.d] t)) :=
  ⟨fun w' h => by simpa using ((Blk.new w t #[.int .i64 e.i, .int .i64 e.t, .string e.d]).from_ h).cell 0, fun w' h => by simpa using ((Blk.new w t #[.int .i64 e.i, .int .i64 e.t, .string e.d]).from_ h).cell 1,
    fun w' h => by simpa using ((Blk.new w t #[.int .i64 e.i, .int .i64 e.t, .string e.d]).from_ h).cell 2, From.rfl_, From.rfl_.new _⟩

set_option maxRecDepth 100000 in
set_option maxHeartbeats 1000000 in
theorem mayEntry_any (e : Ent) (w : World) :
    Calls Tryd.prog 38 #[.agg #[.int .i64 e.i, .int .i64 e.t, .string e.d]] w fun r w' => r = .returned (.bool (mayE e)) ∧ From w w' := by
  obtain ⟨f0, f1, f2, hbb, hwb⟩ := box_ent (w := w) (e := e) (t := 41)
  have hm : mayE e = mayE e := rfl
  conv at hm => rhs; unfold mayE inb
  have HM := Lib.hid hm
  clear hm
  go_enter Tryd.func38, Tryd.ntmps38
  by_cases h1 : 1 ≤ e.i
  · have e1 := decide_eq_true h1
    by_cases h2 : e.i ≤ 1099511627776
    · have e2 := decide_eq_true h2
      by_cases h3 : 0 ≤ e.t
      · have e3 := decide_eq_true h3
        by_cases h4 : e.t ≤ 1099511627775
        · have e4 := decide_eq_true h4
          by_cases h5 : e.d.size ≤ 4096
          · have e5 := decide_eq_true h5
            have e6 : decide ((e.d.size : Int) ≤ 4096) = true := by simp; omega
            rw [e1, e2, e3, e4, e5] at HM
            clear h1 h2 h3 h4 h5
            go_wp2
            go_ret
            exact ⟨by rw [HM.out]; rfl, hwb⟩
          · have e5 := decide_eq_false h5
            have e6 : decide ((e.d.size : Int) ≤ 4096) = false := by simp; omega
            rw [e1, e2, e3, e4, e5] at HM
            clear h1 h2 h3 h4 h5
            go_wp2
            go_ret
            exact ⟨by rw [HM.out]; rfl, hwb⟩
        · have e4 := decide_eq_false h4
          rw [e1, e2, e3, e4] at HM
          clear h1 h2 h3 h4
          go_wp2
          go_ret
          exact ⟨by rw [HM.out]; rfl, hwb⟩
      · have e3 := decide_eq_false h3
        rw [e1, e2, e3] at HM
        clear h1 h2 h3
        go_wp2
        go_ret
        exact ⟨by rw [HM.out]; rfl, hwb⟩
    · have e2 := decide_eq_false h2
      rw [e1, e2] at HM
      clear h1 h2
      go_wp2
      go_ret
      exact ⟨by rw [HM.out]; rfl, hwb⟩
  · have e1 := decide_eq_false h1
    rw [e1] at HM
    clear h1
    go_wp2
    go_ret
    exact ⟨by rw [HM.out]; rfl, hwb⟩

def RunsRel (w : World) (xs : List Ent) (index term : Int) (b i : Value) (wr : World) : Prop :=
  ∃ (j : Nat) (t : Int), j ≤ xs.length ∧ i = .int .i64 j ∧ b = .int .i64 t ∧ runs xs index term = runs (xs.drop j) (index + j) t ∧ From w wr

set_option maxRecDepth 100000 in
set_option maxHeartbeats 1000000 in
theorem runs_any (index term : Int) (v : Value) (xs : List Ent) (w : World) (h : Ents w v xs) (hi0 : -4611686018427387904 ≤ index) (hi1 : index ≤ 4611686018427387904) (hl : xs.length ≤ 140737488351232) :
    Calls Tryd.prog 25 #[v, .int .i64 index, .int .i64 term] w fun e w' => e = .returned (.bool (runs xs index term)) ∧ From w w' := by
  obtain ⟨A, cap, rfl, hc1, hc2, hc3, hrow⟩ := h
  have hme := mayEntry_any
  have HM := Lib.hid hme
  clear hme
  go_enter Tryd.func25, Tryd.ntmps25
  go_wp2
  go_loopw [2, 7] (RunsRel w xs index term) (fun _ i _ => xs.length - (intOf i).toNat)
  case atStart => exact ⟨0, term, by omega, rfl, rfl, by simp, From.rfl_⟩
  case round =>
    obtain ⟨j, t, hj, rfl, rfl, hruns, hw⟩ := hrel
    by_cases hlt : j < xs.length
    · obtain ⟨b, o, rfl, hb, hc⟩ := hrow (by omega)
      obtain ⟨c1, c2, c3⟩ := hc j hlt
      have d1 : ∀ w', From w w' → w'.cell? ⟨b, o + j * 3, none⟩ = some (.int .i64 xs[j].i) := fun w' h => (h.cells b _ hb).trans c1
      have d2 : ∀ w', From w w' → w'.cell? ⟨b, o + j * 3 + 1, none⟩ = some (.int .i64 xs[j].t) := fun w' h => (h.cells b _ hb).trans c2
      have d3 : ∀ w', From w w' → w'.cell? ⟨b, o + j * 3 + 2, none⟩ = some (.string xs[j].d) := fun w' h => (h.cells b _ hb).trans c3
      have i1 : (0 : Int) ≤ (j : Int) := by omega
      have i2 : (j : Int) < (xs.length : Int) := by omega
      rw [List.drop_eq_getElem_cons hlt] at hruns
      simp only [runs, entOk_may] at hruns
      clear hc c1 c2 c3 hrow
      generalize xs[j] = e at *
      rcases h1 : mayE e with _ | _
      · have HR := Lib.hid (hruns.trans (by simp [h1]) : runs xs index term = false)
        clear hruns
        go_wp2_with (go_at_call 38; (with_reducible refine (HM.out _ _).mono ?_); rintro e w1 ⟨rfl, hb1⟩)
        go_ret
        exact ⟨by rw [HR.out]; rfl, hw.next hb1⟩
      by_cases h2 : e.i = index + j + 1
      · have e2 : (e.i != index + 1 + j) = false := by simp; omega
        by_cases h3 : t ≤ e.t
        · have e3 : decide (e.t < t) = false := by simp; omega
          rw [h1, decide_eq_true h2, decide_eq_true h3] at hruns
          simp only [Bool.and_self, Bool.true_and] at hruns
          have HR := Lib.hid hruns
          clear hruns h2 h3
          go_wp2_with (go_at_call 38; (with_reducible refine (HM.out _ _).mono ?_); rintro e w1 ⟨rfl, hb1⟩; have hw1 := From.next (a := w) hw hb1)
          go_roundw
          case rel =>
            refine ⟨j + 1, e.t, by omega, by go_num, rfl, ?_, hw1⟩
            rw [HR.out, show index + ((j + 1 : Nat) : Int) = index + j + 1 by omega]
          case measure => simp [intOf]; omega
        · have e3 : decide (e.t < t) = true := by simp; omega
          have HR := Lib.hid (hruns.trans (by simp [h3]) : runs xs index term = false)
          clear hruns h2 h3
          go_wp2_with (go_at_call 38; (with_reducible refine (HM.out _ _).mono ?_); rintro e w1 ⟨rfl, hb1⟩; have hw1 := From.next (a := w) hw hb1)
          go_ret
          exact ⟨by rw [HR.out]; rfl, hw1⟩
      · have e2 : (e.i != index + 1 + j) = true := by simp; omega
        have HR := Lib.hid (hruns.trans (by simp [h2]) : runs xs index term = false)
        clear hruns h2
        go_wp2_with (go_at_call 38; (with_reducible refine (HM.out _ _).mono ?_); rintro e w1 ⟨rfl, hb1⟩; have hw1 := From.next (a := w) hw hb1)
        go_ret
        exact ⟨by rw [HR.out]; rfl, hw1⟩
    · have hruns' : runs xs index term = true := by
        rw [hruns, List.drop_eq_nil_of_le (by omega)]
        rfl
      have HR := Lib.hid hruns'
      clear hruns hruns'
      go_wp2
      go_ret
      exact ⟨by rw [HR.out]; rfl, hw⟩
end Go.Proofs.YtjliefglelcooaaDoor

namespace Go.Proofs.YtjliefglelcooaaDoor
open Go.RowKit

set_option maxRecDepth 100000 in
set_option maxHeartbeats 1000000 in
/-- EqEntries of the same entries -/
theorem eqEntries_same (v u : Value) (xs : List Ent) (w : World) (h1 : Ents w v xs) (h2 : Ents w u xs) (hl : xs.length ≤ 1000000000000) :
    Calls Tryd.prog 19 #[v, u] w fun e w' => e = .returned (.bool true) ∧ From w w' := by
  obtain ⟨A, cap, rfl, hc1, hc2, hc3, hrow⟩ := h1
  obtain ⟨A2, cap2, rfl, hd1, hd2, hd3, hrow2⟩ := h2
  go_enter Tryd.func19, Tryd.ntmps19
  go_wp2
  go_loopw [5] (fun i wr => ∃ j : Nat, j ≤ xs.length ∧ i = .int .i64 j ∧ From w wr) (fun i _ => xs.length - (intOf i).toNat)
  case atStart => exact ⟨0, by omega, rfl, From.rfl_⟩
  case round =>
    obtain ⟨j, hj, rfl, hw⟩ := hrel
    by_cases hlt : j < xs.length
    · obtain ⟨b, o, rfl, hb, hc⟩ := hrow (by omega)
      obtain ⟨b2, o2, rfl, hb2, hc'⟩ := hrow2 (by omega)
      obtain ⟨c1, c2, c3⟩ := hc j hlt
      obtain ⟨q1, q2, q3⟩ := hc' j hlt
      have d1 : ∀ w', From w w' → w'.cell? ⟨b, o + j * 3, none⟩ = some (.int .i64 xs[j].i) := fun w' h => (h.cells b _ hb).trans c1
      have d2 : ∀ w', From w w' → w'.cell? ⟨b, o + j * 3 + 1, none⟩ = some (.int .i64 xs[j].t) := fun w' h => (h.cells b _ hb).trans c2
      have d3 : ∀ w', From w w' → w'.cell? ⟨b, o + j * 3 + 2, none⟩ = some (.string xs[j].d) := fun w' h => (h.cells b _ hb).trans c3
      have g1 : ∀ w', From w w' → w'.cell? ⟨b2, o2 + j * 3, none⟩ = some (.int .i64 xs[j].i) := fun w' h => (h.cells b2 _ hb2).trans q1
      have g2 : ∀ w', From w w' → w'.cell? ⟨b2, o2 + j * 3 + 1, none⟩ = some (.int .i64 xs[j].t) := fun w' h => (h.cells b2 _ hb2).trans q2
      have g3 : ∀ w', From w w' → w'.cell? ⟨b2, o2 + j * 3 + 2, none⟩ = some (.string xs[j].d) := fun w' h => (h.cells b2 _ hb2).trans q3
      have i1 : (0 : Int) ≤ (j : Int) := by omega
      have i2 : (j : Int) < (xs.length : Int) := by omega
      clear hc c1 c2 c3 hrow q1 q2 q3 hc' hrow2
      generalize xs[j] = e at *
      go_wp2
      go_quiet (fail)
      go_wp2
      go_roundw
      case rel => exact ⟨j + 1, by omega, by go_num, hw.dn _⟩
      case measure => simp [intOf]; omega
    · go_wp2
      go_ret
      exact ⟨rfl, hw⟩
end Go.Proofs.YtjliefglelcooaaDoor

namespace Go.Proofs.YtjliefglelcooaaDoor
open Go.RowKit

def entV (xs : List Ent) : List Value := xs.flatMap fun x => [.int .i64 x.i, .int .i64 x.t, .string x.d]
theorem entV_append (xs ys : List Ent) : entV (xs ++ ys) = entV xs ++ entV ys := by simp [entV]
theorem entV_length : ∀ (xs : List Ent), (entV xs).length = xs.length * 3
  | [] => rfl
  | x :: r => by
    have h : entV (x :: r) = .int .i64 x.i :: .int .i64 x.t :: .string x.d :: entV r := rfl
    rw [h]
    simp only [List.length_cons, entV_length r]
    omega
theorem entV_one : ∀ (xs : List Ent), ∀ u ∈ entV xs, u.oneCell' = true := by
  intro xs u hu
  simp only [entV, List.mem_flatMap] at hu
  obtain ⟨x, _, hu⟩ := hu
  simp only [List.mem_cons, List.not_mem_nil, or_false] at hu
  rcases hu with rfl | rfl | rfl <;> rfl
theorem entV_at : ∀ (xs : List Ent) (j : Nat) (u : Value), (entV xs)[j]? = some u → ∃ (i r : Nat) (h : i < xs.length), j = i * 3 + r ∧ ((r = 0 ∧ u = .int .i64 xs[i].i) ∨ (r = 1 ∧ u = .int .i64 xs[i].t) ∨ (r = 2 ∧ u = .string xs[i].d))
  | [], j, u, h => by simp [entV] at h
  | x :: r, j, u, h => by
    have hc : entV (x :: r) = .int .i64 x.i :: .int .i64 x.t :: .string x.d :: entV r := rfl
    rw [hc] at h
    match j, h with
    | 0, h => exact ⟨0, 0, by simp, by omega, .inl ⟨rfl, by simpa using h.symm⟩⟩
    | 1, h => exact ⟨0, 1, by simp, by omega, .inr (.inl ⟨rfl, by simpa using h.symm⟩)⟩
    | 2, h => exact ⟨0, 2, by simp, by omega, .inr (.inr ⟨rfl, by simpa using h.symm⟩)⟩
    | j + 3, h =>
      obtain ⟨i, q, hi, hj, hq⟩ := entV_at r j u (by simpa using h)
      exact ⟨i + 1, q, by simpa using hi, by omega, by simpa using hq⟩
theorem Ents.cellV {w : World} {A : Option Addr} {n cap : Nat} {xs : List Ent} (h : Ents w (.slice A n cap) xs) {ad : Addr} (hA : A = some ad) : ∀ j u, (entV xs)[j]? = some u → w.cell? (ad.add j) = some u := by
  intro j u hu
  obtain ⟨A', c', hv, _, _, _, hp⟩ := h
  simp only [Value.slice.injEq] at hv
  obtain ⟨rfl, rfl, rfl⟩ := hv
  obtain ⟨i, r, hi, rfl, hr⟩ := entV_at xs j u hu
  obtain ⟨b, o, hA', hb, hc⟩ := hp (by omega)
  rw [hA] at hA'
  simp only [Option.some.injEq] at hA'
  subst hA'
  rw [Go.WideShapes.add_plain, ← Nat.add_assoc]
  obtain ⟨c1, c2, c3⟩ := hc i hi
  rcases hr with ⟨rfl, rfl⟩ | ⟨rfl, rfl⟩ | ⟨rfl, rfl⟩
  · exact c1
  · exact c2
  · exact c3

theorem ent_info : (Tryd.prog.info? 41).map (fun i => (i.zero, i.size, i.bytes)) = some (some (.agg #[.int .i64 0, .int .i64 0, .string ⟨#[]⟩]), 3, 32) := by kernel_rfl

/-- append(s, x...) of entries onto a row of the call's own -/
theorem wpList_pushe {ops : Array Oper} {rest : List Oper} {o : Oper} {a : Act} {Q : Exit → Act → World → Prop} {wr : World} (a0 : World) (hgd : o.guard = none) (s x : Operand) (t : TypeId)
    (ho : o.op = .call { callee := .builtin .append, args := #[s, x], argTypes := #[t, t] }) (ht : Tryd.prog.underlying t = some (.slice 41))
    (v : Value) (n : Nat) (xs : List Ent) (hs : a.eval s = v) (hown : wr.ownsRow a0.heap.size 41 3 v n (entV xs)) (hw : From a0 wr) (v2 : Value) (news : List Ent) (hx : a.eval x = v2) (hr : Ents wr v2 news)
    (hroom : n + news.length ≤ 1000000000000)
    (h : ∀ v' w', w'.ownsRow a0.heap.size 41 3 v' (n + news.length) (entV (xs ++ news)) → From a0 w' → wpList Tryd.prog ops Q rest (a.put o.dst v') w') : wpList Tryd.prog ops Q (o :: rest) a wr := by
  obtain ⟨i0, hi0, hz0, hz1, hz2⟩ := info_parts ent_info
  have hr0 := hr
  obtain ⟨A, cap, rfl, hc1, hc2, hc3, hp⟩ := hr
  cases A with
  | none =>
    have h0 := hc3 rfl
    subst h0
    have hnn : news = [] := List.eq_nil_of_length_eq_zero (by omega)
    subst hnn
    refine wpList_append_own_none (P := Tryd.prog) hgd s x t ho a0.heap.size 41 i0 3 ht hi0 v n (entV xs) hs hown hx (h v wr ?_ hw)
    simpa using hown
  | some ad =>
    refine wpList_append_own (P := Tryd.prog) _ hgd s x t ho a0.heap.size 41 i0 _ 3 32 ht hi0 hz0 hz1 hz2 rfl (by decide) v n (entV xs) hs hown ad news.length cap (entV news) hx (entV_length news) (hr0.cellV rfl) (entV_one news) (by unfold maxLen; omega) (by omega) hw.size ?_
    intro v' w' hown' hg _
    rw [← entV_append] at hown'
    exact h v' w' hown' (hw.grew hg (fun k hk => (hown.lt k hk).1))

set_option maxRecDepth 100000 in
set_option maxHeartbeats 1000000 in
/-- slices.Grow(nil, n) -/
theorem grow_any (n : Nat) (w : World) (hn : n ≤ 1000000000000) :
    Calls Tryd.prog 49 #[.slice none 0 0, .int .i64 n] w fun e w' => ∃ v', e = .returned v' ∧ w'.ownsRow w.heap.size 41 3 v' 0 (entV []) ∧ From w w' := by
  obtain ⟨i0, hi0, hz0, hz1, hz2⟩ := info_parts ent_info
  by_cases h0 : 0 < n
  · have happ := Lib.run_append_nil_zeros (P := Tryd.prog) w 25 3 25 41 i0 _ .i64 .i64 Tryd.underlying25 Tryd.underlying3 hi0 hz0 n h0 (by omega) (by omega) (by rw [hz2]; omega)
    generalize hcap : grownCap w n 0 41 = cap2 at happ
    have hcapge : n ≤ cap2 := by rw [← hcap]; exact grownCap_ge w _ 0 _
    have hcaple : cap2 ≤ maxLen := by rw [← hcap]; exact grownCap_le_maxLen w _ 0 _ (by unfold maxLen; omega)
    generalize hZ : (Builtin.zeroCells (Value.agg #[.int .i64 0, .int .i64 0, .string ⟨#[]⟩]).cells n ++ Builtin.zeroCells (Value.agg #[.int .i64 0, .int .i64 0, .string ⟨#[]⟩]).cells (cap2 - n)) = Z at happ
    have hZs : Z.size = cap2 * 3 := by rw [← hZ]; simp [size_zeroCells, Value.cells]; omega
    clear hcap hZ
    have hd1 : decide ((0 : Int) < (n : Int)) = true := by simp; omega
    have hc9 : (0 : Int) ≤ (cap2 : Int) := by omega
    have HZ := Lib.hid hZs
    have HC := Lib.hid hcaple
    clear hZs hcaple
    go_enter Tryd.func49, Tryd.ntmps49
    go_wp2_with (at_builtin; refine Lib.wpList_append_run _ rfl _ _ _ _ rfl _ _ rfl rfl _ _ happ ?_)
    go_ret
    refine ⟨_, rfl, ⟨by simp [entV], .inr ⟨w.heap.size, cap2, Z, rfl, Nat.le_refl _, ?_, by omega, HC.out, HZ.out, by simp [entV]⟩⟩, ?_⟩
    · exact heap_alloc_new w.drew _
    · exact From.rfl_.d1.new _
  · obtain rfl : n = 0 := by omega
    have hd1 : decide ((0 : Int) < ((0 : Nat) : Int)) = false := by simp
    go_enter Tryd.func49, Tryd.ntmps49
    go_wp2
    go_ret
    exact ⟨_, rfl, World.ownsRow_nil _ _ _ _, From.rfl_⟩

def upto2 (xs ys : List Ent) : Nat → List Ent | 0 => [] | 1 => xs | _ => xs ++ ys
set_option maxRecDepth 100000 in
set_option maxHeartbeats 1000000 in
/-- slices.Concat(a, b) -/
theorem concat_any (g : Nat) (v1 v2 : Value) (xs ys : List Ent) (w : World) (hg : g < w.heap.size) (c0 : w.cell? ⟨g, 0, none⟩ = some v1) (c1 : w.cell? ⟨g, 1, none⟩ = some v2) (h1 : Ents w v1 xs) (h2 : Ents w v2 ys) (hl1 : xs.length ≤ 400000000000) (hl2 : ys.length ≤ 400000000000) :
    Calls Tryd.prog 48 #[.slice (some ⟨g, 0, none⟩) 2 2] w fun e w' => ∃ v', e = .returned v' ∧ w'.ownsRow w.heap.size 41 3 v' (xs.length + ys.length) (entV (xs ++ ys)) ∧ From w w' := by
  have d0 : ∀ w', From w w' → w'.cell? ⟨g, 0, none⟩ = some v1 := fun w' h => (h.cells g _ hg).trans c0
  have d1 : ∀ w', From w w' → w'.cell? ⟨g, 1, none⟩ = some v2 := fun w' h => (h.cells g _ hg).trans c1
  have H1 := Lib.hid h1
  have H2 := Lib.hid h2
  obtain ⟨A, cap, rfl, -⟩ := h1
  obtain ⟨B, cap2, rfl, -⟩ := h2
  have hgr := fun n (hn : n ≤ 1000000000000) w => grow_any n w hn
  have HG := Lib.hid hgr
  clear hgr c0 c1 hg
  have hww : From w w := From.rfl_
  go_enter Tryd.func48, Tryd.ntmps48
  go_wp2
  go_loopw [3, 11] (fun s i wr => ∃ j : Nat, j ≤ 2 ∧ i = .int .i64 j ∧ s = .int .i64 ((upto2 xs ys j).length : Nat) ∧ w = wr) (fun _ i _ => 2 - (intOf i).toNat)
  case atStart => exact ⟨0, by omega, rfl, by simp [upto2], rfl⟩
  case round =>
    obtain ⟨j, hj, rfl, rfl, rfl⟩ := hrel
    rcases (show j = 0 ∨ j = 1 ∨ j = 2 by omega) with rfl | rfl | rfl
    · have hd : decide ((xs.length : Int) < 0) = false := by simp
      simp only [upto2, List.length_nil]
      go_wp2
      go_roundw
      case rel => exact ⟨1, by omega, by go_num, by simp only [upto2], trivial⟩
      case measure => simp [intOf]
    · have hd : decide (((xs.length : Int) + (ys.length : Int)) < 0) = false := by simp; omega
      simp only [upto2]
      go_wp2
      go_roundw
      case rel => exact ⟨2, by omega, by go_num, by simp only [upto2, List.length_append]; go_num, trivial⟩
      case measure => simp [intOf]
    · simp only [upto2, List.length_append]
      obtain ⟨N, hN⟩ : ∃ N, N = xs.length + ys.length := ⟨_, rfl⟩
      rw [← hN]
      have HN := Lib.hid hN
      have hN9 : N ≤ 1000000000000 := by omega
      clear hN
      go_wp2_with (go_at_call 49; (with_reducible refine (HG.out N hN9 _).mono ?_); rintro e w1 ⟨v1, rfl, hown1, hw1⟩)
      go_loopw [6, 27] (fun v i wr => ∃ j : Nat, j ≤ 2 ∧ i = .int .i64 j ∧ wr.ownsRow w.heap.size 41 3 v (upto2 xs ys j).length (entV (upto2 xs ys j)) ∧ From w wr) (fun _ i _ => 2 - (intOf i).toNat)
      case atStart => exact ⟨0, by omega, rfl, hown1, hw1⟩
      case round =>
        clear hown1 hw1
        obtain ⟨j, hj, rfl, hown, hw⟩ := hrel
        rcases (show j = 0 ∨ j = 1 ∨ j = 2 by omega) with rfl | rfl | rfl
        · simp only [upto2] at hown
          have HO := Lib.hid hown
          clear hown
          go_wp2_with (at_builtin; refine wpList_pushe w rfl (.tmp 31) (.tmp 32) 25 rfl Tryd.underlying25 _ _ [] rfl HO.out hw _ xs rfl (H1.out.from_ hw) (by simp only [List.length_nil]; omega) ?_; intro v4 w4 hown4 hw4)
          go_roundw
          case rel => exact ⟨1, by omega, by go_num, by simpa [upto2] using hown4, hw4⟩
          case measure => simp [intOf]
        · simp only [upto2] at hown
          have HO := Lib.hid hown
          clear hown
          go_wp2_with (at_builtin; refine wpList_pushe w rfl (.tmp 31) (.tmp 32) 25 rfl Tryd.underlying25 _ _ xs rfl HO.out hw _ ys rfl (H2.out.from_ hw) (by omega) ?_; intro v4 w4 hown4 hw4)
          go_roundw
          case rel => exact ⟨2, by omega, by go_num, by simpa [upto2] using hown4, hw4⟩
          case measure => simp [intOf]
        · simp only [upto2, List.length_append] at hown
          have HO := Lib.hid hown
          clear hown
          go_wp2
          go_ret
          exact ⟨_, rfl, HO.out, hw⟩
end Go.Proofs.YtjliefglelcooaaDoor

namespace Go.Proofs.YtjliefglelcooaaDoor
open Go.RowKit

theorem ownsRow_le {w : World} {base base' size n : Nat} {e : TypeId} {v : Value} {xs : List Value} (h : w.ownsRow base e size v n xs) (hb : base' ≤ base) : w.ownsRow base' e size v n xs := by
  refine ⟨h.1, ?_⟩
  rcases h.2 with h2 | ⟨g, cap, cur, hv, hg, r⟩
  · exact .inl h2
  · exact .inr ⟨g, cap, cur, hv, Nat.le_trans hb hg, r⟩
theorem concat_built (W : World) (g : Nat) (v1 v2 : Value) (xs ys : List Ent) (hg : W.heap.size = g) (h1 : Ents W v1 xs) (h2 : Ents W v2 ys) (hl1 : xs.length ≤ 400000000000) (hl2 : ys.length ≤ 400000000000) :
    Calls Tryd.prog 48 #[.slice (some ⟨g, 0, none⟩) 2 2] (W.alloc (.cells #[v1, v2] 25)) fun e w' => ∃ v', e = .returned v' ∧ w'.ownsRow W.heap.size 41 3 v' (xs.length + ys.length) (entV (xs ++ ys)) ∧ From W w' := by
  subst hg
  have hb := Blk.new W 25 #[v1, v2]
  refine (concat_any W.heap.size v1 v2 xs ys _ hb.lt (by rw [hb.cell 0]; rfl) (by rw [hb.cell 1]; rfl) (h1.from_ (From.rfl_.new _)) (h2.from_ (From.rfl_.new _)) hl1 hl2).mono ?_
  rintro e w' ⟨v', h1, h2, h3⟩
  exact ⟨v', h1, ownsRow_le h2 (by simp), (From.rfl_.new _).next h3⟩

set_option maxRecDepth 100000 in
set_option maxHeartbeats 1000000 in
/-- joined: the first k entries, and others behind them -/
theorem joined_any (B T : Int) (k : Nat) (v u : Value) (xs ys : List Ent) (w : World) (h : Ents w v xs) (hu : Ents w u ys) (hB0 : 0 ≤ B) (hB1 : B ≤ 4611686018427387904) (hk : k ≤ xs.length) (hx : xs.length ≤ 400000000000) (hy : ys.length ≤ 400000000000) :
    Calls Tryd.prog 46 #[.agg #[.int .i64 B, .int .i64 T, v], .int .i64 (B + k), u] w fun e w' => ∃ v', e = .returned (.agg #[.int .i64 B, .int .i64 T, v']) ∧ w'.ownsRow w.heap.size 41 3 v' (k + ys.length) (entV (xs.take k ++ ys)) ∧ From w w' := by
  obtain ⟨f0, f1, f2, hbb, hwb⟩ := box_log (w := w) (B := B) (T := T) (v := v) (t := 72)
  have HU := Lib.hid hu
  obtain ⟨A, cap, rfl, hc1, hc2, hc3, hrow⟩ := id h
  obtain ⟨B2, cap2, rfl, -⟩ := id hu
  clear hc3 hrow
  have hcut := h.cut hk
  have HCUT := Lib.hid hcut
  have j0 : B + (k : Int) - B = (k : Int) := by omega
  have j1 : (0 : Int) ≤ (k : Int) := by omega
  have j2 : (k : Int) ≤ (xs.length : Int) := by omega
  have j3 : (k : Int) ≤ (cap : Int) := by omega
  have htl : (xs.take k).length = k := by simp [Nat.min_eq_left hk]
  clear hcut h hu
  go_enter Tryd.func46, Tryd.ntmps46
  have hcon := fun W g hg (h : From w W) => concat_built W g _ _ (xs.take k) ys hg (HCUT.out.from_ h) (HU.out.from_ h) (by omega) hy
  simp only [htl] at hcon
  have HC := Lib.hid hcon
  clear hcon
  have hwb2 : From w ((w.alloc (.cells #[.int .i64 B, .int .i64 T, .slice A xs.length cap] 72)).alloc (.cells #[.int .i64 0, .int .i64 0, .slice none 0 0] 72)) := hwb.new _
  have hbb2 : From (w.alloc (.cells #[.int .i64 B, .int .i64 T, .slice A xs.length cap] 72)) ((w.alloc (.cells #[.int .i64 B, .int .i64 T, .slice A xs.length cap] 72)).alloc (.cells #[.int .i64 0, .int .i64 0, .slice none 0 0] 72)) := hbb.new _
  have hne : w.heap.size ≠ w.heap.size + 1 := by omega
  have hz : (w.alloc (.cells #[.int .i64 B, .int .i64 T, .slice A xs.length cap] 72)).heap.size = w.heap.size + 1 := by simp
  have hk1 : ∀ w1, From ((w.alloc (.cells #[.int .i64 B, .int .i64 T, .slice A xs.length cap] 72)).alloc (.cells #[.int .i64 0, .int .i64 0, .slice none 0 0] 72)) w1 → Blk w1 w.heap.size 72 #[.int .i64 B, .int .i64 T, .slice A xs.length cap] ∧ Blk w1 (w.heap.size + 1) 72 #[.int .i64 0, .int .i64 0, .slice none 0 0] := fun w1 h => by
    refine ⟨(Blk.new w 72 _).from_ (hbb2.next h), ?_⟩
    have h2 := (Blk.new (w.alloc (.cells #[.int .i64 B, .int .i64 T, .slice A xs.length cap] 72)) 72 #[.int .i64 0, .int .i64 0, .slice none 0 0]).from_ h
    rw [hz] at h2
    exact h2
  have HK := Lib.hid hk1
  clear hk1
  have hk2 : ∀ w1 v1, From ((w.alloc (.cells #[.int .i64 B, .int .i64 T, .slice A xs.length cap] 72)).alloc (.cells #[.int .i64 0, .int .i64 0, .slice none 0 0] 72)) w1 →
      (w1.cell? ⟨w.heap.size, 2, none⟩ = some (.slice A xs.length cap) ∧ w1.frozen? ⟨w.heap.size, 2, none⟩ = false) ∧
      ((w1.setCell ⟨w.heap.size, 2, none⟩ v1).cell? ⟨w.heap.size, 0, none⟩ = some (.int .i64 B) ∧ (w1.setCell ⟨w.heap.size, 2, none⟩ v1).cell? ⟨w.heap.size, 1, none⟩ = some (.int .i64 T) ∧ (w1.setCell ⟨w.heap.size, 2, none⟩ v1).cell? ⟨w.heap.size, 2, none⟩ = some v1) ∧
      (Blk (w1.setCell ⟨w.heap.size, 2, none⟩ v1) (w.heap.size + 1) 72 #[.int .i64 0, .int .i64 0, .slice none 0 0]) := fun w1 v1 h => by
    obtain ⟨b1, b2⟩ := HK.out w1 h
    have b3 := b1.set_ 2 v1
    exact ⟨⟨by rw [b1.cell 2]; rfl, b1.frozen 2⟩, ⟨by rw [b3.cell 0]; rfl, by rw [b3.cell 1]; rfl, by rw [b3.cell 2]; rfl⟩, b2.far (p := ⟨w.heap.size, 2, none⟩) (by simp) v1⟩
  have HK2 := Lib.hid hk2
  clear hk2 HK
  go_wp2_with (go_at_call 48; (with_reducible refine (HC.out _ _ (by simp) hwb2).mono ?_); rintro e w1 ⟨v1, rfl, hown1, hb1⟩; obtain ⟨A4, c4, rfl⟩ := own_form hown1; have HO := Lib.hid hown1; clear hown1; obtain ⟨⟨q1, q2⟩, ⟨r0, r1, r2⟩, b4⟩ := HK2.out w1 (.slice A4 (k + ys.length) c4) hb1; have s0 := b4.cell 0; have s1 := b4.cell 1; have s2 := b4.cell 2; have t0 := b4.frozen 0; have t1 := b4.frozen 1; have t2 := b4.frozen 2; simp at s0 s1 s2)
  have b5 := ((b4.set_ 0 (.int .i64 B)).set_ 1 (.int .i64 T)).set_ 2 (.slice A4 (k + ys.length) c4)
  have x0 := b5.cell 0
  have x1 := b5.cell 1
  have x2 := b5.cell 2
  simp only [List.setIfInBounds_toArray, List.set_cons_zero, List.set_cons_succ] at x0 x1 x2
  clear hbb hbb2 HC HK2 HCUT HU b4 b5 q1 q2 r0 r1 r2 t0 t1 t2 s0 s1 s2
  (try simp only [Exit.inBlock, Exit.then])
  refine bodyPost_ret (v := .agg #[.int .i64 B, .int .i64 T, .slice A4 (k + ys.length) c4]) (by simp [results, Tryd.results46, go_sem, x0, x1, x2]) rfl ?_
  have hw1 := hwb2.next hb1
  refine ⟨_, rfl, ?_, ?_⟩
  · have ho := HO.out
    have hsz : ((w.alloc (.cells #[.int .i64 B, .int .i64 T, .slice A xs.length cap] 72)).alloc (.cells #[.int .i64 0, .int .i64 0, .slice none 0 0] 72)).heap.size = w.heap.size + 2 := by simp
    rw [hsz] at ho
    refine ownsRow_le (base := w.heap.size + 2) ?_ (by omega)
    refine ownsRow_setCell_below (ownsRow_setCell_below (ownsRow_setCell_below (ownsRow_setCell_below ho ?_ _) ?_ _) ?_ _) ?_ _
    all_goals (show _ < w.heap.size + 2; simp)
  · exact ((((From.set_ (a := w) hw1 (Nat.le_refl _) _).set_ (by simp) _).set_ (by simp) _).set_ (by simp) _)

def zeroLog : Value := .agg #[.int .i64 0, .int .i64 0, .slice none 0 0]
end Go.Proofs.YtjliefglelcooaaDoor

namespace Go.Proofs.YtjliefglelcooaaDoor
open Go.RowKit

abbrev boxed (w : World) (B T : Int) (v : Value) : World := w.alloc (.cells #[.int .i64 B, .int .i64 T, v] 72)
abbrev boxed2 (w : World) (B T : Int) (v : Value) : World := (w.alloc (.cells #[.int .i64 B, .int .i64 T, v] 72)).alloc (.cells #[.int .i64 0, .int .i64 0, .slice none 0 0] 72)
theorem boxed2_from (w : World) (B T : Int) (v : Value) : From w (boxed2 w B T v) := (From.rfl_.new _).new _
theorem boxed_from2 (w : World) (B T : Int) (v : Value) : From (boxed w B T v) (boxed2 w B T v) := From.rfl_.new _
theorem boxed2_res {w : World} {B T : Int} {v : Value} {w1 : World} (h : From (boxed2 w B T v) w1) : Blk w1 (w.heap.size + 1) 72 #[.int .i64 0, .int .i64 0, .slice none 0 0] := by
  have h2 := (Blk.new (w.alloc (.cells #[.int .i64 B, .int .i64 T, v] 72)) 72 #[.int .i64 0, .int .i64 0, .slice none 0 0]).from_ h
  have hz : (w.alloc (.cells #[.int .i64 B, .int .i64 T, v] 72)).heap.size = w.heap.size + 1 := by simp
  rw [hz] at h2
  exact h2
theorem res_facts {w1 : World} {g : Nat} {t : TypeId} {a b c : Value} (h : Blk w1 g t #[a, b, c]) :
    (w1.cell? ⟨g, 0, none⟩ = some a ∧ w1.cell? ⟨g, 1, none⟩ = some b ∧ w1.cell? ⟨g, 2, none⟩ = some c) ∧ (w1.frozen? ⟨g, 0, none⟩ = false ∧ w1.frozen? ⟨g, 1, none⟩ = false ∧ w1.frozen? ⟨g, 2, none⟩ = false) :=
  ⟨⟨by rw [h.cell 0]; rfl, by rw [h.cell 1]; rfl, by rw [h.cell 2]; rfl⟩, h.frozen 0, h.frozen 1, h.frozen 2⟩
abbrev put3 (w1 : World) (g : Nat) (x y z : Value) : World := ((w1.setCell ⟨g, 0, none⟩ x).setCell ⟨g, 1, none⟩ y).setCell ⟨g, 2, none⟩ z
theorem put3_cells {w1 : World} {g : Nat} {t : TypeId} {a b c : Value} (h : Blk w1 g t #[a, b, c]) (x y z : Value) :
    (put3 w1 g x y z).cell? ⟨g, 0, none⟩ = some x ∧ (put3 w1 g x y z).cell? ⟨g, 1, none⟩ = some y ∧ (put3 w1 g x y z).cell? ⟨g, 2, none⟩ = some z := by
  have b5 := ((h.set_ 0 x).set_ 1 y).set_ 2 z
  exact ⟨by rw [b5.cell 0]; rfl, by rw [b5.cell 1]; rfl, by rw [b5.cell 2]; rfl⟩
theorem put3_from {w w1 : World} {g : Nat} {x y z : Value} (h : From w w1) (hg : w.heap.size ≤ g) : From w (put3 w1 g x y z) := ((h.set_ (p := ⟨g, 0, none⟩) hg _).set_ (p := ⟨g, 1, none⟩) hg _).set_ (p := ⟨g, 2, none⟩) hg _

def apErr (B T : Int) (xs ys : List Ent) : Int := if mayLog B T xs = true then (if runs ys (lastI B xs) (lastT T xs) = true then (if xs.length + ys.length ≤ 512 then 0 else 6) else 1) else 1
def ApGot (w w' : World) (B T : Int) (xs : List Ent) (c : Int) (L : Value) : Prop :=
  (c ≠ 0 → L = zeroLog) ∧ (c = 0 → ∃ v', L = .agg #[.int .i64 B, .int .i64 T, v'] ∧ w'.ownsRow w.heap.size 41 3 v' xs.length (entV xs))

theorem may_term {B T : Int} {xs : List Ent} (h : mayLog B T xs = true) : 0 ≤ lastT T xs := by
  have go : ∀ (xs : List Ent) (B T : Int), 0 ≤ T → runs xs B T = true → 0 ≤ lastT T xs := by
    intro xs
    induction xs with
    | nil => intro B T hT _; simpa [lastT] using hT
    | cons e r ih =>
      intro B T hT h
      simp only [runs, Bool.and_eq_true] at h
      have he : 0 ≤ e.t := by
        have := h.1
        simp only [entOk, Bool.and_eq_true, decide_eq_true_eq] at this
        have := inb_true this.1.2
        omega
      cases r with
      | nil => simpa [lastT] using he
      | cons f q =>
        have h1 := ih (B + 1) e.t he h.2
        obtain ⟨l, hl⟩ : ∃ l, (f :: q).getLast? = some l := by
          rw [List.getLast?_eq_getElem?]
          exact ⟨_, List.getElem?_eq_getElem (by simp)⟩
        unfold lastT at h1 ⊢
        rw [List.getLast?_cons_cons, hl]
        rw [hl] at h1
        exact h1
  simp only [mayLog, Bool.and_eq_true, decide_eq_true_eq] at h
  obtain ⟨⟨⟨h1, h2⟩, h3⟩, h4⟩ := h
  exact go xs B T (inb_true h2).1 h4
theorem runs_lastI : ∀ (xs : List Ent) (B T : Int), runs xs B T = true → lastI B xs = B + xs.length
  | [], B, T, _ => by simp [lastI]
  | [e], B, T, h => by
    simp only [runs, entOk, Bool.and_eq_true, decide_eq_true_eq] at h
    simp [lastI]
    omega
  | e :: f :: r, B, T, h => by
    simp only [runs, Bool.and_eq_true] at h
    have he : e.i = B + 1 := by
      have := h.1
      simp only [entOk, Bool.and_eq_true, decide_eq_true_eq] at this
      omega
    have ih := runs_lastI (f :: r) (B + 1) e.t (by simp only [runs, Bool.and_eq_true]; exact h.2)
    have : lastI B (e :: f :: r) = lastI (B + 1) (f :: r) := by
      obtain ⟨l, hl⟩ : ∃ l, (f :: r).getLast? = some l := by
        rw [List.getLast?_eq_getElem?]
        exact ⟨_, List.getElem?_eq_getElem (by simp)⟩
      unfold lastI
      rw [List.getLast?_cons_cons, hl]
    rw [this, ih]
    simp only [List.length_cons]
    omega
theorem may_lastI {B T : Int} {xs : List Ent} (h : mayLog B T xs = true) : lastI B xs = B + xs.length ∧ 0 ≤ B ∧ B ≤ 1099511625728 ∧ xs.length ≤ 512 := by
  simp only [mayLog, Bool.and_eq_true, decide_eq_true_eq] at h
  obtain ⟨⟨⟨h1, h2⟩, h3⟩, h4⟩ := h
  have := inb_true h1
  exact ⟨runs_lastI xs B T h4, this.1, this.2, h3⟩

theorem ents_own {w : World} {base : Nat} {v : Value} {n : Nat} {xs : List Ent} (h : w.ownsRow base 41 3 v n (entV xs)) (hn : xs.length = n) : Ents w v xs := Ents.of_own h hn
def one : List Ent := [⟨1, 1, ⟨#[]⟩⟩]
theorem one_blk {w : World} {g : Nat} (h : Blk w g 41 #[.int .i64 1, .int .i64 1, .string ⟨#[]⟩]) : Ents w (.slice (some ⟨g, 0, none⟩) 1 1) one := by
  refine ⟨_, _, rfl, by decide, by decide, fun h => (by cases h), fun _ => ⟨g, 0, rfl, h.lt, fun i hi => ?_⟩⟩
  obtain rfl : i = 0 := by simp [one] at hi; omega
  exact ⟨by show w.cell? ⟨g, 0, none⟩ = _; rw [h.cell 0]; rfl, by show w.cell? ⟨g, 1, none⟩ = _; rw [h.cell 1]; rfl, by show w.cell? ⟨g, 2, none⟩ = _; rw [h.cell 2]; rfl⟩
theorem one_ap : apErr 0 0 [] one = 0 := by decide

end Go.Proofs.YtjliefglelcooaaDoor

namespace Go.Proofs.YtjliefglelcooaaDoor
open Go.RowKit

theorem blk_new_at (W : World) (g : Nat) (hg : W.heap.size = g) (t : TypeId) (cs : Array Value) : Blk (W.alloc (.cells cs t)) g t cs := hg ▸ Blk.new W t cs
theorem ent_blk {w : World} {g : Nat} {e : Ent} (h : Blk w g 41 #[.int .i64 e.i, .int .i64 e.t, .string e.d]) : Ents w (.slice (some ⟨g, 0, none⟩) 1 1) [e] := by
  refine ⟨_, _, rfl, by simp, by decide, fun h => (by cases h), fun _ => ⟨g, 0, rfl, h.lt, fun i hi => ?_⟩⟩
  obtain rfl : i = 0 := by simp at hi; omega
  exact ⟨by show w.cell? ⟨g, 0, none⟩ = _; rw [h.cell 0]; rfl, by show w.cell? ⟨g, 1, none⟩ = _; rw [h.cell 1]; rfl, by show w.cell? ⟨g, 2, none⟩ = _; rw [h.cell 2]; rfl⟩

set_option maxRecDepth 100000 in
set_option maxHeartbeats 1000000 in
theorem copyEntries_any (v : Value) (xs : List Ent) (w : World) (h : Ents w v xs) (hl : xs.length ≤ 400000000000) :
    Calls Tryd.prog 31 #[v] w fun e w' => ∃ v', e = .returned v' ∧ w'.ownsRow w.heap.size 41 3 v' xs.length (entV xs) ∧ From w w' := by
  obtain ⟨A, cap, rfl, hc1, hc2, hc3, hrow⟩ := h
  go_enter Tryd.func31, Tryd.ntmps31
  go_wp2
  go_loopw [3, 4] (fun v i wr => ∃ j : Nat, j ≤ xs.length ∧ i = .int .i64 j ∧ wr.ownsRow w.heap.size 41 3 v j (entV (xs.take j)) ∧ From w wr) (fun _ i _ => xs.length - (intOf i).toNat)
  case atStart => exact ⟨0, by omega, rfl, World.ownsRow_nil _ _ _ _, From.rfl_⟩
  case round =>
    obtain ⟨j, hj, rfl, hown, hw⟩ := hrel
    by_cases hlt : j < xs.length
    · obtain ⟨b, o, rfl, hb, hc⟩ := hrow (by omega)
      obtain ⟨c1, c2, c3⟩ := hc j hlt
      have d1 : ∀ w', From w w' → w'.cell? ⟨b, o + j * 3, none⟩ = some (.int .i64 xs[j].i) := fun w' h => (h.cells b _ hb).trans c1
      have d2 : ∀ w', From w w' → w'.cell? ⟨b, o + j * 3 + 1, none⟩ = some (.int .i64 xs[j].t) := fun w' h => (h.cells b _ hb).trans c2
      have d3 : ∀ w', From w w' → w'.cell? ⟨b, o + j * 3 + 2, none⟩ = some (.string xs[j].d) := fun w' h => (h.cells b _ hb).trans c3
      have i1 : (0 : Int) ≤ (j : Int) := by omega
      have i2 : (j : Int) < (xs.length : Int) := by omega
      have hsn : xs.take (j + 1) = xs.take j ++ [xs[j]] := List.take_succ_eq_append_getElem hlt
      have HS := Lib.hid hsn
      have HO := Lib.hid hown
      clear hc c1 c2 c3 hrow hsn hown
      generalize xs[j] = e at *
      have hjn : j + [e].length ≤ 1000000000000 := by simp; omega
      go_wp2_with (at_builtin; refine wpList_pushe w rfl (.tmp 11) (.tmp 16) 25 rfl Tryd.underlying25 _ j (xs.take j) rfl (HO.out.alloc _) (hw.new _) _ [e] rfl (ent_blk (Blk.new _ _ _)) hjn ?_; intro v1 w1 hown1 hw1)
      go_roundw
      case rel => exact ⟨j + 1, by omega, by go_num, by rw [HS.out]; exact hown1, hw1⟩
      case measure => simp [intOf]; omega
    · obtain hjl : j = xs.length := by omega
      have HJ := Lib.hid hjl
      clear hjl
      go_wp2
      go_ret
      exact ⟨_, rfl, by rw [HJ.out, List.take_length] at hown; exact hown, hw⟩

abbrev boxed3 (w : World) (B T : Int) (v : Value) : World := (boxed2 w B T v).alloc (.cells #[.int .i64 B, .int .i64 T, v] 72)
end Go.Proofs.YtjliefglelcooaaDoor

namespace Go.Proofs.YtjliefglelcooaaDoor
open Go.RowKit

def cutErr (B T : Int) (xs : List Ent) (i : Int) : Int := if mayLog B T xs = true then (if B ≤ i ∧ i ≤ lastI B xs then 0 else 1) else 1

end Go.Proofs.YtjliefglelcooaaDoor

namespace Go.Proofs.YtjliefglelcooaaDoor
open Go.RowKit

/-- the term at an index of a log that holds it -/
def termI (B T : Int) (xs : List Ent) (i : Int) : Int := if i = B then T else match xs[(i - B - 1).toNat]? with | some e => e.t | none => 0

set_option maxRecDepth 100000 in
set_option maxHeartbeats 1000000 in
theorem termAt_any (B T i : Int) (v : Value) (xs : List Ent) (w : World) (h : Ents w v xs) (hB0 : 0 ≤ B) (hB1 : B ≤ 4611686018427387904) (hi0 : B ≤ i) (hi1 : i ≤ B + xs.length) (hl : xs.length ≤ 140737488351232) :
    Calls Tryd.prog 45 #[.agg #[.int .i64 B, .int .i64 T, v], .int .i64 i] w fun e w' => e = .returned (.int .i64 (termI B T xs i)) ∧ From w w' := by
  obtain ⟨f0, f1, f2, hbb, hwb⟩ := box_log (w := w) (B := B) (T := T) (v := v) (t := 72)
  obtain ⟨A, cap, rfl, hc1, hc2, hc3, hrow⟩ := h
  by_cases h0 : i = B
  · have e0 : (i == B) = true := by simpa using h0
    have ht : termI B T xs i = T := if_pos h0
    rw [ht]
    clear h0 hi0 hi1 ht
    go_enter Tryd.func45, Tryd.ntmps45
    go_wp2
    go_ret
    exact ⟨rfl, hwb⟩
  · have e0 : (i == B) = false := by simpa using h0
    obtain ⟨k, hk⟩ : ∃ k : Nat, i = B + k + 1 := ⟨(i - B - 1).toNat, by omega⟩
    have hkl : k < xs.length := by omega
    have ht : termI B T xs i = xs[k].t := by
      unfold termI
      rw [if_neg h0, show (i - B - 1).toNat = k by omega, List.getElem?_eq_getElem hkl]
    obtain ⟨b, o, rfl, hb, hc⟩ := hrow (by omega)
    obtain ⟨c1, c2, c3⟩ := hc k hkl
    have d2 : ∀ w', From w w' → w'.cell? ⟨b, o + k * 3 + 1, none⟩ = some (.int .i64 xs[k].t) := fun w' h => (h.cells b _ hb).trans c2
    rw [ht]
    have j0 : i - B - 1 = (k : Int) := by omega
    have j1 : (0 : Int) ≤ (k : Int) := by omega
    have j2 : (k : Int) < (xs.length : Int) := by omega
    clear hc c1 c2 c3 hrow ht h0 hk
    generalize xs[k].t = y at *
    go_enter Tryd.func45, Tryd.ntmps45
    go_wp2
    go_ret
    exact ⟨rfl, hwb⟩

def termV (B T : Int) (xs : List Ent) (i : Int) : Value :=
  if mayLog B T xs = true then (if B ≤ i ∧ i ≤ lastI B xs then .tuple #[.int .i64 (termI B T xs i), .int .i64 0] else .tuple #[.int .i64 0, .int .i64 3]) else .tuple #[.int .i64 0, .int .i64 1]
theorem runs_last : ∀ (xs : List Ent) (B T : Int), runs xs B T = true → lastI B xs = B + xs.length
  | [], B, T, _ => by simp [lastI]
  | [e], B, T, h => by
    simp only [runs, entOk, Bool.and_eq_true, decide_eq_true_eq] at h
    simp [lastI]
    omega
  | e :: f :: r, B, T, h => by
    simp only [runs, Bool.and_eq_true] at h
    have he : e.i = B + 1 := by
      have := h.1
      simp only [entOk, Bool.and_eq_true, decide_eq_true_eq] at this
      omega
    have ih := runs_last (f :: r) (B + 1) e.t (by simp only [runs, Bool.and_eq_true]; exact h.2)
    have : lastI B (e :: f :: r) = lastI (B + 1) (f :: r) := by
      obtain ⟨l, hl⟩ : ∃ l, (f :: r).getLast? = some l := by
        rw [List.getLast?_eq_getElem?]
        exact ⟨_, List.getElem?_eq_getElem (by simp)⟩
      unfold lastI
      rw [List.getLast?_cons_cons, hl]
    rw [this, ih]
    simp only [List.length_cons]
    omega
theorem may_last {B T : Int} {xs : List Ent} (h : mayLog B T xs = true) : lastI B xs = B + xs.length ∧ 0 ≤ B ∧ B ≤ 1099511625728 ∧ xs.length ≤ 512 := by
  simp only [mayLog, Bool.and_eq_true, decide_eq_true_eq] at h
  obtain ⟨⟨⟨h1, h2⟩, h3⟩, h4⟩ := h
  have := inb_true h1
  exact ⟨runs_last xs B T h4, this.1, this.2, h3⟩

def refTermV (B T : Int) (xs : List Ent) (i : Int) : Value :=
  if B ≤ i ∧ i ≤ lastI B xs then .tuple #[.int .i64 (termI B T xs i), .bool true] else .tuple #[.int .i64 0, .bool false]
end Go.Proofs.YtjliefglelcooaaDoor

namespace Go.Proofs.YtjliefglelcooaaDoor
open Go.RowKit

/-! ### the frame -/
def look : List (Nat × Value) → Nat → Value
  | [], _ => undef
  | (k, v) :: r, i => bif Nat.beq i k then v else look r i
theorem look_cons (k : Nat) (v : Value) (r : List (Nat × Value)) (i : Nat) : look ((k, v) :: r) i = if i = k then v else look r i := by
  show cond (Nat.beq i k) v (look r i) = _
  by_cases h : i = k
  · subst h; simp
  · have : Nat.beq i k = false := by rw [← Bool.not_eq_true, Nat.beq_eq]; exact h
    rw [this, if_neg h]; rfl
def mkT (n : Nat) (L : List (Nat × Value)) : Array Value := Array.ofFn (n := n) fun i => look L i
def mkA (n : Nat) (L : List (Nat × Value)) : Act := { tmps := mkT n L, defers := [] }
theorem mkT_get (n : Nat) (L : List (Nat × Value)) (t : Nat) : (mkT n L)[t]? = if t < n then some (look L t) else none := by
  unfold mkT
  rw [Array.getElem?_ofFn]
  rfl
def ev (n : Nat) (L : List (Nat × Value)) : Operand → Value
  | .tmp t => bif Nat.blt t n then look L t else undef
  | .const v => v
  | .global g => .pointer (some ⟨g, 0, none⟩)
  | .func f => .func (.func f) #[] #[]
theorem blt_iff (t n : Nat) : Nat.blt t n = decide (t < n) := by
  by_cases h : t < n
  · rw [decide_eq_true h]; exact Nat.ble_eq_true_of_le h
  · rw [decide_eq_false h, ← Bool.not_eq_true]; intro h2; exact h (Nat.le_of_ble_eq_true h2)
theorem getD_mkT (n : Nat) (L : List (Nat × Value)) (t : Nat) : (mkT n L).getD t undef = bif Nat.blt t n then look L t else undef := by
  rw [Array.getD_eq_getD_getElem?, mkT_get, blt_iff]
  by_cases h : t < n
  · simp [h]
  · simp [h]
theorem eval_mkA (n : Nat) (L : List (Nat × Value)) : (mkA n L).eval = ev n L := by
  funext x
  cases x with
  | tmp t => exact getD_mkT n L t
  | _ => rfl
theorem mkT_congr {n : Nat} {L L' : List (Nat × Value)} (h : ∀ t, t < n → look L t = look L' t) : mkT n L = mkT n L' := by
  unfold mkT
  congr 1
  funext i
  exact h i i.2
theorem mkA_congr {n : Nat} {L L' : List (Nat × Value)} (h : ∀ t, t < n → look L t = look L' t) : mkA n L = mkA n L' := by
  unfold mkA
  rw [mkT_congr h]
theorem put_mkA (n : Nat) (L : List (Nat × Value)) (d : Nat) (v : Value) : (mkA n L).put (some d) v = mkA n ((d, v) :: L) := by
  show (⟨(mkT n L).setIfInBounds d v, []⟩ : Act) = ⟨mkT n ((d, v) :: L), []⟩
  congr 1
  apply Array.ext_getElem?
  intro i
  rw [Array.getElem?_setIfInBounds, mkT_get, mkT_get, look_cons]
  by_cases h : i < n
  · by_cases hd : d = i
    · subst hd
      have hs : (mkT n L).size = n := by simp [mkT]
      simp [h, hs]
    · have hd' : ¬ i = d := fun e => hd e.symm
      simp [hd, hd', h]
  · by_cases hd : d = i
    · subst hd
      have hs : (mkT n L).size = n := by simp [mkT]
      simp [h, hs]
    · simp [hd, h]
def putL : Option Nat → Value → List (Nat × Value) → List (Nat × Value)
  | some d, v, L => (d, v) :: L
  | none, _, L => L
theorem put_mkA' (n : Nat) (L : List (Nat × Value)) (d : Option Nat) (v : Value) : (mkA n L).put d v = mkA n (putL d v L) := by
  cases d with
  | none => rfl
  | some d => exact put_mkA n L d v
def argsL : Nat → List Value → List (Nat × Value)
  | _, [] => []
  | i, v :: r => (i, v) :: argsL (i + 1) r
theorem look_argsL (l : List Value) : ∀ (i t : Nat), look (argsL i l) t = if i ≤ t then (l[t - i]?).getD undef else undef := by
  induction l with
  | nil => intro i t; simp [argsL, look]
  | cons v r ih =>
    intro i t
    rw [argsL, look_cons, ih]
    by_cases h : t = i
    · subst h; simp
    · by_cases h2 : i ≤ t
      · have : t - i = (t - (i + 1)) + 1 := by omega
        rw [if_neg h, if_pos h2, if_pos (by omega), this, List.getElem?_cons_succ]
      · rw [if_neg h, if_neg h2, if_neg (by omega)]
theorem args_mkT (n : Nat) (l : List Value) (h : l.length ≤ n) : l.toArray ++ Array.replicate (n - l.toArray.size) undef = mkT n (argsL 0 l) := by
  apply Array.ext_getElem?
  intro i
  rw [mkT_get, look_argsL, Array.getElem?_append]
  simp only [List.size_toArray, List.getElem?_toArray, Nat.zero_le, if_true, Nat.sub_zero, Array.getElem?_replicate]
  by_cases h1 : i < l.length
  · rw [if_pos h1, if_pos (by omega), List.getElem?_eq_getElem h1]; rfl
  · rw [if_neg h1]
    by_cases h2 : i < n
    · rw [if_pos h2, if_pos (by omega), List.getElem?_eq_none (by omega)]; rfl
    · rw [if_neg h2, if_neg (by omega)]

theorem int_eq {k : IntKind} {a b : Int} (h : a = b) : Value.int k a = Value.int k b := by rw [h]
/-! ### what a test's Bool says -/
theorem bn_t {b : Bool} (h : (!b) = true) : b = false := by cases b <;> simp_all
theorem bn_f {b : Bool} (h : (!b) = false) : b = true := by cases b <;> simp_all
theorem be_t {α : Type} [BEq α] [LawfulBEq α] {a b : α} (h : (a == b) = true) : a = b := eq_of_beq h
theorem be_f {α : Type} [BEq α] [LawfulBEq α] {a b : α} (h : (a == b) = false) : ¬ a = b := ne_of_beq_false h
theorem bx_t {α : Type} [BEq α] [LawfulBEq α] {a b : α} (h : (a != b) = true) : ¬ a = b := by simpa using h
theorem bx_f {α : Type} [BEq α] [LawfulBEq α] {a b : α} (h : (a != b) = false) : a = b := by simpa using h
/-! ### the judgements -/
structure Cd (P : Program) (c : Code) (Q : Exit → Act → World → Prop) (n : Nat) (L : List (Nat × Value)) (w : World) : Prop where
  out : c.wp P Q (mkA n L) w
structure St (P : Program) (ops : Array Oper) (Q : Exit → Act → World → Prop) (rest : List Oper) (n : Nat) (L : List (Nat × Value)) (w : World) : Prop where
  out : wpList P ops Q rest (mkA n L) w
/-- what is asked of a function: it returns, so -/
def Rt (P : Program) (f : FuncId) (l : List Value) (w : World) (R : Value → World → Prop) : Prop := Calls P f l.toArray w fun e w' => ∃ v, e = .returned v ∧ R v w'
theorem Rt.mono {P : Program} {f : FuncId} {l : List Value} {w : World} {R R' : Value → World → Prop} (h : Rt P f l w R) (hr : ∀ v w', R v w' → R' v w') : Rt P f l w R' :=
  Calls.mono h fun _ _ ⟨v, e, r⟩ => ⟨v, e, hr v _ r⟩
/-- from a contract of the elder form -/
theorem Rt.of {P : Program} {f : FuncId} {l : List Value} {w : World} {v : Value} {R : World → Prop} (h : Calls P f l.toArray w fun e w' => e = .returned v ∧ R w') : Rt P f l w fun v' w' => v' = v ∧ R w' :=
  Calls.mono h fun _ _ ⟨e, r⟩ => ⟨v, e, rfl, r⟩
theorem Rt.to {P : Program} {f : FuncId} {l : List Value} {w : World} {v : Value} {R : World → Prop} (h : Rt P f l w fun v' w' => v' = v ∧ R w') : Calls P f l.toArray w fun e w' => e = .returned v ∧ R w' :=
  Calls.mono h fun _ _ ⟨_, e, e2, r⟩ => ⟨by rw [e, e2], r⟩

section control
variable {P : Program} {Q : Exit → Act → World → Prop} {n : Nat} {L : List (Nat × Value)} {w : World}
theorem enter {f : FuncId} {fn : Func} {c : Code} {l : List Value} {R : Value → World → Prop} (hf : P.funcs[f]? = some fn) (hb : fn.body = some c) (hn : fn.ntmps = n) (hl : Nat.ble l.length n = true)
    (h : Cd P c (bodyPost P fn fun e w' => ∃ v, e = .returned v ∧ R v w') n (argsL 0 l) w) : Rt P f l w R := by
  refine calls_of_wp hf hb ?_
  rw [hn, args_mkT n l (Nat.le_of_ble_eq_true hl)]
  exact h.out
theorem cd_skip (h : Q .normal (mkA n L) w) : Cd P .skip Q n L w := ⟨wp_skip h⟩
theorem cd_seq {x y : Code} (h : Cd P x (Exit.then (fun a w => y.wp P Q a w) Q) n L w) : Cd P (.seq x y) Q n L w := ⟨wp_seq h.out⟩
theorem cd_block {id : Nat} {c : Code} (h : Cd P c (Exit.inBlock id Q) n L w) : Cd P (.block id c) Q n L w := ⟨wp_block h.out⟩
theorem cd_exit {id : Nat} (h : Q (.exit id) (mkA n L) w) : Cd P (.exit id) Q n L w := ⟨wp_exit h⟩
theorem cd_ret (h : Q .ret (mkA n L) w) : Cd P .ret Q n L w := ⟨wp_ret h⟩
theorem cd_cond {c : Operand} {x y : Code} {t : Bool} (hc : ev n L c = .bool t) (ht : t = true → Cd P x Q n L w) (hf : t = false → Cd P y Q n L w) : Cd P (.cond c x y) Q n L w :=
  ⟨wp_cond_split (by rw [eval_mkA]; exact hc) (fun h => (ht h).out) (fun h => (hf h).out)⟩
theorem cd_condT {c : Operand} {x y : Code} (hc : ev n L c = .bool true) (ht : Cd P x Q n L w) : Cd P (.cond c x y) Q n L w :=
  ⟨wp_cond_true (by rw [eval_mkA]; exact hc) ht.out⟩
theorem cd_condF {c : Operand} {x y : Code} (hc : ev n L c = .bool false) (ht : Cd P y Q n L w) : Cd P (.cond c x y) Q n L w :=
  ⟨wp_cond_false (by rw [eval_mkA]; exact hc) ht.out⟩
theorem cd_region {id : Nat} {l : List Oper} (h : St P l.toArray Q l n L w) : Cd P (.region id l.toArray false) Q n L w := ⟨wp_region_lit h.out⟩
theorem st_nil {ops : Array Oper} (h : Q .normal (mkA n L) w) : St P ops Q [] n L w := ⟨h⟩
variable {y : Code} {K : Act → World → Prop} {a : Act}
theorem nx_then (h : Cd P y Q n L w) : Exit.then (fun a w => y.wp P Q a w) Q .normal (mkA n L) w := h.out
theorem nx_block {id : Nat} (h : Q .normal a w) : Exit.inBlock id Q .normal a w := h
theorem ex_then {id : Nat} (h : Q (.exit id) a w) : Exit.then K Q (.exit id) a w := h
theorem ex_block {id : Nat} (h : Q .normal a w) : Exit.inBlock id Q (.exit id) a w := by
  show (if id = id then Q .normal a w else Q (.exit id) a w)
  rw [if_pos rfl]
  exact h
theorem ex_past {id j : Nat} (hj : Nat.beq j id = false) (h : Q (.exit j) a w) : Exit.inBlock id Q (.exit j) a w := by
  show (if j = id then Q .normal a w else Q (.exit j) a w)
  rw [if_neg (fun e => by subst e; simp at hj)]
  exact h
theorem rt_then (h : Q .ret a w) : Exit.then K Q .ret a w := h
theorem rt_block {id : Nat} (h : Q .ret a w) : Exit.inBlock id Q .ret a w := h
/-- the ends -/
theorem res1 {fn : Func} {t : Nat} {R : Value → World → Prop} {v : Value} (hr : fn.results = #[.tmp t]) (hv : ev n L (.tmp t) = v) (h : R v w) :
    bodyPost P fn (fun e w' => ∃ v, e = .returned v ∧ R v w') .ret (mkA n L) w :=
  bodyPost_ret (results_tmp hr _ _ _) rfl ⟨v, by rw [← hv]; exact congrArg Ending.returned (getD_mkT n L t), h⟩
theorem res2 {fn : Func} {t u : Nat} {R : Value → World → Prop} {v v' : Value} (hr : fn.results = #[.tmp t, .tmp u]) (hv : ev n L (.tmp t) = v) (hv' : ev n L (.tmp u) = v') (h : R (.tuple #[v, v']) w) :
    bodyPost P fn (fun e w' => ∃ v, e = .returned v ∧ R v w') .ret (mkA n L) w :=
  bodyPost_ret (results_tmp2 hr _ _ _) rfl ⟨.tuple #[v, v'], by rw [← hv, ← hv']; show Ending.returned (.tuple #[(mkT n L).getD t undef, (mkT n L).getD u undef]) = _; rw [getD_mkT, getD_mkT]; rfl, h⟩
theorem res3 {fn : Func} {t u s : Nat} {R : Value → World → Prop} {v v' v'' : Value} (hr : fn.results = #[.tmp t, .tmp u, .tmp s]) (hv : ev n L (.tmp t) = v) (hv' : ev n L (.tmp u) = v') (hv'' : ev n L (.tmp s) = v'') (h : R (.tuple #[v, v', v'']) w) :
    bodyPost P fn (fun e w' => ∃ v, e = .returned v ∧ R v w') .ret (mkA n L) w :=
  bodyPost_ret (results_tmp3 hr _ _ _) rfl ⟨.tuple #[v, v', v''], by rw [← hv, ← hv', ← hv'']; show Ending.returned (.tuple #[(mkT n L).getD t undef, (mkT n L).getD u undef, (mkT n L).getD s undef]) = _; rw [getD_mkT, getD_mkT, getD_mkT]; rfl, h⟩
theorem res0 {fn : Func} {R : Value → World → Prop} (hr : fn.results = #[]) (h : R (.tuple #[]) w) :
    bodyPost P fn (fun e w' => ∃ v, e = .returned v ∧ R v w') .ret (mkA n L) w :=
  bodyPost_ret (results_none hr _ _ _) rfl ⟨_, rfl, h⟩
theorem end_ret {fn : Func} {R : Ending → World → Prop} (h : bodyPost P fn R .ret a w) : bodyPost P fn R .normal a w := h
end control

/-! ### loops and meeting points -/
def Agr (Wr : List Nat) (L' L : List (Nat × Value)) : Prop := ∀ t, Wr.elem t = false → look L' t = look L t
theorem agr_rfl {Wr : List Nat} {L : List (Nat × Value)} : Agr Wr L L := fun _ _ => rfl
theorem agr_cons {Wr : List Nat} {L' L : List (Nat × Value)} {d : Nat} {v : Value} (hd : Wr.elem d = true) (h : Agr Wr L' L) : Agr Wr ((d, v) :: L') L := fun t ht => by
  rw [look_cons, if_neg (fun e => by subst e; rw [hd] at ht; cases ht)]
  exact h t ht
def AllV (L' : List (Nat × Value)) : List (Nat × Value) → Prop
  | [] => True
  | (t, v) :: r => look L' t = v ∧ AllV L' r
def junk (J : List Nat) (ρ : Nat → Value) (L : List (Nat × Value)) : List (Nat × Value) := J.foldr (fun t r => (t, ρ t) :: r) L
theorem look_junk (J : List Nat) (ρ : Nat → Value) (L : List (Nat × Value)) (t : Nat) : look (junk J ρ L) t = if J.elem t then ρ t else look L t := by
  induction J with
  | nil => rfl
  | cons j J ih =>
    show look ((j, ρ j) :: junk J ρ L) t = _
    rw [look_cons, ih]
    by_cases h : t = j
    · subst h; simp
    · have : (j :: J).elem t = J.elem t := by simp [List.elem_cons, h]
      rw [if_neg h, this]
theorem look_app (V L : List (Nat × Value)) (t : Nat) : look (V ++ L) t = if (V.map (·.1)).elem t then look V t else look L t := by
  induction V with
  | nil => rfl
  | cons x V ih =>
    obtain ⟨k, v⟩ := x
    show look ((k, v) :: (V ++ L)) t = if ((k :: V.map (·.1)).elem t) then look ((k, v) :: V) t else _
    rw [look_cons, look_cons, ih]
    by_cases h : t = k
    · subst h; simp
    · have : (k :: V.map (·.1)).elem t = (V.map (·.1)).elem t := by simp [List.elem_cons, h]
      rw [if_neg h, this, if_neg h]
theorem allV_look {L' : List (Nat × Value)} : ∀ {V : List (Nat × Value)}, AllV L' V → ∀ t, (V.map (·.1)).elem t = true → look L' t = look V t
  | [], _, t, h => by simp at h
  | (k, v) :: V, ⟨h1, h2⟩, t, h => by
    rw [look_cons]
    by_cases e : t = k
    · subst e; rw [if_pos rfl]; exact h1
    · rw [if_neg e]
      exact allV_look h2 t (by simpa [List.elem_cons, e] using h)
/-- the frame at a head: these slots hold these values, those hold anything, the others hold what L has -/
def hd (V : List (Nat × Value)) (J : List Nat) (ρ : Nat → Value) (L : List (Nat × Value)) : List (Nat × Value) := V ++ junk J ρ L
theorem hd_of {n : Nat} {V : List (Nat × Value)} {J : List Nat} {L' L : List (Nat × Value)} (hv : AllV L' V) (hj : Agr (V.map (·.1) ++ J) L' L) : mkA n L' = mkA n (hd V J (look L') L) := by
  refine mkA_congr fun t _ => ?_
  unfold hd
  rw [look_app, look_junk]
  by_cases h1 : (V.map (·.1)).elem t = true
  · rw [if_pos h1]; exact allV_look hv t h1
  · rw [if_neg h1]
    by_cases h2 : J.elem t = true
    · rw [if_pos h2]
    · rw [if_neg h2]
      refine hj t ?_
      rw [Bool.not_eq_true] at h1 h2
      simp only [List.elem_eq_mem, decide_eq_false_iff_not] at h1 h2 ⊢
      simp only [List.mem_append, not_or]
      exact ⟨h1, h2⟩
/-- what is known at a head -/
def At (n : Nat) (L : List (Nat × Value)) (J : List Nat) {G : Type} (V : G → List (Nat × Value)) (F : G → World → Prop) (a : Act) (w : World) : Prop := ∃ g ρ, a = mkA n (hd (V g) J ρ L) ∧ F g w
theorem at_mk {n : Nat} {L L' : List (Nat × Value)} {J : List Nat} {G : Type} {V : G → List (Nat × Value)} {F : G → World → Prop} {w : World} (g : G) (hv : AllV L' (V g)) (hj : Agr ((V g).map (·.1) ++ J) L' L) (hF : F g w) :
    At n L J V F (mkA n L') w := ⟨g, look L', hd_of hv hj, hF⟩
section
variable {P : Program} {Q : Exit → Act → World → Prop} {n : Nat} {L : List (Nat × Value)} {w : World} {G : Type}
theorem cd_cut {x y : Code} (J : List Nat) (V : G → List (Nat × Value)) (F : G → World → Prop) (hx : Cd P x (Exit.then (At n L J V F) Q) n L w)
    (hy : ∀ g ρ w', F g w' → Cd P y Q n (hd (V g) J ρ L) w') : Cd P (.seq x y) Q n L w := by
  refine ⟨wp_seq (wp_mono hx.out fun e a w' q => ?_)⟩
  cases e <;> first
    | exact q
    | (obtain ⟨g, ρ, rfl, hF⟩ := q; exact (hy g ρ w' hF).out)
theorem nx_cut {L0 : List (Nat × Value)} {J : List Nat} {V : G → List (Nat × Value)} {F : G → World → Prop} (g : G) (hv : AllV L (V g)) (hj : Agr ((V g).map (·.1) ++ J) L L0) (hF : F g w) : Exit.then (At n L0 J V F) Q .normal (mkA n L) w :=
  at_mk g hv hj hF
/-- a loop: its head, a measure on what is named there -/
theorem cd_loop {c : Code} (J : List Nat) (V : G → List (Nat × Value)) (F : G → World → Prop) (μ : G → Nat) (g0 : G) (hv : AllV L (V g0)) (hF : F g0 w)
    (round : ∀ g ρ w', F g w' → Cd P c (Exit.then (At n L J V (fun g' w'' => F g' w'' ∧ μ g' < μ g)) Q) n (hd (V g) J ρ L) w') : Cd P (.loop c) Q n L w := by
  refine ⟨wp_loop_ghost (fun m a w => At n L J V (fun g w => F g w ∧ μ g = m) a w) (μ g0) ⟨g0, look L, hd_of hv fun t _ => rfl, hF, rfl⟩ ?_⟩
  rintro m a w ⟨g, ρ, rfl, hF, rfl⟩
  refine wp_mono (round g ρ w hF).out fun e a' w' q => ?_
  cases e <;> first
    | exact q
    | (obtain ⟨g', ρ', rfl, hF', hlt⟩ := q; exact ⟨μ g', hlt, g', ρ', rfl, hF', rfl⟩)
end
end Go.Proofs.YtjliefglelcooaaDoor

namespace Go.Proofs.YtjliefglelcooaaDoor
open Go.RowKit

/-- this operation, in this world, over slots that read so: this value, that world -/
def RO (P : Program) (ρ : Operand → Value) (op : Op) (w : World) (v : Value) (w' : World) : Prop :=
  ∀ dst ty pos after g, (execOp ρ ⟨dst, op, ty, pos, after, g⟩).run P w = .ok (.value v) w'
/-- a store -/
def RS (P : Program) (ρ : Operand → Value) (op : Op) (w w' : World) : Prop :=
  ∀ dst ty pos after g, (execOp ρ ⟨dst, op, ty, pos, after, g⟩).run P w = .ok .skip w'

/-! ### what a table of types tells -/
def aggQ (P : Program) (t : TypeId) : Option Bool := (P.underlying t).map fun | .struct _ | .array _ _ => true | _ => false
def sizeQ (P : Program) (t : TypeId) : Option Nat := (P.info? t).map (·.size)
def elemQ (P : Program) (t : TypeId) : Option (Nat × Nat) := match P.underlying t with | some (.slice e) => (P.info? e).map fun i => (e, i.size) | _ => none
def arrQ (P : Program) (t : TypeId) : Option (Nat × Nat) := match P.underlying t with | some (.array n e) => (P.info? e).map fun i => (n, i.size) | _ => none
def fieldQ (P : Program) (t : TypeId) (f : Nat) : Option Nat := match P.underlying t with
  | some (.struct fs) => match fs[f]? with
    | some fl => match P.info? fl.type with
      | some i => if i.size = 0 then none else some fl.offset
      | none => none
    | none => none
  | _ => none
def zeroQ (P : Program) (t : TypeId) : Option Value := (P.info? t).bind (·.zero)

section
variable {P : Program} {ρ : Operand → Value} {w : World}
theorem isAgg_of {t : TypeId} {b : Bool} (h : aggQ P t = some b) : (isAgg t).run P w = .ok b w := by
  unfold aggQ at h
  cases hu : P.underlying t with
  | none => simp [hu] at h
  | some d =>
    rw [hu] at h
    simp only [Option.map_some, Option.some.injEq] at h
    subst h
    unfold isAgg
    rw [Sem.run_bind, run_underlying hu w]
    cases d <;> rfl
theorem sizeOf_of {t : TypeId} {s : Nat} (h : sizeQ P t = some s) : (sizeOf t).run P w = .ok s w := by
  unfold sizeQ at h
  cases hi : P.info? t with
  | none => simp [hi] at h
  | some i =>
    simp only [hi, Option.map_some, Option.some.injEq] at h
    simp [sizeOf, typeInfo, hi, h]
theorem zero_of {t : TypeId} {z : Value} (h : zeroQ P t = some z) : (zeroValue t).run P w = .ok z w := by
  unfold zeroQ at h
  cases hi : P.info? t with
  | none => simp [hi] at h
  | some i =>
    simp only [hi, Option.bind_some] at h
    simp [zeroValue, typeInfo, hi, h]
theorem elem_of {t e s : Nat} (h : elemQ P t = some (e, s)) : P.underlying t = some (.slice e) ∧ sizeQ P e = some s := by
  unfold elemQ at h
  split at h
  · rename_i e' hu
    cases hi : P.info? e' with
    | none => simp [hi] at h
    | some i =>
      simp only [hi, Option.map_some, Option.some.injEq, Prod.mk.injEq] at h
      obtain ⟨rfl, rfl⟩ := h
      exact ⟨hu, by simp [sizeQ, hi]⟩
  · cases h
theorem arr_of {t n s : Nat} (h : arrQ P t = some (n, s)) : ∃ e, P.underlying t = some (.array n e) ∧ sizeQ P e = some s := by
  unfold arrQ at h
  split at h
  · rename_i n' e' hu
    cases hi : P.info? e' with
    | none => simp [hi] at h
    | some i =>
      simp only [hi, Option.map_some, Option.some.injEq, Prod.mk.injEq] at h
      obtain ⟨rfl, rfl⟩ := h
      exact ⟨e', hu, by simp [sizeQ, hi]⟩
  · cases h

/-! ### slots -/
theorem ro_move {x : Operand} {v : Value} (hx : ρ x = v) : RO P ρ (.move x) w v w := fun _ _ _ _ _ => by subst hx; rfl
theorem ro_assign {x : Operand} {v : Value} (hx : ρ x = v) : RO P ρ (.assign x) w v w := fun _ _ _ _ _ => by subst hx; rfl
theorem ro_pickT {c x y : Operand} {v : Value} (hc : ρ c = .bool true) (hv : ρ x = v) : RO P ρ (.pick c x y) w v w := fun _ _ _ _ _ => by subst hv; simp [execOp, hc, asBool]
theorem ro_pickF {c x y : Operand} {v : Value} (hc : ρ c = .bool false) (hv : ρ y = v) : RO P ρ (.pick c x y) w v w := fun _ _ _ _ _ => by subst hv; simp [execOp, hc, asBool]

/-! ### integers -/
variable {t yt : TypeId} {x y : Operand} {k : IntKind} {a b : Int}
theorem ro_bin {op : BinOp} {u v r : Value} (hx : ρ x = u) (hy : ρ y = v) (hg : (eqGuard op t x y u v).run P w = .ok () w) (hr : (binOp op t u v).run P w = .ok r w) : RO P ρ (.binOp op t x y yt) w r w := fun _ _ _ _ _ => by
  subst hx; subst hy; simp [execOp, hg, hr]
theorem guard_int (op : BinOp) : (eqGuard op t x y (.int k a) (.int k b)).run P w = .ok () w := by unfold eqGuard; split <;> rfl
theorem ro_int {op : BinOp} {r : Value} (hx : ρ x = .int k a) (hy : ρ y = .int k b) (hr : (binOp op t (.int k a) (.int k b)).run P w = .ok r w) : RO P ρ (.binOp op t x y yt) w r w :=
  ro_bin hx hy (guard_int op) hr
theorem ro_add (hx : ρ x = .int k a) (hy : ρ y = .int k b) : RO P ρ (.binOp .add t x y yt) w (.int k (k.wrap (a + b))) w := ro_int hx hy (by simp [binOp, Op.intArith])
theorem ro_sub (hx : ρ x = .int k a) (hy : ρ y = .int k b) : RO P ρ (.binOp .sub t x y yt) w (.int k (k.wrap (a - b))) w := ro_int hx hy (by simp [binOp, Op.intArith])
theorem ro_mul (hx : ρ x = .int k a) (hy : ρ y = .int k b) : RO P ρ (.binOp .mul t x y yt) w (.int k (k.wrap (a * b))) w := ro_int hx hy (by simp [binOp, Op.intArith])
theorem ro_add64 (hx : ρ x = .int .i64 a) (hy : ρ y = .int .i64 b) (h : -9223372036854775808 ≤ a + b ∧ a + b ≤ 9223372036854775807) : RO P ρ (.binOp .add t x y yt) w (.int .i64 (a + b)) w := by
  have := ro_add (P := P) (ρ := ρ) (w := w) (t := t) (yt := yt) hx hy; rwa [IntWalk.i64_in _ h] at this
theorem ro_sub64 (hx : ρ x = .int .i64 a) (hy : ρ y = .int .i64 b) (h : -9223372036854775808 ≤ a - b ∧ a - b ≤ 9223372036854775807) : RO P ρ (.binOp .sub t x y yt) w (.int .i64 (a - b)) w := by
  have := ro_sub (P := P) (ρ := ρ) (w := w) (t := t) (yt := yt) hx hy; rwa [IntWalk.i64_in _ h] at this
theorem ro_mul64 (hx : ρ x = .int .i64 a) (hy : ρ y = .int .i64 b) (h : -9223372036854775808 ≤ a * b ∧ a * b ≤ 9223372036854775807) : RO P ρ (.binOp .mul t x y yt) w (.int .i64 (a * b)) w := by
  have := ro_mul (P := P) (ρ := ρ) (w := w) (t := t) (yt := yt) hx hy; rwa [IntWalk.i64_in _ h] at this
theorem ro_add64' {r : Int} (hx : ρ x = .int .i64 a) (hy : ρ y = .int .i64 b) (he : a + b = r) (h : -9223372036854775808 ≤ r ∧ r ≤ 9223372036854775807) : RO P ρ (.binOp .add t x y yt) w (.int .i64 r) w := by
  subst he; exact ro_add64 hx hy h
theorem ro_sub64' {r : Int} (hx : ρ x = .int .i64 a) (hy : ρ y = .int .i64 b) (he : a - b = r) (h : -9223372036854775808 ≤ r ∧ r ≤ 9223372036854775807) : RO P ρ (.binOp .sub t x y yt) w (.int .i64 r) w := by
  subst he; exact ro_sub64 hx hy h
theorem ro_mul64' {r : Int} (hx : ρ x = .int .i64 a) (hy : ρ y = .int .i64 b) (he : a * b = r) (h : -9223372036854775808 ≤ r ∧ r ≤ 9223372036854775807) : RO P ρ (.binOp .mul t x y yt) w (.int .i64 r) w := by
  subst he; exact ro_mul64 hx hy h
theorem ro_quo (hx : ρ x = .int k a) (hy : ρ y = .int k b) (hb : b ≠ 0) : RO P ρ (.binOp .quo t x y yt) w (.int k (k.wrap (a.tdiv b))) w := ro_int hx hy (by simp [binOp, Op.intDiv, hb])
theorem ro_rem (hx : ρ x = .int k a) (hy : ρ y = .int k b) (hb : b ≠ 0) : RO P ρ (.binOp .rem t x y yt) w (.int k (a.tmod b)) w := ro_int hx hy (by simp [binOp, Op.intDiv, hb])
theorem ro_quo64 (hx : ρ x = .int .i64 a) (hy : ρ y = .int .i64 b) (h : 0 ≤ a ∧ a ≤ 9223372036854775807 ∧ 0 < b) : RO P ρ (.binOp .quo t x y yt) w (.int .i64 (a / b)) w := by
  have := ro_quo (P := P) (ρ := ρ) (w := w) (t := t) (yt := yt) hx hy (by omega)
  have h2 : a / b ≤ a := Int.ediv_le_self b h.1
  have h3 : 0 ≤ a / b := Int.ediv_nonneg h.1 (by omega)
  rwa [Int.tdiv_eq_ediv_of_nonneg h.1, IntWalk.i64_in _ (by omega)] at this
theorem ro_rem64 (hx : ρ x = .int .i64 a) (hy : ρ y = .int .i64 b) (h : 0 ≤ a ∧ 0 < b) : RO P ρ (.binOp .rem t x y yt) w (.int .i64 (a % b)) w := by
  have := ro_rem (P := P) (ρ := ρ) (w := w) (t := t) (yt := yt) hx hy (by omega)
  rwa [Int.tmod_eq_emod_of_nonneg h.1] at this
theorem ro_and (hx : ρ x = .int k a) (hy : ρ y = .int k b) : RO P ρ (.binOp .and t x y yt) w (.int k (bits .and k a b)) w := ro_int hx hy (by simp [binOp, intBits_and])
theorem ro_or (hx : ρ x = .int k a) (hy : ρ y = .int k b) : RO P ρ (.binOp .or t x y yt) w (.int k (bits .or k a b)) w := ro_int hx hy (by simp [binOp, intBits_or])
theorem ro_xor (hx : ρ x = .int k a) (hy : ρ y = .int k b) : RO P ρ (.binOp .xor t x y yt) w (.int k (bits .xor k a b)) w := ro_int hx hy (by simp [binOp, intBits_xor])
theorem ro_andNot (hx : ρ x = .int k a) (hy : ρ y = .int k b) : RO P ρ (.binOp .andNot t x y yt) w (.int k (bits .andNot k a b)) w := ro_int hx hy (by simp [binOp, intBits_andNot])
theorem ro_shl {k' : IntKind} (hx : ρ x = .int k a) (hy : ρ y = .int k' b) (h : 0 ≤ b) : RO P ρ (.binOp .shl t x y yt) w (.int k (k.wrap (a * 2 ^ (min b.toNat k.bits)))) w :=
  ro_bin hx hy (by unfold eqGuard; rfl) (by
    have : ¬ b < 0 := by omega
    simp [binOp, Op.shift, this])
theorem ro_shr {k' : IntKind} (hx : ρ x = .int k a) (hy : ρ y = .int k' b) (h : 0 ≤ b) : RO P ρ (.binOp .shr t x y yt) w (.int k (a.fdiv (2 ^ (min b.toNat k.bits)))) w :=
  ro_bin hx hy (by unfold eqGuard; rfl) (by
    have : ¬ b < 0 := by omega
    simp [binOp, Op.shift, this])
theorem ro_eql (hx : ρ x = .int k a) (hy : ρ y = .int k b) : RO P ρ (.binOp .eql t x y yt) w (.bool (a == b)) w := ro_int hx hy (by simp [binOp, Op.intCmp])
theorem ro_neq (hx : ρ x = .int k a) (hy : ρ y = .int k b) : RO P ρ (.binOp .neq t x y yt) w (.bool (a != b)) w := ro_int hx hy (by simp [binOp, Op.intCmp])
theorem ro_lss (hx : ρ x = .int k a) (hy : ρ y = .int k b) : RO P ρ (.binOp .lss t x y yt) w (.bool (decide (a < b))) w := ro_int hx hy (by simp [binOp, Op.intCmp])
theorem ro_leq (hx : ρ x = .int k a) (hy : ρ y = .int k b) : RO P ρ (.binOp .leq t x y yt) w (.bool (decide (a ≤ b))) w := ro_int hx hy (by simp [binOp, Op.intCmp])
theorem ro_gtr (hx : ρ x = .int k a) (hy : ρ y = .int k b) : RO P ρ (.binOp .gtr t x y yt) w (.bool (decide (a > b))) w := ro_int hx hy (by simp [binOp, Op.intCmp])
theorem ro_geq (hx : ρ x = .int k a) (hy : ρ y = .int k b) : RO P ρ (.binOp .geq t x y yt) w (.bool (decide (a ≥ b))) w := ro_int hx hy (by simp [binOp, Op.intCmp])
/-! ### bools, strings, pointers -/
variable {p q : Bool} {s s' : ByteArray}
theorem equalInB (m : Nat) (ht : P.underlying t = some .bool) : (Op.equalIn (m + 1) t (.bool p) (.bool q)).run P w = .ok (p == q) w := by
  simp [Op.equalIn, run_underlying ht]
theorem equalB (ht : P.underlying t = some .bool) : (Op.equal t (.bool p) (.bool q)).run P w = .ok (p == q) w := equalInB 9999 ht
theorem ro_eqlB (ht : P.underlying t = some .bool) (hx : ρ x = .bool p) (hy : ρ y = .bool q) : RO P ρ (.binOp .eql t x y yt) w (.bool (p == q)) w :=
  ro_bin hx hy (by unfold eqGuard; rfl) (by simp only [binOp]; simp [equalB ht])
theorem ro_neqB (ht : P.underlying t = some .bool) (hx : ρ x = .bool p) (hy : ρ y = .bool q) : RO P ρ (.binOp .neq t x y yt) w (.bool (!(p == q))) w :=
  ro_bin hx hy (by unfold eqGuard; rfl) (by simp only [binOp]; simp [equalB ht])
theorem ro_eqlS (hx : ρ x = .string s) (hy : ρ y = .string s') : RO P ρ (.binOp .eql t x y yt) w (.bool (s.toList == s'.toList)) w :=
  ro_bin hx hy (by unfold eqGuard; rfl) (by simp [binOp, Op.stringOp])
theorem ro_neqS (hx : ρ x = .string s) (hy : ρ y = .string s') : RO P ρ (.binOp .neq t x y yt) w (.bool (!(s.toList == s'.toList))) w :=
  ro_bin hx hy (by unfold eqGuard; rfl) (by simp [binOp, Op.stringOp])
theorem ro_eqlNil {r : Option Addr} (ht : P.underlying t = some (.pointer (P.pointee t))) (hx : ρ x = .pointer r) (hy : ρ y = .pointer none) : RO P ρ (.binOp .eql t x y yt) w (.bool r.isNone) w :=
  ro_bin hx hy (by unfold eqGuard; cases r <;> rfl) (run_eql_pointer_nil w t r ht)
theorem ro_neqNil {r : Option Addr} (ht : P.underlying t = some (.pointer (P.pointee t))) (hx : ρ x = .pointer r) (hy : ρ y = .pointer none) : RO P ρ (.binOp .neq t x y yt) w (.bool (!r.isNone)) w :=
  ro_bin hx hy (by unfold eqGuard; cases r <;> rfl) (run_neq_pointer_nil w t r ht)
theorem ro_not (hx : ρ x = .bool p) : RO P ρ (.unOp .not t x) w (.bool (!p)) w := fun _ _ _ _ _ => by simp [execOp, hx, Op.unary]
theorem ro_neg (hx : ρ x = .int k a) : RO P ρ (.unOp .neg t x) w (.int k (k.wrap (0 - a))) w := fun _ _ _ _ _ => by simp [execOp, hx, Op.unary, Op.intArith]
theorem ro_inv (hx : ρ x = .int k a) : RO P ρ (.unOp .xor t x) w (.int k (bits .xor k (if k.signed then -1 else k.max) a)) w := fun _ _ _ _ _ => by simp [execOp, hx, Op.unary, intBits_xor]
theorem ro_conv {src dst : TypeId} {k' : IntKind} (hs : (P.underlying src).isSome = true) (hd : P.underlying dst = some (.int k')) (hx : ρ x = .int k a) : RO P ρ (.convert src dst x) w (.int k' (k'.wrap a)) w := fun _ _ _ _ _ => by
  obtain ⟨d, hd'⟩ := Option.isSome_iff_exists.mp hs
  simp [execOp, hx, convert, run_underlying hd', run_underlying hd, Conv.intToInt]
/-- from one kind to the same, or to one that holds it -/
theorem ro_conv' {src dst : TypeId} {k' : IntKind} {r : Int} (hs : (P.underlying src).isSome = true) (hd : P.underlying dst = some (.int k')) (hx : ρ x = .int k a) (hr : k'.wrap a = r) : RO P ρ (.convert src dst x) w (.int k' r) w := by
  subst hr; exact ro_conv hs hd hx
theorem ro_convS {src dst : TypeId} (hs : (P.underlying src).isSome = true) (hd : P.underlying dst = some .string) (hx : ρ x = .string s) : RO P ρ (.convert src dst x) w (.string s) w := fun _ _ _ _ _ => by
  obtain ⟨d, hd'⟩ := Option.isSome_iff_exists.mp hs
  simp only [execOp, hx, convert, Sem.run_bind, run_underlying hd', run_underlying hd, Result.andThen_ok]
  cases d <;> rfl
/-! ### numbers that are casts of natural ones -/
theorem ro_addN {a b : Nat} (hx : ρ x = .int .i64 (a : Nat)) (hy : ρ y = .int .i64 (b : Nat)) (h : a + b ≤ 9223372036854775807) : RO P ρ (.binOp .add t x y yt) w (.int .i64 ((a + b : Nat) : Int)) w :=
  ro_add64' hx hy (by omega) (by omega)
theorem ro_subN {a b : Nat} (hx : ρ x = .int .i64 (a : Nat)) (hy : ρ y = .int .i64 (b : Nat)) (h : b ≤ a ∧ a ≤ 9223372036854775807) : RO P ρ (.binOp .sub t x y yt) w (.int .i64 ((a - b : Nat) : Int)) w :=
  ro_sub64' hx hy (by omega) (by omega)
theorem ro_mulN {a b : Nat} (hx : ρ x = .int .i64 (a : Nat)) (hy : ρ y = .int .i64 (b : Nat)) (h : a * b ≤ 9223372036854775807) : RO P ρ (.binOp .mul t x y yt) w (.int .i64 ((a * b : Nat) : Int)) w :=
  ro_mul64' hx hy (by rw [Int.natCast_mul]) (by omega)
theorem ro_quoN {a b : Nat} (hx : ρ x = .int .i64 (a : Nat)) (hy : ρ y = .int .i64 (b : Nat)) (h : 0 < b ∧ a ≤ 9223372036854775807) : RO P ρ (.binOp .quo t x y yt) w (.int .i64 ((a / b : Nat) : Int)) w := by
  have := ro_quo64 (P := P) (ρ := ρ) (w := w) (t := t) (yt := yt) hx hy (by omega)
  rwa [← Int.natCast_ediv] at this
theorem ro_remN {a b : Nat} (hx : ρ x = .int .i64 (a : Nat)) (hy : ρ y = .int .i64 (b : Nat)) (h : 0 < b) : RO P ρ (.binOp .rem t x y yt) w (.int .i64 ((a % b : Nat) : Int)) w := by
  have := ro_rem64 (P := P) (ρ := ρ) (w := w) (t := t) (yt := yt) hx hy (by omega)
  rwa [← Int.natCast_emod] at this
theorem ro_shrN {a b : Nat} {k k' : IntKind} (hx : ρ x = .int k (a : Nat)) (hy : ρ y = .int k' (b : Nat)) (h : b ≤ k.bits) : RO P ρ (.binOp .shr t x y yt) w (.int k ((a / 2 ^ b : Nat) : Int)) w := by
  have := ro_shr (P := P) (ρ := ρ) (w := w) (t := t) (yt := yt) hx hy (by omega)
  have e : min ((b : Nat) : Int).toNat k.bits = b := by rw [Int.toNat_natCast]; omega
  rw [e] at this
  have e2 : ((a : Nat) : Int).fdiv (2 ^ b) = ((a / 2 ^ b : Nat) : Int) := by
    rw [Int.fdiv_eq_ediv_of_nonneg _ (Int.pow_nonneg (by decide)), Int.natCast_ediv]
    norm_cast
  rwa [e2] at this
theorem ro_shlN {a b : Nat} {k' : IntKind} (hx : ρ x = .int .u64 (a : Nat)) (hy : ρ y = .int k' (b : Nat)) (h : b ≤ 64) : RO P ρ (.binOp .shl t x y yt) w (.int .u64 ((a * 2 ^ b % 2 ^ 64 : Nat) : Int)) w := by
  have := ro_shl (P := P) (ρ := ρ) (w := w) (t := t) (yt := yt) hx hy (by omega)
  have e : min ((b : Nat) : Int).toNat IntKind.u64.bits = b := by rw [Int.toNat_natCast]; show min b 64 = b; omega
  rw [e] at this
  have e2 : IntKind.u64.wrap (((a : Nat) : Int) * 2 ^ b) = ((a * 2 ^ b % 2 ^ 64 : Nat) : Int) := by
    have h : (a : Int) * 2 ^ b = ((a * 2 ^ b : Nat) : Int) := by norm_cast
    rw [h, IntKind.wrap_u64]
    generalize a * 2 ^ b = c
    omega
  rwa [e2] at this
theorem ro_shlN8 {a b : Nat} {k' : IntKind} (hx : ρ x = .int .u8 (a : Nat)) (hy : ρ y = .int k' (b : Nat)) (h : b ≤ 8) : RO P ρ (.binOp .shl t x y yt) w (.int .u8 ((a * 2 ^ b % 256 : Nat) : Int)) w := by
  have := ro_shl (P := P) (ρ := ρ) (w := w) (t := t) (yt := yt) hx hy (by omega)
  have e : min ((b : Nat) : Int).toNat IntKind.u8.bits = b := by rw [Int.toNat_natCast]; show min b 8 = b; omega
  rw [e] at this
  have e2 : IntKind.u8.wrap (((a : Nat) : Int) * 2 ^ b) = ((a * 2 ^ b % 256 : Nat) : Int) := by
    have h : (a : Int) * 2 ^ b = ((a * 2 ^ b : Nat) : Int) := by norm_cast
    rw [h, IntKind.wrap_u8]
    generalize a * 2 ^ b = c
    omega
  rwa [e2] at this
theorem bits_u64 {a b : Nat} (ha : a < 2 ^ 64) (hb : b < 2 ^ 64) : bits .and .u64 (a : Int) (b : Int) = ((a &&& b : Nat) : Int) ∧ bits .or .u64 (a : Int) (b : Int) = ((a ||| b : Nat) : Int) ∧ bits .xor .u64 (a : Int) (b : Int) = ((a ^^^ b : Nat) : Int) := by
  have e1 : (BitVec.ofInt 64 (a : Int)).toNat = a := by rw [BitVec.ofInt_natCast, BitVec.toNat_ofNat]; exact Nat.mod_eq_of_lt ha
  have e2 : (BitVec.ofInt 64 (b : Int)).toNat = b := by rw [BitVec.ofInt_natCast, BitVec.toNat_ofNat]; exact Nat.mod_eq_of_lt hb
  refine ⟨?_, ?_, ?_⟩
  · show IntKind.u64.wrap ((BitVec.ofInt 64 (a : Int) &&& BitVec.ofInt 64 (b : Int)).toNat : Int) = _
    have h : a &&& b < 2 ^ 64 := Nat.and_lt_two_pow _ hb
    rw [BitVec.toNat_and, e1, e2, IntKind.wrap_u64]; generalize a &&& b = c at *; omega
  · show IntKind.u64.wrap ((BitVec.ofInt 64 (a : Int) ||| BitVec.ofInt 64 (b : Int)).toNat : Int) = _
    have h := Nat.or_lt_two_pow ha hb
    rw [BitVec.toNat_or, e1, e2, IntKind.wrap_u64]; generalize a ||| b = c at *; omega
  · show IntKind.u64.wrap ((BitVec.ofInt 64 (a : Int) ^^^ BitVec.ofInt 64 (b : Int)).toNat : Int) = _
    have h := Nat.xor_lt_two_pow ha hb
    rw [BitVec.toNat_xor, e1, e2, IntKind.wrap_u64]; generalize a ^^^ b = c at *; omega
theorem bits_u8 {a b : Nat} (ha : a < 256) (hb : b < 256) : bits .and .u8 (a : Int) (b : Int) = ((a &&& b : Nat) : Int) ∧ bits .or .u8 (a : Int) (b : Int) = ((a ||| b : Nat) : Int) ∧ bits .xor .u8 (a : Int) (b : Int) = ((a ^^^ b : Nat) : Int) := by
  have e1 : (BitVec.ofInt 8 (a : Int)).toNat = a := by rw [BitVec.ofInt_natCast, BitVec.toNat_ofNat]; exact Nat.mod_eq_of_lt ha
  have e2 : (BitVec.ofInt 8 (b : Int)).toNat = b := by rw [BitVec.ofInt_natCast, BitVec.toNat_ofNat]; exact Nat.mod_eq_of_lt hb
  refine ⟨?_, ?_, ?_⟩
  · show IntKind.u8.wrap ((BitVec.ofInt 8 (a : Int) &&& BitVec.ofInt 8 (b : Int)).toNat : Int) = _
    have h : a &&& b < 2 ^ 8 := Nat.and_lt_two_pow _ hb
    rw [BitVec.toNat_and, e1, e2, IntKind.wrap_u8]; generalize a &&& b = c at *; omega
  · show IntKind.u8.wrap ((BitVec.ofInt 8 (a : Int) ||| BitVec.ofInt 8 (b : Int)).toNat : Int) = _
    have h : a ||| b < 2 ^ 8 := Nat.or_lt_two_pow ha hb
    rw [BitVec.toNat_or, e1, e2, IntKind.wrap_u8]; generalize a ||| b = c at *; omega
  · show IntKind.u8.wrap ((BitVec.ofInt 8 (a : Int) ^^^ BitVec.ofInt 8 (b : Int)).toNat : Int) = _
    have h : a ^^^ b < 2 ^ 8 := Nat.xor_lt_two_pow ha hb
    rw [BitVec.toNat_xor, e1, e2, IntKind.wrap_u8]; generalize a ^^^ b = c at *; omega
theorem ro_andN {a b : Nat} (hx : ρ x = .int .u64 (a : Nat)) (hy : ρ y = .int .u64 (b : Nat)) (h : a < 2 ^ 64 ∧ b < 2 ^ 64) : RO P ρ (.binOp .and t x y yt) w (.int .u64 ((a &&& b : Nat) : Int)) w := by
  have := ro_and (P := P) (ρ := ρ) (w := w) (t := t) (yt := yt) hx hy; rwa [(bits_u64 h.1 h.2).1] at this
theorem ro_orN {a b : Nat} (hx : ρ x = .int .u64 (a : Nat)) (hy : ρ y = .int .u64 (b : Nat)) (h : a < 2 ^ 64 ∧ b < 2 ^ 64) : RO P ρ (.binOp .or t x y yt) w (.int .u64 ((a ||| b : Nat) : Int)) w := by
  have := ro_or (P := P) (ρ := ρ) (w := w) (t := t) (yt := yt) hx hy; rwa [(bits_u64 h.1 h.2).2.1] at this
theorem ro_xorN {a b : Nat} (hx : ρ x = .int .u64 (a : Nat)) (hy : ρ y = .int .u64 (b : Nat)) (h : a < 2 ^ 64 ∧ b < 2 ^ 64) : RO P ρ (.binOp .xor t x y yt) w (.int .u64 ((a ^^^ b : Nat) : Int)) w := by
  have := ro_xor (P := P) (ρ := ρ) (w := w) (t := t) (yt := yt) hx hy; rwa [(bits_u64 h.1 h.2).2.2] at this
theorem ro_andN8 {a b : Nat} (hx : ρ x = .int .u8 (a : Nat)) (hy : ρ y = .int .u8 (b : Nat)) (h : a < 256 ∧ b < 256) : RO P ρ (.binOp .and t x y yt) w (.int .u8 ((a &&& b : Nat) : Int)) w := by
  have := ro_and (P := P) (ρ := ρ) (w := w) (t := t) (yt := yt) hx hy; rwa [(bits_u8 h.1 h.2).1] at this
theorem ro_orN8 {a b : Nat} (hx : ρ x = .int .u8 (a : Nat)) (hy : ρ y = .int .u8 (b : Nat)) (h : a < 256 ∧ b < 256) : RO P ρ (.binOp .or t x y yt) w (.int .u8 ((a ||| b : Nat) : Int)) w := by
  have := ro_or (P := P) (ρ := ρ) (w := w) (t := t) (yt := yt) hx hy; rwa [(bits_u8 h.1 h.2).2.1] at this
theorem ro_xorN8 {a b : Nat} (hx : ρ x = .int .u8 (a : Nat)) (hy : ρ y = .int .u8 (b : Nat)) (h : a < 256 ∧ b < 256) : RO P ρ (.binOp .xor t x y yt) w (.int .u8 ((a ^^^ b : Nat) : Int)) w := by
  have := ro_xor (P := P) (ρ := ρ) (w := w) (t := t) (yt := yt) hx hy; rwa [(bits_u8 h.1 h.2).2.2] at this
/-- a byte as a word -/
theorem ro_conv64 {src dst : TypeId} {a : Nat} {k : IntKind} (hs : (P.underlying src).isSome = true) (hd : P.underlying dst = some (.int .u64)) (hx : ρ x = .int k (a : Nat)) (h : a < 2 ^ 64) : RO P ρ (.convert src dst x) w (.int .u64 (a : Nat)) w :=
  ro_conv' hs hd hx (IntWalk.u64_in _ (by omega))
theorem ro_convI {src dst : TypeId} {a : Nat} {k : IntKind} (hs : (P.underlying src).isSome = true) (hd : P.underlying dst = some (.int .i64)) (hx : ρ x = .int k (a : Nat)) (h : a ≤ 9223372036854775807) : RO P ρ (.convert src dst x) w (.int .i64 (a : Nat)) w :=
  ro_conv' hs hd hx (IntWalk.i64_in _ (by omega))
theorem ro_conv8 {src dst : TypeId} {a : Nat} {k : IntKind} (hs : (P.underlying src).isSome = true) (hd : P.underlying dst = some (.int .u8)) (hx : ρ x = .int k (a : Nat)) : RO P ρ (.convert src dst x) w (.int .u8 ((a % 256 : Nat) : Int)) w :=
  ro_conv' hs hd hx (by rw [IntKind.wrap_u8]; omega)
/-! ### slices and memory -/
variable {A : Option Addr} {ad : Addr} {n c : Nat}
theorem ro_len (ht : (elemQ P t).isSome = true) (hx : ρ x = .slice A n c) : RO P ρ (.call { callee := .builtin .len, args := #[x], argTypes := #[t] }) w (.int .i64 n) w := fun _ _ _ _ _ => by
  obtain ⟨⟨e, sz⟩, he⟩ := Option.isSome_iff_exists.mp ht
  obtain ⟨hu, _⟩ := elem_of he
  simp [BigFrame.execOp_builtin, BigFrame.builtin_len, Builtin.len_, run_underlying hu, hx, goInt]
theorem ro_lenS (ht : P.underlying t = some .string) (hx : ρ x = .string s) : RO P ρ (.call { callee := .builtin .len, args := #[x], argTypes := #[t] }) w (.int .i64 s.size) w := fun _ _ _ _ _ => by
  simp [BigFrame.execOp_builtin, BigFrame.builtin_len, Builtin.len_, run_underlying ht, hx, goInt]
theorem ro_nilCheck (hx : ρ x = .pointer (some ad)) : RO P ρ (.nilCheck x) w (.pointer (some ad)) w := fun _ _ _ _ _ => by simp [execOp, hx]
theorem ro_fieldAddr {f o b off : Nat} (hf : fieldQ P t f = some o) (hx : ρ x = .pointer (some ⟨b, off, none⟩)) : RO P ρ (.fieldAddr t x f) w (.pointer (some ⟨b, off + o, none⟩)) w := fun _ _ _ _ _ => by
  unfold fieldQ at hf
  split at hf
  · rename_i fs hu
    split at hf
    · rename_i fl hfl
      split at hf
      · rename_i i hi
        split at hf
        · cases hf
        · rename_i hs
          obtain rfl := Option.some.inj hf
          simp [execOp, hx, Instr.fieldAt, run_underlying hu, hfl, Instr.sureAddr, fieldPlace, sizeOf, typeInfo, hi, hs, Addr.add_mid]
      · cases hf
    · cases hf
  · cases hf
theorem ro_indexAddr {e sz b off : Nat} {i : Int} {k : IntKind} (ht : elemQ P t = some (e, sz)) (hx : ρ x = .slice (some ⟨b, off, none⟩) n c) (hy : ρ y = .int k i) (h : 0 ≤ i ∧ i < n) :
    RO P ρ (.indexAddr t x y) w (.pointer (some ⟨b, off + i.toNat * sz, none⟩)) w := fun _ _ _ _ _ => by
  obtain ⟨hu, hs⟩ := elem_of ht
  simp [execOp, hx, hy, Instr.indexAt, asIntOf, run_underlying hu, h, sizeOf_of hs, Addr.add_mid]
/-- the index a Nat -/
theorem ro_indexAddrN {e sz b off i : Nat} {k : IntKind} (ht : elemQ P t = some (e, sz)) (hx : ρ x = .slice (some ⟨b, off, none⟩) n c) (hy : ρ y = .int k (i : Nat)) (h : i < n) :
    RO P ρ (.indexAddr t x y) w (.pointer (some ⟨b, off + i * sz, none⟩)) w := ro_indexAddr ht hx hy ⟨by omega, by omega⟩
/-- cells of one value -/
theorem ro_indexAddr1 {e b off i : Nat} {k : IntKind} (ht : elemQ P t = some (e, 1)) (hx : ρ x = .slice (some ⟨b, off, none⟩) n c) (hy : ρ y = .int k (i : Nat)) (h : i < n) :
    RO P ρ (.indexAddr t x y) w (.pointer (some ⟨b, off + i, none⟩)) w := by
  have := ro_indexAddrN (P := P) (ρ := ρ) (w := w) ht hx hy h
  rwa [Nat.mul_one] at this
/-- from the head of a block on -/
theorem ro_indexAddr0 {e b i : Nat} {k : IntKind} (ht : elemQ P t = some (e, 1)) (hx : ρ x = .slice (some ⟨b, 0, none⟩) n c) (hy : ρ y = .int k (i : Nat)) (h : i < n) :
    RO P ρ (.indexAddr t x y) w (.pointer (some ⟨b, i, none⟩)) w := by
  have := ro_indexAddr1 (P := P) (ρ := ρ) (w := w) ht hx hy h
  rwa [Nat.zero_add] at this
theorem ro_indexAddrA {m sz b off : Nat} {i : Int} {k : IntKind} (ht : arrQ P t = some (m, sz)) (hx : ρ x = .pointer (some ⟨b, off, none⟩)) (hy : ρ y = .int k i) (h : 0 ≤ i ∧ i < m) :
    RO P ρ (.indexAddr t x y) w (.pointer (some ⟨b, off + i.toNat * sz, none⟩)) w := fun _ _ _ _ _ => by
  obtain ⟨e, hu, hs⟩ := arr_of ht
  simp [execOp, hx, hy, Instr.indexAt, asIntOf, run_underlying hu, Instr.sureAddr, h, sizeOf_of hs, Addr.add_mid]
theorem ro_indexS {i : Int} {k : IntKind} (ht : P.underlying t = some .string) (hx : ρ x = .string s) (hy : ρ y = .int k i) (h0 : 0 ≤ i) {u : UInt8} (hu : s[i.toNat]? = some u) :
    RO P ρ (.index t x y) w (.int .u8 u.toNat) w := fun _ _ _ _ _ => by
  simp [execOp, hx, hy, Instr.index, asIntOf, run_underlying ht, h0, hu]
theorem ro_load {v : Value} (ht : aggQ P t = some false) (hx : ρ x = .pointer (some ad)) (hc : w.cell? ad = some v) : RO P ρ (.load t x) w v w := fun _ _ _ _ _ => by
  simp [execOp, hx, Instr.loadAt, Instr.sureAddr, loadVar, isAgg_of ht, hc]
theorem ro_loadA {b off : Nat} {cs : List Value} (ht : aggQ P t = some true) (hs : sizeQ P t = some cs.length) (hx : ρ x = .pointer (some ⟨b, off, none⟩)) (hc : w.rangeAt b off cs) : RO P ρ (.load t x) w (.agg cs.toArray) w := fun _ _ _ _ _ => by
  have hl : (loadCells ⟨b, off, none⟩ cs.length).run P w = .ok cs.toArray w :=
    run_loadCells_list (P := P) w ⟨b, off, none⟩ cs (fun j v hv => by rw [Addr.add_mid]; exact hc j v hv)
  simp [execOp, hx, Instr.loadAt, Instr.sureAddr, loadVar, isAgg_of ht, sizeOf_of hs, hl]
theorem rs_store {v u : Value} (ht : sizeQ P t = some 1) (hx : ρ x = .pointer (some ad)) (hy : ρ y = v) (h1 : v.oneCell' = true) (hc : w.cell? ad = some u) (hf : w.frozen? ad = false) : RS P ρ (.store t x y) w (w.setCell ad v) := fun _ _ _ _ _ => by
  have hcs : v.cells = #[v] := by cases v <;> first | rfl | (simp [Value.oneCell'] at h1)
  have hst := run_store P w ad v .plain h1
  rw [hc] at hst
  simp only [hf] at hst
  have e0 : ad.add 0 = ad := by unfold Addr.add; simp
  simp [execOp, hx, hy, Instr.storeAt, Instr.sureAddr, storeVar, sizeOf_of ht, hcs, storeCells, e0, hst]
theorem rs_storeA {b off : Nat} {cs : List Value} (hs : sizeQ P t = some cs.length) (hx : ρ x = .pointer (some ⟨b, off, none⟩)) (hy : ρ y = .agg cs.toArray) (h1 : ∀ v ∈ cs, v.oneCell' = true) (hc : w.there b off cs.length) :
    RS P ρ (.store t x y) w (w.setCells b off cs) := fun _ _ _ _ _ => by
  have hr := run_storeAt_mid (P := P) w b off t cs.toArray (by simpa using hc) (by simpa [sizeQ] using hs) (all_oneCell_toArray h1)
  simp [execOp, hx, hy, hr]
theorem ro_alloc {z : Value} (hz : zeroQ P t = some z) : RO P ρ (.alloc t) w (.pointer (some ⟨w.heap.size, 0, none⟩)) (w.alloc (.cells z.cells t)) := fun _ _ _ _ _ => by
  simp [execOp, Instr.alloc, zero_of hz, newVar, newRow]
theorem ro_box {v : Value} (hx : ρ x = v) : RO P ρ (.box t x) w (.pointer (some ⟨w.heap.size, 0, none⟩)) (w.alloc (.cells v.cells t)) := fun _ _ _ _ _ => by
  simp [execOp, Instr.box, hx, newVar, newRow]
theorem ro_build {l : List (Nat × Operand)} {cells : Array Value} (h : P.built t (l.map fun p => (p.1, ρ p.2)) = some cells) : RO P ρ (.build t l.toArray) w (.agg cells) w := fun _ _ _ _ _ => by
  have := run_build (P := P) w t ((l.map fun p => (p.1, ρ p.2)).toArray) cells (by simpa using h)
  simp only [execOp, List.map_toArray, Sem.run_bind]
  rw [this]
  rfl
theorem ro_buildSlice {e m : Nat} {l : List (Nat × Operand)} {cells : Array Value} {ie : TypeInfo} {z : Value} (hu : P.underlying t = some (.slice e)) (hie : P.info? e = some ie) (hz : ie.zero = some z) (hsmall : ¬ m * ie.size > 2 ^ 24) (hpos : ¬ m * ie.size = 0)
    (hf : Instr.fill (fun i => some (i * ie.size, ie.size)) ((Array.range (m * ie.size)).map (z.cells[· % z.cells.size]!)) (l.map fun p => (p.1, ρ p.2)) = some cells) :
    RO P ρ (.buildSlice t m l.toArray) w (.slice (some ⟨w.heap.size, 0, none⟩) m m) (w.alloc (.cells cells e)) := fun _ _ _ _ _ => by
  have := run_buildSlice (P := P) w t e m ((l.map fun p => (p.1, ρ p.2)).toArray) cells ie z hu hie hz hsmall hpos (by simpa using hf)
  simp only [execOp, List.map_toArray, Sem.run_bind]
  rw [this]
  rfl
theorem ro_extract {i : Nat} {l : List Value} {v : Value} (hx : ρ x = .tuple l.toArray) (hv : l[i]? = some v) : RO P ρ (.extract x i) w v w := fun _ _ _ _ _ => by
  simp [execOp, hx, Instr.extract, hv]
/-- a field of a struct that is a value -/
theorem ro_field {f : Nat} {cs : Array Value} {v : Value} (hx : ρ x = .agg cs) (h : (Instr.field t (.agg cs) f).run P w = .ok v w) : RO P ρ (.field t x f) w v w := fun _ _ _ _ _ => by
  simp [execOp, hx, h]
/-! ### pieces of a slice -/
theorem ro_slice {e sz b off l h : Nat} (ht : elemQ P t = some (e, sz)) {lo hi : Option Operand} (hx : ρ x = .slice (some ⟨b, off, none⟩) n c)
    (hl : (lo = none ∧ l = 0) ∨ ∃ y k, lo = some y ∧ ρ y = .int k (l : Nat)) (hh : (hi = none ∧ h = n) ∨ ∃ y k, hi = some y ∧ ρ y = .int k (h : Nat)) (h1 : l ≤ h) (h2 : h ≤ c) :
    RO P ρ (.slice t x lo hi none) w (.slice (some ⟨b, if c = l then off else off + l * sz, none⟩) (h - l) (c - l)) w := fun _ _ _ _ _ => by
  obtain ⟨hu, hs⟩ := elem_of ht
  have key : ∀ A : Addr, A = ⟨b, off, none⟩ → (Option.some (if c = l then A else A.add (l * sz))) = some ⟨b, if c = l then off else off + l * sz, none⟩ := fun A hA => by subst hA; split <;> simp [Addr.add_mid]
  have hE : P.elem t = e := by simp [Program.elem, hu]
  have hu' : P.underlying t = some (.slice (P.elem t)) := by rw [hE]; exact hu
  have fin : (Result.ok (sliced (some ⟨b, off, none⟩) l h c sz) w : Result Value) = .ok (.slice (some ⟨b, if c = l then off else off + l * sz, none⟩) (h - l) (c - l)) w := by
    simp only [sliced]
    split <;> simp [Addr.add_mid]
  rcases hl with ⟨rfl, rfl⟩ | ⟨y1, k1, rfl, hy1⟩ <;> rcases hh with ⟨rfl, rfl⟩ | ⟨y2, k2, rfl, hy2⟩
  · simp only [execOp, hx, Option.map_none, Sem.run_bind]
    rw [run_sliceAt_slice w t _ _ _ _ hu', run_slice_all w t _ _ c hu', hE, sizeOf_of hs, Result.andThen_ok, fin]; rfl
  · simp only [execOp, hx, hy2, Option.map_none, Option.map_some, Sem.run_bind]
    rw [run_sliceAt_slice w t _ _ _ _ hu', run_slice_h w t _ n c hu' k2 (h : Int) (by omega) (by omega), hE, sizeOf_of hs, Result.andThen_ok, Int.toNat_natCast, fin]; rfl
  · simp only [execOp, hx, hy1, Option.map_none, Option.map_some, Sem.run_bind]
    rw [run_sliceAt_slice w t _ _ _ _ hu', run_slice_l w t _ _ c hu' k1 (l : Int) (by omega) (by omega), hE, sizeOf_of hs, Result.andThen_ok, Int.toNat_natCast, fin]; rfl
  · simp only [execOp, hx, hy1, hy2, Option.map_none, Option.map_some, Sem.run_bind]
    rw [run_sliceAt_slice w t _ _ _ _ hu', run_slice_lh w t _ n c hu' k1 k2 (l : Int) (h : Int) (by omega) (by omega) (by omega), hE, sizeOf_of hs, Result.andThen_ok, Int.toNat_natCast, Int.toNat_natCast, fin]; rfl
end

/-! ### steps -/
section steps
variable {P : Program} {ops : Array Oper} {Q : Exit → Act → World → Prop} {rest : List Oper} {n : Nat} {L : List (Nat × Value)} {w w' : World} {op : Op} {ty : TypeId} {pos : String} {after : Array Edge} {d : Nat}
theorem st_val {v : Value} (hr : RO P (ev n L) op w v w') (k : St P ops Q rest n ((d, v) :: L) w') : St P ops Q (⟨some d, op, ty, pos, after, none⟩ :: rest) n L w := by
  refine ⟨wpList_plain rfl fun K hK => ?_⟩
  unfold Oper.wp
  rw [eval_mkA, hr]
  rw [Oper.upon_value, put_mkA]
  exact hK _ _ k.out
theorem st_store (hr : RS P (ev n L) op w w') (k : St P ops Q rest n L w') : St P ops Q (⟨none, op, ty, pos, after, none⟩ :: rest) n L w := by
  refine ⟨wpList_plain rfl fun K hK => ?_⟩
  unfold Oper.wp
  rw [eval_mkA, hr]
  rw [Oper.upon_skip]
  exact hK _ _ k.out
/-- what a guard's slot says -/
def nthDst : List Oper → Nat → Option Nat
  | [], _ => none
  | o :: _, 0 => o.dst
  | _ :: r, j + 1 => nthDst r j
theorem nthDst_eq : ∀ (l : List Oper) (j : Nat), nthDst l j = (l[j]?).bind (·.dst)
  | [], _ => by simp [nthDst]
  | o :: _, 0 => by simp [nthDst]
  | _ :: r, j + 1 => by simpa [nthDst] using nthDst_eq r j
def wantQ (ops : Array Oper) (n : Nat) (L : List (Nat × Value)) (j : Nat) : Value := match nthDst ops.toList j with | some t => ev n L (.tmp t) | none => undef
theorem yielded_mkT {j : Nat} {b : Bool} (h : wantQ ops n L j = .bool b) : yielded ops (mkT n L) j = some b := by
  unfold wantQ at h
  rw [nthDst_eq, Array.getElem?_toList] at h
  unfold yielded
  cases hd : (ops[j]?).bind (·.dst) with
  | none => rw [hd] at h; simp [undef] at h
  | some t =>
    rw [hd] at h
    simp only [Option.bind_some, mkT_get]
    simp only [ev, blt_iff] at h
    by_cases ht : t < n
    · simp only [ht, decide_true, cond_true] at h
      simp [ht, h]
    · simp [ht, undef] at h
theorem st_gyes {v : Value} {j : Nat} {b : Bool} (hg : wantQ ops n L j = .bool b) (hr : RO P (ev n L) op w v w') (k : St P ops Q rest n ((d, v) :: L) w') : St P ops Q (⟨some d, op, ty, pos, after, some (j, b)⟩ :: rest) n L w := by
  refine ⟨wpList_step fun K hK => ?_⟩
  have hw : Region.wanted ⟨some d, op, ty, pos, after, some (j, b)⟩ (yielded ops (mkA n L).tmps) = true := by
    show (yielded ops (mkT n L) j == some b) = true
    rw [yielded_mkT hg]; simp
  rw [if_pos hw]
  unfold Oper.wp
  rw [eval_mkA, hr]
  rw [Oper.upon_value, put_mkA]
  exact hK _ _ k.out
theorem st_gno {j : Nat} {b b' : Bool} (hg : wantQ ops n L j = .bool b') (hb : (b' == b) = false) (k : St P ops Q rest n ((d, undef) :: L) w) : St P ops Q (⟨some d, op, ty, pos, after, some (j, b)⟩ :: rest) n L w := by
  refine ⟨wpList_step fun K hK => ?_⟩
  have hw : Region.wanted ⟨some d, op, ty, pos, after, some (j, b)⟩ (yielded ops (mkA n L).tmps) = false := by
    show (yielded ops (mkT n L) j == some b) = false
    rw [yielded_mkT hg]; simpa using hb
  rw [if_neg (by rw [hw]; simp), put_mkA]
  exact hK _ _ k.out
theorem st_gnoN {j : Nat} {b b' : Bool} (hg : wantQ ops n L j = .bool b') (hb : (b' == b) = false) (k : St P ops Q rest n L w) : St P ops Q (⟨none, op, ty, pos, after, some (j, b)⟩ :: rest) n L w := by
  refine ⟨wpList_step fun K hK => ?_⟩
  have hw : Region.wanted ⟨none, op, ty, pos, after, some (j, b)⟩ (yielded ops (mkA n L).tmps) = false := by
    show (yielded ops (mkT n L) j == some b) = false
    rw [yielded_mkT hg]; simpa using hb
  rw [if_neg (by rw [hw]; simp)]
  exact hK _ _ k.out
/-- a guard over an operation that was passed over itself -/
theorem yielded_undef {j : Nat} (h : wantQ ops n L j = undef) : yielded ops (mkT n L) j = none := by
  unfold wantQ at h
  rw [nthDst_eq, Array.getElem?_toList] at h
  unfold yielded
  cases hd : (ops[j]?).bind (·.dst) with
  | none => rfl
  | some t =>
    rw [hd] at h
    simp only [Option.bind_some, mkT_get]
    simp only [ev, blt_iff] at h
    by_cases ht : t < n
    · simp only [ht, decide_true, cond_true] at h
      rw [if_pos ht, h]
      rfl
    · simp [ht]
theorem st_gund {j : Nat} {b : Bool} (hg : wantQ ops n L j = undef) (k : St P ops Q rest n ((d, undef) :: L) w) : St P ops Q (⟨some d, op, ty, pos, after, some (j, b)⟩ :: rest) n L w := by
  refine ⟨wpList_step fun K hK => ?_⟩
  have hw : Region.wanted ⟨some d, op, ty, pos, after, some (j, b)⟩ (yielded ops (mkA n L).tmps) = false := by
    show (yielded ops (mkT n L) j == some b) = false
    rw [yielded_undef hg]; rfl
  rw [if_neg (by rw [hw]; simp), put_mkA]
  exact hK _ _ k.out
/-- a guard that says yes -/
theorem st_unguard {dst : Option Tmp} {j : Nat} {b : Bool} (hg : wantQ ops n L j = .bool b) (k : St P ops Q (⟨dst, op, ty, pos, after, none⟩ :: rest) n L w) : St P ops Q (⟨dst, op, ty, pos, after, some (j, b)⟩ :: rest) n L w := by
  have hw : Region.wanted ⟨dst, op, ty, pos, after, some (j, b)⟩ (yielded ops (mkA n L).tmps) = true := by
    show (yielded ops (mkT n L) j == some b) = true
    rw [yielded_mkT hg]; simp
  have hk := k.out
  constructor
  unfold wpList at hk ⊢
  rw [if_pos hw]
  exact hk
/-- by cases on the bool that a slot holds -/
theorem st_split {t : Nat} {e : Bool} (h : look L t = .bool e) (hT : e = true → St P ops Q rest n ((t, .bool true) :: L) w) (hF : e = false → St P ops Q rest n ((t, .bool false) :: L) w) : St P ops Q rest n L w := by
  have key : ∀ v, look L t = v → mkA n ((t, v) :: L) = mkA n L := fun v hv => mkA_congr fun i _ => by
    rw [look_cons]
    split
    · rename_i hi; subst hi; exact hv.symm
    · rfl
  cases e with
  | true => have := (hT rfl).out; rw [key _ h] at this; exact ⟨this⟩
  | false => have := (hF rfl).out; rw [key _ h] at this; exact ⟨this⟩
/-- a slot's value, spelled otherwise -/
theorem st_spell {t : Nat} {v v' : Value} (h : look L t = v) (he : v = v') (k : St P ops Q rest n ((t, v') :: L) w) : St P ops Q rest n L w := by
  have key : mkA n ((t, v') :: L) = mkA n L := mkA_congr fun i _ => by
    rw [look_cons]
    split
    · rename_i hi; subst hi; rw [h, he]
    · rfl
  have := k.out
  rw [key] at this
  exact ⟨this⟩
/-! calls -/
def callable (P : Program) (f : FuncId) : Bool := match P.funcs[f]? with | some fn => !(fn.name == "runtime.NumGoroutine") && fn.body.isSome | none => false
theorem run_call {f : FuncId} (hf : callable P f = true) (args : Array Value) : (callFunc f args).run P w = .ok (.enter f args) w := by
  unfold callable at hf
  cases h : P.funcs[f]? with
  | none => simp [h] at hf
  | some fn =>
    simp only [h, Bool.and_eq_true, Bool.not_eq_true'] at hf
    have hb : fn.body.isNone = false := by cases hb : fn.body <;> simp_all
    simp only [callFunc, Sem.run_bind, run_program, Result.andThen_ok, h, hf.1, hb, Bool.false_eq_true, if_false]
    rfl
theorem exec_call {ρ : Operand → Value} (hρ : ∀ f, ρ (.func f) = .func (.func f) #[] #[]) {f : FuncId} {l : List Operand} {ats : Array TypeId} {g : Option (Nat × Bool)} {dst : Option Tmp} :
    execOp ρ ⟨dst, .call { callee := .value (.func f), args := l.toArray, argTypes := ats }, ty, pos, after, g⟩ = callFunc f (l.map ρ).toArray := by
  have : execOp ρ ⟨dst, .call { callee := .value (.func f), args := l.toArray, argTypes := ats }, ty, pos, after, g⟩ = (do let d ← Deferred.ofValue (ρ (.func f)) (l.toArray.map ρ); invoke d.target d.args) := rfl
  rw [this, hρ]
  show callFunc f (#[] ++ l.toArray.map ρ ++ #[]) = _
  simp
theorem st_call {f : FuncId} {l : List Operand} {ats : Array TypeId} {R : Value → World → Prop} (hf : callable P f = true) (hc : Rt P f (l.map (ev n L)) w R) (k : ∀ v w', R v w' → St P ops Q rest n ((d, v) :: L) w') :
    St P ops Q (⟨some d, .call { callee := .value (.func f), args := l.toArray, argTypes := ats }, ty, pos, after, none⟩ :: rest) n L w := by
  refine ⟨wpList_plain rfl fun K hK => ?_⟩
  unfold Oper.wp
  rw [eval_mkA, exec_call (fun _ => rfl), run_call hf, Oper.upon_enter]
  refine Calls.mono hc fun e w' ⟨v, he, hR⟩ => ?_
  subst he
  show K ((mkA n L).put (some d) v) w'
  rw [put_mkA]
  exact hK _ _ (k v w' hR).out
theorem st_callN {f : FuncId} {l : List Operand} {ats : Array TypeId} {R : Value → World → Prop} (hf : callable P f = true) (hc : Rt P f (l.map (ev n L)) w R) (k : ∀ v w', R v w' → St P ops Q rest n L w') :
    St P ops Q (⟨none, .call { callee := .value (.func f), args := l.toArray, argTypes := ats }, ty, pos, after, none⟩ :: rest) n L w := by
  refine ⟨wpList_plain rfl fun K hK => ?_⟩
  unfold Oper.wp
  rw [eval_mkA, exec_call (fun _ => rfl), run_call hf, Oper.upon_enter]
  refine Calls.mono hc fun e w' ⟨v, he, hR⟩ => ?_
  subst he
  exact hK _ _ (k v w' hR).out
theorem st_gcall {f : FuncId} {l : List Operand} {ats : Array TypeId} {R : Value → World → Prop} {j : Nat} {b : Bool} (hg : wantQ ops n L j = .bool b) (hf : callable P f = true) (hc : Rt P f (l.map (ev n L)) w R) (k : ∀ v w', R v w' → St P ops Q rest n ((d, v) :: L) w') :
    St P ops Q (⟨some d, .call { callee := .value (.func f), args := l.toArray, argTypes := ats }, ty, pos, after, some (j, b)⟩ :: rest) n L w := by
  refine ⟨wpList_step fun K hK => ?_⟩
  have hw : Region.wanted ⟨some d, .call { callee := .value (.func f), args := l.toArray, argTypes := ats }, ty, pos, after, some (j, b)⟩ (yielded ops (mkA n L).tmps) = true := by
    show (yielded ops (mkT n L) j == some b) = true
    rw [yielded_mkT hg]; simp
  rw [if_pos hw]
  unfold Oper.wp
  rw [eval_mkA, exec_call (fun _ => rfl), run_call hf, Oper.upon_enter]
  refine Calls.mono hc fun e w' ⟨v, he, hR⟩ => ?_
  subst he
  show K ((mkA n L).put (some d) v) w'
  rw [put_mkA]
  exact hK _ _ (k v w' hR).out
end steps
end Go.Proofs.YtjliefglelcooaaDoor

namespace Go.Proofs.YtjliefglelcooaaDoor
open Go.RowKit

/-- no more than this value -/
def eqp (x : Value) : Value → World → Prop := fun v _ => v = x
def lookR : List (Nat × (Value → World → Prop)) → Nat → Value → World → Prop
  | [], _ => fun _ _ => True
  | (k, R) :: r, i => bif Nat.beq i k then R else lookR r i
def MonoR : List (Nat × (Value → World → Prop)) → Prop
  | [] => True
  | (_, R) :: r => (∀ v w1 w2, From w1 w2 → R v w1 → R v w2) ∧ MonoR r
theorem eqp_mono (x : Value) : ∀ v w1 w2, From w1 w2 → eqp x v w1 → eqp x v w2 := fun _ _ _ _ h => h
theorem lookR_mono : ∀ {l : List (Nat × (Value → World → Prop))}, MonoR l → ∀ t v w1 w2, From w1 w2 → lookR l t v w1 → lookR l t v w2
  | [], _, _, _, _, _, _, _ => trivial
  | (k, R) :: r, ⟨h1, h2⟩, t, v, w1, w2, hF, h => by
    have e : lookR ((k, R) :: r) t = bif Nat.beq t k then R else lookR r t := rfl
    rw [e] at h ⊢
    cases hb : Nat.beq t k with
    | true => rw [hb] at h; exact h1 _ _ _ hF h
    | false => rw [hb] at h; exact lookR_mono h2 t v w1 w2 hF h
/-- for whatever values of these slots that fit -/
def AllF (R : Nat → Value → World → Prop) (w : World) : List Nat → (List (Nat × Value) → Prop) → Prop
  | [], K => K []
  | d :: r, K => ∀ v, R d v w → AllF R w r fun M => K ((d, v) :: M)
theorem allF_at {R : Nat → Value → World → Prop} {w : World} (ρ : Nat → Value) : ∀ (l : List Nat) {K : List (Nat × Value) → Prop}, (∀ d ∈ l, R d (ρ d) w) → AllF R w l K → K (l.map fun d => (d, ρ d))
  | [], _, _, h => h
  | d :: r, _, hr, h => allF_at ρ r (fun e he => hr e (List.mem_cons_of_mem _ he)) (h (ρ d) (hr d (List.mem_cons_self ..)))
theorem look_map (ρ : Nat → Value) (l : List Nat) (L : List (Nat × Value)) (t : Nat) : look (l.map (fun d => (d, ρ d)) ++ L) t = if l.elem t then ρ t else look L t := by
  induction l with
  | nil => rfl
  | cons d l ih =>
    show look ((d, ρ d) :: (l.map (fun d => (d, ρ d)) ++ L)) t = _
    rw [look_cons, ih]
    by_cases h : t = d
    · subst h; simp
    · have : (d :: l).elem t = l.elem t := by simp [List.elem_cons, h]
      rw [if_neg h, this]

/-- one operation: it yields a value that fits, and the world only grows -/
def OpOK (P : Program) (ops : Array Oper) (n : Nat) (L : List (Nat × Value)) (o : Oper) (w : World) (R : Value → World → Prop) : Prop :=
  (Region.wanted o (yielded ops (mkT n L)) = true ∧ ((∃ v w', (execOp (ev n L) o).run P w = .ok (.value v) w' ∧ From w w' ∧ R v w') ∨
    (∃ f l, (execOp (ev n L) o).run P w = .ok (.enter f (List.toArray l)) w ∧ Rt P f l w fun v w' => From w w' ∧ R v w'))) ∨
  (Region.wanted o (yielded ops (mkT n L)) = false ∧ R undef w)
section
variable {P : Program} {ops : Array Oper} {n : Nat} {L : List (Nat × Value)} {w w' : World} {op : Op} {ty : TypeId} {pos : String} {after : Array Edge} {d : Option Nat} {R : Value → World → Prop}
theorem ok_val {v : Value} (hr : RO P (ev n L) op w v w') (hF : From w w') (hR : R v w') : OpOK P ops n L ⟨d, op, ty, pos, after, none⟩ w R :=
  .inl ⟨rfl, .inl ⟨v, w', hr _ _ _ _ _, hF, hR⟩⟩
theorem ok_pure {v : Value} (hr : RO P (ev n L) op w v w) (hR : R v w) : OpOK P ops n L ⟨d, op, ty, pos, after, none⟩ w R := ok_val hr From.rfl_ hR
theorem ok_call {f : FuncId} {l : List Operand} {ats : Array TypeId} (hf : callable P f = true) (hc : Rt P f (l.map (ev n L)) w fun v w' => From w w' ∧ R v w') :
    OpOK P ops n L ⟨d, .call { callee := .value (.func f), args := l.toArray, argTypes := ats }, ty, pos, after, none⟩ w R :=
  .inl ⟨rfl, .inr ⟨f, l.map (ev n L), by rw [exec_call (fun _ => rfl), run_call hf], hc⟩⟩
theorem ok_gpure {v : Value} {j : Nat} {b : Bool} (hg : wantQ ops n L j = .bool b) (hr : RO P (ev n L) op w v w) (hR : R v w) : OpOK P ops n L ⟨d, op, ty, pos, after, some (j, b)⟩ w R :=
  .inl ⟨by show (yielded ops (mkT n L) j == some b) = true; rw [yielded_mkT hg]; simp, .inl ⟨v, w, hr _ _ _ _ _, From.rfl_, hR⟩⟩
theorem ok_gcall {f : FuncId} {l : List Operand} {ats : Array TypeId} {j : Nat} {b : Bool} (hg : wantQ ops n L j = .bool b) (hf : callable P f = true) (hc : Rt P f (l.map (ev n L)) w fun v w' => From w w' ∧ R v w') :
    OpOK P ops n L ⟨d, .call { callee := .value (.func f), args := l.toArray, argTypes := ats }, ty, pos, after, some (j, b)⟩ w R :=
  .inl ⟨by show (yielded ops (mkT n L) j == some b) = true; rw [yielded_mkT hg]; simp, .inr ⟨f, l.map (ev n L), by rw [exec_call (fun _ => rfl), run_call hf], hc⟩⟩
theorem ok_gno {j : Nat} {b b' : Bool} (hg : wantQ ops n L j = .bool b') (hb : (b' == b) = false) (hR : R undef w) : OpOK P ops n L ⟨d, op, ty, pos, after, some (j, b)⟩ w R :=
  .inr ⟨by show (yielded ops (mkT n L) j == some b) = false; rw [yielded_mkT hg]; simpa using hb, hR⟩
end

/-- the slots that an operation looks at, of those that the region's head writes -/
def slotsOf (ops : Array Oper) (pre : List Nat) (o : Oper) : List Nat := (pre.filter fun t => (o.looksAt ops).elem t)
def isSelect : Op → Bool | .select _ _ => true | _ => false
def hasEdge (o : Oper) (i : Nat) : Bool := o.after.toList.any fun e => Region.binds .any e && e.on == i
/-- the region's shape -/
def monoB (l : List Oper) (K : Nat) : Bool :=
  let ops := l.toArray
  let dst (i : Nat) : Option Nat := (l[i]?).bind (·.dst)
  decide (K ≤ l.length) &&
  (List.range l.length).all fun i => match l[i]? with
    | none => false
    | some o =>
      (o.after.toList.all fun e => !Region.binds .any e || decide (e.on < i)) && !isSelect o.op &&
      (if i < K then
        (match o.dst with
         | none => false
         | some d => (List.range K).all (fun j => j == i || dst j != some d) && !((o.looksAt ops).elem d)) &&
        (List.range K).all (fun j => match dst j with
          | none => false
          | some d => !(o.looksAt ops).elem d || (decide (j < i) && hasEdge o j))
       else (List.range i).all (fun j => hasEdge o j))
def OpsOK (P : Program) (ops : Array Oper) (n : Nat) (L : List (Nat × Value)) (w : World) (R : Nat → Value → World → Prop) (pre : List Nat) : List Oper → Prop
  | [] => True
  | o :: r => (∀ w', From w w' → AllF R w' (slotsOf ops pre o) fun M => OpOK P ops n (M ++ L) o w' (R (o.dst.getD 0))) ∧ OpsOK P ops n L w R pre r
theorem opsOK_at {P : Program} {ops : Array Oper} {n : Nat} {L : List (Nat × Value)} {w : World} {R : Nat → Value → World → Prop} {pre : List Nat} : ∀ {l : List Oper}, OpsOK P ops n L w R pre l → ∀ (i : Nat) (o : Oper), l[i]? = some o →
    ∀ w', From w w' → AllF R w' (slotsOf ops pre o) fun M => OpOK P ops n (M ++ L) o w' (R (o.dst.getD 0))
  | [], _, i, o, h => by simp at h
  | x :: r, ⟨h1, h2⟩, 0, o, h => by
    simp only [List.getElem?_cons_zero, Option.some.injEq] at h
    subst h
    exact h1
  | x :: r, ⟨h1, h2⟩, i + 1, o, h => opsOK_at h2 i o (by simpa using h)
def preOf (l : List Oper) (K : Nat) : List Nat := (l.take K).filterMap (·.dst)

theorem count_set_true : ∀ {l : List Bool} {i : Nat}, l[i]? = some false → (l.set i true).count false + 1 = l.count false
  | [], i, h => by simp at h
  | x :: r, 0, h => by
    simp only [List.getElem?_cons_zero, Option.some.injEq] at h
    subst h
    simp
  | x :: r, i + 1, h => by
    have := count_set_true (l := r) (i := i) (by simpa using h)
    simp only [List.set_cons_succ, List.count_cons]
    omega
section main
variable {P : Program} {Q : Exit → Act → World → Prop} {n : Nat} {L : List (Nat × Value)} {w : World} {l : List Oper} {K : Nat} {R : Nat → Value → World → Prop}
theorem getD_true_false {listed : Array Bool} {i : Nat} (h : i < listed.size) : listed.getD i true = listed.getD i false := by
  simp [Array.getD, h]
/-- behind the head there is one order only -/
theorem tail_seq (hc : monoB l K = true) : ∀ (m k : Nat) (listed : Array Bool) (a : Act) (w' : World), k + m = l.length → K ≤ k → listed.size = l.length → (∀ j, j < l.length → listed.getD j true = decide (j < k)) →
    wpList P l.toArray Q (l.drop k) a w' → wpAny P .any l.toArray Q m listed a w'
  | 0, k, listed, a, w', hk, hK, hs, hl, h => by
    have hd : l.drop k = [] := List.drop_eq_nil_of_le (by omega)
    rw [hd] at h
    refine ⟨?_, h⟩
    rw [List.eq_nil_iff_forall_not_mem]
    intro j hj
    obtain ⟨h0, o, ho, _⟩ := mem_ready.1 hj
    have hjl : j < l.length := by
      rw [List.getElem?_toArray] at ho
      exact (List.getElem?_eq_some_iff.1 ho).1
    rw [hl j hjl] at h0
    simp at h0
    omega
  | m + 1, k, listed, a, w', hk, hK, hs, hl, h => by
    have hkl : k < l.length := by omega
    have hdrop : l.drop k = l[k] :: l.drop (k + 1) := List.drop_eq_getElem_cons hkl
    have hck := (List.all_eq_true.1 (Bool.and_eq_true_iff.1 hc).2)
    have hrk : k ∈ Region.ready .any l.toArray listed := by
      refine mem_ready.2 ⟨by rw [hl k hkl]; simp, l[k], by rw [List.getElem?_toArray, List.getElem?_eq_getElem hkl], fun e he hb => ?_⟩
      have hx := hck k (List.mem_range.2 hkl)
      rw [List.getElem?_eq_getElem hkl] at hx
      simp only [Bool.and_eq_true] at hx
      have he2 := List.all_eq_true.1 hx.1.1 e (by simpa using he)
      rw [hb] at he2
      simp at he2
      rw [← getD_true_false (by omega), hl _ (by omega)]
      simpa using he2
    refine ⟨fun h0 => (by rw [h0] at hrk; cases hrk), fun j hj => ?_⟩
    obtain ⟨h0, o, ho, hall⟩ := mem_ready.1 hj
    rw [List.getElem?_toArray] at ho
    have hjl : j < l.length := (List.getElem?_eq_some_iff.1 ho).1
    rw [hl j hjl] at h0
    have hjk : j = k := by
      simp at h0
      rcases Nat.eq_or_lt_of_le h0 with e | hlt
      · exact e.symm
      · exfalso
        have hx := hck j (List.mem_range.2 hjl)
        rw [ho] at hx
        simp only [Bool.and_eq_true] at hx
        have h3 := hx.2
        rw [if_neg (by omega)] at h3
        have h4 := List.all_eq_true.1 h3 k (List.mem_range.2 hlt)
        obtain ⟨e, he, he2⟩ := List.any_eq_true.1 h4
        simp only [Bool.and_eq_true, beq_iff_eq] at he2
        have h5 := hall e (by simpa using he) he2.1
        rw [he2.2, ← getD_true_false (by omega), hl k hkl] at h5
        simp at h5
    subst hjk
    rw [hdrop] at h
    have hk2 : wpOp P l.toArray Q j (wpList P l.toArray Q (l.drop (j + 1))) a w' := by
      unfold wpOp
      rw [List.getElem?_toArray, List.getElem?_eq_getElem hkl]
      exact h
    refine wpOp_mono (fun a'' w'' h'' => tail_seq hc m (j + 1) _ a'' w'' (by omega) (by omega) (by simpa using hs) (fun i hi => ?_) h'') hk2
    by_cases e : j = i
    · subst e
      simp [hs, hkl]
    · rw [getD_set_ne true e, hl i hi]
      have : (i < j + 1) ↔ (i < j) := by omega
      simp [this]

theorem looksAt_agree {ops : Array Oper} {o : Oper} {L1 L2 : List (Nat × Value)} (hs : isSelect o.op = false) (h : ∀ t, (o.looksAt ops).elem t = true → look L1 t = look L2 t) :
    execOp (ev n L1) o = execOp (ev n L2) o ∧ Region.wanted o (yielded ops (mkT n L1)) = Region.wanted o (yielded ops (mkT n L2)) := by
  constructor
  · refine execOp_congr o (fun cs b e => by rw [e] at hs; simp [isSelect] at hs) fun x hx => ?_
    cases x with
    | tmp t =>
      have : look L1 t = look L2 t := h t (by
        simp only [List.elem_eq_mem, decide_eq_true_eq]
        exact List.mem_append_left _ (List.mem_filterMap.2 ⟨.tmp t, by simpa using hx, rfl⟩))
      simp only [ev, this]
    | _ => rfl
  · unfold Region.wanted
    cases hg : o.guard with
    | none => rfl
    | some gw =>
      obtain ⟨g, want⟩ := gw
      have hy : yielded ops (mkT n L1) g = yielded ops (mkT n L2) g := by
        unfold yielded
        cases ht : (ops[g]?).bind (·.dst) with
        | none => rfl
        | some t =>
          have : look L1 t = look L2 t := h t (by
            simp only [List.elem_eq_mem, decide_eq_true_eq]
            exact List.mem_append_right _ (by simp [hg, ht]))
          simp only [Option.bind_some, mkT_get, this]
      simp only [hy]

theorem mono_seq (hc : monoB l K = true) (hmono : ∀ t v w1 w2, From w1 w2 → R t v w1 → R t v w2) (hop : OpsOK P l.toArray n L w R (preOf l K) (l.take K))
    (hend : ∀ w', From w w' → AllF R w' (preOf l K) fun M => St P l.toArray Q (l.drop K) n (M ++ L) w') :
    ∀ (m : Nat) (listed : Array Bool) (L' : List (Nat × Value)) (w' : World), listed.toList.count false = m → listed.size = l.length → (∀ j, K ≤ j → j < l.length → listed.getD j true = false) → From w w' →
      (∀ t, (∀ i o, i < K → l[i]? = some o → listed.getD i true = true → o.dst ≠ some t) → look L' t = look L t) →
      (∀ i o d, i < K → l[i]? = some o → listed.getD i true = true → o.dst = some d → R d (look L' d) w') → wpAny P .any l.toArray Q m listed (mkA n L') w' := by
  have hKl : K ≤ l.length := of_decide_eq_true (Bool.and_eq_true_iff.1 hc).1
  have hck := (List.all_eq_true.1 (Bool.and_eq_true_iff.1 hc).2)
  intro m
  induction m with
  | zero =>
    intro listed L' w' hcount hs htail hF hfr hR
    have hall : ∀ j, j < l.length → listed.getD j true = true := by
      intro j hj
      have hm : listed[j]'(by omega) ∈ listed.toList := by simp
      cases hb : listed[j]'(by omega) with
      | true => simp [Array.getD, show j < listed.size by omega, hb]
      | false =>
        rw [hb] at hm
        exact absurd hcount (Nat.pos_iff_ne_zero.1 (List.count_pos_iff.2 hm))
    have hKe : K = l.length := by
      rcases Nat.lt_or_ge K l.length with h | h
      · have h1 := htail K (Nat.le_refl _) h
        rw [hall K h] at h1
        cases h1
      · omega
    have he := allF_at (look L') (preOf l K) (fun d hd => by
      obtain ⟨o, ho, hod⟩ := List.mem_filterMap.1 hd
      obtain ⟨i, hi⟩ := List.mem_iff_getElem?.1 ho
      rw [List.getElem?_take] at hi
      split at hi
      · exact hR i o d (by assumption) hi (hall i (List.getElem?_eq_some_iff.1 hi).1) hod
      · cases hi) (hend w' hF)
    have hL : mkA n ((preOf l K).map (fun d => (d, look L' d)) ++ L) = mkA n L' := mkA_congr fun t _ => by
      rw [look_map]
      split
      · rfl
      · rename_i hne
        refine (hfr t fun i o hi ho _ hod => hne ?_).symm
        simp only [List.elem_eq_mem, decide_eq_true_eq]
        exact List.mem_filterMap.2 ⟨o, List.mem_iff_getElem?.2 ⟨i, by rw [List.getElem?_take, if_pos hi]; exact ho⟩, hod⟩
    replace he := he.out
    rw [hL] at he
    exact tail_seq hc 0 l.length listed _ w' (by omega) (by omega) hs (fun j hj => by rw [hall j hj]; simp [hj]) (by rw [hKe] at he; exact he)
  | succ m ih =>
    intro listed L' w' hcount hs htail hF hfr hR
    by_cases hpre : ∀ i, i < K → listed.getD i true = true
    · -- the head is done
      have he := allF_at (look L') (preOf l K) (fun d hd => by
        obtain ⟨o, ho, hod⟩ := List.mem_filterMap.1 hd
        obtain ⟨i, hi⟩ := List.mem_iff_getElem?.1 ho
        rw [List.getElem?_take] at hi
        split at hi
        · exact hR i o d (by assumption) hi (hpre i (by assumption)) hod
        · cases hi) (hend w' hF)
      have hL : mkA n ((preOf l K).map (fun d => (d, look L' d)) ++ L) = mkA n L' := mkA_congr fun t _ => by
        rw [look_map]
        split
        · rfl
        · rename_i hne
          refine (hfr t fun i o hi ho _ hod => hne ?_).symm
          simp only [List.elem_eq_mem, decide_eq_true_eq]
          exact List.mem_filterMap.2 ⟨o, List.mem_iff_getElem?.2 ⟨i, by rw [List.getElem?_take, if_pos hi]; exact ho⟩, hod⟩
      replace he := he.out
      rw [hL] at he
      have hcnt : m + 1 = l.length - K := by
        have : listed.toList = List.replicate K true ++ List.replicate (l.length - K) false := by
          apply List.ext_getElem?
          intro j
          rw [Array.getElem?_toList]
          rw [List.getElem?_append]
          simp only [List.length_replicate, List.getElem?_replicate]
          by_cases hj : j < l.length
          · have hjs : j < listed.size := by omega
            by_cases hjK : j < K
            · have := hpre j hjK
              simp [Array.getD, hjs] at this
              simp [hjs, hjK, this]
            · have := htail j (by omega) hj
              simp [Array.getD, hjs] at this
              rw [if_neg hjK, if_pos (by omega), Array.getElem?_eq_getElem hjs, this]
          · rw [Array.getElem?_eq_none (by omega), if_neg (by omega), if_neg (by omega)]
        rw [this, List.count_append, List.count_replicate, List.count_replicate] at hcount
        simp at hcount
        exact hcount.symm
      refine tail_seq hc (m + 1) K listed _ w' (by omega) (Nat.le_refl _) hs (fun j hj => ?_) he
      by_cases hjK : j < K
      · rw [hpre j hjK]; simp [hjK]
      · rw [htail j (by omega) hj]; simp [hjK]
    · -- some operation of the head is still to come
      have hex : ∃ i, i < K ∧ listed.getD i true = false := by
        refine Classical.byContradiction fun hno => hpre fun i hi => ?_
        cases hb : listed.getD i true with
        | true => rfl
        | false => exact absurd ⟨i, hi, hb⟩ hno
      obtain ⟨i0, hi0, hmin⟩ := exists_least hex
      have hi0l : i0 < l.length := by omega
      have hready : i0 ∈ Region.ready .any l.toArray listed := by
        refine mem_ready.2 ⟨hi0.2, l[i0], by rw [List.getElem?_toArray, List.getElem?_eq_getElem hi0l], fun e he hb => ?_⟩
        have hx := hck i0 (List.mem_range.2 hi0l)
        rw [List.getElem?_eq_getElem hi0l] at hx
        simp only [Bool.and_eq_true] at hx
        have he2 := List.all_eq_true.1 hx.1.1 e (by simpa using he)
        rw [hb] at he2
        simp at he2
        rw [← getD_true_false (by omega)]
        cases hb2 : listed.getD e.on true with
        | true => rfl
        | false => exact absurd (hmin e.on ⟨by omega, hb2⟩) (by omega)
      refine ⟨fun h0 => (by rw [h0] at hready; cases hready), fun i hi => ?_⟩
      obtain ⟨h0, o, ho, hall⟩ := mem_ready.1 hi
      rw [List.getElem?_toArray] at ho
      have hil : i < l.length := (List.getElem?_eq_some_iff.1 ho).1
      have hx := hck i (List.mem_range.2 hil)
      rw [ho] at hx
      simp only [Bool.and_eq_true] at hx
      have hiK : i < K := by
        rcases Nat.lt_or_ge i K with h | h
        · exact h
        · exfalso
          have h3 := hx.2
          rw [if_neg (by omega)] at h3
          have h4 := List.all_eq_true.1 h3 i0 (List.mem_range.2 (by omega))
          obtain ⟨e, he, he2⟩ := List.any_eq_true.1 h4
          simp only [Bool.and_eq_true, beq_iff_eq] at he2
          have h5 := hall e (by simpa using he) he2.1
          rw [he2.2, ← getD_true_false (by omega), hi0.2] at h5
          cases h5
      have h3 := hx.2
      rw [if_pos hiK] at h3
      simp only [Bool.and_eq_true] at h3
      obtain ⟨h3a, h3b⟩ := h3
      cases hod : o.dst with
      | none => rw [hod] at h3a; cases h3a
      | some d =>
        rw [hod] at h3a
        simp only [Bool.and_eq_true] at h3a
        have hlooks : ∀ t, (o.looksAt l.toArray).elem t = true → look ((slotsOf l.toArray (preOf l K) o).map (fun d => (d, look L' d)) ++ L) t = look L' t := by
          intro t ht
          rw [look_map]
          split
          · rfl
          · rename_i hne
            refine (hfr t fun j oj hj hoj hlj hd => hne ?_).symm
            simp only [List.elem_eq_mem, decide_eq_true_eq]
            refine List.mem_filter.2 ⟨List.mem_filterMap.2 ⟨oj, List.mem_iff_getElem?.2 ⟨j, by rw [List.getElem?_take, if_pos hj]; exact hoj⟩, hd⟩, ht⟩
        have hfact : ∀ t ∈ slotsOf l.toArray (preOf l K) o, R t (look L' t) w' := by
          intro t ht
          obtain ⟨ht1, ht2⟩ := List.mem_filter.1 ht
          obtain ⟨oj, hoj, hd⟩ := List.mem_filterMap.1 ht1
          obtain ⟨j, hj⟩ := List.mem_iff_getElem?.1 hoj
          rw [List.getElem?_take] at hj
          split at hj
          · rename_i hjK
            have h5 := List.all_eq_true.1 h3b j (List.mem_range.2 hjK)
            rw [hj] at h5
            simp only [Option.bind_some, hd, ht2, Bool.not_true, Bool.false_or, Bool.and_eq_true, decide_eq_true_eq] at h5
            obtain ⟨e, he, he2⟩ := List.any_eq_true.1 h5.2
            simp only [Bool.and_eq_true, beq_iff_eq] at he2
            have h6 := hall e (by simpa using he) he2.1
            rw [he2.2] at h6
            exact hR j oj t hjK hj (by rw [getD_true_false (by omega)]; exact h6) hd
          · cases hj
        have hok := allF_at (look L') _ hfact (opsOK_at hop i o (by rw [List.getElem?_take, if_pos hiK]; exact ho) w' hF)
        have hsel : isSelect o.op = false := by simpa using hx.1.2
        obtain ⟨hE, hW⟩ := looksAt_agree (n := n) (ops := l.toArray) (o := o) hsel hlooks
        rw [hod] at hok
        simp only [Option.getD_some] at hok
        have next : ∀ v w'', From w' w'' → R d v w'' → wpAny P .any l.toArray Q m (listed.setIfInBounds i true) ((mkA n L').put (some d) v) w'' := by
          intro v w'' hF' hRv
          rw [put_mkA]
          have hne : ∀ j oj d', j < K → l[j]? = some oj → j ≠ i → oj.dst = some d' → d' ≠ d := by
            intro j oj d' hj hoj hji hd e
            have h5 := List.all_eq_true.1 h3a.1 j (List.mem_range.2 hj)
            rw [hoj] at h5
            simp [hji, hd, e] at h5
          refine ih _ _ w'' ?_ (by simpa using hs) (fun j hj1 hj2 => ?_) (hF.next hF') (fun t ht => ?_) (fun j oj d' hj hoj hlj hd => ?_)
          · have hil' : i < listed.size := by omega
            have hfalse : listed.toList[i]? = some false := by
              rw [Array.getElem?_toList, Array.getElem?_eq_getElem hil']
              simp [Array.getD, hil'] at h0
              rw [h0]
            rw [Array.toList_setIfInBounds]
            have := count_set_true (l := listed.toList) (i := i) hfalse
            omega
          · rw [getD_set_ne true (by omega)]
            exact htail j hj1 hj2
          · have htd : t ≠ d := fun e => ht i o hiK ho (by simp [show i < listed.size by omega]) (by rw [hod, e])
            rw [look_cons, if_neg htd]
            refine hfr t fun j oj hj hoj hlj => ht j oj hj hoj ?_
            by_cases e : i = j
            · subst e; rw [h0] at hlj; cases hlj
            · rw [getD_set_ne true e]; exact hlj
          · rw [look_cons]
            by_cases e : j = i
            · subst e
              rw [ho] at hoj
              cases hoj
              rw [hod] at hd
              cases hd
              rw [if_pos rfl]
              exact hRv
            · rw [if_neg (hne j oj d' hj hoj e hd)]
              rw [getD_set_ne true (Ne.symm e)] at hlj
              exact hmono _ _ _ _ hF' (hR j oj d' hj hoj hlj hd)
        unfold wpOp
        rw [List.getElem?_toArray, ho]
        show if Region.wanted o (yielded l.toArray (mkT n L')) = true then _ else _
        unfold OpOK at hok
        rw [hE, hW] at hok
        rcases hok with ⟨hw, ⟨v, w'', hr, hF', hRv⟩ | ⟨f, args, hr, hcall⟩⟩ | ⟨hw, hRv⟩
        · rw [if_pos hw]
          refine .inl ?_
          unfold Oper.wp
          rw [eval_mkA, hr, Oper.upon_value, hod]
          exact next v w'' hF' hRv
        · rw [if_pos hw]
          refine .inl ?_
          unfold Oper.wp
          rw [eval_mkA, hr, Oper.upon_enter, hod]
          refine Calls.mono hcall fun e w'' ⟨v, he, hF', hRv⟩ => ?_
          subst he
          exact next v w'' hF' hRv
        · rw [if_neg (by rw [hw]; simp), hod]
          exact next undef w' From.rfl_ hRv

theorem cd_drawn {id : Nat} (K : Nat) (RL : List (Nat × (Value → World → Prop))) (hm : P.follows .mixedOrders = true) (hc : monoB l K = true) (hmono : MonoR RL)
    (hop : OpsOK P l.toArray n L w (lookR RL) (preOf l K) (l.take K)) (hend : ∀ w', From w w' → AllF (lookR RL) w' (preOf l K) fun M => St P l.toArray Q (l.drop K) n (M ++ L) w') : Cd P (.region id l.toArray true) Q n L w := by
  refine ⟨wp_region_any hm ?_⟩
  have hKl : K ≤ l.length := of_decide_eq_true (Bool.and_eq_true_iff.1 hc).1
  have := mono_seq (Q := Q) (w := w) hc (lookR_mono hmono) hop hend l.length (Array.replicate l.length false) L { w with drawn := w.drawn + 1 } (by simp) (by simp)
    (fun j _ hj => by simp [Array.getD, hj]) (From.rfl_.d1) (fun _ _ => rfl) (fun i o d hi _ hl => by
      have : i < l.length := by omega
      simp [Array.getD, this] at hl)
  simpa using this
end main
end Go.Proofs.YtjliefglelcooaaDoor

namespace Go.Proofs.YtjliefglelcooaaDoor
open Go.RowKit

/-- nothing but block g has changed -/
structure Only (g : Nat) (w w' : World) : Prop where
  os : w'.os = w.os
  tape : w'.tape = w.tape
  output : w'.output = w.output
  size : w'.heap.size = w.heap.size
  block : ∀ k, k ≠ g → w'.heap[k]? = w.heap[k]?
theorem Only.setCell (w : World) (g i : Nat) (v : Value) : Only g w (w.setCell ⟨g, i, none⟩ v) := ⟨rfl, rfl, rfl, by simp, fun k hk => Below.heap_setCell w ⟨g, i, none⟩ v k hk⟩
theorem Only.trans {g : Nat} {w w1 w2 : World} (h : Only g w w1) (k : Only g w1 w2) : Only g w w2 := ⟨k.os.trans h.os, k.tape.trans h.tape, k.output.trans h.output, k.size.trans h.size, fun i hi => (k.block i hi).trans (h.block i hi)⟩
theorem Only.rfl_ {g : Nat} {w : World} : Only g w w := ⟨rfl, rfl, rfl, rfl, fun _ _ => rfl⟩
theorem From.only {a w w' : World} {g : Nat} (h : From a w) (o : Only g w w') (hg : a.heap.size ≤ g) : From a w' :=
  ⟨o.os.trans h.os, o.tape.trans h.tape, o.output.trans h.output, by rw [o.size]; exact h.size, fun k hk => (o.block k (by omega)).trans (h.block k hk)⟩
theorem Blk.only {w w' : World} {k g : Nat} {t : TypeId} {cs : Array Value} (h : Blk w k t cs) (o : Only g w w') (hk : k ≠ g) : Blk w' k t cs := (o.block k hk).trans h
theorem Only.cell {w w' : World} {g b i : Nat} (o : Only g w w') (hb : b ≠ g) : w'.cell? ⟨b, i, none⟩ = w.cell? ⟨b, i, none⟩ := World.cell?_of_block (w := w) (o.block b hb)
/-- a cell that is there stays as the world grows -/
theorem cellF {w w' : World} {a : Addr} {v : Value} (h : From w w') (hc : w.cell? a = some v) : w'.cell? a = some v :=
  (Below.cell h (World.block_lt_of_cell? w a hc)).trans hc
theorem Blk.rd {w : World} {g : Nat} {t : TypeId} {cs : Array Value} (h : Blk w g t cs) (i : Nat) {v : Value} (hv : cs[i]? = some v) : w.cell? ⟨g, i, none⟩ = some v := by rw [h.cell i]; exact hv
/-- some block that was made behind a -/
theorem Blk.ge {w : World} {g : Nat} {t : TypeId} {cs : Array Value} (_h : Blk w g t cs) {a : World} (hg : a.heap.size ≤ g) : a.heap.size ≤ g := hg

def over (cs : List Value) (o : Nat) (vs : List Value) : List Value := cs.take o ++ vs ++ cs.drop (o + vs.length)
theorem set_over (cs : List Value) (o : Nat) (v : Value) (vs : List Value) (h : o < cs.length) : over (cs.set o v) (o + 1) vs = over cs o (v :: vs) := by
  unfold over
  have h1 : (cs.set o v).take (o + 1) = cs.take o ++ [v] := by
    rw [List.take_set]
    have : cs.take (o + 1) = cs.take o ++ [cs[o]] := (List.take_append_getElem h).symm
    rw [this, List.set_append_right _ _ (by simp; omega)]
    have hm : min o cs.length = o := by omega
    simp [hm]
  have h2 : (cs.set o v).drop (o + 1 + vs.length) = cs.drop (o + (v :: vs).length) := by
    rw [List.drop_set_of_lt (by omega)]
    simp only [List.length_cons]
    congr 1
    omega
  rw [h1, h2]
  simp
theorem Blk.sets {t : TypeId} {g : Nat} : ∀ (vs : List Value) (o : Nat) {w : World} {cs : List Value}, Blk w g t cs.toArray → o + vs.length ≤ cs.length → Blk (w.setCells g o vs) g t (over cs o vs).toArray
  | [], o, w, cs, h, _ => by
    have : over cs o [] = cs := by simp [over]
    rw [this]
    exact h
  | v :: vs, o, w, cs, h, hl => by
    simp only [List.length_cons] at hl
    have h1 := h.set_ o v
    rw [List.setIfInBounds_toArray] at h1
    have := Blk.sets vs (o + 1) h1 (by simp; omega)
    rw [set_over cs o v vs (by omega)] at this
    exact this
theorem Only.sets {g : Nat} : ∀ (vs : List Value) (o : Nat) (w : World), Only g w (w.setCells g o vs)
  | [], _, _ => Only.rfl_
  | v :: vs, o, w => (Only.setCell w g o v).trans (Only.sets vs (o + 1) _)
theorem Blk.there {w : World} {g : Nat} {t : TypeId} {cs : Array Value} (h : Blk w g t cs) (o n : Nat) (hl : o + n ≤ cs.size) : w.there g o n := fun j hj =>
  ⟨by rw [h.cell]; simp [show o + j < cs.size by omega], h.frozen _⟩
theorem Blk.range {w : World} {g : Nat} {t : TypeId} {cs : List Value} (h : Blk w g t cs.toArray) (o : Nat) (vs : List Value) (hl : ∀ j v, vs[j]? = some v → cs[o + j]? = some v) : w.rangeAt g o vs := fun j v hv => by
  rw [h.cell]
  simpa using hl j v hv
theorem Blk.whole {w : World} {g : Nat} {t : TypeId} {cs : List Value} (h : Blk w g t cs.toArray) : w.rangeAt g 0 cs := h.range 0 cs fun j v hv => by rw [Nat.zero_add]; exact hv
theorem rangeF {w w' : World} {b o : Nat} {cs : List Value} (h : From w w') (hc : w.rangeAt b o cs) : w'.rangeAt b o cs := fun j v hv => cellF h (hc j v hv)

section
variable {P : Program} {ops : Array Oper} {Q : Exit → Act → World → Prop} {rest : List Oper} {n : Nat} {L : List (Nat × Value)} {w : World} {ty : TypeId} {pos : String} {after : Array Edge} {d : Nat} {t : TypeId} {x y : Operand}
theorem st_box {v : Value} (hx : ev n L x = v) (k : ∀ b w', From w w' → b = w.heap.size → Blk w' b t v.cells → St P ops Q rest n ((d, .pointer (some ⟨b, 0, none⟩)) :: L) w') :
    St P ops Q (⟨some d, .box t x, ty, pos, after, none⟩ :: rest) n L w :=
  st_val (ro_box hx) (k _ _ (From.rfl_.new _) rfl (Blk.new w t _))
theorem st_gbox {v : Value} {j : Nat} {b : Bool} (hg : wantQ ops n L j = .bool b) (hx : ev n L x = v) (k : ∀ b w', From w w' → b = w.heap.size → Blk w' b t v.cells → St P ops Q rest n ((d, .pointer (some ⟨b, 0, none⟩)) :: L) w') :
    St P ops Q (⟨some d, .box t x, ty, pos, after, some (j, b)⟩ :: rest) n L w :=
  st_gyes hg (ro_box hx) (k _ _ (From.rfl_.new _) rfl (Blk.new w t _))
theorem st_alloc {z : Value} (hz : zeroQ P t = some z) (k : ∀ b w', From w w' → b = w.heap.size → Blk w' b t z.cells → St P ops Q rest n ((d, .pointer (some ⟨b, 0, none⟩)) :: L) w') :
    St P ops Q (⟨some d, .alloc t, ty, pos, after, none⟩ :: rest) n L w :=
  st_val (ro_alloc hz) (k _ _ (From.rfl_.new _) rfl (Blk.new w t _))
/-- a store of one cell into a block that is known whole -/
theorem st_put {g i : Nat} {u : TypeId} {cs : Array Value} {v : Value} (ht : sizeQ P t = some 1) (hx : ev n L x = .pointer (some ⟨g, i, none⟩)) (hy : ev n L y = v) (h1 : v.oneCell' = true) (hb : Blk w g u cs) (hi : i < cs.size)
    (k : ∀ w', Only g w w' → Blk w' g u (cs.setIfInBounds i v) → St P ops Q rest n L w') : St P ops Q (⟨none, .store t x y, ty, pos, after, none⟩ :: rest) n L w := by
  have hc : w.cell? ⟨g, i, none⟩ = some (cs[i]'hi) := by rw [hb.cell]; simp [hi]
  exact st_store (rs_store ht hx hy h1 hc (hb.frozen i)) (k _ (Only.setCell w g i v) (hb.set_ i v))
/-- a store of many cells -/
theorem st_putA {g i : Nat} {u : TypeId} {cs vs : List Value} (ht : sizeQ P t = some vs.length) (hx : ev n L x = .pointer (some ⟨g, i, none⟩)) (hy : ev n L y = .agg vs.toArray) (h1 : ∀ v ∈ vs, v.oneCell' = true) (hb : Blk w g u cs.toArray) (hi : i + vs.length ≤ cs.length)
    (k : ∀ w', Only g w w' → Blk w' g u (over cs i vs).toArray → St P ops Q rest n L w') : St P ops Q (⟨none, .store t x y, ty, pos, after, none⟩ :: rest) n L w :=
  st_store (rs_storeA ht hx hy h1 (hb.there i vs.length (by simpa using hi))) (k _ (Only.sets vs i w) (Blk.sets vs i hb hi))
theorem over_all (cs vs : List Value) (h : vs.length = cs.length) : over cs 0 vs = vs := by
  unfold over
  simp [h]
/-- a store into a whole block -/
theorem st_putW {g : Nat} {u : TypeId} {cs : Array Value} {vs : List Value} (ht : sizeQ P t = some vs.length) (hx : ev n L x = .pointer (some ⟨g, 0, none⟩)) (hy : ev n L y = .agg vs.toArray) (h1 : ∀ v ∈ vs, v.oneCell' = true) (hb : Blk w g u cs) (hi : vs.length = cs.size)
    (k : ∀ w', Only g w w' → Blk w' g u vs.toArray → St P ops Q rest n L w') : St P ops Q (⟨none, .store t x y, ty, pos, after, none⟩ :: rest) n L w := by
  refine st_putA (cs := cs.toList) (u := u) ht hx hy h1 (by simpa using hb) (by simp; omega) fun w' o b => ?_
  rw [over_all cs.toList vs (by simp; omega)] at b
  exact k w' o b
/-- make -/
def makeQ (P : Program) (t : TypeId) : Option (TypeId × Nat × Value) := match P.underlying t with | some (.slice e) => (P.info? e).bind fun i => if i.size = 1 then i.zero.map fun z => (e, i.bytes, z) else none | _ => none
theorem st_make {e by_ m : Nat} {z : Value} {kl kc : IntKind} (ht : makeQ P t = some (e, by_, z)) (hz : z.cells = #[z]) (hx : ev n L x = .int kl (m : Nat)) (hy : ev n L y = .int kc (m : Nat)) (hm : m ≤ 9223372036854775807) (hb : by_ * m ≤ 281474976710656)
    (k : ∀ g w', From w w' → g = w.heap.size → Blk w' g e (List.replicate m z).toArray → St P ops Q rest n ((d, .slice (some ⟨g, 0, none⟩) m m) :: L) w') : St P ops Q (⟨some d, .makeSlice t x y, ty, pos, after, none⟩ :: rest) n L w := by
  unfold makeQ at ht
  split at ht
  · rename_i e' hu
    cases hi : P.info? e' with
    | none => simp [hi] at ht
    | some i =>
      rw [hi] at ht
      simp only [Option.bind_some] at ht
      split at ht
      · rename_i hs
        cases hzz : i.zero with
        | none => simp [hzz] at ht
        | some z' =>
          simp only [hzz, Option.map_some, Option.some.injEq, Prod.mk.injEq] at ht
          obtain ⟨rfl, rfl, rfl⟩ := ht
          have hr := run_make (P := P) w t e' i z' hu hi hzz kl kc (m : Int) (m : Int) (by omega) (Int.le_refl _) (by
            have : ((i.bytes * m : Nat) : Int) ≤ 281474976710656 := by omega
            rwa [Int.natCast_mul] at this) (by omega)
          have hcells : madeCells z'.cells ((m : Int).toNat * i.size) = (List.replicate m z').toArray := by
            rw [hs, Int.toNat_natCast, Nat.mul_one, hz]
            apply Array.ext_getElem?
            intro j
            simp only [madeCells, Array.getElem?_map]
            by_cases hj : j < m
            · simp [hj, Nat.mod_one]
            · simp [hj]
          rw [hcells, Int.toNat_natCast] at hr
          refine st_val (v := .slice (some ⟨w.heap.size, 0, none⟩) m m) (w' := w.alloc (.cells (List.replicate m z').toArray e')) (fun _ _ _ _ _ => ?_) (k _ _ (From.rfl_.new _) rfl (Blk.new w e' _))
          simp [execOp, hx, hy, hr]
      · cases ht
  · cases ht
end
end Go.Proofs.YtjliefglelcooaaDoor

namespace Go.Proofs.YtjliefglelcooaaDoor
open Go.RowKit

/-- from this address on lie these, a cell each -/
def RowOf {α : Type} (f : α → Value) (w : World) (A : Option Addr) (l : List α) : Prop :=
  0 < l.length → ∃ b o, A = some ⟨b, o, none⟩ ∧ ∀ i (h : i < l.length), w.cell? ⟨b, o + i, none⟩ = some (f l[i])
theorem RowOf.from_ {α : Type} {f : α → Value} {w w' : World} {A : Option Addr} {l : List α} (h : RowOf f w A l) (hw : From w w') : RowOf f w' A l := fun h0 =>
  let ⟨b, o, hA, hc⟩ := h h0
  ⟨b, o, hA, fun i hi => cellF hw (hc i hi)⟩
theorem RowOf.nil {α : Type} {f : α → Value} {w : World} {A : Option Addr} : RowOf f w A [] := fun h => absurd h (by simp)
theorem RowOf.of_row {α : Type} {f : α → Value} {w : World} {A : Option Addr} {n cap : Nat} {l : List α} (h : Row w (.slice A n cap) (l.map f)) : n = l.length ∧ RowOf f w A l := by
  obtain ⟨A', c', he, hp⟩ := row_vals h
  simp only [Value.slice.injEq] at he
  obtain ⟨rfl, rfl, rfl⟩ := he
  exact ⟨rfl, fun h0 => let ⟨b, o, hA, _, hc⟩ := hp h0; ⟨b, o, hA, hc⟩⟩
theorem RowOf.blk {α : Type} {f : α → Value} {w : World} {g : Nat} {t : TypeId} {cs : Array Value} {l : List α} (h : Blk w g t cs) (hl : ∀ i (hi : i < l.length), cs[i]? = some (f l[i])) : RowOf f w (some ⟨g, 0, none⟩) l := fun _ =>
  ⟨g, 0, rfl, fun i hi => by rw [Nat.zero_add, h.cell]; exact hl i hi⟩
theorem RowOf.own {α : Type} {f : α → Value} {w : World} {base : Nat} {e : TypeId} {A : Option Addr} {n cap : Nat} {l : List α} (h : w.ownsRow base e 1 (.slice A n cap) n (l.map f)) : n = l.length ∧ RowOf f w A l := RowOf.of_row (Row.of_own h)

/-- nothing but block g may have changed; more may be there -/
structure But (g : Nat) (w w' : World) : Prop where
  os : w'.os = w.os
  tape : w'.tape = w.tape
  output : w'.output = w.output
  size : w.heap.size ≤ w'.heap.size
  block : ∀ k, k < w.heap.size → k ≠ g → w'.heap[k]? = w.heap[k]?
theorem Only.but {g : Nat} {w w' : World} (h : Only g w w') : But g w w' := ⟨h.os, h.tape, h.output, by rw [h.size]; exact Nat.le_refl _, fun k _ hk => h.block k hk⟩
theorem But.rfl_ {g : Nat} {w : World} : But g w w := ⟨rfl, rfl, rfl, Nat.le_refl _, fun _ _ _ => rfl⟩
theorem But.of_from {g : Nat} {w w' : World} (h : From w w') : But g w w' := ⟨h.os, h.tape, h.output, h.size, fun k hk _ => h.block k hk⟩
theorem But.trans {g : Nat} {w w1 w2 : World} (h : But g w w1) (k : But g w1 w2) : But g w w2 :=
  ⟨k.os.trans h.os, k.tape.trans h.tape, k.output.trans h.output, Nat.le_trans h.size k.size, fun i hi hg => (k.block i (Nat.lt_of_lt_of_le hi h.size) hg).trans (h.block i hi hg)⟩
theorem But.grown {g : Nat} {w w' : World} (h : w.grownBy w' (some g)) : But g w w' := ⟨h.os, h.tape, h.output, h.size, fun k hk hg => h.block k hk (fun e => hg (Option.some.inj e))⟩
theorem From.but {a w w' : World} {g : Nat} (h : From a w) (o : But g w w') (hg : a.heap.size ≤ g) : From a w' :=
  ⟨o.os.trans h.os, o.tape.trans h.tape, o.output.trans h.output, Nat.le_trans h.size o.size, fun k hk => (o.block k (Nat.lt_of_lt_of_le hk h.size) (by omega)).trans (h.block k hk)⟩
theorem Blk.but {w w' : World} {k g : Nat} {t : TypeId} {cs : Array Value} (h : Blk w k t cs) (o : But g w w') (hk : k ≠ g) : Blk w' k t cs := (o.block k h.lt hk).trans h
theorem But.cell {w w' : World} {g b i : Nat} {v : Value} (o : But g w w') (hb : b ≠ g) (hc : w.cell? ⟨b, i, none⟩ = some v) : w'.cell? ⟨b, i, none⟩ = some v :=
  (World.cell?_of_block (w := w) (a := ⟨b, i, none⟩) (o.block b (World.block_lt_of_cell? w _ hc) hb)).trans hc

theorem map_take_succ {α β : Type} (f : α → β) {l : List α} {k : Nat} (h : k < l.length) : (l.take (k + 1)).map f = (l.take k).map f ++ [f l[k]] := by
  rw [List.take_succ_eq_append_getElem h, List.map_append]
  rfl
/-! ### bytes, words -/
abbrev bV (x : Nat) : Value := .int .u8 x
abbrev uV (x : Nat) : Value := .int .u64 x
abbrev iV (x : Int) : Value := .int .i64 x
end Go.Proofs.YtjliefglelcooaaDoor
