/- WHAT A SLICE READS AS, by its address; blocks that stay. -/
import Derived.Test.YtpafbgdbjambgaaFast4
namespace Go.Proofs.Ytpafbgdbjambgaa
open Go.RowKit

/-- from this address on lie these, a cell each -/
def RowOf {α : Type} (f : α → Value) (w : World) (A : Option Addr) (l : List α) : Prop :=
  0 < l.length → ∃ b o, A = some ⟨b, o, none⟩ ∧ ∀ i (h : i < l.length), w.cell? ⟨b, o + i, none⟩ = some (f l[i])
theorem RowOf.from_ {α : Type} {f : α → Value} {w w' : World} {A : Option Addr} {l : List α} (h : RowOf f w A l) (hw : From w w') : RowOf f w' A l := fun h0 =>
  let ⟨b, o, hA, hc⟩ := h h0
  ⟨b, o, hA, fun i hi => cellF hw (hc i hi)⟩
theorem RowOf.nil {α : Type} {f : α → Value} {w : World} {A : Option Addr} : RowOf f w A [] := fun h => absurd h (by simp)
theorem RowOf.of_row {α : Type} {f : α → Value} {w : World} {A : Option Addr} {n cap : Nat} {l : List α} (h : Row w (.slice A n cap) (l.map f)) : n = l.length ∧ RowOf f w A l := by
  obtain ⟨A', c', he, hp⟩ := row_vals h
  simp only [Value.slice.injEq] at he
  obtain ⟨rfl, rfl, rfl⟩ := he
  exact ⟨rfl, fun h0 => let ⟨b, o, hA, _, hc⟩ := hp h0; ⟨b, o, hA, hc⟩⟩
theorem RowOf.blk {α : Type} {f : α → Value} {w : World} {g : Nat} {t : TypeId} {cs : Array Value} {l : List α} (h : Blk w g t cs) (hl : ∀ i (hi : i < l.length), cs[i]? = some (f l[i])) : RowOf f w (some ⟨g, 0, none⟩) l := fun _ =>
  ⟨g, 0, rfl, fun i hi => by rw [Nat.zero_add, h.cell]; exact hl i hi⟩
theorem RowOf.own {α : Type} {f : α → Value} {w : World} {base : Nat} {e : TypeId} {A : Option Addr} {n cap : Nat} {l : List α} (h : w.ownsRow base e 1 (.slice A n cap) n (l.map f)) : n = l.length ∧ RowOf f w A l := RowOf.of_row (Row.of_own h)

/-- nothing but block g may have changed; more may be there -/
structure But (g : Nat) (w w' : World) : Prop where
  os : w'.os = w.os
  tape : w'.tape = w.tape
  output : w'.output = w.output
  size : w.heap.size ≤ w'.heap.size
  block : ∀ k, k < w.heap.size → k ≠ g → w'.heap[k]? = w.heap[k]?
theorem Only.but {g : Nat} {w w' : World} (h : Only g w w') : But g w w' := ⟨h.os, h.tape, h.output, by rw [h.size]; exact Nat.le_refl _, fun k _ hk => h.block k hk⟩
theorem But.rfl_ {g : Nat} {w : World} : But g w w := ⟨rfl, rfl, rfl, Nat.le_refl _, fun _ _ _ => rfl⟩
theorem But.of_from {g : Nat} {w w' : World} (h : From w w') : But g w w' := ⟨h.os, h.tape, h.output, h.size, fun k hk _ => h.block k hk⟩
theorem But.trans {g : Nat} {w w1 w2 : World} (h : But g w w1) (k : But g w1 w2) : But g w w2 :=
  ⟨k.os.trans h.os, k.tape.trans h.tape, k.output.trans h.output, Nat.le_trans h.size k.size, fun i hi hg => (k.block i (Nat.lt_of_lt_of_le hi h.size) hg).trans (h.block i hi hg)⟩
theorem But.grown {g : Nat} {w w' : World} (h : w.grownBy w' (some g)) : But g w w' := ⟨h.os, h.tape, h.output, h.size, fun k hk hg => h.block k hk (fun e => hg (Option.some.inj e))⟩
theorem From.but {a w w' : World} {g : Nat} (h : From a w) (o : But g w w') (hg : a.heap.size ≤ g) : From a w' :=
  ⟨o.os.trans h.os, o.tape.trans h.tape, o.output.trans h.output, Nat.le_trans h.size o.size, fun k hk => (o.block k (Nat.lt_of_lt_of_le hk h.size) (by omega)).trans (h.block k hk)⟩
theorem Blk.but {w w' : World} {k g : Nat} {t : TypeId} {cs : Array Value} (h : Blk w k t cs) (o : But g w w') (hk : k ≠ g) : Blk w' k t cs := (o.block k h.lt hk).trans h
theorem But.cell {w w' : World} {g b i : Nat} {v : Value} (o : But g w w') (hb : b ≠ g) (hc : w.cell? ⟨b, i, none⟩ = some v) : w'.cell? ⟨b, i, none⟩ = some v :=
  (World.cell?_of_block (w := w) (a := ⟨b, i, none⟩) (o.block b (World.block_lt_of_cell? w _ hc) hb)).trans hc

theorem map_take_succ {α β : Type} (f : α → β) {l : List α} {k : Nat} (h : k < l.length) : (l.take (k + 1)).map f = (l.take k).map f ++ [f l[k]] := by
  rw [List.take_succ_eq_append_getElem h, List.map_append]
  rfl
/-! ### bytes, words -/
abbrev bV (x : Nat) : Value := .int .u8 x
abbrev uV (x : Nat) : Value := .int .u64 x
abbrev iV (x : Int) : Value := .int .i64 x
end Go.Proofs.Ytpafbgdbjambgaa
