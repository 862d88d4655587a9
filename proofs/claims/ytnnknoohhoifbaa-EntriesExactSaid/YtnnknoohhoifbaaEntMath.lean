/- Entries, and logs that may be: pure; slices that read as entries. -/
import Derived.Deep.Slices
import Derived.Test.YtnnknoohhoifbaaRowsCap
namespace Go.Proofs.Ytnnknoohhoifbaa
open Go.RowKit

structure Ent where
  i : Int
  t : Int
  d : ByteArray
def Ent.Ok (e : Ent) : Prop := -9223372036854775808 ≤ e.i ∧ e.i ≤ 9223372036854775807 ∧ -9223372036854775808 ≤ e.t ∧ e.t ≤ 9223372036854775807 ∧ e.d.size ≤ 140737488351232
def inb (lo hi x : Int) : Bool := decide (lo ≤ x) && decide (x ≤ hi)
theorem inb_true {lo hi x : Int} (h : inb lo hi x = true) : lo ≤ x ∧ x ≤ hi := by simpa [inb] using h
theorem inb_mk {lo hi x : Int} (h : lo ≤ x ∧ x ≤ hi) : inb lo hi x = true := by simpa [inb] using h
theorem inb_no {lo hi x : Int} (h : ¬ (lo ≤ x ∧ x ≤ hi)) : inb lo hi x = false := by
  rcases hx : inb lo hi x with _ | _
  · rfl
  · exact absurd (inb_true hx) h
def entOk (e : Ent) (index term : Int) : Bool := decide (e.i = index + 1) && inb 1 1099511627776 e.i && inb (max term 0) 1099511627775 e.t && decide (e.d.size ≤ 4096)
def runs : List Ent → Int → Int → Bool
  | [], _, _ => true
  | e :: r, index, term => entOk e index term && runs r (index + 1) e.t
def mayLog (B T : Int) (xs : List Ent) : Bool := inb 0 1099511625728 B && inb 0 1099511627775 T && decide (xs.length ≤ 512) && runs xs B T

/-- the slice value v reads as these entries -/
def Ents (w : World) (v : Value) (xs : List Ent) : Prop :=
  ∃ (A : Option Addr) (cap : Nat), v = .slice A xs.length cap ∧ xs.length ≤ cap ∧ cap ≤ 9223372036854775807 ∧ (A = none → cap = 0) ∧
    (0 < xs.length → ∃ b o, A = some ⟨b, o, none⟩ ∧ b < w.heap.size ∧ ∀ i (h : i < xs.length), w.cell? ⟨b, o + i * 3, none⟩ = some (.int .i64 xs[i].i) ∧ w.cell? ⟨b, o + i * 3 + 1, none⟩ = some (.int .i64 xs[i].t) ∧ w.cell? ⟨b, o + i * 3 + 2, none⟩ = some (.string xs[i].d))
theorem Ents.from_ {w w' : World} {v : Value} {xs : List Ent} (h : Ents w v xs) (hw : From w w') : Ents w' v xs := by
  obtain ⟨A, cap, hv, h1, h2, h3, hp⟩ := h
  refine ⟨A, cap, hv, h1, h2, h3, fun h0 => ?_⟩
  obtain ⟨b, o, hA, hb, hc⟩ := hp h0
  exact ⟨b, o, hA, Nat.lt_of_lt_of_le hb hw.size, fun i hi => ⟨(hw.cells _ _ hb).trans (hc i hi).1, (hw.cells _ _ hb).trans (hc i hi).2.1, (hw.cells _ _ hb).trans (hc i hi).2.2⟩⟩
theorem Ents.nil_ (w : World) : Ents w (.slice none 0 0) [] := ⟨none, 0, rfl, by simp, by decide, fun _ => rfl, fun h => absurd h (by simp)⟩
theorem Ents.cut {w : World} {A : Option Addr} {n cap : Nat} {xs : List Ent} (h : Ents w (.slice A n cap) xs) {k : Nat} (hk : k ≤ xs.length) : Ents w (.slice A k cap) (xs.take k) := by
  obtain ⟨A', c', hv, h1, h2, h3, hp⟩ := h
  simp only [Value.slice.injEq] at hv
  obtain ⟨rfl, rfl, rfl⟩ := hv
  have hlen : (xs.take k).length = k := by simp [Nat.min_eq_left hk]
  refine ⟨A, cap, by rw [hlen], by omega, h2, h3, fun h0 => ?_⟩
  rw [hlen] at h0
  obtain ⟨b, o, hA, hb, hc⟩ := hp (by omega)
  refine ⟨b, o, hA, hb, fun i hi => ?_⟩
  have := hc i (by omega)
  simpa using this
theorem Ents.rest {w : World} {A : Option Addr} {n cap : Nat} {xs : List Ent} (h : Ents w (.slice A n cap) xs) {k : Nat} (hk : k ≤ xs.length) :
    Ents w (.slice (if cap = k then A else Option.map (fun x => x.add (k * 3)) A) (n - k) (cap - k)) (xs.drop k) := by
  obtain ⟨A', c', hv, h1, h2, h3, hp⟩ := h
  simp only [Value.slice.injEq] at hv
  obtain ⟨rfl, rfl, rfl⟩ := hv
  have hlen : (xs.drop k).length = xs.length - k := by simp
  refine ⟨_, _, by rw [hlen], by omega, by omega, fun hA => ?_, fun h0 => ?_⟩
  · split at hA
    · have := h3 hA
      omega
    · cases A with
      | none =>
        have := h3 rfl
        omega
      | some a => simp at hA
  · rw [hlen] at h0
    obtain ⟨b, o, rfl, hb, hc⟩ := hp (by omega)
    refine ⟨b, o + k * 3, by rw [if_neg (by omega)]; simp [Addr.add_lit, Go.WideShapes.add_plain], hb, fun i hi => ?_⟩
    have := hc (k + i) (by omega)
    rw [show o + k * 3 + i * 3 = o + (k + i) * 3 by omega]
    simpa using this
theorem Ents.of_own {w : World} {base : Nat} {e : TypeId} {v : Value} {n : Nat} {xs : List Ent} (h : w.ownsRow base e 3 v n (xs.flatMap fun x => [.int .i64 x.i, .int .i64 x.t, .string x.d])) (hn : xs.length = n) : Ents w v xs := by
  have get : ∀ (xs : List Ent) (i : Nat) (h : i < xs.length), (xs.flatMap fun x => [Value.int .i64 x.i, .int .i64 x.t, .string x.d])[i * 3]? = some (.int .i64 xs[i].i) ∧ (xs.flatMap fun x => [Value.int .i64 x.i, .int .i64 x.t, .string x.d])[i * 3 + 1]? = some (.int .i64 xs[i].t) ∧ (xs.flatMap fun x => [Value.int .i64 x.i, .int .i64 x.t, .string x.d])[i * 3 + 2]? = some (.string xs[i].d) := by
    intro xs
    induction xs with
    | nil => intro i h; simp at h
    | cons x r ih =>
      intro i h
      cases i with
      | zero => simp
      | succ i =>
        have := ih i (by simpa using h)
        rw [Nat.succ_mul]
        simpa using this
  rcases h.2 with ⟨rfl, rfl⟩ | ⟨g, cap, cur, rfl, hg, hh, h1, h2, h4, h5⟩
  · have : xs = [] := List.eq_nil_of_length_eq_zero hn
    subst this
    exact Ents.nil_ w
  · subst hn
    refine ⟨some ⟨g, 0, none⟩, cap, rfl, h1, by unfold maxLen at h2; omega, fun hA => (by cases hA), fun _ => ⟨g, 0, rfl, ?_, fun i hi => ?_⟩⟩
    · rcases Nat.lt_or_ge g w.heap.size with hlt | hge
      · exact hlt
      · rw [Array.getElem?_eq_none hge] at hh; cases hh
    · obtain ⟨g1, g2, g3⟩ := get xs i hi
      have e0 := h.cells (g := g) rfl _ _ g1
      have e1 := h.cells (g := g) rfl _ _ g2
      have e2 := h.cells (g := g) rfl _ _ g3
      rw [Addr.add_lit] at e0 e1 e2
      exact ⟨e0, e1, e2⟩
end Go.Proofs.Ytnnknoohhoifbaa
