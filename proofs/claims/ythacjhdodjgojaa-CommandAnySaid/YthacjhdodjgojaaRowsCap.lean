/- Rows whose slices keep within their capacity; parts of them. -/
import Derived.Test.YthacjhdodjgojaaBase
namespace Go.Proofs.Ythacjhdodjgojaa

def RowC (w : World) (v : Value) (vs : List Value) : Prop := Row w v vs ∧ ∃ A cap, v = .slice A vs.length cap ∧ vs.length ≤ cap ∧ cap ≤ 9223372036854775807
theorem RowC.row {w : World} {v : Value} {vs : List Value} (h : RowC w v vs) : Row w v vs := h.1
theorem RowC.from_ {w w' : World} {v : Value} {vs : List Value} (h : RowC w v vs) (hw : From w w') : RowC w' v vs := ⟨h.1.from_ hw, h.2⟩
theorem RowC.nil_ (w : World) : RowC w (.slice none 0 0) [] := ⟨Row.nil_ w, none, 0, rfl, by simp, by decide⟩
theorem RowC.of_own {w : World} {base : Nat} {e : TypeId} {v : Value} {n : Nat} {xs : List Value} (h : w.ownsRow base e 1 v n xs) : RowC w v xs := by
  refine ⟨Row.of_own h, ?_⟩
  have hl : xs.length = n := by simpa using h.1
  rcases h.2 with ⟨rfl, rfl⟩ | ⟨g, cap, cur, rfl, hg, hh, h1, h2, _⟩
  · exact ⟨none, 0, by rw [hl], by omega, by decide⟩
  · exact ⟨_, cap, by rw [hl], by omega, by unfold maxLen at h2; omega⟩
theorem RowC.parts {w : World} {v : Value} {vs : List Value} (h : RowC w v vs) : ∃ A cap, v = .slice A vs.length cap ∧ vs.length ≤ cap ∧ cap ≤ 9223372036854775807 ∧ (0 < vs.length → ∃ b o, A = some ⟨b, o, none⟩ ∧ b < w.heap.size ∧ ∀ i u, vs[i]? = some u → w.cell? ⟨b, o + i, none⟩ = some u) := by
  obtain ⟨⟨A', c', hv', hp⟩, A, cap, rfl, h1, h2⟩ := h
  simp only [Value.slice.injEq] at hv'
  obtain ⟨rfl, -, rfl⟩ := hv'
  exact ⟨A, cap, rfl, h1, h2, hp⟩
theorem RowC.cut {w : World} {A : Option Addr} {n cap : Nat} {vs : List Value} (h : RowC w (.slice A n cap) vs) {k : Nat} (hk : k ≤ vs.length) : RowC w (.slice A k cap) (vs.take k) := by
  obtain ⟨A', c', hv, h1, h2, hp⟩ := h.parts
  simp only [Value.slice.injEq] at hv
  obtain ⟨rfl, rfl, rfl⟩ := hv
  have hlen : (vs.take k).length = k := by simp [Nat.min_eq_left hk]
  refine ⟨⟨A, cap, by rw [hlen], fun h0 => ?_⟩, A, cap, by rw [hlen], by omega, h2⟩
  rw [hlen] at h0
  obtain ⟨b, o, hA, hb, hc⟩ := hp (by omega)
  refine ⟨b, o, hA, hb, fun i u hu => hc i u ?_⟩
  rw [List.getElem?_take] at hu
  split at hu
  · exact hu
  · cases hu
theorem RowC.blk {w : World} {g : Nat} {t : TypeId} {cs : Array Value} (h : Blk w g t cs) (cap : Nat) (h1 : cs.size ≤ cap) (h2 : cap ≤ 9223372036854775807) : RowC w (.slice (some ⟨g, 0, none⟩) cs.size cap) cs.toList :=
  ⟨Row.blk h cap, some ⟨g, 0, none⟩, cap, by simp, by simpa using h1, h2⟩
theorem RowC.mk_ {w : World} {A : Option Addr} {n cap : Nat} {vs : List Value} (h : Row w (.slice A n cap) vs) (hl : vs.length = n) (h1 : n ≤ cap) (h2 : cap ≤ 9223372036854775807) : RowC w (.slice A n cap) vs :=
  ⟨h, A, cap, by rw [hl], by omega, h2⟩
/-- the address of a rest, as the model spells it -/
def restA (A : Option Addr) (cap k : Nat) : Option Addr := if cap = k then A else A.map (·.add k)
theorem RowC.rest {w : World} {A : Option Addr} {n cap : Nat} {vs : List Value} (h : RowC w (.slice A n cap) vs) {k : Nat} (hk : k ≤ vs.length) : RowC w (.slice (restA A cap k) (n - k) (cap - k)) (vs.drop k) := by
  obtain ⟨A', c', hv, h1, h2, hp⟩ := h.parts
  simp only [Value.slice.injEq] at hv
  obtain ⟨rfl, rfl, rfl⟩ := hv
  have hlen : (vs.drop k).length = vs.length - k := by simp
  refine ⟨⟨_, _, by rw [hlen], fun h0 => ?_⟩, _, _, by rw [hlen], by omega, by omega⟩
  rw [hlen] at h0
  obtain ⟨b, o, rfl, hb, hcc⟩ := hp (by omega)
  refine ⟨b, o + k, by unfold restA; rw [if_neg (by omega)]; simp [Addr.add_lit], hb, fun i u hu => ?_⟩
  rw [Nat.add_assoc]
  refine hcc _ u ?_
  rwa [List.getElem?_drop] at hu
end Go.Proofs.Ythacjhdodjgojaa
