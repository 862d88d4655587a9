/- Arguments' slices of integers as rows of natural numbers. -/
import Derived.Test.YtpafbgdbjambgaaFast5
import Derived.Test.YtpafbgdbjambgaaArg
namespace Go.Proofs.Ytpafbgdbjambgaa
open Go.RowKit Go.ChangeShapes Go.WideShapes Go.ChangeAt

/-- a slice of unsigned integers that reads -/
theorem at_nats {w : World} {k : IntKind} {c : Nat → Option Value} {xs : List Int} (h : (Ty.sl (.int k)).At w c xs) (hk : ∀ x, (Lit.int k x).wf = true → 0 ≤ x) :
    ∃ (A : Option Addr) (cap : Nat) (l : List Nat), c 0 = some (.slice A l.length cap) ∧ RowOf (fun x : Nat => .int k x) w A l ∧ (∀ x ∈ l, (Lit.int k (x : Nat)).wf = true) ∧ l.length * (Ty.int k).bytes ≤ 140737488351232 ∧ xs = l.map (fun x : Nat => (x : Int)) ∧ l.length ≤ cap := by
  obtain ⟨A, cap, h0, hr, hw, hb, hc⟩ := at_ints h
  have hm : (xs.map (·.toNat)).map (fun x : Nat => (x : Int)) = xs := by
    rw [List.map_map]
    refine (List.map_congr_left fun x hx => ?_).trans (List.map_id xs)
    have := hk x (hw x hx)
    simp only [Function.comp, id]
    omega
  have hm2 : (xs.map (·.toNat)).map (fun (x : Nat) => Value.int k x) = xs.map fun x => .int k x := by
    have := congrArg (List.map fun x : Int => Value.int k x) hm
    rwa [List.map_map] at this
  have hr2 : Row w (.slice A (xs.map (·.toNat)).length cap) ((xs.map (·.toNat)).map (fun (x : Nat) => Value.int k x)) := by rw [List.length_map, hm2]; exact hr
  refine ⟨A, cap, xs.map (·.toNat), by rw [List.length_map]; exact h0, (RowOf.of_row hr2).2, fun y hy => ?_, by rw [List.length_map]; exact hb, hm.symm, by rw [List.length_map]; exact hc.1⟩
  obtain ⟨x, hx, rfl⟩ := List.mem_map.1 hy
  have h1 := hw x hx
  have h2 := hk x h1
  rwa [Int.toNat_of_nonneg h2]
theorem wf_bounds {k : IntKind} {x : Int} (h : (Lit.int k x).wf = true) : k.min ≤ x ∧ x ≤ k.max := by simpa [Lit.wf] using h
theorem wf_u64 {x : Int} (h : (Lit.int .u64 x).wf = true) : 0 ≤ x ∧ x < 18446744073709551616 := by
  have := wf_bounds h
  have e1 : IntKind.u64.min = 0 := by decide
  have e2 : IntKind.u64.max = 18446744073709551615 := by decide
  omega
theorem wf_u8 {x : Int} (h : (Lit.int .u8 x).wf = true) : 0 ≤ x ∧ x < 256 := by
  have := wf_bounds h
  have e1 : IntKind.u8.min = 0 := by decide
  have e2 : IntKind.u8.max = 255 := by decide
  omega
theorem wf_i64 {x : Int} (h : (Lit.int .i64 x).wf = true) : -9223372036854775808 ≤ x ∧ x ≤ 9223372036854775807 := by
  have := wf_bounds h
  have e1 : IntKind.i64.min = -9223372036854775808 := by decide
  have e2 : IntKind.i64.max = 9223372036854775807 := by decide
  omega
theorem at_longs {w : World} {c : Nat → Option Value} {xs : List Int} (h : (Ty.sl (.int .u64)).At w c xs) :
    ∃ (A : Option Addr) (cap : Nat) (l : List Nat), c 0 = some (.slice A l.length cap) ∧ RowOf uV w A l ∧ (∀ x ∈ l, x < 2 ^ 64) ∧ l.length * 8 ≤ 140737488351232 ∧ l.length ≤ cap := by
  obtain ⟨A, cap, l, h0, hr, hw, hb, _, hc⟩ := at_nats h (fun x hx => (wf_u64 hx).1)
  exact ⟨A, cap, l, h0, hr, fun x hx => by have := wf_u64 (hw x hx); omega, hb, hc⟩
theorem at_bytes' {w : World} {c : Nat → Option Value} {xs : List Int} (h : (Ty.sl (.int .u8)).At w c xs) :
    ∃ (A : Option Addr) (cap : Nat) (l : List Nat), c 0 = some (.slice A l.length cap) ∧ RowOf bV w A l ∧ (∀ x ∈ l, x < 256) ∧ l.length ≤ 140737488351232 ∧ l.length ≤ cap := by
  obtain ⟨A, cap, l, h0, hr, hw, hb, _, hc⟩ := at_nats h (fun x hx => (wf_u8 hx).1)
  exact ⟨A, cap, l, h0, hr, fun x hx => by have := wf_u8 (hw x hx); omega, by simpa [Ty.bytes] using hb, hc⟩
/-- a slice of numbers -/
theorem at_nums {w : World} {c : Nat → Option Value} {xs : List Int} (h : (Ty.sl (.int .i64)).At w c xs) :
    ∃ (A : Option Addr) (cap : Nat), c 0 = some (.slice A xs.length cap) ∧ RowOf iV w A xs ∧ (∀ x ∈ xs, -9223372036854775808 ≤ x ∧ x ≤ 9223372036854775807) ∧ xs.length * 8 ≤ 140737488351232 ∧ xs.length ≤ cap := by
  obtain ⟨A, cap, h0, hr, hw, hb, hc⟩ := at_ints h
  exact ⟨A, cap, h0, (RowOf.of_row hr).2, fun x hx => wf_i64 (hw x hx), hb, hc.1⟩
theorem Blk.grown {w w' : World} {g : Nat} {t : TypeId} {cs : Array Value} {r : Option Nat} (h : Blk w g t cs) (hg : w.grownBy w' r) (hne : ∀ k, r = some k → k ≠ g) : Blk w' g t cs :=
  (hg.block g h.lt (fun e => hne g e.symm rfl)).trans h
end Go.Proofs.Ytpafbgdbjambgaa
namespace Go.Proofs.Ytpafbgdbjambgaa
open Go.RowKit Go.ChangeShapes Go.WideShapes Go.ChangeAt
/-- a law over a slice: what the frame asks, out of the walk -/
theorem walk_sl {H : Type} {enc : TypeId × Value → H} {F : FuncId} {T : TypeId} (t : Ty) (hf : (Ty.sl t).fits Try.prog (.inl T) = true)
    (h : ∀ (A : Option Addr) (c : Nat) (xs : List t.den) (w : World), xs.length * t.bytes ≤ 140737488351232 → (0 < xs.length → ∃ b o, A = some ⟨b, o, none⟩ ∧ ∀ (i : Nat) (hi : i < xs.length), t.At w (fun j => w.cell? ⟨b, o + i * t.size + j, none⟩) xs[i]) →
      Rt Try.prog F [.slice A xs.length c] w fun v w' => v = .bool true ∧ From w w')
    (W : World) (base : Nat) (v : Value) (d : DataW H) (p : List MemPlace) (hok : Value.okWide Try.prog W .any base T v) (ht : DataW.Trod enc Try.prog W 0 (fun _ => true) true T v d p) (hsz : ∀ n ∈ d.weights Try.prog T, n ≤ 140737488351232) :
    Calls Try.prog F #[v] W fun e W' => e = .returned (.bool true) ∧ From W W' := by
  obtain ⟨A, cap, xs, rfl, hb, _, he⟩ := arg_sl t hf hok ht hsz
  refine Rt.to (h A cap xs W hb fun h0 => ?_)
  obtain ⟨b, o, hA, _, hi⟩ := he h0
  exact ⟨b, o, hA, fun i h => hi i _ (List.getElem?_eq_getElem h)⟩
theorem range4 {w : World} {b a : Nat} {v0 v1 v2 v3 : Value} (h0 : w.cell? ⟨b, a, none⟩ = some v0) (h1 : w.cell? ⟨b, a + 1, none⟩ = some v1) (h2 : w.cell? ⟨b, a + 2, none⟩ = some v2) (h3 : w.cell? ⟨b, a + 3, none⟩ = some v3) : w.rangeAt b a [v0, v1, v2, v3] := fun j v hv => by
  match j, hv with
  | 0, hv => simp at hv; subst hv; exact h0
  | 1, hv => simp at hv; subst hv; exact h1
  | 2, hv => simp at hv; subst hv; exact h2
  | 3, hv => simp at hv; subst hv; exact h3
  | j + 4, hv => simp at hv
end Go.Proofs.Ytpafbgdbjambgaa
