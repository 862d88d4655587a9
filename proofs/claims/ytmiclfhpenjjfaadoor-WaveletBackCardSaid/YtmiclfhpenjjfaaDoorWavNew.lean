/- wavelet: New. -/
import Derived.Test.YtmiclfhpenjjfaaDoorWavSplit
import Derived.Test.YtmiclfhpenjjfaaDoorShelf
namespace Go.Proofs.YtmiclfhpenjjfaaDoor
open Go.RowKit
open Go.ChangeShapes Go.WideShapes Go.ChangeAt
theorem bl_lt : ∀ f x, x < 2 ^ f → x < 2 ^ (Lib.bitLenAux f x)
  | 0, x, h => by simpa [Lib.bitLenAux] using h
  | f + 1, x, h => by
    unfold Lib.bitLenAux
    by_cases h0 : x = 0
    · subst h0; simp
    · rw [if_neg h0]
      have := bl_lt f (x / 2) (by rw [Nat.pow_succ] at h; omega)
      rw [Nat.add_comm, Nat.pow_succ]
      omega
theorem bl_le : ∀ f m x, x < 2 ^ m → Lib.bitLenAux f x ≤ m
  | 0, _, _, _ => by simp [Lib.bitLenAux]
  | f + 1, m, x, h => by
    unfold Lib.bitLenAux
    by_cases h0 : x = 0
    · rw [if_pos h0]; omega
    · rw [if_neg h0]
      cases m with
      | zero => simp at h; omega
      | succ m =>
        have := bl_le f m (x / 2) (by rw [Nat.pow_succ] at h; omega)
        omega
/-- how many levels -/
def nlv (k : Nat) : Nat := Lib.bitLen (k - 1)
theorem nlv_le {k : Nat} (h : k ≤ 512) : nlv k ≤ 9 := bl_le 64 9 (k - 1) (by omega)
theorem nlv_lt {k : Nat} (h1 : 1 ≤ k) (h : k ≤ 512) : k ≤ 2 ^ nlv k := by
  have := bl_lt 64 (k - 1) (by omega)
  show k ≤ 2 ^ Lib.bitLenAux 64 (k - 1)
  omega
theorem len_rt (x : Nat) (w : World) (h : x < 1024) : Rt Tryd.prog 26 [.int .u64 (x : Nat)] w fun v w' => v = .int .i64 (Lib.bitLen x : Nat) ∧ w = w' :=
  Calls.mono (Go.Proofs.Tryd.bits_Len (x : Nat) w (by omega) (by omega)) fun e w' ⟨he, hw⟩ => ⟨_, he, by rw [Int.toNat_natCast], hw.symm⟩
def lvlsV (n : Nat) (L : List Nat) (vs : Nat → Nat) (j : Nat) : List Value := (List.range j).flatMap fun i => lvlV (vs i) (zerosL (n - 1 - i) (lvl n L i)).length (n - 1 - i)
theorem lvls_succ (n : Nat) (L : List Nat) (vs : Nat → Nat) (j v : Nat) : lvlsV n L (fun i => if i = j then v else vs i) (j + 1) = lvlsV n L vs j ++ lvlV v (zerosL (n - 1 - j) (lvl n L j)).length (n - 1 - j) := by
  unfold lvlsV
  rw [List.range_succ, List.flatMap_append, List.flatMap_singleton]
  show _ ++ lvlV (if j = j then v else vs j) _ _ = _
  rw [if_pos rfl]
  congr 1
  have key : ∀ l : List Nat, (∀ i ∈ l, i < j) → (l.flatMap fun i => lvlV (if i = j then v else vs i) (zerosL (n - 1 - i) (lvl n L i)).length (n - 1 - i)) = l.flatMap fun i => lvlV (vs i) (zerosL (n - 1 - i) (lvl n L i)).length (n - 1 - i) := by
    intro l
    induction l with
    | nil => intro _; rfl
    | cons a r ih =>
      intro h
      rw [List.flatMap_cons, List.flatMap_cons, ih (fun i hi => h i (List.mem_cons_of_mem _ hi)), if_neg (by have := h a (List.mem_cons_self ..); omega)]
  exact key _ fun i hi => by simpa using hi
theorem lvls_one (n : Nat) (L : List Nat) (vs : Nat → Nat) (j : Nat) : ∀ u ∈ lvlsV n L vs j, u.oneCell' = true := flat_one (fun x _ => by simp [lvlV, Value.oneCell'])
/-- a tree over L -/
def TreeAt (w : World) (base b k : Nat) (L : List Nat) : Prop := base ≤ b ∧ ∃ (A : Option Addr) (c g : Nat) (vs : Nat → Nat), Blk w b 45 #[.slice A (nlv k) c, .slice (some ⟨g, 0, none⟩) (k + 1) (k + 1), .int .i64 (k : Nat)] ∧
  w.ownsRow base 49 3 (.slice A (nlv k) c) (nlv k) (lvlsV (nlv k) L vs (nlv k)) ∧ (∀ j, j < nlv k → Vec w base (vs j) ((lvl (nlv k) L j).map (bitN (nlv k - 1 - j)))) ∧ base ≤ g ∧ Blk w g 3 (tab (k + 1) (cntLt L)) ∧ 1 ≤ k ∧ k ≤ 512 ∧ (∀ x ∈ L, x < k) ∧ L.length ≤ 131072
theorem own_two {w : World} {base base2 e e2 s s2 n m c c2 : Nat} {A B : Option Addr} {xs ys : List Value} (h : w.ownsRow base e s (.slice A n c) n xs) (k : w.ownsRow base2 e2 s2 (.slice B m c2) m ys) (hne : e ≠ e2) : (Value.slice A n c).ownBlock = none ∨ (Value.slice A n c).ownBlock ≠ B.map (·.block) := by
  rcases h.2 with ⟨h0, _⟩ | ⟨g, cap, cur, hv, hg, hh, r⟩
  · exact .inl (by rw [h0]; rfl)
  · refine .inr fun e0 => ?_
    have hb : Blk w g e cur := hh
    have := own_off k hb hne g (by rw [← e0, hv]; rfl)
    exact this rfl
/-- a vector, while a row of levels grows -/
theorem Vec.off {w w' : World} {base b bs m c : Nat} {l : List Bool} {A : Option Addr} {xs : List Value} (h : Vec w base b l) (ho : w.ownsRow bs 49 3 (.slice A m c) m xs) (hg : w.grownBy w' (A.map (·.block))) : Vec w' base b l := by
  obtain ⟨gw, Aa, ca, ws, rs, h1, h2, h3, h4, h5, h6⟩ := h
  exact ⟨gw, Aa, ca, ws, rs, h1, h2, h3.grown hg (own_off ho h3 (by decide)), h4.grown hg (own_off ho h4 (by decide)), h5.kept hg (own_two h5 ho (by decide)), h6⟩
theorem Vec.only {w w' : World} {base b g t : Nat} {l : List Bool} {cs : Array Value} (h : Vec w base b l) (o : Only g w w') (hb : Blk w g t cs) (h1' : t ≠ 73) (h2' : t ≠ 64) (h3' : t ≠ 21) : Vec w' base b l := by
  obtain ⟨gw, Aa, ca, ws, rs, h1, h2, h3, h4, h5, h6⟩ := h
  have ne : ∀ {x t' cs'}, Blk w x t' cs' → t ≠ t' → x ≠ g := fun hx hne e => by
    subst e
    unfold Blk at hx hb
    rw [hx] at hb
    simp only [Option.some.injEq, Obj.cells.injEq] at hb
    exact hne hb.2.1.symm
  exact ⟨gw, Aa, ca, ws, rs, h1, h2, h3.only o (ne h3 h1'), h4.only o (ne h4 h2'), own_only3 h5 o (own_off h5 hb h3'), h6⟩
/-- symbols that lie in memory of the caller's, or in a row of numbers -/
def SymR (w0 w : World) (A : Option Addr) (L : List Nat) : Prop := RowOf nV w A L ∧ (∀ q, 0 < L.length → A.map (·.block) = some q → q < w0.heap.size ∨ ∃ cs, Blk w q 3 cs)
theorem SymR.from_ {w0 w w' : World} {A : Option Addr} {L : List Nat} (h : SymR w0 w A L) (hF : From w w') : SymR w0 w' A L := ⟨h.1.from_ hF, fun q h0 hq => (h.2 q h0 hq).imp id fun ⟨cs, hb⟩ => ⟨cs, hb.from_ hF⟩⟩
theorem symR_own {w0 w : World} {base n c : Nat} {A : Option Addr} {L : List Nat} (h : w.ownsRow base 3 1 (.slice A n c) n (L.map nV)) : SymR w0 w A L := by
  refine ⟨(RowOf.own h).2, fun q _ hq => .inr ?_⟩
  rcases h.2 with ⟨h0, _⟩ | ⟨g, cap, cur, hv, hg, hh, r⟩
  · simp only [Value.slice.injEq] at h0
    rw [h0.1] at hq; cases hq
  · simp only [Value.slice.injEq] at hv
    rw [hv.1] at hq
    simp only [Option.map_some, Option.some.injEq] at hq
    subst hq
    exact ⟨cur, hh⟩
theorem xs_nat {k : Int} {xs : List Int} (h : chkW k xs = 0) : ∃ (K : Nat) (L : List Nat), k = (K : Nat) ∧ xs = L.map (fun x : Nat => (x : Int)) ∧ 1 ≤ K ∧ K ≤ 512 ∧ (∀ x ∈ L, x < K) ∧ L.length ≤ 131072 := by
  unfold chkW at h
  split at h
  · cases h
  · rename_i h1
    split at h
    · cases h
    · rename_i h2
      split at h
      · cases h
      · rename_i h3
        have hb : ∀ x ∈ xs, 0 ≤ x ∧ x < k := fun x hx => by
          have h4 : badSym k x = false := by
            rw [← Bool.not_eq_true]
            intro hb
            exact h2 (List.any_eq_true.2 ⟨x, hx, hb⟩)
          have := of_decide_eq_false h4
          omega
        refine ⟨k.toNat, xs.map Int.toNat, by omega, ?_, by omega, by omega, fun x hx => ?_, by rw [List.length_map]; omega⟩
        · rw [List.map_map]
          refine ((List.map_congr_left fun x hx => ?_).trans (List.map_id xs)).symm
          have := hb x hx
          simp only [Function.comp, id]
          omega
        · obtain ⟨y, hy, rfl⟩ := List.mem_map.1 hx
          have := hb y hy
          omega
theorem row_nat {w : World} {A : Option Addr} {L : List Nat} (h : RowOf iV w A (L.map fun x : Nat => (x : Int))) : RowOf nV w A L := fun h0 => by
  obtain ⟨b, o, hA, hc⟩ := h (by simpa using h0)
  refine ⟨b, o, hA, fun i hi => ?_⟩
  have := hc i (by simpa using hi)
  rwa [List.getElem_map] at this
end Go.Proofs.YtmiclfhpenjjfaaDoor
