/- SessionOnce: the used clients in memory. -/
import Derived.Test.YtbikemhokgcboaaSesOnceM
import Derived.Test.YtbikemhokgcboaaFast15
namespace Go.Proofs.Ytbikemhokgcboaa
open Go.RowKit
open Go.ChangeShapes Go.WideShapes Go.ChangeAt
theorem SesOnceU_q55 : litQ Try.prog 55 = some (3, 1, 8, (.int .i64 0)) := by kernel_rfl
theorem SesOnceU_e55 : elemQ Try.prog 55 = some (3, 1) := by kernel_rfl
def UsedAt (w : World) (base : Nat) (A : Option Addr) (n c : Nat) (U : List Int) : Prop := w.ownsRow base 3 1 (.slice A n c) n (U.map iV) ∨ OwnO w base 3 A n c (U.map iV)
theorem used_from {w w' : World} {base n c : Nat} {A : Option Addr} {U : List Int} (h : UsedAt w base A n c U) (hF : From w w') : UsedAt w' base A n c U := h.imp (fun h => h.kept_from hF) (fun h => h.from_ hF)
theorem used_row {w : World} {base n c : Nat} {A : Option Addr} {U : List Int} (h : UsedAt w base A n c U) : n = U.length ∧ RowOf iV w A U := h.elim (fun h => RowOf.own h) (fun h => OwnO.row h)
theorem used_at {w : World} {base n c : Nat} {A : Option Addr} {U : List Int} (h : UsedAt w base A n c U) : ∀ k, A.map (·.block) = some k → base ≤ k ∧ k < w.heap.size := h.elim (fun h => own_at h) (fun h => h.at_)
theorem used_own {w : World} {base n c : Nat} {A : Option Addr} {U : List Int} (h : UsedAt w base A n c U) (hn : 0 < n) : OwnO w base 3 A n c (U.map iV) := h.elim (fun h => OwnO.of_own h hn) id
theorem used_take {w : World} {base n c m : Nat} {A : Option Addr} {U : List Int} (h : UsedAt w base A n c U) (hn : 0 < n) (hm : m ≤ n) : UsedAt w base A m c (U.take m) := .inr (by have := (used_own h hn).take hm; rwa [← List.map_take] at this)
theorem used_form {w : World} {base n c : Nat} {A : Option Addr} {U : List Int} (h : UsedAt w base A n c U) (hn : 0 < n) : ∃ g o, A = some ⟨g, o, none⟩ ∧ n ≤ c := by
  obtain ⟨_, h2, _, g, o, _, hA, _⟩ := used_own h hn
  exact ⟨g, o, hA, h2⟩
theorem used_tail {w : World} {base n c g o : Nat} {U : List Int} (h : UsedAt w base (some ⟨g, o, none⟩) (n + 1) c U) : UsedAt w base (some ⟨g, o + 1, none⟩) n (c - 1) (U.drop 1) := .inr (by have := (used_own h (by omega)).tail; rwa [← List.map_drop] at this)
theorem used_cell {w : World} {base n c g o q : Nat} {V : List (Int × Int)} (h : UsedAt w base (some ⟨g, o, none⟩) n c (V.map (·.1))) (hq : q < V.length) : w.cell? ⟨g, o + q, none⟩ = some (.int .i64 V[q].1) := by
  obtain ⟨b, o', hA, hc⟩ := (used_row h).2 (by rw [List.length_map]; omega)
  cases hA
  rw [hc q (by rw [List.length_map]; exact hq), List.getElem_map]
theorem used_push {ρ : Operand → Value} {w : World} {s x : Operand} {base n c b : Nat} {A : Option Addr} {U : List Int} {v : Int} (hs : ρ s = .slice A n c) (h : UsedAt w base A n c U) (hB : base ≤ w.heap.size) (hx : ρ x = .slice (some ⟨b, 0, none⟩) 1 1) (hb : Blk w b 3 #[.int .i64 v]) (hn : n ≤ 1000000) :
    ∃ A' c' w', RO Try.prog ρ (.call { callee := .builtin .append, args := #[s, x], argTypes := #[55, 55] }) w (.slice A' (n + 1) c') w' ∧ UsedAt w' base A' (n + 1) c' (U ++ [v]) ∧ w.grownBy w' (A.map (·.block)) := by
  have hsrc : ∃ b' o, (some ⟨b, 0, none⟩ : Option Addr) = some ⟨b', o, none⟩ ∧ w.rangeAt b' o [iV v] := ⟨b, 0, rfl, hb.whole⟩
  have e : (U ++ [v]).map iV = U.map iV ++ [iV v] := by rw [List.map_append]; rfl
  rcases h with h | h
  · obtain ⟨A', c', w', h1, h2, h3⟩ := ro_appendB (news := [iV v]) SesOnceU_q55 rfl (by decide) hs h hB hx rfl hsrc (by simp [iV, Value.oneCell']) (by omega) (by omega)
    exact ⟨A', c', w', h1, .inl (by rw [e]; exact h2), h3⟩
  · obtain ⟨A', c', w', h1, h2, h3⟩ := ro_appendO (news := [iV v]) SesOnceU_q55 rfl hs h hB hx rfl hsrc (by simp [iV, Value.oneCell']) (by omega) (by omega)
    exact ⟨A', c', w', h1, .inr (by rw [e]; exact h2), h3⟩
theorem st_usedpush {ops : Array Oper} {Q : Exit → Go.Act → World → Prop} {rest : List Oper} {n' : Nat} {L : List (Nat × Value)} {w : World} {ty : TypeId} {pos : String} {after : Array Edge} {d : Nat} {s x : Operand} {base n c b : Nat} {A : Option Addr} {U : List Int} {v : Int} (hs : ev n' L s = .slice A n c) (h : UsedAt w base A n c U) (hB : base ≤ w.heap.size) (hx : ev n' L x = .slice (some ⟨b, 0, none⟩) 1 1) (hb : Blk w b 3 #[.int .i64 v]) (hn : n ≤ 1000000)
    (k : ∀ A' c' w', UsedAt w' base A' (n + 1) c' (U ++ [v]) → w.grownBy w' (A.map (·.block)) → St Try.prog ops Q rest n' ((d, .slice A' (n + 1) c') :: L) w') : St Try.prog ops Q (⟨some d, .call { callee := .builtin .append, args := #[s, x], argTypes := #[55, 55] }, ty, pos, after, none⟩ :: rest) n' L w := by
  obtain ⟨A', c', w', h1, h2, h3⟩ := used_push hs h hB hx hb hn
  exact st_val h1 (k A' c' w' h2 h3)
/-! ### append(append(copy of the first ones, the others but one), that one) -/
def T29 (g o n c k : Nat) (cl : Int) (x : Value × Value × Value × Value) : List (Nat × Nat × Value) :=
  [(0, 160, .slice (some ⟨g, o, none⟩) n c), (1, 161, .int .i64 (k : Nat)), (2, 162, .slice (some ⟨g, o, none⟩) k c), (3, 163, x.1), (4, 164, .slice (some ⟨g, o, none⟩) n c), (5, 165, .int .i64 (k : Nat)), (6, 166, .int .i64 ((k + 1 : Nat) : Int)),
   (7, 167, .slice (some ⟨g, if c = k + 1 then o else o + (k + 1), none⟩) (n - (k + 1)) (c - (k + 1))), (8, 168, x.2.1), (9, 169, .int .i64 cl), (10, 170, x.2.2.1), (11, 171, x.2.2.2), (12, 4, x.2.2.2)]
theorem t29_uni (g o n c k : Nat) (cl : Int) (x : Value × Value × Value × Value) : UniT (T29 g o n c k cl x) := by simp [UniT, T29]
theorem t29_swap {L L' : List (Nat × Value)} {g o n c k : Nat} {cl : Int} {x y : Value × Value × Value × Value} {S : Nat → Bool} (h : InvL L (T29 g o n c k cl x) S L') (h3 : S 3 = true → y.1 = x.1) (h8 : S 8 = true → y.2.1 = x.2.1) (h10 : S 10 = true → y.2.2.1 = x.2.2.1) (h11 : S 11 = true → y.2.2.2 = x.2.2.2) (h12 : S 12 = true → y.2.2.2 = x.2.2.2) : InvL L (T29 g o n c k cl y) S L' := by
  refine h.swap rfl (fun p hp hs => ?_) (fun p hp => ?_)
  · simp only [T29, List.mem_cons, List.not_mem_nil, or_false] at hp ⊢
    rcases hp with rfl | rfl | rfl | rfl | rfl | rfl | rfl | rfl | rfl | rfl | rfl | rfl | rfl <;> simp only at hs <;> first | (simp; done) | (simp; exact h3 hs) | (simp; exact h8 hs) | (simp; exact h10 hs) | (simp; exact h11 hs) | (simp; exact h12 hs)
  · simp only [T29, List.mem_cons, List.not_mem_nil, or_false] at hp
    rcases hp with rfl | rfl | rfl | rfl | rfl | rfl | rfl | rfl | rfl | rfl | rfl | rfl | rfl <;> simp [T29]
def Apart (S : Nat → Bool) (x3 : Value) (A : Option Addr) : Prop := S 10 = true → ∀ b, x3 = .slice (some ⟨b, 0, none⟩) 1 1 → ∀ kk, A.map (·.block) = some kk → kk ≠ b
def M29 (W0 : World) (k n : Nat) (cl : Int) (U : List Int) (S : Nat → Bool) (x : Value × Value × Value × Value) (w' : World) : Prop :=
  From W0 w' ∧ (S 12 = true → S 11 = true) ∧
  (S 3 = true → S 8 = false → ∃ A c, x.1 = .slice A k c ∧ w'.ownsRow W0.heap.size 3 1 (.slice A k c) k ((U.take k).map iV) ∧ Apart S x.2.2.1 A) ∧
  (S 8 = true → S 11 = false → ∃ A c, x.2.1 = .slice A (n - 1) c ∧ w'.ownsRow W0.heap.size 3 1 (.slice A (n - 1) c) (n - 1) ((U.take k ++ U.drop (k + 1)).map iV) ∧ Apart S x.2.2.1 A) ∧
  (S 10 = true → ∃ b, x.2.2.1 = .slice (some ⟨b, 0, none⟩) 1 1 ∧ Blk w' b 3 #[.int .i64 cl]) ∧
  (S 11 = true → ∃ A c, x.2.2.2 = .slice A n c ∧ w'.ownsRow W0.heap.size 3 1 (.slice A n c) n ((U.take k ++ U.drop (k + 1) ++ [cl]).map iV))
theorem m29_copy {W0 w w' : World} {k n c : Nat} {cl : Int} {U : List Int} {S : Nat → Bool} {x1 x2 x3 x4 : Value} {A : Option Addr} (h : M29 W0 k n cl U S (x1, x2, x3, x4) w) (hF : From w w') (ho : w'.ownsRow w.heap.size 3 1 (.slice A k c) k ((U.take k).map iV)) : M29 W0 k n cl U (setB S 3) (.slice A k c, x2, x3, x4) w' := by
  obtain ⟨a, b, _, d, e, f⟩ := h
  refine ⟨a.next hF, b, fun _ _ => ⟨A, c, rfl, own_le ho a.size, fun h10 bb hx kk hk => ?_⟩, fun h8 h11 => ?_, fun h10 => ?_, fun h11 => ?_⟩
  · obtain ⟨b', hb', hB⟩ := e h10
    simp only at hx hb'
    rw [hb'] at hx
    simp only [Value.slice.injEq, Option.some.injEq, Addr.mk.injEq] at hx
    have := hB.lt
    have := (own_at ho kk hk).1
    omega
  · obtain ⟨A2, c2, h1, h2, h3⟩ := d h8 h11
    exact ⟨A2, c2, h1, h2.kept_from hF, h3⟩
  · obtain ⟨b', hb', hB⟩ := e h10
    exact ⟨b', hb', hB.from_ hF⟩
  · obtain ⟨A2, c2, h1, h2⟩ := f h11
    exact ⟨A2, c2, h1, h2.kept_from hF⟩
theorem m29_lit {W0 w : World} {k n : Nat} {cl : Int} {U : List Int} {S : Nat → Bool} {x1 x2 x3 x4 : Value} (h : M29 W0 k n cl U S (x1, x2, x3, x4) w) (h10 : S 10 = false) (hs : S 11 = false) : M29 W0 k n cl U (setB S 10) (x1, x2, .slice (some ⟨w.heap.size, 0, none⟩) 1 1, x4) (w.alloc (.cells #[.int .i64 cl] 3)) := by
  obtain ⟨a, b, c, d, e, f⟩ := h
  have hF : From w (w.alloc (.cells #[.int .i64 cl] 3)) := From.rfl_.new _
  refine ⟨a.next hF, b, fun h3 h8 => ?_, fun h8 h11 => ?_, fun _ => ⟨w.heap.size, rfl, Blk.new _ _ _⟩, fun h11 => ?_⟩
  · obtain ⟨A2, c2, h1, h2, _⟩ := c h3 h8
    refine ⟨A2, c2, h1, h2.kept_from hF, fun _ bb hx kk hk => ?_⟩
    simp only [Value.slice.injEq, Option.some.injEq, Addr.mk.injEq] at hx
    have := (own_at h2 kk hk).2
    omega
  · obtain ⟨A2, c2, h1, h2, _⟩ := d h8 h11
    refine ⟨A2, c2, h1, h2.kept_from hF, fun _ bb hx kk hk => ?_⟩
    simp only [Value.slice.injEq, Option.some.injEq, Addr.mk.injEq] at hx
    have := (own_at h2 kk hk).2
    omega
  · exact absurd (show S 11 = true from h11) (by rw [hs]; decide)
theorem m29_app {ρ : Operand → Value} {s y : Operand} {W0 w : World} {k n c g o : Nat} {cl : Int} {U : List Int} {S : Nat → Bool} {x1 x2 x3 x4 : Value} (h : M29 W0 k n cl U S (x1, x2, x3, x4) w) (hk : k < n) (hn : n = U.length) (hn8 : n ≤ 1000000) (h3 : S 3 = true) (h8 : S 8 = false) (hs11 : S 11 = false) (hnc : n ≤ c)
    (hu : UsedAt W0 W0.heap.size (some ⟨g, o, none⟩) n c U ∨ ∃ bs, UsedAt W0 bs (some ⟨g, o, none⟩) n c U) (hx : ρ s = x1) (hy : ρ y = .slice (some ⟨g, if c = k + 1 then o else o + (k + 1), none⟩) (n - (k + 1)) (c - (k + 1))) :
    ∃ A' c' w', RO Try.prog ρ (.call { callee := .builtin .append, args := #[s, y], argTypes := #[55, 55] }) w (.slice A' (n - 1) c') w' ∧ M29 W0 k n cl U (setB S 8) (x1, .slice A' (n - 1) c', x3, x4) w' := by
  obtain ⟨a, b, cc, d, e, f⟩ := h
  obtain ⟨A, c1, h1, h2, hap⟩ := cc h3 h8
  simp only at h1
  subst h1
  have hrow : RowOf iV w (some ⟨g, o, none⟩) U := by
    rcases hu with hu | ⟨bs, hu⟩
    · exact (used_row hu).2.from_ a
    · exact (used_row hu).2.from_ a
  have hsrc : ∃ b' o', (some ⟨g, if c = k + 1 then o else o + (k + 1), none⟩ : Option Addr) = some ⟨b', o', none⟩ ∧ w.rangeAt b' o' ((U.drop (k + 1)).map iV) := by
    refine ⟨g, _, rfl, fun j v hv => ?_⟩
    have hj : j < (U.drop (k + 1)).length := by
      have := (List.getElem?_eq_some_iff.1 hv).1
      rwa [List.length_map] at this
    rw [List.length_drop] at hj
    rw [if_neg (by omega)]
    obtain ⟨b', o', hA, hc⟩ := hrow (by omega)
    cases hA
    rw [show o + (k + 1) + j = o + (k + 1 + j) by omega, hc (k + 1 + j) (by omega), ← hv]
    simp [List.getElem?_drop, show k + 1 + j < U.length by omega]
  obtain ⟨A', c', w', r1, r2, r3, r4⟩ := ro_appendL (news := (U.drop (k + 1)).map iV) SesOnceU_q55 rfl (by decide) hx h2 a.size hy (by rw [List.length_map, List.length_drop]; omega) hsrc (fun u hu => by obtain ⟨z, _, rfl⟩ := List.mem_map.1 hu; rfl) (by omega) (by omega)
  have e1 : k + (n - (k + 1)) = n - 1 := by omega
  rw [e1] at r1 r2
  have hF : From W0 w' := a.grew r3 (fun kk hk => (own_at h2 kk hk).1)
  refine ⟨A', c', w', r1, hF, b, fun _ h => (by cases h), fun _ _ => ⟨A', c', rfl, by rw [List.map_append]; exact r2, fun h10 bb hb kk hkk => ?_⟩, fun h10 => ?_, fun h11 => absurd (show S 11 = true from h11) (by rw [hs11]; decide)⟩
  · obtain ⟨b', hb', hB⟩ := e h10
    simp only at hb hb'
    rcases r4 with r4 | r4
    · exact hap h10 bb hb kk (by rw [← r4]; exact hkk)
    · rw [r4] at hkk
      rw [hb'] at hb
      simp only [Value.slice.injEq, Option.some.injEq, Addr.mk.injEq] at hb
      have := hB.lt
      cases hkk
      omega
  · obtain ⟨b', hb', hB⟩ := e h10
    exact ⟨b', hb', hB.grown r3 (fun kk hk => hap h10 b' hb' kk hk)⟩
theorem m29_app2 {ρ : Operand → Value} {s y : Operand} {W0 w : World} {k n : Nat} {cl : Int} {U : List Int} {S : Nat → Bool} {x1 x2 x3 x4 : Value} (h : M29 W0 k n cl U S (x1, x2, x3, x4) w) (hk : k < n) (hn8 : n ≤ 1000000) (h8 : S 8 = true) (h10 : S 10 = true) (h11 : S 11 = false) (hx : ρ s = x2) (hy : ρ y = x3) :
    ∃ A' c' w', RO Try.prog ρ (.call { callee := .builtin .append, args := #[s, y], argTypes := #[55, 55] }) w (.slice A' n c') w' ∧ M29 W0 k n cl U (setB S 11) (x1, x2, x3, .slice A' n c') w' := by
  obtain ⟨a, b, cc, d, e, f⟩ := h
  obtain ⟨A, c1, h1, h2, hap⟩ := d h8 h11
  obtain ⟨b', hb', hB⟩ := e h10
  simp only at h1 hb'
  subst h1
  subst hb'
  obtain ⟨A', c', w', r1, r2, r3⟩ := ro_appendB (news := [iV cl]) SesOnceU_q55 rfl (by decide) hx h2 a.size hy rfl ⟨b', 0, rfl, hB.whole⟩ (by simp [iV, Value.oneCell']) (by omega) (by omega)
  have e1 : n - 1 + 1 = n := by omega
  rw [e1] at r1 r2
  have hF : From W0 w' := a.grew r3 (fun kk hk => (own_at h2 kk hk).1)
  refine ⟨A', c', w', r1, hF, fun _ => rfl, fun _ h => absurd (show S 8 = false from h) (by rw [h8]; decide), fun _ h => (by cases h), fun _ => ⟨b', rfl, hB.grown r3 (fun kk hk => hap h10 b' rfl kk hk)⟩, fun _ => ⟨A', c', rfl, by rw [List.map_append]; exact r2⟩⟩
end Go.Proofs.Ytbikemhokgcboaa
