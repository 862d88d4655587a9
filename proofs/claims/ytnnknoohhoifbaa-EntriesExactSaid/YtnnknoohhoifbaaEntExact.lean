/- The law EntriesExact. -/
import Derived.Test.YtnnknoohhoifbaaEntSpoil
import Derived.Test.YtnnknoohhoifbaaEntSlice
namespace Go.Proofs.Ytnnknoohhoifbaa
open Go.RowKit
open Go.ChangeShapes Go.WideShapes Go.ChangeAt
/-- a log as it was told: zero if there was an error; else a row of its own, above bs -/
structure ToldL (w : World) (bs : Nat) (err B T : Int) (ys : List Ent) (X Y : Int) (A : Option Addr) (n c : Nat) : Prop where
  x : X = if err = 0 then B else 0
  y : Y = if err = 0 then T else 0
  own : w.ownsRow bs 63 3 (.slice A n c) n (entV (if err = 0 then ys else []))
theorem ToldL.ents {w : World} {bs : Nat} {err B T X Y : Int} {ys : List Ent} {A : Option Addr} {n c : Nat} (h : ToldL w bs err B T ys X Y A n c) : Ents w (.slice A n c) (if err = 0 then ys else []) := by
  refine Ents.of_own h.own ?_
  have := h.own.1
  rw [entV_length] at this
  omega
theorem ToldL.from_ {w w' : World} {bs : Nat} {err B T X Y : Int} {ys : List Ent} {A : Option Addr} {n c : Nat} (h : ToldL w bs err B T ys X Y A n c) (hF : From w w') : ToldL w' bs err B T ys X Y A n c := ⟨h.x, h.y, h.own.kept_from hF⟩
theorem ToldL.only {w w' : World} {bs g : Nat} {err B T X Y : Int} {ys : List Ent} {A : Option Addr} {n c : Nat} (h : ToldL w bs err B T ys X Y A n c) (o : Only g w w') (hg : g < bs) : ToldL w' bs err B T ys X Y A n c := ⟨h.x, h.y, own_only h.own o hg⟩
theorem ToldL.le {w : World} {bs bs' : Nat} {err B T X Y : Int} {ys : List Ent} {A : Option Addr} {n c : Nat} (h : ToldL w bs err B T ys X Y A n c) (hb : bs' ≤ bs) : ToldL w bs' err B T ys X Y A n c := ⟨h.x, h.y, ownsRow_le h.own hb⟩
theorem told_zero (w : World) (bs : Nat) (err B T : Int) (ys : List Ent) (he : err ≠ 0) : ToldL w bs err B T ys 0 0 none 0 0 := ⟨by rw [if_neg he], by rw [if_neg he], by rw [if_neg he]; exact World.ownsRow_nil _ _ _ _⟩
theorem told_ap {w w' : World} {err B T : Int} {ys : List Ent} {L : Value} (h : ApGot w w' B T ys err L) : ∃ X Y A n c, L = .agg #[.int .i64 X, .int .i64 Y, .slice A n c] ∧ ToldL w' w.heap.size err B T ys X Y A n c := by
  by_cases he : err = 0
  · obtain ⟨v', rfl, ho⟩ := h.2 he
    obtain ⟨A, c, rfl⟩ := own_form ho
    exact ⟨B, T, A, _, c, rfl, by rw [if_pos he], by rw [if_pos he], by rw [if_pos he]; exact ho⟩
  · rw [h.1 he]
    exact ⟨0, 0, none, 0, 0, rfl, told_zero _ _ _ _ _ _ he⟩
theorem told_co {w w' : World} {err i t : Int} {ys : List Ent} {L : Value} (h : CoGot w w' i t ys err L) : ∃ X Y A n c, L = .agg #[.int .i64 X, .int .i64 Y, .slice A n c] ∧ ToldL w' w.heap.size err i t ys X Y A n c := by
  by_cases he : err = 0
  · obtain ⟨A, c, rfl, ho⟩ := h.2 he
    exact ⟨i, t, A, _, c, rfl, by rw [if_pos he], by rw [if_pos he], by rw [if_pos he]; exact ho⟩
  · rw [h.1 he]
    exact ⟨0, 0, none, 0, 0, rfl, told_zero _ _ _ _ _ _ he⟩
theorem append_rt (B T : Int) (A A' : Option Addr) (n c m d : Nat) (xs ys : List Ent) (w : World) (h : Ents w (.slice A n c) xs) (hu : Ents w (.slice A' m d) ys) (hy : ys.length ≤ 400000000000) :
    Rt Try.prog 28 [.agg #[.int .i64 B, .int .i64 T, .slice A n c], .slice A' m d] w fun v w' => ∃ X Y A2 k c2, v = .tuple #[.agg #[.int .i64 X, .int .i64 Y, .slice A2 k c2], .int .i64 (apErr B T xs ys)] ∧ ToldL w' w.heap.size (apErr B T xs ys) B T (xs ++ ys) X Y A2 k c2 ∧ From w w' :=
  Calls.mono (append_any B T _ _ xs ys w h hu hy) fun e w' ⟨L, he, hg, hF⟩ => ⟨_, he, by obtain ⟨X, Y, A2, k, c2, rfl, ht⟩ := told_ap hg; exact ⟨X, Y, A2, k, c2, rfl, ht, hF⟩⟩
theorem refAppend_rt (B T : Int) (A A' : Option Addr) (n c m d : Nat) (xs ys : List Ent) (w : World) (h : Ents w (.slice A n c) xs) (hu : Ents w (.slice A' m d) ys) (hm : mayLog B T xs = true) (hy : ys.length ≤ 400000000000) :
    Rt Try.prog 17 [.agg #[.int .i64 B, .int .i64 T, .slice A n c], .slice A' m d] w fun v w' => ∃ X Y A2 k c2, v = .tuple #[.agg #[.int .i64 X, .int .i64 Y, .slice A2 k c2], .int .i64 (apErr B T xs ys)] ∧ ToldL w' w.heap.size (apErr B T xs ys) B T (xs ++ ys) X Y A2 k c2 ∧ From w w' :=
  Calls.mono (refAppend_any B T _ _ xs ys w h hu hm hy) fun e w' ⟨L, he, hg, hF⟩ => ⟨_, he, by rw [← refApErr_eq hm] at hg ⊢; obtain ⟨X, Y, A2, k, c2, rfl, ht⟩ := told_ap hg; exact ⟨X, Y, A2, k, c2, rfl, ht, hF⟩⟩
theorem cut_rt (B T i : Int) (A : Option Addr) (n c : Nat) (xs : List Ent) (w : World) (h : Ents w (.slice A n c) xs) :
    Rt Try.prog 29 [.agg #[.int .i64 B, .int .i64 T, .slice A n c], .int .i64 i] w fun v w' => ∃ X Y A2 k c2, v = .tuple #[.agg #[.int .i64 X, .int .i64 Y, .slice A2 k c2], .int .i64 (cutErr B T xs i)] ∧ ToldL w' w.heap.size (cutErr B T xs i) B T (xs.take (i - B).toNat) X Y A2 k c2 ∧ From w w' :=
  Calls.mono (cut_any B T i _ xs w h) fun e w' ⟨L, he, hg, hF⟩ => ⟨_, he, by obtain ⟨X, Y, A2, k, c2, rfl, ht⟩ := told_ap hg; exact ⟨X, Y, A2, k, c2, rfl, ht, hF⟩⟩
theorem comp_rt (B T i : Int) (A : Option Addr) (n c : Nat) (xs : List Ent) (w : World) (h : Ents w (.slice A n c) xs) :
    Rt Try.prog 31 [.agg #[.int .i64 B, .int .i64 T, .slice A n c], .int .i64 i] w fun v w' => ∃ X Y A2 k c2, v = .tuple #[.agg #[.int .i64 X, .int .i64 Y, .slice A2 k c2], .int .i64 (coErr B T xs i)] ∧ ToldL w' w.heap.size (coErr B T xs i) i (termI B T xs i) (xs.drop (i - B).toNat) X Y A2 k c2 ∧ From w w' :=
  Rt.mono (compact_rt B T i _ xs w h) fun v w' ⟨L, hv, hg, hF⟩ => by obtain ⟨X, Y, A2, k, c2, rfl, ht⟩ := told_co hg; exact ⟨X, Y, A2, k, c2, hv, ht, hF⟩
theorem slice_rt (B T i n : Int) (A : Option Addr) (m c : Nat) (xs : List Ent) (w : World) (h : Ents w (.slice A m c) xs) (hn : n ≤ 9223372036854775807) :
    Rt Try.prog 30 [.agg #[.int .i64 B, .int .i64 T, .slice A m c], .int .i64 i, .int .i64 n] w fun v w' => ∃ A2 k c2, v = .tuple #[.slice A2 k c2, .int .i64 (slErr B T xs i n)] ∧ w'.ownsRow w.heap.size 63 3 (.slice A2 k c2) k (entV (if slErr B T xs i n = 0 then (xs.drop (i - B - 1).toNat).take n.toNat else [])) ∧ From w w' := by
  refine Calls.mono (slice_any B T i n _ xs w h hn) fun e w' ⟨L, he, hg, hF⟩ => ⟨_, he, ?_⟩
  by_cases h0 : slErr B T xs i n = 0
  · have ho := hg.2 h0
    obtain ⟨A2, c2, rfl⟩ := own_form ho
    exact ⟨A2, _, c2, rfl, by rw [if_pos h0]; exact ho, hF⟩
  · have := hg.1 h0
    subst this
    exact ⟨none, 0, 0, rfl, by rw [if_neg h0]; exact World.ownsRow_nil _ _ _ _, hF⟩
/-- two logs that were told alike are equal -/
theorem eqTold_rt {b1 b2 : Nat} {err B T X Y X' Y' : Int} {ys : List Ent} {A A' : Option Addr} {n c n' c' : Nat} {w : World} (h1 : ToldL w b1 err B T ys X Y A n c) (h2 : ToldL w b2 err B T ys X' Y' A' n' c') (hl : ys.length ≤ 1000000000000) :
    Rt Try.prog 32 [.agg #[.int .i64 X, .int .i64 Y, .slice A n c], .agg #[.int .i64 X', .int .i64 Y', .slice A' n' c']] w fun v w' => v = .bool true ∧ From w w' := by
  have e1 : X = X' := h1.x.trans h2.x.symm
  have e2 : Y = Y' := h1.y.trans h2.y.symm
  subst e1 e2
  refine Rt.of (eqLog_same X Y _ _ _ w h1.ents h2.ents ?_)
  split
  · exact hl
  · simp
end Go.Proofs.Ytnnknoohhoifbaa
