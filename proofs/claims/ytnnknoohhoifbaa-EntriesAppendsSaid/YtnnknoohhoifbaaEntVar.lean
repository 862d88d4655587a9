/- A log that a call told, in a variable of the caller's. -/
import Derived.Test.YtnnknoohhoifbaaEntHelp
import Derived.Test.YtnnknoohhoifbaaEntRefAp
namespace Go.Proofs.Ytnnknoohhoifbaa
open Go.RowKit

/-- a log that was told, in a variable -/
def LogVar (w : World) (B T c : Int) (xs : List Ent) (p e : Value) (wx : World) : Prop :=
  ∃ (g : Nat) (X Y : Int) (A : Option Addr) (m cap : Nat), p = .pointer (some ⟨g, 0, none⟩) ∧ e = .int .i64 c ∧ Blk wx g 25 #[.int .i64 X, .int .i64 Y, .slice A m cap] ∧
    (c ≠ 0 → X = 0 ∧ Y = 0 ∧ Ents wx (.slice A m cap) []) ∧ (c = 0 → X = B ∧ Y = T ∧ Ents wx (.slice A m cap) xs) ∧ From w wx
def Told (w w' : World) (B T c : Int) (xs : List Ent) (X Y : Int) (A : Option Addr) (m cap : Nat) : Prop :=
  (c ≠ 0 → X = 0 ∧ Y = 0 ∧ A = none ∧ m = 0 ∧ cap = 0) ∧ (c = 0 → X = B ∧ Y = T ∧ w'.ownsRow w.heap.size 63 3 (.slice A m cap) xs.length (entV xs))
theorem apGot_form {w w' : World} {B T : Int} {xs : List Ent} {c : Int} {L : Value} (h : ApGot w w' B T xs c L) : ∃ (X Y : Int) (A : Option Addr) (m cap : Nat), L = .agg #[.int .i64 X, .int .i64 Y, .slice A m cap] ∧ Told w w' B T c xs X Y A m cap := by
  by_cases hc : c = 0
  · obtain ⟨v', rfl, hown⟩ := h.2 hc
    obtain ⟨A, cap, rfl⟩ := own_form hown
    exact ⟨_, _, _, _, _, rfl, fun h => absurd hc h, fun _ => ⟨rfl, rfl, hown⟩⟩
  · have := h.1 hc
    subst this
    exact ⟨0, 0, none, 0, 0, rfl, fun _ => ⟨rfl, rfl, rfl, rfl, rfl⟩, fun h => absurd h hc⟩
theorem logVar_new {w W w2 : World} {B T c : Int} {xs : List Ent} {X Y : Int} {A : Option Addr} {m cap : Nat} (hW : From w W) (hb : From W w2) (ht : Told W w2 B T c xs X Y A m cap) :
    LogVar w B T c xs (.pointer (some ⟨w2.heap.size, 0, none⟩)) (.int .i64 c) (w2.alloc (.cells #[.int .i64 X, .int .i64 Y, .slice A m cap] 25)) := by
  refine ⟨_, X, Y, A, m, cap, rfl, rfl, Blk.new _ _ _, fun h => ?_, fun h => ?_, (hW.next hb).new _⟩
  · obtain ⟨h1, h2, rfl, rfl, rfl⟩ := ht.1 h
    exact ⟨h1, h2, Ents.nil_ _⟩
  · obtain ⟨h1, h2, ho⟩ := ht.2 h
    exact ⟨h1, h2, (Ents.of_own ho rfl).from_ (From.rfl_.new _)⟩
theorem logVar_put {w W w2 : World} {B T c : Int} {xs : List Ent} {X Y : Int} {A : Option Addr} {m cap g : Nat} {x y z : Value} (hW : From w W) (hb : From W w2) (ht : Told W w2 B T c xs X Y A m cap) (hbk : Blk w2 g 25 #[x, y, z]) (hg : w.heap.size ≤ g) (hg2 : g < W.heap.size) :
    LogVar w B T c xs (.pointer (some ⟨g, 0, none⟩)) (.int .i64 c) (put3 w2 g (.int .i64 X) (.int .i64 Y) (.slice A m cap)) := by
  refine ⟨g, X, Y, A, m, cap, rfl, rfl, ?_, fun h => ?_, fun h => ?_, put3_from (hW.next hb) hg⟩
  · have := ((hbk.set_ 0 (.int .i64 X)).set_ 1 (.int .i64 Y)).set_ 2 (.slice A m cap)
    simpa using this
  · obtain ⟨h1, h2, rfl, rfl, rfl⟩ := ht.1 h
    exact ⟨h1, h2, Ents.nil_ _⟩
  · obtain ⟨h1, h2, ho⟩ := ht.2 h
    refine ⟨h1, h2, Ents.of_own (ownsRow_setCell_below (ownsRow_setCell_below (ownsRow_setCell_below ho ?_ _) ?_ _) ?_ _) rfl⟩
    all_goals exact hg2

end Go.Proofs.Ytnnknoohhoifbaa
