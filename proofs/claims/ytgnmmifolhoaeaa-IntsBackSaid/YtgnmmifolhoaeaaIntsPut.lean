/- Walks of package ints: put. -/
import Derived.Test.YtgnmmifolhoaeaaIntsWalks
namespace Go.Proofs.Ytgnmmifolhoaeaa
open Go.RowKit

theorem cell_heap {w : World} {a : Addr} {v : Value} (h : w.cell? a = some v) : ∀ w' : World, w'.heap = w.heap → w'.cell? a = some v := fun w' e => by
  unfold World.cell? at h ⊢
  rw [e]
  exact h
theorem wrap_small (a : Nat) (h : a ≤ 9223372036854775806) : IntKind.i64.wrap ((a : Int) + 1) = (a : Int) + 1 ∧ IntKind.i64.wrap (a : Int) = (a : Int) := by
  rw [IntKind.wrap_i64, IntKind.wrap_i64]
  omega
theorem le_small {a p : Nat} (h : a ≤ p) (h2 : p ≤ 131072 * 64) : a ≤ 9223372036854775806 := by omega
theorem wordsV_set (ws : List Nat) (q V : Nat) : wordsV (ws.set q V) = (wordsV ws).set q (.int .u64 (V : Nat)) := by simp [wordsV, List.map_set]
/-- words after number x of W bits was put at bit p -/
def putW (ws : List Nat) (W p x : Nat) : List Nat :=
  if 64 < p % 64 + W then (ws.set (p / 64) (ws.getD (p / 64) 0 ||| (x * 2 ^ (p % 64) % 2 ^ 64))).set (p / 64 + 1) (ws.getD (p / 64 + 1) 0 ||| x / 2 ^ (64 - p % 64))
  else ws.set (p / 64) (ws.getD (p / 64) 0 ||| (x * 2 ^ (p % 64) % 2 ^ 64))

set_option maxRecDepth 100000 in
set_option maxHeartbeats 1000000 in
theorem put_any (a0 : World) (g i W n x : Nat) (t : TypeId) (ws : List Nat) (w : World) (h : PackAt a0.heap.size w g t W n ws) (hw : From a0 w) (hW : 0 < W) (hW2 : W ≤ 64) (hi : i < n) (hn : n ≤ 131072) (hws : n * W ≤ ws.length * 64) (hlt : ∀ x ∈ ws, x < 2 ^ 64) (hx : x < 2 ^ 64) :
    Calls Try.prog 27 #[.pointer (some ⟨g, 0, none⟩), .int .i64 i, .int .u64 x] w fun e w' => e = .returned (.tuple #[]) ∧ PackAt a0.heap.size w' g t W n (putW ws W (i * W) x) ∧ From a0 w' := by
  obtain ⟨hh, cap, hb, hown, hne, hbase⟩ := h
  have c0 : w.cell? ⟨g, 0, none⟩ = some (.slice (some ⟨hh, 0, none⟩) ws.length cap) := by rw [hb.cell 0]; rfl
  have c1 : w.cell? ⟨g, 1, none⟩ = some (.int .i64 W) := by rw [hb.cell 1]; rfl
  obtain ⟨p, hp⟩ : ∃ p, p = i * W := ⟨_, rfl⟩
  obtain ⟨q, hq⟩ : ∃ q, q = p / 64 := ⟨_, rfl⟩
  obtain ⟨r, hr⟩ : ∃ r, r = p % 64 := ⟨_, rfl⟩
  have hpb : p + W ≤ n * W := by
    have := Nat.mul_le_mul_right W hi
    rw [Nat.succ_mul] at this
    omega
  have hpm : p ≤ 131072 * 64 := by
    rw [hp]
    exact Nat.mul_le_mul (by omega) hW2
  have hq9 : q ≤ p := by rw [hq]; exact Nat.div_le_self _ _
  have m1 : wrap64 ((i : Int) * (W : Int)) = (p : Int) := by rw [mul_nat i W p hp]; exact wrap64_nat p (by clear hq hr hpb hws hp; omega)
  have m2 : wrap64 ((p : Int).tdiv 64) = (q : Int) := by rw [div64_nat p q hq]; exact wrap64_nat q (by clear hq hr hpb hws hp; omega)
  have m3 : (p : Int).tmod 64 = (r : Int) := mod64_nat p r hr
  have m4 : (p : Int) / 64 = (q : Int) := by rw [hq]; rfl
  have hql : q < ws.length := by
    rw [hq]
    exact (Nat.div_lt_iff_lt_mul (by decide)).2 (Nat.lt_of_lt_of_le (Nat.lt_add_of_pos_right hW) (Nat.le_trans hpb hws))
  have hr6 : r < 64 := by rw [hr]; exact Nat.mod_lt _ (by decide)
  have j1 : (0 : Int) ≤ (q : Int) := Int.natCast_nonneg _
  have j2 : (q : Int) < (ws.length : Int) := Int.ofNat_lt.2 hql
  have cell : ∀ k (hk : k < ws.length), w.cell? ⟨hh, k, none⟩ = some (.int .u64 (ws[k] : Nat)) := fun k hk => by
    rw [hown.cellAt k (by rw [Nat.mul_one]; exact hk)]
    simp [wordsV, hk]
  have cq := cell q hql
  have zq := hown.frozenAt q
  have j3 : (0 : Int) ≤ (r : Int) := Int.natCast_nonneg _
  have j4 : (r : Int) ≤ 64 := Int.ofNat_le.2 (Nat.le_of_lt hr6)
  have hwq : ws[q] < 2 ^ 64 := hlt _ (List.getElem_mem hql)
  have hxd : ws.getD (p / 64) 0 = ws[q] := by rw [← hq]; simp [List.getD_eq_getElem?_getD, hql]
  have hA : x * 2 ^ r % 2 ^ 64 < 2 ^ 64 := Nat.mod_lt _ (by decide)
  have e1 := shl_u64 x r
  have e2 := or_u64 _ _ hwq hA
  have hres : putW ws W (i * W) x = (if 64 < r + W then (ws.set q (ws[q] ||| (x * 2 ^ r % 2 ^ 64))).set (q + 1) (ws.getD (q + 1) 0 ||| x / 2 ^ (64 - r)) else ws.set q (ws[q] ||| (x * 2 ^ r % 2 ^ 64))) := by
    unfold putW
    rw [← hp, hxd, ← hr, ← hq]
  rw [hres]
  obtain ⟨V, hV⟩ : ∃ V, V = ws[q] ||| (x * 2 ^ r % 2 ^ 64) := ⟨_, rfl⟩
  rw [← hV] at e2 ⊢
  have st := hown.stored q (.int .u64 (V : Nat))
  have hb1 : Blk (w.setCell ⟨hh, q, none⟩ (.int .u64 (V : Nat))) g t #[.slice (some ⟨hh, 0, none⟩) ws.length cap, .int .i64 W, .int .i64 n] := hb.far (by exact hne) _
  have b0 : (w.setCell ⟨hh, q, none⟩ (.int .u64 (V : Nat))).cell? ⟨g, 0, none⟩ = some (.slice (some ⟨hh, 0, none⟩) ws.length cap) := by rw [hb1.cell 0]; rfl
  have b1 : (w.setCell ⟨hh, q, none⟩ (.int .u64 (V : Nat))).cell? ⟨g, 1, none⟩ = some (.int .i64 W) := by rw [hb1.cell 1]; rfl
  have hhb : a0.heap.size ≤ hh := by
    have := (hown.lt hh (by rfl)).1
    exact this
  by_cases hov : 64 < r + W
  · rw [if_pos hov]
    have hd : decide ((64 : Int) < (r : Int) + (W : Int)) = true := decide_eq_true (by exact_mod_cast hov)
    have hq1 : q + 1 < ws.length := next_word (by rw [hq, hr]; exact (Nat.div_add_mod p 64).symm) (Nat.le_trans hpb hws) hov
    obtain ⟨s, hs⟩ : ∃ s, s = 64 - r := ⟨_, rfl⟩
    obtain ⟨hs2, k2⟩ := sub64 hs hr6
    obtain ⟨k3, k4⟩ := succ_int hq1
    have k1 : (0 : Int) ≤ (s : Int) := Int.natCast_nonneg _
    have hwrq := (wrap_small q (le_small hq9 hpm)).1
    have hwrs := (wrap_small s (le_small (p := 64) (Int.ofNat_le.1 k2) (by decide))).2
    have hyd : ws.getD (q + 1) 0 = ws[q + 1] := by simp [List.getD_eq_getElem?_getD, hq1]
    rw [hyd, ← hs]
    have hy : ws[q + 1] < 2 ^ 64 := hlt _ (List.getElem_mem hq1)
    have hxs : x / 2 ^ s < 2 ^ 64 := Nat.lt_of_le_of_lt (Nat.div_le_self _ _) hx
    have e3 := shr_nat x s
    have e4 := or_u64 _ _ hy hxs
    obtain ⟨V2, hV2⟩ : ∃ V2, V2 = ws[q + 1] ||| x / 2 ^ s := ⟨_, rfl⟩
    rw [← hV2] at e4 ⊢
    have cq1 : (w.setCell ⟨hh, q, none⟩ (.int .u64 (V : Nat))).cell? ⟨hh, q + 1, none⟩ = some (.int .u64 (ws[q + 1] : Nat)) := by
      rw [st.1.cellAt (q + 1) (by rw [Nat.mul_one]; exact hq1), List.getElem?_set_ne (by exact Nat.ne_of_lt (Nat.lt_succ_self q))]
      simp [wordsV, hq1]
    have zq1 := st.1.frozenAt (q + 1)
    have zq2 := hown.frozenAt (q + 1)
    have st2 := st.1.stored (q + 1) (.int .u64 (V2 : Nat))
    have hb2 : Blk ((w.setCell ⟨hh, q, none⟩ (.int .u64 (V : Nat))).setCell ⟨hh, q + 1, none⟩ (.int .u64 (V2 : Nat))) g t #[.slice (some ⟨hh, 0, none⟩) ws.length cap, .int .i64 W, .int .i64 n] := hb1.far (by exact hne) _
    have HST := Lib.hid (And.intro st2.1 hb2)
    have c0h := cell_heap c0
    have cqh := cell_heap cq
    have b0h := cell_heap b0
    have cq1h := cell_heap cq1
    have hdn : ∀ m, (w.drewN m).heap = w.heap := fun _ => rfl
    have hdn2 : ∀ m a v, ((w.drewN m).setCell a v).heap = (w.setCell a v).heap := fun _ _ _ => rfl
    clear hq hr hpb hws hp hres hxd cell hlt hov hA hV hwq hown hb hb1 hb2 st st2 hi hyd hy hxs hV2 hs
    generalize x * 2 ^ r % 2 ^ 64 = Y at *
    generalize x / 2 ^ s = Y2 at *
    generalize ws[q + 1] = z2 at *
    generalize ws[q] = z at *
    go_enter Try.func27, Try.ntmps27
    go_wp2
    go_quiet (fail)
    go_wp2
    go_still_tail 12, (by kernel_rfl)
    change wpList _ _ _ _ _ (w.drewN nq).drew
    go_wp2
    go_still_tail 14, (by kernel_rfl)
    change wpList _ _ _ _ _ ((w.drewN (nq + 1)).setCell ⟨hh, q, none⟩ (.int .u64 (V : Nat))).drew
    go_wp2

    go_end0
    refine ⟨rfl, ⟨hh, cap, ?_, ?_, hne, hbase⟩, ?_⟩
    · rw [List.length_set, List.length_set]
      exact HST.out.2
    · rw [List.length_set, List.length_set, wordsV_set, wordsV_set]
      exact HST.out.1
    · exact (From.set_ (From.set_ (hw.dn _) hhb _) hhb _).d1
  · rw [if_neg hov]
    have hd : decide ((64 : Int) < (r : Int) + (W : Int)) = false := decide_eq_false (by exact_mod_cast hov)
    have HST := Lib.hid (And.intro st.1 hb1)
    clear hq hr hpb hws hp hres hxd cell hlt hov hA hV hwq hown hb hb1 st hi
    generalize x * 2 ^ r % 2 ^ 64 = Y at *
    generalize ws[q] = z at *
    have c0h := cell_heap c0
    have cqh := cell_heap cq
    have hdn : ∀ m, (w.drewN m).heap = w.heap := fun _ => rfl
    go_enter Try.func27, Try.ntmps27
    go_wp2
    go_quiet (fail)
    go_wp2
    go_still_tail 12, (by kernel_rfl)
    change wpList _ _ _ _ _ (w.drewN nq).drew
    go_wp2
    go_end0
    refine ⟨rfl, ⟨hh, cap, ?_, ?_, hne, hbase⟩, ?_⟩
    · rw [List.length_set]
      exact HST.out.2
    · rw [List.length_set, wordsV_set]
      exact HST.out.1
    · exact From.set_ (hw.dn _) hhb _
end Go.Proofs.Ytgnmmifolhoaeaa
