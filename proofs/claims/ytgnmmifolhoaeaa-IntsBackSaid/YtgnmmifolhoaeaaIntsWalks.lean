/- Walks of package ints: below, put, number. -/
import Derived.Test.YtgnmmifolhoaeaaIntsMath
import Derived.StillTailTactics
namespace Go.Proofs.Ytgnmmifolhoaeaa
open Go.RowKit

set_option maxRecDepth 100000 in
set_option maxHeartbeats 400000 in
theorem below_any (m : Nat) (hm : m ≤ 64) (w : World) :
    Calls Try.prog 25 #[.int .i64 m] w fun e w' => e = .returned (.int .u64 ((2 ^ m - 1 : Nat) : Int)) ∧ w = w' := by
  have i0 : (0 : Int) ≤ (m : Int) := by omega
  have i1 : (m : Int) ≤ 64 := by omega
  go_enter Try.func25, Try.ntmps25
  have hp : 2 ^ m ≤ 2 ^ 64 := Nat.pow_le_pow_right (by decide) hm
  have hp0 : 0 < 2 ^ m := Nat.pow_pos (by decide)
  have h1 : IntKind.u64.wrap (IntKind.u64.wrap ((2 : Int) ^ m) - 1) = ((2 ^ m - 1 : Nat) : Int) := by
    have h2 : (2 : Int) ^ m = ((2 ^ m : Nat) : Int) := by norm_cast
    rw [h2, IntKind.wrap_u64, IntKind.wrap_u64]
    generalize 2 ^ m = x at *
    omega
  go_wp2
  go_ret
  exact ⟨ret_int rfl, rfl⟩

theorem wrap64_nat (p : Nat) (h : p ≤ 9223372036854775807) : wrap64 (p : Int) = (p : Int) := by
  unfold wrap64
  omega
theorem mul_nat (i W p : Nat) (hp : p = i * W) : (i : Int) * (W : Int) = (p : Int) := by rw [hp]; norm_cast
theorem div64_nat (p q : Nat) (hq : q = p / 64) : (p : Int).tdiv 64 = (q : Int) := by rw [hq]; rfl
theorem mod64_nat (p q : Nat) (hq : q = p % 64) : (p : Int).tmod 64 = (q : Int) := by rw [hq]; rfl
def wordsV (l : List Nat) : List Value := l.map fun (x : Nat) => .int .u64 x
/-- packed integers at a block -/
def PackAt (base : Nat) (w : World) (g : Nat) (t : TypeId) (W n : Nat) (ws : List Nat) : Prop :=
  ∃ h cap, Blk w g t #[.slice (some ⟨h, 0, none⟩) ws.length cap, .int .i64 W, .int .i64 n] ∧ w.ownsRow base 47 1 (.slice (some ⟨h, 0, none⟩) ws.length cap) ws.length (wordsV ws) ∧ g ≠ h ∧ base ≤ g

/-- number i of width W from words, as the program reckons it -/
def numOf (ws : List Nat) (W p : Nat) : Nat :=
  (if 64 < p % 64 + W then (ws.getD (p / 64) 0 / 2 ^ (p % 64)) ||| (ws.getD (p / 64 + 1) 0 * 2 ^ (64 - p % 64) % 2 ^ 64) else ws.getD (p / 64) 0 / 2 ^ (p % 64)) % 2 ^ W
theorem or_u64 (a b : Nat) (ha : a < 2 ^ 64) (hb : b < 2 ^ 64) : bits .or .u64 (a : Int) (b : Int) = ((a ||| b : Nat) : Int) := by
  show IntKind.u64.wrap ((BitVec.ofInt 64 (a : Int) ||| BitVec.ofInt 64 (b : Int)).toNat : Int) = _
  have e1 : (BitVec.ofInt 64 (a : Int)).toNat = a := by rw [BitVec.ofInt_natCast, BitVec.toNat_ofNat]; exact Nat.mod_eq_of_lt ha
  have e2 : (BitVec.ofInt 64 (b : Int)).toNat = b := by rw [BitVec.ofInt_natCast, BitVec.toNat_ofNat]; exact Nat.mod_eq_of_lt hb
  have h := Nat.or_lt_two_pow ha hb
  rw [BitVec.toNat_or, e1, e2, IntKind.wrap_u64]
  generalize a ||| b = c at *
  omega
theorem and_u64 (a b : Nat) (ha : a < 2 ^ 64) (hb : b < 2 ^ 64) : bits .and .u64 (a : Int) (b : Int) = ((a &&& b : Nat) : Int) := by
  show IntKind.u64.wrap ((BitVec.ofInt 64 (a : Int) &&& BitVec.ofInt 64 (b : Int)).toNat : Int) = _
  have e1 : (BitVec.ofInt 64 (a : Int)).toNat = a := by rw [BitVec.ofInt_natCast, BitVec.toNat_ofNat]; exact Nat.mod_eq_of_lt ha
  have e2 : (BitVec.ofInt 64 (b : Int)).toNat = b := by rw [BitVec.ofInt_natCast, BitVec.toNat_ofNat]; exact Nat.mod_eq_of_lt hb
  have h : a &&& b < 2 ^ 64 := Nat.lt_of_le_of_lt Nat.and_le_left ha
  rw [BitVec.toNat_and, e1, e2, IntKind.wrap_u64]
  generalize a &&& b = c at *
  omega
theorem shr_nat (x r : Nat) : (x : Int) / 2 ^ r = ((x / 2 ^ r : Nat) : Int) := by norm_cast
theorem shl_u64 (y s : Nat) : IntKind.u64.wrap ((y : Int) * 2 ^ s) = ((y * 2 ^ s % 2 ^ 64 : Nat) : Int) := by
  have h : (y : Int) * 2 ^ s = ((y * 2 ^ s : Nat) : Int) := by norm_cast
  rw [h, IntKind.wrap_u64]
  generalize y * 2 ^ s = c
  omega

theorem next_word {p W q r L : Nat} (h1 : p = 64 * q + r) (h2 : p + W ≤ L * 64) (hov : 64 < r + W) : q + 1 < L := by omega
theorem sub64 {r s : Nat} (hs : s = 64 - r) (hr : r < 64) : (64 : Int) - (r : Int) = (s : Int) ∧ (s : Int) ≤ 64 := by omega
theorem succ_int {q L : Nat} (h : q + 1 < L) : (0 : Int) ≤ (q : Int) + 1 ∧ (q : Int) + 1 < (L : Int) := by omega
set_option maxRecDepth 100000 in
set_option maxHeartbeats 1000000 in
theorem number_any (base g i W n : Nat) (t : TypeId) (ws : List Nat) (w : World) (h : PackAt base w g t W n ws) (hW : 0 < W) (hW2 : W ≤ 64) (hi : i < n) (hn : n ≤ 131072) (hws : n * W ≤ ws.length * 64) (hlt : ∀ x ∈ ws, x < 2 ^ 64) :
    Calls Try.prog 29 #[.pointer (some ⟨g, 0, none⟩), .int .i64 i] w fun e w' => e = .returned (.int .u64 (numOf ws W (i * W) : Nat)) ∧ From w w' := by
  obtain ⟨hh, cap, hb, hown, hne, hbase⟩ := h
  have c0 : w.cell? ⟨g, 0, none⟩ = some (.slice (some ⟨hh, 0, none⟩) ws.length cap) := by rw [hb.cell 0]; rfl
  have c1 : w.cell? ⟨g, 1, none⟩ = some (.int .i64 W) := by rw [hb.cell 1]; rfl
  have c2 : w.cell? ⟨g, 2, none⟩ = some (.int .i64 n) := by rw [hb.cell 2]; rfl
  obtain ⟨p, hp⟩ : ∃ p, p = i * W := ⟨_, rfl⟩
  obtain ⟨q, hq⟩ : ∃ q, q = p / 64 := ⟨_, rfl⟩
  obtain ⟨r, hr⟩ : ∃ r, r = p % 64 := ⟨_, rfl⟩
  have hpb : p + W ≤ n * W := by
    have := Nat.mul_le_mul_right W hi
    rw [Nat.succ_mul] at this
    omega
  have hpm : p ≤ 131072 * 64 := by
    rw [hp]
    exact Nat.mul_le_mul (by omega) hW2
  have hq9 : q ≤ p := by rw [hq]; exact Nat.div_le_self _ _
  have m1 : wrap64 ((i : Int) * (W : Int)) = (p : Int) := by rw [mul_nat i W p hp]; exact wrap64_nat p (by clear hq hr hpb hws hp; omega)
  have m2 : wrap64 ((p : Int).tdiv 64) = (q : Int) := by rw [div64_nat p q hq]; exact wrap64_nat q (by clear hq hr hpb hws hp; omega)
  have m3 : (p : Int).tmod 64 = (r : Int) := mod64_nat p r hr
  have m4 : (p : Int) / 64 = (q : Int) := by rw [hq]; rfl
  have hql : q < ws.length := by
    rw [hq]
    exact (Nat.div_lt_iff_lt_mul (by decide)).2 (Nat.lt_of_lt_of_le (Nat.lt_add_of_pos_right hW) (Nat.le_trans hpb hws))
  have hr6 : r < 64 := by rw [hr]; exact Nat.mod_lt _ (by decide)
  have j1 : (0 : Int) ≤ (q : Int) := Int.natCast_nonneg _
  have j2 : (q : Int) < (ws.length : Int) := Int.ofNat_lt.2 hql
  have cell : ∀ k (hk : k < ws.length), w.cell? ⟨hh, k, none⟩ = some (.int .u64 (ws[k] : Nat)) := fun k hk => by
    rw [hown.cellAt k (by rw [Nat.mul_one]; exact hk)]
    simp [wordsV, hk]
  have cq := cell q hql
  have j3 : (0 : Int) ≤ (r : Int) := Int.natCast_nonneg _
  have j4 : (r : Int) ≤ 64 := Int.ofNat_le.2 (Nat.le_of_lt hr6)
  have hx : ws[q] < 2 ^ 64 := hlt _ (List.getElem_mem hql)
  have hxd : ws.getD (p / 64) 0 = ws[q] := by rw [← hq]; simp [List.getD_eq_getElem?_getD, hql]
  have hbw := below_any W hW2
  have HB := Lib.hid hbw
  have hWp : 2 ^ W - 1 < 2 ^ 64 := by
    have h1 : 2 ^ W ≤ 2 ^ 64 := Nat.pow_le_pow_right (by decide) hW2
    have h2 : 0 < 2 ^ W := Nat.pow_pos (by decide)
    omega
  have hW2i : (W : Int) ≤ 64 := Int.ofNat_le.2 hW2
  have hres : numOf ws W (i * W) = (if 64 < r + W then (ws[q] / 2 ^ r) ||| (ws.getD (q + 1) 0 * 2 ^ (64 - r) % 2 ^ 64) else ws[q] / 2 ^ r) % 2 ^ W := by
    unfold numOf
    rw [← hp, hxd, ← hr, ← hq]
  rw [hres]
  have hX : ws[q] / 2 ^ r < 2 ^ 64 := Nat.lt_of_le_of_lt (Nat.div_le_self _ _) hx
  have e1 := shr_nat ws[q] r
  by_cases hov : 64 < r + W
  · rw [if_pos hov]
    have hd : decide ((64 : Int) < (r : Int) + (W : Int)) = true := decide_eq_true (by exact_mod_cast hov)
    have hq1 : q + 1 < ws.length := next_word (by rw [hq, hr]; exact (Nat.div_add_mod p 64).symm) (Nat.le_trans hpb hws) hov
    have cq1 := cell (q + 1) hq1
    have hyd : ws.getD (q + 1) 0 = ws[q + 1] := by simp [List.getD_eq_getElem?_getD, hq1]
    rw [hyd]
    obtain ⟨s, hs⟩ : ∃ s, s = 64 - r := ⟨_, rfl⟩
    obtain ⟨hs2, k2⟩ := sub64 hs hr6
    have k1 : (0 : Int) ≤ (s : Int) := Int.natCast_nonneg _
    obtain ⟨k3, k4⟩ := succ_int hq1
    have e2 := shl_u64 ws[q + 1] s
    rw [← hs]
    have hY : ws[q + 1] * 2 ^ s % 2 ^ 64 < 2 ^ 64 := Nat.mod_lt _ (by decide)
    have e3 := or_u64 _ _ hX hY
    have hZ : ((ws[q] / 2 ^ r) ||| (ws[q + 1] * 2 ^ s % 2 ^ 64)) < 2 ^ 64 := Nat.or_lt_two_pow hX hY
    have e4 := and_u64 _ _ hZ hWp
    rw [Nat.and_two_pow_sub_one_eq_mod] at e4
    clear hq hr hpb hws hp hres hxd cell hyd hs hlt hov hx hX hY hZ hWp hown hne hb hbw hi
    generalize ws[q] / 2 ^ r = X at *
    generalize ws[q + 1] * 2 ^ s % 2 ^ 64 = Y at *
    generalize X ||| Y = Z at *
    generalize 2 ^ W - 1 = M at *
    generalize Z % 2 ^ W = R at *
    generalize ws[q] = x at *
    generalize ws[q + 1] = y at *
    go_enter Try.func29, Try.ntmps29
    go_wp2
    go_quiet (fail)
    go_wp2_with (go_at_call 25; (with_reducible refine (HB.out _).mono ?_); rintro e w1 ⟨rfl, rfl⟩)

    go_ret
    exact ⟨rfl, From.rfl_.dn _⟩
  · rw [if_neg hov]
    have hd : decide ((64 : Int) < (r : Int) + (W : Int)) = false := decide_eq_false (by exact_mod_cast hov)
    have e4 := and_u64 _ _ hX hWp
    rw [Nat.and_two_pow_sub_one_eq_mod] at e4
    clear hq hr hpb hws hp hres hxd cell hlt hov hx hX hWp hown hne hb hbw hi
    generalize ws[q] / 2 ^ r = X at *
    generalize 2 ^ W - 1 = M at *
    generalize X % 2 ^ W = R at *
    generalize ws[q] = x at *
    go_enter Try.func29, Try.ntmps29
    go_wp2
    go_quiet (fail)
    go_wp2_with (go_at_call 25; (with_reducible refine (HB.out _).mono ?_); rintro e w1 ⟨rfl, rfl⟩)

    go_ret
    exact ⟨rfl, From.rfl_.dn _⟩
end Go.Proofs.Ytgnmmifolhoaeaa
