import Derived.Test.YtpljonmichpaeaaRandomMath
import Derived.Test.YtpljonmichpaeaaRandomWalks
namespace Go.Proofs.Ytpljonmichpaeaa
open Go.RowKit

theorem ofInt_toNat (x : BitVec 64) : BitVec.ofInt 64 (x.toNat : Int) = x := by
  rw [BitVec.ofInt_natCast]; apply BitVec.eq_of_toNat_eq; rw [BitVec.toNat_ofNat]; exact Nat.mod_eq_of_lt x.isLt
theorem xor_nat (x y : BitVec 64) : bits BinOp.xor IntKind.u64 (x.toNat : Int) (y.toNat : Int) = ((x ^^^ y).toNat : Int) := by
  show IntKind.u64.wrap ((BitVec.ofInt 64 (x.toNat : Int) ^^^ BitVec.ofInt 64 (y.toNat : Int)).toNat : Int) = _
  rw [ofInt_toNat, ofInt_toNat]
  have h := (x ^^^ y).isLt
  generalize (x ^^^ y).toNat = m at h
  rw [IntKind.wrap_u64]
  omega
theorem xsh_nat (x : BitVec 64) (n : Nat) : xsh (x.toNat : Int) ((2 ^ n : Nat) : Int) = ((x ^^^ (x <<< n)).toNat : Int) := by
  unfold xsh
  have e : IntKind.u64.wrap ((x.toNat : Int) * ((2 ^ n : Nat) : Int)) = ((x <<< n).toNat : Int) := by
    rw [BitVec.toNat_shiftLeft, Nat.shiftLeft_eq, ← Int.natCast_mul]
    generalize x.toNat * 2 ^ n = m
    simp [IntKind.wrap, IntKind.bits, IntKind.signed]
  rw [e, xor_nat]
theorem xsr_nat (x : BitVec 64) : xsr (x.toNat : Int) = ((x ^^^ (x >>> 7)).toNat : Int) := by
  unfold xsr
  have e : (x.toNat : Int) / (128 : Int) = ((x >>> 7).toNat : Int) := by
    rw [BitVec.toNat_ushiftRight, Nat.shiftRight_eq_div_pow]
    omega
  rw [e, xor_nat]
theorem core_nat (x : BitVec 64) : xsh (xsr (xsh (x.toNat : Int) 8192)) 131072 = ((XM.step x).toNat : Int) := by
  have h1 := xsh_nat x 13
  have h2 := xsr_nat (x ^^^ (x <<< 13))
  have h3 := xsh_nat ((x ^^^ (x <<< 13)) ^^^ ((x ^^^ (x <<< 13)) >>> 7)) 17
  simp only [Nat.reducePow] at h1 h3
  rw [show ((8192 : Nat) : Int) = 8192 from rfl] at h1
  rw [show ((131072 : Nat) : Int) = 131072 from rfl] at h3
  rw [h1, h2, h3]
  rfl

/-- the number the sequence goes on from -/
def seed (s : Int) : BitVec 64 := BitVec.ofInt 64 (st0 s)
theorem seed_nat {s : Int} (h0 : 0 ≤ s) (h1 : s ≤ 18446744073709551615) : ((seed s).toNat : Int) = st0 s := by
  unfold seed
  rw [BitVec.toNat_ofInt]
  have : 0 ≤ st0 s ∧ st0 s ≤ 18446744073709551615 := by unfold st0; split <;> omega
  omega
theorem nx_nat {s : Int} (h0 : 0 ≤ s) (h1 : s ≤ 18446744073709551615) : nx s = ((XM.step (seed s)).toNat : Int) := by
  rw [nx_st0, ← seed_nat h0 h1, core_nat]
theorem seed_ne {s : Int} (h0 : 0 ≤ s) (h1 : s ≤ 18446744073709551615) : seed s ≠ 0#64 := by
  intro e
  have h := seed_nat h0 h1
  rw [e] at h
  have : st0 s ≠ 0 := by unfold st0; split <;> omega
  apply this
  rw [← h]
  rfl
theorem nx_range {s : Int} (h0 : 0 ≤ s) (h1 : s ≤ 18446744073709551615) : 0 ≤ nx s ∧ nx s ≤ 18446744073709551615 := by
  rw [nx_nat h0 h1]
  have := (XM.step (seed s)).isLt
  omega
theorem nx_ne_zero {s : Int} (h0 : 0 ≤ s) (h1 : s ≤ 18446744073709551615) : nx s ≠ 0 := by
  rw [nx_nat h0 h1]
  intro e
  have h : (XM.step (seed s)).toNat = 0 := by omega
  exact XM.step_ne_zero (seed_ne h0 h1) (BitVec.eq_of_toNat_eq (by simpa using h))
theorem nx_ne_self {s : Int} (h0 : 0 ≤ s) (h1 : s ≤ 18446744073709551615) : nx s ≠ s := by
  by_cases hs : s = 0
  · subst hs; exact nx_ne_zero h0 h1
  · rw [nx_nat h0 h1]
    intro e
    have hn := seed_nat h0 h1
    have hst : st0 s = s := by unfold st0; rw [if_neg hs]
    rw [hst] at hn
    have h : (XM.step (seed s)).toNat = (seed s).toNat := by omega
    exact XM.step_ne (seed_ne h0 h1) (BitVec.eq_of_toNat_eq h)
theorem nx_inj_one {s : Int} (h0 : 0 ≤ s) (h1 : s ≤ 18446744073709551615) (hs0 : s ≠ 0) (hs1 : s ≠ 1) : nx s ≠ nx 1 := by
  rw [nx_nat h0 h1, nx_nat (s := 1) (by omega) (by omega)]
  intro e
  have h := XM.step_inj (BitVec.eq_of_toNat_eq (show (XM.step (seed s)).toNat = (XM.step (seed 1)).toNat by omega))
  have a := seed_nat h0 h1
  have b := seed_nat (s := 1) (by omega) (by omega)
  rw [h, b] at a
  unfold st0 at a
  rw [if_neg (by omega), if_neg hs0] at a
  omega
theorem bl_range {s n : Int} (h0 : 0 ≤ s) (h1 : s ≤ 18446744073709551615) (hn : 1 ≤ n) (hn2 : n ≤ 9223372036854775807) : 0 ≤ bl s n ∧ bl s n < n := by
  have hr := nx_range h0 h1
  rw [bl_ge hn, Int.tmod_eq_emod_of_nonneg hr.1]
  have h2 := Int.emod_nonneg (nx s) (b := n) (by omega)
  have h3 := Int.emod_lt_of_pos (nx s) (b := n) (by omega)
  have e : wrap64 (nx s % n) = nx s % n := by
    exact IntWalk.wrap64_in _ (by omega)
  rw [e]
  exact ⟨h2, h3⟩
end Go.Proofs.Ytpljonmichpaeaa
