/- Walks of package random and its reference. -/
import Derived.Test.YtpljonmichpaeaaBase
namespace Go.Proofs.Ytpljonmichpaeaa
open Go.RowKit

def xsh (s : Int) (m : Int) : Int := bits BinOp.xor IntKind.u64 s (IntKind.u64.wrap (s * m))
def xsr (s : Int) : Int := bits BinOp.xor IntKind.u64 s (s / 128)
def nx (s : Int) : Int := xsh (xsr (xsh (if s = 0 then 11400714819323198485 else s) 8192)) 131072

set_option maxHeartbeats 400000 in
theorem refnext (s : Int) (w : World) :
    Calls Try.prog 9 #[.int .u64 s] w fun e w' => e = .returned (.int .u64 (nx s)) ∧ w = w' := by
  by_cases hs : s = 0
  · subst hs
    go_enter Try.func9, Try.ntmps9
    go_wp2
    go_ret
    exact ⟨by simp [nx, xsh, xsr], rfl⟩
  · have hs' : (s == 0) = false := by simpa using hs
    go_enter Try.func9, Try.ntmps9
    go_wp2
    go_ret
    exact ⟨by simp [nx, xsh, xsr, hs], rfl⟩

def mixk (s : Int) : Nat → Int
  | 0 => s
  | 1 => xsh s 8192
  | 2 => xsr (xsh s 8192)
  | _ => xsh (xsr (xsh s 8192)) 131072

set_option maxHeartbeats 400000 in
theorem mixed3 (s : Int) (b : Nat) (w : World) (h0 : w.cell? ⟨b, 0, none⟩ = some (.int .i64 13)) (h1 : w.cell? ⟨b, 1, none⟩ = some (.int .i64 (-7))) (h2 : w.cell? ⟨b, 2, none⟩ = some (.int .i64 17)) :
    Calls Try.prog 13 #[.int .u64 s, .slice (some ⟨b, 0, none⟩) 3 3] w fun e w' => e = .returned (.int .u64 (xsh (xsr (xsh s 8192)) 131072)) ∧ w = w' := by
  go_enter Try.func13, Try.ntmps13
  go_wp2
  go_loop [0, 9] (fun x i => ∃ k : Nat, k ≤ 3 ∧ i = .int .i64 k ∧ x = .int .u64 (mixk s k)) (fun _ i => 3 - (intOf i).toNat)
  case atStart => exact ⟨0, by omega, rfl, rfl⟩
  case round =>
    obtain ⟨k, hk, rfl, rfl⟩ := hrel
    obtain rfl | rfl | rfl | rfl : k = 0 ∨ k = 1 ∨ k = 2 ∨ k = 3 := by omega
    · go_wp2
      go_round
      case rel => exact ⟨1, by omega, rfl, rfl⟩
      case measure => simp [intOf]
    · go_wp2
      go_round
      case rel => exact ⟨2, by omega, rfl, rfl⟩
      case measure => simp [intOf]
    · go_wp2
      go_round
      case rel => exact ⟨3, by omega, rfl, rfl⟩
      case measure => simp [intOf]
    · go_wp2
      go_ret
      exact ⟨rfl, rfl⟩

def st0 (s : Int) : Int := if s = 0 then 11400714819323198485 else s
theorem nx_st0 (s : Int) : nx s = xsh (xsr (xsh (st0 s) 8192)) 131072 := rfl

set_option maxHeartbeats 400000 in
theorem newState (s : Int) (w : World) :
    Calls Try.prog 11 #[.int .u64 s] w fun e w' => e = .returned (.agg #[.int .u64 (st0 s)]) ∧ From w w' := by
  by_cases hs : s = 0
  · subst hs
    go_enter Try.func11, Try.ntmps11
    go_wp2
    exact bodyPost_ret (v := .agg #[.int .u64 11400714819323198485]) (by simp [results, Try.results11, go_sem]) rfl ⟨rfl, From.rfl_.new _⟩
  · have hs' : (s == 0) = false := by simpa using hs
    go_enter Try.func11, Try.ntmps11
    go_wp2
    exact bodyPost_ret (v := .agg #[.int .u64 s]) (by simp [results, Try.results11, go_sem]) rfl ⟨by simp [st0, hs], From.rfl_.new _⟩

set_option maxHeartbeats 400000 in
theorem snext (s : Int) (w : World) :
    Calls Try.prog 12 #[.agg #[.int .u64 s]] w fun e w' => e = .returned (.agg #[.int .u64 (xsh (xsr (xsh s 8192)) 131072)]) ∧ From w w' := by
  go_enter Try.func12, Try.ntmps12
  go_wp2_with (first
    | (go_at_call 13
       refine (mixed3 _ _ _ ?_ ?_ ?_).mono ?_
       · go_simp
       · go_simp
       · go_simp
       rintro e w1 ⟨rfl, rfl⟩))
  exact bodyPost_ret (v := .agg #[.int .u64 (xsh (xsr (xsh s 8192)) 131072)]) (by simp [results, Try.results12, go_sem]) rfl ⟨rfl, ((From.rfl_.new _).new _).new _⟩

set_option maxHeartbeats 400000 in
theorem next (s : Int) (w : World) :
    Calls Try.prog 8 #[.int .u64 s] w fun e w' => e = .returned (.int .u64 (nx s)) ∧ From w w' := by
  have hfd : ∀ (a : Int) (w : World), (Instr.field 34 (.agg #[.int .u64 a]) 0).run Try.prog w = .ok (.int .u64 a) w := fun _ _ => by kernel_rfl
  go_enter Try.func8, Try.ntmps8
  go_wp2_with (first | (go_at_call 11; refine (newState _ _).mono ?_; rintro e w1 ⟨rfl, hb1⟩) | (go_at_call 12; refine (snext _ _).mono ?_; rintro e w2 ⟨rfl, hb2⟩))
  go_ret
  exact ⟨rfl, hb1.next hb2⟩

/-- the number below n -/
def bl (s n : Int) : Int := if n < 1 then 0 else wrap64 ((nx s).tmod n)
theorem bl_ge {s n : Int} (h : 1 ≤ n) : bl s n = wrap64 ((nx s).tmod n) := by unfold bl; rw [if_neg (by omega)]

set_option maxHeartbeats 400000 in
theorem below (s n : Int) (w : World) (hn : n ≤ 9223372036854775807) :
    Calls Try.prog 6 #[.int .u64 s, .int .i64 n] w fun e w' => e = .returned (.tuple #[.int .u64 (nx s), .int .i64 (bl s n)]) ∧ From w w' := by
  by_cases h : n < 1
  · go_enter Try.func6, Try.ntmps6
    go_wp2_with (go_at_call 8; refine (next _ _).mono ?_; rintro e w1 ⟨rfl, hb1⟩)
    go_ret2
    exact ⟨by simp [bl, h], hb1⟩
  · have h1 : 1 ≤ n := by omega
    have hz : (n == 0) = false := by simp; omega
    go_enter Try.func6, Try.ntmps6
    go_wp2_with (go_at_call 8; refine (next _ _).mono ?_; rintro e w1 ⟨rfl, hb1⟩)
    go_quiet (fail)
    go_wp2
    go_ret2
    exact ⟨by rw [bl_ge h1]; rfl, hb1.dn _⟩

set_option maxHeartbeats 400000 in
theorem refbelow (s n : Int) (w : World) (hn : n ≤ 9223372036854775807) :
    Calls Try.prog 7 #[.int .u64 s, .int .i64 n] w fun e w' => e = .returned (.tuple #[.int .u64 (nx s), .int .i64 (bl s n)]) ∧ From w w' := by
  by_cases h : n < 1
  · go_enter Try.func7, Try.ntmps7
    go_wp2_with (go_at_call 9; refine (refnext _ _).mono ?_; rintro e w1 ⟨rfl, rfl⟩)
    go_ret2
    exact ⟨by simp [bl, h], From.rfl_⟩
  · have h1 : 1 ≤ n := by omega
    have hz : (n == 0) = false := by simp; omega
    go_enter Try.func7, Try.ntmps7
    go_wp2_with (go_at_call 9; refine (refnext _ _).mono ?_; rintro e w1 ⟨rfl, rfl⟩)
    go_quiet (fail)
    go_wp2
    go_ret2
    exact ⟨by rw [bl_ge h1]; rfl, From.rfl_.dn _⟩

set_option maxHeartbeats 400000 in
theorem wakes (w : World) :
    Calls Try.prog 10 #[] w fun e w' => e = .returned (.bool true) ∧ From w w' := by
  have hn : nx 1 = 1082269761 := by decide +kernel
  have H := Lib.hid hn
  clear hn
  go_enter Try.func10, Try.ntmps10
  go_wp2_with (go_at_call 8; refine (next _ _).mono ?_; rintro e w1 ⟨rfl, hb1⟩)
  go_ret
  exact ⟨by rw [H.out]; rfl, hb1⟩
end Go.Proofs.Ytpljonmichpaeaa
