/- Walks of package tiers (Class, Plan) and its reference. -/
import Derived.Test.YtpehfjjhdadejaaBase
import Derived.Test.YtpehfjjhdadejaaShelf
namespace Go.Proofs.Ytpehfjjhdadejaa
open Go.RowKit

def valI (i : Int) : Value := .int .i64 i

def cls (n : Int) : Nat := if n < 1 then 0 else Lib.bitLen n.toNat
theorem cls_half {n : Int} (h : 1 ≤ n) (hn : n ≤ 9223372036854775807) : cls n = cls (n / 2) + 1 := by
  unfold cls
  rw [if_neg (by omega)]
  by_cases h2 : n / 2 < 1
  · rw [if_pos h2]
    obtain rfl : n = 1 := by omega
    rfl
  · rw [if_neg h2, Lib.bitLen_half n.toNat (by omega) (by omega)]
    have : (n / 2).toNat = n.toNat / 2 := by omega
    rw [this]
    omega
theorem bitLenAux_le : ∀ f x, Lib.bitLenAux f x ≤ f
  | 0, _ => by simp [Lib.bitLenAux]
  | f + 1, x => by
    have := bitLenAux_le f (x / 2)
    simp only [Lib.bitLenAux]
    split <;> omega
theorem cls_le (n : Int) : cls n ≤ 64 := by
  unfold cls
  split
  · omega
  · exact bitLenAux_le 64 _

set_option maxHeartbeats 400000 in
theorem class_any (n : Int) (w : World) (h : n ≤ 9223372036854775807) :
    Calls Try.prog 8 #[.int .i64 n] w fun e w' => e = .returned (.int .i64 (cls n : Nat)) ∧ w = w' := by
  by_cases h1 : n < 1
  · go_enter Try.func8, Try.ntmps8
    go_wp2
    go_ret
    exact ⟨by unfold cls; rw [if_pos h1]; rfl, rfl⟩
  · have h0 : 1 ≤ n := by omega
    go_enter Try.func8, Try.ntmps8
    go_wp2_with (go_at_call 22; (with_reducible refine (Go.Proofs.Try.bits_Len _ _ (by omega) (by omega)).mono ?_); rintro e w1 ⟨rfl, rfl⟩)
    go_ret
    exact ⟨by unfold cls; rw [if_neg (by omega)]; rfl, rfl⟩

set_option maxHeartbeats 400000 in
theorem refclass_any (n : Int) (w : World) (h : n ≤ 9223372036854775807) :
    Calls Try.prog 9 #[.int .i64 n] w fun e w' => e = .returned (.int .i64 (cls n : Nat)) ∧ w = w' := by
  have hl := cls_le n
  go_enter Try.func9, Try.ntmps9
  go_wp2
  go_loop [0, 3] (fun x c => ∃ (m : Int) (k : Nat), x = .int .i64 m ∧ c = .int .i64 k ∧ m ≤ 9223372036854775807 ∧ k + cls m = cls n) (fun x _ => (intOf x).toNat)
  case atStart => exact ⟨n, 0, rfl, rfl, h, by omega⟩
  case round =>
    obtain ⟨m, k, rfl, rfl, hm, hk⟩ := hrel
    by_cases h0 : 0 < m
    · have hh := cls_half (n := m) (by omega) hm
      have HK := Lib.hid hk
      have hk1 : k ≤ 64 := by omega
      have HH := Lib.hid hh
      clear hk hh
      go_wp2
      go_round
      case rel => exact ⟨m / 2, k + 1, by first | rfl | (simp; done) | skip, by go_num, by omega, by have := HK.out; have := HH.out; omega⟩
      case measure => simp [intOf]; omega
    · have hz : cls m = 0 := by unfold cls; rw [if_pos (by omega)]
      have hc : cls n = k := by omega
      have HC := Lib.hid hc
      clear hk hz hl hc
      go_wp2
      go_ret
      exact ⟨by rw [HC.out]; rfl, rfl⟩

/-- four of one class from i on -/
def win (cs : List Nat) (i : Nat) : Bool := decide (i + 4 ≤ cs.length) && (cs.getD (i + 1) 0 == cs.getD i 0) && (cs.getD (i + 2) 0 == cs.getD i 0) && (cs.getD (i + 3) 0 == cs.getD i 0)
def planAux (cs : List Nat) : Nat → Nat → Nat × Bool
  | 0, _ => (0, false)
  | f + 1, i => if win cs i then (i, true) else planAux cs f (i + 1)
def plan (cs : List Nat) : Nat × Bool := planAux cs cs.length 0
theorem win_lt {cs : List Nat} {i : Nat} (h : win cs i = true) : i + 4 ≤ cs.length := by
  simp only [win, Bool.and_eq_true, decide_eq_true_eq] at h
  exact h.1.1.1
theorem planAux_yes {cs : List Nat} {k : Nat} (hk : win cs k = true) : ∀ f i, i ≤ k → k < i + f → (∀ j, i ≤ j → j < k → win cs j = false) → planAux cs f i = (k, true)
  | 0, i, h1, h2, _ => by omega
  | f + 1, i, h1, h2, hn => by
    simp only [planAux]
    by_cases e : i = k
    · subst e
      rw [if_pos hk]
    · rw [if_neg (by rw [hn i (Nat.le_refl _) (by omega)]; decide)]
      exact planAux_yes hk f (i + 1) (by omega) (by omega) fun j h3 h4 => hn j (by omega) h4
theorem plan_yes {cs : List Nat} {k : Nat} (hk : win cs k = true) (hn : ∀ j, j < k → win cs j = false) : plan cs = (k, true) :=
  planAux_yes hk _ 0 (Nat.zero_le _) (by have := win_lt hk; omega) fun j _ h => hn j h
theorem planAux_no {cs : List Nat} : ∀ f i, (∀ j, i ≤ j → win cs j = false) → planAux cs f i = (0, false)
  | 0, _, _ => rfl
  | f + 1, i, hn => by
    simp only [planAux]
    rw [if_neg (by rw [hn i (Nat.le_refl _)]; decide)]
    exact planAux_no f (i + 1) fun j h => hn j (by omega)
theorem plan_no {cs : List Nat} (hn : ∀ j, j + 4 ≤ cs.length → win cs j = false) : plan cs = (0, false) :=
  planAux_no _ 0 fun j _ => by
    by_cases h : j + 4 ≤ cs.length
    · exact hn j h
    · simp [win, h]

/-- the run that ends at j (of s sizes), behind j sizes; no four so far -/
def Run (cs : List Nat) (j s : Nat) : Prop :=
  s ≤ 3 ∧ s ≤ j ∧ (0 < j → 0 < s) ∧ (∀ t, t < s → cs.getD (j - 1 - t) 0 = cs.getD (j - 1) 0) ∧ (s < j → cs.getD (j - 1 - s) 0 ≠ cs.getD (j - 1) 0) ∧ ∀ i, i + 4 ≤ j → win cs i = false
theorem run_zero (cs : List Nat) : Run cs 0 0 := ⟨by omega, by omega, by omega, fun t h => by omega, by omega, fun i h => by omega⟩
theorem run_new {cs : List Nat} {j s : Nat} (h : Run cs j s) (hj : 0 < j) (hne : cs.getD j 0 ≠ cs.getD (j - 1) 0) : Run cs (j + 1) 1 := by
  obtain ⟨h1, h2, h3, h4, h5, h6⟩ := h
  refine ⟨by omega, by omega, by omega, fun t ht => ?_, fun _ => ?_, fun i hi => ?_⟩
  · obtain rfl : t = 0 := by omega
    rfl
  · simpa using Ne.symm hne
  · by_cases e : i + 4 ≤ j
    · exact h6 i e
    · obtain rfl : j = i + 3 := by omega
      have : i + 3 - 1 = i + 2 := by omega
      rw [this] at hne
      simp only [win, Bool.and_eq_false_iff, beq_eq_false_iff_ne]
      by_cases e2 : cs.getD (i + 2) 0 = cs.getD i 0
      · right; rw [← e2]; exact hne
      · left; right; exact e2
theorem run_more {cs : List Nat} {j s : Nat} (h : Run cs j s) (hj : j = 0 ∨ cs.getD j 0 = cs.getD (j - 1) 0) (hs : s + 1 ≤ 3) : Run cs (j + 1) (s + 1) := by
  obtain ⟨h1, h2, h3, h4, h5, h6⟩ := h
  have e0 : j + 1 - 1 = j := by omega
  refine ⟨by omega, by omega, by omega, fun t ht => ?_, fun hlt => ?_, fun i hi => ?_⟩
  · rw [e0]
    cases t with
    | zero => rfl
    | succ t =>
      have := h4 t (by omega)
      have e1 : j - (t + 1) = j - 1 - t := by omega
      rw [e1, this]
      rcases hj with rfl | hj
      · omega
      · exact hj.symm
  · rw [e0]
    have e1 : j - (s + 1) = j - 1 - s := by omega
    rw [e1]
    rcases hj with rfl | hj
    · omega
    · rw [hj]; exact h5 (by omega)
  · by_cases e : i + 4 ≤ j
    · exact h6 i e
    · obtain rfl : j = i + 3 := by omega
      have hs' : s < i + 3 := by omega
      have hne := h5 hs'
      rcases hj with hj | hj
      · omega
      · refine Bool.eq_false_iff.2 fun hw => ?_
        simp only [win, Bool.and_eq_true, beq_iff_eq] at hw
        obtain ⟨⟨⟨_, w1⟩, w2⟩, w3⟩ := hw
        have hs2 : s = 0 ∨ s = 1 ∨ s = 2 := by omega
        have f1 : i + 3 - 1 - 0 = i + 2 := by omega
        have f2 : i + 3 - 1 - 1 = i + 1 := by omega
        have f3 : i + 3 - 1 - 2 = i := by omega
        have f4 : i + 3 - 1 = i + 2 := by omega
        rcases hs2 with rfl | rfl | rfl
        · have := h3 (by omega); omega
        · rw [f2, f4] at hne; exact hne (by rw [w1, w2])
        · rw [f3, f4] at hne; exact hne (by rw [w2])
theorem run_full {cs : List Nat} {j : Nat} (h : Run cs j 3) (hj : cs.getD j 0 = cs.getD (j - 1) 0) (hlt : j < cs.length) : plan cs = (j - 3, true) := by
  obtain ⟨h1, h2, h3, h4, h5, h6⟩ := h
  refine plan_yes ?_ fun i hi => h6 i (by omega)
  have a0 := h4 0 (by omega)
  have a1 := h4 1 (by omega)
  have a2 := h4 2 (by omega)
  have e1 : j - 3 + 1 = j - 1 - 1 := by omega
  have e2 : j - 3 + 2 = j - 1 - 0 := by omega
  have e3 : j - 3 + 3 = j := by omega
  have e4 : j - 3 = j - 1 - 2 := by omega
  simp only [win, Bool.and_eq_true, beq_iff_eq, decide_eq_true_eq]
  refine ⟨⟨⟨by omega, ?_⟩, ?_⟩, ?_⟩
  · rw [e1, a1, e4, a2]
  · rw [e2, a0, e4, a2]
  · rw [e3, hj, e4, a2]
theorem run_end {cs : List Nat} {s : Nat} (h : Run cs cs.length s) : plan cs = (0, false) := plan_no h.2.2.2.2.2
end Go.Proofs.Ytpehfjjhdadejaa
