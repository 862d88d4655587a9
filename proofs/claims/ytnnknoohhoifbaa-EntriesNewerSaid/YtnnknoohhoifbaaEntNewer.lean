/- Of two logs one is not behind the other, or both are the same: the statement EntriesNewer, for every argument. -/
import Derived.Test.YtnnknoohhoifbaaEntHelp
namespace Go.Proofs.Ytnnknoohhoifbaa
open Go.ChangeShapes Go.WideShapes Go.ChangeAt Go.RowKit

def nw (li lt i t : Int) : Bool := decide (lt < t) || (decide (t = lt) && decide (li ≤ i))
def newerV (B T : Int) (xs : List Ent) (i t : Int) : Value := if mayLog B T xs = true then .tuple #[.bool (nw (lastI B xs) (lastT T xs) i t), .int .i64 0] else .tuple #[.bool false, .int .i64 1]
set_option maxRecDepth 100000 in
set_option maxHeartbeats 1000000 in
theorem newer_any (B T i t : Int) (v : Value) (xs : List Ent) (w : World) (h : Ents w v xs) :
    Calls Try.prog 27 #[.agg #[.int .i64 B, .int .i64 T, v], .int .i64 i, .int .i64 t] w fun e w' => e = .returned (newerV B T xs i t) ∧ From w w' := by
  obtain ⟨f0, f1, f2, hbb, hwb⟩ := box_log (w := w) (B := B) (T := T) (v := v) (t := 25)
  have hch := fun w' (hw : From w w') => check_any B T v xs w' (h.from_ hw)
  have hlo := fun w' (hw : From w w') => lastOf_any B T v xs w' (h.from_ hw)
  unfold chk at hch
  unfold newerV
  obtain ⟨A, cap, rfl, -⟩ := h
  by_cases hm : mayLog B T xs = true
  · rw [if_pos hm] at hch ⊢
    have HC := Lib.hid hch
    have HL := Lib.hid hlo
    clear hch hlo hm
    generalize lastI B xs = li at *
    generalize lastT T xs = lt at *
    have hnw : nw li lt i t = nw li lt i t := rfl
    conv at hnw => rhs; unfold nw
    by_cases h1 : lt < t
    · have e1 : decide (lt < t) = true := decide_eq_true h1
      rw [e1] at hnw
      rw [hnw]
      clear h1 hnw
      go_enter Try.func27, Try.ntmps27
      go_wp2_with (first
            | (go_at_call 24; (with_reducible refine (HC.out _ hwb).mono ?_); rintro e w1 ⟨rfl, hb1⟩; have hw1 := From.next (a := w) hwb hb1)
            | (go_at_call 42; (with_reducible refine (HL.out _ hw1).mono ?_); rintro e w2 ⟨rfl, hb2⟩; have hw2 := From.next (a := w) hw1 hb2))
      go_ret2
      exact ⟨rfl, hw2⟩
    · have e1 : decide (lt < t) = false := decide_eq_false h1
      by_cases h2 : t = lt
      · have e2 : (t == lt) = true := by simpa using h2
        by_cases h3 : li ≤ i
        · have e3 : decide (li ≤ i) = true := decide_eq_true h3
          rw [e1, decide_eq_true h2, e3] at hnw
          rw [hnw]
          clear h1 h2 h3 hnw
          go_enter Try.func27, Try.ntmps27
          go_wp2_with (first
            | (go_at_call 24; (with_reducible refine (HC.out _ hwb).mono ?_); rintro e w1 ⟨rfl, hb1⟩; have hw1 := From.next (a := w) hwb hb1)
            | (go_at_call 42; (with_reducible refine (HL.out _ hw1).mono ?_); rintro e w2 ⟨rfl, hb2⟩; have hw2 := From.next (a := w) hw1 hb2))
          go_ret2
          exact ⟨rfl, hw2⟩
        · have e3 : decide (li ≤ i) = false := decide_eq_false h3
          rw [e1, decide_eq_true h2, e3] at hnw
          rw [hnw]
          clear h1 h2 h3 hnw
          go_enter Try.func27, Try.ntmps27
          go_wp2_with (first
            | (go_at_call 24; (with_reducible refine (HC.out _ hwb).mono ?_); rintro e w1 ⟨rfl, hb1⟩; have hw1 := From.next (a := w) hwb hb1)
            | (go_at_call 42; (with_reducible refine (HL.out _ hw1).mono ?_); rintro e w2 ⟨rfl, hb2⟩; have hw2 := From.next (a := w) hw1 hb2))
          go_ret2
          exact ⟨rfl, hw2⟩
      · have e2 : (t == lt) = false := by simpa using h2
        rw [e1, decide_eq_false h2] at hnw
        rw [hnw]
        clear h1 h2 hnw
        go_enter Try.func27, Try.ntmps27
        go_wp2_with (first
            | (go_at_call 24; (with_reducible refine (HC.out _ hwb).mono ?_); rintro e w1 ⟨rfl, hb1⟩; have hw1 := From.next (a := w) hwb hb1)
            | (go_at_call 42; (with_reducible refine (HL.out _ hw1).mono ?_); rintro e w2 ⟨rfl, hb2⟩; have hw2 := From.next (a := w) hw1 hb2))
        go_ret2
        exact ⟨rfl, hw2⟩
  · rw [if_neg hm] at hch ⊢
    have HC := Lib.hid hch
    clear hch hlo hm
    go_enter Try.func27, Try.ntmps27
    go_wp2_with (first
      | (go_at_call 24; (with_reducible refine (HC.out _ hwb).mono ?_); rintro e w1 ⟨rfl, hb1⟩; have hw1 := From.next (a := w) hwb hb1))
    go_ret2
    exact ⟨rfl, hw1⟩

set_option maxRecDepth 100000 in
set_option maxHeartbeats 4000000 in
theorem newer_law (A : Option Addr) (n cap : Nat) (w : World) (hn : n ≤ 9223372036854775807) (hE : Asks w A n) :
    Calls Try.prog 11 #[.slice A n cap] w fun e w' => e = .returned (.bool true) ∧ From w w' := by
  go_enter Try.func11, Try.ntmps11
  go_wp2
  go_loopw [3] (fun i wr => ∃ k : Nat, k ≤ n ∧ k ≤ 8 ∧ i = .int .i64 k ∧ From w wr) (fun i _ => n - (intOf i).toNat)
  case atStart => exact ⟨0, by omega, by omega, rfl, From.rfl_⟩
  case round =>
    obtain ⟨k, hk, hk8, rfl, hw⟩ := hrel
    obtain ⟨k1, hk1⟩ : ∃ k1, k1 = k + 1 := ⟨_, rfl⟩
    have hs : (k : Int) + 1 = (k1 : Int) := by omega
    have hk9 : k1 ≤ 9 := by omega
    have HK1 := Lib.hid hk1
    clear hk1
    by_cases hlt : k1 < n ∧ k < 8
    · have HK := HK1.out
      obtain ⟨hlt, h20⟩ := hlt
      have hkn : k < n := by omega
      obtain ⟨b, o, rfl, hb, hc⟩ := hE (by omega)
      obtain ⟨B1, T1, I1, M1, N1, V1, E1, xs1, es1, hat1⟩ := hc k (by omega)
      have d01 : ∀ w', From w w' → w'.cell? ⟨b, o + k * 7, none⟩ = some (.int .i64 B1) := fun w' h => (h.cells b _ hb).trans hat1.c0
      have d11 : ∀ w', From w w' → w'.cell? ⟨b, o + k * 7 + 1, none⟩ = some (.int .i64 T1) := fun w' h => (h.cells b _ hb).trans hat1.c1
      have d21 : ∀ w', From w w' → w'.cell? ⟨b, o + k * 7 + 2, none⟩ = some V1 := fun w' h => (h.cells b _ hb).trans hat1.c2
      have d31 : ∀ w', From w w' → w'.cell? ⟨b, o + k * 7 + 3, none⟩ = some (.int .i64 I1) := fun w' h => (h.cells b _ hb).trans hat1.c3
      have d41 : ∀ w', From w w' → w'.cell? ⟨b, o + k * 7 + 4, none⟩ = some (.int .i64 M1) := fun w' h => (h.cells b _ hb).trans hat1.c4
      have d51 : ∀ w', From w w' → w'.cell? ⟨b, o + k * 7 + 5, none⟩ = some E1 := fun w' h => (h.cells b _ hb).trans hat1.c5
      have d61 : ∀ w', From w w' → w'.cell? ⟨b, o + k * 7 + 6, none⟩ = some (.int .i64 N1) := fun w' h => (h.cells b _ hb).trans hat1.c6
      have hokc1 := fun w' (h : From w w') => ok_any B1 T1 I1 M1 N1 V1 E1 xs1 es1 w' (hat1.log.from_ h) (hat1.ent.from_ h) hat1.lok hat1.llen hat1.eok hat1.elen
      simp only [askCells] at hokc1
      have HV1 := Lib.hid hokc1
      have HAT1 := Lib.hid hat1
      clear hat1 hokc1
      obtain ⟨B2, T2, I2, M2, N2, V2, E2, xs2, es2, hat2⟩ := hc k1 (by omega)
      have d02 : ∀ w', From w w' → w'.cell? ⟨b, o + k1 * 7, none⟩ = some (.int .i64 B2) := fun w' h => (h.cells b _ hb).trans hat2.c0
      have d12 : ∀ w', From w w' → w'.cell? ⟨b, o + k1 * 7 + 1, none⟩ = some (.int .i64 T2) := fun w' h => (h.cells b _ hb).trans hat2.c1
      have d22 : ∀ w', From w w' → w'.cell? ⟨b, o + k1 * 7 + 2, none⟩ = some V2 := fun w' h => (h.cells b _ hb).trans hat2.c2
      have d32 : ∀ w', From w w' → w'.cell? ⟨b, o + k1 * 7 + 3, none⟩ = some (.int .i64 I2) := fun w' h => (h.cells b _ hb).trans hat2.c3
      have d42 : ∀ w', From w w' → w'.cell? ⟨b, o + k1 * 7 + 4, none⟩ = some (.int .i64 M2) := fun w' h => (h.cells b _ hb).trans hat2.c4
      have d52 : ∀ w', From w w' → w'.cell? ⟨b, o + k1 * 7 + 5, none⟩ = some E2 := fun w' h => (h.cells b _ hb).trans hat2.c5
      have d62 : ∀ w', From w w' → w'.cell? ⟨b, o + k1 * 7 + 6, none⟩ = some (.int .i64 N2) := fun w' h => (h.cells b _ hb).trans hat2.c6
      have hokc2 := fun w' (h : From w w') => ok_any B2 T2 I2 M2 N2 V2 E2 xs2 es2 w' (hat2.log.from_ h) (hat2.ent.from_ h) hat2.lok hat2.llen hat2.eok hat2.elen
      simp only [askCells] at hokc2
      have HV2 := Lib.hid hokc2
      have HAT2 := Lib.hid hat2
      clear hat2 hokc2
      have i1 : (0:Int) ≤ (k:Int) := by omega
      have i2 : (k:Int) < (n:Int) := by omega
      have i3 : (0:Int) ≤ (k1:Int) := by omega
      have i4 : (k1:Int) < (n:Int) := by omega
      have hd0 : decide ((k1 : Int) < (n : Int)) = true := by simp; omega
      have hd : decide ((k : Int) < 8) = true := by simp; omega
      clear hE hc HK
      go_wp2_with fail
      refine (HV1.out _ hw).mono ?_
      rintro e w1 ⟨h, rfl, hl1, hb1⟩
      have hw1 := hw.next hb1
      clear hb1
      cases h with
      | false =>
        go_wp2
        go_roundw
        case rel => exact ⟨k1, by omega, by omega, rfl, hw1⟩
        case measure => have := HK1.out; simp [intOf]; omega
      | true =>
        go_wp2_with fail
        refine (HV2.out _ hw1).mono ?_
        rintro e w2 ⟨h, rfl, hl2, hb2⟩
        have hw2 := hw1.next hb2
        clear hb2
        cases h with
        | false =>
          go_wp2
          go_roundw
          case rel => exact ⟨k1, by omega, by omega, rfl, hw2⟩
          case measure => have := HK1.out; simp [intOf]; omega
        | true =>
          have hm1 := (hl1 (by simp)).1
          have hm2 := (hl2 (by simp)).1
          clear hl1 hl2 hw hw1
          have hla1 := fun w' (h : From w w') => last_any B1 T1 V1 xs1 w' (HAT1.out.log.from_ h)
          have hla2 := fun w' (h : From w w') => last_any B2 T2 V2 xs2 w' (HAT2.out.log.from_ h)
          have hne1 := fun i t w' (h : From w w') => newer_any B1 T1 i t V1 xs1 w' (HAT1.out.log.from_ h)
          have hne2 := fun i t w' (h : From w w') => newer_any B2 T2 i t V2 xs2 w' (HAT2.out.log.from_ h)
          unfold lastV at hla1 hla2
          unfold newerV at hne1 hne2
          rw [if_pos hm1] at hla1
          rw [if_pos hm2] at hla2
          simp only [if_pos hm1] at hne1
          simp only [if_pos hm2] at hne2
          generalize lastI B1 xs1 = p at *
          generalize lastT T1 xs1 = q at *
          generalize lastI B2 xs2 = r at *
          generalize lastT T2 xs2 = s at *
          replace hne1 := hne1 r s
          replace hne2 := hne2 p q
          clear hm1 hm2
          rcases (show q < s ∨ (q = s ∧ p < r) ∨ (q = s ∧ p = r) ∨ (q = s ∧ r < p) ∨ s < q by omega) with hcase | hcase | hcase | hcase | hcase
          · have hx : nw p q r s = true := by simp [nw]; omega
            have hy : nw r s p q = false := by simp [nw]; omega
            rw [hx] at hne1
            rw [hy] at hne2
            have HL1 := Lib.hid hla1
            have HL2 := Lib.hid hla2
            have HN1 := Lib.hid hne1
            have HN2 := Lib.hid hne2
            have e1 : decide (q < s) = true := by simp; omega
            have e2 : (s == q) = false := by simp; omega
            have e5 : (q != s) = true := by simp; omega
            clear hla1 hla2 hne1 hne2 hx hy hcase
            go_wp2_with (first
              | (go_at_call 25; (with_reducible refine (HL1.out _ (by assumption)).mono ?_); rintro e w3 ⟨rfl, hb3⟩; have hw3 := From.next (a := w) (by assumption) hb3; clear hb3)
              | (go_at_call 25; (with_reducible refine (HL2.out _ (by assumption)).mono ?_); rintro e w4 ⟨rfl, hb4⟩; have hw4 := From.next (a := w) (by assumption) hb4; clear hb4)
              | (go_at_call 27; (with_reducible refine (HN1.out _ (by assumption)).mono ?_); rintro e w5 ⟨rfl, hb5⟩; have hw5 := From.next (a := w) (by assumption) hb5; clear hb5)
              | (go_at_call 27; (with_reducible refine (HN2.out _ (by assumption)).mono ?_); rintro e w6 ⟨rfl, hb6⟩; have hw6 := From.next (a := w) (by assumption) hb6; clear hb6)
              | (go_at_call 23; (with_reducible refine (errnum_any _ _).mono ?_); rintro e w10 ⟨rfl, rfl⟩))
            go_roundw
            case rel => exact ⟨k1, by omega, by omega, rfl, hw6⟩
            case measure => have := HK1.out; simp [intOf]; omega
          · have hx : nw p q r s = true := by simp [nw]; omega
            have hy : nw r s p q = false := by simp [nw]; omega
            rw [hx] at hne1
            rw [hy] at hne2
            have HL1 := Lib.hid hla1
            have HL2 := Lib.hid hla2
            have HN1 := Lib.hid hne1
            have HN2 := Lib.hid hne2
            have e1 : decide (q < s) = false := by simp; omega
            have e2 : (s == q) = true := by simp; omega
            have e3 : decide (p ≤ r) = true := by simp; omega
            have e4 : (p != r) = true := by simp; omega
            have e5 : (q != s) = false := by simp; omega
            clear hla1 hla2 hne1 hne2 hx hy hcase
            go_wp2_with (first
              | (go_at_call 25; (with_reducible refine (HL1.out _ (by assumption)).mono ?_); rintro e w3 ⟨rfl, hb3⟩; have hw3 := From.next (a := w) (by assumption) hb3; clear hb3)
              | (go_at_call 25; (with_reducible refine (HL2.out _ (by assumption)).mono ?_); rintro e w4 ⟨rfl, hb4⟩; have hw4 := From.next (a := w) (by assumption) hb4; clear hb4)
              | (go_at_call 27; (with_reducible refine (HN1.out _ (by assumption)).mono ?_); rintro e w5 ⟨rfl, hb5⟩; have hw5 := From.next (a := w) (by assumption) hb5; clear hb5)
              | (go_at_call 27; (with_reducible refine (HN2.out _ (by assumption)).mono ?_); rintro e w6 ⟨rfl, hb6⟩; have hw6 := From.next (a := w) (by assumption) hb6; clear hb6)
              | (go_at_call 23; (with_reducible refine (errnum_any _ _).mono ?_); rintro e w10 ⟨rfl, rfl⟩))
            go_roundw
            case rel => exact ⟨k1, by omega, by omega, rfl, hw6⟩
            case measure => have := HK1.out; simp [intOf]; omega
          · have hx : nw p q r s = true := by simp [nw]; omega
            have hy : nw r s p q = true := by simp [nw]; omega
            rw [hx] at hne1
            rw [hy] at hne2
            have HL1 := Lib.hid hla1
            have HL2 := Lib.hid hla2
            have HN1 := Lib.hid hne1
            have HN2 := Lib.hid hne2
            have e1 : decide (q < s) = false := by simp; omega
            have e2 : (s == q) = true := by simp; omega
            have e3 : decide (p ≤ r) = true := by simp; omega
            have e4 : (p != r) = false := by simp; omega
            have e5 : (q != s) = false := by simp; omega
            clear hla1 hla2 hne1 hne2 hx hy hcase
            go_wp2_with (first
              | (go_at_call 25; (with_reducible refine (HL1.out _ (by assumption)).mono ?_); rintro e w3 ⟨rfl, hb3⟩; have hw3 := From.next (a := w) (by assumption) hb3; clear hb3)
              | (go_at_call 25; (with_reducible refine (HL2.out _ (by assumption)).mono ?_); rintro e w4 ⟨rfl, hb4⟩; have hw4 := From.next (a := w) (by assumption) hb4; clear hb4)
              | (go_at_call 27; (with_reducible refine (HN1.out _ (by assumption)).mono ?_); rintro e w5 ⟨rfl, hb5⟩; have hw5 := From.next (a := w) (by assumption) hb5; clear hb5)
              | (go_at_call 27; (with_reducible refine (HN2.out _ (by assumption)).mono ?_); rintro e w6 ⟨rfl, hb6⟩; have hw6 := From.next (a := w) (by assumption) hb6; clear hb6)
              | (go_at_call 23; (with_reducible refine (errnum_any _ _).mono ?_); rintro e w10 ⟨rfl, rfl⟩))
            go_roundw
            case rel => exact ⟨k1, by omega, by omega, rfl, hw6⟩
            case measure => have := HK1.out; simp [intOf]; omega
          · have hx : nw p q r s = false := by simp [nw]; omega
            have hy : nw r s p q = true := by simp [nw]; omega
            rw [hx] at hne1
            rw [hy] at hne2
            have HL1 := Lib.hid hla1
            have HL2 := Lib.hid hla2
            have HN1 := Lib.hid hne1
            have HN2 := Lib.hid hne2
            have e1 : decide (q < s) = false := by simp; omega
            have e2 : (s == q) = true := by simp; omega
            have e3 : decide (p ≤ r) = false := by simp; omega
            have e4 : (p != r) = true := by simp; omega
            have e5 : (q != s) = false := by simp; omega
            clear hla1 hla2 hne1 hne2 hx hy hcase
            go_wp2_with (first
              | (go_at_call 25; (with_reducible refine (HL1.out _ (by assumption)).mono ?_); rintro e w3 ⟨rfl, hb3⟩; have hw3 := From.next (a := w) (by assumption) hb3; clear hb3)
              | (go_at_call 25; (with_reducible refine (HL2.out _ (by assumption)).mono ?_); rintro e w4 ⟨rfl, hb4⟩; have hw4 := From.next (a := w) (by assumption) hb4; clear hb4)
              | (go_at_call 27; (with_reducible refine (HN1.out _ (by assumption)).mono ?_); rintro e w5 ⟨rfl, hb5⟩; have hw5 := From.next (a := w) (by assumption) hb5; clear hb5)
              | (go_at_call 27; (with_reducible refine (HN2.out _ (by assumption)).mono ?_); rintro e w6 ⟨rfl, hb6⟩; have hw6 := From.next (a := w) (by assumption) hb6; clear hb6)
              | (go_at_call 23; (with_reducible refine (errnum_any _ _).mono ?_); rintro e w10 ⟨rfl, rfl⟩))
            go_roundw
            case rel => exact ⟨k1, by omega, by omega, rfl, hw6⟩
            case measure => have := HK1.out; simp [intOf]; omega
          · have hx : nw p q r s = false := by simp [nw]; omega
            have hy : nw r s p q = true := by simp [nw]; omega
            rw [hx] at hne1
            rw [hy] at hne2
            have HL1 := Lib.hid hla1
            have HL2 := Lib.hid hla2
            have HN1 := Lib.hid hne1
            have HN2 := Lib.hid hne2
            have e1 : decide (q < s) = false := by simp; omega
            have e2 : (s == q) = false := by simp; omega
            have e5 : (q != s) = true := by simp; omega
            clear hla1 hla2 hne1 hne2 hx hy hcase
            go_wp2_with (first
              | (go_at_call 25; (with_reducible refine (HL1.out _ (by assumption)).mono ?_); rintro e w3 ⟨rfl, hb3⟩; have hw3 := From.next (a := w) (by assumption) hb3; clear hb3)
              | (go_at_call 25; (with_reducible refine (HL2.out _ (by assumption)).mono ?_); rintro e w4 ⟨rfl, hb4⟩; have hw4 := From.next (a := w) (by assumption) hb4; clear hb4)
              | (go_at_call 27; (with_reducible refine (HN1.out _ (by assumption)).mono ?_); rintro e w5 ⟨rfl, hb5⟩; have hw5 := From.next (a := w) (by assumption) hb5; clear hb5)
              | (go_at_call 27; (with_reducible refine (HN2.out _ (by assumption)).mono ?_); rintro e w6 ⟨rfl, hb6⟩; have hw6 := From.next (a := w) (by assumption) hb6; clear hb6)
              | (go_at_call 23; (with_reducible refine (errnum_any _ _).mono ?_); rintro e w10 ⟨rfl, rfl⟩))
            go_roundw
            case rel => exact ⟨k1, by omega, by omega, rfl, hw6⟩
            case measure => have := HK1.out; simp [intOf]; omega
    · rcases (show ¬ k1 < n ∨ (k1 < n ∧ ¬ k < 8) by omega) with h1 | ⟨h1, h2⟩
      · have hd0 : decide ((k1 : Int) < (n : Int)) = false := by simp; omega
        clear hlt
        go_wp2_with (go_at_call 35; (with_reducible refine (wakes_any _).mono ?_); rintro e w1 ⟨rfl, hb1⟩)
        go_ret
        exact ⟨rfl, hw.next hb1⟩
      · have hd0 : decide ((k1 : Int) < (n : Int)) = true := by simp; omega
        have hd1 : decide ((k : Int) < 8) = false := by simp; omega
        clear hlt
        go_wp2_with (go_at_call 35; (with_reducible refine (wakes_any _).mono ?_); rintro e w1 ⟨rfl, hb1⟩)
        go_ret
        exact ⟨rfl, hw.next hb1⟩
set_option maxRecDepth 100000 in
theorem EntriesNewer_lifted (os : Os) (started : os.Started) (H : Type) (enc : TypeId × Value → H) :
    ReturnsInHanded {} Try.checked os 11 .any (Rows.entriesNewerSpec.pre6 enc Try.prog Try.f11 Rows.entriesNewerRow.domain false) (Rows.entriesNewerSpec.post enc Try.prog Try.f11 false true false false) := by
  refine returnsInHanded_of_change_sized (C := Try.checked) Try.own started (by kernel_rfl) Try.func11
    (ChangeSpec.witness6 (enc := enc) (C := Try.checked) false ⟨#[], #[.slice none 0 0], []⟩ 8 (by kernel_rfl) (by kernel_rfl) (by kernel_rfl) (by kernel_rfl)) ?_
  intro W base args ds gs before hval hW _ hsz _
  exact law_step 11 Try.f11 22 4 Rows.entriesNewerSpec Try.params11 (by kernel_rfl) Try.underlying4 rfl (fun _ => rfl) (by kernel_rfl) (of_decide_eq_true (by kernel_rfl)) (walk_of newer_law) W base args ds gs before hval hW hsz

theorem EntriesNewer_holds : Rows.EntriesNewerSaid :=
  OpenClaim.holds_of_wide 11 Try.f11 rfl rfl rfl rfl rfl rfl rfl ⟨rfl, rfl, rfl, rfl, rfl⟩ rfl rfl rfl rfl rfl (by kernel_rfl) Try.func11 (by kernel_rfl)
    (of_decide_eq_true (by kernel_rfl)) (by unfold Func.isWrapper; first | (rw [if_pos (by decide +kernel)]; kernel_rfl) | (rw [if_neg (by decide +kernel)]; exact ⟨rfl, rfl⟩))
    (fun os started H enc _ => EntriesNewer_lifted os started H enc)
#print axioms EntriesNewer_holds

end Go.Proofs.Ytnnknoohhoifbaa
