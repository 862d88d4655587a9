/- Walks of package entries: Slice. -/
import Derived.Test.YtnnknoohhoifbaaEntCut
namespace Go.Proofs.Ytnnknoohhoifbaa
open Go.RowKit

def slErr (B T : Int) (xs : List Ent) (i n : Int) : Int := if mayLog B T xs = true then (if B + 1 ≤ i ∧ i ≤ lastI B xs + 1 then (if n < 0 then 1 else 0) else 3) else 1
def SlGot (w w' : World) (ys : List Ent) (c : Int) (v : Value) : Prop := (c ≠ 0 → v = .slice none 0 0) ∧ (c = 0 → w'.ownsRow w.heap.size 63 3 v ys.length (entV ys))
def restE (A : Option Addr) (cap k : Nat) : Option Addr := if cap = k then A else Option.map (fun x => x.add (k * 3)) A

set_option maxRecDepth 100000 in
set_option maxHeartbeats 2000000 in
theorem slice_any (B T i n : Int) (v : Value) (xs : List Ent) (w : World) (h : Ents w v xs) (hn9 : n ≤ 9223372036854775807) :
    Calls Try.prog 30 #[.agg #[.int .i64 B, .int .i64 T, v], .int .i64 i, .int .i64 n] w fun e w' => ∃ L, e = .returned (.tuple #[L, .int .i64 (slErr B T xs i n)]) ∧ SlGot w w' ((xs.drop (i - B - 1).toNat).take n.toNat) (slErr B T xs i n) L ∧ From w w' := by
  obtain ⟨f0, f1, f2, hbb, hwb⟩ := box_log (w := w) (B := B) (T := T) (v := v) (t := 25)
  have hch := fun w' (hw : From w w') => check_any B T v xs w' (h.from_ hw)
  have hlo := fun w' (hw : From w w') => lastOf_any B T v xs w' (h.from_ hw)
  have hwi := within_any
  have HW := Lib.hid hwi
  unfold chk at hch
  have HE := Lib.hid h
  have hdef : slErr B T xs i n = slErr B T xs i n := rfl
  conv at hdef => rhs; unfold slErr
  obtain ⟨A, cap, rfl, hc1, hc2, hc3, hrow⟩ := h
  clear hc3 hrow hwi
  by_cases hm : mayLog B T xs = true
  · rw [if_pos hm] at hch hdef
    obtain ⟨hl, hB0, hB1, hx⟩ := may_lastI hm
    rw [hl] at hlo hdef
    have HC := Lib.hid hch
    have HL := Lib.hid hlo
    clear hch hlo hm hl
    by_cases hin : B + 1 ≤ i ∧ i ≤ B + xs.length + 1
    · rw [if_pos hin] at hdef
      have hib := inb_mk hin
      by_cases hneg : n < 0
      · rw [if_pos hneg] at hdef
        rw [hdef]
        have e1 : decide (n < 0) = true := decide_eq_true hneg
        clear hdef hin hneg
        go_enter Try.func30, Try.ntmps30
        go_wp2_with (first
          | (go_at_call 24; (with_reducible refine (HC.out _ hwb).mono ?_); rintro e w1 ⟨rfl, hb1⟩; have hw1 := From.next (a := w) hwb hb1; have hbw1 := From.next (a := _) hbb hb1)
          | (go_at_call 42; (with_reducible refine (HL.out _ hw1).mono ?_); rintro e w2 ⟨rfl, hb3⟩; have hw2 := From.next (a := w) hw1 hb3; have hbw2 := From.next (a := _) hbw1 hb3)
          | (go_at_call 40; (with_reducible refine (HW.out _ _ _ _).mono ?_); rintro e w3 ⟨rfl, hb4⟩; have hw3 := From.next (a := w) hw2 hb4))
        go_ret2
        exact ⟨_, rfl, ⟨fun _ => rfl, fun h => absurd h (by decide)⟩, hw3⟩
      · rw [if_neg hneg] at hdef
        rw [hdef]
        obtain ⟨k, hk⟩ : ∃ k : Nat, i = B + k + 1 := ⟨(i - B - 1).toNat, by omega⟩
        obtain ⟨m, hmn⟩ : ∃ m : Nat, n = m := ⟨n.toNat, by omega⟩
        subst hmn
        have e1 : decide ((m : Int) < 0) = false := decide_eq_false hneg
        have hkn : (i - B - 1).toNat = k := by omega
        have hmt : (m : Int).toNat = m := by omega
        rw [hkn, hmt]
        have hkl : k ≤ xs.length := by omega
        have hrest := HE.out.rest hkl
        have hdl : (xs.drop k).length = xs.length - k := List.length_drop
        obtain ⟨q, hq⟩ : ∃ q : Nat, q = min m (xs.length - k) := ⟨_, rfl⟩
        have hql : q ≤ xs.length - k := by omega
        have hcut := hrest.cut (k := q) (by omega)
        have htk : (xs.drop k).take m = (xs.drop k).take q := by
          rw [hq]
          by_cases hle : m ≤ xs.length - k
          · rw [Nat.min_eq_left hle]
          · rw [Nat.min_eq_right (by omega), List.take_of_length_le (by omega), List.take_of_length_le (by omega)]
        rw [htk]
        have hcl := fun w' (hw : From w w') => clone_any _ _ w' (hcut.from_ hw) (by rw [List.length_take]; omega)
        have HCL := Lib.hid hcl
        have hra : (if cap = k then A else Option.map (fun x => x.add (k * 3)) A) = restE A cap k := rfl
        rw [hra] at HCL
        have j0 : i - B - 1 = (k : Int) := by omega
        have j1 : (0 : Int) ≤ (k : Int) := by omega
        have j2 : (k : Int) ≤ (xs.length : Int) := by omega
        have j3 : (k : Int) ≤ (cap : Int) := by omega
        have q1 : (0 : Int) ≤ (q : Int) := by omega
        have q2 : (q : Int) ≤ ((xs.length - k : Nat) : Int) := by omega
        have q3 : (q : Int) ≤ ((cap - k : Nat) : Int) := by omega
        have hHQ := Lib.hid hq
        have HI := Lib.hid hin
        have hii : B + 1 ≤ i ∧ i ≤ B + 600 := by omega
        clear hdef hkn hmt hrest hcut htk hcl hin hneg hq
        by_cases hle : m ≤ xs.length - k
        · have hqm : q = m := by have := hHQ.out; omega
          subst hqm
          have e5 : min (q : Int) ((xs.length - k : Nat) : Int) = (q : Int) := by omega
          have e6 : (q : Int) ≤ ((xs.length - k : Nat) : Int) := by omega
          clear hk
          go_enter Try.func30, Try.ntmps30
          go_wp2_with (first
            | (go_at_call 24; (with_reducible refine (HC.out _ hwb).mono ?_); rintro e w1 ⟨rfl, hb1⟩; have hw1 := From.next (a := w) hwb hb1; have hbw1 := From.next (a := _) hbb hb1)
            | (go_at_call 42; (with_reducible refine (HL.out _ hw1).mono ?_); rintro e w2 ⟨rfl, hb3⟩; have hw2 := From.next (a := w) hw1 hb3; have hbw2 := From.next (a := _) hbw1 hb3)
            | (go_at_call 40; (with_reducible refine (HW.out _ _ _ _).mono ?_); rintro e w3 ⟨rfl, hb4⟩; have hw3 := From.next (a := w) hw2 hb4; have hbw3 := From.next (a := _) hbw2 hb4)
            | (go_at_call 45; (with_reducible refine (HCL.out _ hw3).mono ?_); rintro e w4 ⟨v4, rfl, hown4, hb5⟩; have hw4 := From.next (a := w) hw3 hb5; have HO := Lib.hid (And.intro hown4 hw3.size); clear hown4))
          go_ret2
          exact ⟨_, rfl, ⟨fun h => absurd rfl h, fun _ => ownsRow_le HO.out.1 HO.out.2⟩, hw4⟩
        · have hqm : q = xs.length - k := by have := hHQ.out; omega
          subst hqm
          have e5 : min (m : Int) ((xs.length - k : Nat) : Int) = ((xs.length - k : Nat) : Int) := by omega
          have e6 : ¬ (m : Int) ≤ ((xs.length - k : Nat) : Int) := by omega
          clear hk
          go_enter Try.func30, Try.ntmps30
          go_wp2_with (first
            | (go_at_call 24; (with_reducible refine (HC.out _ hwb).mono ?_); rintro e w1 ⟨rfl, hb1⟩; have hw1 := From.next (a := w) hwb hb1; have hbw1 := From.next (a := _) hbb hb1)
            | (go_at_call 42; (with_reducible refine (HL.out _ hw1).mono ?_); rintro e w2 ⟨rfl, hb3⟩; have hw2 := From.next (a := w) hw1 hb3; have hbw2 := From.next (a := _) hbw1 hb3)
            | (go_at_call 40; (with_reducible refine (HW.out _ _ _ _).mono ?_); rintro e w3 ⟨rfl, hb4⟩; have hw3 := From.next (a := w) hw2 hb4; have hbw3 := From.next (a := _) hbw2 hb4)
            | (go_at_call 45; (with_reducible refine (HCL.out _ hw3).mono ?_); rintro e w4 ⟨v4, rfl, hown4, hb5⟩; have hw4 := From.next (a := w) hw3 hb5; have HO := Lib.hid (And.intro hown4 hw3.size); clear hown4))
          go_ret2
          exact ⟨_, rfl, ⟨fun h => absurd rfl h, fun _ => ownsRow_le HO.out.1 HO.out.2⟩, hw4⟩
    · rw [if_neg hin] at hdef
      rw [hdef]
      have hib := inb_no hin
      clear hdef hin
      go_enter Try.func30, Try.ntmps30
      go_wp2_with (first
        | (go_at_call 24; (with_reducible refine (HC.out _ hwb).mono ?_); rintro e w1 ⟨rfl, hb1⟩; have hw1 := From.next (a := w) hwb hb1; have hbw1 := From.next (a := _) hbb hb1)
        | (go_at_call 42; (with_reducible refine (HL.out _ hw1).mono ?_); rintro e w2 ⟨rfl, hb3⟩; have hw2 := From.next (a := w) hw1 hb3; have hbw2 := From.next (a := _) hbw1 hb3)
        | (go_at_call 40; (with_reducible refine (HW.out _ _ _ _).mono ?_); rintro e w3 ⟨rfl, hb4⟩; have hw3 := From.next (a := w) hw2 hb4))
      go_ret2
      exact ⟨_, rfl, ⟨fun _ => rfl, fun h => absurd h (by decide)⟩, hw3⟩
  · rw [if_neg hm] at hch hdef
    rw [hdef]
    have HC := Lib.hid hch
    clear hch hlo hm hdef
    go_enter Try.func30, Try.ntmps30
    go_wp2_with (first
      | (go_at_call 24; (with_reducible refine (HC.out _ hwb).mono ?_); rintro e w1 ⟨rfl, hb1⟩; have hw1 := From.next (a := w) hwb hb1))
    go_ret2
    exact ⟨_, rfl, ⟨fun _ => rfl, fun h => absurd h (by decide)⟩, hw1⟩
end Go.Proofs.Ytnnknoohhoifbaa
