/- Walks of package ints: New. -/
import Derived.Test.YtgnmmifolhoaeaaIntsNew
namespace Go.Proofs.Ytgnmmifolhoaeaa
open Go.RowKit

def mayI (W : Int) (l : List Nat) : Bool := decide (0 ≤ W) && decide (W ≤ 64) && l.all fun x => decide (x < 2 ^ W.toNat)
theorem wordsV_row {w : World} {v : Value} {l : List Nat} (h : Row w v (wordsV l)) : ∃ A cap, v = .slice A l.length cap ∧ (0 < l.length → ∃ b o, A = some ⟨b, o, none⟩ ∧ b < w.heap.size ∧ ∀ i (h : i < l.length), w.cell? ⟨b, o + i, none⟩ = some (.int .u64 (l[i] : Nat))) := row_vals (f := fun x : Nat => Value.int .u64 x) h
theorem packs_zero (W m : Nat) : Packs (List.replicate m 0) W [] := by
  refine ⟨fun x hx => ?_, fun k => ?_⟩
  · obtain ⟨_, rfl⟩ := List.mem_replicate.1 hx
    decide
  · rw [if_neg (by simp)]
    unfold bitAt
    rw [List.getD_eq_getElem?_getD]
    by_cases hk : k / 64 < m
    · simp [List.getElem?_replicate, hk]
    · simp [List.getElem?_replicate, hk]
theorem zero_of_w0 {W : Nat} {l : List Nat} (hW : W = 0) (h : ∀ x ∈ l, x < 2 ^ W) : ∀ x ∈ l, x = 0 := by
  intro x hx
  have := h x hx
  rw [hW] at this
  omega

def NewGot (w w' : World) (e : Ending) (W : Nat) (l : List Nat) : Prop := ∃ g, e = .returned (.tuple #[.pointer (some ⟨g, 0, none⟩), .int .i64 0]) ∧ IntsAt w.heap.size w' g W l ∧ From w w'
set_option maxRecDepth 100000 in
set_option maxHeartbeats 1000000 in
theorem new_bad (W : Int) (v : Value) (l : List Nat) (w : World) (hr : Row w v (wordsV l)) (hlen : l.length ≤ 131072) (hl : ∀ x ∈ l, x < 2 ^ 64) (hbad : mayI W l = false) :
    Calls Try.prog 9 #[.int .i64 W, v] w fun e w' => e = .returned (.tuple #[.pointer none, .int .i64 1]) ∧ From w w' := by
  obtain ⟨A, cap, rfl, hrow⟩ := wordsV_row hr
  clear hr
  by_cases h0 : W < 0
  · have e0 : decide (W < 0) = true := decide_eq_true h0
    clear hrow h0 hbad hl
    go_enter Try.func9, Try.ntmps9
    go_wp2
    go_ret2
    exact ⟨rfl, From.rfl_⟩
  have e0 : decide (W < 0) = false := decide_eq_false h0
  by_cases h6 : 64 < W
  · have e1 : decide (64 < W) = true := decide_eq_true h6
    clear hrow h0 hbad hl h6
    go_enter Try.func9, Try.ntmps9
    go_wp2
    go_ret2
    exact ⟨rfl, From.rfl_⟩
  have e1 : decide (64 < W) = false := decide_eq_false h6
  obtain ⟨W', hW'⟩ : ∃ W' : Nat, W = W' := ⟨W.toNat, by omega⟩
  subst hW'
  have hW6 : W' ≤ 64 := by omega
  have hall : ¬ ∀ x ∈ l, x < 2 ^ W' := by
    intro h
    have h3 : mayI (W' : Int) l = true := by
      unfold mayI
      rw [decide_eq_true (by omega), decide_eq_true (by omega), Bool.true_and, Bool.true_and, List.all_eq_true]
      intro x hx
      have := h x hx
      simpa using this
    rw [h3] at hbad
    cases hbad
  have hbe := below_any W' hW6
  have HB := Lib.hid hbe
  have HA := Lib.hid hall
  have hpp : 0 < 2 ^ W' := Nat.pow_pos (by decide)
  obtain ⟨M, hM⟩ : ∃ M, M = 2 ^ W' - 1 := ⟨_, rfl⟩
  rw [← hM] at HB
  have hMx : ∀ x, x < 2 ^ W' ↔ x ≤ M := fun x => by rw [hM]; omega
  clear hM
  clear hbe hall hbad h0 h6
  go_enter Try.func9, Try.ntmps9
  go_wp2
  go_loopw [19] (fun i wr => ∃ j : Nat, j ≤ l.length ∧ i = .int .i64 j ∧ (∀ x ∈ l.take j, x < 2 ^ W') ∧ w = wr) (fun i _ => l.length - (intOf i).toNat)
  case atStart => exact ⟨0, by omega, rfl, by simp, rfl⟩
  case round =>
    obtain ⟨j, hj, rfl, hsm, rfl⟩ := hrel
    by_cases hlt : j < l.length
    · obtain ⟨b, o, rfl, hb, hc⟩ := hrow (by omega)
      have d1 := hc j hlt
      have i1 : (0 : Int) ≤ (j : Int) := by omega
      have i2 : (j : Int) < (l.length : Int) := by omega
      have hsn : l.take (j + 1) = l.take j ++ [l[j]] := List.take_succ_eq_append_getElem hlt
      have HS := Lib.hid (And.intro hsn hsm)
      clear hc hrow hsn hsm
      generalize l[j] = x at *
      by_cases hx : x < 2 ^ W'
      · have e2 : decide (M < x) = false := decide_eq_false (by have := (hMx x).1 hx; omega)
        have e3 : ¬ M < x := by have := (hMx x).1 hx; omega
        have HX := Lib.hid hx
        clear hx
        go_wp2_with (go_at_call 25; (with_reducible refine (HB.out _).mono ?_); rintro e w1 ⟨rfl, rfl⟩)
        go_roundw
        case rel =>
          refine ⟨j + 1, by omega, by go_num, ?_, trivial⟩
          intro y hy
          rw [HS.out.1] at hy
          rcases List.mem_append.1 hy with hy | hy
          · exact HS.out.2 y hy
          · simp at hy; subst hy; exact HX.out
        case measure => simp [intOf]; omega
      · have e3 : M < x := Nat.lt_of_not_le fun h => hx ((hMx x).2 h)
        have e2 : decide (M < x) = true := decide_eq_true e3
        clear hx
        go_wp2_with (go_at_call 25; (with_reducible refine (HB.out _).mono ?_); rintro e w1 ⟨rfl, rfl⟩)
        go_ret2
        exact ⟨rfl, From.rfl_⟩
    · exfalso
      apply HA.out
      rw [List.take_of_length_le (by omega)] at hsm
      exact hsm

theorem mayI_ok {W : Int} {l : List Nat} (h : mayI W l = true) : ∃ W' : Nat, W = W' ∧ W' ≤ 64 ∧ ∀ x ∈ l, x < 2 ^ W' := by
  unfold mayI at h
  simp only [Bool.and_eq_true, decide_eq_true_eq, List.all_eq_true] at h
  obtain ⟨⟨h1, h2⟩, h3⟩ := h
  exact ⟨W.toNat, by omega, by omega, h3⟩

set_option maxRecDepth 100000 in
set_option maxHeartbeats 2000000 in
theorem new_ok (W : Nat) (v : Value) (l : List Nat) (w : World) (hr : Row w v (wordsV l)) (hlen : l.length ≤ 131072) (hW6 : W ≤ 64) (hl : ∀ x ∈ l, x < 2 ^ W) :
    Calls Try.prog 9 #[.int .i64 W, v] w fun e w' => NewGot w w' e W l := by
  obtain ⟨A, cap, rfl, hrow⟩ := wordsV_row hr
  clear hr
  have e0 : decide ((W : Int) < 0) = false := decide_eq_false (by omega)
  have e1 : decide ((64 : Int) < (W : Int)) = false := decide_eq_false (by omega)
  have hbe := below_any W hW6
  have HB := Lib.hid hbe
  have hpp : 0 < 2 ^ W := Nat.pow_pos (by decide)
  obtain ⟨M, hM⟩ : ∃ M, M = 2 ^ W - 1 := ⟨_, rfl⟩
  rw [← hM] at HB
  have hMx : ∀ x ∈ l, x ≤ M := fun x hx => by have := hl x hx; rw [hM]; omega
  have e5 : decide ((131072 : Int) < (l.length : Int)) = false := decide_eq_false (by omega)
  have hnp := fun w' => newPacked_any W l.length w' hW6 hlen
  have HN := Lib.hid hnp
  have HL := Lib.hid hl
  clear hM hbe hnp hl hpp
  go_enter Try.func9, Try.ntmps9
  go_wp2
  go_loopw [19] (fun i wr => ∃ j : Nat, j ≤ l.length ∧ i = .int .i64 j ∧ w = wr) (fun i _ => l.length - (intOf i).toNat)
  case atStart => exact ⟨0, by omega, rfl, rfl⟩
  case round =>
    obtain ⟨j, hj, rfl, rfl⟩ := hrel
    by_cases hlt : j < l.length
    · obtain ⟨b, o, rfl, hb, hc⟩ := hrow (by omega)
      have d1 := hc j hlt
      have i1 : (0 : Int) ≤ (j : Int) := by omega
      have i2 : (j : Int) < (l.length : Int) := by omega
      have hx := hMx _ (List.getElem_mem hlt)
      clear hc hrow hMx
      generalize l[j] = x at *
      have e3 : ¬ M < x := by omega
      have e2 : decide (M < x) = false := decide_eq_false e3
      go_wp2_with (go_at_call 25; (with_reducible refine (HB.out _).mono ?_); rintro e w1 ⟨rfl, rfl⟩)
      go_roundw
      case rel => exact ⟨j + 1, by omega, by go_num, trivial⟩
      case measure => simp [intOf]; omega
    · clear hMx
      by_cases hW0 : W = 0
      · have e6 : ((W : Int) == 0) = true := beq_iff_eq.2 (by omega)
        have HW0 := Lib.hid hW0
        clear hW0 hrow
        go_wp2_with (go_at_call 26; (with_reducible refine (HN.out _).mono ?_); rintro e w1 ⟨hh, c1, rfl, hown1, hb1⟩; have HO := Lib.hid hown1; clear hown1)
        go_ret2
        have ho := HO.out
        have hlt2 := (ho.lt hh rfl).2
        have hwc : wordCount W l.length = (List.replicate (wordCount W l.length) (0 : Nat)).length := by simp
        refine ⟨w1.heap.size, rfl, ⟨List.replicate (wordCount W l.length) 0, ⟨hh, c1, ?_, ?_, ?_, hb1.size⟩, by simp, fun h => ?_, fun h => zero_of_w0 h HL.out, hW6, HL.out, hlen⟩, hb1.new _⟩
        · rw [← hwc]; exact Blk.new _ _ _
        · rw [← hwc]; exact ho.alloc _
        · omega
        · have := HW0.out; omega
      · have e6 : ((W : Int) == 0) = false := beq_eq_false_iff_ne.2 (by omega)
        have hW0' : 0 < W := by omega
        clear hW0
        go_wp2_with (go_at_call 26; (with_reducible refine (HN.out _).mono ?_); rintro e w1 ⟨hh, c1, rfl, hown1, hb1⟩; have HO := Lib.hid hown1; clear hown1)
        go_loopw [42] (fun i wr => ∃ (j : Nat) (ws : List Nat), j ≤ l.length ∧ i = .int .i64 j ∧ PackAt w.heap.size wr w1.heap.size 56 W l.length ws ∧ ws.length = wordCount W l.length ∧ Packs ws W (l.take j) ∧ From w wr) (fun i _ => l.length - (intOf i).toNat)
        case atStart =>
          have ho := HO.out
          have hlt2 := (ho.lt hh rfl).2
          have hwc : wordCount W l.length = (List.replicate (wordCount W l.length) (0 : Nat)).length := by simp
          refine ⟨0, List.replicate (wordCount W l.length) 0, by omega, rfl, ⟨hh, c1, ?_, ?_, ?_, hb1.size⟩, by simp, packs_zero W _, hb1.new _⟩
          · rw [← hwc]; exact Blk.new _ _ _
          · rw [← hwc]; exact ho.alloc _
          · omega
        case round =>
          obtain ⟨k, ws, hk, rfl, hpk, hwl, hps, hwx⟩ := hrel
          by_cases hkl : k < l.length
          · obtain ⟨b, o, rfl, hb, hc⟩ := hrow (by omega)
            have d1 : ∀ w', From w w' → w'.cell? ⟨b, o + k, none⟩ = some (.int .u64 (l[k] : Nat)) := fun w' h => (h.cells b _ hb).trans (hc k hkl)
            have i1 : (0 : Int) ≤ (k : Int) := by omega
            have i2 : (k : Int) < (l.length : Int) := by omega
            have hx := HL.out _ (List.getElem_mem hkl)
            have hx64 : l[k] < 2 ^ 64 := Nat.lt_of_lt_of_le hx (Nat.pow_le_pow_right (by decide) hW6)
            have hfitn : l.length * W ≤ ws.length * 64 := by rw [hwl]; exact wc_fits W l.length
            have hput := put_any w w1.heap.size k W l.length l[k] 56 ws _ hpk hwx hW0' hW6 hkl hlen hfitn hps.1 hx64
            have htl : (l.take k).length = k := by simp; omega
            have hstep := packs_put (x := l[k]) hps hW0' hW6 hx (by rw [htl]; exact Nat.le_trans (Nat.mul_le_mul_right W hkl) hfitn)
            rw [htl, ← List.take_succ_eq_append_getElem hkl] at hstep
            have HP := Lib.hid hput
            have HS := Lib.hid (And.intro hstep hwl)
            clear hc hrow hput hstep htl hfitn hx hx64 hps hwl hpk HO
            generalize l[k] = x at *
            go_wp2_with (go_at_call 27; (with_reducible refine HP.out.mono ?_); rintro e w2 ⟨rfl, hpk2, hw2⟩)
            go_roundw
            case rel => exact ⟨k + 1, _, by omega, by go_num, hpk2, by rw [putW_length]; exact HS.out.2, HS.out.1, hw2⟩
            case measure => simp [intOf]; omega
          · obtain rfl : k = l.length := by omega
            rw [List.take_length] at hps
            have HF := Lib.hid (And.intro hpk (And.intro hwl hps))
            clear hrow hpk hwl hps HO
            go_wp2
            go_ret2
            obtain ⟨f1, f2, f3⟩ := HF.out
            exact ⟨w1.heap.size, rfl, ⟨ws, f1, f2, fun _ => f3, fun h => absurd h (Nat.ne_of_gt hW0'), hW6, HL.out, hlen⟩, hwx⟩
end Go.Proofs.Ytgnmmifolhoaeaa
