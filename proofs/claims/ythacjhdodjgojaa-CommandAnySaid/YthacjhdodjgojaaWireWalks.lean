/- Walks of package wire (Num, GetNum) and its reference. -/
import Derived.Test.YthacjhdodjgojaaWireMath
import Derived.Test.YthacjhdodjgojaaRowsPush
namespace Go.Proofs.Ythacjhdodjgojaa
open Go.RowKit

theorem u8_info : (Try.prog.info? 5).map (fun i => (i.zero, i.size, i.bytes)) = some (some (.int .u8 0), 1, 1) := by kernel_rfl
theorem or128 (m : Nat) : bits .or .u8 (IntKind.u8.wrap (m : Int)) 128 = ((m % 128 + 128 : Nat) : Int) := by
  have H : ∀ b : Fin 256, bits .or .u8 ((b.val : Nat) : Int) 128 = ((b.val % 128 + 128 : Nat) : Int) := by decide +kernel
  have := H ⟨m % 256, by omega⟩
  rw [IntKind.wrap_u8]
  have e : ((m : Int) % 256) = ((m % 256 : Nat) : Int) := by omega
  rw [e, this]
  simp only
  omega

set_option maxHeartbeats 400000 in
theorem appendNum_any (a0 w : World) (v : Value) (k : Nat) (xs : List Nat) (m : Nat) (hm : m ≤ 9223372036854775807) (hown : w.ownsRow a0.heap.size 5 1 v k (bytesV xs)) (hw : From a0 w) (hk : k ≤ 1000000000000) :
    Calls Try.prog 18 #[v, .int .i64 m] w fun e w' => ∃ v', e = .returned v' ∧ w'.ownsRow a0.heap.size 5 1 v' (k + (nums m).length) (bytesV (xs ++ nums m)) ∧ From a0 w' := by
  obtain ⟨i0, hi0, hz0, hz1, hz2⟩ := info_parts u8_info
  have hm9 := nums_len9 hm
  go_enter Try.func18, Try.ntmps18
  go_wp2
  go_loopw [0, 1] (fun v i wr => ∃ m' ys, i = .int .i64 (m' : Nat) ∧ m' ≤ 9223372036854775807 ∧ wr.ownsRow a0.heap.size 5 1 v (k + ys.length) (bytesV (xs ++ ys)) ∧ ys ++ nums m' = nums m ∧ From a0 wr) (fun _ i _ => (intOf i).toNat)
  case atStart => exact ⟨m, [], rfl, hm, by simpa using hown, rfl, hw⟩
  case round =>
    obtain ⟨m', ys, rfl, hm', hown', hys, hw'⟩ := hrel
    have hlen : ys.length + (nums m').length = (nums m).length := by rw [← hys, List.length_append]
    have hp := nums_pos m'
    have hr1 : (k + ys.length + 1) * 1 ≤ 140737488355328 := by omega
    have hr2 : k + ys.length + 1 ≤ maxLen := by unfold maxLen; omega
    by_cases h : m' < 128
    · have hd : decide ((128 : Int) ≤ (m' : Int)) = false := by simp; omega
      have hb : ((m' : Int) % 256) = (m' : Int) := by omega
      rw [nums_small h] at hys
      have HY := Lib.hid hys
      clear hys
      go_wp2_with (at_builtin; refine wpList_push a0 rfl (.tmp 15) (.tmp 18) 23 rfl 5 i0 _ 1 Try.underlying23 hi0 hz0 hz1 hz2 rfl _ _ _ rfl hown' hw' rfl rfl hr1 hr2 ?_; intro v1 w1 hown1 hw1)
      go_ret
      refine ⟨_, rfl, ?_, hw1⟩
      have e1 : k + (nums m).length = k + ys.length + 1 := by rw [← HY.out]; simp; omega
      rw [e1, ← HY.out]
      simpa [bytesV, ← List.append_assoc] using hown1
    · have hd : decide ((128 : Int) ≤ (m' : Int)) = true := by simp; omega
      rw [nums_big h] at hys
      have HY := Lib.hid hys
      have hor := or128 m'
      rw [IntKind.wrap_u8] at hor
      clear hys
      go_wp2_with (at_builtin; refine wpList_push a0 rfl (.tmp 7) (.tmp 11) 23 rfl 5 i0 _ 1 Try.underlying23 hi0 hz0 hz1 hz2 rfl _ _ _ rfl hown' hw' rfl rfl hr1 hr2 ?_; intro v1 w1 hown1 hw1)
      go_roundw
      case rel =>
        refine ⟨m' / 128, ys ++ [m' % 128 + 128], by go_num, by omega, ?_, by rw [← HY.out]; simp, hw1⟩
        have e1 : k + (ys ++ [m' % 128 + 128]).length = k + ys.length + 1 := by simp; omega
        rw [e1]
        simpa [bytesV, ← List.append_assoc] using hown1
      case measure => simp [intOf]; omega

set_option maxHeartbeats 400000 in
theorem num_any (m : Nat) (hm : m ≤ 9223372036854775807) (w : World) :
    Calls Try.prog 14 #[.int .i64 m] w fun e w' => ∃ v', e = .returned (.tuple #[v', .int .i64 0]) ∧ w'.ownsRow w.heap.size 5 1 v' (nums m).length (bytesV (nums m)) ∧ From w w' := by
  have H := appendNum_any w w (.slice none 0 0) 0 [] m hm (World.ownsRow_nil _ _ _ _) From.rfl_ (by omega)
  simp only [Nat.zero_add, List.nil_append] at H
  have hd : decide ((m : Int) < 0) = false := by simp
  go_enter Try.func14, Try.ntmps14
  go_wp2_with (go_at_call 18; refine H.mono ?_; rintro e w1 ⟨v1, rfl, hown, hb⟩)
  go_ret2
  exact ⟨_, rfl, hown, hb⟩
set_option maxHeartbeats 400000 in
theorem num_neg (m : Int) (hm : m < 0) (w : World) :
    Calls Try.prog 14 #[.int .i64 m] w fun e w' => e = .returned (.tuple #[.slice none 0 0, .int .i64 1]) ∧ w = w' := by
  have hd : decide ((m : Int) < 0) = true := by simp; omega
  go_enter Try.func14, Try.ntmps14
  go_wp2
  go_ret2
  exact ⟨rfl, rfl⟩

def gotV : Option (Nat × Nat) → Value
  | some (m, k) => .tuple #[.int .i64 (m : Nat), .int .i64 (k : Nat), .int .i64 0]
  | none => .tuple #[.int .i64 0, .int .i64 0, .int .i64 1]

theorem or_i64 (j n y : Nat) (hj : j ≤ 8) (hn : n < 128 ^ j) (hy : y < 128) : bits .or .i64 (n : Int) (wrap64 (wrap64 (y : Int) * 2 ^ (7 * j))) = ((n + y * 128 ^ j : Nat) : Int) := by
  have e1 : (128 : Nat) ^ j = 2 ^ (7 * j) := by rw [Nat.pow_mul]
  have h8 : 128 ^ j ≤ 128 ^ 8 := Nat.pow_le_pow_right (by decide) hj
  have h9 : y * 128 ^ j ≤ 127 * 128 ^ j := Nat.mul_le_mul_right _ (by omega)
  have e2 : ((y : Int) * 2 ^ (7 * j)) = ((y * 128 ^ j : Nat) : Int) := by rw [e1]; simp
  rw [IntWalk.wrap64_in (y : Int) (by omega), e2, IntWalk.wrap64_in _ (by omega)]
  show IntKind.i64.wrap ((BitVec.ofInt 64 (n : Int) ||| BitVec.ofInt 64 ((y * 128 ^ j : Nat) : Int)).toNat : Int) = _
  have t1 : (BitVec.ofInt 64 (n : Int)).toNat = n := by rw [BitVec.ofInt_natCast, BitVec.toNat_ofNat]; exact Nat.mod_eq_of_lt (by omega)
  have t2 : (BitVec.ofInt 64 ((y * 128 ^ j : Nat) : Int)).toNat = y * 128 ^ j := by rw [BitVec.ofInt_natCast, BitVec.toNat_ofNat]; exact Nat.mod_eq_of_lt (by omega)
  have t3 : n ||| y * 128 ^ j = n + y * 128 ^ j := by
    rw [Nat.or_comm, Nat.mul_comm y, e1, ← Nat.two_pow_add_eq_or_of_lt (by rw [← e1]; exact hn)]
    omega
  rw [BitVec.toNat_or, t1, t2, t3, IntKind.wrap_i64]
  omega
theorem andnot128 {x : Nat} (h : x < 256) : bits .andNot .u8 (x : Int) 128 = ((x % 128 : Nat) : Int) := by
  have H : ∀ b : Fin 256, bits .andNot .u8 ((b.val : Nat) : Int) 128 = ((b.val % 128 : Nat) : Int) := by decide +kernel
  exact H ⟨x, h⟩
theorem and128 {x : Nat} (h : x < 256) : (bits .and .u8 (x : Int) 128 != 0) = decide (128 ≤ x) := by
  have H : ∀ b : Fin 256, (bits .and .u8 ((b.val : Nat) : Int) 128 != 0) = decide (128 ≤ b.val) := by decide +kernel
  exact H ⟨x, h⟩

set_option maxHeartbeats 400000 in
theorem getnum_long (v : Value) (l : List Nat) (hl : ∀ b ∈ l, b < 256) (w : World) (hr : RowC w v (bytesV l)) (h9 : (9 : Int) < (l.length : Int)) :
    Calls Try.prog 12 #[v] w fun e w' => e = .returned (gotV (getNum l)) ∧ w = w' := by
  obtain ⟨A, cap, rfl, hc1, hc2, hrow⟩ := hr.parts
  have hlen : (bytesV l).length = l.length := by simp [bytesV]
  rw [hlen] at hc1 hrow ⊢
  have i4 : (9 : Int) ≤ (cap : Int) := by omega
  go_enter Try.func12, Try.ntmps12
  go_wp2
  go_loopw [2, 13] (fun s i wr => ∃ j n : Nat, s = .int .i64 (n : Nat) ∧ i = .int .i64 (j : Nat) ∧ j ≤ 9 ∧ n < 128 ^ j ∧ getAt j n (l.drop j) = getNum l ∧ w = wr) (fun _ i _ => 9 - (intOf i).toNat)
  case atStart => exact ⟨0, 0, rfl, rfl, by omega, by decide, rfl, rfl⟩
  case round =>
    obtain ⟨j, n, rfl, rfl, hj, hn, hg, rfl⟩ := hrel
    have HG := Lib.hid hg
    clear hg
    by_cases hlt : j < 9
    · have hd : decide ((j : Int) < 9) = true := by simp; omega
      have hj2 : j < l.length := by omega
      obtain ⟨b, o, rfl, hb, hcell⟩ := hrow (by omega)
      have d1 : w.cell? ⟨b, o + j, none⟩ = some (.int .u8 (l[j] : Nat)) := hcell j _ (by simp [bytesV, hj2])
      have i1 : (0 : Int) ≤ (j : Int) := by omega
      have i2 : (j : Int) < 9 := by omega
      have hx : l[j] < 256 := hl _ (List.getElem_mem hj2)
      have hg := HG.out
      rw [List.drop_eq_getElem_cons hj2] at hg
      simp only [getAt] at hg
      rw [if_neg (by omega)] at hg
      clear hcell hrow hr HG
      generalize l[j] = x at *
      have hor := or_i64 j n (x % 128) (by omega) hn (by omega)
      rw [← andnot128 hx] at hor
      have hbit := and128 hx
      have e7 : 127 * 128 ^ j + 128 ^ j = 128 ^ (j + 1) := by rw [Nat.pow_succ]; omega
      have h9' : (x % 128) * 128 ^ j ≤ 127 * 128 ^ j := Nat.mul_le_mul_right _ (by omega)
      by_cases hbig : 128 ≤ x
      · rw [if_pos hbig] at hg
        rw [decide_eq_true hbig] at hbit
        have H := Lib.hid (And.intro hg (And.intro hn (And.intro e7 h9')))
        have HB := Lib.hid (And.intro hbig hx)
        clear hg e7 h9' hbig hx hn
        go_wp2
        go_roundw
        case rel =>
          obtain ⟨hg, hn, e7, h9'⟩ := H.out
          have hxx : x % 128 = x - 128 := by have := HB.out; omega
          refine ⟨j + 1, n + (x % 128) * 128 ^ j, rfl, by go_num, by omega, by omega, ?_, trivial⟩
          rw [hxx]
          exact hg
        case measure => simp [intOf]; omega
      · rw [if_neg hbig] at hg
        rw [decide_eq_false hbig] at hbit
        have hxx : x % 128 = x := by omega
        rw [hxx] at hor
        by_cases hx0 : x = 0
        · subst hx0
          simp only [Int.ofNat_zero, Int.natCast_zero, Nat.zero_mul, Nat.add_zero] at d1 hor hbit
          have H := Lib.hid (And.intro hg (And.intro hn (And.intro e7 h9')))
          clear hg e7 h9' hbig hx hn hxx
          by_cases hj0 : 0 < j
          · go_wp2
            go_ret3
            refine ⟨?_, rfl⟩
            have h := H.out.1
            rw [if_pos ⟨by trivial, hj0⟩] at h
            rw [← h]
            rfl
          · go_wp2
            go_ret3
            refine ⟨?_, rfl⟩
            have h := H.out.1
            rw [if_neg (fun c => hj0 c.2)] at h
            rw [← h]
            simp [gotV]
        · rw [if_neg (by omega)] at hg
          have H := Lib.hid (And.intro hg (And.intro hn (And.intro e7 h9')))
          clear hg e7 h9' hbig hx hn hxx
          go_wp2
          go_ret3
          refine ⟨?_, rfl⟩
          rw [← H.out.1]
          simp [gotV]
    · have hd : decide ((j : Int) < 9) = false := by simp; omega
      go_wp2
      go_ret3
      refine ⟨?_, rfl⟩
      rw [← HG.out]
      have hjc : j = 9 := by omega
      rw [hjc]
      rw [List.drop_eq_getElem_cons (show 9 < l.length by omega)]; simp only [getAt]; rw [if_pos (by omega)]; rfl

set_option maxHeartbeats 400000 in
theorem getnum_short (v : Value) (l : List Nat) (hl : ∀ b ∈ l, b < 256) (w : World) (hr : RowC w v (bytesV l)) (h9 : ¬ (9 : Int) < (l.length : Int)) :
    Calls Try.prog 12 #[v] w fun e w' => e = .returned (gotV (getNum l)) ∧ w = w' := by
  obtain ⟨A, cap, rfl, hc1, hc2, hrow⟩ := hr.parts
  have hlen : (bytesV l).length = l.length := by simp [bytesV]
  rw [hlen] at hc1 hrow ⊢
  have i4 : ((l.length : Int) : Int) ≤ (cap : Int) := by omega
  go_enter Try.func12, Try.ntmps12
  go_wp2
  go_loopw [2, 13] (fun s i wr => ∃ j n : Nat, s = .int .i64 (n : Nat) ∧ i = .int .i64 (j : Nat) ∧ j ≤ l.length ∧ n < 128 ^ j ∧ getAt j n (l.drop j) = getNum l ∧ w = wr) (fun _ i _ => l.length - (intOf i).toNat)
  case atStart => exact ⟨0, 0, rfl, rfl, by omega, by decide, rfl, rfl⟩
  case round =>
    obtain ⟨j, n, rfl, rfl, hj, hn, hg, rfl⟩ := hrel
    have HG := Lib.hid hg
    clear hg
    by_cases hlt : j < l.length
    · have hd : decide ((j : Int) < (l.length : Int)) = true := by simp; omega
      have hj2 : j < l.length := by omega
      obtain ⟨b, o, rfl, hb, hcell⟩ := hrow (by omega)
      have d1 : w.cell? ⟨b, o + j, none⟩ = some (.int .u8 (l[j] : Nat)) := hcell j _ (by simp [bytesV, hj2])
      have i1 : (0 : Int) ≤ (j : Int) := by omega
      have i2 : (j : Int) < (l.length : Int) := by omega
      have hx : l[j] < 256 := hl _ (List.getElem_mem hj2)
      have hg := HG.out
      rw [List.drop_eq_getElem_cons hj2] at hg
      simp only [getAt] at hg
      rw [if_neg (by omega)] at hg
      clear hcell hrow hr HG
      generalize l[j] = x at *
      have hor := or_i64 j n (x % 128) (by omega) hn (by omega)
      rw [← andnot128 hx] at hor
      have hbit := and128 hx
      have e7 : 127 * 128 ^ j + 128 ^ j = 128 ^ (j + 1) := by rw [Nat.pow_succ]; omega
      have h9' : (x % 128) * 128 ^ j ≤ 127 * 128 ^ j := Nat.mul_le_mul_right _ (by omega)
      by_cases hbig : 128 ≤ x
      · rw [if_pos hbig] at hg
        rw [decide_eq_true hbig] at hbit
        have H := Lib.hid (And.intro hg (And.intro hn (And.intro e7 h9')))
        have HB := Lib.hid (And.intro hbig hx)
        clear hg e7 h9' hbig hx hn
        go_wp2
        go_roundw
        case rel =>
          obtain ⟨hg, hn, e7, h9'⟩ := H.out
          have hxx : x % 128 = x - 128 := by have := HB.out; omega
          refine ⟨j + 1, n + (x % 128) * 128 ^ j, rfl, by go_num, by omega, by omega, ?_, trivial⟩
          rw [hxx]
          exact hg
        case measure => simp [intOf]; omega
      · rw [if_neg hbig] at hg
        rw [decide_eq_false hbig] at hbit
        have hxx : x % 128 = x := by omega
        rw [hxx] at hor
        by_cases hx0 : x = 0
        · subst hx0
          simp only [Int.ofNat_zero, Int.natCast_zero, Nat.zero_mul, Nat.add_zero] at d1 hor hbit
          have H := Lib.hid (And.intro hg (And.intro hn (And.intro e7 h9')))
          clear hg e7 h9' hbig hx hn hxx
          by_cases hj0 : 0 < j
          · go_wp2
            go_ret3
            refine ⟨?_, rfl⟩
            have h := H.out.1
            rw [if_pos ⟨by trivial, hj0⟩] at h
            rw [← h]
            rfl
          · go_wp2
            go_ret3
            refine ⟨?_, rfl⟩
            have h := H.out.1
            rw [if_neg (fun c => hj0 c.2)] at h
            rw [← h]
            simp [gotV]
        · rw [if_neg (by omega)] at hg
          have H := Lib.hid (And.intro hg (And.intro hn (And.intro e7 h9')))
          clear hg e7 h9' hbig hx hn hxx
          go_wp2
          go_ret3
          refine ⟨?_, rfl⟩
          rw [← H.out.1]
          simp [gotV]
    · have hd : decide ((j : Int) < (l.length : Int)) = false := by simp; omega
      go_wp2
      go_ret3
      refine ⟨?_, rfl⟩
      rw [← HG.out]
      have hjc : j = l.length := by omega
      rw [hjc]
      rw [List.drop_length]; rfl


theorem getnum_any (v : Value) (l : List Nat) (hl : ∀ b ∈ l, b < 256) (w : World) (hr : RowC w v (bytesV l)) :
    Calls Try.prog 12 #[v] w fun e w' => e = .returned (gotV (getNum l)) ∧ w = w' := by
  by_cases h : (9 : Int) < (l.length : Int)
  · exact getnum_long v l hl w hr h
  · exact getnum_short v l hl w hr h

def refGotV : Option (Nat × Nat) → Value
  | some (m, k) => .tuple #[.int .i64 (m : Nat), .int .i64 (k : Nat)]
  | none => .tuple #[.int .i64 0, .int .i64 0]
theorem nums_fit {j n x : Nat} (hn : n < 128 ^ j) (hx : x < 128) : (nums (n + x * 128 ^ j)).length = j + 1 ↔ ¬ (x = 0 ∧ 0 < j) := by
  have h1 : x * 128 ^ j ≤ 127 * 128 ^ j := Nat.mul_le_mul_right _ (by omega)
  have h2 : 128 ^ (j + 1) = 128 * 128 ^ j := by rw [Nat.pow_succ]; omega
  have hlt : (nums (n + x * 128 ^ j)).length ≤ j + 1 := nums_len j _ (by omega)
  constructor
  · rintro h ⟨rfl, hj⟩
    obtain ⟨i, rfl⟩ : ∃ i, j = i + 1 := ⟨j - 1, by omega⟩
    have := nums_len i (n + 0 * 128 ^ (i + 1)) (by omega)
    omega
  · intro h
    have hp := nums_pos (n + x * 128 ^ j)
    by_cases hj : j = 0
    · subst hj; omega
    · have hx0 : 1 ≤ x := by omega
      have h3 : 1 * 128 ^ j ≤ x * 128 ^ j := Nat.mul_le_mul_right _ hx0
      have := nums_len_ge j (n + x * 128 ^ j) (by omega)
      omega
theorem mod128 {x : Nat} (_ : x < 256) : ((x : Int)).tmod 128 = ((x % 128 : Nat) : Int) := by
  rw [Int.tmod_eq_emod_of_nonneg (by omega)]
  omega

end Go.Proofs.Ythacjhdodjgojaa
