/- Walks of package wire (numSize, Put). -/
import Derived.Test.YthacjhdodjgojaaWireWalks
namespace Go.Proofs.Ythacjhdodjgojaa
open Go.RowKit

set_option maxHeartbeats 400000 in
theorem numsize_any (m : Nat) (hm : m ≤ 9223372036854775807) (w : World) :
    Calls Try.prog 19 #[.int .i64 m] w fun e w' => e = .returned (.int .i64 ((nums m).length : Nat)) ∧ w = w' := by
  have hm9 := nums_len9 hm
  go_enter Try.func19, Try.ntmps19
  go_wp2
  go_loopw [0, 3] (fun i c wr => ∃ m' k, i = .int .i64 (m' : Nat) ∧ c = .int .i64 (k : Nat) ∧ m' ≤ 9223372036854775807 ∧ k + (nums m').length = (nums m).length + 1 ∧ w = wr) (fun i _ _ => (intOf i).toNat)
  case atStart => exact ⟨m, 1, rfl, rfl, hm, by omega, rfl⟩
  case round =>
    obtain ⟨m', k, rfl, rfl, hm', hk, rfl⟩ := hrel
    have hpm := nums_pos m'
    have hk10 : k ≤ 10 := by omega
    by_cases h : m' < 128
    · have hd : decide ((128 : Int) ≤ (m' : Int)) = false := by simp; omega
      rw [nums_small h] at hk
      have HK := Lib.hid hk
      clear hk
      go_wp2
      go_ret
      have := HK.out
      simp only [List.length_cons, List.length_nil] at this
      exact ⟨ret_int (by omega), rfl⟩
    · have hd : decide ((128 : Int) ≤ (m' : Int)) = true := by simp; omega
      rw [nums_big h] at hk
      have hp := nums_pos (m' / 128)
      have HK := Lib.hid hk
      clear hk
      go_wp2
      go_roundw
      case rel => exact ⟨m' / 128, k + 1, by go_num, by go_num, by omega, by have := HK.out; simp only [List.length_cons] at this; omega, trivial⟩
      case measure => simp [intOf]; omega

/-- the bytes of a text; of texts, one behind the other; of a list of texts -/
def encS (s : ByteArray) : List Nat := nums s.size ++ strB s
def encL : List ByteArray → List Nat
  | [] => []
  | s :: r => encS s ++ encL r
def putB (ts : List ByteArray) : List Nat := nums ts.length ++ encL ts
theorem encL_snoc : ∀ (l : List ByteArray) (s : ByteArray), encL (l ++ [s]) = encL l ++ encS s
  | [], s => by simp [encL]
  | x :: r, s => by simp only [List.cons_append, encL, encL_snoc r s, List.append_assoc]
theorem encL_take {ts : List ByteArray} {j : Nat} (h : j < ts.length) : encL (ts.take (j + 1)) = encL (ts.take j) ++ encS ts[j] := by
  rw [List.take_succ_eq_append_getElem h, encL_snoc]
theorem encS_length (s : ByteArray) : (encS s).length = (nums s.size).length + s.size := by rw [encS, List.length_append, strB_length]
theorem encL_append : ∀ (l m : List ByteArray), encL (l ++ m) = encL l ++ encL m
  | [], m => rfl
  | x :: r, m => by simp only [List.cons_append, encL, encL_append r m, List.append_assoc]
theorem encL_le (ts : List ByteArray) (j : Nat) : (encL (ts.take j)).length ≤ (encL ts).length := by
  conv => rhs; rw [← List.take_append_drop j ts, encL_append, List.length_append]
  omega
theorem encL_count : ∀ (ts : List ByteArray), ts.length ≤ (encL ts).length
  | [] => by simp
  | x :: r => by
    have := encL_count r
    have := nums_pos x.size
    simp only [encL, List.length_cons, List.length_append, encS_length]
    omega

/-- the strings that a slice value reads as, by index -/
theorem strs_at {w : World} {v : Value} {ts : List ByteArray} (hr : RowC w v (ts.map .string)) : ∃ A cap, v = .slice A ts.length cap ∧ ts.length ≤ cap ∧ cap ≤ 9223372036854775807 ∧
    (0 < ts.length → ∃ b o, A = some ⟨b, o, none⟩ ∧ b < w.heap.size ∧ ∀ i (h : i < ts.length), w.cell? ⟨b, o + i, none⟩ = some (.string ts[i])) := by
  obtain ⟨A, cap, rfl, h1, h2, hp⟩ := hr.parts
  rw [List.length_map] at h1 hp ⊢
  refine ⟨A, cap, rfl, h1, h2, fun h0 => ?_⟩
  obtain ⟨b, o, hA, hb, hc⟩ := hp h0
  exact ⟨b, o, hA, hb, fun i hi => hc i _ (by simp [hi])⟩

set_option maxRecDepth 100000 in
set_option maxHeartbeats 1000000 in
theorem put_big (v : Value) (ts : List ByteArray) (w : World) (hr : RowC w v (ts.map .string)) (hs : ∀ s ∈ ts, s.size ≤ 140737488351232) (hbig : ¬ (putB ts).length ≤ 1048576) :
    Calls Try.prog 15 #[v] w fun e w' => e = .returned (.tuple #[.slice none 0 0, .int .i64 2]) ∧ w = w' := by
  obtain ⟨A, cap, rfl, hc1, hc2, hrow⟩ := strs_at hr
  have hn9 := nums_len9 (show ts.length ≤ 9223372036854775807 by omega)
  have hnum := fun m (hm : m ≤ 9223372036854775807) w => numsize_any m hm w
  have HN := Lib.hid hnum
  clear hnum
  go_enter Try.func15, Try.ntmps15
  go_wp2_with (go_at_call 19; (with_reducible refine (HN.out ts.length (by omega) _).mono ?_); rintro e w1 ⟨rfl, rfl⟩)
  go_loopw [4, 15] (fun z i wr => ∃ j q : Nat, i = .int .i64 (j : Nat) ∧ z = .int .i64 (q : Nat) ∧ j ≤ ts.length ∧ q = (nums ts.length).length + (encL (ts.take j)).length ∧ q ≤ 1048576 ∧ w = wr) (fun _ i _ => ts.length - (intOf i).toNat)
  case atStart => exact ⟨0, _, rfl, rfl, by omega, by simp [encL], by omega, rfl⟩
  case round =>
    obtain ⟨j, q, rfl, rfl, hj, hq, hq2, rfl⟩ := hrel
    have HQ := Lib.hid hq
    clear hq
    by_cases hlt : j < ts.length
    · have hd : decide ((j : Int) < (ts.length : Int)) = true := by simp; omega
      obtain ⟨b, o, rfl, hb, hc⟩ := hrow (by omega)
      have d1 := hc j hlt
      have hsz := hs _ (List.getElem_mem hlt)
      have i1 : (0 : Int) ≤ (j : Int) := by omega
      have i2 : (j : Int) < (ts.length : Int) := by omega
      have hnext := encL_take hlt
      have hsl := encS_length ts[j]
      have HX := Lib.hid (And.intro hnext hsl)
      clear hnext hsl hc hrow hr
      generalize ts[j] = s at *
      have hz9 := nums_len9 (show s.size ≤ 9223372036854775807 by omega)
      by_cases hov : 1048576 < q + ((nums s.size).length + s.size)
      · have hd2 : decide ((1048576 : Int) < (q : Int) + (((nums s.size).length : Int) + (s.size : Int))) = true := by simp; omega
        have HV := Lib.hid hov
        clear hov
        go_wp2_with (go_at_call 19; (with_reducible refine (HN.out s.size (by omega) _).mono ?_); rintro e w1 ⟨rfl, rfl⟩)
        go_ret2
        exact ⟨rfl, rfl⟩
      · have hd2 : decide ((1048576 : Int) < (q : Int) + (((nums s.size).length : Int) + (s.size : Int))) = false := by simp; omega
        go_wp2_with (go_at_call 19; (with_reducible refine (HN.out s.size (by omega) _).mono ?_); rintro e w1 ⟨rfl, rfl⟩)
        go_roundw
        case rel =>
          refine ⟨j + 1, q + ((nums s.size).length + s.size), by go_num, by go_num, by omega, ?_, by omega, trivial⟩
          have h1 := HQ.out
          have h2 := HX.out.1
          have h3 := HX.out.2
          rw [h2, List.length_append, h3]
          omega
        case measure => simp [intOf]; omega
    · exfalso
      obtain rfl : j = ts.length := by omega
      have := HQ.out
      rw [List.take_length] at this
      apply hbig
      rw [putB, List.length_append]
      omega

set_option maxRecDepth 100000 in
set_option maxHeartbeats 1000000 in
theorem put_any (v : Value) (ts : List ByteArray) (w : World) (hr : RowC w v (ts.map .string)) (hs : ∀ s ∈ ts, s.size ≤ 140737488351232) (hfit : (putB ts).length ≤ 1048576) :
    Calls Try.prog 15 #[v] w fun e w' => ∃ v', e = .returned (.tuple #[v', .int .i64 0]) ∧ w'.ownsRow w.heap.size 5 1 v' (putB ts).length (bytesV (putB ts)) ∧ From w w' := by
  obtain ⟨A, cap, rfl, hc1, hc2, hrow⟩ := strs_at hr
  obtain ⟨i0, hi0, hz0, hz1, hz2⟩ := info_parts u8_info
  have hn9 := nums_len9 (show ts.length ≤ 9223372036854775807 by omega)
  have hnum := fun m (hm : m ≤ 9223372036854775807) w => numsize_any m hm w
  have HN := Lib.hid hnum
  clear hnum
  have hl := hfit
  rw [putB, List.length_append] at hl
  go_enter Try.func15, Try.ntmps15
  go_wp2_with (go_at_call 19; (with_reducible refine (HN.out ts.length (by omega) _).mono ?_); rintro e w1 ⟨rfl, rfl⟩)
  go_loopw [4, 15] (fun z i wr => ∃ j q : Nat, i = .int .i64 (j : Nat) ∧ z = .int .i64 (q : Nat) ∧ j ≤ ts.length ∧ q = (nums ts.length).length + (encL (ts.take j)).length ∧ q ≤ 1048576 ∧ w = wr) (fun _ i _ => ts.length - (intOf i).toNat)
  case atStart => exact ⟨0, _, rfl, rfl, by omega, by simp [encL], by omega, rfl⟩
  case round =>
    obtain ⟨j, q, rfl, rfl, hj, hq, hq2, rfl⟩ := hrel
    by_cases hlt : j < ts.length
    · have hd : decide ((j : Int) < (ts.length : Int)) = true := by simp; omega
      obtain ⟨b, o, rfl, hb, hc⟩ := hrow (by omega)
      have d1 := hc j hlt
      have hsz := hs _ (List.getElem_mem hlt)
      have i1 : (0 : Int) ≤ (j : Int) := by omega
      have i2 : (j : Int) < (ts.length : Int) := by omega
      have hnext := encL_take hlt
      have hsl := encS_length ts[j]
      have hle := encL_le ts (j + 1)
      rw [hnext, List.length_append, hsl] at hle
      have HQ := Lib.hid hq
      have HX := Lib.hid (And.intro hnext hsl)
      have hov : q + ((nums ts[j].size).length + ts[j].size) ≤ 1048576 := by omega
      clear hnext hsl hc hrow hr hq hle
      generalize ts[j] = s at *
      have hz9 := nums_len9 (show s.size ≤ 9223372036854775807 by omega)
      have hd2 : decide ((1048576 : Int) < (q : Int) + (((nums s.size).length : Int) + (s.size : Int))) = false := by simp; omega
      go_wp2_with (go_at_call 19; (with_reducible refine (HN.out s.size (by omega) _).mono ?_); rintro e w1 ⟨rfl, rfl⟩)
      go_roundw
      case rel =>
        refine ⟨j + 1, q + ((nums s.size).length + s.size), by go_num, by go_num, by omega, ?_, by omega, trivial⟩
        have h1 := HQ.out
        have h2 := HX.out.1
        have h3 := HX.out.2
        rw [h2, List.length_append, h3]
        omega
      case measure => simp [intOf]; omega
    · have hd : decide ((j : Int) < (ts.length : Int)) = false := by simp; omega
      have happ := fun (v : Value) (k : Nat) (xs : List Nat) (m : Nat) (wr : World) => appendNum_any w wr v k xs m
      have HA := Lib.hid happ
      have HQ := Lib.hid hq
      clear happ hq
      go_wp2_with (refine wpList_make_own (P := Try.prog) _ rfl _ _ _ rfl w.heap.size 5 i0 _ 1 Try.underlying23 hi0 hz0 hz1 .i64 .i64 _ q rfl rfl rfl (by rw [hz2]; omega) (by unfold maxLen; omega) (Nat.le_refl _) ?_; intro w1 hown1 hg1)
      have hw1 : From w w1 := From.rfl_.grew hg1 (fun k hk => by cases hk)
      refine (HA.out _ 0 [] ts.length w1 (by omega) hown1 hw1 (by omega)).mono ?_
      rintro e w2 ⟨v2, rfl, hown2, hw2⟩
      simp only [Nat.zero_add, List.nil_append] at hown2
      go_wp2
      go_loopw [7, 37] (fun u i wr => ∃ k : Nat, i = .int .i64 (k : Nat) ∧ k ≤ ts.length ∧ wr.ownsRow w.heap.size 5 1 u ((nums ts.length).length + (encL (ts.take k)).length) (bytesV (nums ts.length ++ encL (ts.take k))) ∧ From w wr) (fun _ i _ => ts.length - (intOf i).toNat)
      case atStart => exact ⟨0, rfl, by omega, by simpa [encL] using hown2, hw2⟩
      case round =>
        obtain ⟨k, rfl, hk, hown, hw⟩ := hrel
        by_cases hlt2 : k < ts.length
        · have hd3 : decide ((k : Int) < (ts.length : Int)) = true := by simp; omega
          obtain ⟨b, o, rfl, hb, hc⟩ := hrow (by omega)
          have d1 : ∀ w', From w w' → w'.cell? ⟨b, o + k, none⟩ = some (.string ts[k]) := fun w' h => (h.cells _ _ hb).trans (hc k hlt2)
          have hsz := hs _ (List.getElem_mem hlt2)
          have i1 : (0 : Int) ≤ (k : Int) := by omega
          have i2 : (k : Int) < (ts.length : Int) := by omega
          have hnext := encL_take hlt2
          have hsl := encS_length ts[k]
          have hle := encL_le ts (k + 1)
          rw [hnext, List.length_append, hsl] at hle
          have HX := Lib.hid (And.intro hnext hsl)
          have hov : (nums ts.length).length + (encL (ts.take k)).length + ((nums ts[k].size).length + ts[k].size) ≤ 1048576 := by omega
          clear hnext hsl hc hrow hr hle
          generalize ts[k] = s at *
          have HO := Lib.hid hown
          clear hown
          go_wp2_with (first
            | (go_at_call 18; refine (HA.out _ _ _ s.size _ (by omega) HO.out hw (by omega)).mono ?_; rintro e w3 ⟨v3, rfl, hown3, hw3⟩)
            | (at_builtin; refine wpList_pusht w rfl (.tmp 44) (.tmp 45) 23 9 rfl 5 i0 Try.underlying23 Try.underlying9 hi0 hz0 hz1 hz2 _ _ _ rfl hown3 hw3 s rfl (by omega) ?_; intro v4 w4 hown4 hw4))
          go_roundw
          case rel =>
            refine ⟨k + 1, by go_num, by omega, ?_, hw4⟩
            have h2 := HX.out.1
            rw [h2, encS, List.length_append, List.length_append, strB_length]
            have e1 : (nums ts.length).length + ((encL (ts.take k)).length + ((nums s.size).length + s.size)) = (nums ts.length).length + (encL (ts.take k)).length + (nums s.size).length + s.size := by omega
            rw [e1]
            simpa [List.append_assoc] using hown4
          case measure => simp [intOf]; omega
        · have hd3 : decide ((k : Int) < (ts.length : Int)) = false := by simp; omega
          have hkl : k = ts.length := by omega
          have HK := Lib.hid hkl
          clear hkl
          go_wp2
          go_ret2
          rw [HK.out, List.take_length] at hown
          refine ⟨_, rfl, ?_, hw⟩
          rw [putB, List.length_append]
          exact hown
end Go.Proofs.Ythacjhdodjgojaa
