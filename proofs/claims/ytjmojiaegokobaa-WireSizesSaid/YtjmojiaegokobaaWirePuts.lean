/- Texts' bytes are the reference's, and the texts that any bytes are: the statement WirePuts, for every argument. -/
import Derived.Test.YtjmojiaegokobaaWireGet
import Derived.Test.YtjmojiaegokobaaWireNums
namespace Go.Proofs.Ytjmojiaegokobaa
open Go.RowKit

theorem toList_loop (bs : ByteArray) : ∀ (d i : Nat) (r : List UInt8), bs.size - i = d → ByteArray.toList.loop bs i r = r.reverse ++ bs.data.toList.drop i
  | 0, i, r, h => by
    rw [ByteArray.toList.loop, if_neg (by omega), List.drop_eq_nil_of_le (by rw [Array.length_toList]; show bs.size ≤ i; omega), List.append_nil]
  | d + 1, i, r, h => by
    have hi : i < bs.data.toList.length := by rw [Array.length_toList]; show i < bs.size; omega
    rw [ByteArray.toList.loop, if_pos (by omega), toList_loop bs d (i + 1) _ (by omega), List.drop_eq_getElem_cons hi, List.reverse_cons, List.append_assoc]
    congr 1
    have hi2 : i < bs.data.size := by simpa using hi
    have e : bs.get! i = bs.data.toList[i] := by
      show bs.data[i]! = _
      rw [getElem!_pos bs.data i hi2]
      simp
    rw [e]
    rfl
theorem toList_inj {a b : ByteArray} (h : a.toList = b.toList) : a = b := by
  have : ∀ s : ByteArray, s.toList = s.data.toList := fun s => by
    unfold ByteArray.toList
    rw [toList_loop s _ 0 [] rfl]
    simp
  rw [this, this] at h
  exact ByteArray.ext (Array.toList_inj.1 h)
/-- lecternref0.EqStrings -/
theorem eqStrings_step {xs ys : List ByteArray} {j : Nat} (h1 : j < xs.length) (h2 : j < ys.length) (h : xs.take j = ys.take j) (e : xs[j] = ys[j]) : xs.take (j + 1) = ys.take (j + 1) := by
  rw [List.take_succ_eq_append_getElem h1, List.take_succ_eq_append_getElem h2, h, e]
set_option maxRecDepth 100000 in
set_option maxHeartbeats 400000 in
theorem eqStrings_any (v u : Value) (xs ys : List ByteArray) (w : World) (hr : Row w v (xs.map fun (x : ByteArray) => .string x)) (hs : Row w u (ys.map fun (x : ByteArray) => .string x)) (hlen : xs.length ≤ 1000000000000) :
    Calls Try.prog 21 #[v, u] w fun e w' => e = .returned (.bool (decide (xs = ys))) ∧ From w w' := by
  obtain ⟨A, cap, rfl, hrow⟩ := row_vals hr
  obtain ⟨B, cap2, rfl, hrow2⟩ := row_vals hs
  by_cases hl : xs.length = ys.length
  · have t0 : ((xs.length : Int) != (ys.length : Int)) = false := by simp; omega
    have hl2 : ys.length ≤ xs.length := by omega
    have hl3 : xs.length ≤ ys.length := by omega
    have HL := Lib.hid hl
    clear hl
    go_enter Try.func21, Try.ntmps21
    go_wp2
    go_loopw [5] (fun i wr => ∃ j : Nat, j ≤ xs.length ∧ i = .int .i64 j ∧ xs.take j = ys.take j ∧ From w wr) (fun i _ => xs.length - (intOf i).toNat)
    case atStart => exact ⟨0, by omega, rfl, rfl, From.rfl_⟩
    case round =>
      obtain ⟨j, hj, rfl, heq, hw⟩ := hrel
      have HE := Lib.hid heq
      clear heq
      by_cases hlt : j < xs.length
      · obtain ⟨b, o, rfl, hb, hc⟩ := hrow (by omega)
        obtain ⟨b2, o2, rfl, hb2, hc2⟩ := hrow2 (by omega)
        have hlt2 : j < ys.length := by omega
        have d1 : ∀ w', From w w' → w'.cell? ⟨b, o + j, none⟩ = some (.string xs[j]) := fun w' h => (h.cells b (o + j) hb).trans (hc j hlt)
        have d2 : ∀ w', From w w' → w'.cell? ⟨b2, o2 + j, none⟩ = some (.string ys[j]) := fun w' h => (h.cells b2 (o2 + j) hb2).trans (hc2 j hlt2)
        have hw2 := hw.d1
        have i1 : (0 : Int) ≤ (j : Int) := by omega
        have i2 : (j : Int) < (xs.length : Int) := by omega
        have i3 : (j : Int) < (ys.length : Int) := by omega
        have hstep := eqStrings_step hlt hlt2 HE.out
        have HT := Lib.hid hstep
        have hno : xs[j] ≠ ys[j] → xs ≠ ys := fun h e => h (by subst e; rfl)
        have HN := Lib.hid hno
        clear hc hc2 hrow hrow2 hr hs hstep hno
        generalize xs[j] = x1 at *
        generalize ys[j] = y1 at *
        by_cases hx : x1 = y1
        · have t1 : (!x1.toList == y1.toList) = false := by (rw [hx]; simp)
          have HX := Lib.hid hx
          clear hx
          go_wp2_with fail
          go_quiet (fail)
          go_wp2
          go_roundw
          case rel => exact ⟨j + 1, by omega, by go_num, HT.out HX.out, hw.dn _⟩
          case measure => simp [intOf]; omega
        · have t1 : (!x1.toList == y1.toList) = true := by (simpa using fun e => hx (toList_inj e))
          have HX := Lib.hid hx
          clear hx
          go_wp2_with fail
          go_quiet (fail)
          go_wp2
          go_ret
          exact ⟨by rw [decide_eq_false (HN.out HX.out)]; rfl, hw.dn _⟩
      · have hfin : xs = ys := by
          have := HE.out
          rwa [List.take_of_length_le (by omega), List.take_of_length_le (by omega)] at this
        have HF := Lib.hid hfin
        clear hfin
        go_wp2
        go_ret
        exact ⟨by rw [decide_eq_true HF.out]; rfl, hw⟩
  · have t0 : ((xs.length : Int) != (ys.length : Int)) = true := by simp; omega
    have hne : xs ≠ ys := fun e => hl (by rw [e])
    have HN := Lib.hid hne
    clear hl hne
    go_enter Try.func21, Try.ntmps21
    go_wp2
    go_ret
    exact ⟨by rw [decide_eq_false HN.out]; rfl, From.rfl_⟩


theorem own_nil {w : World} {base : Nat} {e : TypeId} {size : Nat} {v : Value} {n : Nat} {xs : List Value} (h : w.ownsRow base e size v n xs) : ∀ m c, v = .slice none m c → m = 0 ∧ c = 0 := by
  intro m c hv
  rcases h.2 with ⟨rfl, _⟩ | ⟨g, cap, cur, rfl, _⟩
  · simp only [Value.slice.injEq] at hv
    omega
  · simp at hv

theorem row_conv (w : World) (s : ByteArray) (cap c2 : Nat) (t : TypeId) (fr : Nat × Nat) : Row (w.drew.alloc (.cells (bytesRow s cap) t fr)) (.slice (some ⟨w.heap.size, 0, none⟩) s.size c2) (bytesV (strB s)) := by
  have hl : (bytesV (strB s)).length = s.size := by rw [bytesV_length, strB_length]
  refine ⟨some ⟨w.heap.size, 0, none⟩, c2, by rw [hl], fun _ => ⟨w.heap.size, 0, rfl, ?_, fun i u hu => ?_⟩⟩
  · show w.drew.heap.size < _
    simp
  · have hi : i < s.data.size := by
      have := (List.getElem?_eq_some_iff.1 hu).1
      rw [hl] at this
      exact this
    have := World.cell?_alloc_mark w.drew (bytesRow s cap) t fr i
    rw [Nat.zero_add]
    refine this.trans ?_
    rw [bytesRow_at s cap i hi, ← hu]
    have hi2 : s.data[i]? = some s.data[i] := Array.getElem?_eq_getElem hi
    simp [bytesV, strB, hi2]

set_option maxRecDepth 100000 in
set_option maxHeartbeats 1000000 in
theorem refput_any (v : Value) (ts : List ByteArray) (w : World) (hr : RowC w v (ts.map .string)) (hs : ∀ s ∈ ts, s.size ≤ 140737488351232) (hfit : (putB ts).length ≤ 1048576) :
    Calls Try.prog 17 #[v] w fun e w' => ∃ v', e = .returned (.tuple #[v', .bool true]) ∧ w'.ownsRow w.heap.size 5 1 v' (putB ts).length (bytesV (putB ts)) ∧ From w w' := by
  obtain ⟨A, cap, rfl, hc1, hc2, hrow⟩ := strs_at hr
  obtain ⟨i0, hi0, hz0, hz1, hz2⟩ := info_parts u8_info
  have hn9 := nums_len9 (show ts.length ≤ 9223372036854775807 by omega)
  have hnum := fun m (hm : m ≤ 9223372036854775807) w => refnum_any m hm w
  have HN := Lib.hid hnum
  clear hnum
  have hl := hfit
  rw [putB, List.length_append] at hl
  go_enter Try.func17, Try.ntmps17
  go_wp2_with (go_at_call 13; (with_reducible refine (HN.out ts.length (by omega) _).mono ?_); rintro e w1 ⟨v1, rfl, hown1, hw1⟩)
  go_loopw [4, 5] (fun u i wr => ∃ k : Nat, i = .int .i64 (k : Nat) ∧ k ≤ ts.length ∧ wr.ownsRow w.heap.size 5 1 u ((nums ts.length).length + (encL (ts.take k)).length) (bytesV (nums ts.length ++ encL (ts.take k))) ∧ From w wr) (fun _ i _ => ts.length - (intOf i).toNat)
  case atStart => exact ⟨0, rfl, by omega, by simpa [encL] using hown1, hw1⟩
  case round =>
    obtain ⟨k, rfl, hk, hown, hw⟩ := hrel
    by_cases hlt2 : k < ts.length
    · have hd3 : decide ((k : Int) < (ts.length : Int)) = true := by simp; omega
      obtain ⟨b, o, rfl, hb, hc⟩ := hrow (by omega)
      have d1 : ∀ w', From w w' → w'.cell? ⟨b, o + k, none⟩ = some (.string ts[k]) := fun w' h => (h.cells _ _ hb).trans (hc k hlt2)
      have hsz := hs _ (List.getElem_mem hlt2)
      have i1 : (0 : Int) ≤ (k : Int) := by omega
      have i2 : (k : Int) < (ts.length : Int) := by omega
      have hnext := encL_take hlt2
      have hsl := encS_length ts[k]
      have hle := encL_le ts (k + 1)
      rw [hnext, List.length_append, hsl] at hle
      have HX := Lib.hid (And.intro hnext hsl)
      have hov : (nums ts.length).length + (encL (ts.take k)).length + ((nums ts[k].size).length + ts[k].size) ≤ 1048576 := by omega
      clear hnext hsl hc hrow hr hle
      generalize ts[k] = s at *
      have hconv := fun w' => run_bytes_of_string (P := Try.prog) w' 9 25 5 s Try.underlying9 Try.underlying25 Try.underlying5
      have hnb : decide ((1048576 : Int) < (((nums ts.length).length + (encL (ts.take k)).length + (nums s.size).length + s.size : Nat) : Int)) = false := by simp; omega
      obtain ⟨S, hS⟩ : ∃ S, S = (nums ts.length).length + (encL (ts.take k)).length + (nums s.size).length + s.size := ⟨_, rfl⟩
      rw [← hS] at hnb
      have HS := Lib.hid hS
      clear hS
      have HO := Lib.hid hown
      clear hown
      go_wp2_with (first
        | (go_at_call 13; (with_reducible refine (HN.out s.size (by omega) _).mono ?_); rintro e w3 ⟨v3, rfl, hown3, hb3⟩; have hw3 := From.next (a := w) hw hb3; have HO3 := Lib.hid (HO.out.kept_from hb3))
        | (at_builtin; refine wpList_pushr w rfl (.tmp 15) (.tmp 21) 25 rfl 5 i0 _ 1 Try.underlying25 hi0 hz0 hz1 hz2 rfl _ _ _ rfl HO3.out hw3 _ _ rfl (Row.of_own hown3) (bytesV_one _) (own_nil hown3) (by rw [bytesV_length]; omega) (by rw [bytesV_length]; unfold maxLen; omega) ?_; intro v4 w4 hown4 hw4)
        | (at_builtin; refine wpList_pushr w rfl (.tmp 23) (.tmp 28) 25 rfl 5 i0 _ 1 Try.underlying25 hi0 hz0 hz1 hz2 rfl _ _ _ rfl ((World.ownsRow.drew hown4).alloc _) (hw4.d1.new _) _ _ rfl (row_conv _ s _ _ _ _) (bytesV_one _) (by rintro m c ⟨⟩) (by rw [bytesV_length, bytesV_length, strB_length]; omega) (by rw [bytesV_length, bytesV_length, strB_length]; unfold maxLen; omega) ?_; intro v5 w5 hown5 hw5; rw [bytesV_length, bytesV_length, strB_length, ← HS.out, List.append_assoc] at hown5; obtain ⟨A5, c5, rfl⟩ := own_form hown5; have HO5 := Lib.hid hown5; clear hown5))
      go_roundw
      case rel =>
        refine ⟨k + 1, by go_num, by omega, ?_, hw5⟩
        have h5 := HO5.out
        rw [HS.out, ← bytesV_append, ← bytesV_append] at h5
        rw [HX.out.1, encS, List.length_append, List.length_append, strB_length, ← List.append_assoc, ← Nat.add_assoc, ← Nat.add_assoc, HS.out]
        exact h5
      case measure => simp [intOf]; omega
    · have hd3 : decide ((k : Int) < (ts.length : Int)) = false := by simp; omega
      have hkl : k = ts.length := by omega
      have HK := Lib.hid hkl
      rw [hkl, List.take_length] at hown
      have hlen5 : (nums ts.length).length + (encL ts).length = (putB ts).length := by rw [putB, List.length_append]
      rw [hlen5] at hown
      have hd7 : decide (((putB ts).length : Int) ≤ 1048576) = true := decide_eq_true (by omega)
      obtain ⟨A5, c5, rfl⟩ := own_form hown
      have HO := Lib.hid hown
      clear hkl hown hlen5
      go_wp2
      go_ret2
      exact ⟨_, rfl, HO.out, hw⟩
end Go.Proofs.Ytjmojiaegokobaa
