/- Walks of the statements' helpers over package wire. -/
import Derived.Test.YtjmojiaegokobaaArg
import Derived.Test.YtjmojiaegokobaaWirePut
namespace Go.Proofs.Ytjmojiaegokobaa
open Go.RowKit
/-- lecternref0.CopyBytes -/
theorem copyBytes_info : (Try.prog.info? 5).map (fun i => (i.zero, i.size, i.bytes)) = some (some (.int .u8 0), 1, 1) := by kernel_rfl

set_option maxRecDepth 100000 in
set_option maxHeartbeats 400000 in
theorem copyBytes_any (v : Value) (xs : List Nat) (w : World) (hr : Row w v (xs.map fun (x : Nat) => .int .u8 x)) (hlen : xs.length ≤ 1000000000000) :
    Calls Try.prog 11 #[v] w fun e w' => ∃ v', e = .returned v' ∧ w'.ownsRow w.heap.size 5 1 v' xs.length (xs.map fun (x : Nat) => .int .u8 x) ∧ From w w' := by
  obtain ⟨i0, hi0, hz0, hz1, hz2⟩ := info_parts copyBytes_info
  obtain ⟨A, cap, rfl, hrow⟩ := row_vals hr
  go_enter Try.func11, Try.ntmps11
  go_wp2
  go_loopw [3, 4] (fun v i wr => ∃ j : Nat, j ≤ xs.length ∧ i = .int .i64 j ∧ wr.ownsRow w.heap.size 5 1 v j ((xs.take j).map fun (x : Nat) => .int .u8 x) ∧ From w wr) (fun _ i _ => xs.length - (intOf i).toNat)
  case atStart => exact ⟨0, by omega, rfl, World.ownsRow_nil _ _ _ _, From.rfl_⟩
  case round =>
    obtain ⟨j, hj, rfl, hown, hw⟩ := hrel
    by_cases hlt : j < xs.length
    · obtain ⟨b, o, rfl, hb, hc⟩ := hrow (by omega)
      have d1 := (hw.cells b (o + j) hb).trans (hc j hlt)
      have hr1 : (j + 1) * 1 ≤ 140737488355328 := by omega
      have hr2 : j + 1 ≤ maxLen := by unfold maxLen; omega
      have i1 : (0 : Int) ≤ (j : Int) := by omega
      have i2 : (j : Int) < (xs.length : Int) := by omega
      have hsn : xs.take (j + 1) = xs.take j ++ [xs[j]] := List.take_succ_eq_append_getElem hlt
      have HS := Lib.hid hsn
      clear hc hrow hr hsn
      go_wp2_with (at_builtin; refine wpList_push w rfl (.tmp 11) (.tmp 16) 25 rfl 5 i0 _ 1 Try.underlying25 hi0 hz0 hz1 hz2 rfl _ _ _ rfl hown hw rfl rfl hr1 hr2 ?_; intro v1 w1 hown1 hw1)
      go_roundw
      case rel => exact ⟨j + 1, by omega, by go_num, by rw [HS.out, List.map_append]; exact hown1, hw1⟩
      case measure => simp [intOf]; omega
    · obtain hjl : j = xs.length := by omega
      have HJ := Lib.hid hjl
      clear hjl
      go_wp2
      go_ret
      exact ⟨_, rfl, by rw [HJ.out, List.take_length] at hown; exact hown, hw⟩

/-- lecternref0.EqBytes -/
theorem eqBytes_step {xs ys : List Nat} {j : Nat} (h1 : j < xs.length) (h2 : j < ys.length) (h : xs.take j = ys.take j) (e : xs[j] = ys[j]) : xs.take (j + 1) = ys.take (j + 1) := by
  rw [List.take_succ_eq_append_getElem h1, List.take_succ_eq_append_getElem h2, h, e]
set_option maxRecDepth 100000 in
set_option maxHeartbeats 400000 in
theorem eqBytes_any (v u : Value) (xs ys : List Nat) (w : World) (hr : Row w v (xs.map fun (x : Nat) => .int .u8 x)) (hs : Row w u (ys.map fun (x : Nat) => .int .u8 x)) (hlen : xs.length ≤ 1000000000000) :
    Calls Try.prog 12 #[v, u] w fun e w' => e = .returned (.bool (decide (xs = ys))) ∧ From w w' := by
  obtain ⟨A, cap, rfl, hrow⟩ := row_vals hr
  obtain ⟨B, cap2, rfl, hrow2⟩ := row_vals hs
  by_cases hl : xs.length = ys.length
  · have t0 : ((xs.length : Int) != (ys.length : Int)) = false := by simp; omega
    have hl2 : ys.length ≤ xs.length := by omega
    have hl3 : xs.length ≤ ys.length := by omega
    have HL := Lib.hid hl
    clear hl
    go_enter Try.func12, Try.ntmps12
    go_wp2
    go_loopw [5] (fun i wr => ∃ j : Nat, j ≤ xs.length ∧ i = .int .i64 j ∧ xs.take j = ys.take j ∧ From w wr) (fun i _ => xs.length - (intOf i).toNat)
    case atStart => exact ⟨0, by omega, rfl, rfl, From.rfl_⟩
    case round =>
      obtain ⟨j, hj, rfl, heq, hw⟩ := hrel
      have HE := Lib.hid heq
      clear heq
      by_cases hlt : j < xs.length
      · obtain ⟨b, o, rfl, hb, hc⟩ := hrow (by omega)
        obtain ⟨b2, o2, rfl, hb2, hc2⟩ := hrow2 (by omega)
        have hlt2 : j < ys.length := by omega
        have d1 : ∀ w', From w w' → w'.cell? ⟨b, o + j, none⟩ = some (.int .u8 xs[j]) := fun w' h => (h.cells b (o + j) hb).trans (hc j hlt)
        have d2 : ∀ w', From w w' → w'.cell? ⟨b2, o2 + j, none⟩ = some (.int .u8 ys[j]) := fun w' h => (h.cells b2 (o2 + j) hb2).trans (hc2 j hlt2)
        have hw2 := hw.d1
        have i1 : (0 : Int) ≤ (j : Int) := by omega
        have i2 : (j : Int) < (xs.length : Int) := by omega
        have i3 : (j : Int) < (ys.length : Int) := by omega
        have hstep := eqBytes_step hlt hlt2 HE.out
        have HT := Lib.hid hstep
        have hno : xs[j] ≠ ys[j] → xs ≠ ys := fun h e => h (by subst e; rfl)
        have HN := Lib.hid hno
        clear hc hc2 hrow hrow2 hr hs hstep hno
        generalize xs[j] = x1 at *
        generalize ys[j] = y1 at *
        by_cases hx : x1 = y1
        · have t1 : (x1 != y1) = false := by simpa using hx
          have HX := Lib.hid hx
          clear hx
          go_wp2_with fail
          go_quiet (fail)
          go_wp2
          go_roundw
          case rel => exact ⟨j + 1, by omega, by go_num, HT.out HX.out, hw.dn _⟩
          case measure => simp [intOf]; omega
        · have t1 : (x1 != y1) = true := by simpa using hx
          have HX := Lib.hid hx
          clear hx
          go_wp2_with fail
          go_quiet (fail)
          go_wp2
          go_ret
          exact ⟨by rw [decide_eq_false (HN.out HX.out)]; rfl, hw.dn _⟩
      · have hfin : xs = ys := by
          have := HE.out
          rwa [List.take_of_length_le (by omega), List.take_of_length_le (by omega)] at this
        have HF := Lib.hid hfin
        clear hfin
        go_wp2
        go_ret
        exact ⟨by rw [decide_eq_true HF.out]; rfl, hw⟩
  · have t0 : ((xs.length : Int) != (ys.length : Int)) = true := by simp; omega
    have hne : xs ≠ ys := fun e => hl (by rw [e])
    have HN := Lib.hid hne
    clear hl hne
    go_enter Try.func12, Try.ntmps12
    go_wp2
    go_ret
    exact ⟨by rw [decide_eq_false HN.out]; rfl, From.rfl_⟩


theorem errnum_any (e : Int) (w : World) : Calls Try.prog 9 #[.int .i64 e] w fun r w' => r = .returned (.int .i64 e) ∧ w = w' := by
  go_enter Try.func9, Try.ntmps9
  go_wp2
  go_ret
  exact ⟨rfl, rfl⟩

def textW : List ByteArray → Nat
  | [] => 0
  | d :: r => d.size + textW r
theorem textW_snoc : ∀ (l : List ByteArray) (d : ByteArray), textW (l ++ [d]) = textW l + d.size
  | [], d => by simp [textW]
  | x :: r, d => by simp only [List.cons_append, textW, textW_snoc r d]; omega
def TwRel (w : World) (xs : List ByteArray) (n i : Value) (wr : World) : Prop :=
  ∃ j m : Nat, j ≤ xs.length ∧ i = .int .i64 j ∧ n = .int .i64 m ∧ m = xs.length + textW (xs.take j) ∧ m ≤ 281476000000000 ∧ From w wr

set_option maxRecDepth 100000 in
set_option maxHeartbeats 1000000 in
theorem textweight_any (v : Value) (xs : List ByteArray) (w : World) (hr : RowC w v (xs.map .string)) (hs : ∀ s ∈ xs, s.size ≤ 140737488351232) (hlen : xs.length * 16 ≤ 140737488351232) :
    Calls Try.prog 22 #[v] w fun e w' => ∃ r : Nat, e = .returned (.int .i64 r) ∧ (r < 1048576 → r = xs.length + textW xs) ∧ r ≤ 281476000000000 ∧ From w w' := by
  obtain ⟨A, cap, rfl, hc1, hc2, hrow⟩ := strs_at hr
  go_enter Try.func22, Try.ntmps22
  go_wp2
  go_loopw [3, 4] (TwRel w xs) (fun _ i _ => xs.length - (intOf i).toNat)
  case atStart => exact ⟨0, xs.length, by omega, rfl, rfl, by simp [textW], by omega, From.rfl_⟩
  case round =>
    obtain ⟨j, m, hj, rfl, rfl, hm, hmb, hw⟩ := hrel
    have HM := Lib.hid hm
    clear hm
    by_cases hlt : j < xs.length
    · by_cases hm20 : m < 1048576
      · obtain ⟨b, o, rfl, hb, hc⟩ := hrow (by omega)
        have d1 : ∀ w', From w w' → w'.cell? ⟨b, o + j, none⟩ = some (.string xs[j]) := fun w' h => (h.cells b _ hb).trans (hc j hlt)
        have s1 := hs _ (List.getElem_mem hlt)
        have hd : decide ((m : Int) < 1048576) = true := by simp; omega
        have hm3 : (m : Int) ≤ 1048576 := by omega
        have HM20 := Lib.hid hm20
        have HMB := Lib.hid hmb
        clear hm20 hmb
        have i1 : (0 : Int) ≤ (j : Int) := by omega
        have i2 : (j : Int) < (xs.length : Int) := by omega
        have hsn : xs.take (j + 1) = xs.take j ++ [xs[j]] := List.take_succ_eq_append_getElem hlt
        have hsum : textW (xs.take (j + 1)) = textW (xs.take j) + xs[j].size := by rw [hsn, textW_snoc]
        have HS := Lib.hid hsum
        clear hc hrow hr hsn hsum
        generalize xs[j] = a1 at *
        go_wp2
        go_roundw
        case rel => exact ⟨j + 1, m + a1.size, by omega, by go_num, by go_num, by have := HM.out; have := HS.out; omega, by omega, hw⟩
        case measure => simp [intOf]; omega
      · have hd : decide ((m : Int) < 1048576) = false := by simp; omega
        have HM20 := Lib.hid hm20
        have HMB := Lib.hid hmb
        clear hm20 hmb
        go_wp2
        go_ret
        exact ⟨m, rfl, fun hh => absurd hh HM20.out, HMB.out, hw⟩
    · have hjl : j = xs.length := by omega
      have HJ := Lib.hid hjl
      clear hjl
      go_wp2
      go_ret
      exact ⟨m, rfl, fun _ => by have := HM.out; rw [HJ.out, List.take_length] at this; exact this, hmb, hw⟩

set_option maxHeartbeats 1000000 in
theorem heavy_any (q : Value) (L V : Value) (ts : List ByteArray) (l : List Nat) (w : World) (hr : RowC w L (ts.map .string)) (hs : ∀ s ∈ ts, s.size ≤ 140737488351232) (hlen : ts.length * 16 ≤ 140737488351232) (hb : RowC w V (bytesV l)) :
    Calls Try.prog 7 #[.agg #[q, L, V]] w fun e w' => ∃ h : Bool, e = .returned (.bool h) ∧ (h = false → ts.length + textW ts ≤ 8000 ∧ l.length ≤ 8000) ∧ From w w' := by
  obtain ⟨B, c2, rfl, hc1, hc2, _⟩ := hb.parts
  rw [bytesV_length] at hc1 ⊢
  have htw := fun w' (h : From w w') => textweight_any L ts w' (hr.from_ h) hs hlen
  have HT := Lib.hid htw
  clear htw
  go_enter Try.func7, Try.ntmps7
  go_wp2_with fail
  refine (HT.out _ (From.rfl_.new _)).mono ?_
  rintro e w1 ⟨r, rfl, hr1, hr2, hw1⟩
  have hbk := ((Blk.new w 27 #[q, L, .slice B l.length c2]).from_ hw1).cell 2
  simp at hbk
  have hw2 := (From.rfl_.new (Obj.cells #[q, L, .slice B l.length c2] 27)).next hw1
  have HR := Lib.hid hr1
  clear hr1 hw1
  rcases Nat.lt_or_ge 8000 r with hh | hh
  · have hd : decide ((8000 : Int) < (r : Int)) = true := by simp; omega
    go_wp2
    go_ret
    exact ⟨true, rfl, by simp, hw2⟩
  · have hd : decide ((8000 : Int) < (r : Int)) = false := by simp; omega
    have hrr := HR.out (by omega)
    have HRR := Lib.hid hrr
    clear hrr
    rcases Nat.lt_or_ge 8000 l.length with h8 | h8
    · have hd2 : decide ((8000 : Int) < (l.length : Int)) = true := by simp; omega
      go_wp2
      go_ret
      exact ⟨true, rfl, by simp, hw2⟩
    · have hd2 : decide ((8000 : Int) < (l.length : Int)) = false := by simp; omega
      go_wp2
      go_ret
      exact ⟨false, rfl, fun _ => ⟨by have := HRR.out; omega, h8⟩, hw2⟩
end Go.Proofs.Ytjmojiaegokobaa
