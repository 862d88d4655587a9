/- A number has as many bytes as its bits need; no texts are one byte; texts have their bytes and a few more: the statement WireSizes, for every argument. -/
import Derived.Test.YtjmojiaegokobaaWirePuts3
namespace Go.Proofs.Ytjmojiaegokobaa
open Go.ChangeShapes Go.WideShapes Go.ChangeAt Go.RowKit

theorem nums_pow : ∀ (i : Nat), (nums (2 ^ i)).length = i / 7 + 1
  | i => by
    by_cases h : i < 7
    · have h1 : 2 ^ i < 2 ^ 7 := Nat.pow_lt_pow_right (by decide) h
      rw [nums_small (by omega)]
      simp; omega
    · obtain ⟨j, rfl⟩ : ∃ j, i = j + 7 := ⟨i - 7, by omega⟩
      have h1 : 2 ^ (j + 7) = 2 ^ j * 128 := by rw [Nat.pow_add]
      have h2 : 0 < 2 ^ j := Nat.pow_pos (by decide)
      rw [nums_big (by omega), h1, Nat.mul_div_cancel _ (by decide), List.length_cons, nums_pow j]
      omega
theorem nums_pow1 : ∀ (i : Nat), (nums (2 ^ i - 1)).length = max 1 ((i + 6) / 7)
  | i => by
    by_cases h : i < 8
    · have h1 : 2 ^ i < 2 ^ 8 := Nat.pow_lt_pow_right (by decide) h
      have h2 : 2 ^ i ≤ 2 ^ 7 := Nat.pow_le_pow_right (by decide) (by omega)
      have h4 : 2 ^ i - 1 < 128 := by
        generalize 2 ^ i = x at *
        omega
      rw [nums_small h4]
      simp; omega
    · obtain ⟨j, rfl⟩ : ∃ j, i = j + 7 := ⟨i - 7, by omega⟩
      have h1 : 2 ^ (j + 7) = 2 ^ j * 128 := by rw [Nat.pow_add]
      have h2 : 0 < 2 ^ j := Nat.pow_pos (by decide)
      have h3 : 2 ^ 1 ≤ 2 ^ j := Nat.pow_le_pow_right (by decide) (by omega)
      rw [nums_big (by omega), h1, show (2 ^ j * 128 - 1) / 128 = 2 ^ j - 1 by omega, List.length_cons, nums_pow1 j]
      omega
theorem shl1 (i : Nat) (h : i < 63) : wrap64 ((2 : Int) ^ i) = ((2 ^ i : Nat) : Int) := by
  have h1 : 2 ^ i ≤ 2 ^ 62 := Nat.pow_le_pow_right (by decide) (by omega)
  have h2 : (2 : Int) ^ i = ((2 ^ i : Nat) : Int) := by norm_cast
  rw [h2]
  unfold wrap64
  generalize 2 ^ i = x at *
  omega
theorem none_bytes : putB [] = [0] := by simp [putB, encL, nums_small]
theorem bad_ten : getNum [255, 255, 255, 255, 255, 255, 255, 255, 255, 1] = none := by decide
theorem bad_two : getNum [128, 0] = none := by decide
theorem num_lo (ts : List ByteArray) : textW ts < (putB ts).length := by
  have h : ∀ ts : List ByteArray, textW ts ≤ (encL ts).length := by
    intro ts
    induction ts with
    | nil => simp [textW]
    | cons x r ih => simp only [textW, encL, List.length_append, encS_length]; omega
  have := nums_pos ts.length
  have := h ts
  rw [putB, List.length_append]
  omega
theorem textW_append : ∀ (l m : List ByteArray), textW (l ++ m) = textW l + textW m
  | [], m => by simp [textW]
  | x :: r, m => by simp only [List.cons_append, textW, textW_append r m]; omega
theorem nums_two {m : Nat} (h : m ≤ 8000) : (nums m).length ≤ 2 := nums_len 1 m (by omega)
theorem num_hi {ts : List ByteArray} (h : ts.length + textW ts ≤ 8000) : (putB ts).length ≤ textW ts + 2 + 2 * ts.length := by
  have h1 : ∀ ts : List ByteArray, textW ts ≤ 8000 → (encL ts).length ≤ textW ts + 2 * ts.length := by
    intro ts
    induction ts with
    | nil => intro; simp [encL]
    | cons x r ih =>
      intro hle
      simp only [textW] at hle
      have := nums_two (show x.size ≤ 8000 by omega)
      have := ih (by omega)
      simp only [textW, encL, List.length_append, encS_length, List.length_cons]
      omega
  have := nums_two (show ts.length ≤ 8000 by omega)
  have := h1 ts (by omega)
  rw [putB, List.length_append]
  omega

set_option maxRecDepth 100000 in
set_option maxHeartbeats 4000000 in
theorem sizes_law (A : Option Addr) (n cap : Nat) (w : World) (hn : n ≤ 9223372036854775807) (hE : Asks w A n) :
    Calls Try.prog 6 #[.slice A n cap] w fun e w' => e = .returned (.bool true) ∧ From w w' := by
  go_enter Try.func6, Try.ntmps6
  go_wp2
  go_loopw [3] (fun i wr => ∃ k : Nat, k ≤ 63 ∧ i = .int .i64 k ∧ From w wr) (fun i _ => 63 - (intOf i).toNat)
  case atStart => exact ⟨0, by omega, rfl, From.rfl_⟩
  case round =>
    obtain ⟨k, hk, rfl, hw⟩ := hrel
    by_cases hlt : k < 63
    · have hd : decide ((k : Int) < 63) = true := by simp; omega
      have hsh := shl1 k hlt
      have hp : 0 < 2 ^ k := Nat.pow_pos (by decide)
      have hp2 : 2 ^ k ≤ 2 ^ 62 := Nat.pow_le_pow_right (by decide) (by omega)
      have ha := fun w => num_any (2 ^ k - 1) (by omega) w
      have hb := fun w => num_any (2 ^ k) (by omega) w
      have hg := fun v w' (hr : RowC w' v (bytesV (nums (2 ^ k)))) => getnum_any v (nums (2 ^ k)) (nums_byte9 (by omega)) w' hr
      have hgn := getNum_nums (m := 2 ^ k) (by omega) []
      rw [List.append_nil] at hgn
      rw [hgn] at hg
      simp only [gotV] at hg
      have hl1 := nums_pow1 k
      have hl2 := nums_pow k
      rw [hl1] at ha
      rw [hl2] at hb hg
      have hsub : ((2 ^ k : Nat) : Int) - 1 = ((2 ^ k - 1 : Nat) : Int) := by omega
      obtain ⟨m, hm⟩ : ∃ m, m = max 1 ((k + 6) / 7) := ⟨_, rfl⟩
      rw [← hm] at ha
      have HA := Lib.hid ha
      have HB := Lib.hid hb
      have HG := Lib.hid hg
      clear ha hb hg hgn hl1 hl2
      generalize 2 ^ k = p at *
      generalize p - 1 = p1 at *
      go_wp2_with (first
        | (go_at_call 8; (with_reducible refine (HA.out _).mono ?_); rintro e w2 ⟨v2, rfl, hown2, hb2⟩; have hw2 := From.next (a := w) hw hb2; obtain ⟨A2, c2, rfl⟩ := own_form hown2; have HO2 := Lib.hid hown2; clear hown2 hb2)
        | (go_at_call 8; (with_reducible refine (HB.out _).mono ?_); rintro e w3 ⟨v3, rfl, hown3, hb3⟩; have hw3 := From.next (a := w) hw2 hb3; obtain ⟨A3, c3, rfl⟩ := own_form hown3; have HO3 := Lib.hid hown3; clear hown3 hb3)
        | (go_at_call 10; (with_reducible refine (HG.out _ _ (RowC.of_own HO3.out)).mono ?_); rintro e w5 ⟨rfl, rfl⟩)
        | (go_at_call 9; (with_reducible refine (errnum_any _ _).mono ?_); rintro e w10 ⟨rfl, rfl⟩))
      all_goals (go_roundw <;> first | exact ⟨k + 1, by omega, by go_num, hw3⟩ | (simp [intOf]; omega))
    · have hd : decide ((k : Int) < 63) = false := by simp; omega
      have hput := fun w' => put_any (.slice none 0 0) [] w' (RowC.nil_ w') (fun s hs => by cases hs) (by rw [none_bytes]; decide)
      rw [none_bytes] at hput
      simp only [List.length_cons, List.length_nil, Nat.zero_add] at hput
      have hg1 : ∀ w' : World, Calls Try.prog 10 #[.slice (some ⟨w'.heap.size, 0, none⟩) 10 10] (w'.alloc (.cells #[.int .u8 255, .int .u8 255, .int .u8 255, .int .u8 255, .int .u8 255, .int .u8 255, .int .u8 255, .int .u8 255, .int .u8 255, .int .u8 1] 5)) fun e w'' => e = .returned (gotV none) ∧ From w' w'' := fun w' => by
        have h := getnum_any _ [255, 255, 255, 255, 255, 255, 255, 255, 255, 1] (by decide) _ (RowC.blk (Blk.new w' 5 #[.int .u8 255, .int .u8 255, .int .u8 255, .int .u8 255, .int .u8 255, .int .u8 255, .int .u8 255, .int .u8 255, .int .u8 255, .int .u8 1]) 10 (by decide) (by decide))
        rw [bad_ten] at h
        exact h.mono fun e w'' ⟨h1, h2⟩ => ⟨h1, h2 ▸ From.rfl_.new _⟩
      have hg2 : ∀ w' : World, Calls Try.prog 10 #[.slice (some ⟨w'.heap.size, 0, none⟩) 2 2] (w'.alloc (.cells #[.int .u8 128, .int .u8 0] 5)) fun e w'' => e = .returned (gotV none) ∧ From w' w'' := fun w' => by
        have h := getnum_any _ [128, 0] (by decide) _ (RowC.blk (Blk.new w' 5 #[.int .u8 128, .int .u8 0]) 2 (by decide) (by decide))
        rw [bad_two] at h
        exact h.mono fun e w'' ⟨h1, h2⟩ => ⟨h1, h2 ▸ From.rfl_.new _⟩
      simp only [gotV] at hg1 hg2
      have HP := Lib.hid hput
      have HG1 := Lib.hid hg1
      have HG2 := Lib.hid hg2
      clear hput hg1 hg2
      go_wp2_with (first
        | (go_at_call 16; (with_reducible refine (HP.out _).mono ?_); rintro e w2 ⟨v2, rfl, hown2, hb2⟩; have hw2 := From.next (a := w) hw hb2; obtain ⟨A2, c2, rfl⟩ := own_form hown2; have HO2 := Lib.hid hown2; clear hown2 hb2; have h22 : From w2 w2 := From.rfl_)
        | (go_at_call 10; (with_reducible refine (HG1.out _).mono ?_); rintro e w5 ⟨rfl, hb5⟩; have hw5 := From.next (a := w) hw2 hb5; have h25 := From.next (a := w2) h22 hb5)
        | (go_at_call 10; (with_reducible refine (HG2.out _).mono ?_); rintro e w6 ⟨rfl, hb6⟩; have hw6 := From.next (a := w) hw5 hb6; have h26 := From.next (a := w2) h25 hb6))
      go_loopw [20] (fun i wr => ∃ k : Nat, k ≤ n ∧ i = .int .i64 k ∧ From w wr ∧ From w2 wr) (fun i _ => n - (intOf i).toNat)
      case atStart => exact ⟨0, by omega, rfl, hw6, h26⟩
      case round =>
        rename_i wr2 _
        clear hw hw2 h22 hw5 h25 hw6 h26 hb5 hb6
        obtain ⟨k, hk, rfl, hw, h2w⟩ := hrel
        by_cases hlt : k < n ∧ k < 12
        · obtain ⟨hlt, h20⟩ := hlt
          obtain ⟨b, o, rfl, hb, hc⟩ := hE (by omega)
          obtain ⟨q, L, V, ts, l, hat⟩ := hc k hlt
          have i1 : (0:Int) ≤ (k:Int) := by omega
          have i2 : (k:Int) < (n:Int) := by omega
          have hd : decide ((k : Int) < 12) = true := by simp; omega
          have d1 : ∀ w', From w w' → w'.cell? ⟨b, o + k * 3, none⟩ = some (.int .i64 q) := fun w' h => (h.cells b _ hb).trans hat.c0
          have d2 : ∀ w', From w w' → w'.cell? ⟨b, o + k * 3 + 1, none⟩ = some L := fun w' h => (h.cells b _ hb).trans hat.c1
          have d3 : ∀ w', From w w' → w'.cell? ⟨b, o + k * 3 + 2, none⟩ = some V := fun w' h => (h.cells b _ hb).trans hat.c2
          have hheavy := fun w' (h : From w w') => heavy_any (.int .i64 q) L V ts l w' (hat.strs.from_ h) hat.tsz hat.tlen (hat.row.from_ h)
          have HV := Lib.hid hheavy
          have HAT := Lib.hid hat
          clear hat hc hE hheavy
          go_wp2_with fail
          refine (HV.out _ hw).mono ?_
          rintro e w1 ⟨h, rfl, hlight, hb1⟩
          have hw1 := hw.next hb1
          have h21 := h2w.next hb1
          clear hb1
          cases h with
          | true =>
            go_wp2
            go_ret
            exact ⟨rfl, hw1⟩
          | false =>
            obtain ⟨ht8, hl8⟩ := hlight rfl
            have hfit := putB_bound ht8
            clear hlight hw
            have hput := fun w' (h : From w w') => put_any L ts w' (HAT.out.strs.from_ h) HAT.out.tsz (by omega)
            have HP := Lib.hid hput
            have hlo := num_lo ts
            have hhi := num_hi ht8
            obtain ⟨LA, lcap, rfl, hlc1, hlc2, hlrow⟩ := strs_at HAT.out.strs
            have HHI := Lib.hid (And.intro hlo hhi)
            clear hput hlo hhi
            go_wp2_with (first
              | (go_at_call 16; (with_reducible refine (HP.out _ hw1).mono ?_); rintro e w3 ⟨v3, rfl, hown3, hb3⟩; have hw3 := From.next (a := w) hw1 hb3; have h23 := From.next (a := w2) h21 hb3; obtain ⟨A3, c3, rfl⟩ := own_form hown3; clear hown3 hb3))
            go_loopw [23, 24] (fun m i wx => ∃ j : Nat, i = .int .i64 j ∧ m = .int .i64 (textW (ts.take j) : Nat) ∧ j ≤ ts.length ∧ From w wx ∧ From w2 wx) (fun _ i _ => ts.length - (intOf i).toNat)
            case atStart => exact ⟨0, rfl, by simp [textW], by omega, hw3, h23⟩
            case round =>
              obtain ⟨j, rfl, rfl, hj, hwx, h2x⟩ := hrel
              clear hw1 h21 hw3 h23
              by_cases hjl : j < ts.length
              · have e1 : decide ((j : Int) < (ts.length : Int)) = true := by simp; omega
                have e2 : (0 : Int) ≤ (j : Int) := by omega
                have e3 : (j : Int) < (ts.length : Int) := by omega
                obtain ⟨lb, lo, rfl, hlb, hlc⟩ := hlrow (by omega)
                have d4 : ∀ w', From w w' → w'.cell? ⟨lb, lo + j, none⟩ = some (.string ts[j]) := fun w' h => (h.cells lb _ hlb).trans (hlc j hjl)
                have hsn : ts.take (j + 1) = ts.take j ++ [ts[j]] := List.take_succ_eq_append_getElem hjl
                have hsum : textW (ts.take (j + 1)) = textW (ts.take j) + ts[j].size := by rw [hsn, textW_snoc]
                have s1 := textW_mem (List.getElem_mem hjl)
                have s2 : textW (ts.take j) ≤ 8000 := by
                  have := textW_append (ts.take j) (ts.drop j)
                  rw [List.take_append_drop] at this
                  omega
                have HSUM := Lib.hid hsum
                clear hlc hlrow hsn hsum
                generalize textW (ts.take j) = tw at *
                generalize ts[j] = s at *
                go_wp2
                go_roundw
                case rel => exact ⟨j + 1, by go_num, by rw [HSUM.out]; go_num, by omega, hwx, h2x⟩
                case measure => simp [intOf]; omega
              · obtain rfl : j = ts.length := by omega
                rw [List.take_length]
                have e1 : textW ts < (putB ts).length := HHI.out.1
                have e2 : decide (((textW ts : Int) + 2 + 2 * (ts.length : Int)) < ((putB ts).length : Int)) = false := by have := HHI.out; simp; omega
                clear hlrow
                go_wp2_with (first
                  | (go_at_call 9; (with_reducible refine (errnum_any _ _).mono ?_); rintro e w10 ⟨rfl, rfl⟩))
                go_roundw
                case rel => exact ⟨k + 1, by omega, by go_num, hwx, h2x⟩
                case measure => simp [intOf]; omega
        · have heq : ∀ (u : Value) (w' : World), Row w' u (bytesV [0]) → Calls Try.prog 12 #[u, .slice (some ⟨w'.heap.size, 0, none⟩) 1 1] (w'.alloc (.cells #[.int .u8 0] 5)) fun e w'' => e = .returned (.bool true) ∧ From (w'.alloc (.cells #[.int .u8 0] 5)) w'' := fun u w' h1 => by
            have h := eqBytes_any _ _ [0] [0] _ (h1.from_ (From.rfl_.new _)) (Row.blk (Blk.new w' 5 #[.int .u8 0]) 1) (by decide)
            simp only [decide_true] at h
            exact h
          have HE := Lib.hid heq
          clear heq
          rcases (show ¬ k < n ∨ (k < n ∧ ¬ k < 12) by omega) with h1 | ⟨h1, h2⟩
          all_goals
            clear hlt
            go_wp2_with (first
              | (go_at_call 9; (with_reducible refine (errnum_any _ _).mono ?_); rintro e w10 ⟨rfl, rfl⟩)
              | (go_at_call 12; (with_reducible refine (HE.out _ _ (Row.of_own (HO2.out.kept_from h2w))).mono ?_); rintro e w11 ⟨rfl, hb11⟩; have hw11 := From.next (a := w) (hw.new _) hb11)
              | (go_at_call 15; (with_reducible refine (wakes_any _).mono ?_); rintro e w1 ⟨rfl, hb1⟩))
            go_ret
            exact ⟨rfl, hw11.next hb1⟩
set_option maxRecDepth 100000 in
theorem WireSizes_lifted (os : Os) (started : os.Started) (H : Type) (enc : TypeId × Value → H) :
    ReturnsInHanded {} Try.checked os 6 .any (Rows.wireSizesSpec.pre6 enc Try.prog Try.f6 Rows.wireSizesRow.domain false) (Rows.wireSizesSpec.post enc Try.prog Try.f6 false true false false) := by
  refine returnsInHanded_of_change_sized (C := Try.checked) Try.own started (by kernel_rfl) Try.func6
    (ChangeSpec.witness6 (enc := enc) (C := Try.checked) false ⟨#[], #[.slice none 0 0], []⟩ 8 (by kernel_rfl) (by kernel_rfl) (by kernel_rfl) (by kernel_rfl)) ?_
  intro W base args ds gs before hval hW _ hsz _
  exact law_step 6 Try.f6 22 4 Rows.wireSizesSpec Try.params6 (by kernel_rfl) Try.underlying4 rfl (fun _ => rfl) (by kernel_rfl) (of_decide_eq_true (by kernel_rfl)) (walk_of sizes_law) W base args ds gs before hval hW hsz

theorem WireSizes_holds : Rows.WireSizesSaid :=
  OpenClaim.holds_of_wide 6 Try.f6 rfl rfl rfl rfl rfl rfl rfl ⟨rfl, rfl, rfl, rfl, rfl⟩ rfl rfl rfl rfl rfl (by kernel_rfl) Try.func6 (by kernel_rfl)
    (of_decide_eq_true (by kernel_rfl)) (by unfold Func.isWrapper; first | (rw [if_pos (by decide +kernel)]; kernel_rfl) | (rw [if_neg (by decide +kernel)]; exact ⟨rfl, rfl⟩))
    (fun os started H enc _ => WireSizes_lifted os started H enc)
#print axioms WireSizes_holds

end Go.Proofs.Ytjmojiaegokobaa
