/- Texts' bytes are read as them, no beginning of them is, nor with a byte behind; what is read is told by just these bytes: the statement WireBack, for every argument. -/
import Derived.Test.YtjmojiaegokobaaWirePuts3
namespace Go.Proofs.Ytjmojiaegokobaa
open Go.ChangeShapes Go.WideShapes Go.ChangeAt Go.RowKit

theorem encL_byte : ∀ {ts : List ByteArray}, (∀ s ∈ ts, s.size ≤ 9223372036854775807) → ∀ b ∈ encL ts, b < 256
  | [], _, b, hb => by simp [encL] at hb
  | x :: r, h, b, hb => by
    simp only [encL, encS] at hb
    rcases List.mem_append.1 hb with hb | hb
    · rcases List.mem_append.1 hb with hb | hb
      · exact nums_byte9 (h x (by simp)) b hb
      · exact strB_lt x b hb
    · exact encL_byte (fun s hs => h s (by simp [hs])) b hb
theorem putB_byte {ts : List ByteArray} (h : ts.length + textW ts ≤ 8000) : ∀ b ∈ putB ts, b < 256 := by
  intro b hb
  rcases List.mem_append.1 hb with hb | hb
  · exact nums_byte9 (by omega) b hb
  · exact encL_byte (fun s hs => by have := textW_mem hs; omega) b hb
theorem getB_zero {ts : List ByteArray} (h : ts.length + textW ts ≤ 8000) : getB (putB ts ++ [0]) = none :=
  getB_begin (putB_byte h) (getB_putB (fun s hs => by have := textW_mem hs; omega) (by have := putB_bound h; omega)) (by simp)
theorem getB_take {ts : List ByteArray} (h : ts.length + textW ts ≤ 8000) {k : Nat} (hk : k < (putB ts).length) : getB ((putB ts).take k) = none := by
  rcases hg : getB ((putB ts).take k) with _ | ss
  · rfl
  · have h1 := getB_begin (fun b hb => putB_byte h b (List.mem_of_mem_take hb)) hg (t := (putB ts).drop k) (fun e => by
      have := List.length_drop (i := k) (l := putB ts)
      rw [e] at this
      simp at this
      omega)
    rw [List.take_append_drop, getB_putB (fun s hs => by have := textW_mem hs; omega) (by have := putB_bound h; omega)] at h1
    cases h1
theorem encL_mem : ∀ {ts : List ByteArray} {s : ByteArray}, s ∈ ts → s.size ≤ (encL ts).length
  | [], s, h => by cases h
  | x :: r, s, h => by
    simp only [encL, List.length_append, encS_length]
    rcases List.mem_cons.1 h with rfl | h
    · omega
    · have := encL_mem h
      omega

set_option maxRecDepth 100000 in
set_option maxHeartbeats 4000000 in
theorem back_law (A : Option Addr) (n cap : Nat) (w : World) (hn : n ≤ 9223372036854775807) (hE : Asks w A n) :
    Calls Try.prog 5 #[.slice A n cap] w fun e w' => e = .returned (.bool true) ∧ From w w' := by
  obtain ⟨i0, hi0, hz0, hz1, hz2⟩ := info_parts u8_info
  go_enter Try.func5, Try.ntmps5
  go_wp2
  go_loopw [3] (fun i wr => ∃ k : Nat, k ≤ n ∧ i = .int .i64 k ∧ From w wr) (fun i _ => n - (intOf i).toNat)
  case atStart => exact ⟨0, by omega, rfl, From.rfl_⟩
  case round =>
    obtain ⟨k, hk, rfl, hw⟩ := hrel
    by_cases hlt : k < n ∧ k < 12
    · obtain ⟨hlt, h20⟩ := hlt
      obtain ⟨b, o, rfl, hb, hc⟩ := hE (by omega)
      obtain ⟨q, L, V, ts, l, hat⟩ := hc k hlt
      have i1 : (0:Int) ≤ (k:Int) := by omega
      have i2 : (k:Int) < (n:Int) := by omega
      have hd : decide ((k : Int) < 12) = true := by simp; omega
      have d1 : ∀ w', From w w' → w'.cell? ⟨b, o + k * 3, none⟩ = some (.int .i64 q) := fun w' h => (h.cells b _ hb).trans hat.c0
      have d2 : ∀ w', From w w' → w'.cell? ⟨b, o + k * 3 + 1, none⟩ = some L := fun w' h => (h.cells b _ hb).trans hat.c1
      have d3 : ∀ w', From w w' → w'.cell? ⟨b, o + k * 3 + 2, none⟩ = some V := fun w' h => (h.cells b _ hb).trans hat.c2
      have hheavy := fun w' (h : From w w') => heavy_any (.int .i64 q) L V ts l w' (hat.strs.from_ h) hat.tsz hat.tlen (hat.row.from_ h)
      have HV := Lib.hid hheavy
      have HAT := Lib.hid hat
      clear hat hc hE hheavy
      go_wp2_with fail
      refine (HV.out _ hw).mono ?_
      rintro e w1 ⟨h, rfl, hlight, hb1⟩
      have hw1 := hw.next hb1
      clear hb1
      cases h with
      | true =>
        go_wp2
        go_ret
        exact ⟨rfl, hw1⟩
      | false =>
        obtain ⟨ht8, hl8⟩ := hlight rfl
        have hfit := putB_bound ht8
        clear hlight hw
        have hput := fun w' (h : From w w') => put_any L ts w' (HAT.out.strs.from_ h) HAT.out.tsz (by omega)
        have hget := fun v w' (h : RowC w' v (bytesV (putB ts))) => get_any v (putB ts) (putB_byte ht8) w' h
        rw [getB_putB HAT.out.tsz (by omega)] at hget
        simp only [GotB] at hget
        have hget0 : ∀ v w', RowC w' v (bytesV (putB ts) ++ [.int .u8 0]) → Calls Try.prog 19 #[v] w' fun e w'' => e = .returned (.tuple #[.slice none 0 0, .int .i64 1]) ∧ From w' w'' := fun v w' h => by
          have h2 := get_any v (putB ts ++ [0]) (fun b hb => by
            rcases List.mem_append.1 hb with hb | hb
            · exact putB_byte ht8 b hb
            · simp at hb; omega) w' (by rw [bytesV_append]; exact h)
          rw [getB_zero ht8] at h2
          exact h2
        have hget1 : ∀ j v w', j < (putB ts).length → RowC w' v (bytesV ((putB ts).take j)) → Calls Try.prog 19 #[v] w' fun e w'' => e = .returned (.tuple #[.slice none 0 0, .int .i64 1]) ∧ From w' w'' := fun j v w' hj h => by
          have h2 := get_any v ((putB ts).take j) (fun b hb => putB_byte ht8 b (List.mem_of_mem_take hb)) w' h
          rw [getB_take ht8 hj] at h2
          exact h2
        have hget2 := fun w' (h : From w w') => get_any V l HAT.out.bytes w' (HAT.out.row.from_ h)
        have hes := fun u w' (h1 : Row w' u (ts.map .string)) (h : From w w') => eqStrings_any u L ts ts w' h1 (HAT.out.strs.from_ h).row (by omega)
        simp only [decide_true] at hes
        have hcopy := fun v w' (h : Row w' v (bytesV (putB ts))) => copyBytes_any v (putB ts) w' h (by omega)
        have HP := Lib.hid hput
        have HG := Lib.hid hget
        have HG0 := Lib.hid hget0
        have HG1 := Lib.hid hget1
        have HG2 := Lib.hid hget2
        have HS := Lib.hid hes
        have HC := Lib.hid hcopy
        clear hput hget hget0 hget1 hget2 hes hcopy ht8
        obtain ⟨P, hP⟩ : ∃ P, P = (putB ts).length := ⟨_, rfl⟩
        go_wp2_with (first
          | (go_at_call 16; (with_reducible refine (HP.out _ hw1).mono ?_); rintro e w2 ⟨v2, rfl, hown2, hb2⟩; have hw2 := From.next (a := w) hw1 hb2; obtain ⟨A2, c2, rfl⟩ := own_form hown2; have HO2 := Lib.hid (World.ownsRow_le hown2 (From.size hw1)); clear hown2 hb2)
          | (go_at_call 19; (with_reducible refine (HG.out _ _ (RowC.of_own HO2.out)).mono ?_); rintro e w3 ⟨⟨v3, rfl, hown3⟩, hb3⟩; have hw3 := From.next (a := w) hw2 hb3; have h23 := From.next (a := w2) From.rfl_ hb3; obtain ⟨A3, c3, rfl⟩ := own_form hown3; have HO3 := Lib.hid hown3; clear hown3 hb3)
          | (go_at_call 11; (with_reducible refine (HC.out _ _ (Row.of_own (HO2.out.kept_from h23))).mono ?_); rintro e w4 ⟨v4, rfl, hown4, hb4⟩; have hw4 := From.next (a := w) hw3 hb4; have h24 := From.next (a := w2) h23 hb4; have h34 := From.next (a := w3) From.rfl_ hb4; have HO4 := Lib.hid hown4; clear hown4 hb4)
          | (at_builtin; refine wpList_push w3 rfl (.tmp 48) (.tmp 49) 25 rfl 5 i0 _ 1 Try.underlying25 hi0 hz0 hz1 hz2 rfl _ _ _ rfl HO4.out h34 rfl rfl (by omega) (by unfold maxLen; omega) ?_; intro v5 w5 hown5 hw5; have HO5 := Lib.hid hown5; clear hown5)
          | (go_at_call 19; (with_reducible refine (HG0.out _ _ (RowC.of_own HO5.out)).mono ?_); rintro e w6 ⟨rfl, hb6⟩; have hw6 := From.next (a := w) (From.next (a := w) hw3 hw5) hb6; have h26 := From.next (a := w2) (From.next (a := w2) h23 hw5) hb6; have h36 := From.next (a := w3) hw5 hb6)
          | (go_at_call 21; (with_reducible refine (HS.out _ _ (Row.of_own (HO3.out.kept_from h36)) hw6).mono ?_); rintro e w7 ⟨rfl, hb7⟩; have hw7 := From.next (a := w) hw6 hb7; have h27 := From.next (a := w2) h26 hb7)
          | (go_at_call 9; (with_reducible refine (errnum_any _ _).mono ?_); rintro e w10 ⟨rfl, rfl⟩))
        have hpl : (putB ts).length ≤ c2 ∧ c2 ≤ 9223372036854775807 := by
          obtain ⟨A', c', hv, h1, h2, _⟩ := (RowC.of_own HO2.out).parts
          simp only [Value.slice.injEq] at hv
          rw [bytesV_length] at h1
          omega
        have hcut : ∀ (j : Nat) (w' : World), j ≤ (putB ts).length → From w2 w' → RowC w' (.slice A2 j c2) (bytesV ((putB ts).take j)) := fun j w' hj h => by
          have h1 := (RowC.of_own (HO2.out.kept_from h)).cut (k := j) (by rw [bytesV_length]; exact hj)
          simpa [bytesV, List.map_take] using h1
        have HCUT := Lib.hid hcut
        clear hcut h24 h34 h36 hw5 hb6 hb7 HO3 HO4 HO5 HG HG0 HS HC
        go_loopw [10] (fun i wx => ∃ j : Nat, i = .int .i64 j ∧ j ≤ 200000 ∧ From w wx ∧ From w2 wx) (fun i _ => (putB ts).length - (intOf i).toNat)
        case atStart => exact ⟨0, rfl, by omega, hw7, h27⟩
        case round =>
          obtain ⟨j, rfl, hj, hwx, h2x⟩ := hrel
          clear hw7 h27 h26 hw6
          by_cases hjl : j < (putB ts).length
          · have e1 : decide ((j : Int) < ((putB ts).length : Int)) = true := by simp; omega
            have e2 : (0 : Int) ≤ (j : Int) := by omega
            have e3 : (j : Int) ≤ (c2 : Int) := by omega
            have e4 : (0 : Int) ≤ 0 := by omega
            go_wp2_with (first
              | (go_at_call 19; (with_reducible refine (HG1.out j _ _ hjl (HCUT.out j _ (by omega) h2x)).mono ?_); rintro e w8 ⟨rfl, hb8⟩; have hw8 := From.next (a := w) hwx hb8; have h28 := From.next (a := w2) h2x hb8)
              | (go_at_call 9; (with_reducible refine (errnum_any _ _).mono ?_); rintro e w10 ⟨rfl, rfl⟩))
            go_roundw
            case rel => exact ⟨j + 1 + (putB ts).length / 20, by go_num, by omega, hw8, h28⟩
            case measure => simp [intOf]; omega
          · have e1 : decide ((j : Int) < ((putB ts).length : Int)) = false := by simp; omega
            rcases hgl : getB l with _ | ss
            · rw [hgl] at HG2
              simp only [GotB] at HG2
              go_wp2_with (first
                | (go_at_call 19; (with_reducible refine (HG2.out _ hwx).mono ?_); rintro e w8 ⟨rfl, hb8⟩; have hw8 := From.next (a := w) hwx hb8)
                | (go_at_call 9; (with_reducible refine (errnum_any _ _).mono ?_); rintro e w10 ⟨rfl, rfl⟩))
              go_roundw
              case rel => exact ⟨k + 1, by omega, by go_num, hw8⟩
              case measure => simp [intOf]; omega
            · rw [hgl] at HG2
              simp only [GotB] at HG2
              obtain ⟨hback, hl20⟩ := getB_back HAT.out.bytes hgl
              have hsz : ∀ s ∈ ss, s.size ≤ 140737488351232 := fun s hs => by
                have h1 := encL_mem hs
                have h2 : (putB ss).length = l.length := by rw [hback]
                rw [putB, List.length_append] at h2
                omega
              have hput2 := fun v w' (h : RowC w' v (ss.map .string)) => put_any v ss w' h hsz (by rw [hback]; exact hl20)
              rw [hback] at hput2
              have heq2 := fun u v w' (h1 : Row w' u (bytesV l)) (h2 : Row w' v (bytesV l)) => eqBytes_any u v l l w' h1 h2 (by omega)
              simp only [decide_true] at heq2
              have HP2 := Lib.hid hput2
              have HE2 := Lib.hid heq2
              clear hput2 heq2 hback hsz hgl
              go_wp2_with (first
                | (go_at_call 19; (with_reducible refine (HG2.out _ hwx).mono ?_); rintro e w8 ⟨⟨v8, rfl, hown8⟩, hb8⟩; have hw8 := From.next (a := w) hwx hb8; have HO8 := Lib.hid hown8; clear hown8)
                | (go_at_call 16; (with_reducible refine (HP2.out _ _ (RowC.of_own HO8.out)).mono ?_); rintro e w9 ⟨v9, rfl, hown9, hb9⟩; have hw9 := From.next (a := w) hw8 hb9; have HO9 := Lib.hid hown9; clear hown9)
                | (go_at_call 12; (with_reducible refine (HE2.out _ _ _ (Row.of_own HO9.out) (HAT.out.row.from_ hw9).row).mono ?_); rintro e w11 ⟨rfl, hb11⟩; have hw11 := From.next (a := w) hw9 hb11)
                | (go_at_call 9; (with_reducible refine (errnum_any _ _).mono ?_); rintro e w10 ⟨rfl, rfl⟩))
              go_roundw
              case rel => exact ⟨k + 1, by omega, by go_num, hw11⟩
              case measure => simp [intOf]; omega
    · rcases (show ¬ k < n ∨ (k < n ∧ ¬ k < 12) by omega) with h1 | ⟨h1, h2⟩
      all_goals
        clear hlt
        go_wp2_with (go_at_call 15; (with_reducible refine (wakes_any _).mono ?_); rintro e w1 ⟨rfl, hb1⟩)
        go_ret
        exact ⟨rfl, hw.next hb1⟩
set_option maxRecDepth 100000 in
theorem WireBack_lifted (os : Os) (started : os.Started) (H : Type) (enc : TypeId × Value → H) :
    ReturnsInHanded {} Try.checked os 5 .any (Rows.wireBackSpec.pre6 enc Try.prog Try.f5 Rows.wireBackRow.domain false) (Rows.wireBackSpec.post enc Try.prog Try.f5 false true false false) := by
  refine returnsInHanded_of_change_sized (C := Try.checked) Try.own started (by kernel_rfl) Try.func5
    (ChangeSpec.witness6 (enc := enc) (C := Try.checked) false ⟨#[], #[.slice none 0 0], []⟩ 8 (by kernel_rfl) (by kernel_rfl) (by kernel_rfl) (by kernel_rfl)) ?_
  intro W base args ds gs before hval hW _ hsz _
  exact law_step 5 Try.f5 22 4 Rows.wireBackSpec Try.params5 (by kernel_rfl) Try.underlying4 rfl (fun _ => rfl) (by kernel_rfl) (of_decide_eq_true (by kernel_rfl)) (walk_of back_law) W base args ds gs before hval hW hsz

theorem WireBack_holds : Rows.WireBackSaid :=
  OpenClaim.holds_of_wide 5 Try.f5 rfl rfl rfl rfl rfl rfl rfl ⟨rfl, rfl, rfl, rfl, rfl⟩ rfl rfl rfl rfl rfl (by kernel_rfl) Try.func5 (by kernel_rfl)
    (of_decide_eq_true (by kernel_rfl)) (by unfold Func.isWrapper; first | (rw [if_pos (by decide +kernel)]; kernel_rfl) | (rw [if_neg (by decide +kernel)]; exact ⟨rfl, rfl⟩))
    (fun os started H enc _ => WireBack_lifted os started H enc)
#print axioms WireBack_holds

end Go.Proofs.Ytjmojiaegokobaa
