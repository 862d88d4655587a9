/- Texts' bytes are the reference's; the texts that any bytes are are the reference's, or there are none: the statement WirePuts, for every argument. -/
import Derived.Test.YtjmojiaegokobaaWirePuts2
namespace Go.Proofs.Ytjmojiaegokobaa
open Go.ChangeShapes Go.WideShapes Go.ChangeAt Go.RowKit

theorem textW_mem : ∀ {ts : List ByteArray} {s : ByteArray}, s ∈ ts → s.size ≤ textW ts
  | [], s, h => by cases h
  | x :: r, s, h => by
    simp only [textW]
    rcases List.mem_cons.1 h with rfl | h
    · omega
    · have := textW_mem h
      omega
theorem encL_bound : ∀ (ts : List ByteArray), (∀ s ∈ ts, s.size ≤ 9223372036854775807) → (encL ts).length ≤ 9 * ts.length + textW ts
  | [], _ => by simp [encL, textW]
  | x :: r, h => by
    have h1 := nums_len9 (h x (by simp))
    have h2 := encL_bound r (fun s hs => h s (by simp [hs]))
    simp only [encL, List.length_append, encS_length, List.length_cons, textW]
    omega
theorem putB_bound {ts : List ByteArray} (h : ts.length + textW ts ≤ 8000) : (putB ts).length ≤ 80000 := by
  have h1 := nums_len9 (show ts.length ≤ 9223372036854775807 by omega)
  have h2 := encL_bound ts (fun s hs => by have := textW_mem hs; omega)
  rw [putB, List.length_append]
  omega
theorem bytesV_int (l : List Nat) : (l.map fun n : Nat => (n : Int)).map (fun (x : Int) => Value.int .u8 x) = bytesV l := by
  simp [bytesV]

set_option maxRecDepth 100000 in
set_option maxHeartbeats 4000000 in
theorem puts_law (A : Option Addr) (n cap : Nat) (w : World) (hn : n ≤ 9223372036854775807) (hE : Asks w A n) :
    Calls Try.prog 4 #[.slice A n cap] w fun e w' => e = .returned (.bool true) ∧ From w w' := by
  go_enter Try.func4, Try.ntmps4
  go_wp2
  go_loopw [3] (fun i wr => ∃ k : Nat, k ≤ n ∧ i = .int .i64 k ∧ From w wr) (fun i _ => n - (intOf i).toNat)
  case atStart => exact ⟨0, by omega, rfl, From.rfl_⟩
  case round =>
    obtain ⟨k, hk, rfl, hw⟩ := hrel
    by_cases hlt : k < n ∧ k < 12
    · obtain ⟨hlt, h20⟩ := hlt
      obtain ⟨b, o, rfl, hb, hc⟩ := hE (by omega)
      obtain ⟨q, L, V, ts, l, hat⟩ := hc k hlt
      have i1 : (0:Int) ≤ (k:Int) := by omega
      have i2 : (k:Int) < (n:Int) := by omega
      have hd : decide ((k : Int) < 12) = true := by simp; omega
      have d1 : ∀ w', From w w' → w'.cell? ⟨b, o + k * 3, none⟩ = some (.int .i64 q) := fun w' h => (h.cells b _ hb).trans hat.c0
      have d2 : ∀ w', From w w' → w'.cell? ⟨b, o + k * 3 + 1, none⟩ = some L := fun w' h => (h.cells b _ hb).trans hat.c1
      have d3 : ∀ w', From w w' → w'.cell? ⟨b, o + k * 3 + 2, none⟩ = some V := fun w' h => (h.cells b _ hb).trans hat.c2
      have hheavy := fun w' (h : From w w') => heavy_any (.int .i64 q) L V ts l w' (hat.strs.from_ h) hat.tsz hat.tlen (hat.row.from_ h)
      have HV := Lib.hid hheavy
      have HAT := Lib.hid hat
      clear hat hc hE hheavy
      go_wp2_with fail
      refine (HV.out _ hw).mono ?_
      rintro e w1 ⟨h, rfl, hlight, hb1⟩
      have hw1 := hw.next hb1
      clear hb1
      cases h with
      | true =>
        go_wp2
        go_ret
        exact ⟨rfl, hw1⟩
      | false =>
        obtain ⟨ht8, hl8⟩ := hlight rfl
        have hfit := putB_bound ht8
        clear hlight hw ht8
        have hput := fun w' (h : From w w') => put_any L ts w' (HAT.out.strs.from_ h) HAT.out.tsz (by omega)
        have href := fun w' (h : From w w') => refput_any L ts w' (HAT.out.strs.from_ h) HAT.out.tsz (by omega)
        have heq := fun u v w' (h1 : Row w' u (bytesV (putB ts))) (h2 : Row w' v (bytesV (putB ts))) => eqBytes_any u v (putB ts) (putB ts) w' h1 h2 (by omega)
        have heq2 := fun u v w' (h1 : Row w' u (bytesV l)) (h2 : Row w' v (bytesV l)) => eqBytes_any u v l l w' h1 h2 (by omega)
        simp only [decide_true, beq_self_eq_true] at heq heq2
        have hsp := fun v w' (h1 : w'.ownsRow w.heap.size 5 1 v (putB ts).length (bytesV (putB ts))) (h2 : From w w') => spoilB_any w v (putB ts).length ((putB ts).map fun n : Nat => (n : Int)) w' (by rw [bytesV_int]; exact h1) h2 (by omega)
        have hcopy := fun w' (h : From w w') => copyBytes_any V l w' (HAT.out.row.from_ h).row (by omega)
        have hget := fun v w' (h : RowC w' v (bytesV l)) => get_any v l HAT.out.bytes w' h
        have hrget := fun w' (h : From w w') => refget_any V l HAT.out.bytes w' (HAT.out.row.from_ h) (by omega)
        have hes := fun (ss : List ByteArray) (hl : ss.length ≤ 8000) u v w' (h1 : Row w' u (ss.map .string)) (h2 : Row w' v (ss.map .string)) => eqStrings_any u v ss ss w' h1 h2 (by omega)
        simp only [decide_true, beq_self_eq_true] at hes
        have HP := Lib.hid hput
        have HF := Lib.hid href
        have HE := Lib.hid heq
        have HE2 := Lib.hid heq2
        have HSP := Lib.hid hsp
        have HC := Lib.hid hcopy
        have HG := Lib.hid hget
        have HR := Lib.hid hrget
        have HS := Lib.hid hes
        clear hput href heq heq2 hsp hcopy hget hrget hes
        rcases hgl : getB l with _ | ss
        · rw [hgl] at HG HR
          simp only [GotB] at HG
          simp only [RefGotB] at HR
          go_wp2_with (first
            | (go_at_call 16; (with_reducible refine (HP.out _ hw1).mono ?_); rintro e w2 ⟨v2, rfl, hown2, hb2⟩; have hw2 := From.next (a := w) hw1 hb2; have HO2 := Lib.hid (World.ownsRow_le hown2 (From.size hw1)); clear hown2 hb2)
            | (go_at_call 17; (with_reducible refine (HF.out _ hw2).mono ?_); rintro e w3 ⟨v3, rfl, hown3, hb3⟩; have hw3 := From.next (a := w) hw2 hb3; have h23 := From.next (a := w2) From.rfl_ hb3; have HO3 := Lib.hid hown3; clear hown3 hb3)
            | (go_at_call 12; (with_reducible refine (HE.out _ _ _ (Row.of_own (HO2.out.kept_from h23)) (Row.of_own HO3.out)).mono ?_); rintro e w4 ⟨rfl, hb4⟩; have hw4 := From.next (a := w) hw3 hb4; have h24 := From.next (a := w2) h23 hb4; clear hb4)
            | (go_at_call 18; (with_reducible refine (HSP.out _ _ (HO2.out.kept_from h24) hw4).mono ?_); rintro e w5 ⟨rfl, hw5⟩)
            | (go_at_call 11; (with_reducible refine (HC.out _ hw5).mono ?_); rintro e w6 ⟨v6, rfl, hown6, hb6⟩; have hw6 := From.next (a := w) hw5 hb6; have HO6 := Lib.hid hown6; clear hown6 hb6)
            | (go_at_call 19; (with_reducible refine (HG.out _ _ (RowC.of_own HO6.out)).mono ?_); rintro e w7 ⟨rfl, hb7⟩; have hw7 := From.next (a := w) hw6 hb7)
            | (go_at_call 20; (with_reducible refine (HR.out _ hw7).mono ?_); rintro e w8 ⟨⟨v8, rfl⟩, hb8⟩; have hw8 := From.next (a := w) hw7 hb8; have h68 := From.next (a := w6) hb7 hb8)
            | (go_at_call 12; (with_reducible refine (HE2.out _ _ _ (Row.of_own (HO6.out.kept_from h68)) (HAT.out.row.from_ hw8).row).mono ?_); rintro e w9 ⟨rfl, hb9⟩; have hw9 := From.next (a := w) hw8 hb9; clear hb9)
            | (go_at_call 9; (with_reducible refine (errnum_any _ _).mono ?_); rintro e w10 ⟨rfl, rfl⟩))
          go_roundw
          case rel => exact ⟨k + 1, by omega, by go_num, by assumption⟩
          case measure => simp [intOf]; omega
        · have hsl : ss.length ≤ 8000 := by
            have h1 := (getB_back HAT.out.bytes hgl).1
            have h2 := encL_count ss
            have h3 : (putB ss).length = l.length := by rw [h1]
            rw [putB, List.length_append] at h3
            omega
          rw [hgl] at HG HR
          simp only [GotB] at HG
          simp only [RefGotB] at HR
          go_wp2_with (first
            | (go_at_call 16; (with_reducible refine (HP.out _ hw1).mono ?_); rintro e w2 ⟨v2, rfl, hown2, hb2⟩; have hw2 := From.next (a := w) hw1 hb2; have HO2 := Lib.hid (World.ownsRow_le hown2 (From.size hw1)); clear hown2 hb2)
            | (go_at_call 17; (with_reducible refine (HF.out _ hw2).mono ?_); rintro e w3 ⟨v3, rfl, hown3, hb3⟩; have hw3 := From.next (a := w) hw2 hb3; have h23 := From.next (a := w2) From.rfl_ hb3; have HO3 := Lib.hid hown3; clear hown3 hb3)
            | (go_at_call 12; (with_reducible refine (HE.out _ _ _ (Row.of_own (HO2.out.kept_from h23)) (Row.of_own HO3.out)).mono ?_); rintro e w4 ⟨rfl, hb4⟩; have hw4 := From.next (a := w) hw3 hb4; have h24 := From.next (a := w2) h23 hb4; clear hb4)
            | (go_at_call 18; (with_reducible refine (HSP.out _ _ (HO2.out.kept_from h24) hw4).mono ?_); rintro e w5 ⟨rfl, hw5⟩)
            | (go_at_call 11; (with_reducible refine (HC.out _ hw5).mono ?_); rintro e w6 ⟨v6, rfl, hown6, hb6⟩; have hw6 := From.next (a := w) hw5 hb6; have HO6 := Lib.hid hown6; clear hown6 hb6)
            | (go_at_call 19; (with_reducible refine (HG.out _ _ (RowC.of_own HO6.out)).mono ?_); rintro e w7 ⟨⟨v7, rfl, hown7⟩, hb7⟩; have hw7 := From.next (a := w) hw6 hb7; obtain ⟨A7, c7, rfl⟩ := own_form hown7; have HO7 := Lib.hid hown7; clear hown7)
            | (go_at_call 20; (with_reducible refine (HR.out _ hw7).mono ?_); rintro e w8 ⟨⟨v8, rfl, hown8⟩, hb8⟩; have hw8 := From.next (a := w) hw7 hb8; have h68 := From.next (a := w6) hb7 hb8; have HO8 := Lib.hid hown8; clear hown8)
            | (go_at_call 21; (with_reducible refine (HS.out ss hsl _ _ _ (Row.of_own (HO7.out.kept_from hb8)) (Row.of_own HO8.out)).mono ?_); rintro e w9 ⟨rfl, hb9⟩; have hw9 := From.next (a := w) hw8 hb9; have h69 := From.next (a := w6) h68 hb9)
            | (go_at_call 12; (with_reducible refine (HE2.out _ _ _ (Row.of_own (HO6.out.kept_from h69)) (HAT.out.row.from_ hw9).row).mono ?_); rintro e w11 ⟨rfl, hb11⟩; have hw11 := From.next (a := w) hw9 hb11; clear hb11)
            | (go_at_call 9; (with_reducible refine (errnum_any _ _).mono ?_); rintro e w10 ⟨rfl, rfl⟩))
          go_roundw
          case rel => exact ⟨k + 1, by omega, by go_num, by assumption⟩
          case measure => simp [intOf]; omega
    · rcases (show ¬ k < n ∨ (k < n ∧ ¬ k < 12) by omega) with h1 | ⟨h1, h2⟩
      all_goals
        clear hlt
        go_wp2_with (go_at_call 15; (with_reducible refine (wakes_any _).mono ?_); rintro e w1 ⟨rfl, hb1⟩)
        go_ret
        exact ⟨rfl, hw.next hb1⟩
set_option maxRecDepth 100000 in
theorem WirePuts_lifted (os : Os) (started : os.Started) (H : Type) (enc : TypeId × Value → H) :
    ReturnsInHanded {} Try.checked os 4 .any (Rows.wirePutsSpec.pre6 enc Try.prog Try.f4 Rows.wirePutsRow.domain false) (Rows.wirePutsSpec.post enc Try.prog Try.f4 false true false false) := by
  refine returnsInHanded_of_change_sized (C := Try.checked) Try.own started (by kernel_rfl) Try.func4
    (ChangeSpec.witness6 (enc := enc) (C := Try.checked) false ⟨#[], #[.slice none 0 0], []⟩ 8 (by kernel_rfl) (by kernel_rfl) (by kernel_rfl) (by kernel_rfl)) ?_
  intro W base args ds gs before hval hW _ hsz _
  exact law_step 4 Try.f4 22 4 Rows.wirePutsSpec Try.params4 (by kernel_rfl) Try.underlying4 rfl (fun _ => rfl) (by kernel_rfl) (of_decide_eq_true (by kernel_rfl)) (walk_of puts_law) W base args ds gs before hval hW hsz

theorem WirePuts_holds : Rows.WirePutsSaid :=
  OpenClaim.holds_of_wide 4 Try.f4 rfl rfl rfl rfl rfl rfl rfl ⟨rfl, rfl, rfl, rfl, rfl⟩ rfl rfl rfl rfl rfl (by kernel_rfl) Try.func4 (by kernel_rfl)
    (of_decide_eq_true (by kernel_rfl)) (by unfold Func.isWrapper; first | (rw [if_pos (by decide +kernel)]; kernel_rfl) | (rw [if_neg (by decide +kernel)]; exact ⟨rfl, rfl⟩))
    (fun os started H enc _ => WirePuts_lifted os started H enc)
#print axioms WirePuts_holds

end Go.Proofs.Ytjmojiaegokobaa
