/- Of 1 to 7 nodes every set is a majority exactly if it has more than half of them, and a set and all others are never both: the statement QuorumMeet, for every argument. -/
import Derived.Test.YtpgcelbodpmajaaArg
import Derived.Test.YtpgcelbodpmajaaQuorumWalks
namespace Go.Proofs.Ytpgcelbodpmajaa
open Go.ChangeShapes Go.WideShapes Go.ChangeAt Go.RowKit

def ix (a : Nat) : List Int := (bitsOf a 7).map fun (i : Nat) => ((i : Int) + 1)
theorem ix_val (a : Nat) : (bitsOf a 7).map val1 = (ix a).map valI := by simp [ix, valI, val1]
theorem ix_len (a : Nat) : (ix a).length ≤ 7 := by have := bitsOf_len a 7; simpa [ix] using this
def Good (n a : Nat) : Prop :=
  (enough n (ix a) && enough n (ix (2 ^ n - 1 - a))) = false ∧ (n % 2 = 1 → (enough n (ix a) || enough n (ix (2 ^ n - 1 - a))) = true) ∧ enough n (ix a) = decide ((n : Int) < 2 * ((bitsOf a 7).length : Int))
instance (n a : Nat) : Decidable (Good n a) := by unfold Good; infer_instance
theorem good_all : ∀ n, n < 8 → ∀ a, a < 2 ^ n → Good n a := by decide +kernel

theorem own_len {w : World} {base : Nat} {e : TypeId} {v : Value} {n : Nat} {xs : List Value} (h : w.ownsRow base e 1 v n xs) : ∃ A cap, v = .slice A n cap := by
  rcases h.2 with ⟨rfl, rfl⟩ | ⟨g, cap, cur, rfl, _⟩
  · exact ⟨none, 0, rfl⟩
  · exact ⟨_, cap, rfl⟩

/-- set, then Enough of it -/
theorem set_row (a : Nat) (w : World) (ha : a < 128) :
    Calls Try.prog 15 #[.int .i64 (a : Int)] w fun e w' => ∃ A cap, e = .returned (.slice A (bitsOf a 7).length cap) ∧ Row w' (.slice A (bitsOf a 7).length cap) ((ix a).map valI) ∧ From w w' := by
  refine (set_any a w ha).mono fun e w' ⟨v, he, hown, hw⟩ => ?_
  obtain ⟨A, cap, rfl⟩ := own_len hown
  exact ⟨A, cap, he, by rw [← ix_val]; exact Row.of_own hown, hw⟩

theorem set_at (m : Nat) (z : Int) (w : World) (hz : z = (m : Int)) (ha : m < 128) :
    Calls Try.prog 15 #[.int .i64 z] w fun e w' => ∃ A cap, e = .returned (.slice A (bitsOf m 7).length cap) ∧ Row w' (.slice A (bitsOf m 7).length cap) ((ix m).map valI) ∧ From w w' := by
  subst hz
  exact set_row m w ha
theorem ix_max (a : Nat) : (ix a).length ≤ 1000000000000 := by have := ix_len a; omega

set_option maxRecDepth 100000 in
set_option maxHeartbeats 1000000 in
theorem meet_any (A : Option Addr) (n cap : Nat) (w : World) (hn : n ≤ 9223372036854775807) :
    Calls Try.prog 4 #[.slice A n cap] w fun e w' => e = .returned (.bool true) ∧ From w w' := by
  go_enter Try.func4, Try.ntmps4
  go_wp2
  go_loopw [3] (fun i wr => ∃ k : Nat, 1 ≤ k ∧ k ≤ 8 ∧ i = .int .i64 k ∧ From w wr) (fun i _ => 8 - (intOf i).toNat)
  case atStart => exact ⟨1, by omega, by omega, rfl, From.rfl_⟩
  case round =>
    obtain ⟨k, hk1, hk, rfl, hw⟩ := hrel
    by_cases hk8 : k < 8
    · have hg := good_all k hk8
      obtain ⟨P, hP⟩ : ∃ P : Nat, P = 2 ^ k := ⟨_, rfl⟩
      have hp : ((2 : Int) ^ k) = (P : Int) := by rw [hP]; simp
      have hP1 : P ≤ 128 := by rw [hP]; exact Nat.pow_le_pow_right (by omega) (show k ≤ 7 by omega)
      have hd : decide ((k : Int) ≤ 7) = true := by simp; omega
      rw [← hP] at hg
      have HG := Lib.hid hg
      have HP := Lib.hid hP
      clear hg hP
      go_wp2_with fail
      go_loopw [4] (fun i wx => ∃ a : Nat, a ≤ P ∧ i = .int .i64 a ∧ From w wx) (fun i _ => P - (intOf i).toNat)
      case atStart => exact ⟨0, by omega, rfl, hw⟩
      case round =>
        obtain ⟨a, ha, rfl, hw2⟩ := hrel
        by_cases hlt : a < P
        · have hg := HG.out a hlt
          unfold Good at hg
          rw [← HP.out] at hg
          obtain ⟨g1, g2, g3⟩ := hg
          have ec : (P : Int) - 1 - (a : Int) = ((P - 1 - a : Nat) : Int) := by omega
          have EC := Lib.hid ec
          have hodd : ((k : Int) % 2 == 1) = true → k % 2 = 1 := by
            intro h
            have : (k : Int) % 2 = 1 := by simpa using h
            omega
          have hbl := bitsOf_len a 7
          have hm : P - 1 - a < 128 := by omega
          have ha2 : a < 128 := by omega
          clear HG ec
          generalize P - 1 - a = m at *
          rcases hpar : ((k : Int) % 2 == 1) with _ | _ <;> rcases hx : enough (k : Int) (ix a) with _ | _ <;> rcases hy : enough (k : Int) (ix m) with _ | _
          all_goals first
            | (exfalso; rw [hx, hy] at g1; revert g1; decide)
            | (exfalso; have g5 := g2 (hodd hpar); rw [hx, hy] at g5; revert g5; decide)
            | (rw [hx] at g3
               have g4 := g3.symm
               clear g1 g2 g3 hodd
               go_wp2_with (first
                 | (go_at_call 15; (with_reducible refine (set_row a _ ha2).mono ?_); rintro e w1 ⟨A1, c1, rfl, hr1, hb1⟩; replace hb1 := From.next (a := w) (by assumption) hb1)
                 | (go_at_call 15; (with_reducible refine (set_at m _ _ EC.out hm).mono ?_); rintro e w1 ⟨A1, c1, rfl, hr1, hb1⟩; replace hb1 := From.next (a := w) (by assumption) hb1)
                 | (go_at_call 8; (with_reducible refine (enough_row _ _ _ _ (by omega) (by omega) (ix_max _) (by assumption)).mono ?_); rintro e w1 ⟨rfl, hb1⟩; replace hb1 := From.next (a := w) (by assumption) hb1)
                 | (go_at_call 9; (with_reducible refine (num_any _ _).mono ?_); rintro e w1 ⟨rfl, rfl⟩))
               go_roundw
               case rel => exact ⟨a + 1, by omega, by go_num, by assumption⟩
               case measure => simp [intOf]; omega)
        · go_wp2
          go_roundw
          case rel => exact ⟨k + 1, by omega, by omega, by go_num, by assumption⟩
          case measure => simp [intOf]; omega
    · obtain rfl : k = 8 := by omega
      go_wp2_with (go_at_call 14; refine (wakes _).mono ?_; rintro e w1 ⟨rfl, hb1⟩)
      go_ret
      exact ⟨rfl, hw.next hb1⟩

abbrev AskTy : Ty := .pr (.int .i64) (.pr (.sl (.int .i64)) (.pr (.sl (.int .i64)) .unit))
theorem ask_fits : (Ty.sl AskTy).fits Try.prog (.inl 22) = true := by kernel_rfl
theorem meet_walk {H : Type} {enc : TypeId × Value → H} (W : World) (base : Nat) (v : Value) (d : DataW H) (p : List MemPlace) (hv : Value.okWide Try.prog W .any base 22 v)
    (h : DataW.Trod enc Try.prog W 0 (fun _ => true) true 22 v d p) (_hlt : ∀ x ∈ p, x.block < W.heap.size) :
    Calls Try.prog 4 #[v] W fun e W' => e = .returned (.bool true) ∧ From W W' := by
  obtain ⟨A, cap, xs, rfl, h1, h2, h3⟩ := arg_sl AskTy ask_fits hv h
  unfold maxLen at h2
  exact meet_any A xs.length cap W (by omega)

set_option maxRecDepth 100000 in
theorem QuorumMeet_lifted (os : Os) (started : os.Started) (H : Type) (enc : TypeId × Value → H) :
    ReturnsInHanded {} Try.checked os 4 .any (Rows.quorumMeetSpec.pre6 enc Try.prog Try.f4 Rows.quorumMeetRow.domain false) (Rows.quorumMeetSpec.post enc Try.prog Try.f4 false true false false) := by
  refine returnsInHanded_of_change (C := Try.checked) Try.own started (by kernel_rfl) Try.func4
    (ChangeSpec.witness6 (enc := enc) (C := Try.checked) false ⟨#[], #[.slice none 0 0], []⟩ 8 (by kernel_rfl) (by kernel_rfl) (by kernel_rfl) (by kernel_rfl)) ?_
  intro W base args ds gs before hval hW _ _
  exact law_step 4 Try.f4 22 4 Rows.quorumMeetSpec Try.params4 (by kernel_rfl) Try.underlying4 rfl (fun _ => rfl) (by kernel_rfl) (of_decide_eq_true (by kernel_rfl)) meet_walk W base args ds gs before hval hW

theorem QuorumMeet_holds : Rows.QuorumMeetSaid :=
  OpenClaim.holds_of_wide 4 Try.f4 rfl rfl rfl rfl rfl rfl rfl ⟨rfl, rfl, rfl, rfl, rfl⟩ rfl rfl rfl rfl rfl (by kernel_rfl) Try.func4 (by kernel_rfl)
    (of_decide_eq_true (by kernel_rfl)) (by unfold Func.isWrapper; first | (rw [if_pos (by decide +kernel)]; kernel_rfl) | (rw [if_neg (by decide +kernel)]; exact ⟨rfl, rfl⟩))
    (fun os started H enc _ => QuorumMeet_lifted os started H enc)
#print axioms QuorumMeet_holds

end Go.Proofs.Ytpgcelbodpmajaa
