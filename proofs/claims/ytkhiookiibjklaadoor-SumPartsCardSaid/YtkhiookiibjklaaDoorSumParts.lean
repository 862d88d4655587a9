/- The checksum of two parts, one after the other, is that of the whole; one turned bit changes it; of nothing it is what stood ahead: the statement SumParts, for every argument. -/
import Derived.Test.YtkhiookiibjklaaDoorSumLaws
import Derived.StillTailTactics
namespace Go.Proofs.YtkhiookiibjklaaDoor
open Go.ChangeShapes Go.WideShapes Go.ChangeAt Go.RowKit CM

def wit (i : Int) (n : Nat) : Nat := ((i % 18446744073709551616) % (n : Int)).toNat
theorem wit_lt (i : Int) {n : Nat} (hn : 1 ≤ n) : wit i n < n := by
  unfold wit
  have h0 := Int.emod_nonneg (i % 18446744073709551616) (b := (n : Int)) (by omega)
  have h1 := Int.emod_lt_of_pos (i % 18446744073709551616) (b := (n : Int)) (by omega)
  omega
set_option maxHeartbeats 400000 in
theorem within_any (i : Int) (n : Nat) (w : World) (hn : 1 ≤ n) (hn2 : n ≤ 1000000000000) :
    Calls Tryd.prog 11 #[.int .i64 i, .int .i64 (n : Int)] w fun e w' => e = .returned (.int .i64 (wit i n : Nat)) ∧ w = w' := by
  have hz : ((n : Int) == 0) = false := by simp; omega
  have hw : wrap64 ((IntKind.u64.wrap i).tmod (n : Int)) = ((wit i n : Nat) : Int) := by
    have h1 := Int.emod_nonneg (i % 18446744073709551616) (b := (n : Int)) (by omega)
    have h2 := Int.emod_lt_of_pos (i % 18446744073709551616) (b := (n : Int)) (by omega)
    rw [IntKind.wrap_u64, Int.tmod_eq_emod_of_nonneg (by omega), IntWalk.wrap64_in _ (by omega)]
    unfold wit
    omega
  have H := Lib.hid hw
  clear hw
  go_enter Tryd.func11, Tryd.ntmps11
  go_wp2
  go_ret
  exact ⟨ret_int H.out, rfl⟩

theorem sumF_parts (s : BitVec 32) (l m : List Nat) : sumF (sumF s l) m = sumF s (l ++ m) := by
  unfold sumF
  rw [BitVec.not_not, reg_app]
theorem sumF_nil (s : BitVec 32) : sumF s [] = s := by
  unfold sumF
  simp [reg]
theorem sumF_turn {s : BitVec 32} {l : List Nat} (hl : CM.Bytes l) {i x : Nat} (hi : i < l.length) (hx : x < 256) (h : l[i] ≠ x) : sumF s (l.set i x) ≠ sumF s l := by
  intro e
  unfold sumF at e
  have e2 : reg (~~~s) (l.set i x) = reg (~~~s) l := by
    have := congrArg (fun y => ~~~y) e
    simpa using this
  have h1 : l = l.take i ++ l[i] :: l.drop (i + 1) := by
    rw [← List.drop_eq_getElem_cons hi, List.take_append_drop]
  have h2 : l.set i x = l.take i ++ x :: l.drop (i + 1) := List.set_eq_take_append_cons_drop.trans (by rw [if_pos hi])
  rw [h2] at e2
  have e3 : reg (~~~s) (l.take i ++ x :: l.drop (i + 1)) = reg (~~~s) (l.take i ++ l[i] :: l.drop (i + 1)) := e2.trans (congrArg (reg (~~~s)) h1)
  exact reg_turn hx (hl _ (List.getElem_mem hi)) (Ne.symm h) e3

theorem row_cut {w : World} {A : Option Addr} {cap : Nat} {l : List Nat} (h : Row w (.slice A l.length cap) (bytesV l)) {k : Nat} (hk : k ≤ l.length) :
    Row w (.slice A k cap) (bytesV (l.take k)) := by
  obtain ⟨A', c', hv, hp⟩ := h
  simp only [Value.slice.injEq] at hv
  obtain ⟨rfl, hl, rfl⟩ := hv
  have hlen : (bytesV (l.take k)).length = k := by simp [bytesV, Nat.min_eq_left hk]
  refine ⟨A, cap, by rw [hlen], fun h0 => ?_⟩
  rw [hlen] at h0
  obtain ⟨b, o, hA, hb, hc⟩ := hp (by rw [← hl]; omega)
  refine ⟨b, o, hA, hb, fun i u hu => hc i u ?_⟩
  simp only [bytesV, List.map_take] at hu ⊢
  rw [List.getElem?_take] at hu
  split at hu
  · exact hu
  · cases hu
theorem row_rest {w : World} {A : Option Addr} {cap : Nat} {l : List Nat} (h : Row w (.slice A l.length cap) (bytesV l)) {k : Nat} (hk : k ≤ l.length) (hc : l.length ≤ cap) :
    Row w (.slice (if cap = k then A else A.map (·.add k)) (l.length - k) (cap - k)) (bytesV (l.drop k)) := by
  obtain ⟨A', c', hv, hp⟩ := h
  simp only [Value.slice.injEq] at hv
  obtain ⟨rfl, hl, rfl⟩ := hv
  have hlen : (bytesV (l.drop k)).length = l.length - k := by simp [bytesV]
  refine ⟨_, _, by rw [hlen], fun h0 => ?_⟩
  rw [hlen] at h0
  obtain ⟨b, o, rfl, hb, hcc⟩ := hp (by rw [← hl]; omega)
  refine ⟨b, o + k, by rw [if_neg (by omega)]; simp [Addr.add_lit], hb, fun i u hu => ?_⟩
  rw [Nat.add_assoc]
  refine hcc _ u ?_
  simp only [bytesV, List.map_drop] at hu ⊢
  rwa [List.getElem?_drop] at hu

theorem turn_byte {b k : Nat} (hb : b < 256) (hk : k < 8) : ∃ x : Nat, bits .xor .u8 (b : Int) (2 ^ k % 256) = (x : Int) ∧ x < 256 ∧ b ≠ x := by
  have H : ∀ b : Fin 256, ∀ k : Fin 8, bits .xor .u8 ((b.val : Nat) : Int) (2 ^ k.val % 256) = ((b.val ^^^ 2 ^ k.val : Nat) : Int) ∧ b.val ^^^ 2 ^ k.val < 256 ∧ b.val ≠ b.val ^^^ 2 ^ k.val := by decide +kernel
  exact ⟨_, H ⟨b, hb⟩ ⟨k, hk⟩⟩
theorem bytes_set {l : List Nat} (h : CM.Bytes l) {k x : Nat} (hx : x < 256) : CM.Bytes (l.set k x) := by
  intro b hb
  rcases List.mem_or_eq_of_mem_set hb with h1 | rfl
  · exact h _ h1
  · exact hx
theorem From.size {a w : World} (h : From a w) : a.heap.size ≤ w.heap.size := Below.size h
theorem own_head {w : World} {base : Nat} {e : TypeId} {size : Nat} {v : Value} {n : Nat} {xs : List Value} (h : w.ownsRow base e size v n xs) (hn : 0 < n) : ∃ g cap, v = .slice (some ⟨g, 0, none⟩) n cap ∧ base ≤ g := by
  rcases h.2 with ⟨rfl, h0⟩ | ⟨g, cap, cur, rfl, hg, _⟩
  · omega
  · exact ⟨g, cap, rfl, hg⟩

set_option maxRecDepth 100000 in
set_option maxHeartbeats 2000000 in
theorem parts_any (A : Option Addr) (n cap : Nat) (w : World) (hn : n ≤ 9223372036854775807) (hE : Asks w A n) (hT : Table w) :
    Calls Tryd.prog 4 #[.slice A n cap] w fun e w' => e = .returned (.bool true) ∧ From w w' := by
  have HT := Lib.hid (fun w' (h : From w w') => hT.from_ h)
  clear hT
  go_enter Tryd.func4, Tryd.ntmps4
  go_wp2
  go_loopw [3] (fun i wr => ∃ k : Nat, k ≤ n ∧ i = .int .i64 k ∧ From w wr) (fun i _ => n - (intOf i).toNat)
  case atStart => exact ⟨0, by omega, rfl, From.rfl_⟩
  case round =>
    obtain ⟨k, hk, rfl, hw⟩ := hrel
    by_cases hlt : k < n ∧ k < 20
    · obtain ⟨hlt, h20⟩ := hlt
      obtain ⟨b, o, rfl, hb, hc⟩ := hE (by omega)
      obtain ⟨s, v, l, q, hat⟩ := hc k hlt
      have i1 : (0:Int) ≤ (k:Int) := by omega
      have i2 : (k:Int) < (n:Int) := by omega
      have hd : decide ((k : Int) < 20) = true := by simp; omega
      obtain ⟨B, cap2, rfl, hcap1, hcap2⟩ := hat.caps
      have d1 : ∀ w', From w w' → w'.cell? ⟨b, o + k * 3, none⟩ = some (.int .u32 (s.toNat : Int)) := fun w' h => (h.cells b _ hb).trans hat.c0
      have d2 : ∀ w', From w w' → w'.cell? ⟨b, o + k * 3 + 1, none⟩ = some (.slice B l.length cap2) := fun w' h => (h.cells b _ hb).trans hat.c1
      have d3 : ∀ w', From w w' → w'.cell? ⟨b, o + k * 3 + 2, none⟩ = some (.int .i64 q) := fun w' h => (h.cells b _ hb).trans hat.c2
      have HAT := Lib.hid hat
      clear hat hc hE
      by_cases hbig : 3000 < l.length
      · have hb2 : decide ((3000 : Int) < (l.length : Int)) = true := by simp; omega
        go_wp2
        go_roundw
        case rel => exact ⟨k + 1, by omega, by go_num, hw⟩
        case measure => simp [intOf]; omega
      · by_cases hzero : l.length = 0
        · have hb2 : decide ((3000 : Int) < (l.length : Int)) = false := by simp; omega
          have hb3 : ((l.length : Int) == 0) = true := by rw [beq_iff_eq]; omega
          have HZ := Lib.hid hzero
          clear hzero
          go_wp2
          go_roundw
          case rel => exact ⟨k + 1, by omega, by go_num, hw⟩
          case measure => simp [intOf]; omega
        · have hb2 : decide ((3000 : Int) < (l.length : Int)) = false := by simp; omega
          have hb3 : ((l.length : Int) == 0) = false := by rw [beq_eq_false_iff_ne]; omega
          have w1 : ∀ W, Calls Tryd.prog 11 #[.int .i64 q, .int .i64 ((l.length : Int) + 1)] W fun e w' => e = .returned (.int .i64 (wit q (l.length + 1) : Nat)) ∧ W = w' := fun W => by
            have h := within_any q (l.length + 1) W (by omega) (by omega)
            rw [Int.natCast_add] at h
            exact h
          have w2 := fun W => within_any q l.length W (by omega) (by omega)
          have w3 := fun W => within_any q 8 W (by omega) (by omega)
          have l1 := wit_lt q (n := l.length + 1) (by omega)
          have l2 := wit_lt q (n := l.length) (by omega)
          have l3 := wit_lt q (n := 8) (by omega)
          have W1 := Lib.hid w1
          have W2 := Lib.hid w2
          have W3 := Lib.hid w3
          clear w1 w2 w3
          have hall := fun w' (h : From w w') => sum_any s _ l w' (HAT.out.row.from_ h) HAT.out.bytes HAT.out.len (HT.out w' h)
          have H1 := Lib.hid hall
          clear hall
          have hc1 : wit q (l.length + 1) ≤ l.length := by omega
          have h2 := fun w' (h : From w w') => sum_any s _ _ w' (row_cut (HAT.out.row.from_ h) hc1) (fun b hb => HAT.out.bytes b (List.mem_of_mem_take hb)) (by rw [List.length_take]; omega) (HT.out w' h)
          have h3 := fun w' (h : From w w') => sum_any (sumF s (l.take (wit q (l.length + 1)))) _ _ w' (row_rest (HAT.out.row.from_ h) hc1 hcap1) (fun b hb => HAT.out.bytes b (List.mem_of_mem_drop hb)) (by rw [List.length_drop]; omega) (HT.out w' h)
          rw [sumF_parts, List.take_append_drop] at h3
          have h4 := fun w' (h : From w w') => sum_any s _ [] w' (Row.nil_ w') (fun b hb => by cases hb) (by simp) (HT.out w' h)
          rw [sumF_nil] at h4
          have H2 := Lib.hid h2
          have H3 := Lib.hid h3
          have H4 := Lib.hid h4
          clear h2 h3 h4
          have i3 : (0 : Int) ≤ ((wit q (l.length + 1) : Nat) : Int) := by omega
          have i4 : ((wit q (l.length + 1) : Nat) : Int) ≤ (l.length : Int) := by omega
          have i5 : (l.length : Int) ≤ (cap2 : Int) := by omega
          have i6 : ((wit q (l.length + 1) : Nat) : Int) ≤ (cap2 : Int) := by omega
          generalize (sumF s (l.take (wit q (l.length + 1)))).toNat = r1 at *
          generalize wit q (l.length + 1) = k1 at *
          rcases Nat.lt_or_ge k1 cap2 with hck0 | hck0
          · have hck : ¬ cap2 = k1 := by omega
            simp only [if_neg hck] at H3
            have hckF := eq_false hck
            clear hck hck0
            go_wp2_with (first
              | (go_at_call 11; (with_reducible refine (W1.out _).mono ?_); rintro e w9 ⟨rfl, rfl⟩)
              | (go_at_call 7; (with_reducible refine (H1.out _ (by assumption)).mono ?_); rintro e w2 ⟨rfl, hb9⟩; replace hb9 := From.next (a := w) (by assumption) hb9))
            go_region_held3 (fun w' => From w w')
              (first | assumption | exact From.d1 (by assumption) | exact From.dn (by assumption) _ | exact From.next (by assumption) (by assumption))
              (first
                | (go_at_call 7; (with_reducible refine (H4.out _ (by assumption)).mono ?_); rintro e w4 ⟨rfl, hb4⟩)
                | (go_at_call 7; (with_reducible refine (H2.out _ (by assumption)).mono ?_); rintro e w4 ⟨rfl, hb4⟩)
                | (go_at_call 7; (with_reducible refine (H3.out _ (by assumption)).mono ?_); rintro e w4 ⟨rfl, hb4⟩))
            have hcopy := fun w' (h : From w w') => copyBytes_any _ l w' (HAT.out.row.from_ h) (by omega)
            have HC := Lib.hid hcopy
            clear hcopy
            go_wp2_with (go_at_call 6; (with_reducible refine (HC.out _ (by assumption)).mono ?_); rintro e w5 ⟨v5, rfl, hown, hb5⟩)
            obtain ⟨g5, c5, rfl, hg5⟩ := own_head hown (by omega)
            have d4 : ∀ j (hj : j < l.length), w5.cell? ⟨g5, j, none⟩ = some (.int .u8 (l[j] : Nat)) := fun j hj => by
              have := hown.cellAt j (by omega)
              simpa [hj] using this
            have hfz := fun j => hown.frozenAt j
            have hw5 : From w w5 := From.next (a := w) (by assumption) hb5
            have W2' := fun W => (W2.out W).mono (R' := fun e w'' => e = .returned (.int .i64 (wit q l.length : Nat)) ∧ w'' = W) (fun _ _ h => ⟨h.1, h.2.symm⟩)
            have W3' := fun W => (W3.out W).mono (R' := fun e w'' => e = .returned (.int .i64 (wit q 8 : Nat)) ∧ w'' = W) (fun _ _ h => ⟨h.1, h.2.symm⟩)
            go_still_tail 20, (by kernel_rfl)
            still_call (W2' _)
            repeat still_step
            still_call (W3' _)
            repeat still_step
            refine wpStill_nil ?_
            change wpList _ _ _ _ _ w5.drew
            have d5 := d4 _ l2
            have d6 := hfz (wit q l.length)
            generalize wit q l.length = k2 at *
            generalize wit q 8 = k3 at *
            obtain ⟨x, hx, hx2, hx3⟩ := turn_byte (b := l[k2]) (k := k3) (HAT.out.bytes _ (List.getElem_mem l2)) l3
            have HX2 := Lib.hid (And.intro hx2 hx3)
            clear hx2 hx3
            have row6 : Row (w5.setCell ⟨g5, k2, none⟩ (.int .u8 (x : Nat))) (.slice (some ⟨g5, 0, none⟩) l.length c5) (bytesV (l.set k2 x)) := by
              have h := Row.of_own (hown.stored k2 (.int .u8 (x : Nat))).1
              simpa [bytesV, List.map_set] using h
            have hw6 : From w (w5.setCell ⟨g5, k2, none⟩ (.int .u8 (x : Nat))) := From.set_ hw5 (Nat.le_trans (From.size (a := w) (by assumption)) hg5) _
            have h5 := fun w' (h : From (w5.setCell ⟨g5, k2, none⟩ (.int .u8 (x : Nat))) w') => sum_any s _ _ w' (row6.from_ h) (bytes_set HAT.out.bytes HX2.out.1) (by rw [List.length_set]; omega) (HT.out w' (hw6.next h))
            have hne := sumF_turn (s := s) HAT.out.bytes l2 HX2.out.1 HX2.out.2
            have hne2 : (((sumF s (l.set k2 x)).toNat : Int) == ((sumF s l).toNat : Int)) = false := by
              rw [beq_eq_false_iff_ne]
              intro e
              exact hne (BitVec.eq_of_toNat_eq (by omega))
            have H5 := Lib.hid h5
            have hw7 := hw6.d1
            clear hne h5 row6
            generalize (sumF s (l.set k2 x)).toNat = r5 at *
            go_wp2_with (go_at_call 7; (with_reducible refine (H5.out _ (From.d1 From.rfl_)).mono ?_); rintro e w8 ⟨rfl, hb8⟩)
            go_roundw
            case rel => exact ⟨k + 1, by omega, by go_num, hw7.next hb8⟩
            case measure => simp [intOf]; omega
          · obtain rfl : k1 = l.length := by omega
            obtain rfl : cap2 = l.length := by omega
            simp only [if_pos, Nat.sub_self] at H3
            clear hck0
            go_wp2_with (first
              | (go_at_call 11; (with_reducible refine (W1.out _).mono ?_); rintro e w9 ⟨rfl, rfl⟩)
              | (go_at_call 7; (with_reducible refine (H1.out _ (by assumption)).mono ?_); rintro e w2 ⟨rfl, hb9⟩; replace hb9 := From.next (a := w) (by assumption) hb9))
            go_region_held3 (fun w' => From w w')
              (first | assumption | exact From.d1 (by assumption) | exact From.dn (by assumption) _ | exact From.next (by assumption) (by assumption))
              (first
                | (go_at_call 7; (with_reducible refine (H4.out _ (by assumption)).mono ?_); rintro e w4 ⟨rfl, hb4⟩)
                | (go_at_call 7; (with_reducible refine (H2.out _ (by assumption)).mono ?_); rintro e w4 ⟨rfl, hb4⟩)
                | (go_at_call 7; (with_reducible refine (H3.out _ (by assumption)).mono ?_); rintro e w4 ⟨rfl, hb4⟩))
            have hcopy := fun w' (h : From w w') => copyBytes_any _ l w' (HAT.out.row.from_ h) (by omega)
            have HC := Lib.hid hcopy
            clear hcopy
            go_wp2_with (go_at_call 6; (with_reducible refine (HC.out _ (by assumption)).mono ?_); rintro e w5 ⟨v5, rfl, hown, hb5⟩)
            obtain ⟨g5, c5, rfl, hg5⟩ := own_head hown (by omega)
            have d4 : ∀ j (hj : j < l.length), w5.cell? ⟨g5, j, none⟩ = some (.int .u8 (l[j] : Nat)) := fun j hj => by
              have := hown.cellAt j (by omega)
              simpa [hj] using this
            have hfz := fun j => hown.frozenAt j
            have hw5 : From w w5 := From.next (a := w) (by assumption) hb5
            have W2' := fun W => (W2.out W).mono (R' := fun e w'' => e = .returned (.int .i64 (wit q l.length : Nat)) ∧ w'' = W) (fun _ _ h => ⟨h.1, h.2.symm⟩)
            have W3' := fun W => (W3.out W).mono (R' := fun e w'' => e = .returned (.int .i64 (wit q 8 : Nat)) ∧ w'' = W) (fun _ _ h => ⟨h.1, h.2.symm⟩)
            go_still_tail 20, (by kernel_rfl)
            still_call (W2' _)
            repeat still_step
            still_call (W3' _)
            repeat still_step
            refine wpStill_nil ?_
            change wpList _ _ _ _ _ w5.drew
            have d5 := d4 _ l2
            have d6 := hfz (wit q l.length)
            generalize wit q l.length = k2 at *
            generalize wit q 8 = k3 at *
            obtain ⟨x, hx, hx2, hx3⟩ := turn_byte (b := l[k2]) (k := k3) (HAT.out.bytes _ (List.getElem_mem l2)) l3
            have HX2 := Lib.hid (And.intro hx2 hx3)
            clear hx2 hx3
            have row6 : Row (w5.setCell ⟨g5, k2, none⟩ (.int .u8 (x : Nat))) (.slice (some ⟨g5, 0, none⟩) l.length c5) (bytesV (l.set k2 x)) := by
              have h := Row.of_own (hown.stored k2 (.int .u8 (x : Nat))).1
              simpa [bytesV, List.map_set] using h
            have hw6 : From w (w5.setCell ⟨g5, k2, none⟩ (.int .u8 (x : Nat))) := From.set_ hw5 (Nat.le_trans (From.size (a := w) (by assumption)) hg5) _
            have h5 := fun w' (h : From (w5.setCell ⟨g5, k2, none⟩ (.int .u8 (x : Nat))) w') => sum_any s _ _ w' (row6.from_ h) (bytes_set HAT.out.bytes HX2.out.1) (by rw [List.length_set]; omega) (HT.out w' (hw6.next h))
            have hne := sumF_turn (s := s) HAT.out.bytes l2 HX2.out.1 HX2.out.2
            have hne2 : (((sumF s (l.set k2 x)).toNat : Int) == ((sumF s l).toNat : Int)) = false := by
              rw [beq_eq_false_iff_ne]
              intro e
              exact hne (BitVec.eq_of_toNat_eq (by omega))
            have H5 := Lib.hid h5
            have hw7 := hw6.d1
            clear hne h5 row6
            generalize (sumF s (l.set k2 x)).toNat = r5 at *
            go_wp2_with (go_at_call 7; (with_reducible refine (H5.out _ (From.d1 From.rfl_)).mono ?_); rintro e w8 ⟨rfl, hb8⟩)
            go_roundw
            case rel => exact ⟨k + 1, by omega, by go_num, hw7.next hb8⟩
            case measure => simp [intOf]; omega
    · rcases (show ¬ k < n ∨ (k < n ∧ ¬ k < 20) by omega) with h1 | ⟨h1, h2⟩
      all_goals
        clear hlt
        go_wp2_with (go_at_call 10; (with_reducible refine (wakes _ (HT.out _ hw)).mono ?_); rintro e w1 ⟨rfl, hb1⟩)
        go_ret
        exact ⟨rfl, hw.next hb1⟩
/-- A WORLD FOR THE WITNESS: the settled one, the variables holding what their initialisers lay. -/
noncomputable def SumParts_world (os : Os) : World :=
  { World.holding Tryd.prog os ⟨#[], #[], []⟩ with heap := (World.holding Tryd.prog os ⟨#[], #[], []⟩).heap.modify 0 fun | .cells _ t frozen => .cells #[.int .u32 0, .int .u32 498536548, .int .u32 997073096, .int .u32 651767980, .int .u32 1994146192, .int .u32 1802195444, .int .u32 1303535960, .int .u32 1342533948, .int .u32 3988292384, .int .u32 4027552580, .int .u32 3604390888, .int .u32 3412177804, .int .u32 2607071920, .int .u32 2262029012, .int .u32 2685067896, .int .u32 3183342108] t frozen | o => o }
theorem SumParts_met (os : Os) : laidMet Tryd.prog Rows.sumPartsRow.laid ((SumParts_world os).forCall (fun _ _ => 0) ⟨#[], #[.slice none 0 0], []⟩).memory :=
  laidMet_of_run' 8 (by kernel_rfl) (by kernel_rfl)
theorem SumParts_reads (os : Os) {H : Type} (enc : TypeId × Value → H) : ∃ places, DataW.whole enc Tryd.prog ((SumParts_world os).forCall (fun _ _ => 0) ⟨#[], #[.slice none 0 0], []⟩).memory Tryd.f4.params.toList Rows.sumPartsSpec.vars false #[(.slice none 0 0 : Value)].toList 8 = some ([.nil], [], places) :=
  ⟨[], by kernel_rfl⟩

set_option maxRecDepth 100000 in
theorem SumParts_lifted (os : Os) (started : os.Started) (H : Type) (enc : TypeId × Value → H) (F : Stop.Interp) :
    ReturnsInHanded {} Tryd.checked os 4 .any ((OpenSpec.ofChange Rows.sumPartsSpec).preRow enc Tryd.prog Tryd.f4 Rows.sumPartsRow.domain false Rows.sumPartsRow.laid) (((OpenSpec.ofChange Rows.sumPartsSpec).at F).post enc Tryd.prog Tryd.f4 false true false false) := by
  obtain ⟨places, hx⟩ := SumParts_reads os enc
  refine returnsInHanded_of_row (C := Tryd.checked) (s := OpenSpec.ofChange Rows.sumPartsSpec) Tryd.own started (by kernel_rfl) Tryd.func4
    (witness_row_at (enc := enc) (C := Tryd.checked) false (SumParts_world os) #[.slice none 0 0] rfl (by kernel_rfl) (by kernel_rfl) (by kernel_rfl)
      (OpenSpec.preRow_of_cond 8 hx (by kernel_rfl) (fun k hk => by cases hk) (by kernel_rfl) (SumParts_met os))) ?_
  intro W base args ds gs before hval hW _ _ hsz hL hS _
  exact law_step_laid 4 Tryd.f4 22 4 Rows.sumPartsSpec Tryd.params4 (by kernel_rfl) Tryd.underlying4 rfl (fun _ => rfl) (by kernel_rfl) (of_decide_eq_true (by kernel_rfl)) Rows.sumPartsRow.laid (walk_of parts_any) W base args ds gs before hval hW hsz hL hS

theorem SumParts_said : Rows.SumPartsSaid :=
  OpenClaim.holds_of_cond 4 Tryd.f4 rfl rfl rfl rfl rfl rfl rfl ⟨rfl, rfl, rfl, rfl, rfl⟩ rfl rfl rfl rfl rfl (by kernel_rfl) Tryd.func4 (by kernel_rfl)
    (of_decide_eq_true (by kernel_rfl)) (by unfold Func.isWrapper; first | (rw [if_pos (by decide +kernel)]; kernel_rfl) | (rw [if_neg (by decide +kernel)]; exact ⟨rfl, rfl⟩))
    (fun os started H enc _ F => by rw [OpenClaim.pre_eq_preRow]; exact SumParts_lifted os started H enc F)

theorem SumParts_plain (f : FuncId) (fn : Func) (hf : Tryd.pinned.checked.prog.funcNamed "lectern/lecternlaw9.SumParts" = some f) (hfn : Tryd.pinned.checked.prog.funcs[f]? = some fn) :
    false = Tryd.pinned.checked.prog.looks [] ∧ ∀ (j : Nat) t, fn.params[j]? = some t → Tryd.pinned.checked.prog.wantsStandIn t = false := by
  obtain rfl : f = 4 := Option.some.inj ((show Tryd.prog.funcNamed "lectern/lecternlaw9.SumParts" = some 4 by kernel_rfl).symm.trans hf) |>.symm
  obtain rfl : fn = Tryd.f4 := (Option.some.inj (Tryd.func4.symm.trans hfn)).symm
  refine ⟨by kernel_rfl, fun j t ht => ?_⟩
  rw [Tryd.params4] at ht
  obtain rfl : t = 22 := by simpa using Array.mem_of_getElem? ht
  exact (show Tryd.prog.wantsStandIn 22 = false by kernel_rfl)

theorem SumParts_holds : Rows.SumPartsCardSaid :=
  Claim7.holds_tied_plain_at .later [] _ _ _ _ SumParts_said (fun _ h => by cases h) (by kernel_rfl) (fun _ h => by cases h) sumParts_row_tie rfl ⟨rfl, rfl⟩ (by kernel_rfl) rfl SumParts_plain (by kernel_rfl)
#print axioms SumParts_holds

end Go.Proofs.YtkhiookiibjklaaDoor
