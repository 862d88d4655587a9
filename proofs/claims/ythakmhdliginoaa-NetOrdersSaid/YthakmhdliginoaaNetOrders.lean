/- The law NetOrders. -/
import Derived.Test.YthakmhdliginoaaNetWakes
namespace Go.Proofs.Ythakmhdliginoaa
open Go.RowKit
open Go.ChangeShapes Go.WideShapes Go.ChangeAt
theorem NetOrders_e27 : elemQ Try.prog 27 = some (33, 13) := by kernel_rfl
theorem NetOrders_p24 : Try.prog.underlying 24 = some (.pointer (Try.prog.pointee 24)) := by kernel_rfl
theorem NetOrders_k7 : callable Try.prog 7 = true := by kernel_rfl
theorem NetOrders_b33_0cinti642_3 : ∀ (a0 : Int), Try.prog.built 33 [(0, .int .i64 2), (3, .int .i64 a0)] = some #[.int .i64 2, .int .i64 0, .int .i64 0, .int .i64 a0, .int .i64 0, .int .i64 0, .int .i64 0, .int .i64 0, .bool false, .slice none 0 0, .int .i64 0, .string ⟨#[]⟩, .bool false] := by intros; kernel_rfl
theorem NetOrders_k15 : callable Try.prog 15 = true := by kernel_rfl
theorem NetOrders_k18 : callable Try.prog 18 = true := by kernel_rfl
theorem NetOrders_k9 : callable Try.prog 9 = true := by kernel_rfl
theorem NetOrders_l27 : (elemQ Try.prog 27).isSome = true := by kernel_rfl
theorem NetOrders_f33_3 : fieldQ Try.prog 33 3 = some 3 := by kernel_rfl
theorem NetOrders_g3 : aggQ Try.prog 3 = some false := by kernel_rfl
theorem NetOrders_b33_0cinti642 : Try.prog.built 33 [(0, .int .i64 2)] = some #[.int .i64 2, .int .i64 0, .int .i64 0, .int .i64 0, .int .i64 0, .int .i64 0, .int .i64 0, .int .i64 0, .bool false, .slice none 0 0, .int .i64 0, .string ⟨#[]⟩, .bool false] := by kernel_rfl
theorem NetOrders_k13 : callable Try.prog 13 = true := by kernel_rfl
theorem NetOrders_l22 : (elemQ Try.prog 22).isSome = true := by kernel_rfl
theorem NetOrders_k19 : callable Try.prog 19 = true := by kernel_rfl
def LO (n : Nat) : Pars := (List.range n).map fun j => (mK 2 (j : Nat), 1)
theorem lo_len (n : Nat) : (LO n).length = n := by simp [LO]
theorem lo_at (n i : Nat) (h : i < (LO n).length) : (LO n)[i] = (mK 2 (i : Nat), 1) := by simp [LO]
theorem lo_sorted (n : Nat) : Sorted (LO n) := fun i j hi hj _ => by rw [lo_at, lo_at]; exact Int.le_refl _
theorem lo_due (n : Nat) (x : Int) (h : 1 ≤ x) : dueN (LO n) x = n := by
  unfold dueN LO
  rw [List.countP_map, List.countP_eq_length.2]
  · simp
  · intro a _
    simpa using h
theorem lo_put (k : Nat) : putAll (mK 2 (k : Nat)) (timesOf 0 0) (LO (min k 4096)) = LO (min (k + 1) 4096) := by
  have ht : timesOf 0 0 = [1] := by decide
  rw [ht]
  show put1 (LO (min k 4096)) (mK 2 (k : Nat), 1) = _
  unfold put1
  rw [lo_len]
  by_cases h : k < 4096
  · rw [if_neg (by omega), Nat.min_eq_left (by omega), Nat.min_eq_left (by omega)]
    show List.take (dueN (LO k) 1) (LO k) ++ [(mK 2 (k : Nat), 1)] ++ List.drop (dueN (LO k) 1) (LO k) = _
    rw [lo_due k 1 (by decide), List.take_of_length_le (by rw [lo_len]; omega), List.drop_of_length_le (by rw [lo_len]; omega), List.append_nil]
    unfold LO
    rw [List.range_succ, List.map_append]
    rfl
  · rw [if_pos (by omega), Nat.min_eq_right (by omega), Nat.min_eq_right (by omega)]
theorem lo_msgs (n : Nat) : ((LO n).take n).map (·.1) = (List.range n).map fun j => mK 2 (j : Nat) := by
  rw [List.take_of_length_le (by rw [lo_len]; omega)]
  unfold LO
  rw [List.map_map]
  rfl
theorem lo_drop (n : Nat) : (LO n).drop n = [] := List.drop_of_length_le (by rw [lo_len]; omega)
set_option maxRecDepth 100000 in
set_option maxHeartbeats 600000 in
theorem netOrders_law (A : Option Addr) (ca n0 : Nat) (w : World) (hn0 : n0 ≤ 140737488351232) :
    Rt Try.prog 5 [.slice A n0 ca] w (fun v w' => v = .bool true ∧ From w w') := by
  refine enter (n := 63) Try.func5 rfl rfl rfl ?_
  refine cd_seq ?_
  refine cd_region ?_
  refine st_val (ro_assign (v := .bool _) rfl) ?_
  refine st_nil ?_
  refine nx_then ?_
  refine cd_seq ?_
  refine cd_region ?_
  refine st_call NetOrders_k7 (new_at _) ?_
  rintro v7 w1 ⟨⟨b, rfl, hn7⟩, E7⟩
  refine st_val (ro_assign (v := .pointer _) rfl) ?_
  refine st_nil ?_
  refine nx_then ?_
  refine cd_seq ?_
  refine cd_seq ?_
  refine cd_region ?_
  refine st_val (ro_move (v := .pointer _) rfl) ?_
  refine st_val (ro_bf (ro_eqlNil NetOrders_p24 rfl rfl) rfl) ?_
  refine st_nil ?_
  refine nx_then ?_
  refine cd_condF rfl ?_
  refine cd_skip ?_
  refine nx_then ?_
  refine cd_seq ?_
  refine cd_seq ?_
  refine cd_region ?_
  refine st_val (ro_assign (v := .int _ _) rfl) ?_
  refine st_nil ?_
  refine nx_then ?_
  refine cd_block ?_
  refine cd_loop (G := Nat × Option Addr × Nat) [10, 11, 12, 13, 14, 15, 16, 17] (fun (k, _, _) => [(4, .int .i64 (k : Nat))]) (fun (k, A', c') w' => k ≤ 5000 ∧ NetAt w' w.heap.size b A' c' (LO (min k 4096)) ∧ From w w') (fun (k, _, _) => 5000 - k) ((0, none, 0)) ⟨rfl, trivial⟩ ?_ ?_
  · exact ⟨Nat.zero_le _, hn7, (From.rfl_.next E7)⟩
  rintro ⟨k, A', c'⟩ ρ2 w2 ⟨hk, hn, hB⟩
  refine cd_seq ?_
  refine cd_seq ?_
  refine cd_region ?_
  refine st_val (ro_move (v := .int _ _) rfl) ?_
  refine st_val (ro_lss rfl rfl) ?_
  refine st_nil ?_
  refine nx_then ?_
  refine cd_cond rfl (fun Q3 => ?_) (fun Q3 => ?_)
  · (try with_reducible first | replace Q3 := bn_t Q3 | replace Q3 := bn_f Q3)
    (try with_reducible first | replace Q3 := bx_t Q3 | replace Q3 := bx_f Q3 | replace Q3 := be_t Q3 | replace Q3 := be_f Q3 | replace Q3 := of_decide_eq_true Q3 | replace Q3 := of_decide_eq_false Q3)
    refine cd_skip ?_
    refine nx_then ?_
    refine cd_seq ?_
    refine cd_block ?_
    refine cd_region ?_
    refine st_val (ro_move (v := .pointer _) rfl) ?_
    refine st_val (ro_move (v := .int _ _) rfl) ?_
    refine st_val (ro_build (l := [(0, .const (.int .i64 2)), (3, .tmp 15)]) (NetOrders_b33_0cinti642_3 _)) ?_
    refine st_call NetOrders_k15 (put_n w.heap.size b A' c' _ _ hn (by rw [lo_len]; omega) (lo_sorted _) (mK 2 (k : Nat)) 0 0 (by decide) (by decide) _ (lo_put k)) ?_
    rintro v17 w4 ⟨rfl, ⟨A17, c17, hn17⟩, hK17⟩
    refine st_nil ?_
    refine nx_block ?_
    refine nx_then ?_
    refine cd_region ?_
    refine st_val (ro_move (v := .int _ _) rfl) ?_
    refine st_val (ro_addN (b := 1) rfl rfl (by omega)) ?_
    refine st_val (ro_assign (v := .int _ _) rfl) ?_
    refine st_nil ?_
    refine nx_cut ((k + 1, A17, c17)) ⟨(by first | rfl | (refine int_eq ?_; omega)), trivial⟩ (by (iterate 18 refine agr_cons rfl ?_); exact agr_rfl) ⟨?_, ?_⟩
    · exact ⟨by omega, hn17, (hK17.from_ hB (Nat.le_refl _))⟩
    · show 5000 - (k + 1) < 5000 - k; omega
  · (try with_reducible first | replace Q3 := bn_t Q3 | replace Q3 := bn_f Q3)
    (try with_reducible first | replace Q3 := bx_t Q3 | replace Q3 := bx_f Q3 | replace Q3 := be_t Q3 | replace Q3 := be_f Q3 | replace Q3 := of_decide_eq_true Q3 | replace Q3 := of_decide_eq_false Q3)
    have e40 : min k 4096 = 4096 := by omega
    have hn' := hn
    rw [e40] at hn'
    refine cd_exit ?_
    refine ex_then ?_
    refine ex_then ?_
    refine ex_block ?_
    refine nx_then ?_
    refine cd_seq ?_
    refine cd_seq ?_
    refine cd_region ?_
    refine st_val (ro_move (v := .pointer _) rfl) ?_
    refine st_call NetOrders_k18 (count_n w.heap.size b A' c' (LO 4096) _ hn' 4096 (lo_len _)) ?_
    rintro v19 w5 ⟨rfl, rfl⟩
    refine st_val (ro_bf (ro_neq rfl rfl) (by decide)) ?_
    refine st_nil ?_
    refine nx_then ?_
    refine cd_condF rfl ?_
    refine cd_skip ?_
    refine nx_then ?_
    refine cd_seq ?_
    refine cd_region ?_
    refine st_val (ro_move (v := .pointer _) rfl) ?_
    refine st_call NetOrders_k9 (take_n w.heap.size b A' c' (LO 4096) _ hn' (by rw [lo_len]; decide) (lo_sorted _) 1 4096 (lo_due _ 1 (by decide))) ?_
    rintro v22 w6 ⟨⟨A22, c22, rfl, ho22⟩, ⟨A23, c23, hn22⟩, hK22⟩
    rw [lo_msgs] at ho22
    rw [lo_drop] at hn22
    obtain ⟨XS, hXS⟩ : ∃ XS : List Msg, XS = (List.range 4096).map fun j => mK 2 (j : Nat) := ⟨_, rfl⟩
    rw [← hXS] at ho22
    have hrw := (row_own ho22).2
    have hXl : XS.length = 4096 := (row_own ho22).1
    have hXa : ∀ i (h : i < XS.length), XS[i] = mK 2 (i : Nat) := fun i h => by subst hXS; rw [List.getElem_map, List.getElem_range]
    clear hXS
    refine st_val (ro_assign (v := .slice _ _ _) rfl) ?_
    refine st_nil ?_
    refine nx_then ?_
    refine cd_seq ?_
    refine cd_seq ?_
    refine cd_region ?_
    refine st_val (ro_assign (v := .int _ _) rfl) ?_
    refine st_nil ?_
    refine nx_then ?_
    refine cd_block ?_
    refine cd_loop (G := Nat) [2, 23, 24, 25, 26, 27, 28, 29, 30, 31, 32, 33, 34, 35] (fun k => [(6, .int .i64 (k : Nat))]) (fun k w' => k ≤ 4096 ∧ w6 = w') (fun k => 4096 - k) (0) ⟨rfl, trivial⟩ ?_ ?_
    · exact ⟨Nat.zero_le _, rfl⟩
    rintro i ρ7 w7 ⟨hi, rfl⟩
    refine cd_seq ?_
    refine cd_seq ?_
    refine cd_region ?_
    refine st_val (ro_move (v := .int _ _) rfl) ?_
    refine st_val (ro_move (v := .slice _ _ _) rfl) ?_
    refine st_val (ro_len NetOrders_l27 rfl) ?_
    refine st_val (ro_lss rfl rfl) ?_
    refine st_nil ?_
    refine nx_then ?_
    refine cd_cond rfl (fun Q8 => ?_) (fun Q8 => ?_)
    · (try with_reducible first | replace Q8 := bn_t Q8 | replace Q8 := bn_f Q8)
      (try with_reducible first | replace Q8 := bx_t Q8 | replace Q8 := bx_f Q8 | replace Q8 := be_t Q8 | replace Q8 := be_f Q8 | replace Q8 := of_decide_eq_true Q8 | replace Q8 := of_decide_eq_false Q8)
      obtain ⟨bx, ox, hAx, hcx⟩ := hrw (by omega)
      subst hAx
      have hvx := hcx i (by omega)
      rw [hXa] at hvx
      refine cd_skip ?_
      refine nx_then ?_
      refine cd_seq ?_
      refine cd_block ?_
      refine cd_seq ?_
      refine cd_region ?_
      refine st_val (ro_move (v := .slice _ _ _) rfl) ?_
      refine st_val (ro_move (v := .int _ _) rfl) ?_
      refine st_val (ro_indexAddrN NetOrders_e27 rfl rfl (by omega)) ?_
      refine st_val (ro_fieldAddr NetOrders_f33_3 rfl) ?_
      refine st_val (ro_load NetOrders_g3 rfl (by exact hvx 3 _ rfl)) ?_
      refine st_val (ro_move (v := .int _ _) rfl) ?_
      refine st_val (ro_bf (ro_neq rfl rfl) (bne_self_eq_false _)) ?_
      refine st_nil ?_
      refine nx_then ?_
      refine cd_condF rfl ?_
      refine cd_skip ?_
      refine nx_block ?_
      refine nx_then ?_
      refine cd_region ?_
      refine st_val (ro_move (v := .int _ _) rfl) ?_
      refine st_val (ro_addN (b := 1) rfl rfl (by omega)) ?_
      refine st_val (ro_assign (v := .int _ _) rfl) ?_
      refine st_nil ?_
      refine nx_cut (i + 1) ⟨(by first | rfl | (refine int_eq ?_; omega)), trivial⟩ (by (iterate 29 refine agr_cons rfl ?_); exact agr_rfl) ⟨?_, ?_⟩
      · exact ⟨by omega, rfl⟩
      · omega
    · (try with_reducible first | replace Q8 := bn_t Q8 | replace Q8 := bn_f Q8)
      (try with_reducible first | replace Q8 := bx_t Q8 | replace Q8 := bx_f Q8 | replace Q8 := be_t Q8 | replace Q8 := be_f Q8 | replace Q8 := of_decide_eq_true Q8 | replace Q8 := of_decide_eq_false Q8)
      refine cd_exit ?_
      refine ex_then ?_
      refine ex_then ?_
      refine ex_block ?_
      refine nx_then ?_
      refine cd_seq ?_
      refine cd_region ?_
      refine st_val (ro_move (v := .pointer _) rfl) ?_
      refine st_val (ro_build (l := [(0, .const (.int .i64 2))]) (NetOrders_b33_0cinti642)) ?_
      refine st_call NetOrders_k15 (put_n w.heap.size b A23 c23 [] _ hn22 (by simp) sorted_nil (mK 2 0) 1 0 (by decide) (by decide) _ (put_first _ 1)) ?_
      rintro v38 w9 ⟨rfl, ⟨A38, c38, hn38⟩, hK38⟩
      refine st_nil ?_
      refine nx_then ?_
      refine cd_seq ?_
      refine cd_region ?_
      refine st_val (ro_move (v := .pointer _) rfl) ?_
      refine st_call NetOrders_k13 (clear_rt w.heap.size b A38 c38 _ _ hn38) ?_
      rintro v40 w10 ⟨rfl, hn40, hK40⟩
      refine st_nil ?_
      refine nx_then ?_
      refine cd_seq ?_
      refine cd_region ?_
      refine st_val (ro_move (v := .slice _ _ _) rfl) ?_
      refine st_val (ro_len NetOrders_l27 rfl) ?_
      refine st_val (ro_bt (ro_eql rfl rfl) rfl) ?_
      refine st_val (ro_move (v := .bool _) rfl) ?_
      refine st_unguard rfl ?_
      refine st_val (ro_move (v := .pointer _) rfl) ?_
      refine st_unguard rfl ?_
      refine st_call NetOrders_k18 (count_n w.heap.size b none 0 [] _ hn40 0 rfl) ?_
      rintro v46 w11 ⟨rfl, rfl⟩
      refine st_unguard rfl ?_
      refine st_val (ro_bt (ro_eql rfl rfl) rfl) ?_
      refine st_val (ro_pickT (v := .bool _) rfl rfl) ?_
      refine st_val (ro_move (v := .bool _) rfl) ?_
      refine st_unguard rfl ?_
      refine st_val (ro_move (v := .pointer _) rfl) ?_
      refine st_unguard rfl ?_
      refine st_call NetOrders_k9 (take_n w.heap.size b none 0 [] _ hn40 (by simp) sorted_nil 100 0 rfl) ?_
      rintro v51 w12 ⟨⟨A51, c51, rfl, ho51⟩, ⟨A52, c52, hn51⟩, hK51⟩
      refine st_unguard rfl ?_
      refine st_val (ro_len NetOrders_l27 rfl) ?_
      refine st_unguard rfl ?_
      refine st_val (ro_bt (ro_eql rfl rfl) rfl) ?_
      refine st_val (ro_pickT (v := .bool _) rfl rfl) ?_
      refine st_val (ro_move (v := .bool _) rfl) ?_
      refine st_unguard rfl ?_
      refine st_val (ro_move (v := .slice _ _ _) rfl) ?_
      refine st_unguard rfl ?_
      refine st_val (ro_len NetOrders_l22 rfl) ?_
      refine st_unguard rfl ?_
      refine st_val (ro_bt (ro_geq rfl rfl) (decide_eq_true (by omega))) ?_
      refine st_val (ro_pickT (v := .bool _) rfl rfl) ?_
      refine st_val (ro_move (v := .bool _) rfl) ?_
      refine st_unguard rfl ?_
      refine st_call NetOrders_k19 (wakes_any _) ?_
      rintro v61 w13 ⟨rfl, E61⟩
      refine st_val (ro_pickT (v := .bool _) rfl rfl) ?_
      refine st_val (ro_assign (v := .bool _) rfl) ?_
      refine st_nil ?_
      refine nx_then ?_
      refine cd_ret ?_
      refine res1 (v := .bool _) rfl rfl ?_
      first
        | exact ⟨rfl, ((hK51.from_ (hK40.from_ (hK38.from_ (hK22.from_ hB (Nat.le_refl _)) (Nat.le_refl _)) (Nat.le_refl _)) (Nat.le_refl _)).next E61)⟩
        | exact absurd rfl (by simp_all)
theorem netOrders_arg (A : Option Addr) (c : Nat) (xs : List actT.den) (w : World) (hb : xs.length * actT.bytes ≤ 140737488351232) (_h : 0 < xs.length → ∃ b o, A = some ⟨b, o, none⟩ ∧ ∀ (i : Nat) (hi : i < xs.length), actT.At w (fun j => w.cell? ⟨b, o + i * actT.size + j, none⟩) xs[i]) :
    Rt Try.prog 5 [.slice A xs.length c] w fun v w' => v = .bool true ∧ From w w' := netOrders_law A c xs.length w (Nat.le_trans (Nat.le_mul_of_pos_right _ (by decide : 0 < actT.bytes)) hb)
set_option maxRecDepth 100000 in
theorem NetOrders_lifted (os : Os) (started : os.Started) (H : Type) (enc : TypeId × Value → H) :
    ReturnsInHanded {} Try.checked os 5 .any (Rows.netOrdersSpec.pre6 enc Try.prog Try.f5 Rows.netOrdersRow.domain false) (Rows.netOrdersSpec.post enc Try.prog Try.f5 false true false false) := by
  refine returnsInHanded_of_change_sized (C := Try.checked) Try.own started (by kernel_rfl) Try.func5
    (ChangeSpec.witness6 (enc := enc) (C := Try.checked) false ⟨#[], #[.slice none 0 0], []⟩ 8 (by kernel_rfl) (by kernel_rfl) (by kernel_rfl) (by kernel_rfl)) ?_
  intro W base args ds gs before hval hW _ hsz _
  exact law_step 5 Try.f5 22 4 Rows.netOrdersSpec Try.params5 (by kernel_rfl) Try.underlying4 rfl (fun _ => rfl) (by kernel_rfl) (of_decide_eq_true (by kernel_rfl)) (walk_sl actT (by kernel_rfl) netOrders_arg) W base args ds gs before hval hW hsz

theorem NetOrders_holds : Rows.NetOrdersSaid :=
  OpenClaim.holds_of_wide 5 Try.f5 rfl rfl rfl rfl rfl rfl rfl ⟨rfl, rfl, rfl, rfl, rfl⟩ rfl rfl rfl rfl rfl (by kernel_rfl) Try.func5 (by kernel_rfl)
    (of_decide_eq_true (by kernel_rfl)) (by unfold Func.isWrapper; first | (rw [if_pos (by decide +kernel)]; kernel_rfl) | (rw [if_neg (by decide +kernel)]; exact ⟨rfl, rfl⟩))
    (fun os started H enc _ => NetOrders_lifted os started H enc)
#print axioms NetOrders_holds

end Go.Proofs.Ythakmhdliginoaa
