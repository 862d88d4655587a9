/- The law SessionOnce. -/
import Derived.Test.YtbikemhokgcboaaSesOnceU
namespace Go.Proofs.Ytbikemhokgcboaa
open Go.RowKit
open Go.ChangeShapes Go.WideShapes Go.ChangeAt
theorem SesOnce_s3 : (Try.prog.underlying 3).isSome = true := by kernel_rfl
theorem SesOnce_i65 : Try.prog.underlying 65 = some (.int .u64) := by kernel_rfl
theorem SesOnce_s65 : (Try.prog.underlying 65).isSome = true := by kernel_rfl
theorem SesOnce_i3 : Try.prog.underlying 3 = some (.int .i64) := by kernel_rfl
theorem SesOnce_e55 : elemQ Try.prog 55 = some (3, 1) := by kernel_rfl
theorem SesOnce_l55 : (elemQ Try.prog 55).isSome = true := by kernel_rfl
theorem SesOnce_g3 : aggQ Try.prog 3 = some false := by kernel_rfl
theorem SesOnce_q55 : litQ Try.prog 55 = some (3, 1, 8, (.int .i64 0)) := by kernel_rfl
theorem SesOnce_k29 : callable Try.prog 29 = true := by kernel_rfl
theorem SesOnce_l23 : (elemQ Try.prog 23).isSome = true := by kernel_rfl
theorem SesOnce_e23 : elemQ Try.prog 23 = some (33, 7) := by kernel_rfl
theorem SesOnce_g33 : aggQ Try.prog 33 = some true := by kernel_rfl
theorem SesOnce_z33 : sizeQ Try.prog 33 = some 7 := by kernel_rfl
theorem SesOnce_o33 : zeroQ Try.prog 33 = some (.agg #[.int .i64 0, .int .i64 0, .int .i64 0, .int .i64 0, .int .i64 0, .int .i64 0, .slice none 0 0]) := by kernel_rfl
theorem SesOnce_f33_0 : fieldQ Try.prog 33 0 = some 0 := by kernel_rfl
theorem SesOnce_k14 : callable Try.prog 14 = true := by kernel_rfl
theorem SesOnce_k26 : callable Try.prog 26 = true := by kernel_rfl
theorem SesOnce_k12 : callable Try.prog 12 = true := by kernel_rfl
theorem SesOnce_k16 : callable Try.prog 16 = true := by kernel_rfl
theorem SesOnce_o31 : zeroQ Try.prog 31 = some (.agg #[.int .i64 0, .int .i64 0, .slice none 0 0]) := by kernel_rfl
theorem SesOnce_z31 : sizeQ Try.prog 31 = some 3 := by kernel_rfl
theorem SesOnce_f33_1 : fieldQ Try.prog 33 1 = some 1 := by kernel_rfl
theorem SesOnce_b31_1 : ∀ (a0 : Int), Try.prog.built 31 [(1, .int .i64 a0)] = some #[.int .i64 0, .int .i64 a0, .slice none 0 0] := by intros; kernel_rfl
theorem SesOnce_g31 : aggQ Try.prog 31 = some true := by kernel_rfl
theorem SesOnce_k20 : callable Try.prog 20 = true := by kernel_rfl
theorem SesOnce_k17 : callable Try.prog 17 = true := by kernel_rfl
theorem SesOnce_f33_2 : fieldQ Try.prog 33 2 = some 2 := by kernel_rfl
theorem SesOnce_k23 : callable Try.prog 23 = true := by kernel_rfl
theorem SesOnce_l22 : (elemQ Try.prog 22).isSome = true := by kernel_rfl
theorem SesOnce_k28 : callable Try.prog 28 = true := by kernel_rfl
set_option maxRecDepth 100000 in
set_option maxHeartbeats 400000 in
theorem within_any (i : Int) (n : Nat) (w : World) (hn : 0 < n ∧ n ≤ 1000) :
    Rt Try.prog 14 [.int .i64 i, .int .i64 (n : Nat)] w (fun v w' => (∃ m : Nat, m < n ∧ v = .int .i64 (m : Nat)) ∧ w = w') := by
  obtain ⟨a, ha, ha2⟩ : ∃ a : Nat, IntKind.u64.wrap i = (a : Int) ∧ a < 18446744073709551616 := ⟨(IntKind.u64.wrap i).toNat, by rw [IntKind.wrap_u64]; omega, by rw [IntKind.wrap_u64]; omega⟩
  have hm : a % n < n := Nat.mod_lt _ hn.1
  refine enter (n := 11) Try.func14 rfl rfl rfl ?_
  refine cd_seq ?_
  refine cd_region ?_
  refine st_val (ro_assign (v := .int _ _) rfl) ?_
  refine st_nil ?_
  refine nx_then ?_
  refine cd_seq ?_
  refine cd_region ?_
  refine st_val (ro_move (v := .int _ _) rfl) ?_
  refine st_val (ro_conv SesOnce_s3 SesOnce_i65 rfl) ?_
  refine st_spell (t := 6) (v := .int _ _) (v' := .int .u64 (a : Nat)) rfl (by rw [ha]) ?_
  refine st_val (ro_move (v := .int _ _) rfl) ?_
  refine st_val (ro_conv64 SesOnce_s3 SesOnce_i65 rfl (by omega)) ?_
  refine st_val (ro_rem rfl rfl (by omega)) ?_
  refine st_spell (t := 9) (v := .int _ _) (v' := .int .u64 ((a % n : Nat) : Int)) rfl (by rw [Int.tmod_eq_emod_of_nonneg (by omega)]; rfl) ?_
  refine st_val (ro_convI SesOnce_s65 SesOnce_i3 rfl (by omega)) ?_
  refine st_val (ro_assign (v := .int _ _) rfl) ?_
  refine st_nil ?_
  refine nx_then ?_
  refine cd_ret ?_
  refine res1 (v := .int _ _) rfl rfl ?_
  exact ⟨⟨a % n, hm, rfl⟩, rfl⟩
theorem begin_no (A : Option Addr) (c : Nat) (K : List Ses) (w : World) (hr : RowS w A K) (hv : ValidL K) (cl sq : Int) (hn : ∀ j (h : j < K.length), K[j].c ≠ cl) (hs : 1 ≤ sq ∧ sq < 1099511627776) : Rt Try.prog 16 [.slice A K.length c, .int .i64 cl, .int .i64 sq] w fun v w' => v = .tuple #[.agg #[.int .i64 0, .int .i64 0, .slice none 0 0], .bool false, .int .i64 9] ∧ From w w' := by
  have := hv.1
  exact (begin_rt A c K w hr (by omega) cl sq hv).mono fun v w' h => ⟨beg_none h.1 hn hs, h.2⟩
theorem begin_is (A : Option Addr) (c : Nat) (K : List Ses) (w : World) (hr : RowS w A K) (hv : ValidL K) (cl t sq : Int) {i : Nat} (hi : i < K.length) (hK : K[i] = ⟨cl, t, 0, t, none, 0, 0, t⟩) (hs : 1 ≤ sq ∧ sq < 1099511627776) (he : sq = t) : Rt Try.prog 16 [.slice A K.length c, .int .i64 cl, .int .i64 sq] w fun v w' => v = .tuple #[.agg #[.int .i64 0, .int .i64 t, .slice none 0 0], .bool true, .int .i64 0] ∧ From w w' := by
  have := hv.1
  exact (begin_rt A c K w hr (by omega) cl sq hv).mono fun v w' h => ⟨(beg_at hv h.1 hi hK hs).1 he, h.2⟩
theorem begin_old (A : Option Addr) (c : Nat) (K : List Ses) (w : World) (hr : RowS w A K) (hv : ValidL K) (cl t sq : Int) {i : Nat} (hi : i < K.length) (hK : K[i] = ⟨cl, t, 0, t, none, 0, 0, t⟩) (hs : 1 ≤ sq ∧ sq < 1099511627776) (he : sq < t) : Rt Try.prog 16 [.slice A K.length c, .int .i64 cl, .int .i64 sq] w fun v w' => v = .tuple #[.agg #[.int .i64 0, .int .i64 0, .slice none 0 0], .bool false, .int .i64 10] ∧ From w w' := by
  have := hv.1
  exact (begin_rt A c K w hr (by omega) cl sq hv).mono fun v w' h => ⟨(beg_at hv h.1 hi hK hs).2.1 he, h.2⟩
theorem begin_new (A : Option Addr) (c : Nat) (K : List Ses) (w : World) (hr : RowS w A K) (hv : ValidL K) (cl t sq : Int) {i : Nat} (hi : i < K.length) (hK : K[i] = ⟨cl, t, 0, t, none, 0, 0, t⟩) (hs : 1 ≤ sq ∧ sq < 1099511627776) (he : t < sq) : Rt Try.prog 16 [.slice A K.length c, .int .i64 cl, .int .i64 sq] w fun v w' => v = .tuple #[.agg #[.int .i64 0, .int .i64 0, .slice none 0 0], .bool false, .int .i64 0] ∧ From w w' := by
  have := hv.1
  exact (begin_rt A c K w hr (by omega) cl sq hv).mono fun v w' h => ⟨(beg_at hv h.1 hi hK hs).2.2 he, h.2⟩
theorem rowS_grown {w w' : World} {A : Option Addr} {L : List Ses} {r : Option Nat} (h : RowS w A L) (hg : w.grownBy w' r) (hne : ∀ q, A.map (·.block) = some q → r = some q → False) : RowS w' A L := fun h0 => by
  obtain ⟨b, o, hA, hc⟩ := h h0
  exact ⟨b, o, hA, fun i hi j v hv => hg.cell (hc i hi j v hv) (fun e => hne b (by rw [hA]; rfl) e.symm)⟩
theorem once_pos {L : List Ses} {V : List (Int × Int)} {now : Int} (h : OnceSt L V now) (h0 : 0 < V.length) : 1 ≤ now := by
  have hl := once_len h
  have h1 := valid_mem h.1 L[0] (List.getElem_mem (by omega))
  have h2 := (h.2.2.2 _ (in_V h.2.1 (show 0 < L.length by omega))).1
  unfold vS at h1
  rw [Bool.and_eq_true] at h1
  have := of_decide_eq_true h1.1
  simp only at h2
  omega
theorem map_cut (V : List (Int × Int)) (k : Nat) (p : Int × Int) : (V.map (·.1)).take k ++ (V.map (·.1)).drop (k + 1) ++ [p.1] = (V.take k ++ V.drop (k + 1) ++ [p]).map (·.1) := by
  rw [List.map_append, List.map_append, List.map_take, List.map_drop]
  rfl
theorem cut_len {V : List (Int × Int)} {k : Nat} (hk : k < V.length) (p : Int × Int) : (V.take k ++ V.drop (k + 1) ++ [p]).length = V.length := by simp; omega
theorem cut_last {V : List (Int × Int)} {k : Nat} (hk : k < V.length) (p : Int × Int) : (V.take k ++ V.drop (k + 1) ++ [p]).take (V.length - 1) ++ (V.take k ++ V.drop (k + 1) ++ [p]).drop (V.length - 1 + 1) = V.take k ++ V.drop (k + 1) := by
  have hl : (V.take k ++ V.drop (k + 1)).length = V.length - 1 := by simp; omega
  rw [List.take_append_of_le_length (l₁ := V.take k ++ V.drop (k + 1)) (by omega), List.take_of_length_le (l := V.take k ++ V.drop (k + 1)) (by omega), List.drop_of_length_le (l := V.take k ++ V.drop (k + 1) ++ [p]) (by rw [cut_len hk]; omega), List.append_nil]
theorem cut_at {V : List (Int × Int)} {k : Nat} (hk : k < V.length) (p : Int × Int) : (V.take k ++ V.drop (k + 1) ++ [p])[V.length - 1]'(by rw [cut_len hk]; omega) = p := by
  have hl : (V.take k ++ V.drop (k + 1)).length = V.length - 1 := by simp; omega
  rw [List.getElem_append_right (by omega)]
  simp [hl]
set_option maxRecDepth 100000 in
set_option maxHeartbeats 400000 in
theorem copyNums_any (A : Option Addr) (c : Nat) (l : List Int) (w : World) (hr : RowOf iV w A l) (hl : l.length * 8 ≤ 140737488351232) :
    Rt Try.prog 29 [.slice A l.length c] w (fun v w' => ∃ A' c', v = .slice A' l.length c' ∧ w'.ownsRow w.heap.size 3 1 v l.length (l.map iV) ∧ From w w') := by
  refine enter (n := 19) Try.func29 rfl rfl rfl ?_
  refine cd_seq ?_
  refine cd_region ?_
  refine st_val (ro_assign (v := .slice _ _ _) rfl) ?_
  refine st_nil ?_
  refine nx_then ?_
  refine cd_seq ?_
  refine cd_region ?_
  refine st_val (ro_assign (v := .slice _ _ _) rfl) ?_
  refine st_nil ?_
  refine nx_then ?_
  refine cd_seq ?_
  refine cd_seq ?_
  refine cd_region ?_
  refine st_val (ro_assign (v := .int _ _) rfl) ?_
  refine st_nil ?_
  refine nx_then ?_
  refine cd_block ?_
  refine cd_loop (G := Nat × Option Addr × Nat) [5, 6, 7, 8, 9, 10, 11, 12, 13, 14, 15, 16, 17] (fun g => [(3, .slice g.2.1 g.1 g.2.2), (4, .int .i64 (g.1 : Nat))]) (fun g w' => g.1 ≤ l.length ∧ w'.ownsRow w.heap.size 3 1 (.slice g.2.1 g.1 g.2.2) g.1 ((l.take g.1).map iV) ∧ From w w') (fun g => l.length - g.1) ((0, none, 0)) ⟨rfl, rfl, trivial⟩ ?_ ?_
  · exact ⟨Nat.zero_le _, World.ownsRow_nil _ _ _ _, From.rfl_⟩
  rintro ⟨k, A3, c3⟩ ρ1 w1 ⟨hk, ho, hB⟩
  simp only at hk ho
  refine cd_seq ?_
  refine cd_seq ?_
  refine cd_region ?_
  refine st_val (ro_move (v := .int _ _) rfl) ?_
  refine st_val (ro_move (v := .slice _ _ _) rfl) ?_
  refine st_val (ro_len SesOnce_l55 rfl) ?_
  refine st_val (ro_lss rfl rfl) ?_
  refine st_nil ?_
  refine nx_then ?_
  refine cd_cond rfl (fun Q2 => ?_) (fun Q2 => ?_)
  · (try first | replace Q2 := bn_t Q2 | replace Q2 := bn_f Q2)
    (try first | replace Q2 := bx_t Q2 | replace Q2 := bx_f Q2 | replace Q2 := be_t Q2 | replace Q2 := be_f Q2 | replace Q2 := of_decide_eq_true Q2 | replace Q2 := of_decide_eq_false Q2)
    obtain ⟨ba, oa, rfl, ca⟩ := hr (by omega)
    first
     | (exfalso; first | omega | contradiction | (cases Q2; done))
     | skip
       refine cd_skip ?_
       refine nx_then ?_
       refine cd_seq ?_
       refine cd_block ?_
       refine cd_region ?_
       refine st_val (ro_move (v := .slice _ _ _) rfl) ?_
       refine st_val (ro_move (v := .slice _ _ _) rfl) ?_
       refine st_val (ro_move (v := .int _ _) rfl) ?_
       refine st_val (ro_indexAddr1 SesOnce_e55 rfl rfl (by omega)) ?_
       refine st_val (ro_load SesOnce_g3 rfl (by first | (exact cellF hB (ca k (by omega))))) ?_
       refine st_lit1 (v := .int _ _) SesOnce_q55 rfl rfl rfl ?_
       intro b16 w3 E16 hb16 hk16
       refine st_push1 (a0 := w) SesOnce_q55 rfl rfl (ho.kept_from E16) (hB.next E16) rfl hk16 rfl (by omega) (by omega) ?_
       intro A17 c17 w4 ho17 B17 hg17
       refine st_val (ro_assign (v := .slice _ _ _) rfl) ?_
       refine st_nil ?_
       refine nx_block ?_
       refine nx_then ?_
       refine cd_region ?_
       refine st_val (ro_move (v := .int _ _) rfl) ?_
       refine st_val (ro_add64 rfl rfl (by omega)) ?_
       refine st_val (ro_assign (v := .int _ _) rfl) ?_
       refine st_nil ?_
       refine nx_cut ((k + 1, A17, c17)) ⟨(by first | rfl | (refine int_eq ?_; omega)), (by first | rfl | (refine int_eq ?_; omega)), trivial⟩ (by (iterate 30 refine agr_cons rfl ?_); exact agr_rfl) ⟨?_, ?_⟩
       · exact ⟨by simp only; omega, by rw [map_take_succ iV (by omega)]; exact ho17, B17⟩
       · simp only; omega
  · (try first | replace Q2 := bn_t Q2 | replace Q2 := bn_f Q2)
    (try first | replace Q2 := bx_t Q2 | replace Q2 := bx_f Q2 | replace Q2 := be_t Q2 | replace Q2 := be_f Q2 | replace Q2 := of_decide_eq_true Q2 | replace Q2 := of_decide_eq_false Q2)
    first
     | (exfalso; first | omega | contradiction | (cases Q2; done))
     | skip
       refine cd_exit ?_
       refine ex_then ?_
       refine ex_then ?_
       refine ex_block ?_
       refine nx_then ?_
       refine cd_seq ?_
       refine cd_region ?_
       refine st_val (ro_move (v := .slice _ _ _) rfl) ?_
       refine st_val (ro_assign (v := .slice _ _ _) rfl) ?_
       refine st_nil ?_
       refine nx_then ?_
       refine cd_ret ?_
       refine res1 (v := .slice _ _ _) rfl rfl ?_
       obtain rfl : k = l.length := by omega
       exact ⟨A3, c3, rfl, by rwa [List.take_length] at ho, hB⟩
theorem copyNums_n (A : Option Addr) (c n : Nat) (l : List Int) (w : World) (hn : n = l.length) (hr : RowOf iV w A l) (hl : n ≤ 1000) {v : Value} (hv : v = .slice A n c) : Rt Try.prog 29 [v] w fun v w' => ∃ A' c', v = .slice A' n c' ∧ w'.ownsRow w.heap.size 3 1 (.slice A' n c') n (l.map iV) ∧ From w w' := by
  subst hv
  subst hn
  refine (copyNums_any A c l w hr (by omega)).mono fun v w' ⟨A', c', e, ho, hF⟩ => ⟨A', c', e, ?_, hF⟩
  rw [e] at ho
  exact ho
theorem rowOf_take {w w' : World} {A : Option Addr} {U : List Int} {k : Nat} (h : RowOf iV w A U) (hF : From w w') : RowOf iV w' A (U.take k) := fun h0 => by
  rw [List.length_take] at h0
  obtain ⟨b, o, hA, hc⟩ := h (by omega)
  refine ⟨b, o, hA, fun i hi => ?_⟩
  rw [List.length_take] at hi
  rw [List.getElem_take]
  exact cellF hF (hc i (by omega))
theorem cut_take {V : List (Int × Int)} {k : Nat} (hk : k < V.length) (p : Int × Int) : ((V.take k ++ V.drop (k + 1) ++ [p]).map (·.1)).take (V.length - 1) = (V.take k ++ V.drop (k + 1)).map (·.1) := by
  have hl : (V.take k ++ V.drop (k + 1)).length = V.length - 1 := by simp; omega
  rw [← List.map_take, List.take_append_of_le_length (l₁ := V.take k ++ V.drop (k + 1)) (by omega), List.take_of_length_le (l := V.take k ++ V.drop (k + 1)) (by omega)]
set_option maxRecDepth 100000 in
set_option maxHeartbeats 4000000 in
theorem once_law (A : Option Addr) (c : Nat) (L0 : List Act) (w : World) (hr0 : RowT w A L0) :
    Rt Try.prog 4 [.slice A L0.length c] w (fun v w' => v = .bool true ∧ From w w') := by
  refine enter (n := 212) Try.func4 rfl rfl rfl ?_
  refine cd_seq ?_
  refine cd_region ?_
  refine st_val (ro_assign (v := .bool _) rfl) ?_
  refine st_nil ?_
  refine nx_then ?_
  refine cd_seq ?_
  refine cd_region ?_
  refine st_val (ro_assign (v := .slice _ _ _) rfl) ?_
  refine st_nil ?_
  refine nx_then ?_
  refine cd_seq ?_
  refine cd_region ?_
  refine st_val (ro_assign (v := .slice _ _ _) rfl) ?_
  refine st_nil ?_
  refine nx_then ?_
  refine cd_seq ?_
  refine cd_region ?_
  refine st_val (ro_assign (v := .int _ _) rfl) ?_
  refine st_nil ?_
  refine nx_then ?_
  refine cd_seq ?_
  refine cd_seq ?_
  refine cd_region ?_
  refine st_val (ro_assign (v := .int _ _) rfl) ?_
  refine st_nil ?_
  refine nx_then ?_
  refine cd_block ?_
  refine cd_loop (G := Nat × (Option Addr × Nat × List Ses) × (Option Addr × Nat × List (Int × Int))) [2, 7, 8, 9, 10, 11, 12, 13, 14, 15, 16, 17, 18, 19, 20, 21, 22, 23, 24, 25, 26, 27, 28, 29, 30, 31, 32, 33, 34, 35, 36, 37, 38, 39, 40, 41, 42, 43, 44, 45, 46, 47, 48, 49, 50, 51, 52, 53, 54, 55, 56, 57, 58, 59, 60, 61, 62, 63, 64, 65, 66, 67, 68, 69, 70, 71, 72, 73, 74, 75, 76, 77, 78, 79, 80, 81, 82, 83, 84, 85, 86, 87, 88, 89, 90, 91, 92, 93, 94, 95, 96, 97, 98, 99, 100, 101, 102, 103, 104, 105, 106, 107, 108, 109, 110, 111, 112, 113, 114, 115, 116, 117, 118, 119, 120, 121, 122, 123, 124, 125, 126, 127, 128, 129, 130, 131, 132, 133, 134, 135, 136, 137, 138, 139, 140, 141, 142, 143, 144, 145, 146, 147, 148, 149, 150, 151, 152, 153, 154, 155, 156, 157, 158, 159, 160, 161, 162, 163, 164, 165, 166, 167, 168, 169, 170, 171, 172, 173, 174, 175, 176, 177, 178, 179, 180, 181, 182, 183, 184, 185, 186, 187, 188, 189, 190, 191, 192, 193, 194, 195, 196, 197, 198, 199, 200, 201, 202, 203, 204, 205, 206, 207, 208, 209, 210] (fun (i, (A3, c3, L), (A4, c4, V)) => [(3, .slice A3 L.length c3), (4, .slice A4 V.length c4), (5, .int .i64 (i : Nat)), (6, .int .i64 (i : Nat))]) (fun (i, (A3, c3, L), (A4, c4, V)) w' => i ≤ 40 ∧ OnceSt L V (i : Nat) ∧ RowS w' A3 L ∧ (A3 = none → c3 = 0) ∧ UsedAt w' w.heap.size A4 V.length c4 (V.map (·.1)) ∧ From w w') (fun (i, _, _) => 40 - i) ((0, (none, 0, []), (none, 0, []))) ⟨rfl, rfl, rfl, rfl, trivial⟩ ?_ ?_
  · exact ⟨Nat.zero_le _, once_nil, rows_nil _ _, fun _ => rfl, .inl (World.ownsRow_nil _ _ _ _), From.rfl_⟩
  rintro ⟨i, ⟨A3, c3, L⟩, ⟨A4, c4, V⟩⟩ ρ1 w1 ⟨hi, hst, hrL, hn3, hu, hB⟩
  refine cd_seq ?_
  refine cd_seq ?_
  refine cd_region ?_
  refine st_val (ro_move (v := .int _ _) rfl) ?_
  refine st_val (ro_move (v := .slice _ _ _) rfl) ?_
  refine st_val (ro_len SesOnce_l23 rfl) ?_
  refine st_val (ro_lss rfl rfl) ?_
  refine st_val (ro_move (v := .bool _) rfl) ?_
  refine st_split (t := 31) rfl (fun Q2 => ?_) (fun Q2 => ?_)
  · (try first | replace Q2 := bn_t Q2 | replace Q2 := bn_f Q2)
    (try first | replace Q2 := bx_t Q2 | replace Q2 := bx_f Q2 | replace Q2 := be_t Q2 | replace Q2 := be_f Q2 | replace Q2 := of_decide_eq_true Q2 | replace Q2 := of_decide_eq_false Q2)
    first
     | (exfalso; first | omega | contradiction | (cases Q2; done))
     | skip
       refine st_unguard rfl ?_
       refine st_val (ro_move (v := .int _ _) rfl) ?_
       refine st_unguard rfl ?_
       refine st_val (ro_lss rfl rfl) ?_
       refine st_val (ro_pickT (v := .bool _) rfl rfl) ?_
       refine st_nil ?_
       refine nx_then ?_
       refine cd_cond rfl (fun Q3 => ?_) (fun Q3 => ?_)
       · (try first | replace Q3 := bn_t Q3 | replace Q3 := bn_f Q3)
         (try first | replace Q3 := bx_t Q3 | replace Q3 := bx_f Q3 | replace Q3 := be_t Q3 | replace Q3 := be_f Q3 | replace Q3 := of_decide_eq_true Q3 | replace Q3 := of_decide_eq_false Q3)
         have hil : i < L0.length := by omega
         have hi40 : i < 40 := by omega
         have hl0 := once_len hst
         have hv8 := hst.1.1
         have hV8 : V.length ≤ 8 := by omega
         obtain ⟨b0, o0, hA0, hc0⟩ := hr0 (by omega)
         subst hA0
         first
          | (exfalso; first | omega | contradiction | (cases Q3; done))
          | skip
            refine cd_skip ?_
            refine nx_then ?_
            refine cd_seq ?_
            refine cd_block ?_
            refine cd_seq ?_
            refine cd_region ?_
            refine st_val (ro_move (v := .int _ _) rfl) ?_
            refine st_val (ro_addN (b := 1) rfl rfl (by omega)) ?_
            refine st_val (ro_assign (v := .int _ _) rfl) ?_
            refine st_nil ?_
            refine nx_then ?_
            refine cd_seq ?_
            refine cd_region ?_
            refine st_val (ro_move (v := .slice _ _ _) rfl) ?_
            refine st_val (ro_move (v := .int _ _) rfl) ?_
            refine st_val (ro_indexAddrN SesOnce_e23 rfl rfl (by omega)) ?_
            refine st_val (ro_loadA (cs := [_, _, _, _, _, _, _]) SesOnce_g33 SesOnce_z33 rfl (by exact rangeF hB (hc0 i hil))) ?_
            refine st_alloc SesOnce_o33 ?_
            intro b7 w4 E7 hb7 hk7
            have hg7 : w.heap.size ≤ b7 := by rw [hb7]; exact (hB).size
            refine st_putW (vs := [_, _, _, _, _, _, _]) SesOnce_z33 rfl rfl (by simp [Value.oneCell']) (hk7) rfl ?_
            intro w5 O8 P8
            have F8 : From _ w5 := E7.only O8 (by rw [hb7]; exact Nat.le_refl _)
            replace hrL := hrL.from_ F8
            replace hu := used_from hu F8
            refine st_nil ?_
            refine nx_then ?_
            refine cd_cut (G := (Option Addr × Nat × List Ses) × (Option Addr × Nat × List (Int × Int))) [2, 8, 9, 10, 11, 12, 13, 14, 15, 16, 17, 18, 19, 20, 21, 22, 23, 24, 25, 26, 43, 44, 45, 46, 47, 48, 49, 50, 51, 52, 53, 54, 55, 56, 57, 58, 59, 60, 61, 62, 63, 64, 65, 66, 67, 68, 69, 70, 71, 72, 73, 74, 75, 76, 77, 78, 79, 80, 81, 82, 83, 84, 85, 86, 87, 88, 89, 90, 91, 92, 93, 94, 95, 96, 97, 98, 99, 100, 101, 102, 103, 104, 105, 106, 107, 108, 109, 110, 111, 112, 113, 114, 115, 116, 117, 118, 119, 120, 121, 122, 123, 124, 125, 126, 127, 128, 129, 130, 131, 132, 133, 134, 135, 136, 137, 138, 139, 140, 141, 142, 143, 144, 145, 146, 147, 148, 149, 150, 151, 152, 153, 154, 155, 156, 157, 158, 159, 160, 161, 162, 163, 164, 165, 166, 167, 168, 169, 170, 171, 172, 173, 174, 175, 176, 177, 178, 179, 180, 181, 182, 183, 184, 185, 186, 187, 188, 189, 190, 191, 192, 193, 194, 195, 196, 197, 198, 199, 200, 201, 202, 203, 204, 205] (fun ((A5, c5, L5), (A6, c6, V6)) => [(3, .slice A5 L5.length c5), (4, .slice A6 V6.length c6)]) (fun ((A5, c5, L5), (A6, c6, V6)) w' => OnceSt L5 V6 ((i + 1 : Nat) : Int) ∧ RowS w' A5 L5 ∧ (A5 = none → c5 = 0) ∧ UsedAt w' w.heap.size A6 V6.length c6 (V6.map (·.1)) ∧ From w w') ?_ ?_
            · refine cd_seq ?_
              refine cd_region ?_
              refine st_val (ro_fieldAddr SesOnce_f33_0 rfl) ?_
              refine st_val (ro_load SesOnce_g3 rfl (by exact P8.rd 0 rfl)) ?_
              refine st_call SesOnce_k14 (within_any _ 2 _ (by omega)) ?_
              rintro v45 w6 ⟨⟨m45, hm45, rfl⟩, rfl⟩
              refine st_val (ro_eql rfl rfl) ?_
              refine st_val (ro_move (v := .bool _) rfl) ?_
              refine st_split (t := 47) rfl (fun Q7 => ?_) (fun Q7 => ?_)
              · (try first | replace Q7 := bn_t Q7 | replace Q7 := bn_f Q7)
                (try first | replace Q7 := bx_t Q7 | replace Q7 := bx_f Q7 | replace Q7 := be_t Q7 | replace Q7 := be_f Q7 | replace Q7 := of_decide_eq_true Q7 | replace Q7 := of_decide_eq_false Q7)
                first
                 | (exfalso; first | omega | contradiction | (cases Q7; done))
                 | skip
                   refine st_gno rfl rfl ?_
                   refine st_gno rfl rfl ?_
                   refine st_gno rfl rfl ?_
                   refine st_val (ro_pickT (v := .bool _) rfl rfl) ?_
                   refine st_nil ?_
                   refine nx_then ?_
                   refine cd_condT rfl ?_
                   refine cd_seq ?_
                   refine cd_region ?_
                   refine st_val (ro_move (v := .slice _ _ _) rfl) ?_
                   refine st_val (ro_move (v := .int _ _) rfl) ?_
                   refine st_call SesOnce_k26 (open_rt A3 c3 L _ hrL (by omega) hn3 ((i + 1 : Nat) : Int) hst.1) ?_
                   rintro v55 w8 ⟨⟨K, err, A8, c8, rfl, hg55, hrK, hn8, hbK⟩, E55⟩
                   obtain ⟨rfl, hO1, hO2⟩ := once_open hst (by omega) (by omega) hg55
                   have hxK : ∀ q q2, A8.map (·.block) = some q → A4.map (·.block) = some q2 → q ≠ q2 := fun q q2 h1 h2 => by have := hbK q h1; have := (used_at hu q2 h2).2; omega
                   replace hu := used_from hu E55
                   refine st_val (ro_move (v := .tuple _) rfl) ?_
                   refine st_val (ro_extract rfl rfl) ?_
                   refine st_val (ro_extract rfl rfl) ?_
                   refine st_val (ro_assign (v := .slice _ _ _) rfl) ?_
                   refine st_val (ro_assign (v := .int _ _) rfl) ?_
                   refine st_nil ?_
                   refine nx_then ?_
                   refine cd_seq ?_
                   refine cd_seq ?_
                   refine cd_region ?_
                   refine st_val (ro_move (v := .int _ _) rfl) ?_
                   refine st_call SesOnce_k12 (num_any _ _) ?_
                   rintro v59 w9 ⟨rfl, rfl⟩
                   refine st_val (ro_neq rfl rfl) ?_
                   refine st_nil ?_
                   refine nx_then ?_
                   refine cd_cond rfl (fun Q10 => ?_) (fun Q10 => ?_)
                   · (try first | replace Q10 := bn_t Q10 | replace Q10 := bn_f Q10)
                     (try first | replace Q10 := bx_t Q10 | replace Q10 := bx_f Q10 | replace Q10 := be_t Q10 | replace Q10 := be_f Q10 | replace Q10 := of_decide_eq_true Q10 | replace Q10 := of_decide_eq_false Q10)
                     first
                      | (exfalso; first | omega | contradiction | (cases Q10; done))
                      | skip
                        refine cd_seq ?_
                        refine cd_region ?_
                        refine st_val (ro_assign (v := .bool _) rfl) ?_
                        refine st_nil ?_
                        refine nx_then ?_
                        refine cd_ret ?_
                        refine rt_then ?_
                        refine rt_then ?_
                        refine rt_block ?_
                        refine rt_then ?_
                        refine rt_then ?_
                        refine rt_block ?_
                        refine rt_then ?_
                        refine res1 (v := .bool _) rfl rfl ?_
                        exact ⟨rfl, (((hB.next E7).only O8 (hg7)).next E55)⟩
                   · (try first | replace Q10 := bn_t Q10 | replace Q10 := bn_f Q10)
                     (try first | replace Q10 := bx_t Q10 | replace Q10 := bx_f Q10 | replace Q10 := be_t Q10 | replace Q10 := be_f Q10 | replace Q10 := of_decide_eq_true Q10 | replace Q10 := of_decide_eq_false Q10)
                     first
                      | (exfalso; first | omega | contradiction | (cases Q10; done))
                      | skip
                        refine cd_skip ?_
                        refine nx_then ?_
                        refine cd_cut (G := Option Addr × Nat × List (Int × Int)) [2, 10, 11, 12, 61, 62, 63, 64, 65, 66, 67, 68, 69, 70, 71, 72, 73, 74, 75, 76, 77] (fun (A6, c6, V6) => [(4, .slice A6 V6.length c6)]) (fun (A6, c6, V6) w' => UsedAt w' w.heap.size A6 V6.length c6 (V6.map (·.1)) ∧ V6.length ≤ 8 ∧ OnceSt K (V6 ++ [(((i + 1 : Nat) : Int), ((i + 1 : Nat) : Int))]) ((i + 1 : Nat) : Int) ∧ RowS w' A8 K ∧ (∀ q q2, A8.map (·.block) = some q → A6.map (·.block) = some q2 → q ≠ q2) ∧ From w w') ?_ ?_
                        · refine cd_seq ?_
                          refine cd_region ?_
                          refine st_val (ro_move (v := .slice _ _ _) rfl) ?_
                          refine st_val (ro_len SesOnce_l55 rfl) ?_
                          refine st_val (ro_eql rfl rfl) ?_
                          refine st_nil ?_
                          refine nx_then ?_
                          refine cd_cond rfl (fun Q11 => ?_) (fun Q11 => ?_)
                          · (try first | replace Q11 := bn_t Q11 | replace Q11 := bn_f Q11)
                            (try first | replace Q11 := bx_t Q11 | replace Q11 := bx_f Q11 | replace Q11 := be_t Q11 | replace Q11 := be_f Q11 | replace Q11 := of_decide_eq_true Q11 | replace Q11 := of_decide_eq_false Q11)
                            have hV88 : V.length = 8 := by omega
                            obtain ⟨g4, o4, rfl, hnc⟩ := used_form hu (by omega)
                            obtain ⟨v0, V', rfl, hst7, hne⟩ := hO2 hV88
                            rw [List.length_cons] at hV88
                            first
                             | (exfalso; first | omega | contradiction | (cases Q11; done))
                             | skip
                               refine cd_seq ?_
                               refine cd_region ?_
                               refine st_val (ro_move (v := .slice _ _ _) rfl) ?_
                               refine st_val (ro_move (v := .slice _ _ _) rfl) ?_
                               refine st_val (ro_indexAddr1 (i := 0) SesOnce_e55 rfl rfl (by simp)) ?_
                               refine st_val (ro_load SesOnce_g3 rfl (by exact used_cell (q := 0) hu (by simp))) ?_
                               refine st_call SesOnce_k16 (begin_no A8 c8 K _ hrK hst7.1 v0.1 1 hne (by omega)) ?_
                               rintro v69 w12 ⟨rfl, E69⟩
                               refine st_val (ro_move (v := .tuple _) rfl) ?_
                               refine st_val (ro_extract rfl rfl) ?_
                               refine st_val (ro_extract rfl rfl) ?_
                               refine st_val (ro_extract rfl rfl) ?_
                               refine st_alloc SesOnce_o31 ?_
                               intro b10 w13 E10 hb10 hk10
                               have hg10 : w.heap.size ≤ b10 := by rw [hb10]; exact (((((hB.next E7).only O8 (hg7)).next E55).next E69)).size
                               refine st_putW (vs := [_, _, _]) SesOnce_z31 rfl rfl (by simp [Value.oneCell']) (hk10) rfl ?_
                               intro w14 O14 P14
                               have F14 : From _ w14 := (E69.next E10).only O14 (by rw [hb10]; exact E69.size)
                               replace hrK := hrK.from_ F14
                               replace hu := used_from hu F14
                               refine st_val (ro_assign (v := .bool _) rfl) ?_
                               refine st_val (ro_assign (v := .int _ _) rfl) ?_
                               refine st_nil ?_
                               refine nx_then ?_
                               refine cd_seq ?_
                               refine cd_seq ?_
                               refine cd_region ?_
                               refine st_val (ro_move (v := .int _ _) rfl) ?_
                               refine st_call SesOnce_k12 (num_any _ _) ?_
                               rintro v74 w15 ⟨rfl, rfl⟩
                               refine st_val (ro_neq rfl rfl) ?_
                               refine st_nil ?_
                               refine nx_then ?_
                               refine cd_cond rfl (fun Q16 => ?_) (fun Q16 => ?_)
                               · (try first | replace Q16 := bn_t Q16 | replace Q16 := bn_f Q16)
                                 (try first | replace Q16 := bx_t Q16 | replace Q16 := bx_f Q16 | replace Q16 := be_t Q16 | replace Q16 := be_f Q16 | replace Q16 := of_decide_eq_true Q16 | replace Q16 := of_decide_eq_false Q16)
                                 first
                                  | (exfalso; first | omega | contradiction | (cases Q16; done))
                                  | skip
                                    refine cd_seq ?_
                                    refine cd_region ?_
                                    refine st_val (ro_assign (v := .bool _) rfl) ?_
                                    refine st_nil ?_
                                    refine nx_then ?_
                                    refine cd_ret ?_
                                    refine rt_then ?_
                                    refine rt_then ?_
                                    refine rt_then ?_
                                    refine rt_block ?_
                                    refine rt_then ?_
                                    refine rt_then ?_
                                    refine rt_block ?_
                                    refine rt_then ?_
                                    refine res1 (v := .bool _) rfl rfl ?_
                                    exact ⟨rfl, ((((((hB.next E7).only O8 (hg7)).next E55).next E69).next E10).only O14 (hg10))⟩
                               · (try first | replace Q16 := bn_t Q16 | replace Q16 := bn_f Q16)
                                 (try first | replace Q16 := bx_t Q16 | replace Q16 := bx_f Q16 | replace Q16 := be_t Q16 | replace Q16 := be_f Q16 | replace Q16 := of_decide_eq_true Q16 | replace Q16 := of_decide_eq_false Q16)
                                 first
                                  | (exfalso; first | omega | contradiction | (cases Q16; done))
                                  | skip
                                    refine cd_skip ?_
                                    refine nx_then ?_
                                    refine cd_region ?_
                                    refine st_val (ro_move (v := .slice _ _ _) rfl) ?_
                                    refine st_val (ro_eq (v' := .slice (some ⟨g4, o4 + 1, none⟩) V'.length (c4 - 1)) (ro_dropN (m := 1) SesOnceU_e55 rfl rfl (by simp) hnc) (by rw [if_neg (by omega)]; rfl)) ?_
                                    have hu7 : UsedAt w14 w.heap.size (some ⟨g4, o4 + 1, none⟩) V'.length (c4 - 1) (V'.map (·.1)) := used_tail (n := V'.length) hu
                                    have hV7 : V'.length ≤ 8 := by omega
                                    refine st_val (ro_assign (v := .slice _ _ _) rfl) ?_
                                    refine st_nil ?_
                                    refine nx_cut ((some ⟨g4, o4 + 1, none⟩, c4 - 1, V')) ⟨(by first | rfl | simp), trivial⟩ (by (iterate 21 refine agr_cons rfl ?_); exact agr_rfl) ?_
                                    exact ⟨hu7, hV7, hst7, hrK, hxK, ((((((hB.next E7).only O8 (hg7)).next E55).next E69).next E10).only O14 (hg10))⟩
                          · (try first | replace Q11 := bn_t Q11 | replace Q11 := bn_f Q11)
                            (try first | replace Q11 := bx_t Q11 | replace Q11 := bx_f Q11 | replace Q11 := be_t Q11 | replace Q11 := be_f Q11 | replace Q11 := of_decide_eq_true Q11 | replace Q11 := of_decide_eq_false Q11)
                            first
                             | (exfalso; first | omega | contradiction | (cases Q11; done))
                             | skip
                               refine cd_skip ?_
                               refine nx_cut ((A4, c4, V)) ⟨(by first | rfl | simp), trivial⟩ (by (iterate 3 refine agr_cons rfl ?_); exact agr_rfl) ?_
                               exact ⟨hu, hV8, hO1 (by omega), hrK, hxK, (((hB.next E7).only O8 (hg7)).next E55)⟩
                        · rintro ⟨A6, c6, V6⟩ ρ17 w17 ⟨hu, hV6, hst6, hrK, hxK, hB⟩
                          refine cd_seq ?_
                          refine cd_region ?_
                          refine st_val (ro_move (v := .slice _ _ _) rfl) ?_
                          refine st_val (ro_move (v := .int _ _) rfl) ?_
                          refine st_lit1 (v := .int _ _) SesOnce_q55 rfl rfl rfl ?_
                          intro b80 w18 E80 hb80 hk80
                          refine st_usedpush rfl (used_from hu E80) ((hB.next E80)).size rfl hk80 (by omega) ?_
                          intro A81 c81 w19 hu81 hg81
                          have hB81 := ((hB.next E80)).grew hg81 (fun k hk => (used_at (used_from hu E80) k hk).1)
                          replace hrK := rowS_grown (hrK.from_ E80) hg81 (fun q hq e => hxK q q hq e rfl)
                          refine st_val (ro_assign (v := .slice _ _ _) rfl) ?_
                          refine st_nil ?_
                          refine nx_then ?_
                          refine cd_region ?_
                          refine st_val (ro_move (v := .slice _ _ _) rfl) ?_
                          refine st_val (ro_assign (v := .slice _ _ _) rfl) ?_
                          refine st_nil ?_
                          refine nx_cut (((A8, c8, K), (A81, c81, V6 ++ [(((i + 1 : Nat) : Int), ((i + 1 : Nat) : Int))]))) ⟨rfl, (congrArg (fun n => Value.slice A81 n c81) (show V6.length + 1 = (V6 ++ [(((i + 1 : Nat) : Int), ((i + 1 : Nat) : Int))]).length by simp)), trivial⟩ (by (iterate 50 refine agr_cons rfl ?_); exact agr_rfl) ?_
                          exact ⟨hst6, hrK, hn8, by rw [List.length_append, List.map_append]; exact hu81, hB81⟩
              · (try first | replace Q7 := bn_t Q7 | replace Q7 := bn_f Q7)
                (try first | replace Q7 := bx_t Q7 | replace Q7 := bx_f Q7 | replace Q7 := be_t Q7 | replace Q7 := be_f Q7 | replace Q7 := of_decide_eq_true Q7 | replace Q7 := of_decide_eq_false Q7)
                first
                 | (exfalso; first | omega | contradiction | (cases Q7; done))
                 | skip
                   refine st_unguard rfl ?_
                   refine st_val (ro_move (v := .slice _ _ _) rfl) ?_
                   refine st_unguard rfl ?_
                   refine st_val (ro_len SesOnce_l55 rfl) ?_
                   refine st_unguard rfl ?_
                   refine st_val (ro_eql rfl rfl) ?_
                   refine st_val (ro_pickF (v := .bool _) rfl rfl) ?_
                   refine st_nil ?_
                   refine nx_then ?_
                   refine cd_cond rfl (fun Q20 => ?_) (fun Q20 => ?_)
                   · (try first | replace Q20 := bn_t Q20 | replace Q20 := bn_f Q20)
                     (try first | replace Q20 := bx_t Q20 | replace Q20 := bx_f Q20 | replace Q20 := be_t Q20 | replace Q20 := be_f Q20 | replace Q20 := of_decide_eq_true Q20 | replace Q20 := of_decide_eq_false Q20)
                     first
                      | (exfalso; first | omega | contradiction | (cases Q20; done))
                      | skip
                        refine cd_seq ?_
                        refine cd_region ?_
                        refine st_val (ro_move (v := .slice _ _ _) rfl) ?_
                        refine st_val (ro_move (v := .int _ _) rfl) ?_
                        refine st_call SesOnce_k26 (open_rt A3 c3 L _ hrL (by omega) hn3 ((i + 1 : Nat) : Int) hst.1) ?_
                        rintro v55 w21 ⟨⟨K, err, A8, c8, rfl, hg55, hrK, hn8, hbK⟩, E55⟩
                        obtain ⟨rfl, hO1, hO2⟩ := once_open hst (by omega) (by omega) hg55
                        have hxK : ∀ q q2, A8.map (·.block) = some q → A4.map (·.block) = some q2 → q ≠ q2 := fun q q2 h1 h2 => by have := hbK q h1; have := (used_at hu q2 h2).2; omega
                        replace hu := used_from hu E55
                        refine st_val (ro_move (v := .tuple _) rfl) ?_
                        refine st_val (ro_extract rfl rfl) ?_
                        refine st_val (ro_extract rfl rfl) ?_
                        refine st_val (ro_assign (v := .slice _ _ _) rfl) ?_
                        refine st_val (ro_assign (v := .int _ _) rfl) ?_
                        refine st_nil ?_
                        refine nx_then ?_
                        refine cd_seq ?_
                        refine cd_seq ?_
                        refine cd_region ?_
                        refine st_val (ro_move (v := .int _ _) rfl) ?_
                        refine st_call SesOnce_k12 (num_any _ _) ?_
                        rintro v59 w22 ⟨rfl, rfl⟩
                        refine st_val (ro_neq rfl rfl) ?_
                        refine st_nil ?_
                        refine nx_then ?_
                        refine cd_cond rfl (fun Q23 => ?_) (fun Q23 => ?_)
                        · (try first | replace Q23 := bn_t Q23 | replace Q23 := bn_f Q23)
                          (try first | replace Q23 := bx_t Q23 | replace Q23 := bx_f Q23 | replace Q23 := be_t Q23 | replace Q23 := be_f Q23 | replace Q23 := of_decide_eq_true Q23 | replace Q23 := of_decide_eq_false Q23)
                          first
                           | (exfalso; first | omega | contradiction | (cases Q23; done))
                           | skip
                             refine cd_seq ?_
                             refine cd_region ?_
                             refine st_val (ro_assign (v := .bool _) rfl) ?_
                             refine st_nil ?_
                             refine nx_then ?_
                             refine cd_ret ?_
                             refine rt_then ?_
                             refine rt_then ?_
                             refine rt_block ?_
                             refine rt_then ?_
                             refine rt_then ?_
                             refine rt_block ?_
                             refine rt_then ?_
                             refine res1 (v := .bool _) rfl rfl ?_
                             exact ⟨rfl, (((hB.next E7).only O8 (hg7)).next E55)⟩
                        · (try first | replace Q23 := bn_t Q23 | replace Q23 := bn_f Q23)
                          (try first | replace Q23 := bx_t Q23 | replace Q23 := bx_f Q23 | replace Q23 := be_t Q23 | replace Q23 := be_f Q23 | replace Q23 := of_decide_eq_true Q23 | replace Q23 := of_decide_eq_false Q23)
                          first
                           | (exfalso; first | omega | contradiction | (cases Q23; done))
                           | skip
                             refine cd_skip ?_
                             refine nx_then ?_
                             refine cd_cut (G := Option Addr × Nat × List (Int × Int)) [2, 10, 11, 12, 61, 62, 63, 64, 65, 66, 67, 68, 69, 70, 71, 72, 73, 74, 75, 76, 77] (fun (A6, c6, V6) => [(4, .slice A6 V6.length c6)]) (fun (A6, c6, V6) w' => UsedAt w' w.heap.size A6 V6.length c6 (V6.map (·.1)) ∧ V6.length ≤ 8 ∧ OnceSt K (V6 ++ [(((i + 1 : Nat) : Int), ((i + 1 : Nat) : Int))]) ((i + 1 : Nat) : Int) ∧ RowS w' A8 K ∧ (∀ q q2, A8.map (·.block) = some q → A6.map (·.block) = some q2 → q ≠ q2) ∧ From w w') ?_ ?_
                             · refine cd_seq ?_
                               refine cd_region ?_
                               refine st_val (ro_move (v := .slice _ _ _) rfl) ?_
                               refine st_val (ro_len SesOnce_l55 rfl) ?_
                               refine st_val (ro_eql rfl rfl) ?_
                               refine st_nil ?_
                               refine nx_then ?_
                               refine cd_cond rfl (fun Q24 => ?_) (fun Q24 => ?_)
                               · (try first | replace Q24 := bn_t Q24 | replace Q24 := bn_f Q24)
                                 (try first | replace Q24 := bx_t Q24 | replace Q24 := bx_f Q24 | replace Q24 := be_t Q24 | replace Q24 := be_f Q24 | replace Q24 := of_decide_eq_true Q24 | replace Q24 := of_decide_eq_false Q24)
                                 have hV88 : V.length = 8 := by omega
                                 obtain ⟨g4, o4, rfl, hnc⟩ := used_form hu (by omega)
                                 obtain ⟨v0, V', rfl, hst7, hne⟩ := hO2 hV88
                                 rw [List.length_cons] at hV88
                                 first
                                  | (exfalso; first | omega | contradiction | (cases Q24; done))
                                  | skip
                                    refine cd_seq ?_
                                    refine cd_region ?_
                                    refine st_val (ro_move (v := .slice _ _ _) rfl) ?_
                                    refine st_val (ro_move (v := .slice _ _ _) rfl) ?_
                                    refine st_val (ro_indexAddr1 (i := 0) SesOnce_e55 rfl rfl (by simp)) ?_
                                    refine st_val (ro_load SesOnce_g3 rfl (by exact used_cell (q := 0) hu (by simp))) ?_
                                    refine st_call SesOnce_k16 (begin_no A8 c8 K _ hrK hst7.1 v0.1 1 hne (by omega)) ?_
                                    rintro v69 w25 ⟨rfl, E69⟩
                                    refine st_val (ro_move (v := .tuple _) rfl) ?_
                                    refine st_val (ro_extract rfl rfl) ?_
                                    refine st_val (ro_extract rfl rfl) ?_
                                    refine st_val (ro_extract rfl rfl) ?_
                                    refine st_alloc SesOnce_o31 ?_
                                    intro b10 w26 E10 hb10 hk10
                                    have hg10 : w.heap.size ≤ b10 := by rw [hb10]; exact (((((hB.next E7).only O8 (hg7)).next E55).next E69)).size
                                    refine st_putW (vs := [_, _, _]) SesOnce_z31 rfl rfl (by simp [Value.oneCell']) (hk10) rfl ?_
                                    intro w27 O14 P14
                                    have F14 : From _ w27 := (E69.next E10).only O14 (by rw [hb10]; exact E69.size)
                                    replace hrK := hrK.from_ F14
                                    replace hu := used_from hu F14
                                    refine st_val (ro_assign (v := .bool _) rfl) ?_
                                    refine st_val (ro_assign (v := .int _ _) rfl) ?_
                                    refine st_nil ?_
                                    refine nx_then ?_
                                    refine cd_seq ?_
                                    refine cd_seq ?_
                                    refine cd_region ?_
                                    refine st_val (ro_move (v := .int _ _) rfl) ?_
                                    refine st_call SesOnce_k12 (num_any _ _) ?_
                                    rintro v74 w28 ⟨rfl, rfl⟩
                                    refine st_val (ro_neq rfl rfl) ?_
                                    refine st_nil ?_
                                    refine nx_then ?_
                                    refine cd_cond rfl (fun Q29 => ?_) (fun Q29 => ?_)
                                    · (try first | replace Q29 := bn_t Q29 | replace Q29 := bn_f Q29)
                                      (try first | replace Q29 := bx_t Q29 | replace Q29 := bx_f Q29 | replace Q29 := be_t Q29 | replace Q29 := be_f Q29 | replace Q29 := of_decide_eq_true Q29 | replace Q29 := of_decide_eq_false Q29)
                                      first
                                       | (exfalso; first | omega | contradiction | (cases Q29; done))
                                       | skip
                                         refine cd_seq ?_
                                         refine cd_region ?_
                                         refine st_val (ro_assign (v := .bool _) rfl) ?_
                                         refine st_nil ?_
                                         refine nx_then ?_
                                         refine cd_ret ?_
                                         refine rt_then ?_
                                         refine rt_then ?_
                                         refine rt_then ?_
                                         refine rt_block ?_
                                         refine rt_then ?_
                                         refine rt_then ?_
                                         refine rt_block ?_
                                         refine rt_then ?_
                                         refine res1 (v := .bool _) rfl rfl ?_
                                         exact ⟨rfl, ((((((hB.next E7).only O8 (hg7)).next E55).next E69).next E10).only O14 (hg10))⟩
                                    · (try first | replace Q29 := bn_t Q29 | replace Q29 := bn_f Q29)
                                      (try first | replace Q29 := bx_t Q29 | replace Q29 := bx_f Q29 | replace Q29 := be_t Q29 | replace Q29 := be_f Q29 | replace Q29 := of_decide_eq_true Q29 | replace Q29 := of_decide_eq_false Q29)
                                      first
                                       | (exfalso; first | omega | contradiction | (cases Q29; done))
                                       | skip
                                         refine cd_skip ?_
                                         refine nx_then ?_
                                         refine cd_region ?_
                                         refine st_val (ro_move (v := .slice _ _ _) rfl) ?_
                                         refine st_val (ro_eq (v' := .slice (some ⟨g4, o4 + 1, none⟩) V'.length (c4 - 1)) (ro_dropN (m := 1) SesOnceU_e55 rfl rfl (by simp) hnc) (by rw [if_neg (by omega)]; rfl)) ?_
                                         have hu7 : UsedAt w27 w.heap.size (some ⟨g4, o4 + 1, none⟩) V'.length (c4 - 1) (V'.map (·.1)) := used_tail (n := V'.length) hu
                                         have hV7 : V'.length ≤ 8 := by omega
                                         refine st_val (ro_assign (v := .slice _ _ _) rfl) ?_
                                         refine st_nil ?_
                                         refine nx_cut ((some ⟨g4, o4 + 1, none⟩, c4 - 1, V')) ⟨(by first | rfl | simp), trivial⟩ (by (iterate 21 refine agr_cons rfl ?_); exact agr_rfl) ?_
                                         exact ⟨hu7, hV7, hst7, hrK, hxK, ((((((hB.next E7).only O8 (hg7)).next E55).next E69).next E10).only O14 (hg10))⟩
                               · (try first | replace Q24 := bn_t Q24 | replace Q24 := bn_f Q24)
                                 (try first | replace Q24 := bx_t Q24 | replace Q24 := bx_f Q24 | replace Q24 := be_t Q24 | replace Q24 := be_f Q24 | replace Q24 := of_decide_eq_true Q24 | replace Q24 := of_decide_eq_false Q24)
                                 first
                                  | (exfalso; first | omega | contradiction | (cases Q24; done))
                                  | skip
                                    refine cd_skip ?_
                                    refine nx_cut ((A4, c4, V)) ⟨(by first | rfl | simp), trivial⟩ (by (iterate 3 refine agr_cons rfl ?_); exact agr_rfl) ?_
                                    exact ⟨hu, hV8, hO1 (by omega), hrK, hxK, (((hB.next E7).only O8 (hg7)).next E55)⟩
                             · rintro ⟨A6, c6, V6⟩ ρ30 w30 ⟨hu, hV6, hst6, hrK, hxK, hB⟩
                               refine cd_seq ?_
                               refine cd_region ?_
                               refine st_val (ro_move (v := .slice _ _ _) rfl) ?_
                               refine st_val (ro_move (v := .int _ _) rfl) ?_
                               refine st_lit1 (v := .int _ _) SesOnce_q55 rfl rfl rfl ?_
                               intro b80 w31 E80 hb80 hk80
                               refine st_usedpush rfl (used_from hu E80) ((hB.next E80)).size rfl hk80 (by omega) ?_
                               intro A81 c81 w32 hu81 hg81
                               have hB81 := ((hB.next E80)).grew hg81 (fun k hk => (used_at (used_from hu E80) k hk).1)
                               replace hrK := rowS_grown (hrK.from_ E80) hg81 (fun q hq e => hxK q q hq e rfl)
                               refine st_val (ro_assign (v := .slice _ _ _) rfl) ?_
                               refine st_nil ?_
                               refine nx_then ?_
                               refine cd_region ?_
                               refine st_val (ro_move (v := .slice _ _ _) rfl) ?_
                               refine st_val (ro_assign (v := .slice _ _ _) rfl) ?_
                               refine st_nil ?_
                               refine nx_cut (((A8, c8, K), (A81, c81, V6 ++ [(((i + 1 : Nat) : Int), ((i + 1 : Nat) : Int))]))) ⟨rfl, (congrArg (fun n => Value.slice A81 n c81) (show V6.length + 1 = (V6 ++ [(((i + 1 : Nat) : Int), ((i + 1 : Nat) : Int))]).length by simp)), trivial⟩ (by (iterate 50 refine agr_cons rfl ?_); exact agr_rfl) ?_
                               exact ⟨hst6, hrK, hn8, by rw [List.length_append, List.map_append]; exact hu81, hB81⟩
                   · (try first | replace Q20 := bn_t Q20 | replace Q20 := bn_f Q20)
                     (try first | replace Q20 := bx_t Q20 | replace Q20 := bx_f Q20 | replace Q20 := be_t Q20 | replace Q20 := be_f Q20 | replace Q20 := of_decide_eq_true Q20 | replace Q20 := of_decide_eq_false Q20)
                     have hV0 : 0 < V.length := by omega
                     obtain ⟨g4, o4, rfl, hnc⟩ := used_form hu hV0
                     have hi1 := once_pos hst hV0
                     first
                      | (exfalso; first | omega | contradiction | (cases Q20; done))
                      | skip
                        refine cd_seq ?_
                        refine cd_region ?_
                        refine st_val (ro_fieldAddr SesOnce_f33_1 rfl) ?_
                        refine st_val (ro_load SesOnce_g3 rfl (by exact P8.rd 1 rfl)) ?_
                        refine st_val (ro_move (v := .slice _ _ _) rfl) ?_
                        refine st_val (ro_len SesOnce_l55 rfl) ?_
                        refine st_call SesOnce_k14 (within_any _ V.length _ (by omega)) ?_
                        rintro v87 w33 ⟨⟨k, hk, rfl⟩, rfl⟩
                        obtain ⟨cl, hcl⟩ : ∃ cl, cl = V[k].1 := ⟨_, rfl⟩
                        refine st_val (ro_assign (v := .int _ _) rfl) ?_
                        refine st_nil ?_
                        refine nx_then ?_
                        refine cd_seq ?_
                        refine cd_region ?_
                        refine st_val (ro_move (v := .slice _ _ _) rfl) ?_
                        refine st_val (ro_move (v := .int _ _) rfl) ?_
                        refine st_val (ro_indexAddr1 SesOnce_e55 rfl rfl (by omega)) ?_
                        refine st_val (ro_load SesOnce_g3 rfl (by exact used_cell hu hk)) ?_
                        refine st_spell (t := 91) (v := .int _ _) (v' := .int .i64 cl) rfl (by rw [hcl]) ?_
                        refine st_val (ro_assign (v := .int _ _) rfl) ?_
                        refine st_nil ?_
                        refine nx_then ?_
                        refine cd_seq ?_
                        refine cd_region ?_
                        refine st_val (ro_move (v := .int _ _) rfl) ?_
                        refine st_val (ro_build (l := [(1, .tmp 92)]) (SesOnce_b31_1 _)) ?_
                        refine st_alloc SesOnce_o31 ?_
                        intro b15 w34 E15 hb15 hk15
                        have hg15 : w.heap.size ≤ b15 := by rw [hb15]; exact (((hB.next E7).only O8 (hg7))).size
                        refine st_putW (vs := [_, _, _]) SesOnce_z31 rfl rfl (by simp [Value.oneCell']) (hk15) rfl ?_
                        intro w35 O22 P22
                        have F22 : From _ w35 := E15.only O22 (by rw [hb15]; exact Nat.le_refl _)
                        replace hrL := hrL.from_ F22
                        replace hu := used_from hu F22
                        replace P8 := P8.from_ F22
                        refine st_nil ?_
                        refine nx_then ?_
                        refine cd_seq ?_
                        refine cd_region ?_
                        refine st_val (ro_move (v := .slice _ _ _) rfl) ?_
                        refine st_val (ro_move (v := .int _ _) rfl) ?_
                        refine st_val (ro_move (v := .int _ _) rfl) ?_
                        refine st_val (ro_loadA (cs := [_, _, _]) SesOnce_g31 SesOnce_z31 rfl (by exact P22.whole)) ?_
                        refine st_val (ro_move (v := .int _ _) rfl) ?_
                        refine st_call SesOnce_k20 (done_rt A3 c3 L _ hrL (by omega) hn3 cl ((i + 1 : Nat) : Int) 0 ((i + 1 : Nat) : Int) ((i + 1 : Nat) : Int) none 0 0 hst.1) ?_
                        rintro v100 w36 ⟨⟨K, err, A16, c16, rfl, hg100, hrK, hn16⟩, E100⟩
                        obtain ⟨rfl, hst1, i1, hi1, hK1⟩ := once_done hst (by omega) (by omega) hk hcl hg100
                        replace hu := used_from hu E100
                        replace P8 := P8.from_ E100
                        replace P22 := P22.from_ E100
                        refine st_val (ro_move (v := .tuple _) rfl) ?_
                        refine st_val (ro_extract rfl rfl) ?_
                        refine st_val (ro_extract rfl rfl) ?_
                        refine st_val (ro_assign (v := .slice _ _ _) rfl) ?_
                        refine st_val (ro_assign (v := .int _ _) rfl) ?_
                        refine st_nil ?_
                        refine nx_then ?_
                        refine cd_seq ?_
                        refine cd_region ?_
                        refine st_val (ro_move (v := .slice _ _ _) rfl) ?_
                        refine st_val (ro_move (v := .int _ _) rfl) ?_
                        refine st_val (ro_move (v := .int _ _) rfl) ?_
                        refine st_call SesOnce_k16 (begin_is A16 c16 K _ hrK hst1.1 cl ((i + 1 : Nat) : Int) _ hi1 hK1 (by omega) rfl) ?_
                        rintro v107 w37 ⟨rfl, E107⟩
                        refine st_val (ro_move (v := .tuple _) rfl) ?_
                        refine st_val (ro_extract rfl rfl) ?_
                        refine st_val (ro_extract rfl rfl) ?_
                        refine st_val (ro_extract rfl rfl) ?_
                        refine st_alloc SesOnce_o31 ?_
                        intro b18 w38 E18 hb18 hk18
                        have hg18 : w.heap.size ≤ b18 := by rw [hb18]; exact (((((((hB.next E7).only O8 (hg7)).next E15).only O22 (hg15)).next E100).next E107)).size
                        refine st_putW (vs := [_, _, _]) SesOnce_z31 rfl rfl (by simp [Value.oneCell']) (hk18) rfl ?_
                        intro w39 O24 P24
                        have F24 : From _ w39 := (E107.next E18).only O24 (by rw [hb18]; exact E107.size)
                        replace hrK := hrK.from_ F24
                        replace hu := used_from hu F24
                        replace P8 := P8.from_ F24
                        replace P22 := P22.from_ F24
                        refine st_val (ro_assign (v := .bool _) rfl) ?_
                        refine st_val (ro_assign (v := .int _ _) rfl) ?_
                        refine st_nil ?_
                        refine nx_then ?_
                        refine cd_seq ?_
                        refine cd_region ?_
                        refine st_val (ro_move (v := .slice _ _ _) rfl) ?_
                        refine st_val (ro_move (v := .int _ _) rfl) ?_
                        refine st_val (ro_move (v := .int _ _) rfl) ?_
                        refine st_val (ro_subN (b := 1) rfl rfl (by omega)) ?_
                        refine st_call SesOnce_k16 (begin_old A16 c16 K _ hrK hst1.1 cl ((i + 1 : Nat) : Int) _ hi1 hK1 (by omega) (by omega)) ?_
                        rintro v116 w40 ⟨rfl, E116⟩
                        refine st_val (ro_move (v := .tuple _) rfl) ?_
                        refine st_val (ro_extract rfl rfl) ?_
                        refine st_val (ro_extract rfl rfl) ?_
                        refine st_val (ro_extract rfl rfl) ?_
                        refine st_alloc SesOnce_o31 ?_
                        intro b21 w41 E21 hb21 hk21
                        have hg21 : w.heap.size ≤ b21 := by rw [hb21]; exact ((((((((((hB.next E7).only O8 (hg7)).next E15).only O22 (hg15)).next E100).next E107).next E18).only O24 (hg18)).next E116)).size
                        refine st_putW (vs := [_, _, _]) SesOnce_z31 rfl rfl (by simp [Value.oneCell']) (hk21) rfl ?_
                        intro w42 O25 P25
                        have F25 : From _ w42 := (E116.next E21).only O25 (by rw [hb21]; exact E116.size)
                        replace hrK := hrK.from_ F25
                        replace hu := used_from hu F25
                        replace P8 := P8.from_ F25
                        replace P22 := P22.from_ F25
                        replace P24 := P24.from_ F25
                        refine st_val (ro_assign (v := .bool _) rfl) ?_
                        refine st_val (ro_assign (v := .int _ _) rfl) ?_
                        refine st_nil ?_
                        refine nx_then ?_
                        refine cd_seq ?_
                        refine cd_region ?_
                        refine st_val (ro_move (v := .slice _ _ _) rfl) ?_
                        refine st_val (ro_move (v := .int _ _) rfl) ?_
                        refine st_val (ro_move (v := .int _ _) rfl) ?_
                        refine st_val (ro_addN (b := 1) rfl rfl (by omega)) ?_
                        refine st_call SesOnce_k16 (begin_new A16 c16 K _ hrK hst1.1 cl ((i + 1 : Nat) : Int) _ hi1 hK1 (by omega) (by omega)) ?_
                        rintro v125 w43 ⟨rfl, E125⟩
                        refine st_val (ro_move (v := .tuple _) rfl) ?_
                        refine st_val (ro_extract rfl rfl) ?_
                        refine st_val (ro_extract rfl rfl) ?_
                        refine st_val (ro_extract rfl rfl) ?_
                        refine st_alloc SesOnce_o31 ?_
                        intro b24 w44 E24 hb24 hk24
                        have hg24 : w.heap.size ≤ b24 := by rw [hb24]; exact (((((((((((((hB.next E7).only O8 (hg7)).next E15).only O22 (hg15)).next E100).next E107).next E18).only O24 (hg18)).next E116).next E21).only O25 (hg21)).next E125)).size
                        refine st_putW (vs := [_, _, _]) SesOnce_z31 rfl rfl (by simp [Value.oneCell']) (hk24) rfl ?_
                        intro w45 O26 P26
                        have F26 : From _ w45 := (E125.next E24).only O26 (by rw [hb24]; exact E125.size)
                        replace hrK := hrK.from_ F26
                        replace hu := used_from hu F26
                        replace P8 := P8.from_ F26
                        replace P22 := P22.from_ F26
                        replace P24 := P24.from_ F26
                        refine st_val (ro_assign (v := .bool _) rfl) ?_
                        refine st_val (ro_assign (v := .int _ _) rfl) ?_
                        refine st_nil ?_
                        refine nx_then ?_
                        refine cd_seq ?_
                        refine cd_seq ?_
                        refine cd_region ?_
                        refine st_val (ro_move (v := .int _ _) rfl) ?_
                        refine st_call SesOnce_k12 (num_any _ _) ?_
                        rintro v130 w46 ⟨rfl, rfl⟩
                        refine st_val (ro_neq rfl rfl) ?_
                        refine st_val (ro_move (v := .bool _) rfl) ?_
                        refine st_split (t := 132) rfl (fun Q47 => ?_) (fun Q47 => ?_)
                        · (try first | replace Q47 := bn_t Q47 | replace Q47 := bn_f Q47)
                          (try first | replace Q47 := bx_t Q47 | replace Q47 := bx_f Q47 | replace Q47 := be_t Q47 | replace Q47 := be_f Q47 | replace Q47 := of_decide_eq_true Q47 | replace Q47 := of_decide_eq_false Q47)
                          first
                           | (exfalso; first | omega | contradiction | (cases Q47; done))
                           | skip
                             refine st_gno rfl rfl ?_
                             refine st_gno rfl rfl ?_
                             refine st_gno rfl rfl ?_
                             refine st_val (ro_pickT (v := .bool _) rfl rfl) ?_
                             refine st_val (ro_move (v := .bool _) rfl) ?_
                             refine st_gno rfl rfl ?_
                             refine st_gno rfl rfl ?_
                             refine st_val (ro_pickT (v := .bool _) rfl rfl) ?_
                             refine st_val (ro_move (v := .bool _) rfl) ?_
                             refine st_gno rfl rfl ?_
                             refine st_gno rfl rfl ?_
                             refine st_gno rfl rfl ?_
                             refine st_gno rfl rfl ?_
                             refine st_val (ro_pickT (v := .bool _) rfl rfl) ?_
                             refine st_val (ro_move (v := .bool _) rfl) ?_
                             refine st_gno rfl rfl ?_
                             refine st_gno rfl rfl ?_
                             refine st_gno rfl rfl ?_
                             refine st_val (ro_pickT (v := .bool _) rfl rfl) ?_
                             refine st_val (ro_move (v := .bool _) rfl) ?_
                             refine st_gno rfl rfl ?_
                             refine st_gno rfl rfl ?_
                             refine st_gno rfl rfl ?_
                             refine st_val (ro_pickT (v := .bool _) rfl rfl) ?_
                             refine st_val (ro_move (v := .bool _) rfl) ?_
                             refine st_gno rfl rfl ?_
                             refine st_val (ro_pickT (v := .bool _) rfl rfl) ?_
                             refine st_nil ?_
                             refine nx_then ?_
                             refine cd_condT rfl ?_
                             refine cd_seq ?_
                             refine cd_region ?_
                             refine st_val (ro_assign (v := .bool _) rfl) ?_
                             refine st_nil ?_
                             refine nx_then ?_
                             refine cd_ret ?_
                             refine rt_then ?_
                             refine rt_then ?_
                             refine rt_block ?_
                             refine rt_then ?_
                             refine rt_then ?_
                             refine rt_block ?_
                             refine rt_then ?_
                             refine res1 (v := .bool _) rfl rfl ?_
                             exact ⟨rfl, ((((((((((((((hB.next E7).only O8 (hg7)).next E15).only O22 (hg15)).next E100).next E107).next E18).only O24 (hg18)).next E116).next E21).only O25 (hg21)).next E125).next E24).only O26 (hg24))⟩
                        · (try first | replace Q47 := bn_t Q47 | replace Q47 := bn_f Q47)
                          (try first | replace Q47 := bx_t Q47 | replace Q47 := bx_f Q47 | replace Q47 := be_t Q47 | replace Q47 := be_f Q47 | replace Q47 := of_decide_eq_true Q47 | replace Q47 := of_decide_eq_false Q47)
                          first
                           | (exfalso; first | omega | contradiction | (cases Q47; done))
                           | skip
                             refine st_unguard rfl ?_
                             refine st_val (ro_move (v := .int _ _) rfl) ?_
                             refine st_unguard rfl ?_
                             refine st_call SesOnce_k12 (num_any _ _) ?_
                             rintro v134 w48 ⟨rfl, rfl⟩
                             refine st_unguard rfl ?_
                             refine st_val (ro_neq rfl rfl) ?_
                             refine st_val (ro_pickF (v := .bool _) rfl rfl) ?_
                             refine st_val (ro_move (v := .bool _) rfl) ?_
                             refine st_split (t := 137) rfl (fun Q49 => ?_) (fun Q49 => ?_)
                             · (try first | replace Q49 := bn_t Q49 | replace Q49 := bn_f Q49)
                               (try first | replace Q49 := bx_t Q49 | replace Q49 := bx_f Q49 | replace Q49 := be_t Q49 | replace Q49 := be_f Q49 | replace Q49 := of_decide_eq_true Q49 | replace Q49 := of_decide_eq_false Q49)
                               first
                                | (exfalso; first | omega | contradiction | (cases Q49; done))
                                | skip
                                  refine st_gno rfl rfl ?_
                                  refine st_gno rfl rfl ?_
                                  refine st_val (ro_pickT (v := .bool _) rfl rfl) ?_
                                  refine st_val (ro_move (v := .bool _) rfl) ?_
                                  refine st_gno rfl rfl ?_
                                  refine st_gno rfl rfl ?_
                                  refine st_gno rfl rfl ?_
                                  refine st_gno rfl rfl ?_
                                  refine st_val (ro_pickT (v := .bool _) rfl rfl) ?_
                                  refine st_val (ro_move (v := .bool _) rfl) ?_
                                  refine st_gno rfl rfl ?_
                                  refine st_gno rfl rfl ?_
                                  refine st_gno rfl rfl ?_
                                  refine st_val (ro_pickT (v := .bool _) rfl rfl) ?_
                                  refine st_val (ro_move (v := .bool _) rfl) ?_
                                  refine st_gno rfl rfl ?_
                                  refine st_gno rfl rfl ?_
                                  refine st_gno rfl rfl ?_
                                  refine st_val (ro_pickT (v := .bool _) rfl rfl) ?_
                                  refine st_val (ro_move (v := .bool _) rfl) ?_
                                  refine st_gno rfl rfl ?_
                                  refine st_val (ro_pickT (v := .bool _) rfl rfl) ?_
                                  refine st_nil ?_
                                  refine nx_then ?_
                                  refine cd_condT rfl ?_
                                  refine cd_seq ?_
                                  refine cd_region ?_
                                  refine st_val (ro_assign (v := .bool _) rfl) ?_
                                  refine st_nil ?_
                                  refine nx_then ?_
                                  refine cd_ret ?_
                                  refine rt_then ?_
                                  refine rt_then ?_
                                  refine rt_block ?_
                                  refine rt_then ?_
                                  refine rt_then ?_
                                  refine rt_block ?_
                                  refine rt_then ?_
                                  refine res1 (v := .bool _) rfl rfl ?_
                                  exact ⟨rfl, ((((((((((((((hB.next E7).only O8 (hg7)).next E15).only O22 (hg15)).next E100).next E107).next E18).only O24 (hg18)).next E116).next E21).only O25 (hg21)).next E125).next E24).only O26 (hg24))⟩
                             · (try first | replace Q49 := bn_t Q49 | replace Q49 := bn_f Q49)
                               (try first | replace Q49 := bx_t Q49 | replace Q49 := bx_f Q49 | replace Q49 := be_t Q49 | replace Q49 := be_f Q49 | replace Q49 := of_decide_eq_true Q49 | replace Q49 := of_decide_eq_false Q49)
                               first
                                | (exfalso; first | omega | contradiction | (cases Q49; done))
                                | skip
                                  refine st_unguard rfl ?_
                                  refine st_val (ro_move (v := .bool _) rfl) ?_
                                  refine st_unguard rfl ?_
                                  refine st_val (ro_not rfl) ?_
                                  refine st_val (ro_pickF (v := .bool _) rfl rfl) ?_
                                  refine st_val (ro_move (v := .bool _) rfl) ?_
                                  refine st_split (t := 141) rfl (fun Q50 => ?_) (fun Q50 => ?_)
                                  · (try first | replace Q50 := bn_t Q50 | replace Q50 := bn_f Q50)
                                    (try first | replace Q50 := bx_t Q50 | replace Q50 := bx_f Q50 | replace Q50 := be_t Q50 | replace Q50 := be_f Q50 | replace Q50 := of_decide_eq_true Q50 | replace Q50 := of_decide_eq_false Q50)
                                    first
                                     | (exfalso; first | omega | contradiction | (cases Q50; done))
                                     | skip
                                       refine st_gno rfl rfl ?_
                                       refine st_gno rfl rfl ?_
                                       refine st_gno rfl rfl ?_
                                       refine st_gno rfl rfl ?_
                                       refine st_val (ro_pickT (v := .bool _) rfl rfl) ?_
                                       refine st_val (ro_move (v := .bool _) rfl) ?_
                                       refine st_gno rfl rfl ?_
                                       refine st_gno rfl rfl ?_
                                       refine st_gno rfl rfl ?_
                                       refine st_val (ro_pickT (v := .bool _) rfl rfl) ?_
                                       refine st_val (ro_move (v := .bool _) rfl) ?_
                                       refine st_gno rfl rfl ?_
                                       refine st_gno rfl rfl ?_
                                       refine st_gno rfl rfl ?_
                                       refine st_val (ro_pickT (v := .bool _) rfl rfl) ?_
                                       refine st_val (ro_move (v := .bool _) rfl) ?_
                                       refine st_gno rfl rfl ?_
                                       refine st_val (ro_pickT (v := .bool _) rfl rfl) ?_
                                       refine st_nil ?_
                                       refine nx_then ?_
                                       refine cd_condT rfl ?_
                                       refine cd_seq ?_
                                       refine cd_region ?_
                                       refine st_val (ro_assign (v := .bool _) rfl) ?_
                                       refine st_nil ?_
                                       refine nx_then ?_
                                       refine cd_ret ?_
                                       refine rt_then ?_
                                       refine rt_then ?_
                                       refine rt_block ?_
                                       refine rt_then ?_
                                       refine rt_then ?_
                                       refine rt_block ?_
                                       refine rt_then ?_
                                       refine res1 (v := .bool _) rfl rfl ?_
                                       exact ⟨rfl, ((((((((((((((hB.next E7).only O8 (hg7)).next E15).only O22 (hg15)).next E100).next E107).next E18).only O24 (hg18)).next E116).next E21).only O25 (hg21)).next E125).next E24).only O26 (hg24))⟩
                                  · (try first | replace Q50 := bn_t Q50 | replace Q50 := bn_f Q50)
                                    (try first | replace Q50 := bx_t Q50 | replace Q50 := bx_f Q50 | replace Q50 := be_t Q50 | replace Q50 := be_f Q50 | replace Q50 := of_decide_eq_true Q50 | replace Q50 := of_decide_eq_false Q50)
                                    first
                                     | (exfalso; first | omega | contradiction | (cases Q50; done))
                                     | skip
                                       refine st_unguard rfl ?_
                                       refine st_val (ro_loadA (cs := [_, _, _]) SesOnce_g31 SesOnce_z31 rfl (by exact P24.whole)) ?_
                                       refine st_unguard rfl ?_
                                       refine st_val (ro_loadA (cs := [_, _, _]) SesOnce_g31 SesOnce_z31 rfl (by exact P22.whole)) ?_
                                       refine st_unguard rfl ?_
                                       refine st_call SesOnce_k17 (eqReply0 0 ((i + 1 : Nat) : Int) none none 0 0 _) ?_
                                       rintro v144 w51 ⟨rfl, E144⟩
                                       replace hrK := hrK.from_ E144
                                       replace hu := used_from hu E144
                                       replace P8 := P8.from_ E144
                                       refine st_unguard rfl ?_
                                       refine st_val (ro_not rfl) ?_
                                       refine st_val (ro_pickF (v := .bool _) rfl rfl) ?_
                                       refine st_val (ro_move (v := .bool _) rfl) ?_
                                       refine st_split (t := 147) rfl (fun Q52 => ?_) (fun Q52 => ?_)
                                       · (try first | replace Q52 := bn_t Q52 | replace Q52 := bn_f Q52)
                                         (try first | replace Q52 := bx_t Q52 | replace Q52 := bx_f Q52 | replace Q52 := be_t Q52 | replace Q52 := be_f Q52 | replace Q52 := of_decide_eq_true Q52 | replace Q52 := of_decide_eq_false Q52)
                                         first
                                          | (exfalso; first | omega | contradiction | (cases Q52; done))
                                          | skip
                                            refine st_gno rfl rfl ?_
                                            refine st_gno rfl rfl ?_
                                            refine st_gno rfl rfl ?_
                                            refine st_val (ro_pickT (v := .bool _) rfl rfl) ?_
                                            refine st_val (ro_move (v := .bool _) rfl) ?_
                                            refine st_gno rfl rfl ?_
                                            refine st_gno rfl rfl ?_
                                            refine st_gno rfl rfl ?_
                                            refine st_val (ro_pickT (v := .bool _) rfl rfl) ?_
                                            refine st_val (ro_move (v := .bool _) rfl) ?_
                                            refine st_gno rfl rfl ?_
                                            refine st_val (ro_pickT (v := .bool _) rfl rfl) ?_
                                            refine st_nil ?_
                                            refine nx_then ?_
                                            refine cd_condT rfl ?_
                                            refine cd_seq ?_
                                            refine cd_region ?_
                                            refine st_val (ro_assign (v := .bool _) rfl) ?_
                                            refine st_nil ?_
                                            refine nx_then ?_
                                            refine cd_ret ?_
                                            refine rt_then ?_
                                            refine rt_then ?_
                                            refine rt_block ?_
                                            refine rt_then ?_
                                            refine rt_then ?_
                                            refine rt_block ?_
                                            refine rt_then ?_
                                            refine res1 (v := .bool _) rfl rfl ?_
                                            exact ⟨rfl, (((((((((((((((hB.next E7).only O8 (hg7)).next E15).only O22 (hg15)).next E100).next E107).next E18).only O24 (hg18)).next E116).next E21).only O25 (hg21)).next E125).next E24).only O26 (hg24)).next E144)⟩
                                       · (try first | replace Q52 := bn_t Q52 | replace Q52 := bn_f Q52)
                                         (try first | replace Q52 := bx_t Q52 | replace Q52 := bx_f Q52 | replace Q52 := be_t Q52 | replace Q52 := be_f Q52 | replace Q52 := of_decide_eq_true Q52 | replace Q52 := of_decide_eq_false Q52)
                                         first
                                          | (exfalso; first | omega | contradiction | (cases Q52; done))
                                          | skip
                                            refine st_unguard rfl ?_
                                            refine st_val (ro_move (v := .int _ _) rfl) ?_
                                            refine st_unguard rfl ?_
                                            refine st_call SesOnce_k12 (num_any _ _) ?_
                                            rintro v149 w53 ⟨rfl, rfl⟩
                                            refine st_unguard rfl ?_
                                            refine st_val (ro_neq rfl rfl) ?_
                                            refine st_val (ro_pickF (v := .bool _) rfl rfl) ?_
                                            refine st_val (ro_move (v := .bool _) rfl) ?_
                                            refine st_split (t := 152) rfl (fun Q54 => ?_) (fun Q54 => ?_)
                                            · (try first | replace Q54 := bn_t Q54 | replace Q54 := bn_f Q54)
                                              (try first | replace Q54 := bx_t Q54 | replace Q54 := bx_f Q54 | replace Q54 := be_t Q54 | replace Q54 := be_f Q54 | replace Q54 := of_decide_eq_true Q54 | replace Q54 := of_decide_eq_false Q54)
                                              first
                                               | (exfalso; first | omega | contradiction | (cases Q54; done))
                                               | skip
                                                 refine st_gno rfl rfl ?_
                                                 refine st_gno rfl rfl ?_
                                                 refine st_gno rfl rfl ?_
                                                 refine st_val (ro_pickT (v := .bool _) rfl rfl) ?_
                                                 refine st_val (ro_move (v := .bool _) rfl) ?_
                                                 refine st_gno rfl rfl ?_
                                                 refine st_val (ro_pickT (v := .bool _) rfl rfl) ?_
                                                 refine st_nil ?_
                                                 refine nx_then ?_
                                                 refine cd_condT rfl ?_
                                                 refine cd_seq ?_
                                                 refine cd_region ?_
                                                 refine st_val (ro_assign (v := .bool _) rfl) ?_
                                                 refine st_nil ?_
                                                 refine nx_then ?_
                                                 refine cd_ret ?_
                                                 refine rt_then ?_
                                                 refine rt_then ?_
                                                 refine rt_block ?_
                                                 refine rt_then ?_
                                                 refine rt_then ?_
                                                 refine rt_block ?_
                                                 refine rt_then ?_
                                                 refine res1 (v := .bool _) rfl rfl ?_
                                                 exact ⟨rfl, (((((((((((((((hB.next E7).only O8 (hg7)).next E15).only O22 (hg15)).next E100).next E107).next E18).only O24 (hg18)).next E116).next E21).only O25 (hg21)).next E125).next E24).only O26 (hg24)).next E144)⟩
                                            · (try first | replace Q54 := bn_t Q54 | replace Q54 := bn_f Q54)
                                              (try first | replace Q54 := bx_t Q54 | replace Q54 := bx_f Q54 | replace Q54 := be_t Q54 | replace Q54 := be_f Q54 | replace Q54 := of_decide_eq_true Q54 | replace Q54 := of_decide_eq_false Q54)
                                              first
                                               | (exfalso; first | omega | contradiction | (cases Q54; done))
                                               | skip
                                                 refine st_unguard rfl ?_
                                                 refine st_val (ro_move (v := .int _ _) rfl) ?_
                                                 refine st_unguard rfl ?_
                                                 refine st_call SesOnce_k12 (num_any _ _) ?_
                                                 rintro v154 w55 ⟨rfl, rfl⟩
                                                 refine st_unguard rfl ?_
                                                 refine st_val (ro_neq rfl rfl) ?_
                                                 refine st_val (ro_pickF (v := .bool _) rfl rfl) ?_
                                                 refine st_val (ro_move (v := .bool _) rfl) ?_
                                                 refine st_split (t := 157) rfl (fun Q56 => ?_) (fun Q56 => ?_)
                                                 · (try first | replace Q56 := bn_t Q56 | replace Q56 := bn_f Q56)
                                                   (try first | replace Q56 := bx_t Q56 | replace Q56 := bx_f Q56 | replace Q56 := be_t Q56 | replace Q56 := be_f Q56 | replace Q56 := of_decide_eq_true Q56 | replace Q56 := of_decide_eq_false Q56)
                                                   first
                                                    | (exfalso; first | omega | contradiction | (cases Q56; done))
                                                    | skip
                                                      refine st_gno rfl rfl ?_
                                                      refine st_val (ro_pickT (v := .bool _) rfl rfl) ?_
                                                      refine st_nil ?_
                                                      refine nx_then ?_
                                                      refine cd_condT rfl ?_
                                                      refine cd_seq ?_
                                                      refine cd_region ?_
                                                      refine st_val (ro_assign (v := .bool _) rfl) ?_
                                                      refine st_nil ?_
                                                      refine nx_then ?_
                                                      refine cd_ret ?_
                                                      refine rt_then ?_
                                                      refine rt_then ?_
                                                      refine rt_block ?_
                                                      refine rt_then ?_
                                                      refine rt_then ?_
                                                      refine rt_block ?_
                                                      refine rt_then ?_
                                                      refine res1 (v := .bool _) rfl rfl ?_
                                                      exact ⟨rfl, (((((((((((((((hB.next E7).only O8 (hg7)).next E15).only O22 (hg15)).next E100).next E107).next E18).only O24 (hg18)).next E116).next E21).only O25 (hg21)).next E125).next E24).only O26 (hg24)).next E144)⟩
                                                 · (try first | replace Q56 := bn_t Q56 | replace Q56 := bn_f Q56)
                                                   (try first | replace Q56 := bx_t Q56 | replace Q56 := bx_f Q56 | replace Q56 := be_t Q56 | replace Q56 := be_f Q56 | replace Q56 := of_decide_eq_true Q56 | replace Q56 := of_decide_eq_false Q56)
                                                   first
                                                    | (exfalso; first | omega | contradiction | (cases Q56; done))
                                                    | skip
                                                      refine st_unguard rfl ?_
                                                      refine st_val (ro_move (v := .bool _) rfl) ?_
                                                      refine st_val (ro_pickF (v := .bool _) rfl rfl) ?_
                                                      refine st_nil ?_
                                                      refine nx_then ?_
                                                      refine cd_cond rfl (fun Q57 => ?_) (fun Q57 => ?_)
                                                      · (try first | replace Q57 := bn_t Q57 | replace Q57 := bn_f Q57)
                                                        (try first | replace Q57 := bx_t Q57 | replace Q57 := bx_f Q57 | replace Q57 := be_t Q57 | replace Q57 := be_f Q57 | replace Q57 := of_decide_eq_true Q57 | replace Q57 := of_decide_eq_false Q57)
                                                        first
                                                         | (exfalso; first | omega | contradiction | (cases Q57; done))
                                                         | skip
                                                           refine cd_seq ?_
                                                           refine cd_region ?_
                                                           refine st_val (ro_assign (v := .bool _) rfl) ?_
                                                           refine st_nil ?_
                                                           refine nx_then ?_
                                                           refine cd_ret ?_
                                                           refine rt_then ?_
                                                           refine rt_then ?_
                                                           refine rt_block ?_
                                                           refine rt_then ?_
                                                           refine rt_then ?_
                                                           refine rt_block ?_
                                                           refine rt_then ?_
                                                           refine res1 (v := .bool _) rfl rfl ?_
                                                           exact ⟨rfl, (((((((((((((((hB.next E7).only O8 (hg7)).next E15).only O22 (hg15)).next E100).next E107).next E18).only O24 (hg18)).next E116).next E21).only O25 (hg21)).next E125).next E24).only O26 (hg24)).next E144)⟩
                                                      · (try first | replace Q57 := bn_t Q57 | replace Q57 := bn_f Q57)
                                                        (try first | replace Q57 := bx_t Q57 | replace Q57 := bx_f Q57 | replace Q57 := be_t Q57 | replace Q57 := be_f Q57 | replace Q57 := of_decide_eq_true Q57 | replace Q57 := of_decide_eq_false Q57)
                                                        first
                                                         | (exfalso; first | omega | contradiction | (cases Q57; done))
                                                         | skip
                                                           refine cd_skip ?_
                                                           refine nx_then ?_
                                                           refine cd_seq ?_
                                                           have hB29 := (((((((((((((((hB.next E7).only O8 (hg7)).next E15).only O22 (hg15)).next E100).next E107).next E18).only O24 (hg18)).next E116).next E21).only O25 (hg21)).next E125).next E24).only O26 (hg24)).next E144)
                                                           have hU3 : UsedAt w51 w.heap.size (some ⟨g4, o4, none⟩) V.length c4 (V.map (·.1)) := hu
                                                           have hV1 : V.length = (V.map (·.1)).length := (List.length_map _).symm
                                                           refine cd_invE (T29 g4 o4 V.length c4 k cl) (fun S x w' => M29 w51 k V.length cl (V.map (·.1)) S x w' ∧ (S 12 = true → S 0 = true ∧ S 4 = true) ∧ (S 11 = true → S 8 = true ∧ S 10 = true)) (by kernel_rfl) (by kernel_rfl) (fun x => t29_uni ..) (fun x p hp => by simp only [T29, List.mem_cons, List.not_mem_nil, or_false] at hp; rcases hp with rfl | rfl | rfl | rfl | rfl | rfl | rfl | rfl | rfl | rfl | rfl | rfl | rfl <;> simp) (undef, undef, undef, undef) ⟨⟨From.rfl_.d1, fun h => (by cases h), fun h => (by cases h), fun h => (by cases h), fun h => (by cases h), fun h => (by cases h)⟩, fun h => (by cases h), fun h => (by cases h)⟩ ?_ ?_
                                                           · refine ⟨?_, ?_, ?_, ?_, ?_, ?_, ?_, ?_, ?_, ?_, ?_, ?_, ?_, trivial⟩
                                                             · rintro S L' wS ⟨⟨x1, x2, x3, x4⟩, hI, hM⟩ hS ⟨-⟩
                                                               have e4 : look L' 4 = .slice (some ⟨g4, o4, none⟩) V.length c4 := hI.old (i := 12) (d := 4) (.tail _ (.tail _ (.tail _ (.tail _ (.tail _ (.tail _ (.tail _ (.tail _ (.tail _ (.tail _ (.tail _ (.tail _ (.head _))))))))))))) (by cases h12 : S 12 with | false => rfl | true => exact absurd (hM.2.1 h12).1 (by rw [hS]; decide))
                                                               exact step_ro (ro_move e4) ⟨(x1, x2, x3, x4), hI.put (t29_uni ..) (.head _), hM.1, fun h => ⟨rfl, (hM.2.1 h).2⟩, hM.2.2⟩
                                                             · rintro S L' wS ⟨⟨x1, x2, x3, x4⟩, hI, hM⟩ hS ⟨-⟩
                                                               have e13 := hI.1 13 (by simp [T29])
                                                               exact step_ro (ro_move e13) ⟨(x1, x2, x3, x4), hI.put (t29_uni ..) (.tail _ (.head _)), hM⟩
                                                             · rintro S L' wS ⟨⟨x1, x2, x3, x4⟩, hI, hM⟩ hS ⟨d0, d1, -⟩
                                                               have e160 := hI.get (i := 0) (d := 160) (.head _) d0
                                                               have e161 := hI.get (i := 1) (d := 161) (.tail _ (.head _)) d1
                                                               exact step_ro (ro_takeN SesOnceU_e55 e160 e161 (by omega)) ⟨(x1, x2, x3, x4), hI.put (t29_uni ..) (.tail _ (.tail _ (.head _))), hM⟩
                                                             · rintro S L' wS ⟨⟨x1, x2, x3, x4⟩, hI, hM⟩ hS ⟨d2, -⟩
                                                               have e162 := hI.get (i := 2) (d := 162) (.tail _ (.tail _ (.head _))) d2
                                                               refine step_call (al := [.tmp 162]) SesOnce_k29 ((copyNums_n (some ⟨g4, o4, none⟩) c4 k ((V.map (·.1)).take k) wS (by rw [List.length_take]; omega) (rowOf_take (used_row hU3).2 hM.1.1) (by omega) e162).mono ?_)
                                                               rintro v w2 ⟨A', c', rfl, ho, hF⟩
                                                               exact ⟨(.slice A' k c', x2, x3, x4), (t29_swap (y := (.slice A' k c', x2, x3, x4)) hI (fun h => absurd h (by rw [hS]; decide)) (fun _ => rfl) (fun _ => rfl) (fun _ => rfl) (fun _ => rfl)).put (t29_uni ..) (.tail _ (.tail _ (.tail _ (.head _)))), m29_copy hM.1 hF ho, hM.2⟩
                                                             · rintro S L' wS ⟨⟨x1, x2, x3, x4⟩, hI, hM⟩ hS ⟨-⟩
                                                               have e4 : look L' 4 = .slice (some ⟨g4, o4, none⟩) V.length c4 := hI.old (i := 12) (d := 4) (.tail _ (.tail _ (.tail _ (.tail _ (.tail _ (.tail _ (.tail _ (.tail _ (.tail _ (.tail _ (.tail _ (.tail _ (.head _))))))))))))) (by cases h12 : S 12 with | false => rfl | true => exact absurd (hM.2.1 h12).2 (by rw [hS]; decide))
                                                               exact step_ro (ro_move e4) ⟨(x1, x2, x3, x4), hI.put (t29_uni ..) (.tail _ (.tail _ (.tail _ (.tail _ (.head _))))), hM.1, fun h => ⟨(hM.2.1 h).1, rfl⟩, hM.2.2⟩
                                                             · rintro S L' wS ⟨⟨x1, x2, x3, x4⟩, hI, hM⟩ hS ⟨-⟩
                                                               have e13 := hI.1 13 (by simp [T29])
                                                               exact step_ro (ro_move e13) ⟨(x1, x2, x3, x4), hI.put (t29_uni ..) (.tail _ (.tail _ (.tail _ (.tail _ (.tail _ (.head _)))))), hM⟩
                                                             · rintro S L' wS ⟨⟨x1, x2, x3, x4⟩, hI, hM⟩ hS ⟨d5, -⟩
                                                               have e165 := hI.get (i := 5) (d := 165) (.tail _ (.tail _ (.tail _ (.tail _ (.tail _ (.head _)))))) d5
                                                               exact step_ro (ro_addN (b := 1) e165 rfl (by omega)) ⟨(x1, x2, x3, x4), hI.put (t29_uni ..) (.tail _ (.tail _ (.tail _ (.tail _ (.tail _ (.tail _ (.head _))))))), hM⟩
                                                             · rintro S L' wS ⟨⟨x1, x2, x3, x4⟩, hI, hM⟩ hS ⟨d4, d6, -⟩
                                                               have e164 := hI.get (i := 4) (d := 164) (.tail _ (.tail _ (.tail _ (.tail _ (.head _))))) d4
                                                               have e166 := hI.get (i := 6) (d := 166) (.tail _ (.tail _ (.tail _ (.tail _ (.tail _ (.tail _ (.head _))))))) d6
                                                               exact step_ro (ro_dropN SesOnceU_e55 e164 e166 (by omega) hnc) ⟨(x1, x2, x3, x4), hI.put (t29_uni ..) (.tail _ (.tail _ (.tail _ (.tail _ (.tail _ (.tail _ (.tail _ (.head _)))))))), hM⟩
                                                             · rintro S L' wS ⟨⟨x1, x2, x3, x4⟩, hI, hM⟩ hS ⟨d3, d7, -, -⟩
                                                               have e163 := hI.get (i := 3) (d := 163) (.tail _ (.tail _ (.tail _ (.head _)))) d3
                                                               have e167 := hI.get (i := 7) (d := 167) (.tail _ (.tail _ (.tail _ (.tail _ (.tail _ (.tail _ (.tail _ (.head _)))))))) d7
                                                               have h11 : S 11 = false := by
                                                                 cases h : S 11 with
                                                                 | false => rfl
                                                                 | true => exact absurd (hM.2.2 h).1 (by rw [hS]; decide)
                                                               obtain ⟨A', c', w2, hR, hM2⟩ := m29_app (ρ := ev 212 L') (s := .tmp 163) (y := .tmp 167) hM.1 hk hV1 (by omega) d3 hS h11 hnc (.inr ⟨_, hU3⟩) e163 e167
                                                               exact step_ro hR ⟨(x1, .slice A' (V.length - 1) c', x3, x4), (t29_swap (y := (x1, .slice A' (V.length - 1) c', x3, x4)) hI (fun _ => rfl) (fun h => absurd h (by rw [hS]; decide)) (fun _ => rfl) (fun _ => rfl) (fun _ => rfl)).put (t29_uni ..) (.tail _ (.tail _ (.tail _ (.tail _ (.tail _ (.tail _ (.tail _ (.tail _ (.head _))))))))), hM2, hM.2.1, fun h => ⟨rfl, (hM.2.2 h).2⟩⟩
                                                             · rintro S L' wS ⟨⟨x1, x2, x3, x4⟩, hI, hM⟩ hS ⟨-⟩
                                                               have e14 := hI.1 14 (by simp [T29])
                                                               exact step_ro (ro_move e14) ⟨(x1, x2, x3, x4), hI.put (t29_uni ..) (.tail _ (.tail _ (.tail _ (.tail _ (.tail _ (.tail _ (.tail _ (.tail _ (.tail _ (.head _)))))))))), hM⟩
                                                             · rintro S L' wS ⟨⟨x1, x2, x3, x4⟩, hI, hM⟩ hS ⟨d9, -⟩
                                                               have e169 := hI.get (i := 9) (d := 169) (.tail _ (.tail _ (.tail _ (.tail _ (.tail _ (.tail _ (.tail _ (.tail _ (.tail _ (.head _)))))))))) d9
                                                               have h11 : S 11 = false := by
                                                                 cases h : S 11 with
                                                                 | false => rfl
                                                                 | true => exact absurd (hM.2.2 h).2 (by rw [hS]; decide)
                                                               exact step_ro (ro_lit1 SesOnceU_q55 rfl e169 rfl) ⟨(x1, x2, .slice (some ⟨wS.heap.size, 0, none⟩) 1 1, x4), (t29_swap (y := (x1, x2, .slice (some ⟨wS.heap.size, 0, none⟩) 1 1, x4)) hI (fun _ => rfl) (fun _ => rfl) (fun h => absurd h (by rw [hS]; decide)) (fun _ => rfl) (fun _ => rfl)).put (t29_uni ..) (.tail _ (.tail _ (.tail _ (.tail _ (.tail _ (.tail _ (.tail _ (.tail _ (.tail _ (.tail _ (.head _))))))))))), m29_lit hM.1 hS h11, hM.2.1, fun h => ⟨(hM.2.2 h).1, rfl⟩⟩
                                                             · rintro S L' wS ⟨⟨x1, x2, x3, x4⟩, hI, hM⟩ hS ⟨d8, d10, -, -⟩
                                                               have e168 := hI.get (i := 8) (d := 168) (.tail _ (.tail _ (.tail _ (.tail _ (.tail _ (.tail _ (.tail _ (.tail _ (.head _))))))))) d8
                                                               have e170 := hI.get (i := 10) (d := 170) (.tail _ (.tail _ (.tail _ (.tail _ (.tail _ (.tail _ (.tail _ (.tail _ (.tail _ (.tail _ (.head _))))))))))) d10
                                                               obtain ⟨A', c', w2, hR, hM2⟩ := m29_app2 (ρ := ev 212 L') (s := .tmp 168) (y := .tmp 170) hM.1 hk (by omega) d8 d10 hS e168 e170
                                                               have h12 : S 12 = false := by
                                                                 cases h : S 12 with
                                                                 | false => rfl
                                                                 | true => exact absurd (hM.1.2.1 h) (by rw [hS]; decide)
                                                               exact step_ro hR ⟨(x1, x2, x3, .slice A' V.length c'), (t29_swap (y := (x1, x2, x3, .slice A' V.length c')) hI (fun _ => rfl) (fun _ => rfl) (fun _ => rfl) (fun h => absurd h (by rw [hS]; decide)) (fun h => absurd h (by rw [h12]; decide))).put (t29_uni ..) (.tail _ (.tail _ (.tail _ (.tail _ (.tail _ (.tail _ (.tail _ (.tail _ (.tail _ (.tail _ (.tail _ (.head _)))))))))))), hM2, hM.2.1, fun _ => ⟨d8, d10⟩⟩
                                                             · rintro S L' wS ⟨⟨x1, x2, x3, x4⟩, hI, hM⟩ hS ⟨d11, -, d0, d1, d2, d3, d4, d5, d6, d7, d8, d9, d10, d11, -⟩
                                                               have e171 := hI.get (i := 11) (d := 171) (.tail _ (.tail _ (.tail _ (.tail _ (.tail _ (.tail _ (.tail _ (.tail _ (.tail _ (.tail _ (.tail _ (.head _)))))))))))) d11
                                                               exact step_ro (ro_assign e171) ⟨(x1, x2, x3, x4), hI.put (t29_uni ..) (.tail _ (.tail _ (.tail _ (.tail _ (.tail _ (.tail _ (.tail _ (.tail _ (.tail _ (.tail _ (.tail _ (.tail _ (.head _))))))))))))), ⟨hM.1.1, fun _ => d11, hM.1.2.2⟩, fun _ => ⟨d0, d4⟩, hM.2.2⟩
                                                           · intro x29 w58 hM
                                                             obtain ⟨y1, y2, y3, y4⟩ := x29
                                                             obtain ⟨⟨hF9, _, _, _, _, h11⟩, _⟩ := hM
                                                             obtain ⟨A171, c171, h171, ho171⟩ := h11 rfl
                                                             simp only at h171
                                                             subst h171
                                                             replace hrK := hrK.from_ hF9
                                                             replace P8 := P8.from_ hF9
                                                             have hu : UsedAt w58 w.heap.size A171 V.length c171 ((V.take k ++ V.drop (k + 1) ++ [(cl, ((i + 1 : Nat) : Int))]).map (·.1)) := .inl (by rw [← map_cut]; exact own_le ho171 hB29.size)
                                                             refine nx_then ?_
                                                             refine cd_seq ?_
                                                             refine cd_region ?_
                                                             refine st_val (ro_move (v := .slice _ _ _) rfl) ?_
                                                             refine st_val (ro_assign (v := .slice _ _ _) rfl) ?_
                                                             refine st_nil ?_
                                                             refine nx_then ?_
                                                             refine cd_seq ?_
                                                             refine cd_region ?_
                                                             refine st_val (ro_fieldAddr SesOnce_f33_2 rfl) ?_
                                                             refine st_val (ro_load SesOnce_g3 rfl (by exact P8.rd 2 rfl)) ?_
                                                             refine st_call SesOnce_k14 (within_any _ 5 _ (by omega)) ?_
                                                             rintro v175 w59 ⟨⟨m175, hm175, rfl⟩, rfl⟩
                                                             refine st_val (ro_eql rfl rfl) ?_
                                                             refine st_nil ?_
                                                             refine nx_then ?_
                                                             refine cd_cond rfl (fun Q60 => ?_) (fun Q60 => ?_)
                                                             · (try first | replace Q60 := bn_t Q60 | replace Q60 := bn_f Q60)
                                                               (try first | replace Q60 := bx_t Q60 | replace Q60 := bx_f Q60 | replace Q60 := be_t Q60 | replace Q60 := be_f Q60 | replace Q60 := of_decide_eq_true Q60 | replace Q60 := of_decide_eq_false Q60)
                                                               obtain ⟨g9, o9, rfl, hnc9⟩ := used_form hu (by omega)
                                                               first
                                                                | (exfalso; first | omega | contradiction | (cases Q60; done))
                                                                | skip
                                                                  refine cd_seq ?_
                                                                  refine cd_region ?_
                                                                  refine st_val (ro_move (v := .slice _ _ _) rfl) ?_
                                                                  refine st_val (ro_move (v := .int _ _) rfl) ?_
                                                                  refine st_call SesOnce_k23 (close_rt A16 c16 K _ hrK (by have := hst1.1.1; omega) hn16 hst1.1 cl) ?_
                                                                  rintro v180 w61 ⟨⟨K2, err2, A180, c180, rfl, hg180, hrK2, hn180⟩, E180⟩
                                                                  obtain ⟨rfl, hst2, hne2⟩ := once_close hst1 (k := V.length - 1) (by rw [cut_len hk]; omega) (by rw [cut_at hk]) hg180
                                                                  rw [cut_last hk] at hst2
                                                                  replace hu := used_from hu E180
                                                                  refine st_val (ro_move (v := .tuple _) rfl) ?_
                                                                  refine st_val (ro_extract rfl rfl) ?_
                                                                  refine st_val (ro_extract rfl rfl) ?_
                                                                  refine st_val (ro_assign (v := .slice _ _ _) rfl) ?_
                                                                  refine st_val (ro_assign (v := .int _ _) rfl) ?_
                                                                  refine st_nil ?_
                                                                  refine nx_then ?_
                                                                  refine cd_seq ?_
                                                                  refine cd_region ?_
                                                                  refine st_val (ro_move (v := .slice _ _ _) rfl) ?_
                                                                  refine st_val (ro_move (v := .int _ _) rfl) ?_
                                                                  refine st_val (ro_move (v := .int _ _) rfl) ?_
                                                                  refine st_val (ro_addN (b := 1) rfl rfl (by omega)) ?_
                                                                  refine st_call SesOnce_k16 (begin_no A180 c180 K2 _ hrK2 hst2.1 cl _ hne2 (by omega)) ?_
                                                                  rintro v188 w62 ⟨rfl, E188⟩
                                                                  replace hrK2 := hrK2.from_ E188
                                                                  replace hu := used_from hu E188
                                                                  refine st_val (ro_move (v := .tuple _) rfl) ?_
                                                                  refine st_val (ro_extract rfl rfl) ?_
                                                                  refine st_val (ro_extract rfl rfl) ?_
                                                                  refine st_val (ro_extract rfl rfl) ?_
                                                                  refine st_val (ro_assign (v := .int _ _) rfl) ?_
                                                                  refine st_nil ?_
                                                                  refine nx_then ?_
                                                                  refine cd_seq ?_
                                                                  refine cd_seq ?_
                                                                  refine cd_region ?_
                                                                  refine st_val (ro_move (v := .int _ _) rfl) ?_
                                                                  refine st_call SesOnce_k12 (num_any _ _) ?_
                                                                  rintro v193 w63 ⟨rfl, rfl⟩
                                                                  refine st_val (ro_neq rfl rfl) ?_
                                                                  refine st_val (ro_move (v := .bool _) rfl) ?_
                                                                  refine st_split (t := 195) rfl (fun Q64 => ?_) (fun Q64 => ?_)
                                                                  · (try first | replace Q64 := bn_t Q64 | replace Q64 := bn_f Q64)
                                                                    (try first | replace Q64 := bx_t Q64 | replace Q64 := bx_f Q64 | replace Q64 := be_t Q64 | replace Q64 := be_f Q64 | replace Q64 := of_decide_eq_true Q64 | replace Q64 := of_decide_eq_false Q64)
                                                                    first
                                                                     | (exfalso; first | omega | contradiction | (cases Q64; done))
                                                                     | skip
                                                                       refine st_gno rfl rfl ?_
                                                                       refine st_gno rfl rfl ?_
                                                                       refine st_gno rfl rfl ?_
                                                                       refine st_val (ro_pickT (v := .bool _) rfl rfl) ?_
                                                                       refine st_nil ?_
                                                                       refine nx_then ?_
                                                                       refine cd_condT rfl ?_
                                                                       refine cd_seq ?_
                                                                       refine cd_region ?_
                                                                       refine st_val (ro_assign (v := .bool _) rfl) ?_
                                                                       refine st_nil ?_
                                                                       refine nx_then ?_
                                                                       refine cd_ret ?_
                                                                       refine rt_then ?_
                                                                       refine rt_then ?_
                                                                       refine rt_block ?_
                                                                       refine rt_then ?_
                                                                       refine rt_then ?_
                                                                       refine rt_block ?_
                                                                       refine rt_then ?_
                                                                       refine res1 (v := .bool _) rfl rfl ?_
                                                                       exact ⟨rfl, (((hB29.next hF9).next E180).next E188)⟩
                                                                  · (try first | replace Q64 := bn_t Q64 | replace Q64 := bn_f Q64)
                                                                    (try first | replace Q64 := bx_t Q64 | replace Q64 := bx_f Q64 | replace Q64 := be_t Q64 | replace Q64 := be_f Q64 | replace Q64 := of_decide_eq_true Q64 | replace Q64 := of_decide_eq_false Q64)
                                                                    first
                                                                     | (exfalso; first | omega | contradiction | (cases Q64; done))
                                                                     | skip
                                                                       refine st_unguard rfl ?_
                                                                       refine st_val (ro_move (v := .int _ _) rfl) ?_
                                                                       refine st_unguard rfl ?_
                                                                       refine st_call SesOnce_k12 (num_any _ _) ?_
                                                                       rintro v197 w65 ⟨rfl, rfl⟩
                                                                       refine st_unguard rfl ?_
                                                                       refine st_val (ro_neq rfl rfl) ?_
                                                                       refine st_val (ro_pickF (v := .bool _) rfl rfl) ?_
                                                                       refine st_nil ?_
                                                                       refine nx_then ?_
                                                                       refine cd_cond rfl (fun Q66 => ?_) (fun Q66 => ?_)
                                                                       · (try first | replace Q66 := bn_t Q66 | replace Q66 := bn_f Q66)
                                                                         (try first | replace Q66 := bx_t Q66 | replace Q66 := bx_f Q66 | replace Q66 := be_t Q66 | replace Q66 := be_f Q66 | replace Q66 := of_decide_eq_true Q66 | replace Q66 := of_decide_eq_false Q66)
                                                                         first
                                                                          | (exfalso; first | omega | contradiction | (cases Q66; done))
                                                                          | skip
                                                                            refine cd_seq ?_
                                                                            refine cd_region ?_
                                                                            refine st_val (ro_assign (v := .bool _) rfl) ?_
                                                                            refine st_nil ?_
                                                                            refine nx_then ?_
                                                                            refine cd_ret ?_
                                                                            refine rt_then ?_
                                                                            refine rt_then ?_
                                                                            refine rt_block ?_
                                                                            refine rt_then ?_
                                                                            refine rt_then ?_
                                                                            refine rt_block ?_
                                                                            refine rt_then ?_
                                                                            refine res1 (v := .bool _) rfl rfl ?_
                                                                            exact ⟨rfl, (((hB29.next hF9).next E180).next E188)⟩
                                                                       · (try first | replace Q66 := bn_t Q66 | replace Q66 := bn_f Q66)
                                                                         (try first | replace Q66 := bx_t Q66 | replace Q66 := bx_f Q66 | replace Q66 := be_t Q66 | replace Q66 := be_f Q66 | replace Q66 := of_decide_eq_true Q66 | replace Q66 := of_decide_eq_false Q66)
                                                                         first
                                                                          | (exfalso; first | omega | contradiction | (cases Q66; done))
                                                                          | skip
                                                                            refine cd_skip ?_
                                                                            refine nx_then ?_
                                                                            refine cd_seq ?_
                                                                            refine cd_region ?_
                                                                            refine st_val (ro_move (v := .slice _ _ _) rfl) ?_
                                                                            refine st_val (ro_move (v := .slice _ _ _) rfl) ?_
                                                                            refine st_val (ro_len SesOnce_l55 rfl) ?_
                                                                            refine st_val (ro_subN (b := 1) rfl rfl (by omega)) ?_
                                                                            refine st_val (ro_takeN SesOnceU_e55 rfl rfl (by omega)) ?_
                                                                            have hu9 := used_take (m := V.length - 1) hu (by omega) (by omega)
                                                                            rw [cut_take hk] at hu9
                                                                            have hvl2 : (V.take k ++ V.drop (k + 1)).length = V.length - 1 := by simp; omega
                                                                            refine st_val (ro_assign (v := .slice _ _ _) rfl) ?_
                                                                            refine st_nil ?_
                                                                            refine nx_then ?_
                                                                            refine cd_region ?_
                                                                            refine st_val (ro_move (v := .slice _ _ _) rfl) ?_
                                                                            refine st_val (ro_assign (v := .slice _ _ _) rfl) ?_
                                                                            refine st_nil ?_
                                                                            refine nx_cut (((A180, c180, K2), (some ⟨g9, o9, none⟩, c171, V.take k ++ V.drop (k + 1)))) ⟨rfl, (congrArg (fun n => Value.slice (some ⟨g9, o9, none⟩) n c171) hvl2.symm), trivial⟩ (by (iterate 162 refine agr_cons rfl ?_); exact agr_rfl) ?_
                                                                            exact ⟨hst2, hrK2, hn180, by rw [hvl2]; exact hu9, (((hB29.next hF9).next E180).next E188)⟩
                                                             · (try first | replace Q60 := bn_t Q60 | replace Q60 := bn_f Q60)
                                                               (try first | replace Q60 := bx_t Q60 | replace Q60 := bx_f Q60 | replace Q60 := be_t Q60 | replace Q60 := be_f Q60 | replace Q60 := of_decide_eq_true Q60 | replace Q60 := of_decide_eq_false Q60)
                                                               first
                                                                | (exfalso; first | omega | contradiction | (cases Q60; done))
                                                                | skip
                                                                  refine cd_skip ?_
                                                                  refine nx_cut (((A16, c16, K), (A171, c171, V.take k ++ V.drop (k + 1) ++ [(cl, ((i + 1 : Nat) : Int))]))) ⟨rfl, (congrArg (fun n => Value.slice A171 n c171) (cut_len hk _).symm), trivial⟩ (by (iterate 127 refine agr_cons rfl ?_); exact agr_rfl) ?_
                                                                  exact ⟨hst1, hrK, hn16, by rw [cut_len hk]; exact hu, (hB29.next hF9)⟩
            · rintro ⟨⟨A5, c5, L5⟩, ⟨A6, c6, V6⟩⟩ ρ67 w67 ⟨hst5, hr5, hn5, hu5, hB⟩
              have hl5 := once_len hst5
              refine cd_seq ?_
              refine cd_region ?_
              refine st_val (ro_move (v := .slice _ _ _) rfl) ?_
              refine st_val (ro_len SesOnce_l22 rfl) ?_
              refine st_val (ro_move (v := .slice _ _ _) rfl) ?_
              refine st_val (ro_len SesOnce_l55 rfl) ?_
              refine st_val (ro_neq rfl rfl) ?_
              refine st_nil ?_
              refine nx_then ?_
              refine cd_cond rfl (fun Q68 => ?_) (fun Q68 => ?_)
              · (try first | replace Q68 := bn_t Q68 | replace Q68 := bn_f Q68)
                (try first | replace Q68 := bx_t Q68 | replace Q68 := bx_f Q68 | replace Q68 := be_t Q68 | replace Q68 := be_f Q68 | replace Q68 := of_decide_eq_true Q68 | replace Q68 := of_decide_eq_false Q68)
                first
                 | (exfalso; first | omega | contradiction | (cases Q68; done))
                 | skip
                   refine cd_seq ?_
                   refine cd_region ?_
                   refine st_val (ro_assign (v := .bool _) rfl) ?_
                   refine st_nil ?_
                   refine nx_then ?_
                   refine cd_ret ?_
                   refine rt_block ?_
                   refine rt_then ?_
                   refine rt_then ?_
                   refine rt_block ?_
                   refine rt_then ?_
                   refine res1 (v := .bool _) rfl rfl ?_
                   exact ⟨rfl, hB⟩
              · (try first | replace Q68 := bn_t Q68 | replace Q68 := bn_f Q68)
                (try first | replace Q68 := bx_t Q68 | replace Q68 := bx_f Q68 | replace Q68 := be_t Q68 | replace Q68 := be_f Q68 | replace Q68 := of_decide_eq_true Q68 | replace Q68 := of_decide_eq_false Q68)
                first
                 | (exfalso; first | omega | contradiction | (cases Q68; done))
                 | skip
                   refine cd_skip ?_
                   refine nx_block ?_
                   refine nx_then ?_
                   refine cd_region ?_
                   refine st_val (ro_move (v := .int _ _) rfl) ?_
                   refine st_val (ro_addN (b := 1) rfl rfl (by omega)) ?_
                   refine st_val (ro_assign (v := .int _ _) rfl) ?_
                   refine st_nil ?_
                   refine nx_cut ((i + 1, (A5, c5, L5), (A6, c6, V6))) ⟨(by first | rfl | (refine int_eq ?_; omega)), (by first | rfl | (refine int_eq ?_; omega)), (by first | rfl | (refine int_eq ?_; omega)), (by first | rfl | (refine int_eq ?_; omega)), trivial⟩ (by (iterate 419 refine agr_cons rfl ?_); exact agr_rfl) ⟨?_, ?_⟩
                   · exact ⟨by omega, hst5, hr5, hn5, hu5, hB⟩
                   · show 40 - (i + 1) < 40 - i; omega
       · (try first | replace Q3 := bn_t Q3 | replace Q3 := bn_f Q3)
         (try first | replace Q3 := bx_t Q3 | replace Q3 := bx_f Q3 | replace Q3 := be_t Q3 | replace Q3 := be_f Q3 | replace Q3 := of_decide_eq_true Q3 | replace Q3 := of_decide_eq_false Q3)
         first
          | (exfalso; first | omega | contradiction | (cases Q3; done))
          | skip
            refine cd_exit ?_
            refine ex_then ?_
            refine ex_then ?_
            refine ex_block ?_
            refine nx_then ?_
            refine cd_seq ?_
            refine cd_region ?_
            refine st_call SesOnce_k28 (wakes_any _) ?_
            rintro v211 w69 ⟨rfl, E211⟩
            refine st_val (ro_assign (v := .bool _) rfl) ?_
            refine st_nil ?_
            refine nx_then ?_
            refine cd_ret ?_
            refine res1 (v := .bool _) rfl rfl ?_
            exact ⟨rfl, (hB.next E211)⟩
  · (try first | replace Q2 := bn_t Q2 | replace Q2 := bn_f Q2)
    (try first | replace Q2 := bx_t Q2 | replace Q2 := bx_f Q2 | replace Q2 := be_t Q2 | replace Q2 := be_f Q2 | replace Q2 := of_decide_eq_true Q2 | replace Q2 := of_decide_eq_false Q2)
    first
     | (exfalso; first | omega | contradiction | (cases Q2; done))
     | skip
       refine st_gno rfl rfl ?_
       refine st_gno rfl rfl ?_
       refine st_val (ro_pickF (v := .bool _) rfl rfl) ?_
       refine st_nil ?_
       refine nx_then ?_
       refine cd_condF rfl ?_
       refine cd_exit ?_
       refine ex_then ?_
       refine ex_then ?_
       refine ex_block ?_
       refine nx_then ?_
       refine cd_seq ?_
       refine cd_region ?_
       refine st_call SesOnce_k28 (wakes_any _) ?_
       rintro v211 w70 ⟨rfl, E211⟩
       refine st_val (ro_assign (v := .bool _) rfl) ?_
       refine st_nil ?_
       refine nx_then ?_
       refine cd_ret ?_
       refine res1 (v := .bool _) rfl rfl ?_
       exact ⟨rfl, (hB.next E211)⟩
theorem once_arg {H : Type} {enc : TypeId × Value → H} (W : World) (base : Nat) (v : Value) (d : DataW H) (p : List MemPlace) (hok : Value.okWide Try.prog W .any base 23 v) (ht : DataW.Trod enc Try.prog W 0 (fun _ => true) true 23 v d p) (hsz : ∀ n ∈ d.weights Try.prog 23, n ≤ 140737488351232) :
    Calls Try.prog 4 #[v] W fun e W' => e = .returned (.bool true) ∧ From W W' := by
  obtain ⟨A, cap, xs, rfl, hb, hc, he⟩ := arg_sl actT (by kernel_rfl) hok ht hsz
  rcases Nat.eq_zero_or_pos xs.length with h0 | h0
  · rw [h0]
    exact Rt.to (once_law A cap [] W (fun h => absurd h (by simp)))
  have hnc : A = none → cap = 0 := fun h => by
    obtain ⟨_, _, hA, _⟩ := he h0
    rw [hA] at h
    cases h
  obtain ⟨A2, cap2, L, e, hT, _⟩ := at_acts (w := W) (c := fun _ => some (.slice A xs.length cap)) (xs := xs) ⟨A, cap, rfl, hb, ⟨hc.1, hc.2, hnc⟩, he⟩
  simp only [Option.some.injEq, Value.slice.injEq] at e
  obtain ⟨rfl, e2, rfl⟩ := e
  rw [e2]
  exact Rt.to (once_law A cap L W hT)
set_option maxRecDepth 100000 in
theorem SessionOnce_lifted (os : Os) (started : os.Started) (H : Type) (enc : TypeId × Value → H) :
    ReturnsInHanded {} Try.checked os 4 .any (Rows.sessionOnceSpec.pre6 enc Try.prog Try.f4 Rows.sessionOnceRow.domain false) (Rows.sessionOnceSpec.post enc Try.prog Try.f4 false true false false) := by
  refine returnsInHanded_of_change_sized (C := Try.checked) Try.own started (by kernel_rfl) Try.func4
    (ChangeSpec.witness6 (enc := enc) (C := Try.checked) false ⟨#[], #[.slice none 0 0], []⟩ 8 (by kernel_rfl) (by kernel_rfl) (by kernel_rfl) (by kernel_rfl)) ?_
  intro W base args ds gs before hval hW _ hsz _
  exact law_step 4 Try.f4 23 4 Rows.sessionOnceSpec Try.params4 (by kernel_rfl) Try.underlying4 rfl (fun _ => rfl) (by kernel_rfl) (of_decide_eq_true (by kernel_rfl)) once_arg W base args ds gs before hval hW hsz

theorem SessionOnce_holds : Rows.SessionOnceSaid :=
  OpenClaim.holds_of_wide 4 Try.f4 rfl rfl rfl rfl rfl rfl rfl ⟨rfl, rfl, rfl, rfl, rfl⟩ rfl rfl rfl rfl rfl (by kernel_rfl) Try.func4 (by kernel_rfl)
    (of_decide_eq_true (by kernel_rfl)) (by unfold Func.isWrapper; first | (rw [if_pos (by decide +kernel)]; kernel_rfl) | (rw [if_neg (by decide +kernel)]; exact ⟨rfl, rfl⟩))
    (fun os started H enc _ => SessionOnce_lifted os started H enc)
#print axioms SessionOnce_holds

end Go.Proofs.Ytbikemhokgcboaa
