/- Walks of package bits: counting ones, packing, New, Len, Get, Rank. -/
import Derived.Test.YtmiclfhpenjjfaaDoorBitsMath
import Derived.Test.YtmiclfhpenjjfaaDoorAtRow
namespace Go.Proofs.YtmiclfhpenjjfaaDoor
open Go.RowKit

theorem BitsNew_s64 : (Tryd.prog.underlying 64).isSome = true := by kernel_rfl
theorem BitsNew_i3 : Tryd.prog.underlying 3 = some (.int .i64) := by kernel_rfl
theorem BitsNew_o70 : zeroQ Tryd.prog 70 = some (.agg #[.slice none 0 0, .int .i64 0]) := by kernel_rfl
theorem BitsNew_l65 : (elemQ Tryd.prog 65).isSome = true := by kernel_rfl
theorem BitsNew_m68 : makeQ Tryd.prog 68 = some (64, 8, (.int .u64 0)) := by kernel_rfl
theorem BitsNew_b70_0_1 : ∀ (a0 : Option Addr) (a1 a2 : Nat) (a3 : Int), Tryd.prog.built 70 [(0, .slice a0 a1 a2), (1, .int .i64 a3)] = some #[.slice a0 a1 a2, .int .i64 a3] := by intros; kernel_rfl
theorem BitsNew_z70 : sizeQ Tryd.prog 70 = some 2 := by kernel_rfl
theorem BitsNew_e65 : elemQ Tryd.prog 65 = some (4, 1) := by kernel_rfl
theorem BitsNew_g4 : aggQ Tryd.prog 4 = some false := by kernel_rfl
theorem BitsNew_f70_0 : fieldQ Tryd.prog 70 0 = some 0 := by kernel_rfl
theorem BitsNew_g68 : aggQ Tryd.prog 68 = some false := by kernel_rfl
theorem BitsNew_e68 : elemQ Tryd.prog 68 = some (64, 1) := by kernel_rfl
theorem BitsNew_g64 : aggQ Tryd.prog 64 = some false := by kernel_rfl
theorem BitsNew_z64 : sizeQ Tryd.prog 64 = some 1 := by kernel_rfl
theorem BitsNew_g70 : aggQ Tryd.prog 70 = some true := by kernel_rfl
theorem BitsNew_q46 : litQ Tryd.prog 71 = some (21, 1, 4, (.int .i32 0)) := by kernel_rfl
theorem BitsNew_k42 : callable Tryd.prog 42 = true := by kernel_rfl
theorem BitsNew_b73_0 : ∀ (a0 : Option Addr) (a1 a2 : Nat) (a3 : Int), Tryd.prog.built 73 [(0, .agg #[.slice a0 a1 a2, .int .i64 a3])] = some #[.slice a0 a1 a2, .int .i64 a3, .slice none 0 0, .int .i64 0] := by intros; kernel_rfl
theorem BitsNew_f73_0 : fieldQ Tryd.prog 73 0 = some 0 := by kernel_rfl
theorem BitsNew_l68 : (elemQ Tryd.prog 68).isSome = true := by kernel_rfl
theorem BitsNew_f73_1 : fieldQ Tryd.prog 73 1 = some 2 := by kernel_rfl
theorem BitsNew_g71 : aggQ Tryd.prog 71 = some false := by kernel_rfl
theorem BitsNew_f73_2 : fieldQ Tryd.prog 73 2 = some 3 := by kernel_rfl
theorem BitsNew_g3 : aggQ Tryd.prog 3 = some false := by kernel_rfl
theorem BitsNew_z71 : sizeQ Tryd.prog 71 = some 1 := by kernel_rfl
theorem BitsNew_k43 : callable Tryd.prog 43 = true := by kernel_rfl
theorem BitsNew_z3 : sizeQ Tryd.prog 3 = some 1 := by kernel_rfl
abbrev boV (x : Bool) : Value := .bool x
abbrev jV (x : Nat) : Value := .int .i32 x
/-- a vector of these bits; all that it holds lies at base or above -/
def Vec (w : World) (base b : Nat) (l : List Bool) : Prop := ∃ (gw : Nat) (Aa : Option Addr) (ca : Nat) (ws rs : List Nat), base ≤ b ∧ base ≤ gw ∧
  Blk w b 73 #[.slice (some ⟨gw, 0, none⟩) ws.length ws.length, .int .i64 (l.length : Nat), .slice Aa rs.length ca, .int .i64 (rk l l.length : Nat)] ∧ Blk w gw 64 (ws.map uV).toArray ∧ w.ownsRow base 21 1 (.slice Aa rs.length ca) rs.length (rs.map jV) ∧
  WP ws l l.length ∧ rs.length = (ws.length + 7) / 8 ∧ (∀ j (h : j < rs.length), rs[j] = rk l (512 * j)) ∧ l.length ≤ 1048576
theorem Vec.from_ {w w' : World} {base b : Nat} {l : List Bool} (h : Vec w base b l) (hF : From w w') : Vec w' base b l := by
  obtain ⟨gw, Aa, ca, ws, rs, h1, h2, h3, h4, h5, h6⟩ := h
  exact ⟨gw, Aa, ca, ws, rs, h1, h2, h3.from_ hF, h4.from_ hF, h5.kept_from hF, h6⟩
theorem Vec.grown {w w' : World} {base b : Nat} {l : List Bool} {r : Option Nat} (h : Vec w base b l) (hg : w.grownBy w' r) (hne : ∀ k, r = some k → k < base) : Vec w' base b l := by
  obtain ⟨gw, Aa, ca, ws, rs, h1, h2, h3, h4, h5, h6⟩ := h
  exact ⟨gw, Aa, ca, ws, rs, h1, h2, h3.grown hg (fun k hk => by have := hne k hk; omega), h4.grown hg (fun k hk => by have := hne k hk; omega), own_kept h5 hg hne, h6⟩
theorem arr_at {α : Type} {f : α → Value} {l : List α} (i : Nat) (h : i < l.length) : (l.map f).toArray[i]? = some (f l[i]) := by simp [h]
theorem arr_set {α : Type} {f : α → Value} {l : List α} (i : Nat) (x : α) : ((l.map f).toArray.setIfInBounds i (f x)) = ((l.set i x).map f).toArray := by
  rw [List.setIfInBounds_toArray, List.map_set]
set_option maxRecDepth 100000 in
set_option maxHeartbeats 400000 in
theorem onesCount (x : Nat) (w : World) (hx : x < 2 ^ 64) :
    Rt Tryd.prog 43 [.int .u64 (x : Nat)] w (fun v w' => v = .int .i64 (pop x 64 : Nat) ∧ w = w') := by
  have h1 := and_le2 (x / 2 ^ 1) x 6148914691236517205
  rw [← q1_eq] at h1
  have h2 := and_le2 (q1 8 x / 2 ^ 2) (q1 8 x) 3689348814741910323
  rw [← q2_eq] at h2
  obtain ⟨a, ha⟩ : ∃ a, a = q3 8 (q2 8 (q1 8 x)) := ⟨_, rfl⟩
  have h3 : a ≤ 1085102592571150095 := by rw [ha, q3_eq]; exact Nat.and_le_right
  have ho := ones_pop hx
  unfold ones at ho
  rw [← ha] at ho
  simp only at ho
  obtain ⟨x1, hx1⟩ : ∃ x1, x1 = q1 8 x := ⟨_, rfl⟩
  rw [← hx1] at h1 h2 ha
  obtain ⟨x2, hx2⟩ : ∃ x2, x2 = q2 8 x1 := ⟨_, rfl⟩
  rw [← hx2] at h2 ha
  refine enter (n := 35) Tryd.func43 rfl rfl rfl ?_
  refine cd_seq ?_
  refine cd_region ?_
  refine st_val (ro_assign (v := .int _ _) rfl) ?_
  refine st_nil ?_
  refine nx_then ?_
  refine cd_seq ?_
  refine cd_region ?_
  refine st_val (ro_move (v := .int _ _) rfl) ?_
  refine st_val (ro_shrN (b := 1) rfl rfl (by decide)) ?_
  refine st_val (ro_andN (b := 6148914691236517205) rfl rfl (by exact ⟨by omega, by decide⟩)) ?_
  refine st_val (ro_move (v := .int _ _) rfl) ?_
  refine st_val (ro_andN (b := 6148914691236517205) rfl rfl (by exact ⟨hx, by decide⟩)) ?_
  refine st_val (ro_addU rfl rfl (by have h := h1; rw [hx1, q1_eq] at h; omega)) ?_
  refine st_spell (t := 8) (v := .int _ _) (v' := .int .u64 (x1 : Nat)) rfl (by rw [hx1, q1_eq]) ?_
  refine st_val (ro_assign (v := .int _ _) rfl) ?_
  refine st_nil ?_
  refine nx_then ?_
  refine cd_seq ?_
  refine cd_region ?_
  refine st_val (ro_move (v := .int _ _) rfl) ?_
  refine st_val (ro_shrN (b := 2) rfl rfl (by decide)) ?_
  refine st_val (ro_andN (b := 3689348814741910323) rfl rfl (by exact ⟨by omega, by decide⟩)) ?_
  refine st_val (ro_move (v := .int _ _) rfl) ?_
  refine st_val (ro_andN (b := 3689348814741910323) rfl rfl (by exact ⟨by omega, by decide⟩)) ?_
  refine st_val (ro_addU rfl rfl (by have h := h2; rw [hx2, q2_eq] at h; omega)) ?_
  refine st_spell (t := 14) (v := .int _ _) (v' := .int .u64 (x2 : Nat)) rfl (by rw [hx2, q2_eq]) ?_
  refine st_val (ro_assign (v := .int _ _) rfl) ?_
  refine st_nil ?_
  refine nx_then ?_
  refine cd_seq ?_
  refine cd_region ?_
  refine st_val (ro_move (v := .int _ _) rfl) ?_
  refine st_val (ro_shrN (b := 4) rfl rfl (by decide)) ?_
  refine st_val (ro_move (v := .int _ _) rfl) ?_
  refine st_val (ro_addU rfl rfl (by omega)) ?_
  refine st_val (ro_andN (b := 1085102592571150095) rfl rfl (by exact ⟨by omega, by decide⟩)) ?_
  refine st_spell (t := 19) (v := .int _ _) (v' := .int .u64 (a : Nat)) rfl (by rw [ha, q3_eq]) ?_
  refine st_val (ro_assign (v := .int _ _) rfl) ?_
  refine st_nil ?_
  refine nx_then ?_
  refine cd_seq ?_
  refine cd_region ?_
  refine st_val (ro_move (v := .int _ _) rfl) ?_
  refine st_val (ro_move (v := .int _ _) rfl) ?_
  refine st_val (ro_shrN (b := 8) rfl rfl (by decide)) ?_
  refine st_val (ro_addU rfl rfl (by omega)) ?_
  refine st_val (ro_assign (v := .int _ _) rfl) ?_
  refine st_nil ?_
  refine nx_then ?_
  refine cd_seq ?_
  refine cd_region ?_
  refine st_val (ro_move (v := .int _ _) rfl) ?_
  refine st_val (ro_move (v := .int _ _) rfl) ?_
  refine st_val (ro_shrN (b := 16) rfl rfl (by decide)) ?_
  refine st_val (ro_addU rfl rfl (by omega)) ?_
  refine st_val (ro_assign (v := .int _ _) rfl) ?_
  refine st_nil ?_
  refine nx_then ?_
  refine cd_seq ?_
  refine cd_region ?_
  refine st_val (ro_move (v := .int _ _) rfl) ?_
  refine st_val (ro_move (v := .int _ _) rfl) ?_
  refine st_val (ro_shrN (b := 32) rfl rfl (by decide)) ?_
  refine st_val (ro_addU rfl rfl (by omega)) ?_
  refine st_val (ro_assign (v := .int _ _) rfl) ?_
  refine st_nil ?_
  refine nx_then ?_
  refine cd_seq ?_
  refine cd_region ?_
  refine st_val (ro_move (v := .int _ _) rfl) ?_
  refine st_val (ro_convI BitsNew_s64 BitsNew_i3 rfl (by omega)) ?_
  refine st_val (ro_andI (b := 127) rfl rfl ⟨by omega, by decide⟩) ?_
  refine st_val (ro_assign (v := .int _ _) rfl) ?_
  refine st_nil ?_
  refine nx_then ?_
  refine cd_ret ?_
  refine res1 (v := .int _ _) rfl rfl ?_
  refine ⟨?_, rfl⟩
  rw [show (127 : Nat) = 2 ^ 7 - 1 from rfl, Nat.and_two_pow_sub_one_eq_mod, ← ho]
set_option maxRecDepth 100000 in
set_option maxHeartbeats 400000 in
theorem pack_rt (A : Option Addr) (c : Nat) (l : List Bool) (w : World) (hr : RowOf boV w A l) (hl : l.length ≤ 1048576) :
    Rt Tryd.prog 42 [.slice A l.length c] w (fun v w' => ∃ gw ws, v = .agg #[.slice (some ⟨gw, 0, none⟩) ws.length ws.length, .int .i64 (l.length : Nat)] ∧ w.heap.size ≤ gw ∧ Blk w' gw 64 (ws.map uV).toArray ∧ WP ws l l.length ∧ From w w') := by
  refine enter (n := 36) Tryd.func42 rfl rfl rfl ?_
  refine cd_seq ?_
  refine cd_region ?_
  refine st_alloc BitsNew_o70 ?_
  intro b2 w1 E2 hb2 hk2
  have hl2 := hk2.lt
  refine st_nil ?_
  refine nx_then ?_
  refine cd_seq ?_
  refine cd_region ?_
  refine st_val (ro_move (v := .slice _ _ _) rfl) ?_
  refine st_val (ro_len BitsNew_l65 rfl) ?_
  refine st_val (ro_addN (b := 64) rfl rfl (by omega)) ?_
  refine st_val (ro_subN (b := 1) rfl rfl (by omega)) ?_
  refine st_val (ro_quoN (b := 64) rfl rfl (by omega)) ?_
  refine st_make BitsNew_m68 rfl rfl rfl (by omega) (by omega) ?_
  intro b11 w2 E11 hb11 hk11
  have hl11 := hk11.lt
  replace hk2 := hk2.from_ E11
  have hg11 : w.heap.size ≤ b11 := by rw [hb11]; exact ((From.rfl_.next E2)).size
  refine st_val (ro_move (v := .slice _ _ _) rfl) ?_
  refine st_val (ro_len BitsNew_l65 rfl) ?_
  refine st_val (ro_build (l := [(0, .tmp 11), (1, .tmp 13)]) (BitsNew_b70_0_1 _ _ _ _)) ?_
  refine st_alloc BitsNew_o70 ?_
  intro b3 w3 E3 hb3 hk3
  have hl3 := hk3.lt
  replace hk2 := hk2.from_ E3
  have hg3 : w.heap.size ≤ b3 := by rw [hb3]; exact (((From.rfl_.next E2).next E11)).size
  have hg2 : w.heap.size ≤ b2 := by rw [hb2]; exact Nat.le_refl _
  refine st_putW (vs := [_, _]) BitsNew_z70 rfl rfl (by simp [Value.oneCell']) (hk3) rfl ?_
  intro w4 O1 P1
  replace hk2 := hk2.only O1 (by omega)
  refine st_nil ?_
  refine nx_then ?_
  refine cd_seq ?_
  refine cd_seq ?_
  refine cd_region ?_
  refine st_val (ro_move (v := .slice _ _ _) rfl) ?_
  refine st_val (ro_len BitsNew_l65 rfl) ?_
  refine st_val (ro_move (v := .int _ _) rfl) ?_
  refine st_nil ?_
  refine nx_then ?_
  refine cd_block ?_
  refine cd_loop (G := List Nat × Nat) [4, 5, 18, 19, 20, 21, 22, 23, 24, 25, 26, 27, 28, 29, 30, 31, 32, 33, 34] (fun (_, k) => [(17, .int .i64 (k : Nat))]) (fun (ws, k) w' => k ≤ l.length ∧ WP ws l k ∧ Blk w' b3 70 #[.slice (some ⟨b11, 0, none⟩) ((l.length + 63) / 64) ((l.length + 63) / 64), .int .i64 (l.length : Nat)] ∧ Blk w' b11 64 (ws.map uV).toArray ∧ Blk w' b2 70 #[.slice none 0 0, .int .i64 0] ∧ From w w') (fun (_, k) => l.length - k) ((List.replicate ((l.length + 63) / 64) 0, 0)) ⟨rfl, trivial⟩ ?_ ?_
  · refine ⟨Nat.zero_le _, WP.zero l, P1, ?_, hk2, ((((From.rfl_.next E2).next E11).next E3).only O1 (hg3))⟩
    rw [List.map_replicate]
    exact (hk11.from_ E3).only O1 (by omega)
  rintro ⟨ws, k⟩ ρ5 w5 ⟨hk, hW, hP3, hP11, hP2, hB⟩
  refine cd_seq ?_
  refine cd_region ?_
  refine st_val (ro_lss rfl rfl) ?_
  refine st_nil ?_
  refine nx_then ?_
  refine cd_seq ?_
  refine cd_cond rfl (fun Q6 => ?_) (fun Q6 => ?_)
  · (try first | replace Q6 := bn_t Q6 | replace Q6 := bn_f Q6)
    (try first | replace Q6 := bx_t Q6 | replace Q6 := bx_f Q6 | replace Q6 := be_t Q6 | replace Q6 := be_f Q6 | replace Q6 := of_decide_eq_true Q6 | replace Q6 := of_decide_eq_false Q6)
    obtain ⟨ba, oa, rfl, ca⟩ := hr (by omega)
    first
     | (exfalso; first | omega | contradiction | (cases Q6; done))
     | skip
       refine cd_skip ?_
       refine nx_then ?_
       refine cd_seq ?_
       refine cd_block ?_
       refine cd_seq ?_
       refine cd_region ?_
       refine st_val (ro_move (v := .int _ _) rfl) ?_
       refine st_val (ro_indexAddr1 BitsNew_e65 rfl rfl (by omega)) ?_
       refine st_val (ro_load BitsNew_g4 rfl (by exact cellF hB (ca k (by omega)))) ?_
       refine st_val (ro_assign (v := .int _ _) rfl) ?_
       refine st_val (ro_assign (v := .bool _) rfl) ?_
       refine st_nil ?_
       refine nx_then ?_
       refine cd_seq ?_
       refine cd_region ?_
       refine st_val (ro_move (v := .bool _) rfl) ?_
       refine st_nil ?_
       refine nx_then ?_
       refine cd_cond rfl (fun Q7 => ?_) (fun Q7 => ?_)
       · (try first | replace Q7 := bn_t Q7 | replace Q7 := bn_f Q7)
         (try first | replace Q7 := bx_t Q7 | replace Q7 := bx_f Q7 | replace Q7 := be_t Q7 | replace Q7 := be_f Q7 | replace Q7 := of_decide_eq_true Q7 | replace Q7 := of_decide_eq_false Q7)
         have hbk : bt l k = true := (bt_at (by omega)).trans Q7
         first
          | (exfalso; first | omega | contradiction | (cases Q7; done))
          | skip
            apply cd_drawn 11 [(23, eqp _), (24, eqp _), (25, eqp _), (26, eqp _), (27, eqp _), (28, eqp _), (29, eqp _), (30, eqp _), (31, eqp _), (32, eqp _), (33, eqp _)] (by kernel_rfl) (by kernel_rfl) ⟨eqp_mono _, eqp_mono _, eqp_mono _, eqp_mono _, eqp_mono _, eqp_mono _, eqp_mono _, eqp_mono _, eqp_mono _, eqp_mono _, eqp_mono _, trivial⟩
            case hop =>
             refine ⟨?_, ?_⟩
             · intro w9 D9
               show OpOK _ _ _ _ _ _ _
               exact ok_pure (ro_fieldAddr BitsNew_f70_0 rfl) rfl
             refine ⟨?_, ?_⟩
             · intro w10 D10
               rintro _ rfl
               show OpOK _ _ _ _ _ _ _
               exact ok_pure (ro_load BitsNew_g68 rfl (by exact (hP3.from_ (From.rfl_.next D10)).rd 0 rfl)) rfl
             refine ⟨?_, ?_⟩
             · intro w11 D11
               show OpOK _ _ _ _ _ _ _
               exact ok_pure (ro_move (v := .int _ _) rfl) rfl
             refine ⟨?_, ?_⟩
             · intro w12 D12
               rintro _ rfl
               show OpOK _ _ _ _ _ _ _
               exact ok_pure (ro_quoN (b := 64) rfl rfl (by omega)) rfl
             refine ⟨?_, ?_⟩
             · intro w13 D13
               rintro _ rfl _ rfl
               show OpOK _ _ _ _ _ _ _
               exact ok_pure (ro_indexAddr0 BitsNew_e68 rfl rfl (by omega)) rfl
             refine ⟨?_, ?_⟩
             · intro w14 D14
               rintro _ rfl
               show OpOK _ _ _ _ _ _ _
               exact ok_pure (ro_load BitsNew_g64 rfl (by exact (hP11.from_ (From.rfl_.next D14)).rd _ (arr_at (k / 64) (by rw [hW.len]; omega)))) rfl
             refine ⟨?_, ?_⟩
             · intro w15 D15
               show OpOK _ _ _ _ _ _ _
               exact ok_pure (ro_move (v := .int _ _) rfl) rfl
             refine ⟨?_, ?_⟩
             · intro w16 D16
               rintro _ rfl
               show OpOK _ _ _ _ _ _ _
               exact ok_pure (ro_remN (b := 64) rfl rfl (by decide)) rfl
             refine ⟨?_, ?_⟩
             · intro w17 D17
               rintro _ rfl
               show OpOK _ _ _ _ _ _ _
               exact ok_pure (ro_shlN (a := 1) rfl rfl (by exact Nat.le_of_lt (Nat.mod_lt _ (by decide)))) rfl
             refine ⟨?_, ?_⟩
             · intro w18 D18
               rintro _ rfl _ rfl
               show OpOK _ _ _ _ _ _ _
               exact ok_pure (ro_orN rfl rfl (by exact ⟨hW.lt _ (List.getElem_mem _), Nat.mod_lt _ (by decide)⟩)) rfl
             refine ⟨?_, ?_⟩
             · intro w19 D19
               rintro _ rfl _ rfl
               show OpOK _ _ _ _ _ _ _
               exact ok_pure (ro_indexAddr0 BitsNew_e68 rfl rfl (by omega)) rfl
             exact trivial
            case hend =>
             intro w20 D20
             rintro _ rfl _ rfl _ rfl _ rfl _ rfl _ rfl _ rfl _ rfl _ rfl _ rfl _ rfl
             show St _ _ _ _ _ _ _
             replace hP3 := hP3.from_ (From.rfl_.next D20)
             replace hP2 := hP2.from_ (From.rfl_.next D20)
             replace hP11 := hP11.from_ (From.rfl_.next D20)
             refine st_put (v := .int _ _) BitsNew_z64 rfl rfl rfl (hP11) (by simp; rw [hW.len]; omega) ?_
             intro w21 O6 P6
             rw [arr_set] at P6
             obtain ⟨ws2, hW2, hQ2⟩ : ∃ ws2, WP ws2 l (k + 1) ∧ Blk w21 b11 64 (ws2.map uV).toArray := ⟨_, hW.put hbk (by rw [hW.len]; omega), P6⟩
             refine st_nil ?_
             refine nx_block ?_
             refine nx_then ?_
             refine cd_region ?_
             refine st_val (ro_addN (b := 1) rfl rfl (by omega)) ?_
             refine st_val (ro_move (v := .int _ _) rfl) ?_
             refine st_nil ?_
             refine nx_cut ((ws2, k + 1)) ⟨(by first | rfl | (refine int_eq ?_; omega)), trivial⟩ (by (iterate 40 refine agr_cons rfl ?_); exact agr_rfl) ⟨?_, ?_⟩
             · first | exact ⟨by omega, hW2, hP3.only O6 (by omega), hQ2, hP2.only O6 (by omega), ((hB.next D20).only O6 hg11)⟩ | exact ⟨by omega, hW2, hP3, hQ2, hP2, ((hB.next D20).only O6 hg11)⟩
             · show l.length - (k + 1) < l.length - k; omega
       · (try first | replace Q7 := bn_t Q7 | replace Q7 := bn_f Q7)
         (try first | replace Q7 := bx_t Q7 | replace Q7 := bx_f Q7 | replace Q7 := be_t Q7 | replace Q7 := be_f Q7 | replace Q7 := of_decide_eq_true Q7 | replace Q7 := of_decide_eq_false Q7)
         have hbk : bt l k = false := (bt_at (by omega)).trans Q7
         obtain ⟨ws2, hW2, hQ2⟩ : ∃ ws2, WP ws2 l (k + 1) ∧ Blk w5 b11 64 (ws2.map uV).toArray := ⟨ws, hW.skip hbk, hP11⟩
         first
          | (exfalso; first | omega | contradiction | (cases Q7; done))
          | skip
            refine cd_skip ?_
            refine nx_block ?_
            refine nx_then ?_
            refine cd_region ?_
            refine st_val (ro_addN (b := 1) rfl rfl (by omega)) ?_
            refine st_val (ro_move (v := .int _ _) rfl) ?_
            refine st_nil ?_
            refine nx_cut ((ws2, k + 1)) ⟨(by first | rfl | (refine int_eq ?_; omega)), trivial⟩ (by (iterate 29 refine agr_cons rfl ?_); exact agr_rfl) ⟨?_, ?_⟩
            · first | exact ⟨by omega, hW2, hP3.only O6 (by omega), hQ2, hP2.only O6 (by omega), hB⟩ | exact ⟨by omega, hW2, hP3, hQ2, hP2, hB⟩
            · show l.length - (k + 1) < l.length - k; omega
  · (try first | replace Q6 := bn_t Q6 | replace Q6 := bn_f Q6)
    (try first | replace Q6 := bx_t Q6 | replace Q6 := bx_f Q6 | replace Q6 := be_t Q6 | replace Q6 := be_f Q6 | replace Q6 := of_decide_eq_true Q6 | replace Q6 := of_decide_eq_false Q6)
    first
     | (exfalso; first | omega | contradiction | (cases Q6; done))
     | skip
       refine cd_exit ?_
       refine ex_then ?_
       refine ex_then ?_
       refine ex_block ?_
       refine nx_then ?_
       refine cd_seq ?_
       refine cd_region ?_
       refine st_val (ro_loadA (cs := [_, _]) BitsNew_g70 BitsNew_z70 rfl (by exact hP3.whole)) ?_
       refine st_putW (vs := [_, _]) BitsNew_z70 rfl rfl (by simp [Value.oneCell']) (hP2) rfl ?_
       intro w22 O8 P8
       refine st_nil ?_
       refine nx_then ?_
       refine cd_ret ?_
       refine resr1 rfl (rv_cellA (cs := [_, _]) BitsNew_g70 BitsNew_z70 rfl (by exact P8.whole)) ?_
       obtain rfl : k = l.length := by omega
       exact ⟨b11, ws, by rw [hW.len], hg11, hP11.only O8 (by omega), hW, (hB.only O8 (hg2))⟩
theorem own_only2 {w w' : World} {base e s n c g : Nat} {A : Option Addr} {xs : List Value} (h : w.ownsRow base e s (.slice A n c) n xs) (o : Only g w w') (hne : ∀ k, A.map (·.block) = some k → k ≠ g) : w'.ownsRow base e s (.slice A n c) n xs := by
  refine ⟨h.1, ?_⟩
  rcases h.2 with h2 | ⟨g', cap, cur, hv, hg, hh, r⟩
  · exact .inl h2
  · refine .inr ⟨g', cap, cur, hv, hg, ?_, r⟩
    simp only [Value.slice.injEq] at hv
    rw [o.block g' (hne g' (by rw [hv.1]; rfl))]
    exact hh
theorem own_ne {w : World} {base e s n c m g t : Nat} {A : Option Addr} {xs : List Value} {cs : Array Value} (h : w.ownsRow base e s (.slice A n c) m xs) (hb : Blk w g t cs) (hne : t ≠ e) : ∀ k, A.map (·.block) = some k → k ≠ g := by
  rintro k hk rfl
  rcases h.2 with ⟨h0, _⟩ | ⟨g', cap, cur, hv, hg, hh, r⟩
  · simp only [Value.slice.injEq] at h0
    rw [h0.1] at hk
    cases hk
  · simp only [Value.slice.injEq] at hv
    rw [hv.1] at hk
    simp only [Option.map_some, Option.some.injEq] at hk
    subst hk
    unfold Blk at hb
    rw [hh] at hb
    simp only [Option.some.injEq, Obj.cells.injEq] at hb
    exact hne hb.2.1.symm
set_option maxRecDepth 100000 in
set_option maxHeartbeats 1000000 in
theorem new_rt (A : Option Addr) (c : Nat) (l : List Bool) (w : World) (hr : RowOf boV w A l) (hl : l.length ≤ 1048576) :
    Rt Tryd.prog 36 [.slice A l.length c] w (fun v w' => ∃ b, v = .tuple #[.pointer (some ⟨b, 0, none⟩), .int .i64 0] ∧ Vec w' w.heap.size b l ∧ From w w') := by
  refine enter (n := 53) Tryd.func36 rfl rfl rfl ?_
  refine cd_seq ?_
  refine cd_region ?_
  refine st_val (ro_assign (v := .pointer _) rfl) ?_
  refine st_val (ro_assign (v := .int _ _) rfl) ?_
  refine st_nil ?_
  refine nx_then ?_
  refine cd_seq ?_
  refine cd_seq ?_
  refine cd_region ?_
  refine st_val (ro_move (v := .slice _ _ _) rfl) ?_
  refine st_val (ro_len BitsNew_l65 rfl) ?_
  refine st_val (ro_gtr rfl rfl) ?_
  refine st_nil ?_
  refine nx_then ?_
  refine cd_cond rfl (fun Q1 => ?_) (fun Q1 => ?_)
  · (try first | replace Q1 := bn_t Q1 | replace Q1 := bn_f Q1)
    (try first | replace Q1 := bx_t Q1 | replace Q1 := bx_f Q1 | replace Q1 := be_t Q1 | replace Q1 := be_f Q1 | replace Q1 := of_decide_eq_true Q1 | replace Q1 := of_decide_eq_false Q1)
    first
     | (exfalso; first | omega | contradiction | (cases Q1; done))
     | skip
       refine cd_seq ?_
       refine cd_region ?_
       refine st_val (ro_assign (v := .pointer _) rfl) ?_
       refine st_val (ro_assign (v := .int _ _) rfl) ?_
       refine st_nil ?_
       refine nx_then ?_
       refine cd_ret ?_
       refine rt_then ?_
       refine res2 (v := .pointer _) (v' := .int _ _) rfl rfl rfl ?_
       obtain rfl : k = ws.length := by omega
       exact ⟨b13, rfl, ⟨gw, Aa, ca, ws, rs, hg13, hgw0, by rw [← rk_past (show l.length ≤ 64 * ws.length by omega)]; exact hV, hgw, ho, hW, hrl, hrs, hl⟩, From.rfl_⟩
  · (try first | replace Q1 := bn_t Q1 | replace Q1 := bn_f Q1)
    (try first | replace Q1 := bx_t Q1 | replace Q1 := bx_f Q1 | replace Q1 := be_t Q1 | replace Q1 := be_f Q1 | replace Q1 := of_decide_eq_true Q1 | replace Q1 := of_decide_eq_false Q1)
    first
     | (exfalso; first | omega | contradiction | (cases Q1; done))
     | skip
       refine cd_skip ?_
       refine nx_then ?_
       refine cd_seq ?_
       refine cd_region ?_
       refine st_val (ro_move (v := .slice _ _ _) rfl) ?_
       refine st_call BitsNew_k42 (pack_rt A c l _ hr hl) ?_
       rintro v11 w2 ⟨gw, ws, rfl, hgw0, hgw, hW, E11⟩
       refine st_val (ro_build (l := [(0, .tmp 11)]) (BitsNew_b73_0 _ _ _ _)) ?_
       refine st_box (v := .agg _) rfl ?_
       intro b13 w3 E13 hb13 hk13
       have hg13 : w.heap.size ≤ b13 := by rw [hb13]; exact ((From.rfl_.next E11)).size
       have hl13 := hgw.lt
       have hlen := hW.len
       refine st_val (ro_assign (v := .pointer _) rfl) ?_
       refine st_nil ?_
       refine nx_then ?_
       refine cd_seq ?_
       refine cd_seq ?_
       refine cd_region ?_
       refine st_val (ro_move (v := .pointer _) rfl) ?_
       refine st_val (ro_nilCheck rfl) ?_
       refine st_val (ro_fieldAddr BitsNew_f73_0 rfl) ?_
       refine st_val (ro_fieldAddr BitsNew_f70_0 rfl) ?_
       refine st_val (ro_load BitsNew_g68 rfl (by exact hk13.rd 0 rfl)) ?_
       refine st_val (ro_len BitsNew_l68 rfl) ?_
       refine st_val (ro_move (v := .int _ _) rfl) ?_
       refine st_nil ?_
       refine nx_then ?_
       refine cd_block ?_
       refine cd_loop (G := Nat × Option Addr × Nat × List Nat) [5, 6, 21, 22, 23, 24, 25, 26, 27, 28, 29, 30, 31, 32, 33, 34, 35, 36, 37, 38, 39, 40, 41, 42, 43, 44, 45, 46, 47, 48, 49, 50, 51] (fun (k, Aa, ca, rs) => [(20, .int .i64 (k : Nat))]) (fun (k, Aa, ca, rs) w' => k ≤ ws.length ∧ Blk w' b13 73 #[.slice (some ⟨gw, 0, none⟩) ws.length ws.length, .int .i64 (l.length : Nat), .slice Aa rs.length ca, .int .i64 (rk l (64 * k) : Nat)] ∧ Blk w' gw 64 (ws.map uV).toArray ∧ w'.ownsRow w.heap.size 21 1 (.slice Aa rs.length ca) rs.length (rs.map jV) ∧ rs.length = (k + 7) / 8 ∧ (∀ j (h : j < rs.length), rs[j] = rk l (512 * j)) ∧ From w w') (fun (k, _, _, _) => ws.length - k) ((0, none, 0, [])) ⟨rfl, trivial⟩ ?_ ?_
       · exact ⟨Nat.zero_le _, hk13, hgw.from_ E13, World.ownsRow_nil _ _ _ _, rfl, (fun j h => by simp at h), ((From.rfl_.next E11).next E13)⟩
       rintro ⟨k, Aa, ca, rs⟩ ρ4 w4 ⟨hk, hV, hgw, ho, hrl, hrs, hB⟩
       refine cd_seq ?_
       refine cd_region ?_
       refine st_val (ro_lss rfl rfl) ?_
       refine st_nil ?_
       refine nx_then ?_
       refine cd_seq ?_
       refine cd_cond rfl (fun Q5 => ?_) (fun Q5 => ?_)
       · (try first | replace Q5 := bn_t Q5 | replace Q5 := bn_f Q5)
         (try first | replace Q5 := bx_t Q5 | replace Q5 := bx_f Q5 | replace Q5 := be_t Q5 | replace Q5 := be_f Q5 | replace Q5 := of_decide_eq_true Q5 | replace Q5 := of_decide_eq_false Q5)
         have hkw : k < ws.length := by omega
         first
          | (exfalso; first | omega | contradiction | (cases Q5; done))
          | skip
            refine cd_skip ?_
            refine nx_then ?_
            refine cd_seq ?_
            refine cd_block ?_
            refine cd_seq ?_
            refine cd_region ?_
            refine st_val (ro_move (v := .int _ _) rfl) ?_
            refine st_val (ro_indexAddr0 BitsNew_e68 rfl rfl (by omega)) ?_
            refine st_val (ro_load BitsNew_g64 rfl (by exact hgw.rd _ (arr_at k hkw))) ?_
            refine st_val (ro_assign (v := .int _ _) rfl) ?_
            refine st_val (ro_assign (v := .int _ _) rfl) ?_
            refine st_nil ?_
            refine nx_then ?_
            refine cd_cut (G := Option Addr × Nat × List Nat) [25, 26, 27, 28, 29, 30, 31, 32, 33, 34, 35, 36, 37, 38, 39, 40, 41] (fun _ => []) (fun (A2, c2, rs2) w' => Blk w' b13 73 #[.slice (some ⟨gw, 0, none⟩) ws.length ws.length, .int .i64 (l.length : Nat), .slice A2 rs2.length c2, .int .i64 (rk l (64 * k) : Nat)] ∧ Blk w' gw 64 (ws.map uV).toArray ∧ w'.ownsRow w.heap.size 21 1 (.slice A2 rs2.length c2) rs2.length (rs2.map jV) ∧ rs2.length = (k + 1 + 7) / 8 ∧ (∀ j (h : j < rs2.length), rs2[j] = rk l (512 * j)) ∧ From w w') ?_ ?_
            · refine cd_seq ?_
              refine cd_region ?_
              refine st_val (ro_move (v := .int _ _) rfl) ?_
              refine st_val (ro_remN (b := 8) rfl rfl (by decide)) ?_
              refine st_val (ro_eql rfl rfl) ?_
              refine st_nil ?_
              refine nx_then ?_
              refine cd_cond rfl (fun Q6 => ?_) (fun Q6 => ?_)
              · (try first | replace Q6 := bn_t Q6 | replace Q6 := bn_f Q6)
                (try first | replace Q6 := bx_t Q6 | replace Q6 := bx_f Q6 | replace Q6 := be_t Q6 | replace Q6 := be_f Q6 | replace Q6 := of_decide_eq_true Q6 | replace Q6 := of_decide_eq_false Q6)
                have hk8 : k % 8 = 0 := by omega
                first
                 | (exfalso; first | omega | contradiction | (cases Q6; done))
                 | skip
                   apply cd_mu 14 11 [38] [(28, eqp _), (29, eqp _), (30, eqp _), (31, eqp _), (32, eqp _), (33, eqp _), (34, eqp _), (35, eqp _), (36, eqp _), (37, eqp _), (38, fun v w' => ∃ g, v = .slice (some ⟨g, 0, none⟩) 1 1 ∧ Blk w' g 21 #[jV (rk l (64 * k))]), (39, fun v w' => ∃ A2 c2, v = .slice A2 (rs.length + 1) c2 ∧ w'.ownsRow w.heap.size 21 1 (.slice A2 (rs.length + 1) c2) (rs.length + 1) (rs.map jV ++ [jV (rk l (64 * k))])), (40, eqp _), (41, eqp _)] (fun w' => From w w' ∧ Blk w' b13 73 #[.slice (some ⟨gw, 0, none⟩) ws.length ws.length, .int .i64 (l.length : Nat), .slice Aa rs.length ca, .int .i64 (rk l (64 * k) : Nat)] ∧ Blk w' gw 64 (ws.map uV).toArray ∧ w'.ownsRow w.heap.size 21 1 (.slice Aa rs.length ca) rs.length (rs.map jV)) (fun w' => From w w' ∧ Blk w' b13 73 #[.slice (some ⟨gw, 0, none⟩) ws.length ws.length, .int .i64 (l.length : Nat), .slice Aa rs.length ca, .int .i64 (rk l (64 * k) : Nat)] ∧ Blk w' gw 64 (ws.map uV).toArray) (by repeat first | exact pq_body | refine pq_then ?_ | refine pq_block ?_) (by kernel_rfl) (by kernel_rfl) (by kernel_rfl) ⟨eqp_mono _, eqp_mono _, eqp_mono _, eqp_mono _, eqp_mono _, eqp_mono _, eqp_mono _, eqp_mono _, eqp_mono _, eqp_mono _, (fun _ _ _ hF ⟨g, h1, h2⟩ => ⟨g, h1, h2.from_ hF⟩), (fun _ _ _ hF ⟨A2, c2, h1, h2⟩ => ⟨A2, c2, h1, h2.kept_from hF⟩), eqp_mono _, eqp_mono _, trivial⟩ (⟨hB.d1, hV, hgw, ho⟩) (⟨hB.d1, hV, hgw⟩) (fun _ _ hF h => ⟨h.1.next hF, h.2.1.from_ hF, h.2.2.1.from_ hF, h.2.2.2.kept_from hF⟩) (fun _ _ hF h => ⟨h.1.next hF, h.2.1.from_ hF, h.2.2.from_ hF⟩)
                   case hop =>
                    refine ⟨?_, ?_⟩
                    · rintro - w8 ⟨D8, hVd8, hgwd8⟩
                      show OpOK _ _ _ _ _ _ _
                      exact ok_pure (ro_move (v := .pointer _) rfl) rfl
                    refine ⟨?_, ?_⟩
                    · rintro - w9 ⟨D9, hVd9, hgwd9⟩
                      show OpOK _ _ _ _ _ _ _
                      exact ok_pure (ro_move (v := .pointer _) rfl) rfl
                    refine ⟨?_, ?_⟩
                    · rintro - w10 ⟨D10, hVd10, hgwd10⟩
                      rintro _ rfl
                      show OpOK _ _ _ _ _ _ _
                      exact ok_pure (ro_nilCheck rfl) rfl
                    refine ⟨?_, ?_⟩
                    · rintro - w11 ⟨D11, hVd11, hgwd11⟩
                      rintro _ rfl
                      show OpOK _ _ _ _ _ _ _
                      exact ok_pure (ro_fieldAddr BitsNew_f73_1 rfl) rfl
                    refine ⟨?_, ?_⟩
                    · rintro - w12 ⟨D12, hVd12, hgwd12⟩
                      rintro _ rfl
                      show OpOK _ _ _ _ _ _ _
                      exact ok_pure (ro_load BitsNew_g71 rfl (by exact hVd12.rd 2 rfl)) rfl
                    refine ⟨?_, ?_⟩
                    · rintro - w13 ⟨D13, hVd13, hgwd13⟩
                      show OpOK _ _ _ _ _ _ _
                      exact ok_pure (ro_move (v := .pointer _) rfl) rfl
                    refine ⟨?_, ?_⟩
                    · rintro - w14 ⟨D14, hVd14, hgwd14⟩
                      rintro _ rfl
                      show OpOK _ _ _ _ _ _ _
                      exact ok_pure (ro_nilCheck rfl) rfl
                    refine ⟨?_, ?_⟩
                    · rintro - w15 ⟨D15, hVd15, hgwd15⟩
                      rintro _ rfl
                      show OpOK _ _ _ _ _ _ _
                      exact ok_pure (ro_fieldAddr BitsNew_f73_2 rfl) rfl
                    refine ⟨?_, ?_⟩
                    · rintro - w16 ⟨D16, hVd16, hgwd16⟩
                      rintro _ rfl
                      show OpOK _ _ _ _ _ _ _
                      exact ok_pure (ro_load BitsNew_g3 rfl (by exact hVd16.rd 3 rfl)) rfl
                    refine ⟨?_, ?_⟩
                    · rintro - w17 ⟨D17, hVd17, hgwd17⟩
                      rintro _ rfl
                      show OpOK _ _ _ _ _ _ _
                      exact ok_pure (ro_conv' (k' := .i32) (r := ((rk l (64 * k) : Nat) : Int)) (by kernel_rfl) (by kernel_rfl) rfl (IntWalk.i32_in _ (by have := rk_le l (64 * k); omega))) rfl
                    refine ⟨?_, ?_⟩
                    · rintro - w18 ⟨D18, hVd18, hgwd18⟩
                      rintro _ rfl
                      show OpOK _ _ _ _ _ _ _
                      exact ok_val (ro_lit1 BitsNew_q46 rfl rfl rfl) (From.rfl_.new _) ⟨_, rfl, Blk.new _ _ _⟩
                    refine ⟨?_, ?_⟩
                    · intro h; cases h
                    refine ⟨?_, ?_⟩
                    · rintro - w20 ⟨D20, hVd20, hgwd20⟩
                      rintro _ rfl
                      show OpOK _ _ _ _ _ _ _
                      exact ok_pure (ro_nilCheck rfl) rfl
                    refine ⟨?_, ?_⟩
                    · rintro - w21 ⟨D21, hVd21, hgwd21⟩
                      rintro _ rfl
                      show OpOK _ _ _ _ _ _ _
                      exact ok_pure (ro_fieldAddr BitsNew_f73_1 rfl) rfl
                    exact trivial
                   case hmu =>
                    rintro w22 ⟨D22, hVd22, hgwd22, ho22⟩
                    rintro _ rfl v22_38 ⟨g22, rfl, hg22⟩
                    show MuOK _ _ _ _ _ _ _
                    refine mu_append BitsNew_q46 rfl (by decide) rfl ho22 D22.size rfl rfl ⟨_, _, rfl, hg22.whole⟩ (by simp [Value.oneCell']) (by omega) (by omega) ?_
                    intro A3 c3 w3 ho3 hg3
                    have hbl := own_at ho22
                    have hF3 : From w w3 := D22.grew hg3 (fun k hk => (hbl k hk).1)
                    exact ⟨⟨hF3, hVd22.grown hg3 (own_ne ho22 hVd22 (by decide)), hgwd22.grown hg3 (own_ne ho22 hgwd22 (by decide))⟩, ⟨A3, c3, rfl, ho3⟩, fun t u ht h => muR_look (by repeat first | exact trivial | refine ⟨.inl rfl, ?_⟩ | refine ⟨.inr (fun _ h => h), ?_⟩) t u ht h⟩
                   case hend =>
                    rintro w23 ⟨D23, hVd23, hgwd23⟩
                    rintro _ rfl _ rfl _ rfl _ rfl _ rfl _ rfl _ rfl _ rfl _ rfl _ rfl v38 _ v39 ⟨A39, c39, rfl, ho39⟩ _ rfl _ rfl
                    show St _ _ _ _ _ _ _
                    have hVq := hVd23
                    have hgq := hgwd23
                    refine st_put (v := .slice _ _ _) BitsNew_z71 rfl rfl rfl (hVq) (by simp) ?_
                    intro w24 O8 P8
                    refine st_nil ?_
                    refine nx_cut ((A39, c39, rs ++ [rk l (64 * k)])) trivial (by (iterate 17 refine agr_cons rfl ?_); exact agr_rfl) ?_
                    refine ⟨by simpa using P8, hgq.only O8 (by omega), by rw [List.length_append, List.map_append]; exact own_only2 ho39 O8 (own_ne ho39 hVq (by decide)), by rw [List.length_append, List.length_singleton]; omega, ?_, (D23.only O8 (hg13))⟩
                    intro j h
                    rw [List.length_append, List.length_singleton] at h
                    by_cases hj : j < rs.length
                    · rw [List.getElem_append_left hj]; exact hrs j hj
                    · rw [List.getElem_append_right (by omega)]
                      simp only [List.getElem_singleton]
                      congr 1
                      omega
              · (try first | replace Q6 := bn_t Q6 | replace Q6 := bn_f Q6)
                (try first | replace Q6 := bx_t Q6 | replace Q6 := bx_f Q6 | replace Q6 := be_t Q6 | replace Q6 := be_f Q6 | replace Q6 := of_decide_eq_true Q6 | replace Q6 := of_decide_eq_false Q6)
                have hk8 : ¬ k % 8 = 0 := by omega
                first
                 | (exfalso; first | omega | contradiction | (cases Q6; done))
                 | skip
                   refine cd_skip ?_
                   refine nx_cut ((Aa, ca, rs)) trivial (by (iterate 3 refine agr_cons rfl ?_); exact agr_rfl) ?_
                   exact ⟨hV, hgw, ho, by omega, hrs, hB⟩
            · rintro ⟨A2, c2, rs2⟩ ρ25 w25 ⟨hV, hgw, ho, hrl, hrs, hB⟩
              apply cd_drawnD 9 [(42, eqp _), (43, eqp _), (44, eqp _), (45, eqp _), (46, eqp _), (47, eqp _), (48, eqp _), (49, eqp _), (50, eqp _)] (by repeat first | exact pq_body | refine pq_then ?_ | refine pq_block ?_) (by kernel_rfl) (by kernel_rfl) ⟨eqp_mono _, eqp_mono _, eqp_mono _, eqp_mono _, eqp_mono _, eqp_mono _, eqp_mono _, eqp_mono _, eqp_mono _, trivial⟩
              case hop =>
               refine ⟨?_, ?_⟩
               · rintro - w27 D27
                 show OpOK _ _ _ _ _ _ _
                 exact ok_pure (ro_move (v := .pointer _) rfl) rfl
               refine ⟨?_, ?_⟩
               · rintro - w28 D28
                 rintro _ rfl
                 show OpOK _ _ _ _ _ _ _
                 exact ok_pure (ro_nilCheck rfl) rfl
               refine ⟨?_, ?_⟩
               · rintro - w29 D29
                 rintro _ rfl
                 show OpOK _ _ _ _ _ _ _
                 exact ok_pure (ro_fieldAddr BitsNew_f73_2 rfl) rfl
               refine ⟨?_, ?_⟩
               · rintro - w30 D30
                 rintro _ rfl
                 show OpOK _ _ _ _ _ _ _
                 exact ok_pure (ro_load BitsNew_g3 rfl (by exact (hV.from_ (From.rfl_.next D30)).rd 3 rfl)) rfl
               refine ⟨?_, ?_⟩
               · rintro - w31 D31
                 show OpOK _ _ _ _ _ _ _
                 exact ok_pure (ro_move (v := .int _ _) rfl) rfl
               refine ⟨?_, ?_⟩
               · rintro - w32 D32
                 rintro _ rfl
                 show OpOK _ _ _ _ _ _ _
                 refine ok_call BitsNew_k43 ((onesCount ws[k] _ (hW.lt _ (List.getElem_mem hkw))).mono ?_)
                 rintro v _ ⟨rfl, rfl⟩; exact ⟨From.rfl_, rfl⟩
               refine ⟨?_, ?_⟩
               · rintro - w33 D33
                 rintro _ rfl _ rfl
                 show OpOK _ _ _ _ _ _ _
                 exact ok_pure (ro_addN rfl rfl (by have := rk_le l (64 * k); have := pop_le ws[k] 64; omega)) rfl
               refine ⟨?_, ?_⟩
               · rintro - w34 D34
                 rintro _ rfl
                 show OpOK _ _ _ _ _ _ _
                 exact ok_pure (ro_nilCheck rfl) rfl
               refine ⟨?_, ?_⟩
               · rintro - w35 D35
                 rintro _ rfl
                 show OpOK _ _ _ _ _ _ _
                 exact ok_pure (ro_fieldAddr BitsNew_f73_2 rfl) rfl
               exact trivial
              case hend =>
               intro w36 D36
               rintro _ rfl _ rfl _ rfl _ rfl _ rfl _ rfl _ rfl _ rfl _ rfl
               show St _ _ _ _ _ _ _
               replace hV := hV.from_ (From.rfl_.next D36)
               replace hgw := hgw.from_ (From.rfl_.next D36)
               replace ho := ho.kept_from (From.rfl_.next D36)
               refine st_put (v := .int _ _) BitsNew_z3 rfl rfl rfl (hV) (by simp) ?_
               intro w37 O9 P9
               refine st_nil ?_
               refine nx_block ?_
               refine nx_then ?_
               refine cd_region ?_
               refine st_val (ro_addN (b := 1) rfl rfl (by omega)) ?_
               refine st_val (ro_move (v := .int _ _) rfl) ?_
               refine st_nil ?_
               refine nx_cut ((k + 1, A2, c2, rs2)) ⟨(by first | rfl | (refine int_eq ?_; omega)), trivial⟩ (by (iterate 68 refine agr_cons rfl ?_); exact agr_rfl) ⟨?_, ?_⟩
               · refine ⟨by omega, ?_, hgw.only O9 (by omega), own_only2 ho O9 (own_ne ho hV (by decide)), hrl, hrs, ((hB.next D36).only O9 (hg13))⟩
                 rw [hW.rankw hkw]
                 simpa using P9
               · show ws.length - (k + 1) < ws.length - k; omega
       · (try first | replace Q5 := bn_t Q5 | replace Q5 := bn_f Q5)
         (try first | replace Q5 := bx_t Q5 | replace Q5 := bx_f Q5 | replace Q5 := be_t Q5 | replace Q5 := be_f Q5 | replace Q5 := of_decide_eq_true Q5 | replace Q5 := of_decide_eq_false Q5)
         first
          | (exfalso; first | omega | contradiction | (cases Q5; done))
          | skip
            refine cd_exit ?_
            refine ex_then ?_
            refine ex_then ?_
            refine ex_block ?_
            refine nx_then ?_
            refine cd_seq ?_
            refine cd_region ?_
            refine st_val (ro_move (v := .pointer _) rfl) ?_
            refine st_val (ro_assign (v := .pointer _) rfl) ?_
            refine st_val (ro_assign (v := .int _ _) rfl) ?_
            refine st_nil ?_
            refine nx_then ?_
            refine cd_ret ?_
            refine res2 (v := .pointer _) (v' := .int _ _) rfl rfl rfl ?_
            obtain rfl : k = ws.length := by omega
            exact ⟨b13, rfl, ⟨gw, Aa, ca, ws, rs, hg13, hgw0, by rw [← rk_past (show l.length ≤ 64 * ws.length by omega)]; exact hV, hgw, ho, hW, hrl, hrs, hl⟩, hB⟩
end Go.Proofs.YtmiclfhpenjjfaaDoor
