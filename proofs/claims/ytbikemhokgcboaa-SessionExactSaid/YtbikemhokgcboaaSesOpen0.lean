/- session: Open of no session; wakes. -/
import Derived.Test.YtbikemhokgcboaaSesBegin
import Derived.Lib.LazyBuf
namespace Go.Proofs.Ytbikemhokgcboaa
open Go.RowKit
open Go.ChangeShapes Go.WideShapes Go.ChangeAt
theorem SesOpen0_q22 : litQ Try.prog 22 = some (60, 6, 64, (.agg #[.int .i64 0, .int .i64 0, .int .i64 0, .int .i64 0, .slice none 0 0, .int .i64 0])) := by kernel_rfl
theorem SesOpen0_e22 : elemQ Try.prog 22 = some (60, 6) := by kernel_rfl
theorem SesOpen0_u22 : Try.prog.underlying 22 = some (.slice 60) := by kernel_rfl
theorem SesOpen0_k52 : callable Try.prog 52 = true := by kernel_rfl
theorem SesOpen0_l22 : (elemQ Try.prog 22).isSome = true := by kernel_rfl
theorem SesOpen0_z29 : sizeQ Try.prog 29 = some 1 := by kernel_rfl
theorem SesOpen0_k13 : callable Try.prog 13 = true := by kernel_rfl
theorem SesOpen0_q55 : litQ Try.prog 55 = some (3, 1, 8, (.int .i64 0)) := by kernel_rfl
theorem SesOpen0_k37 : callable Try.prog 37 = true := by kernel_rfl
theorem SesOpen0_k38 : callable Try.prog 38 = true := by kernel_rfl
theorem SesOpen0_k42 : callable Try.prog 42 = true := by kernel_rfl
theorem SesOpen0_b60_0_3 : ∀ (a0 : Int) (a1 : Int), Try.prog.built 60 [(0, .int .i64 a0), (3, .int .i64 a1)] = some #[.int .i64 a0, .int .i64 0, .int .i64 0, .int .i64 0, .slice none 0 0, .int .i64 a1] := by intros; kernel_rfl
theorem SesOpen0_k47 : callable Try.prog 47 = true := by kernel_rfl
theorem SesOpen0_k26 : callable Try.prog 26 = true := by kernel_rfl
theorem SesOpen0_k12 : callable Try.prog 12 = true := by kernel_rfl
theorem SesOpen0_f60_0 : fieldQ Try.prog 60 0 = some 0 := by kernel_rfl
theorem SesOpen0_g3 : aggQ Try.prog 3 = some false := by kernel_rfl
theorem ro_eqlNilL {P : Program} {ρ : Operand → Value} {t e yt : TypeId} {x y : Operand} {a : Option Addr} {n c : Nat} {w : World} (ht : P.underlying t = some (.slice e)) (hx : ρ x = .slice a n c) (hy : ρ y = .slice none 0 0) : RO P ρ (.binOp .eql t x y yt) w (.bool a.isNone) w :=
  ro_bin hx hy (by unfold eqGuard; cases a <;> rfl) (run_eql_slice_nil w t e a n c ht)
theorem fill6 (t : Int) : Instr.fill (fun i => some (i * 6, 6)) ((Array.range (1 * 6)).map ((Value.agg #[.int .i64 0, .int .i64 0, .int .i64 0, .int .i64 0, .slice none 0 0, .int .i64 0]).cells[· % (Value.agg #[.int .i64 0, .int .i64 0, .int .i64 0, .int .i64 0, .slice none 0 0, .int .i64 0]).cells.size]!)) [(0, .agg #[.int .i64 t, .int .i64 0, .int .i64 0, .int .i64 0, .slice none 0 0, .int .i64 t])] = some #[.int .i64 t, .int .i64 0, .int .i64 0, .int .i64 0, .slice none 0 0, .int .i64 t] := by
  first
    | kernel_rfl
    | rfl
theorem rows_nil (w : World) (A : Option Addr) : RowS w A [] := fun h => absurd h (by simp)
theorem valid_nil : ValidL [] := ⟨by simp, fun i h => absurd h (by simp)⟩
set_option maxRecDepth 100000 in
set_option maxHeartbeats 400000 in
theorem clone_nil (w : World) :
    Rt Try.prog 52 [.slice none 0 0] w (fun v w' => v = .slice none 0 0 ∧ w = w') := by
  refine enter (n := 8) Try.func52 rfl rfl rfl ?_
  refine cd_seq ?_
  refine cd_region ?_
  refine st_val (ro_assign (v := .slice _ _ _) rfl) ?_
  refine st_nil ?_
  refine nx_then ?_
  refine cd_seq ?_
  refine cd_seq ?_
  refine cd_region ?_
  refine st_val (ro_move (v := .slice _ _ _) rfl) ?_
  refine st_val (ro_eqlNilL SesOpen0_u22 rfl rfl) ?_
  refine st_nil ?_
  refine nx_then ?_
  refine cd_condT rfl ?_
  refine cd_seq ?_
  refine cd_region ?_
  refine st_val (ro_assign (v := .slice _ _ _) rfl) ?_
  refine st_nil ?_
  refine nx_then ?_
  refine cd_ret ?_
  refine rt_then ?_
  refine res1 (v := .slice _ _ _) rfl rfl ?_
  exact ⟨rfl, rfl⟩
set_option maxRecDepth 100000 in
set_option maxHeartbeats 400000 in
theorem cloneS_nil (w : World) :
    Rt Try.prog 42 [.slice none 0 0] w (fun v w' => v = .slice none 0 0 ∧ w = w') := by
  refine enter (n := 19) Try.func42 rfl rfl rfl ?_
  refine cd_seq ?_
  refine cd_region ?_
  refine st_val (ro_assign (v := .slice _ _ _) rfl) ?_
  refine st_nil ?_
  refine nx_then ?_
  refine cd_seq ?_
  refine cd_region ?_
  refine st_val (ro_move (v := .slice _ _ _) rfl) ?_
  refine st_call SesOpen0_k52 (clone_nil _) ?_
  rintro v6 w1 ⟨rfl, rfl⟩
  refine st_val (ro_assign (v := .slice _ _ _) rfl) ?_
  refine st_nil ?_
  refine nx_then ?_
  refine cd_seq ?_
  refine cd_seq ?_
  refine cd_region ?_
  refine st_val (ro_move (v := .slice _ _ _) rfl) ?_
  refine st_val (ro_len SesOpen0_l22 rfl) ?_
  refine st_val (ro_move (v := .int _ _) rfl) ?_
  refine st_nil ?_
  refine nx_then ?_
  refine cd_block ?_
  refine cd_loop (G := Unit) [4, 10, 11, 12, 13, 14, 15, 16, 17] (fun _ => [(9, .int .i64 0)]) (fun _ w' => w = w') (fun _ => 0) (()) ⟨rfl, trivial⟩ ?_ ?_
  · rfl
  rintro - ρ2 w2 rfl
  refine cd_seq ?_
  refine cd_region ?_
  refine st_val (ro_lss rfl rfl) ?_
  refine st_nil ?_
  refine nx_then ?_
  refine cd_seq ?_
  refine cd_cond rfl (fun Q3 => ?_) (fun Q3 => ?_)
  · (try first | replace Q3 := bn_t Q3 | replace Q3 := bn_f Q3)
    (try first | replace Q3 := bx_t Q3 | replace Q3 := bx_f Q3 | replace Q3 := be_t Q3 | replace Q3 := be_f Q3 | replace Q3 := of_decide_eq_true Q3 | replace Q3 := of_decide_eq_false Q3)
    first
     | (exfalso; first | omega | contradiction | (cases Q3; done))
     | skip
       refine cd_skip ?_
       refine nx_then ?_
       refine cd_seq ?_
       refine cd_block ?_
       refine cd_seq ?_
       refine cd_region ?_
       refine st_val (ro_move (v := .int _ _) rfl) ?_
       refine st_val (ro_assign (v := .int _ _) rfl) ?_
       refine st_nil ?_
       refine nx_then ?_
       refine cd_region ?_
       refine st_val (ro_move (v := .slice _ _ _) rfl) ?_
       refine st_val (ro_move (v := .int _ _) rfl) ?_
       refine st_val (ro_none) ?_
       refine st_val (ro_none) ?_
       refine st_val (ro_none) ?_
       refine st_put (v := .slice _ _ _) SesOpen0_z29 rfl rfl rfl (hnone) (by omega) ?_
       intro w4 O5 P5
       refine st_nil ?_
       refine nx_block ?_
       refine nx_then ?_
       refine cd_region ?_
       refine st_val (ro_add64 rfl rfl (by omega)) ?_
       refine st_val (ro_move (v := .int _ _) rfl) ?_
       refine st_nil ?_
       refine nx_cut (()) ⟨(by first | rfl | (refine int_eq ?_; omega)), trivial⟩ (by (iterate 20 refine agr_cons rfl ?_); exact agr_rfl) ⟨?_, ?_⟩
       · rfl
       · omega
  · (try first | replace Q3 := bn_t Q3 | replace Q3 := bn_f Q3)
    (try first | replace Q3 := bx_t Q3 | replace Q3 := bx_f Q3 | replace Q3 := be_t Q3 | replace Q3 := be_f Q3 | replace Q3 := of_decide_eq_true Q3 | replace Q3 := of_decide_eq_false Q3)
    first
     | (exfalso; first | omega | contradiction | (cases Q3; done))
     | skip
       refine cd_exit ?_
       refine ex_then ?_
       refine ex_then ?_
       refine ex_block ?_
       refine nx_then ?_
       refine cd_seq ?_
       refine cd_region ?_
       refine st_val (ro_move (v := .slice _ _ _) rfl) ?_
       refine st_val (ro_assign (v := .slice _ _ _) rfl) ?_
       refine st_nil ?_
       refine nx_then ?_
       refine cd_ret ?_
       refine res1 (v := .slice _ _ _) rfl rfl ?_
       exact ⟨rfl, rfl⟩
set_option maxRecDepth 100000 in
set_option maxHeartbeats 400000 in
theorem insert_nil (x : Ses) (b : Nat) (w : World) (hk : Blk w b 60 (sesV x).toArray) :
    Rt Try.prog 47 [.slice none 0 0, .int .i64 0, .slice (some ⟨b, 0, none⟩) 1 1] w (fun v w' => (∃ A c, v = .slice A 1 c ∧ w'.ownsRow w.heap.size 60 6 (.slice A 1 c) 1 (sesV x)) ∧ From w w') := by
  refine enter (n := 95) Try.func47 rfl rfl rfl ?_
  refine cd_seq ?_
  refine cd_region ?_
  refine st_val (ro_assign (v := .slice _ _ _) rfl) ?_
  refine st_nil ?_
  refine nx_then ?_
  refine cd_seq ?_
  refine cd_region ?_
  refine st_val (ro_move (v := .slice _ _ _) rfl) ?_
  refine st_val (ro_move (v := .int _ _) rfl) ?_
  refine st_val (ro_sliceO (l := 0) SesOpen0_e22 rfl (.inr ⟨_, _, _, rfl, rfl, rfl⟩) (.inl ⟨rfl, rfl⟩) (by omega) (by omega)) ?_
  refine st_nil ?_
  refine nx_then ?_
  refine cd_seq ?_
  refine cd_region ?_
  refine st_val (ro_move (v := .slice _ _ _) rfl) ?_
  refine st_val (ro_len SesOpen0_l22 rfl) ?_
  refine st_val (ro_assign (v := .int _ _) rfl) ?_
  refine st_nil ?_
  refine nx_then ?_
  refine cd_seq ?_
  refine cd_seq ?_
  refine cd_region ?_
  refine st_val (ro_move (v := .int _ _) rfl) ?_
  refine st_val (ro_bf (ro_eql rfl rfl) rfl) ?_
  refine st_nil ?_
  refine nx_then ?_
  refine cd_condF rfl ?_
  refine cd_skip ?_
  refine nx_then ?_
  refine cd_seq ?_
  refine cd_region ?_
  refine st_val (ro_move (v := .slice _ _ _) rfl) ?_
  refine st_val (ro_len SesOpen0_l22 rfl) ?_
  refine st_val (ro_assign (v := .int _ _) rfl) ?_
  refine st_nil ?_
  refine nx_then ?_
  refine cd_seq ?_
  refine cd_seq ?_
  refine cd_region ?_
  refine st_val (ro_move (v := .int _ _) rfl) ?_
  refine st_val (ro_move (v := .int _ _) rfl) ?_
  refine st_val (ro_bt (ro_eql rfl rfl) rfl) ?_
  refine st_nil ?_
  refine nx_then ?_
  refine cd_condT rfl ?_
  refine cd_seq ?_
  refine cd_region ?_
  refine st_val (ro_move (v := .slice _ _ _) rfl) ?_
  refine st_val (ro_move (v := .slice _ _ _) rfl) ?_
  refine st_appendB (base := w.heap.size) SesOpen0_q22 rfl (by decide) rfl (A := none) (xs := []) (news := sesV x) (World.ownsRow_nil _ _ _ _) (Nat.le_refl _) rfl rfl (fun _ => ⟨b, 0, rfl, hk.whole⟩) (fun h => by cases h) (by simp [sesV, Value.oneCell']) (by decide) (by decide) ?_
  intro A25 c25 w1 ho25 hg25
  refine st_val (ro_assign (v := .slice _ _ _) rfl) ?_
  refine st_nil ?_
  refine nx_then ?_
  refine cd_ret ?_
  refine rt_then ?_
  refine res1 (v := .slice _ _ _) rfl rfl ?_
  exact ⟨⟨A25, c25, rfl, ho25⟩, ((From.rfl_).grew hg25 (fun k hk => by cases hk))⟩
set_option maxRecDepth 100000 in
set_option maxHeartbeats 400000 in
theorem open_nil (t : Int) (w : World) (ht : inE 1 t = true) :
    Rt Try.prog 26 [.slice none 0 0, .int .i64 t] w (fun v w' => (∃ A c, v = .tuple #[.slice A 1 c, .int .i64 0] ∧ w'.ownsRow w.heap.size 60 6 (.slice A 1 c) 1 (sesV ⟨t, 0, 0, 0, none, 0, 0, t⟩)) ∧ From w w') := by
  refine enter (n := 53) Try.func26 rfl rfl rfl ?_
  refine cd_seq ?_
  refine cd_region ?_
  refine st_val (ro_assign (v := .slice _ _ _) rfl) ?_
  refine st_val (ro_assign (v := .int _ _) rfl) ?_
  refine st_nil ?_
  refine nx_then ?_
  refine cd_seq ?_
  refine cd_seq ?_
  refine cd_region ?_
  refine st_val (ro_move (v := .slice _ _ _) rfl) ?_
  refine st_call SesOpen0_k13 (check_ok none 0 [] _ (rows_nil _ _) (by simp) valid_nil) ?_
  rintro v13 w1 ⟨rfl, E13⟩
  refine st_val (ro_bf (ro_neq rfl rfl) rfl) ?_
  refine st_val (ro_move (v := .bool _) rfl) ?_
  refine st_unguard rfl ?_
  refine st_val (ro_move (v := .int _ _) rfl) ?_
  refine st_unguard rfl ?_
  refine st_lit1 (v := .int _ _) SesOpen0_q55 rfl rfl rfl ?_
  intro b17 w2 E17 hb17 hk17
  refine st_unguard rfl ?_
  refine st_call SesOpen0_k37 (within1 1 t b17 _ hk17) ?_
  rintro v18 w3 ⟨rfl, rfl⟩
  refine st_unguard rfl ?_
  refine st_val (ro_bf (ro_not rfl) (by rw [ht]; rfl)) ?_
  refine st_val (ro_pickF (v := .bool _) rfl rfl) ?_
  refine st_nil ?_
  refine nx_then ?_
  refine cd_condF rfl ?_
  refine cd_skip ?_
  refine nx_then ?_
  refine cd_seq ?_
  refine cd_seq ?_
  refine cd_region ?_
  refine st_val (ro_move (v := .slice _ _ _) rfl) ?_
  refine st_val (ro_move (v := .int _ _) rfl) ?_
  refine st_call SesOpen0_k38 (find_rt none 0 [] _ (rows_nil _ _) (by simp) t (valid_rise valid_nil)) ?_
  rintro v24 w4 ⟨hg24, E24⟩
  rcases hg24 with ⟨i, hi, _, _⟩ | ⟨i, hi, _, _, rfl⟩
  · exact absurd hi (Nat.not_lt_zero _)
  · obtain rfl : i = 0 := by simpa using hi
    refine st_val (ro_move (v := .tuple _) rfl) ?_
    refine st_val (ro_extract rfl rfl) ?_
    refine st_val (ro_extract rfl rfl) ?_
    refine st_val (ro_assign (v := .int _ _) rfl) ?_
    refine st_val (ro_assign (v := .bool _) rfl) ?_
    refine st_nil ?_
    refine nx_then ?_
    refine cd_seq ?_
    refine cd_region ?_
    refine st_val (ro_move (v := .bool _) rfl) ?_
    refine st_nil ?_
    refine nx_then ?_
    refine cd_condF rfl ?_
    refine cd_skip ?_
    refine nx_then ?_
    refine cd_seq ?_
    refine cd_region ?_
    refine st_val (ro_move (v := .slice _ _ _) rfl) ?_
    refine st_call SesOpen0_k42 (cloneS_nil _) ?_
    rintro v29 w5 ⟨rfl, rfl⟩
    refine st_val (ro_assign (v := .slice _ _ _) rfl) ?_
    refine st_nil ?_
    refine nx_then ?_
    refine cd_seq ?_
    refine cd_seq ?_
    refine cd_region ?_
    refine st_val (ro_move (v := .slice _ _ _) rfl) ?_
    refine st_val (ro_len SesOpen0_l22 rfl) ?_
    refine st_val (ro_bf (ro_eql rfl rfl) rfl) ?_
    refine st_nil ?_
    refine nx_then ?_
    refine cd_condF rfl ?_
    refine cd_skip ?_
    refine nx_then ?_
    refine cd_seq ?_
    refine cd_region ?_
    refine st_val (ro_move (v := .slice _ _ _) rfl) ?_
    refine st_val (ro_move (v := .int _ _) rfl) ?_
    refine st_call SesOpen0_k38 (find_rt none 0 [] _ (rows_nil _ _) (by simp) t (valid_rise valid_nil)) ?_
    rintro v43 w6 ⟨hg43, E43⟩
    rcases hg43 with ⟨i2, hi2, _, _⟩ | ⟨i2, hi2, _, _, rfl⟩
    · exact absurd hi2 (Nat.not_lt_zero _)
    · obtain rfl : i2 = 0 := by simpa using hi2
      refine st_val (ro_move (v := .tuple _) rfl) ?_
      refine st_val (ro_extract rfl rfl) ?_
      refine st_val (ro_extract rfl rfl) ?_
      refine st_val (ro_assign (v := .int _ _) rfl) ?_
      refine st_val (ro_assign (v := .bool _) rfl) ?_
      refine st_nil ?_
      refine nx_then ?_
      refine cd_seq ?_
      refine cd_region ?_
      refine st_val (ro_move (v := .slice _ _ _) rfl) ?_
      refine st_val (ro_move (v := .int _ _) rfl) ?_
      refine st_val (ro_move (v := .int _ _) rfl) ?_
      refine st_val (ro_move (v := .int _ _) rfl) ?_
      refine st_val (ro_build (l := [(0, .tmp 48), (3, .tmp 49)]) (SesOpen0_b60_0_3 _ _)) ?_
      refine st_lit (cells := #[.int .i64 t, .int .i64 0, .int .i64 0, .int .i64 0, .slice none 0 0, .int .i64 t]) SesOpen0_q22 rfl rfl (fill6 t) ?_
      intro b51 w7 E51 hb51 hk51
      have hB52 : From w w7 := (((((From.rfl_.next E13).next E17).next E24).next E43).next E51)
      refine st_call SesOpen0_k47 (insert_nil ⟨t, 0, 0, 0, none, 0, 0, t⟩ b51 _ hk51) ?_
      rintro v52 w8 ⟨⟨A52, c52, rfl, ho52⟩, E52⟩
      refine st_val (ro_assign (v := .slice _ _ _) rfl) ?_
      refine st_val (ro_assign (v := .int _ _) rfl) ?_
      refine st_nil ?_
      refine nx_then ?_
      refine cd_ret ?_
      refine res2 (v := .slice _ _ _) (v' := .int _ _) rfl rfl rfl ?_
      exact ⟨⟨A52, c52, rfl, own_le ho52 hB52.size⟩, ((((((From.rfl_.next E13).next E17).next E24).next E43).next E51).next E52)⟩
set_option maxRecDepth 100000 in
set_option maxHeartbeats 400000 in
theorem wakes_any (w : World) :
    Rt Try.prog 28 [] w (fun v w' => v = .bool true ∧ From w w') := by
  refine enter (n := 22) Try.func28 rfl rfl rfl ?_
  refine cd_seq ?_
  refine cd_region ?_
  refine st_val (ro_assign (v := .bool _) rfl) ?_
  refine st_nil ?_
  refine nx_then ?_
  refine cd_seq ?_
  refine cd_region ?_
  refine st_call SesOpen0_k26 (open_nil 3 _ (by decide)) ?_
  rintro v4 w1 ⟨⟨A4, c4, rfl, ho4⟩, E4⟩
  obtain ⟨g4, rfl⟩ := own_some ho4 (by decide)
  refine st_val (ro_move (v := .tuple _) rfl) ?_
  refine st_val (ro_extract rfl rfl) ?_
  refine st_val (ro_extract rfl rfl) ?_
  refine st_val (ro_assign (v := .slice _ _ _) rfl) ?_
  refine st_val (ro_assign (v := .int _ _) rfl) ?_
  refine st_nil ?_
  refine nx_then ?_
  refine cd_seq ?_
  refine cd_region ?_
  refine st_val (ro_move (v := .int _ _) rfl) ?_
  refine st_call SesOpen0_k12 (num_any _ _) ?_
  rintro v8 w2 ⟨rfl, rfl⟩
  refine st_val (ro_bt (ro_eql rfl rfl) rfl) ?_
  refine st_val (ro_move (v := .bool _) rfl) ?_
  refine st_unguard rfl ?_
  refine st_val (ro_move (v := .slice _ _ _) rfl) ?_
  refine st_unguard rfl ?_
  refine st_val (ro_len SesOpen0_l22 rfl) ?_
  refine st_unguard rfl ?_
  refine st_val (ro_bt (ro_eql rfl rfl) rfl) ?_
  refine st_val (ro_pickT (v := .bool _) rfl rfl) ?_
  refine st_val (ro_move (v := .bool _) rfl) ?_
  refine st_unguard rfl ?_
  refine st_val (ro_move (v := .slice _ _ _) rfl) ?_
  refine st_unguard rfl ?_
  refine st_val (ro_indexAddrN (i := 0) SesOpen0_e22 rfl rfl (by decide)) ?_
  refine st_unguard rfl ?_
  refine st_val (ro_fieldAddr SesOpen0_f60_0 rfl) ?_
  refine st_unguard rfl ?_
  refine st_val (ro_load SesOpen0_g3 rfl (by exact ho4.cellAt 0 (by decide))) ?_
  refine st_unguard rfl ?_
  refine st_val (ro_bt (ro_eql rfl rfl) rfl) ?_
  refine st_val (ro_pickT (v := .bool _) rfl rfl) ?_
  refine st_val (ro_assign (v := .bool _) rfl) ?_
  refine st_nil ?_
  refine nx_then ?_
  refine cd_ret ?_
  refine res1 (v := .bool _) rfl rfl ?_
  exact ⟨rfl, (From.rfl_.next E4)⟩
end Go.Proofs.Ytbikemhokgcboaa
