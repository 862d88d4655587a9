/- slices.Clone, Delete, Insert at sessions. -/
import Derived.Test.YtbikemhokgcboaaFast12
namespace Go.Proofs.Ytbikemhokgcboaa
open Go.RowKit
open Go.ChangeShapes Go.WideShapes Go.ChangeAt
theorem SesSlices_q22 : litQ Try.prog 22 = some (60, 6, 64, (.agg #[.int .i64 0, .int .i64 0, .int .i64 0, .int .i64 0, .slice none 0 0, .int .i64 0])) := by kernel_rfl
theorem SesSlices_e22 : elemQ Try.prog 22 = some (60, 6) := by kernel_rfl
theorem SesSlices_l22 : (elemQ Try.prog 22).isSome = true := by kernel_rfl
theorem SesSlices_u22 : Try.prog.underlying 22 = some (.slice 60) := by kernel_rfl
set_option maxRecDepth 100000 in
set_option maxHeartbeats 400000 in
theorem clone_rt (A : Option Addr) (c n : Nat) (xs : List Value) (w : World) (hx : xs.length = n * 6) (hr : 0 < n → ∃ b o, A = some ⟨b, o, none⟩ ∧ w.rangeAt b o xs) (hn0 : A = none → n = 0 ∧ c = 0) (h1 : ∀ u ∈ xs, u.oneCell' = true) (hl : n ≤ 100000000000) :
    Rt Try.prog 52 [.slice A n c] w (fun v w' => (∃ A' c', v = .slice A' n c' ∧ w'.ownsRow w.heap.size 60 6 (.slice A' n c') n xs) ∧ From w w') := by
  refine enter (n := 8) Try.func52 rfl rfl rfl ?_
  refine cd_seq ?_
  refine cd_region ?_
  refine st_val (ro_assign (v := .slice _ _ _) rfl) ?_
  refine st_nil ?_
  refine nx_then ?_
  refine cd_seq ?_
  refine cd_seq ?_
  refine cd_region ?_
  refine st_val (ro_move (v := .slice _ _ _) rfl) ?_
  refine st_val (ro_eqlNilS SesSlices_u22 rfl rfl) ?_
  refine st_nil ?_
  refine nx_then ?_
  refine cd_cond rfl (fun Q1 => ?_) (fun Q1 => ?_)
  · (try first | replace Q1 := bn_t Q1 | replace Q1 := bn_f Q1)
    (try first | replace Q1 := bx_t Q1 | replace Q1 := bx_f Q1 | replace Q1 := be_t Q1 | replace Q1 := be_f Q1 | replace Q1 := of_decide_eq_true Q1 | replace Q1 := of_decide_eq_false Q1)
    obtain rfl : A = none := Option.isNone_iff_eq_none.1 Q1
    obtain ⟨rfl, rfl⟩ := hn0 rfl
    obtain rfl : xs = [] := List.eq_nil_of_length_eq_zero (by omega)
    refine cd_seq ?_
    refine cd_region ?_
    refine st_val (ro_assign (v := .slice _ _ _) rfl) ?_
    refine st_nil ?_
    refine nx_then ?_
    refine cd_ret ?_
    refine rt_then ?_
    refine res1 (v := .slice _ _ _) rfl rfl ?_
    exact ⟨⟨none, 0, rfl, World.ownsRow_nil _ _ _ _⟩, From.rfl_⟩
  · (try first | replace Q1 := bn_t Q1 | replace Q1 := bn_f Q1)
    (try first | replace Q1 := bx_t Q1 | replace Q1 := bx_f Q1 | replace Q1 := be_t Q1 | replace Q1 := be_f Q1 | replace Q1 := of_decide_eq_true Q1 | replace Q1 := of_decide_eq_false Q1)
    have hA4 : A = none → c = 0 := fun h => by rw [h] at Q1; cases Q1
    refine cd_skip ?_
    refine nx_then ?_
    refine cd_seq ?_
    refine cd_region ?_
    refine st_lit0 SesSlices_q22 _ (From.rfl_.size) ?_
    intro b5 w2 E5 hb5 ho5
    refine st_val (ro_move (v := .slice _ _ _) rfl) ?_
    refine st_append (a0 := w) SesSlices_q22 rfl (by decide) rfl ho5 (From.rfl_.next E5) rfl hx (fun h => (let ⟨b, o, hA, hc⟩ := hr h; ⟨b, o, hA, rangeF (From.rfl_.next E5) hc⟩)) hA4 h1 (by omega) (by omega) ?_
    intro A7 c7 w3 ho7 B7 hg7
    refine st_val (ro_assign (v := .slice _ _ _) rfl) ?_
    refine st_nil ?_
    refine nx_then ?_
    refine cd_ret ?_
    refine res1 (v := .slice _ _ _) rfl rfl ?_
    exact ⟨⟨A7, c7, by rw [Nat.zero_add], by simpa using ho7⟩, B7⟩
set_option maxRecDepth 100000 in
set_option maxHeartbeats 400000 in
theorem delete_rt (base : Nat) (A : Option Addr) (c n i j : Nat) (xs : List Value) (w : World) (ho : w.ownsRow base 60 6 (.slice A n c) n xs) (hij : i < j) (hj : j ≤ n) (h1 : ∀ u ∈ xs, u.oneCell' = true) (hl : n ≤ 100000000000) :
    Rt Try.prog 45 [.slice A n c, .int .i64 (i : Nat), .int .i64 (j : Nat)] w (fun v w' => (∃ A' c', v = .slice A' (n - (j - i)) c' ∧ w'.ownsRow base 60 6 (.slice A' (n - (j - i)) c') (n - (j - i)) (xs.take (i * 6) ++ xs.drop (j * 6))) ∧ w.grownBy w' (A.map (·.block))) := by
  obtain ⟨g, cur, rfl, hg, hbk, hnc, hcm, hcl, hct⟩ := own_blk ho (by omega)
  have hxl : xs.length = n * 6 := ho.1
  have hdl : (xs.drop (j * 6)).length = (n - j) * 6 := by rw [List.length_drop, hxl]; omega
  have hno : n - (j - i) = i + (n - j) := by omega
  have hbz : w.grownBy w (some g) := World.grownBy.refl _ _
  refine enter (n := 33) Try.func45 rfl rfl rfl ?_
  refine cd_seq ?_
  refine cd_region ?_
  refine st_val (ro_assign (v := .slice _ _ _) rfl) ?_
  refine st_nil ?_
  refine nx_then ?_
  refine cd_seq ?_
  refine cd_region ?_
  refine st_val (ro_move (v := .slice _ _ _) rfl) ?_
  refine st_val (ro_move (v := .int _ _) rfl) ?_
  refine st_val (ro_move (v := .int _ _) rfl) ?_
  refine st_val (ro_move (v := .slice _ _ _) rfl) ?_
  refine st_val (ro_len SesSlices_l22 rfl) ?_
  refine st_val (ro_slice3 (l := i) (h := j) (mx := n) SesSlices_e22 rfl rfl rfl rfl (by omega) (by omega) (by omega)) ?_
  refine st_nil ?_
  refine nx_then ?_
  refine cd_seq ?_
  refine cd_seq ?_
  refine cd_region ?_
  refine st_val (ro_move (v := .int _ _) rfl) ?_
  refine st_val (ro_move (v := .int _ _) rfl) ?_
  refine st_val (ro_eql rfl rfl) ?_
  refine st_nil ?_
  refine nx_then ?_
  refine cd_cond rfl (fun Q1 => ?_) (fun Q1 => ?_)
  · (try first | replace Q1 := bn_t Q1 | replace Q1 := bn_f Q1)
    (try first | replace Q1 := bx_t Q1 | replace Q1 := bx_f Q1 | replace Q1 := be_t Q1 | replace Q1 := be_f Q1 | replace Q1 := of_decide_eq_true Q1 | replace Q1 := of_decide_eq_false Q1)
    first
     | (exfalso; first | omega | contradiction | (cases Q1; done))
     | skip
       refine cd_seq ?_
       refine cd_region ?_
       refine st_val (ro_move (v := .slice _ _ _) rfl) ?_
       refine st_val (ro_assign (v := .slice _ _ _) rfl) ?_
       refine st_nil ?_
       refine nx_then ?_
       refine cd_ret ?_
       refine rt_then ?_
       refine res1 (v := .slice _ _ _) rfl rfl ?_
       exact absurd rfl (by omega)
  · (try first | replace Q1 := bn_t Q1 | replace Q1 := bn_f Q1)
    (try first | replace Q1 := bx_t Q1 | replace Q1 := bx_f Q1 | replace Q1 := be_t Q1 | replace Q1 := be_f Q1 | replace Q1 := of_decide_eq_true Q1 | replace Q1 := of_decide_eq_false Q1)
    first
     | (exfalso; first | omega | contradiction | (cases Q1; done))
     | skip
       refine cd_skip ?_
       refine nx_then ?_
       refine cd_seq ?_
       refine cd_region ?_
       refine st_val (ro_move (v := .slice _ _ _) rfl) ?_
       refine st_val (ro_len SesSlices_l22 rfl) ?_
       refine st_val (ro_assign (v := .int _ _) rfl) ?_
       refine st_nil ?_
       refine nx_then ?_
       refine cd_seq ?_
       apply cd_drawnD 6 [(20, eqp _), (21, eqp _), (22, eqp _), (23, eqp _), (24, eqp _), (25, eqp _)] (by repeat first | exact pq_body | refine pq_then ?_ | refine pq_block ?_) (by kernel_rfl) (by kernel_rfl) ⟨eqp_mono _, eqp_mono _, eqp_mono _, eqp_mono _, eqp_mono _, eqp_mono _, trivial⟩
       case hop =>
        refine ⟨?_, ?_⟩
        · rintro - w3 D3
          show OpOK _ _ _ _ _ _ _
          exact ok_pure (ro_move (v := .slice _ _ _) rfl) rfl
        refine ⟨?_, ?_⟩
        · rintro - w4 D4
          show OpOK _ _ _ _ _ _ _
          exact ok_pure (ro_move (v := .int _ _) rfl) rfl
        refine ⟨?_, ?_⟩
        · rintro - w5 D5
          rintro _ rfl _ rfl
          show OpOK _ _ _ _ _ _ _
          exact ok_pure (ro_eq (v' := .slice (some ⟨g, 0, none⟩) i c) (ro_sliceO (l := 0) (h := i) SesSlices_e22 rfl (.inl ⟨rfl, rfl⟩) (.inr ⟨_, _, _, rfl, rfl, rfl⟩) (by omega) (by omega)) (by rw [restOf_head, Nat.sub_zero, Nat.sub_zero])) rfl
        refine ⟨?_, ?_⟩
        · rintro - w6 D6
          show OpOK _ _ _ _ _ _ _
          exact ok_pure (ro_move (v := .slice _ _ _) rfl) rfl
        refine ⟨?_, ?_⟩
        · rintro - w7 D7
          show OpOK _ _ _ _ _ _ _
          exact ok_pure (ro_move (v := .int _ _) rfl) rfl
        refine ⟨?_, ?_⟩
        · rintro - w8 D8
          rintro _ rfl _ rfl
          show OpOK _ _ _ _ _ _ _
          exact ok_pure (ro_sliceO (l := j) (h := n) SesSlices_e22 rfl (.inr ⟨_, _, _, rfl, rfl, rfl⟩) (.inl ⟨rfl, rfl⟩) (by omega) (by omega)) rfl
        exact trivial
       case hend =>
        intro w9 D9
        rintro _ rfl _ rfl _ rfl _ rfl _ rfl _ rfl
        show St _ _ _ _ _ _ _
        replace hbz := grown_trans hbz (From.grown D9 _)
        replace hbk := hbk.from_ D9
        refine st_appendR (news := xs.drop (j * 6)) (cur := cur) SesSlices_e22 rfl rfl hdl (fun h => ⟨g, j * 6, by rw [restOf_pos (by omega), Nat.zero_add], row_drop hbk hct⟩) hbk (fun v hv => h1 v (List.mem_of_mem_drop hv)) (by omega) (by rw [hdl, hcl]; omega) ?_
        intro w10 O26 P26
        replace hbz := grown_trans hbz (Only.grown O26)
        refine st_val (ro_assign (v := .slice _ _ _) rfl) ?_
        refine st_nil ?_
        refine nx_then ?_
        refine cd_seq ?_
        refine cd_region ?_
        refine st_val (ro_move (v := .slice _ _ _) rfl) ?_
        refine st_val (ro_move (v := .slice _ _ _) rfl) ?_
        refine st_val (ro_len SesSlices_l22 rfl) ?_
        refine st_val (ro_move (v := .int _ _) rfl) ?_
        refine st_val (ro_sliceO (l := i + (n - j)) (h := n) SesSlices_e22 rfl (.inr ⟨_, _, _, rfl, rfl, by omega⟩) (.inr ⟨_, _, _, rfl, rfl, rfl⟩) (by omega) (by omega)) ?_
        refine st_clearB (g := g) (o := (i + (n - j)) * 6) SesSlices_q22 rfl rfl (fun h => by rw [restOf_pos (by omega), Nat.zero_add]) P26 (by rw [over_len _ _ _ (by rw [hdl, hcl]; omega), hcl]; omega) (by decide) ?_
        intro w11 zs O6 hzl P6
        replace hbz := grown_trans hbz (Only.grown O6)
        have hzl2 : zs.length = (j - i) * 6 := by rw [hzl]; congr 1; omega
        refine st_nil ?_
        refine nx_then ?_
        refine cd_seq ?_
        refine cd_region ?_
        refine st_val (ro_move (v := .slice _ _ _) rfl) ?_
        refine st_val (ro_assign (v := .slice _ _ _) rfl) ?_
        refine st_nil ?_
        refine nx_then ?_
        refine cd_ret ?_
        refine res1 (v := .slice _ _ _) rfl rfl ?_
        rw [hno]
        exact ⟨⟨_, _, rfl, own_of hg P6 (by omega) hcm (by rw [over_len _ _ _ (by rw [over_len _ _ _ (by rw [hdl, hcl]; omega), hzl2, hcl]; omega), over_len _ _ _ (by rw [hdl, hcl]; omega), hcl]) (del_take (by omega) hj hnc hcl hct hzl2)⟩, hbz⟩
set_option maxRecDepth 100000 in
set_option maxHeartbeats 400000 in
theorem insert_rt (base : Nat) (A : Option Addr) (c n i m b vo vc : Nat) (xs vs : List Value) (tv : TypeId) (csv : Array Value) (w : World) (ho : w.ownsRow base 60 6 (.slice A n c) n xs) (hbs : base ≤ w.heap.size) (hi : i ≤ n) (hm : 0 < m) (hvl : vs.length = m * 6) (hvr : w.rangeAt b vo vs) (hvb : Blk w b tv csv) (hne : ∀ k, A.map (·.block) = some k → k ≠ b) (h1 : ∀ u ∈ xs, u.oneCell' = true) (h1v : ∀ u ∈ vs, u.oneCell' = true) (hl : n + m ≤ 100000000000) :
    Rt Try.prog 47 [.slice A n c, .int .i64 (i : Nat), .slice (some ⟨b, vo, none⟩) m vc] w (fun v w' => (∃ A' c', v = .slice A' (n + m) c' ∧ w'.ownsRow base 60 6 (.slice A' (n + m) c') (n + m) (xs.take (i * 6) ++ vs ++ xs.drop (i * 6))) ∧ w.grownBy w' (A.map (·.block))) := by
  have hxl : xs.length = n * 6 := ho.1
  have hdl : (xs.drop (i * 6)).length = (n - i) * 6 := by rw [List.length_drop, hxl]; omega
  have hcap := own_cap ho
  refine enter (n := 95) Try.func47 rfl rfl rfl ?_
  refine cd_seq ?_
  refine cd_region ?_
  refine st_val (ro_assign (v := .slice _ _ _) rfl) ?_
  refine st_nil ?_
  refine nx_then ?_
  refine cd_seq ?_
  refine cd_region ?_
  refine st_val (ro_move (v := .slice _ _ _) rfl) ?_
  refine st_val (ro_move (v := .int _ _) rfl) ?_
  refine st_val (ro_sliceO (l := i) (h := n) SesSlices_e22 rfl (.inr ⟨_, _, _, rfl, rfl, rfl⟩) (.inl ⟨rfl, rfl⟩) (by omega) (by omega)) ?_
  refine st_nil ?_
  refine nx_then ?_
  refine cd_seq ?_
  refine cd_region ?_
  refine st_val (ro_move (v := .slice _ _ _) rfl) ?_
  refine st_val (ro_len SesSlices_l22 rfl) ?_
  refine st_val (ro_assign (v := .int _ _) rfl) ?_
  refine st_nil ?_
  refine nx_then ?_
  refine cd_seq ?_
  refine cd_seq ?_
  refine cd_region ?_
  refine st_val (ro_move (v := .int _ _) rfl) ?_
  refine st_val (ro_eql rfl rfl) ?_
  refine st_nil ?_
  refine nx_then ?_
  refine cd_cond rfl (fun Q1 => ?_) (fun Q1 => ?_)
  · (try first | replace Q1 := bn_t Q1 | replace Q1 := bn_f Q1)
    (try first | replace Q1 := bx_t Q1 | replace Q1 := bx_f Q1 | replace Q1 := be_t Q1 | replace Q1 := be_f Q1 | replace Q1 := of_decide_eq_true Q1 | replace Q1 := of_decide_eq_false Q1)
    first
     | (exfalso; first | omega | contradiction | (cases Q1; done))
     | skip
       refine cd_seq ?_
       refine cd_region ?_
       refine st_val (ro_move (v := .slice _ _ _) rfl) ?_
       refine st_val (ro_assign (v := .slice _ _ _) rfl) ?_
       refine st_nil ?_
       refine nx_then ?_
       refine cd_ret ?_
       refine rt_then ?_
       refine res1 (v := .slice _ _ _) rfl rfl ?_
       exact absurd rfl (by omega)
  · (try first | replace Q1 := bn_t Q1 | replace Q1 := bn_f Q1)
    (try first | replace Q1 := bx_t Q1 | replace Q1 := bx_f Q1 | replace Q1 := be_t Q1 | replace Q1 := be_f Q1 | replace Q1 := of_decide_eq_true Q1 | replace Q1 := of_decide_eq_false Q1)
    first
     | (exfalso; first | omega | contradiction | (cases Q1; done))
     | skip
       refine cd_skip ?_
       refine nx_then ?_
       refine cd_seq ?_
       refine cd_region ?_
       refine st_val (ro_move (v := .slice _ _ _) rfl) ?_
       refine st_val (ro_len SesSlices_l22 rfl) ?_
       refine st_val (ro_assign (v := .int _ _) rfl) ?_
       refine st_nil ?_
       refine nx_then ?_
       refine cd_seq ?_
       refine cd_seq ?_
       refine cd_region ?_
       refine st_val (ro_move (v := .int _ _) rfl) ?_
       refine st_val (ro_move (v := .int _ _) rfl) ?_
       refine st_val (ro_eql rfl rfl) ?_
       refine st_nil ?_
       refine nx_then ?_
       refine cd_cond rfl (fun Q2 => ?_) (fun Q2 => ?_)
       · (try first | replace Q2 := bn_t Q2 | replace Q2 := bn_f Q2)
         (try first | replace Q2 := bx_t Q2 | replace Q2 := bx_f Q2 | replace Q2 := be_t Q2 | replace Q2 := be_f Q2 | replace Q2 := of_decide_eq_true Q2 | replace Q2 := of_decide_eq_false Q2)
         obtain rfl : i = n := by omega
         first
          | (exfalso; first | omega | contradiction | (cases Q2; done))
          | skip
            refine cd_seq ?_
            refine cd_region ?_
            refine st_val (ro_move (v := .slice _ _ _) rfl) ?_
            refine st_val (ro_move (v := .slice _ _ _) rfl) ?_
            refine st_appendB SesSlices_q22 rfl (by decide) rfl ho hbs rfl hvl (fun _ => ⟨b, vo, rfl, hvr⟩) (fun h => by cases h) h1v (by omega) (by omega) ?_
            intro A25 c25 w3 ho25 hg25
            refine st_val (ro_assign (v := .slice _ _ _) rfl) ?_
            refine st_nil ?_
            refine nx_then ?_
            refine cd_ret ?_
            refine rt_then ?_
            refine res1 (v := .slice _ _ _) rfl rfl ?_
            exact ⟨⟨A25, c25, rfl, by rw [List.take_of_length_le (by omega), List.drop_of_length_le (by omega), List.append_nil]; exact ho25⟩, hg25⟩
       · (try first | replace Q2 := bn_t Q2 | replace Q2 := bn_f Q2)
         (try first | replace Q2 := bx_t Q2 | replace Q2 := bx_f Q2 | replace Q2 := be_t Q2 | replace Q2 := be_f Q2 | replace Q2 := of_decide_eq_true Q2 | replace Q2 := of_decide_eq_false Q2)
         obtain ⟨g, cur, rfl, hg, hbk, hnc, hcm, hcl, hct⟩ := own_blk ho (by omega)
         have hgb : g ≠ b := hne g rfl
         have hbz : w.grownBy w (some g) := World.grownBy.refl _ _
         first
          | (exfalso; first | omega | contradiction | (cases Q2; done))
          | skip
            refine cd_skip ?_
            refine nx_then ?_
            refine cd_seq ?_
            refine cd_seq ?_
            refine cd_region ?_
            refine st_val (ro_move (v := .int _ _) rfl) ?_
            refine st_val (ro_move (v := .int _ _) rfl) ?_
            refine st_val (ro_addN rfl rfl (by omega)) ?_
            refine st_val (ro_move (v := .slice _ _ _) rfl) ?_
            refine st_val (ro_cap SesSlices_l22 rfl) ?_
            refine st_val (ro_gtr rfl rfl) ?_
            refine st_nil ?_
            refine nx_then ?_
            refine cd_cond rfl (fun Q4 => ?_) (fun Q4 => ?_)
            · (try first | replace Q4 := bn_t Q4 | replace Q4 := bn_f Q4)
              (try first | replace Q4 := bx_t Q4 | replace Q4 := bx_f Q4 | replace Q4 := be_t Q4 | replace Q4 := be_f Q4 | replace Q4 := of_decide_eq_true Q4 | replace Q4 := of_decide_eq_false Q4)
              first
               | (exfalso; first | omega | contradiction | (cases Q4; done))
               | skip
                 refine cd_seq ?_
                 refine cd_region ?_
                 refine st_val (ro_move (v := .slice _ _ _) rfl) ?_
                 refine st_val (ro_move (v := .int _ _) rfl) ?_
                 refine st_val (ro_eq (v' := .slice (some ⟨g, 0, none⟩) i c) (ro_sliceO (l := 0) (h := i) SesSlices_e22 rfl (.inl ⟨rfl, rfl⟩) (.inr ⟨_, _, _, rfl, rfl, rfl⟩) (by omega) (by omega)) (by rw [restOf_head, Nat.sub_zero, Nat.sub_zero])) ?_
                 refine st_val (ro_move (v := .int _ _) rfl) ?_
                 refine st_val (ro_move (v := .int _ _) rfl) ?_
                 refine st_val (ro_addN rfl rfl (by omega)) ?_
                 refine st_val (ro_move (v := .int _ _) rfl) ?_
                 refine st_val (ro_subN rfl rfl (by omega)) ?_
                 refine st_appendZ (kn := .i64) (olds := xs.take (i * 6)) SesSlices_q22 (by kernel_rfl) rfl (by decide) rfl rfl (by rw [List.length_take, hxl]; omega) (fun _ => ⟨g, 0, rfl, row_take hbk hct⟩) (by omega) (by omega) (by unfold maxLen; omega) (by omega) (by omega) ?_
                 intro g2 c2 w5 cur2 hg2 E40 hb2 hc2 hc2m hcl2 hct2
                 obtain hc2 : n + m ≤ c2 := by omega
                 replace hbz := grown_trans hbz (From.grown E40 _)
                 replace hbk := hbk.from_ E40
                 have hgg : g ≠ g2 := by have := ho.lt g rfl; omega
                 have hvr2 := rangeF E40 hvr
                 have hbg2 : b ≠ g2 := by have := hvb.lt; omega
                 refine st_val (ro_assign (v := .slice _ _ _) rfl) ?_
                 refine st_nil ?_
                 refine nx_then ?_
                 refine cd_seq ?_
                 refine cd_region ?_
                 refine st_val (ro_move (v := .slice _ _ _) rfl) ?_
                 refine st_val (ro_move (v := .int _ _) rfl) ?_
                 refine st_val (ro_sliceO (l := i) (h := i + (n + m - i)) SesSlices_e22 rfl (.inr ⟨_, _, _, rfl, rfl, rfl⟩) (.inl ⟨rfl, rfl⟩) (by omega) (by omega)) ?_
                 refine st_val (ro_move (v := .slice _ _ _) rfl) ?_
                 refine st_copyB (news := vs) (g := g2) (o := i * 6) SesSlices_e22 rfl rfl (by rw [hvl]; congr 1; omega) (fun h => by rw [restOf_pos (by omega), Nat.zero_add]) (fun h => ⟨b, vo, rfl, hvr2⟩) hb2 (by rw [hvl, hcl2]; omega) h1v ?_
                 intro w6 O45 P45
                 replace hbz := grown_new hbz O45 (by have := hbk.lt; have := ho.lt g rfl; omega)
                 replace hbk := hbk.only O45 hgg
                 refine st_nil ?_
                 refine nx_then ?_
                 refine cd_seq ?_
                 apply cd_drawnD 8 [(46, eqp _), (47, eqp _), (48, eqp _), (49, eqp _), (50, eqp _), (51, eqp _), (52, eqp _), (53, eqp _)] (by repeat first | exact pq_body | refine pq_then ?_ | refine pq_block ?_) (by kernel_rfl) (by kernel_rfl) ⟨eqp_mono _, eqp_mono _, eqp_mono _, eqp_mono _, eqp_mono _, eqp_mono _, eqp_mono _, eqp_mono _, trivial⟩
                 case hop =>
                  refine ⟨?_, ?_⟩
                  · rintro - w8 D8
                    show OpOK _ _ _ _ _ _ _
                    exact ok_pure (ro_move (v := .slice _ _ _) rfl) rfl
                  refine ⟨?_, ?_⟩
                  · rintro - w9 D9
                    show OpOK _ _ _ _ _ _ _
                    exact ok_pure (ro_move (v := .int _ _) rfl) rfl
                  refine ⟨?_, ?_⟩
                  · rintro - w10 D10
                    show OpOK _ _ _ _ _ _ _
                    exact ok_pure (ro_move (v := .int _ _) rfl) rfl
                  refine ⟨?_, ?_⟩
                  · rintro - w11 D11
                    rintro _ rfl _ rfl
                    show OpOK _ _ _ _ _ _ _
                    exact ok_pure (ro_addN rfl rfl (by omega)) rfl
                  refine ⟨?_, ?_⟩
                  · rintro - w12 D12
                    rintro _ rfl _ rfl
                    show OpOK _ _ _ _ _ _ _
                    exact ok_pure (ro_sliceO (l := i + m) (h := i + (n + m - i)) SesSlices_e22 rfl (.inr ⟨_, _, _, rfl, rfl, rfl⟩) (.inl ⟨rfl, rfl⟩) (by omega) (by omega)) rfl
                  refine ⟨?_, ?_⟩
                  · rintro - w13 D13
                    show OpOK _ _ _ _ _ _ _
                    exact ok_pure (ro_move (v := .slice _ _ _) rfl) rfl
                  refine ⟨?_, ?_⟩
                  · rintro - w14 D14
                    show OpOK _ _ _ _ _ _ _
                    exact ok_pure (ro_move (v := .int _ _) rfl) rfl
                  refine ⟨?_, ?_⟩
                  · rintro - w15 D15
                    rintro _ rfl _ rfl
                    show OpOK _ _ _ _ _ _ _
                    exact ok_pure (ro_sliceO (l := i) (h := n) SesSlices_e22 rfl (.inr ⟨_, _, _, rfl, rfl, rfl⟩) (.inl ⟨rfl, rfl⟩) (by omega) (by omega)) rfl
                  exact trivial
                 case hend =>
                  intro w16 D16
                  rintro _ rfl _ rfl _ rfl _ rfl _ rfl _ rfl _ rfl _ rfl
                  show St _ _ _ _ _ _ _
                  replace hbz := grown_trans hbz (From.grown D16 _)
                  replace hbk := hbk.from_ D16
                  replace P45 := P45.from_ D16
                  refine st_copyB (news := xs.drop (i * 6)) (g := g2) (o := (i + m) * 6) SesSlices_e22 rfl rfl (by rw [hdl]; congr 1; omega) (fun h => by rw [restOf_pos (by rw [hdl] at h; omega), Nat.zero_add]) (fun h => ⟨g, i * 6, by rw [restOf_pos (by omega), Nat.zero_add], row_drop hbk hct⟩) P45 (by rw [hdl, over_len _ _ _ (by rw [hvl, hcl2]; omega), hcl2]; omega) (fun v hv => h1 v (List.mem_of_mem_drop hv)) ?_
                  intro w17 O54 P54
                  replace hbz := grown_new hbz O54 (by have := ho.lt g rfl; omega)
                  refine st_nil ?_
                  refine nx_then ?_
                  refine cd_seq ?_
                  refine cd_region ?_
                  refine st_val (ro_move (v := .slice _ _ _) rfl) ?_
                  refine st_val (ro_assign (v := .slice _ _ _) rfl) ?_
                  refine st_nil ?_
                  refine nx_then ?_
                  refine cd_ret ?_
                  refine rt_then ?_
                  refine res1 (v := .slice _ _ _) rfl rfl ?_
                  have hnm : i + (n + m - i) = n + m := by omega
                  rw [hnm]
                  have hbg : base ≤ g2 := by omega
                  exact ⟨⟨_, _, rfl, own_of hbg P54 hc2 hc2m (by rw [over_len _ _ _ (by rw [hdl, over_len _ _ _ (by rw [hvl, hcl2]; omega), hcl2]; omega), over_len _ _ _ (by rw [hvl, hcl2]; omega), hcl2]) (ins_take hi hc2 hcl2 hxl hct2 hvl).2⟩, hbz⟩
            · (try first | replace Q4 := bn_t Q4 | replace Q4 := bn_f Q4)
              (try first | replace Q4 := bx_t Q4 | replace Q4 := bx_f Q4 | replace Q4 := be_t Q4 | replace Q4 := be_f Q4 | replace Q4 := of_decide_eq_true Q4 | replace Q4 := of_decide_eq_false Q4)
              first
               | (exfalso; first | omega | contradiction | (cases Q4; done))
               | skip
                 refine cd_skip ?_
                 refine nx_then ?_
                 refine cd_seq ?_
                 refine cd_region ?_
                 refine st_val (ro_move (v := .slice _ _ _) rfl) ?_
                 refine st_val (ro_move (v := .int _ _) rfl) ?_
                 refine st_val (ro_move (v := .int _ _) rfl) ?_
                 refine st_val (ro_addN rfl rfl (by omega)) ?_
                 refine st_val (ro_eq (v' := .slice (some ⟨g, 0, none⟩) (n + m) c) (ro_sliceO (l := 0) (h := n + m) SesSlices_e22 rfl (.inl ⟨rfl, rfl⟩) (.inr ⟨_, _, _, rfl, rfl, rfl⟩) (by omega) (by omega)) (by rw [restOf_head, Nat.sub_zero, Nat.sub_zero])) ?_
                 refine st_val (ro_assign (v := .slice _ _ _) rfl) ?_
                 refine st_nil ?_
                 refine nx_then ?_
                 refine cd_seq ?_
                 refine cd_seq ?_
                 refine cd_region ?_
                 refine st_val (ro_move (v := .slice _ _ _) rfl) ?_
                 refine st_val (ro_move (v := .slice _ _ _) rfl) ?_
                 refine st_val (ro_move (v := .int _ _) rfl) ?_
                 refine st_val (ro_move (v := .int _ _) rfl) ?_
                 refine st_val (ro_addN rfl rfl (by omega)) ?_
                 refine st_val (ro_sliceO (l := i + m) (h := n + m) SesSlices_e22 rfl (.inr ⟨_, _, _, rfl, rfl, rfl⟩) (.inl ⟨rfl, rfl⟩) (by omega) (by omega)) ?_
                 refine st_val (ro_overlaps (tS := 22) (tR := 4) (g1 := b) (o1 := vo) (g2 := g) (o2 := (i + m) * 6) Try.func53 (by kernel_rfl) (by kernel_rfl) (by kernel_rfl) (by kernel_rfl) SesSlices_e22 rfl (by show Value.slice _ _ _ = _; rw [restOf_pos (by omega), Nat.zero_add]) hgb.symm hvb hbk (by simp only [List.size_toArray, hcl]; omega)) ?_
                 refine st_val (ro_bt (ro_not rfl) rfl) ?_
                 refine st_nil ?_
                 refine nx_then ?_
                 refine cd_condT rfl ?_
                 refine cd_seq ?_
                 apply cd_drawnD 8 [(69, eqp _), (70, eqp _), (71, eqp _), (72, eqp _), (73, eqp _), (74, eqp _), (75, eqp _), (76, eqp _)] (by repeat first | exact pq_body | refine pq_then ?_ | refine pq_block ?_) (by kernel_rfl) (by kernel_rfl) ⟨eqp_mono _, eqp_mono _, eqp_mono _, eqp_mono _, eqp_mono _, eqp_mono _, eqp_mono _, eqp_mono _, trivial⟩
                 case hop =>
                  refine ⟨?_, ?_⟩
                  · rintro - w19 D19
                    show OpOK _ _ _ _ _ _ _
                    exact ok_pure (ro_move (v := .slice _ _ _) rfl) rfl
                  refine ⟨?_, ?_⟩
                  · rintro - w20 D20
                    show OpOK _ _ _ _ _ _ _
                    exact ok_pure (ro_move (v := .int _ _) rfl) rfl
                  refine ⟨?_, ?_⟩
                  · rintro - w21 D21
                    show OpOK _ _ _ _ _ _ _
                    exact ok_pure (ro_move (v := .int _ _) rfl) rfl
                  refine ⟨?_, ?_⟩
                  · rintro - w22 D22
                    rintro _ rfl _ rfl
                    show OpOK _ _ _ _ _ _ _
                    exact ok_pure (ro_addN rfl rfl (by omega)) rfl
                  refine ⟨?_, ?_⟩
                  · rintro - w23 D23
                    rintro _ rfl _ rfl
                    show OpOK _ _ _ _ _ _ _
                    exact ok_pure (ro_sliceO (l := i + m) (h := n + m) SesSlices_e22 rfl (.inr ⟨_, _, _, rfl, rfl, rfl⟩) (.inl ⟨rfl, rfl⟩) (by omega) (by omega)) rfl
                  refine ⟨?_, ?_⟩
                  · rintro - w24 D24
                    show OpOK _ _ _ _ _ _ _
                    exact ok_pure (ro_move (v := .slice _ _ _) rfl) rfl
                  refine ⟨?_, ?_⟩
                  · rintro - w25 D25
                    show OpOK _ _ _ _ _ _ _
                    exact ok_pure (ro_move (v := .int _ _) rfl) rfl
                  refine ⟨?_, ?_⟩
                  · rintro - w26 D26
                    rintro _ rfl _ rfl
                    show OpOK _ _ _ _ _ _ _
                    exact ok_pure (ro_sliceO (l := i) (h := n + m) SesSlices_e22 rfl (.inr ⟨_, _, _, rfl, rfl, rfl⟩) (.inl ⟨rfl, rfl⟩) (by omega) (by omega)) rfl
                  exact trivial
                 case hend =>
                  intro w27 D27
                  rintro _ rfl _ rfl _ rfl _ rfl _ rfl _ rfl _ rfl _ rfl
                  show St _ _ _ _ _ _ _
                  replace hbz := grown_trans hbz (From.grown D27 _)
                  replace hbk := hbk.from_ D27
                  have hvr2 := rangeF D27 hvr
                  refine st_copyB (news := xs.drop (i * 6)) (g := g) (o := (i + m) * 6) SesSlices_e22 rfl rfl (by rw [hdl]; congr 1; omega) (fun h => by rw [restOf_pos (by rw [hdl] at h; omega), Nat.zero_add]) (fun h => ⟨g, i * 6, by rw [restOf_pos (by omega), Nat.zero_add], row_drop hbk hct⟩) hbk (by rw [hdl, hcl]; omega) (fun v hv => h1 v (List.mem_of_mem_drop hv)) ?_
                  intro w28 O77 P77
                  replace hbz := grown_trans hbz (Only.grown O77)
                  refine st_nil ?_
                  refine nx_then ?_
                  refine cd_seq ?_
                  refine cd_region ?_
                  refine st_val (ro_move (v := .slice _ _ _) rfl) ?_
                  refine st_val (ro_move (v := .int _ _) rfl) ?_
                  refine st_val (ro_sliceO (l := i) (h := n + m) SesSlices_e22 rfl (.inr ⟨_, _, _, rfl, rfl, rfl⟩) (.inl ⟨rfl, rfl⟩) (by omega) (by omega)) ?_
                  refine st_val (ro_move (v := .slice _ _ _) rfl) ?_
                  refine st_copyB (news := vs) (g := g) (o := i * 6) SesSlices_e22 rfl rfl (by rw [hvl]; congr 1; omega) (fun h => by rw [restOf_pos (by omega), Nat.zero_add]) (fun h => ⟨b, vo, rfl, fun j v hv => (O77.cell (Ne.symm hgb)).trans (hvr2 j v hv)⟩) P77 (by rw [hvl, over_len _ _ _ (by rw [hdl, hcl]; omega), hcl]; omega) h1v ?_
                  intro w29 O82 P82
                  replace hbz := grown_trans hbz (Only.grown O82)
                  refine st_nil ?_
                  refine nx_then ?_
                  refine cd_seq ?_
                  refine cd_region ?_
                  refine st_val (ro_move (v := .slice _ _ _) rfl) ?_
                  refine st_val (ro_assign (v := .slice _ _ _) rfl) ?_
                  refine st_nil ?_
                  refine nx_then ?_
                  refine cd_ret ?_
                  refine rt_then ?_
                  refine res1 (v := .slice _ _ _) rfl rfl ?_
                  have hct3 : cur.take (i * 6) = xs.take (i * 6) := by rw [← hct, List.take_take, Nat.min_eq_left (by omega)]
                  exact ⟨⟨_, _, rfl, own_of hg P82 (by omega) hcm (by rw [over_len _ _ _ (by rw [hvl, over_len _ _ _ (by rw [hdl, hcl]; omega), hcl]; omega), over_len _ _ _ (by rw [hdl, hcl]; omega), hcl]) (ins_take hi (by omega) hcl hxl hct3 hvl).1⟩, hbz⟩
end Go.Proofs.Ytbikemhokgcboaa
