/- session: Begin; the reference: Begin; EqReply. -/
import Derived.Test.YtbikemhokgcboaaSesFind
namespace Go.Proofs.Ytbikemhokgcboaa
open Go.RowKit
open Go.ChangeShapes Go.WideShapes Go.ChangeAt
theorem SesBegin_l29 : (elemQ Try.prog 29).isSome = true := by kernel_rfl
theorem SesBegin_e29 : elemQ Try.prog 29 = some (80, 2) := by kernel_rfl
theorem SesBegin_g80 : aggQ Try.prog 80 = some true := by kernel_rfl
theorem SesBegin_z80 : sizeQ Try.prog 80 = some 2 := by kernel_rfl
theorem SesBegin_f31_0 : fieldQ Try.prog 31 0 = some 0 := by kernel_rfl
theorem SesBegin_g28 : aggQ Try.prog 28 = some false := by kernel_rfl
theorem SesBegin_f31_1 : fieldQ Try.prog 31 1 = some 1 := by kernel_rfl
theorem SesBegin_g3 : aggQ Try.prog 3 = some false := by kernel_rfl
theorem SesBegin_f31_2 : fieldQ Try.prog 31 2 = some 2 := by kernel_rfl
theorem SesBegin_g29 : aggQ Try.prog 29 = some false := by kernel_rfl
theorem SesBegin_k39 : callable Try.prog 39 = true := by kernel_rfl
theorem SesBegin_o31 : zeroQ Try.prog 31 = some (.agg #[.int .i64 0, .int .i64 0, .slice none 0 0]) := by kernel_rfl
theorem SesBegin_k13 : callable Try.prog 13 = true := by kernel_rfl
theorem SesBegin_q55 : litQ Try.prog 55 = some (3, 1, 8, (.int .i64 0)) := by kernel_rfl
theorem SesBegin_k37 : callable Try.prog 37 = true := by kernel_rfl
theorem SesBegin_b31_ : Try.prog.built 31 [] = some #[.int .i64 0, .int .i64 0, .slice none 0 0] := by kernel_rfl
theorem SesBegin_z31 : sizeQ Try.prog 31 = some 3 := by kernel_rfl
theorem SesBegin_g31 : aggQ Try.prog 31 = some true := by kernel_rfl
theorem SesBegin_k38 : callable Try.prog 38 = true := by kernel_rfl
theorem SesBegin_e22 : elemQ Try.prog 22 = some (60, 6) := by kernel_rfl
theorem SesBegin_f60_1 : fieldQ Try.prog 60 1 = some 1 := by kernel_rfl
theorem SesBegin_f60_2 : fieldQ Try.prog 60 2 = some 2 := by kernel_rfl
theorem SesBegin_z29 : sizeQ Try.prog 29 = some 1 := by kernel_rfl
theorem SesBegin_k32 : callable Try.prog 32 = true := by kernel_rfl
theorem SesBegin_k36 : callable Try.prog 36 = true := by kernel_rfl
def rV (e n : Int) (H : Option Addr) (hl hc : Nat) (b : Bool) (r : Int) : Value := .tuple #[.agg #[.int .i64 e, .int .i64 n, .slice H hl hc], .bool b, .int .i64 r]
/-- what a request is told; T: the reply as it is told -/
def BegGot (T : Ses → Value) (L : List Ses) (cl sq : Int) (v : Value) : Prop :=
  (inE 1 sq = false ∧ v = rV 0 0 none 0 0 false 1) ∨ (inE 1 sq = true ∧ (∀ j (h : j < L.length), L[j].c ≠ cl) ∧ v = rV 0 0 none 0 0 false 9) ∨
  (∃ (i : Nat) (h : i < L.length), inE 1 sq = true ∧ L[i].c = cl ∧ ((sq < L[i].s ∧ v = rV 0 0 none 0 0 false 10) ∨ (L[i].s < sq ∧ v = rV 0 0 none 0 0 false 0) ∨ (sq = L[i].s ∧ v = T L[i])))
def tellS (x : Ses) : Value := rV x.e x.n none 0 0 true 0
def tellR (x : Ses) : Value := rV x.e x.n x.H x.hl x.hc true 0
theorem vS_hl {x : Ses} (h : vS x = true) : x.hl = 0 := by
  rw [vS_eq] at h
  simp only [Bool.and_eq_true] at h
  have := h.2
  unfold vR at this
  exact (of_decide_eq_true this).2.2
theorem both_got {L : List Ses} (hv : ValidL L) {cl sq : Int} {v v' : Value} (h : BegGot tellS L cl sq v) (h' : BegGot tellR L cl sq v') :
    ∃ e n H hc b r, v = rV e n none 0 0 b r ∧ v' = rV e n H 0 hc b r := by
  rcases h with ⟨a, rfl⟩ | ⟨a, b, rfl⟩ | ⟨i, hi, a, b, d⟩
  · rcases h' with ⟨_, rfl⟩ | ⟨a', _, _⟩ | ⟨_, _, a', _⟩
    · exact ⟨0, 0, none, 0, false, 1, rfl, rfl⟩
    · rw [a] at a'; cases a'
    · rw [a] at a'; cases a'
  · rcases h' with ⟨a', _⟩ | ⟨_, _, rfl⟩ | ⟨j, hj, _, b', _⟩
    · rw [a] at a'; cases a'
    · exact ⟨0, 0, none, 0, false, 9, rfl, rfl⟩
    · exact absurd b' (b j hj)
  · rcases h' with ⟨a', _⟩ | ⟨_, b', _⟩ | ⟨j, hj, _, b', d'⟩
    · rw [a] at a'; cases a'
    · exact absurd b (b' i hi)
    · have hij : i = j := by
        rcases Nat.lt_trichotomy i j with x | x | x
        · have := valid_rise hv i j hi hj x; omega
        · exact x
        · have := valid_rise hv j i hj hi x; omega
      subst hij
      rcases d with ⟨d, rfl⟩ | ⟨d, rfl⟩ | ⟨d, rfl⟩ <;> rcases d' with ⟨d', rfl⟩ | ⟨d', rfl⟩ | ⟨d', rfl⟩ <;> first | omega | skip
      · exact ⟨0, 0, none, 0, false, 10, rfl, rfl⟩
      · exact ⟨0, 0, none, 0, false, 0, rfl, rfl⟩
      · exact ⟨L[i].e, L[i].n, L[i].H, L[i].hc, true, 0, rfl, by unfold tellR; rw [vS_hl (hv.2 i hi).1]⟩
set_option maxRecDepth 100000 in
set_option maxHeartbeats 400000 in
theorem eqHits0 (A B : Option Addr) (ca cb : Nat) (w : World) :
    Rt Try.prog 39 [.slice A 0 ca, .slice B 0 cb] w (fun v w' => v = .bool true ∧ w = w') := by
  refine enter (n := 26) Try.func39 rfl rfl rfl ?_
  refine cd_seq ?_
  refine cd_region ?_
  refine st_val (ro_assign (v := .bool _) rfl) ?_
  refine st_nil ?_
  refine nx_then ?_
  refine cd_seq ?_
  refine cd_seq ?_
  refine cd_region ?_
  refine st_val (ro_move (v := .slice _ _ _) rfl) ?_
  refine st_val (ro_len SesBegin_l29 rfl) ?_
  refine st_val (ro_move (v := .slice _ _ _) rfl) ?_
  refine st_val (ro_len SesBegin_l29 rfl) ?_
  refine st_val (ro_neq rfl rfl) ?_
  refine st_nil ?_
  refine nx_then ?_
  refine cd_cond rfl (fun Q1 => ?_) (fun Q1 => ?_)
  · (try first | replace Q1 := bn_t Q1 | replace Q1 := bn_f Q1)
    (try first | replace Q1 := bx_t Q1 | replace Q1 := bx_f Q1 | replace Q1 := be_t Q1 | replace Q1 := be_f Q1 | replace Q1 := of_decide_eq_true Q1 | replace Q1 := of_decide_eq_false Q1)
    first
     | (exfalso; first | omega | contradiction | (cases Q1; done))
     | skip
       refine cd_seq ?_
       refine cd_region ?_
       refine st_val (ro_assign (v := .bool _) rfl) ?_
       refine st_nil ?_
       refine nx_then ?_
       refine cd_ret ?_
       refine rt_then ?_
       refine res1 (v := .bool _) rfl rfl ?_
       exact ⟨rfl, rfl⟩
  · (try first | replace Q1 := bn_t Q1 | replace Q1 := bn_f Q1)
    (try first | replace Q1 := bx_t Q1 | replace Q1 := bx_f Q1 | replace Q1 := be_t Q1 | replace Q1 := be_f Q1 | replace Q1 := of_decide_eq_true Q1 | replace Q1 := of_decide_eq_false Q1)
    first
     | (exfalso; first | omega | contradiction | (cases Q1; done))
     | skip
       refine cd_skip ?_
       refine nx_then ?_
       refine cd_seq ?_
       refine cd_seq ?_
       refine cd_region ?_
       refine st_val (ro_assign (v := .int _ _) rfl) ?_
       refine st_nil ?_
       refine nx_then ?_
       refine cd_block ?_
       refine cd_loop (G := Unit) [4, 11, 12, 13, 14, 15, 16, 17, 18, 19, 20, 21, 22, 23, 24, 25] (fun _ => [(5, .int .i64 0)]) (fun _ w' => w = w') (fun _ => 0) (()) ⟨rfl, trivial⟩ ?_ ?_
       · rfl
       rintro - ρ2 w2 rfl
       refine cd_seq ?_
       refine cd_seq ?_
       refine cd_region ?_
       refine st_val (ro_move (v := .int _ _) rfl) ?_
       refine st_val (ro_move (v := .slice _ _ _) rfl) ?_
       refine st_val (ro_len SesBegin_l29 rfl) ?_
       refine st_val (ro_lss rfl rfl) ?_
       refine st_nil ?_
       refine nx_then ?_
       refine cd_cond rfl (fun Q3 => ?_) (fun Q3 => ?_)
       · (try first | replace Q3 := bn_t Q3 | replace Q3 := bn_f Q3)
         (try first | replace Q3 := bx_t Q3 | replace Q3 := bx_f Q3 | replace Q3 := be_t Q3 | replace Q3 := be_f Q3 | replace Q3 := of_decide_eq_true Q3 | replace Q3 := of_decide_eq_false Q3)
         first
          | (exfalso; first | omega | contradiction | (cases Q3; done))
          | skip
            refine cd_skip ?_
            refine nx_then ?_
            refine cd_seq ?_
            refine cd_block ?_
            refine cd_seq ?_
            apply cd_drawn 9 [(17, eqp _), (18, eqp _), (19, eqp _), (20, eqp _), (21, eqp _), (22, eqp _), (23, eqp _), (24, eqp _), (25, eqp _)] (by kernel_rfl) (by kernel_rfl) ⟨eqp_mono _, eqp_mono _, eqp_mono _, eqp_mono _, eqp_mono _, eqp_mono _, eqp_mono _, eqp_mono _, eqp_mono _, trivial⟩
            case hop =>
             refine ⟨?_, ?_⟩
             · intro w5 D5
               show OpOK _ _ _ _ _ _ _
               exact ok_pure (ro_move (v := .slice _ _ _) rfl) rfl
             refine ⟨?_, ?_⟩
             · intro w6 D6
               show OpOK _ _ _ _ _ _ _
               exact ok_pure (ro_move (v := .int _ _) rfl) rfl
             refine ⟨?_, ?_⟩
             · intro w7 D7
               rintro _ rfl _ rfl
               show OpOK _ _ _ _ _ _ _
               exact ok_pure (ro_indexAddr SesBegin_e29 rfl rfl (by omega)) rfl
             refine ⟨?_, ?_⟩
             · intro w8 D8
               rintro _ rfl
               show OpOK _ _ _ _ _ _ _
               exact ok_pure (ro_loadA (cs := [_, _]) SesBegin_g80 SesBegin_z80 rfl (by assumption)) rfl
             refine ⟨?_, ?_⟩
             · intro w9 D9
               show OpOK _ _ _ _ _ _ _
               exact ok_pure (ro_move (v := .slice _ _ _) rfl) rfl
             refine ⟨?_, ?_⟩
             · intro w10 D10
               show OpOK _ _ _ _ _ _ _
               exact ok_pure (ro_move (v := .int _ _) rfl) rfl
             refine ⟨?_, ?_⟩
             · intro w11 D11
               rintro _ rfl _ rfl
               show OpOK _ _ _ _ _ _ _
               exact ok_pure (ro_indexAddr SesBegin_e29 rfl rfl (by omega)) rfl
             refine ⟨?_, ?_⟩
             · intro w12 D12
               rintro _ rfl
               show OpOK _ _ _ _ _ _ _
               exact ok_pure (ro_loadA (cs := [_, _]) SesBegin_g80 SesBegin_z80 rfl (by assumption)) rfl
             refine ⟨?_, ?_⟩
             · intro w13 D13
               rintro _ rfl _ rfl
               show OpOK _ _ _ _ _ _ _
               skip
             exact trivial
            case hend =>
             intro w14 D14
             rintro _ rfl _ rfl _ rfl _ rfl _ rfl _ rfl _ rfl _ rfl _ rfl
             show St _ _ _ _ _ _ _
             refine st_nil ?_
             refine nx_then ?_
             refine cd_cond rfl (fun Q15 => ?_) (fun Q15 => ?_)
             · (try first | replace Q15 := bn_t Q15 | replace Q15 := bn_f Q15)
               (try first | replace Q15 := bx_t Q15 | replace Q15 := bx_f Q15 | replace Q15 := be_t Q15 | replace Q15 := be_f Q15 | replace Q15 := of_decide_eq_true Q15 | replace Q15 := of_decide_eq_false Q15)
               first
                | (exfalso; first | omega | contradiction | (cases Q15; done))
                | skip
                  refine cd_seq ?_
                  refine cd_region ?_
                  refine st_val (ro_assign (v := .bool _) rfl) ?_
                  refine st_nil ?_
                  refine nx_then ?_
                  refine cd_ret ?_
                  refine rt_block ?_
                  refine rt_then ?_
                  refine rt_then ?_
                  refine rt_block ?_
                  refine rt_then ?_
                  refine res1 (v := .bool _) rfl rfl ?_
                  exact ⟨rfl, rfl⟩
             · (try first | replace Q15 := bn_t Q15 | replace Q15 := bn_f Q15)
               (try first | replace Q15 := bx_t Q15 | replace Q15 := bx_f Q15 | replace Q15 := be_t Q15 | replace Q15 := be_f Q15 | replace Q15 := of_decide_eq_true Q15 | replace Q15 := of_decide_eq_false Q15)
               first
                | (exfalso; first | omega | contradiction | (cases Q15; done))
                | skip
                  refine cd_skip ?_
                  refine nx_block ?_
                  refine nx_then ?_
                  refine cd_region ?_
                  refine st_val (ro_move (v := .int _ _) rfl) ?_
                  refine st_val (ro_add64 rfl rfl (by omega)) ?_
                  refine st_val (ro_assign (v := .int _ _) rfl) ?_
                  refine st_nil ?_
                  refine nx_cut (()) ⟨(by first | rfl | (refine int_eq ?_; omega)), trivial⟩ (by (iterate 33 refine agr_cons rfl ?_); exact agr_rfl) ⟨?_, ?_⟩
                  · rfl
                  · omega
       · (try first | replace Q3 := bn_t Q3 | replace Q3 := bn_f Q3)
         (try first | replace Q3 := bx_t Q3 | replace Q3 := bx_f Q3 | replace Q3 := be_t Q3 | replace Q3 := be_f Q3 | replace Q3 := of_decide_eq_true Q3 | replace Q3 := of_decide_eq_false Q3)
         first
          | (exfalso; first | omega | contradiction | (cases Q3; done))
          | skip
            refine cd_exit ?_
            refine ex_then ?_
            refine ex_then ?_
            refine ex_block ?_
            refine nx_then ?_
            refine cd_seq ?_
            refine cd_region ?_
            refine st_val (ro_assign (v := .bool _) rfl) ?_
            refine st_nil ?_
            refine nx_then ?_
            refine cd_ret ?_
            refine res1 (v := .bool _) rfl rfl ?_
            exact ⟨rfl, rfl⟩
set_option maxRecDepth 100000 in
set_option maxHeartbeats 400000 in
theorem eqReply0 (e n : Int) (A B : Option Addr) (ca cb : Nat) (w : World) :
    Rt Try.prog 17 [.agg #[.int .i64 e, .int .i64 n, .slice A 0 ca], .agg #[.int .i64 e, .int .i64 n, .slice B 0 cb]] w (fun v w' => v = .bool true ∧ From w w') := by
  refine enter (n := 24) Try.func17 rfl rfl rfl ?_
  refine cd_seq ?_
  refine cd_region ?_
  refine st_box (v := .agg _) rfl ?_
  intro b2 w1 E2 hb2 hk2
  refine st_box (v := .agg _) rfl ?_
  intro b3 w2 E3 hb3 hk3
  replace hk2 := hk2.from_ (From.rfl_.next E3)
  refine st_val (ro_assign (v := .bool _) rfl) ?_
  refine st_nil ?_
  refine nx_then ?_
  refine cd_seq ?_
  refine cd_region ?_
  refine st_val (ro_fieldAddr SesBegin_f31_0 rfl) ?_
  refine st_val (ro_load SesBegin_g28 rfl (by exact hk2.rd 0 rfl)) ?_
  refine st_val (ro_fieldAddr SesBegin_f31_0 rfl) ?_
  refine st_val (ro_load SesBegin_g28 rfl (by exact hk3.rd 0 rfl)) ?_
  refine st_val (ro_bt (ro_eql rfl rfl) (beq_self_eq_true _)) ?_
  refine st_val (ro_move (v := .bool _) rfl) ?_
  refine st_unguard rfl ?_
  refine st_val (ro_fieldAddr SesBegin_f31_1 rfl) ?_
  refine st_unguard rfl ?_
  refine st_val (ro_load SesBegin_g3 rfl (by exact hk2.rd 1 rfl)) ?_
  refine st_unguard rfl ?_
  refine st_val (ro_fieldAddr SesBegin_f31_1 rfl) ?_
  refine st_unguard rfl ?_
  refine st_val (ro_load SesBegin_g3 rfl (by exact hk3.rd 1 rfl)) ?_
  refine st_unguard rfl ?_
  refine st_val (ro_bt (ro_eql rfl rfl) (beq_self_eq_true _)) ?_
  refine st_val (ro_pickT (v := .bool _) rfl rfl) ?_
  refine st_val (ro_move (v := .bool _) rfl) ?_
  refine st_unguard rfl ?_
  refine st_val (ro_fieldAddr SesBegin_f31_2 rfl) ?_
  refine st_unguard rfl ?_
  refine st_val (ro_load SesBegin_g29 rfl (by exact hk2.rd 2 rfl)) ?_
  refine st_unguard rfl ?_
  refine st_val (ro_fieldAddr SesBegin_f31_2 rfl) ?_
  refine st_unguard rfl ?_
  refine st_val (ro_load SesBegin_g29 rfl (by exact hk3.rd 2 rfl)) ?_
  refine st_unguard rfl ?_
  refine st_call SesBegin_k39 (eqHits0 A B ca cb _) ?_
  rintro v22 w3 ⟨rfl, rfl⟩
  refine st_val (ro_pickT (v := .bool _) rfl rfl) ?_
  refine st_val (ro_assign (v := .bool _) rfl) ?_
  refine st_nil ?_
  refine nx_then ?_
  refine cd_ret ?_
  refine res1 (v := .bool _) rfl rfl ?_
  exact ⟨rfl, ((From.rfl_.next E2).next E3)⟩
set_option maxRecDepth 100000 in
set_option maxHeartbeats 2000000 in
theorem begin_rt (A : Option Addr) (c : Nat) (L : List Ses) (w : World) (hr : RowS w A L) (hl : L.length ≤ 10000000000000) (cl sq : Int) (hv : ValidL L) :
    Rt Try.prog 16 [.slice A L.length c, .int .i64 cl, .int .i64 sq] w (fun v w' => BegGot tellS L cl sq v ∧ From w w') := by
  refine enter (n := 53) Try.func16 rfl rfl rfl ?_
  refine cd_seq ?_
  refine cd_region ?_
  refine st_alloc SesBegin_o31 ?_
  intro b6 w1 E6 hb6 hk6
  have hg6 : w.heap.size ≤ b6 := Nat.le_of_eq hb6.symm
  refine st_val (ro_assign (v := .bool _) rfl) ?_
  refine st_val (ro_assign (v := .int _ _) rfl) ?_
  refine st_nil ?_
  refine nx_then ?_
  refine cd_seq ?_
  refine cd_seq ?_
  refine cd_region ?_
  refine st_val (ro_move (v := .slice _ _ _) rfl) ?_
  refine st_call SesBegin_k13 (check_ok A c L _ (hr.from_ (From.rfl_.next E6)) hl hv) ?_
  rintro v12 w2 ⟨rfl, E12⟩
  refine st_val (ro_bf (ro_neq rfl rfl) rfl) ?_
  refine st_val (ro_move (v := .bool _) rfl) ?_
  refine st_unguard rfl ?_
  refine st_val (ro_move (v := .int _ _) rfl) ?_
  refine st_unguard rfl ?_
  refine st_lit1 (v := .int _ _) SesBegin_q55 rfl rfl rfl ?_
  intro b16 w3 E16 hb16 hk16
  refine st_unguard rfl ?_
  refine st_call SesBegin_k37 (within1 1 sq b16 _ hk16) ?_
  rintro v17 w4 ⟨rfl, rfl⟩
  refine st_unguard rfl ?_
  refine st_val (ro_not rfl) ?_
  refine st_val (ro_pickF (v := .bool _) rfl rfl) ?_
  refine st_nil ?_
  refine nx_then ?_
  refine cd_cond rfl (fun Q5 => ?_) (fun Q5 => ?_)
  · (try first | replace Q5 := bn_t Q5 | replace Q5 := bn_f Q5)
    (try first | replace Q5 := bx_t Q5 | replace Q5 := bx_f Q5 | replace Q5 := be_t Q5 | replace Q5 := be_f Q5 | replace Q5 := of_decide_eq_true Q5 | replace Q5 := of_decide_eq_false Q5)
    
    first
     | (exfalso; first | omega | contradiction | (cases Q5; done))
     | skip
       refine cd_seq ?_
       refine cd_region ?_
       refine st_val (ro_build (l := []) (SesBegin_b31_)) ?_
       refine st_putW (vs := [_, _, _]) SesBegin_z31 rfl rfl (by simp [Value.oneCell']) ((hk6.from_ ((From.rfl_.next E12).next E16))) rfl ?_
       intro w6 O2 P2
       refine st_val (ro_assign (v := .bool _) rfl) ?_
       refine st_val (ro_assign (v := .int _ _) rfl) ?_
       refine st_nil ?_
       refine nx_then ?_
       refine cd_ret ?_
       refine rt_then ?_
       refine resr3 rfl (rv_cellA (cs := [_, _, _]) SesBegin_g31 SesBegin_z31 rfl (by exact P2.whole)) (rv_tmp (v := .bool _) rfl) (rv_tmp (v := .int _ _) rfl) ?_
       refine ⟨.inl ⟨?_, rfl⟩, ((((From.rfl_.next E6).next E12).next E16).only O2 (hg6))⟩
       first
         | assumption
         | exact decide_eq_false (by omega)
  · (try first | replace Q5 := bn_t Q5 | replace Q5 := bn_f Q5)
    (try first | replace Q5 := bx_t Q5 | replace Q5 := bx_f Q5 | replace Q5 := be_t Q5 | replace Q5 := be_f Q5 | replace Q5 := of_decide_eq_true Q5 | replace Q5 := of_decide_eq_false Q5)
    
    first
     | (exfalso; first | omega | contradiction | (cases Q5; done))
     | skip
       refine cd_skip ?_
       refine nx_then ?_
       refine cd_seq ?_
       refine cd_region ?_
       have hq : inE 1 sq = true := by
         first
           | assumption
           | exact decide_eq_true (by omega)
       refine st_val (ro_move (v := .slice _ _ _) rfl) ?_
       refine st_val (ro_move (v := .int _ _) rfl) ?_
       refine st_call SesBegin_k38 (find_rt A c L _ (hr.from_ (((From.rfl_.next E6).next E12).next E16)) hl cl (valid_rise hv)) ?_
       rintro v24 w7 ⟨hg24, E24⟩
       rcases hg24 with ⟨i, hi, he, rfl⟩ | ⟨i, hi, h1, h2, rfl⟩
       · obtain ⟨ba, oa, rfl, hcs⟩ := hr (by omega)
         refine st_val (ro_move (v := .tuple _) rfl) ?_
         refine st_val (ro_extract rfl rfl) ?_
         refine st_val (ro_extract rfl rfl) ?_
         refine st_val (ro_assign (v := .int _ _) rfl) ?_
         refine st_val (ro_assign (v := .bool _) rfl) ?_
         refine st_nil ?_
         refine nx_then ?_
         refine cd_seq ?_
         refine cd_seq ?_
         refine cd_region ?_
         refine st_val (ro_move (v := .bool _) rfl) ?_
         refine st_val (ro_not rfl) ?_
         refine st_nil ?_
         refine nx_then ?_
         refine cd_cond rfl (fun Q8 => ?_) (fun Q8 => ?_)
         · (try first | replace Q8 := bn_t Q8 | replace Q8 := bn_f Q8)
           (try first | replace Q8 := bx_t Q8 | replace Q8 := bx_f Q8 | replace Q8 := be_t Q8 | replace Q8 := be_f Q8 | replace Q8 := of_decide_eq_true Q8 | replace Q8 := of_decide_eq_false Q8)
           first
            | (exfalso; first | omega | contradiction | (cases Q8; done))
            | skip
              refine cd_seq ?_
              refine cd_region ?_
              refine st_val (ro_build (l := []) (SesBegin_b31_)) ?_
              refine st_putW (vs := [_, _, _]) SesBegin_z31 rfl rfl (by simp [Value.oneCell']) ((hk6.from_ (((From.rfl_.next E12).next E16).next E24))) rfl ?_
              intro w9 O5 P5
              refine st_val (ro_assign (v := .bool _) rfl) ?_
              refine st_val (ro_assign (v := .int _ _) rfl) ?_
              refine st_nil ?_
              refine nx_then ?_
              refine cd_ret ?_
              refine rt_then ?_
              refine resr3 rfl (rv_cellA (cs := [_, _, _]) SesBegin_g31 SesBegin_z31 rfl (by exact P5.whole)) (rv_tmp (v := .bool _) rfl) (rv_tmp (v := .int _ _) rfl) ?_
              exact ⟨.inr (.inl ⟨hq, fun j hj he => by rcases Nat.lt_or_ge j i with a | a; have := h1 j hj a; omega; have := h2 j hj a; omega, rfl⟩), (((((From.rfl_.next E6).next E12).next E16).next E24).only O5 (hg6))⟩
         · (try first | replace Q8 := bn_t Q8 | replace Q8 := bn_f Q8)
           (try first | replace Q8 := bx_t Q8 | replace Q8 := bx_f Q8 | replace Q8 := be_t Q8 | replace Q8 := be_f Q8 | replace Q8 := of_decide_eq_true Q8 | replace Q8 := of_decide_eq_false Q8)
           first
            | (exfalso; first | omega | contradiction | (cases Q8; done))
            | skip
              refine cd_skip ?_
              refine nx_then ?_
              refine cd_seq ?_
              refine cd_seq ?_
              refine cd_region ?_
              refine st_val (ro_move (v := .int _ _) rfl) ?_
              refine st_val (ro_move (v := .slice _ _ _) rfl) ?_
              refine st_val (ro_move (v := .int _ _) rfl) ?_
              refine st_val (ro_indexAddrN SesBegin_e22 rfl rfl (by omega)) ?_
              refine st_val (ro_fieldAddr SesBegin_f60_1 rfl) ?_
              refine st_val (ro_load SesBegin_g3 rfl (by exact cellF ((((From.rfl_.next E6).next E12).next E16).next E24) (hcs i (by omega) 1 _ rfl))) ?_
              refine st_val (ro_lss rfl rfl) ?_
              refine st_nil ?_
              refine nx_then ?_
              refine cd_cond rfl (fun Q10 => ?_) (fun Q10 => ?_)
              · (try first | replace Q10 := bn_t Q10 | replace Q10 := bn_f Q10)
                (try first | replace Q10 := bx_t Q10 | replace Q10 := bx_f Q10 | replace Q10 := be_t Q10 | replace Q10 := be_f Q10 | replace Q10 := of_decide_eq_true Q10 | replace Q10 := of_decide_eq_false Q10)
                first
                 | (exfalso; first | omega | contradiction | (cases Q10; done))
                 | skip
                   refine cd_seq ?_
                   refine cd_region ?_
                   refine st_val (ro_build (l := []) (SesBegin_b31_)) ?_
                   refine st_putW (vs := [_, _, _]) SesBegin_z31 rfl rfl (by simp [Value.oneCell']) ((hk6.from_ (((From.rfl_.next E12).next E16).next E24))) rfl ?_
                   intro w11 O7 P7
                   refine st_val (ro_assign (v := .bool _) rfl) ?_
                   refine st_val (ro_assign (v := .int _ _) rfl) ?_
                   refine st_nil ?_
                   refine nx_then ?_
                   refine cd_ret ?_
                   refine rt_then ?_
                   refine resr3 rfl (rv_cellA (cs := [_, _, _]) SesBegin_g31 SesBegin_z31 rfl (by exact P7.whole)) (rv_tmp (v := .bool _) rfl) (rv_tmp (v := .int _ _) rfl) ?_
                   exact ⟨.inr (.inr ⟨i, hi, hq, he, .inl ⟨by omega, rfl⟩⟩), (((((From.rfl_.next E6).next E12).next E16).next E24).only O7 (hg6))⟩
              · (try first | replace Q10 := bn_t Q10 | replace Q10 := bn_f Q10)
                (try first | replace Q10 := bx_t Q10 | replace Q10 := bx_f Q10 | replace Q10 := be_t Q10 | replace Q10 := be_f Q10 | replace Q10 := of_decide_eq_true Q10 | replace Q10 := of_decide_eq_false Q10)
                first
                 | (exfalso; first | omega | contradiction | (cases Q10; done))
                 | skip
                   refine cd_skip ?_
                   refine nx_then ?_
                   refine cd_seq ?_
                   refine cd_seq ?_
                   refine cd_region ?_
                   refine st_val (ro_move (v := .int _ _) rfl) ?_
                   refine st_val (ro_move (v := .slice _ _ _) rfl) ?_
                   refine st_val (ro_move (v := .int _ _) rfl) ?_
                   refine st_val (ro_indexAddrN SesBegin_e22 rfl rfl (by omega)) ?_
                   refine st_val (ro_fieldAddr SesBegin_f60_1 rfl) ?_
                   refine st_val (ro_load SesBegin_g3 rfl (by exact cellF ((((From.rfl_.next E6).next E12).next E16).next E24) (hcs i (by omega) 1 _ rfl))) ?_
                   refine st_val (ro_gtr rfl rfl) ?_
                   refine st_nil ?_
                   refine nx_then ?_
                   refine cd_cond rfl (fun Q12 => ?_) (fun Q12 => ?_)
                   · (try first | replace Q12 := bn_t Q12 | replace Q12 := bn_f Q12)
                     (try first | replace Q12 := bx_t Q12 | replace Q12 := bx_f Q12 | replace Q12 := be_t Q12 | replace Q12 := be_f Q12 | replace Q12 := of_decide_eq_true Q12 | replace Q12 := of_decide_eq_false Q12)
                     first
                      | (exfalso; first | omega | contradiction | (cases Q12; done))
                      | skip
                        refine cd_seq ?_
                        refine cd_region ?_
                        refine st_val (ro_build (l := []) (SesBegin_b31_)) ?_
                        refine st_putW (vs := [_, _, _]) SesBegin_z31 rfl rfl (by simp [Value.oneCell']) ((hk6.from_ (((From.rfl_.next E12).next E16).next E24))) rfl ?_
                        intro w13 O9 P9
                        refine st_val (ro_assign (v := .bool _) rfl) ?_
                        refine st_val (ro_assign (v := .int _ _) rfl) ?_
                        refine st_nil ?_
                        refine nx_then ?_
                        refine cd_ret ?_
                        refine rt_then ?_
                        refine resr3 rfl (rv_cellA (cs := [_, _, _]) SesBegin_g31 SesBegin_z31 rfl (by exact P9.whole)) (rv_tmp (v := .bool _) rfl) (rv_tmp (v := .int _ _) rfl) ?_
                        exact ⟨.inr (.inr ⟨i, hi, hq, he, .inr (.inl ⟨by omega, rfl⟩)⟩), (((((From.rfl_.next E6).next E12).next E16).next E24).only O9 (hg6))⟩
                   · (try first | replace Q12 := bn_t Q12 | replace Q12 := bn_f Q12)
                     (try first | replace Q12 := bx_t Q12 | replace Q12 := bx_f Q12 | replace Q12 := be_t Q12 | replace Q12 := be_f Q12 | replace Q12 := of_decide_eq_true Q12 | replace Q12 := of_decide_eq_false Q12)
                     first
                      | (exfalso; first | omega | contradiction | (cases Q12; done))
                      | skip
                        refine cd_skip ?_
                        refine nx_then ?_
                        refine cd_seq ?_
                        refine cd_region ?_
                        refine st_val (ro_move (v := .slice _ _ _) rfl) ?_
                        refine st_val (ro_move (v := .int _ _) rfl) ?_
                        refine st_val (ro_indexAddrN SesBegin_e22 rfl rfl (by omega)) ?_
                        refine st_val (ro_fieldAddr SesBegin_f60_2 rfl) ?_
                        refine st_val (ro_loadA (cs := [_, _, _]) SesBegin_g31 SesBegin_z31 rfl (by exact rangeF ((((From.rfl_.next E6).next E12).next E16).next E24) (rep_ses (hcs i (by omega))))) ?_
                        refine st_putW (vs := [_, _, _]) SesBegin_z31 rfl rfl (by simp [Value.oneCell']) ((hk6.from_ (((From.rfl_.next E12).next E16).next E24))) rfl ?_
                        intro w14 O10 P10
                        refine st_nil ?_
                        refine nx_then ?_
                        refine cd_seq ?_
                        refine cd_region ?_
                        refine st_val (ro_fieldAddr SesBegin_f31_2 rfl) ?_
                        refine st_put (v := .slice _ _ _) SesBegin_z29 rfl rfl rfl (P10) (by show 0 + 2 < 3; decide) ?_
                        intro w15 O11 P11
                        have P11b : Blk w15 b6 31 [.int .i64 L[i].e, .int .i64 L[i].n, .slice none 0 0].toArray := P11
                        refine st_nil ?_
                        refine nx_then ?_
                        refine cd_seq ?_
                        refine cd_region ?_
                        refine st_val (ro_loadA (cs := [_, _, _]) SesBegin_g31 SesBegin_z31 rfl (by exact P11b.whole)) ?_
                        refine st_putW (vs := [_, _, _]) SesBegin_z31 rfl rfl (by simp [Value.oneCell']) (P11b) rfl ?_
                        intro w16 O12 P12
                        refine st_val (ro_assign (v := .bool _) rfl) ?_
                        refine st_val (ro_assign (v := .int _ _) rfl) ?_
                        refine st_nil ?_
                        refine nx_then ?_
                        refine cd_ret ?_
                        refine resr3 rfl (rv_cellA (cs := [_, _, _]) SesBegin_g31 SesBegin_z31 rfl (by exact P12.whole)) (rv_tmp (v := .bool _) rfl) (rv_tmp (v := .int _ _) rfl) ?_
                        exact ⟨.inr (.inr ⟨i, hi, hq, he, .inr (.inr ⟨by omega, rfl⟩)⟩), (((((((From.rfl_.next E6).next E12).next E16).next E24).only O10 (hg6)).only O11 (hg6)).only O12 (hg6))⟩
       · refine st_val (ro_move (v := .tuple _) rfl) ?_
         refine st_val (ro_extract rfl rfl) ?_
         refine st_val (ro_extract rfl rfl) ?_
         refine st_val (ro_assign (v := .int _ _) rfl) ?_
         refine st_val (ro_assign (v := .bool _) rfl) ?_
         refine st_nil ?_
         refine nx_then ?_
         refine cd_seq ?_
         refine cd_seq ?_
         refine cd_region ?_
         refine st_val (ro_move (v := .bool _) rfl) ?_
         refine st_val (ro_not rfl) ?_
         refine st_nil ?_
         refine nx_then ?_
         refine cd_cond rfl (fun Q17 => ?_) (fun Q17 => ?_)
         · (try first | replace Q17 := bn_t Q17 | replace Q17 := bn_f Q17)
           (try first | replace Q17 := bx_t Q17 | replace Q17 := bx_f Q17 | replace Q17 := be_t Q17 | replace Q17 := be_f Q17 | replace Q17 := of_decide_eq_true Q17 | replace Q17 := of_decide_eq_false Q17)
           first
            | (exfalso; first | omega | contradiction | (cases Q17; done))
            | skip
              refine cd_seq ?_
              refine cd_region ?_
              refine st_val (ro_build (l := []) (SesBegin_b31_)) ?_
              refine st_putW (vs := [_, _, _]) SesBegin_z31 rfl rfl (by simp [Value.oneCell']) ((hk6.from_ (((From.rfl_.next E12).next E16).next E24))) rfl ?_
              intro w18 O5 P5
              refine st_val (ro_assign (v := .bool _) rfl) ?_
              refine st_val (ro_assign (v := .int _ _) rfl) ?_
              refine st_nil ?_
              refine nx_then ?_
              refine cd_ret ?_
              refine rt_then ?_
              refine resr3 rfl (rv_cellA (cs := [_, _, _]) SesBegin_g31 SesBegin_z31 rfl (by exact P5.whole)) (rv_tmp (v := .bool _) rfl) (rv_tmp (v := .int _ _) rfl) ?_
              exact ⟨.inr (.inl ⟨hq, fun j hj he => by rcases Nat.lt_or_ge j i with a | a; have := h1 j hj a; omega; have := h2 j hj a; omega, rfl⟩), (((((From.rfl_.next E6).next E12).next E16).next E24).only O5 (hg6))⟩
         · (try first | replace Q17 := bn_t Q17 | replace Q17 := bn_f Q17)
           (try first | replace Q17 := bx_t Q17 | replace Q17 := bx_f Q17 | replace Q17 := be_t Q17 | replace Q17 := be_f Q17 | replace Q17 := of_decide_eq_true Q17 | replace Q17 := of_decide_eq_false Q17)
           first
            | (exfalso; first | omega | contradiction | (cases Q17; done))
            | skip
              refine cd_skip ?_
              refine nx_then ?_
              refine cd_seq ?_
              refine cd_seq ?_
              refine cd_region ?_
              refine st_val (ro_move (v := .int _ _) rfl) ?_
              refine st_val (ro_move (v := .slice _ _ _) rfl) ?_
              refine st_val (ro_move (v := .int _ _) rfl) ?_
              refine st_val (ro_indexAddrN SesBegin_e22 rfl rfl (by omega)) ?_
              refine st_val (ro_fieldAddr SesBegin_f60_1 rfl) ?_
              refine st_val (ro_load SesBegin_g3 rfl (by exact cellF ((((From.rfl_.next E6).next E12).next E16).next E24) (hcs i (by omega) 1 _ rfl))) ?_
              refine st_val (ro_lss rfl rfl) ?_
              refine st_nil ?_
              refine nx_then ?_
              refine cd_cond rfl (fun Q19 => ?_) (fun Q19 => ?_)
              · (try first | replace Q19 := bn_t Q19 | replace Q19 := bn_f Q19)
                (try first | replace Q19 := bx_t Q19 | replace Q19 := bx_f Q19 | replace Q19 := be_t Q19 | replace Q19 := be_f Q19 | replace Q19 := of_decide_eq_true Q19 | replace Q19 := of_decide_eq_false Q19)
                first
                 | (exfalso; first | omega | contradiction | (cases Q19; done))
                 | skip
                   refine cd_seq ?_
                   refine cd_region ?_
                   refine st_val (ro_build (l := []) (SesBegin_b31_)) ?_
                   refine st_putW (vs := [_, _, _]) SesBegin_z31 rfl rfl (by simp [Value.oneCell']) ((hk6.from_ (((From.rfl_.next E12).next E16).next E24))) rfl ?_
                   intro w20 O7 P7
                   refine st_val (ro_assign (v := .bool _) rfl) ?_
                   refine st_val (ro_assign (v := .int _ _) rfl) ?_
                   refine st_nil ?_
                   refine nx_then ?_
                   refine cd_ret ?_
                   refine rt_then ?_
                   refine resr3 rfl (rv_cellA (cs := [_, _, _]) SesBegin_g31 SesBegin_z31 rfl (by exact P7.whole)) (rv_tmp (v := .bool _) rfl) (rv_tmp (v := .int _ _) rfl) ?_
                   exact ⟨.inr (.inr ⟨i, hi, hq, he, .inl ⟨by omega, rfl⟩⟩), (((((From.rfl_.next E6).next E12).next E16).next E24).only O7 (hg6))⟩
              · (try first | replace Q19 := bn_t Q19 | replace Q19 := bn_f Q19)
                (try first | replace Q19 := bx_t Q19 | replace Q19 := bx_f Q19 | replace Q19 := be_t Q19 | replace Q19 := be_f Q19 | replace Q19 := of_decide_eq_true Q19 | replace Q19 := of_decide_eq_false Q19)
                first
                 | (exfalso; first | omega | contradiction | (cases Q19; done))
                 | skip
                   refine cd_skip ?_
                   refine nx_then ?_
                   refine cd_seq ?_
                   refine cd_seq ?_
                   refine cd_region ?_
                   refine st_val (ro_move (v := .int _ _) rfl) ?_
                   refine st_val (ro_move (v := .slice _ _ _) rfl) ?_
                   refine st_val (ro_move (v := .int _ _) rfl) ?_
                   refine st_val (ro_indexAddrN SesBegin_e22 rfl rfl (by omega)) ?_
                   refine st_val (ro_fieldAddr SesBegin_f60_1 rfl) ?_
                   refine st_val (ro_load SesBegin_g3 rfl (by exact cellF ((((From.rfl_.next E6).next E12).next E16).next E24) (hcs i (by omega) 1 _ rfl))) ?_
                   refine st_val (ro_gtr rfl rfl) ?_
                   refine st_nil ?_
                   refine nx_then ?_
                   refine cd_cond rfl (fun Q21 => ?_) (fun Q21 => ?_)
                   · (try first | replace Q21 := bn_t Q21 | replace Q21 := bn_f Q21)
                     (try first | replace Q21 := bx_t Q21 | replace Q21 := bx_f Q21 | replace Q21 := be_t Q21 | replace Q21 := be_f Q21 | replace Q21 := of_decide_eq_true Q21 | replace Q21 := of_decide_eq_false Q21)
                     first
                      | (exfalso; first | omega | contradiction | (cases Q21; done))
                      | skip
                        refine cd_seq ?_
                        refine cd_region ?_
                        refine st_val (ro_build (l := []) (SesBegin_b31_)) ?_
                        refine st_putW (vs := [_, _, _]) SesBegin_z31 rfl rfl (by simp [Value.oneCell']) ((hk6.from_ (((From.rfl_.next E12).next E16).next E24))) rfl ?_
                        intro w22 O9 P9
                        refine st_val (ro_assign (v := .bool _) rfl) ?_
                        refine st_val (ro_assign (v := .int _ _) rfl) ?_
                        refine st_nil ?_
                        refine nx_then ?_
                        refine cd_ret ?_
                        refine rt_then ?_
                        refine resr3 rfl (rv_cellA (cs := [_, _, _]) SesBegin_g31 SesBegin_z31 rfl (by exact P9.whole)) (rv_tmp (v := .bool _) rfl) (rv_tmp (v := .int _ _) rfl) ?_
                        exact ⟨.inr (.inr ⟨i, hi, hq, he, .inr (.inl ⟨by omega, rfl⟩)⟩), (((((From.rfl_.next E6).next E12).next E16).next E24).only O9 (hg6))⟩
                   · (try first | replace Q21 := bn_t Q21 | replace Q21 := bn_f Q21)
                     (try first | replace Q21 := bx_t Q21 | replace Q21 := bx_f Q21 | replace Q21 := be_t Q21 | replace Q21 := be_f Q21 | replace Q21 := of_decide_eq_true Q21 | replace Q21 := of_decide_eq_false Q21)
                     first
                      | (exfalso; first | omega | contradiction | (cases Q21; done))
                      | skip
                        refine cd_skip ?_
                        refine nx_then ?_
                        refine cd_seq ?_
                        refine cd_region ?_
                        refine st_val (ro_move (v := .slice _ _ _) rfl) ?_
                        refine st_val (ro_move (v := .int _ _) rfl) ?_
                        refine st_val (ro_indexAddrN SesBegin_e22 rfl rfl (by omega)) ?_
                        refine st_val (ro_fieldAddr SesBegin_f60_2 rfl) ?_
                        refine st_val (ro_loadA (cs := [_, _, _]) SesBegin_g31 SesBegin_z31 rfl (by exact rangeF ((((From.rfl_.next E6).next E12).next E16).next E24) (rep_ses (hcs i (by omega))))) ?_
                        refine st_putW (vs := [_, _, _]) SesBegin_z31 rfl rfl (by simp [Value.oneCell']) ((hk6.from_ (((From.rfl_.next E12).next E16).next E24))) rfl ?_
                        intro w23 O10 P10
                        refine st_nil ?_
                        refine nx_then ?_
                        refine cd_seq ?_
                        refine cd_region ?_
                        refine st_val (ro_fieldAddr SesBegin_f31_2 rfl) ?_
                        refine st_put (v := .slice _ _ _) SesBegin_z29 rfl rfl rfl (P10) (by show 0 + 2 < 3; decide) ?_
                        intro w24 O11 P11
                        have P11b : Blk w24 b6 31 [.int .i64 L[i].e, .int .i64 L[i].n, .slice none 0 0].toArray := P11
                        refine st_nil ?_
                        refine nx_then ?_
                        refine cd_seq ?_
                        refine cd_region ?_
                        refine st_val (ro_loadA (cs := [_, _, _]) SesBegin_g31 SesBegin_z31 rfl (by exact P11b.whole)) ?_
                        refine st_putW (vs := [_, _, _]) SesBegin_z31 rfl rfl (by simp [Value.oneCell']) (P11b) rfl ?_
                        intro w25 O12 P12
                        refine st_val (ro_assign (v := .bool _) rfl) ?_
                        refine st_val (ro_assign (v := .int _ _) rfl) ?_
                        refine st_nil ?_
                        refine nx_then ?_
                        refine cd_ret ?_
                        refine resr3 rfl (rv_cellA (cs := [_, _, _]) SesBegin_g31 SesBegin_z31 rfl (by exact P12.whole)) (rv_tmp (v := .bool _) rfl) (rv_tmp (v := .int _ _) rfl) ?_
                        exact ⟨.inr (.inr ⟨i, hi, hq, he, .inr (.inr ⟨by omega, rfl⟩)⟩), (((((((From.rfl_.next E6).next E12).next E16).next E24).only O10 (hg6)).only O11 (hg6)).only O12 (hg6))⟩
set_option maxRecDepth 100000 in
set_option maxHeartbeats 2000000 in
theorem refBegin_rt (A : Option Addr) (c : Nat) (L : List Ses) (w : World) (hr : RowS w A L) (hl : L.length ≤ 10000000000000) (cl sq : Int) :
    Rt Try.prog 15 [.slice A L.length c, .int .i64 cl, .int .i64 sq] w (fun v w' => BegGot tellR L cl sq v ∧ From w w') := by
  refine enter (n := 41) Try.func15 rfl rfl rfl ?_
  refine cd_seq ?_
  refine cd_region ?_
  refine st_alloc SesBegin_o31 ?_
  intro b6 w1 E6 hb6 hk6
  have hg6 : w.heap.size ≤ b6 := Nat.le_of_eq hb6.symm
  refine st_val (ro_assign (v := .bool _) rfl) ?_
  refine st_val (ro_assign (v := .int _ _) rfl) ?_
  refine st_nil ?_
  refine nx_then ?_
  refine cd_seq ?_
  refine cd_seq ?_
  refine cd_region ?_
  refine st_val (ro_move (v := .int _ _) rfl) ?_
  refine st_call SesBegin_k32 (id_rt sq _) ?_
  rintro v11 w2 ⟨rfl, rfl⟩
  refine st_val (ro_not rfl) ?_
  refine st_nil ?_
  refine nx_then ?_
  refine cd_cond rfl (fun Q3 => ?_) (fun Q3 => ?_)
  · (try first | replace Q3 := bn_t Q3 | replace Q3 := bn_f Q3)
    (try first | replace Q3 := bx_t Q3 | replace Q3 := bx_f Q3 | replace Q3 := be_t Q3 | replace Q3 := be_f Q3 | replace Q3 := of_decide_eq_true Q3 | replace Q3 := of_decide_eq_false Q3)
    first
     | (exfalso; first | omega | contradiction | (cases Q3; done))
     | skip
       refine cd_seq ?_
       refine cd_region ?_
       refine st_val (ro_build (l := []) (SesBegin_b31_)) ?_
       refine st_putW (vs := [_, _, _]) SesBegin_z31 rfl rfl (by simp [Value.oneCell']) ((hk6.from_ From.rfl_)) rfl ?_
       intro w4 O2 P2
       refine st_val (ro_assign (v := .bool _) rfl) ?_
       refine st_val (ro_assign (v := .int _ _) rfl) ?_
       refine st_nil ?_
       refine nx_then ?_
       refine cd_ret ?_
       refine rt_then ?_
       refine resr3 rfl (rv_cellA (cs := [_, _, _]) SesBegin_g31 SesBegin_z31 rfl (by exact P2.whole)) (rv_tmp (v := .bool _) rfl) (rv_tmp (v := .int _ _) rfl) ?_
       refine ⟨.inl ⟨?_, rfl⟩, ((From.rfl_.next E6).only O2 (hg6))⟩
       first
         | assumption
         | exact decide_eq_false (by omega)
  · (try first | replace Q3 := bn_t Q3 | replace Q3 := bn_f Q3)
    (try first | replace Q3 := bx_t Q3 | replace Q3 := bx_f Q3 | replace Q3 := be_t Q3 | replace Q3 := be_f Q3 | replace Q3 := of_decide_eq_true Q3 | replace Q3 := of_decide_eq_false Q3)
    first
     | (exfalso; first | omega | contradiction | (cases Q3; done))
     | skip
       refine cd_skip ?_
       refine nx_then ?_
       refine cd_seq ?_
       refine cd_region ?_
       have hq : inE 1 sq = true := by
         first
           | assumption
           | exact decide_eq_true (by omega)
       refine st_val (ro_move (v := .slice _ _ _) rfl) ?_
       refine st_val (ro_move (v := .int _ _) rfl) ?_
       refine st_call SesBegin_k36 (refFind_rt A c L _ (hr.from_ (From.rfl_.next E6)) hl cl) ?_
       rintro v16 w5 ⟨hg16, rfl⟩
       rcases hg16 with ⟨i, hi, he, rfl⟩ | ⟨hno, rfl⟩
       · obtain ⟨ba, oa, rfl, hcs⟩ := hr (by omega)
         refine st_val (ro_assign (v := .int _ _) rfl) ?_
         refine st_nil ?_
         refine nx_then ?_
         refine cd_seq ?_
         refine cd_seq ?_
         refine cd_region ?_
         refine st_val (ro_move (v := .int _ _) rfl) ?_
         refine st_val (ro_lss rfl rfl) ?_
         refine st_nil ?_
         refine nx_then ?_
         refine cd_cond rfl (fun Q6 => ?_) (fun Q6 => ?_)
         · (try first | replace Q6 := bn_t Q6 | replace Q6 := bn_f Q6)
           (try first | replace Q6 := bx_t Q6 | replace Q6 := bx_f Q6 | replace Q6 := be_t Q6 | replace Q6 := be_f Q6 | replace Q6 := of_decide_eq_true Q6 | replace Q6 := of_decide_eq_false Q6)
           first
            | (exfalso; first | omega | contradiction | (cases Q6; done))
            | skip
              refine cd_seq ?_
              refine cd_region ?_
              refine st_val (ro_build (l := []) (SesBegin_b31_)) ?_
              refine st_putW (vs := [_, _, _]) SesBegin_z31 rfl rfl (by simp [Value.oneCell']) ((hk6.from_ From.rfl_)) rfl ?_
              intro w7 O5 P5
              refine st_val (ro_assign (v := .bool _) rfl) ?_
              refine st_val (ro_assign (v := .int _ _) rfl) ?_
              refine st_nil ?_
              refine nx_then ?_
              refine cd_ret ?_
              refine rt_then ?_
              refine resr3 rfl (rv_cellA (cs := [_, _, _]) SesBegin_g31 SesBegin_z31 rfl (by exact P5.whole)) (rv_tmp (v := .bool _) rfl) (rv_tmp (v := .int _ _) rfl) ?_
              exact ⟨.inr (.inl ⟨hq, hno, rfl⟩), ((From.rfl_.next E6).only O5 (hg6))⟩
         · (try first | replace Q6 := bn_t Q6 | replace Q6 := bn_f Q6)
           (try first | replace Q6 := bx_t Q6 | replace Q6 := bx_f Q6 | replace Q6 := be_t Q6 | replace Q6 := be_f Q6 | replace Q6 := of_decide_eq_true Q6 | replace Q6 := of_decide_eq_false Q6)
           first
            | (exfalso; first | omega | contradiction | (cases Q6; done))
            | skip
              refine cd_skip ?_
              refine nx_then ?_
              refine cd_seq ?_
              refine cd_seq ?_
              refine cd_region ?_
              refine st_val (ro_move (v := .int _ _) rfl) ?_
              refine st_val (ro_move (v := .slice _ _ _) rfl) ?_
              refine st_val (ro_move (v := .int _ _) rfl) ?_
              refine st_val (ro_indexAddrN SesBegin_e22 rfl rfl (by omega)) ?_
              refine st_val (ro_fieldAddr SesBegin_f60_1 rfl) ?_
              refine st_val (ro_load SesBegin_g3 rfl (by exact cellF (From.rfl_.next E6) (hcs i (by omega) 1 _ rfl))) ?_
              refine st_val (ro_lss rfl rfl) ?_
              refine st_nil ?_
              refine nx_then ?_
              refine cd_cond rfl (fun Q8 => ?_) (fun Q8 => ?_)
              · (try first | replace Q8 := bn_t Q8 | replace Q8 := bn_f Q8)
                (try first | replace Q8 := bx_t Q8 | replace Q8 := bx_f Q8 | replace Q8 := be_t Q8 | replace Q8 := be_f Q8 | replace Q8 := of_decide_eq_true Q8 | replace Q8 := of_decide_eq_false Q8)
                first
                 | (exfalso; first | omega | contradiction | (cases Q8; done))
                 | skip
                   refine cd_seq ?_
                   refine cd_region ?_
                   refine st_val (ro_build (l := []) (SesBegin_b31_)) ?_
                   refine st_putW (vs := [_, _, _]) SesBegin_z31 rfl rfl (by simp [Value.oneCell']) ((hk6.from_ From.rfl_)) rfl ?_
                   intro w9 O7 P7
                   refine st_val (ro_assign (v := .bool _) rfl) ?_
                   refine st_val (ro_assign (v := .int _ _) rfl) ?_
                   refine st_nil ?_
                   refine nx_then ?_
                   refine cd_ret ?_
                   refine rt_then ?_
                   refine resr3 rfl (rv_cellA (cs := [_, _, _]) SesBegin_g31 SesBegin_z31 rfl (by exact P7.whole)) (rv_tmp (v := .bool _) rfl) (rv_tmp (v := .int _ _) rfl) ?_
                   exact ⟨.inr (.inr ⟨i, hi, hq, he, .inl ⟨by omega, rfl⟩⟩), ((From.rfl_.next E6).only O7 (hg6))⟩
              · (try first | replace Q8 := bn_t Q8 | replace Q8 := bn_f Q8)
                (try first | replace Q8 := bx_t Q8 | replace Q8 := bx_f Q8 | replace Q8 := be_t Q8 | replace Q8 := be_f Q8 | replace Q8 := of_decide_eq_true Q8 | replace Q8 := of_decide_eq_false Q8)
                first
                 | (exfalso; first | omega | contradiction | (cases Q8; done))
                 | skip
                   refine cd_skip ?_
                   refine nx_then ?_
                   refine cd_seq ?_
                   refine cd_seq ?_
                   refine cd_region ?_
                   refine st_val (ro_move (v := .int _ _) rfl) ?_
                   refine st_val (ro_move (v := .slice _ _ _) rfl) ?_
                   refine st_val (ro_move (v := .int _ _) rfl) ?_
                   refine st_val (ro_indexAddrN SesBegin_e22 rfl rfl (by omega)) ?_
                   refine st_val (ro_fieldAddr SesBegin_f60_1 rfl) ?_
                   refine st_val (ro_load SesBegin_g3 rfl (by exact cellF (From.rfl_.next E6) (hcs i (by omega) 1 _ rfl))) ?_
                   refine st_val (ro_eql rfl rfl) ?_
                   refine st_nil ?_
                   refine nx_then ?_
                   refine cd_cond rfl (fun Q10 => ?_) (fun Q10 => ?_)
                   · (try first | replace Q10 := bn_t Q10 | replace Q10 := bn_f Q10)
                     (try first | replace Q10 := bx_t Q10 | replace Q10 := bx_f Q10 | replace Q10 := be_t Q10 | replace Q10 := be_f Q10 | replace Q10 := of_decide_eq_true Q10 | replace Q10 := of_decide_eq_false Q10)
                     first
                      | (exfalso; first | omega | contradiction | (cases Q10; done))
                      | skip
                        refine cd_seq ?_
                        refine cd_region ?_
                        refine st_val (ro_move (v := .slice _ _ _) rfl) ?_
                        refine st_val (ro_move (v := .int _ _) rfl) ?_
                        refine st_val (ro_indexAddrN SesBegin_e22 rfl rfl (by omega)) ?_
                        refine st_val (ro_fieldAddr SesBegin_f60_2 rfl) ?_
                        refine st_val (ro_loadA (cs := [_, _, _]) SesBegin_g31 SesBegin_z31 rfl (by exact rangeF (From.rfl_.next E6) (rep_ses (hcs i (by omega))))) ?_
                        refine st_putW (vs := [_, _, _]) SesBegin_z31 rfl rfl (by simp [Value.oneCell']) ((hk6.from_ From.rfl_)) rfl ?_
                        intro w11 O9 P9
                        refine st_val (ro_assign (v := .bool _) rfl) ?_
                        refine st_val (ro_assign (v := .int _ _) rfl) ?_
                        refine st_nil ?_
                        refine nx_then ?_
                        refine cd_ret ?_
                        refine rt_then ?_
                        refine resr3 rfl (rv_cellA (cs := [_, _, _]) SesBegin_g31 SesBegin_z31 rfl (by exact P9.whole)) (rv_tmp (v := .bool _) rfl) (rv_tmp (v := .int _ _) rfl) ?_
                        exact ⟨.inr (.inr ⟨i, hi, hq, he, .inr (.inr ⟨by omega, rfl⟩)⟩), ((From.rfl_.next E6).only O9 (hg6))⟩
                   · (try first | replace Q10 := bn_t Q10 | replace Q10 := bn_f Q10)
                     (try first | replace Q10 := bx_t Q10 | replace Q10 := bx_f Q10 | replace Q10 := be_t Q10 | replace Q10 := be_f Q10 | replace Q10 := of_decide_eq_true Q10 | replace Q10 := of_decide_eq_false Q10)
                     first
                      | (exfalso; first | omega | contradiction | (cases Q10; done))
                      | skip
                        refine cd_skip ?_
                        refine nx_then ?_
                        refine cd_seq ?_
                        refine cd_region ?_
                        refine st_val (ro_build (l := []) (SesBegin_b31_)) ?_
                        refine st_putW (vs := [_, _, _]) SesBegin_z31 rfl rfl (by simp [Value.oneCell']) ((hk6.from_ From.rfl_)) rfl ?_
                        intro w12 O10 P10
                        refine st_val (ro_assign (v := .bool _) rfl) ?_
                        refine st_val (ro_assign (v := .int _ _) rfl) ?_
                        refine st_nil ?_
                        refine nx_then ?_
                        refine cd_ret ?_
                        refine resr3 rfl (rv_cellA (cs := [_, _, _]) SesBegin_g31 SesBegin_z31 rfl (by exact P10.whole)) (rv_tmp (v := .bool _) rfl) (rv_tmp (v := .int _ _) rfl) ?_
                        exact ⟨.inr (.inr ⟨i, hi, hq, he, .inr (.inl ⟨by omega, rfl⟩)⟩), ((From.rfl_.next E6).only O10 (hg6))⟩
       · refine st_val (ro_assign (v := .int _ _) rfl) ?_
         refine st_nil ?_
         refine nx_then ?_
         refine cd_seq ?_
         refine cd_seq ?_
         refine cd_region ?_
         refine st_val (ro_move (v := .int _ _) rfl) ?_
         refine st_val (ro_lss rfl rfl) ?_
         refine st_nil ?_
         refine nx_then ?_
         refine cd_cond rfl (fun Q13 => ?_) (fun Q13 => ?_)
         · (try first | replace Q13 := bn_t Q13 | replace Q13 := bn_f Q13)
           (try first | replace Q13 := bx_t Q13 | replace Q13 := bx_f Q13 | replace Q13 := be_t Q13 | replace Q13 := be_f Q13 | replace Q13 := of_decide_eq_true Q13 | replace Q13 := of_decide_eq_false Q13)
           first
            | (exfalso; first | omega | contradiction | (cases Q13; done))
            | skip
              refine cd_seq ?_
              refine cd_region ?_
              refine st_val (ro_build (l := []) (SesBegin_b31_)) ?_
              refine st_putW (vs := [_, _, _]) SesBegin_z31 rfl rfl (by simp [Value.oneCell']) ((hk6.from_ From.rfl_)) rfl ?_
              intro w14 O5 P5
              refine st_val (ro_assign (v := .bool _) rfl) ?_
              refine st_val (ro_assign (v := .int _ _) rfl) ?_
              refine st_nil ?_
              refine nx_then ?_
              refine cd_ret ?_
              refine rt_then ?_
              refine resr3 rfl (rv_cellA (cs := [_, _, _]) SesBegin_g31 SesBegin_z31 rfl (by exact P5.whole)) (rv_tmp (v := .bool _) rfl) (rv_tmp (v := .int _ _) rfl) ?_
              exact ⟨.inr (.inl ⟨hq, hno, rfl⟩), ((From.rfl_.next E6).only O5 (hg6))⟩
         · (try first | replace Q13 := bn_t Q13 | replace Q13 := bn_f Q13)
           (try first | replace Q13 := bx_t Q13 | replace Q13 := bx_f Q13 | replace Q13 := be_t Q13 | replace Q13 := be_f Q13 | replace Q13 := of_decide_eq_true Q13 | replace Q13 := of_decide_eq_false Q13)
           first
            | (exfalso; first | omega | contradiction | (cases Q13; done))
            | skip
              refine cd_skip ?_
              refine nx_then ?_
              refine cd_seq ?_
              refine cd_seq ?_
              refine cd_region ?_
              refine st_val (ro_move (v := .int _ _) rfl) ?_
              refine st_val (ro_move (v := .slice _ _ _) rfl) ?_
              refine st_val (ro_move (v := .int _ _) rfl) ?_
              refine st_val (ro_indexAddrN SesBegin_e22 rfl rfl (by omega)) ?_
              refine st_val (ro_fieldAddr SesBegin_f60_1 rfl) ?_
              refine st_val (ro_load SesBegin_g3 rfl (by exact cellF (From.rfl_.next E6) (hcs i (by omega) 1 _ rfl))) ?_
              refine st_val (ro_lss rfl rfl) ?_
              refine st_nil ?_
              refine nx_then ?_
              refine cd_cond rfl (fun Q15 => ?_) (fun Q15 => ?_)
              · (try first | replace Q15 := bn_t Q15 | replace Q15 := bn_f Q15)
                (try first | replace Q15 := bx_t Q15 | replace Q15 := bx_f Q15 | replace Q15 := be_t Q15 | replace Q15 := be_f Q15 | replace Q15 := of_decide_eq_true Q15 | replace Q15 := of_decide_eq_false Q15)
                first
                 | (exfalso; first | omega | contradiction | (cases Q15; done))
                 | skip
                   refine cd_seq ?_
                   refine cd_region ?_
                   refine st_val (ro_build (l := []) (SesBegin_b31_)) ?_
                   refine st_putW (vs := [_, _, _]) SesBegin_z31 rfl rfl (by simp [Value.oneCell']) ((hk6.from_ From.rfl_)) rfl ?_
                   intro w16 O7 P7
                   refine st_val (ro_assign (v := .bool _) rfl) ?_
                   refine st_val (ro_assign (v := .int _ _) rfl) ?_
                   refine st_nil ?_
                   refine nx_then ?_
                   refine cd_ret ?_
                   refine rt_then ?_
                   refine resr3 rfl (rv_cellA (cs := [_, _, _]) SesBegin_g31 SesBegin_z31 rfl (by exact P7.whole)) (rv_tmp (v := .bool _) rfl) (rv_tmp (v := .int _ _) rfl) ?_
                   exact ⟨.inr (.inr ⟨i, hi, hq, he, .inl ⟨by omega, rfl⟩⟩), ((From.rfl_.next E6).only O7 (hg6))⟩
              · (try first | replace Q15 := bn_t Q15 | replace Q15 := bn_f Q15)
                (try first | replace Q15 := bx_t Q15 | replace Q15 := bx_f Q15 | replace Q15 := be_t Q15 | replace Q15 := be_f Q15 | replace Q15 := of_decide_eq_true Q15 | replace Q15 := of_decide_eq_false Q15)
                first
                 | (exfalso; first | omega | contradiction | (cases Q15; done))
                 | skip
                   refine cd_skip ?_
                   refine nx_then ?_
                   refine cd_seq ?_
                   refine cd_seq ?_
                   refine cd_region ?_
                   refine st_val (ro_move (v := .int _ _) rfl) ?_
                   refine st_val (ro_move (v := .slice _ _ _) rfl) ?_
                   refine st_val (ro_move (v := .int _ _) rfl) ?_
                   refine st_val (ro_indexAddrN SesBegin_e22 rfl rfl (by omega)) ?_
                   refine st_val (ro_fieldAddr SesBegin_f60_1 rfl) ?_
                   refine st_val (ro_load SesBegin_g3 rfl (by exact cellF (From.rfl_.next E6) (hcs i (by omega) 1 _ rfl))) ?_
                   refine st_val (ro_eql rfl rfl) ?_
                   refine st_nil ?_
                   refine nx_then ?_
                   refine cd_cond rfl (fun Q17 => ?_) (fun Q17 => ?_)
                   · (try first | replace Q17 := bn_t Q17 | replace Q17 := bn_f Q17)
                     (try first | replace Q17 := bx_t Q17 | replace Q17 := bx_f Q17 | replace Q17 := be_t Q17 | replace Q17 := be_f Q17 | replace Q17 := of_decide_eq_true Q17 | replace Q17 := of_decide_eq_false Q17)
                     first
                      | (exfalso; first | omega | contradiction | (cases Q17; done))
                      | skip
                        refine cd_seq ?_
                        refine cd_region ?_
                        refine st_val (ro_move (v := .slice _ _ _) rfl) ?_
                        refine st_val (ro_move (v := .int _ _) rfl) ?_
                        refine st_val (ro_indexAddrN SesBegin_e22 rfl rfl (by omega)) ?_
                        refine st_val (ro_fieldAddr SesBegin_f60_2 rfl) ?_
                        refine st_val (ro_loadA (cs := [_, _, _]) SesBegin_g31 SesBegin_z31 rfl (by exact rangeF (From.rfl_.next E6) (rep_ses (hcs i (by omega))))) ?_
                        refine st_putW (vs := [_, _, _]) SesBegin_z31 rfl rfl (by simp [Value.oneCell']) ((hk6.from_ From.rfl_)) rfl ?_
                        intro w18 O9 P9
                        refine st_val (ro_assign (v := .bool _) rfl) ?_
                        refine st_val (ro_assign (v := .int _ _) rfl) ?_
                        refine st_nil ?_
                        refine nx_then ?_
                        refine cd_ret ?_
                        refine rt_then ?_
                        refine resr3 rfl (rv_cellA (cs := [_, _, _]) SesBegin_g31 SesBegin_z31 rfl (by exact P9.whole)) (rv_tmp (v := .bool _) rfl) (rv_tmp (v := .int _ _) rfl) ?_
                        exact ⟨.inr (.inr ⟨i, hi, hq, he, .inr (.inr ⟨by omega, rfl⟩)⟩), ((From.rfl_.next E6).only O9 (hg6))⟩
                   · (try first | replace Q17 := bn_t Q17 | replace Q17 := bn_f Q17)
                     (try first | replace Q17 := bx_t Q17 | replace Q17 := bx_f Q17 | replace Q17 := be_t Q17 | replace Q17 := be_f Q17 | replace Q17 := of_decide_eq_true Q17 | replace Q17 := of_decide_eq_false Q17)
                     first
                      | (exfalso; first | omega | contradiction | (cases Q17; done))
                      | skip
                        refine cd_skip ?_
                        refine nx_then ?_
                        refine cd_seq ?_
                        refine cd_region ?_
                        refine st_val (ro_build (l := []) (SesBegin_b31_)) ?_
                        refine st_putW (vs := [_, _, _]) SesBegin_z31 rfl rfl (by simp [Value.oneCell']) ((hk6.from_ From.rfl_)) rfl ?_
                        intro w19 O10 P10
                        refine st_val (ro_assign (v := .bool _) rfl) ?_
                        refine st_val (ro_assign (v := .int _ _) rfl) ?_
                        refine st_nil ?_
                        refine nx_then ?_
                        refine cd_ret ?_
                        refine resr3 rfl (rv_cellA (cs := [_, _, _]) SesBegin_g31 SesBegin_z31 rfl (by exact P10.whole)) (rv_tmp (v := .bool _) rfl) (rv_tmp (v := .int _ _) rfl) ?_
                        exact ⟨.inr (.inr ⟨i, hi, hq, he, .inr (.inl ⟨by omega, rfl⟩)⟩), ((From.rfl_.next E6).only O10 (hg6))⟩
end Go.Proofs.Ytbikemhokgcboaa
