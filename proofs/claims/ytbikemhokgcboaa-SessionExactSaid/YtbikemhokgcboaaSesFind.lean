/- session: find; the reference: Find. -/
import Derived.Test.YtbikemhokgcboaaSesWalks2
namespace Go.Proofs.Ytbikemhokgcboaa
open Go.RowKit
open Go.ChangeShapes Go.WideShapes Go.ChangeAt
theorem SesFind_k55 : callable Try.prog 55 = true := by kernel_rfl
theorem SesFind_f60_0 : fieldQ Try.prog 60 0 = some 0 := by kernel_rfl
theorem SesFind_g3 : aggQ Try.prog 3 = some false := by kernel_rfl
theorem SesFind_k51 : callable Try.prog 51 = true := by kernel_rfl
theorem SesFind_l22 : (elemQ Try.prog 22).isSome = true := by kernel_rfl
theorem SesFind_s3 : (Try.prog.underlying 3).isSome = true := by kernel_rfl
theorem SesFind_i65 : Try.prog.underlying 65 = some (.int .u64) := by kernel_rfl
theorem SesFind_s65 : (Try.prog.underlying 65).isSome = true := by kernel_rfl
theorem SesFind_i3 : Try.prog.underlying 3 = some (.int .i64) := by kernel_rfl
theorem SesFind_e22 : elemQ Try.prog 22 = some (60, 6) := by kernel_rfl
theorem SesFind_g60 : aggQ Try.prog 60 = some true := by kernel_rfl
theorem SesFind_z60 : sizeQ Try.prog 60 = some 6 := by kernel_rfl
theorem SesFind_k49 : callable Try.prog 49 = true := by kernel_rfl
set_option maxRecDepth 100000 in
set_option maxHeartbeats 400000 in
theorem isNaN_rt (x : Int) (w : World) :
    Rt Try.prog 55 [.int .i64 x] w (fun v w' => v = .bool false ∧ w = w') := by
  refine enter (n := 6) Try.func55 rfl rfl rfl ?_
  refine cd_seq ?_
  refine cd_region ?_
  refine st_val (ro_assign (v := .bool _) rfl) ?_
  refine st_nil ?_
  refine nx_then ?_
  refine cd_seq ?_
  refine cd_region ?_
  refine st_val (ro_move (v := .int _ _) rfl) ?_
  refine st_val (ro_move (v := .int _ _) rfl) ?_
  refine st_val (ro_bf (ro_neq rfl rfl) (bne_self_eq_false _)) ?_
  refine st_val (ro_assign (v := .bool _) rfl) ?_
  refine st_nil ?_
  refine nx_then ?_
  refine cd_ret ?_
  refine res1 (v := .bool _) rfl rfl ?_
  exact ⟨rfl, rfl⟩
set_option maxRecDepth 100000 in
set_option maxHeartbeats 400000 in
theorem compare_rt (x y : Int) (w : World) :
    Rt Try.prog 51 [.int .i64 x, .int .i64 y] w (fun v w' => v = .int .i64 (cmpV x y) ∧ w = w') := by
  refine enter (n := 20) Try.func51 rfl rfl rfl ?_
  refine cd_seq ?_
  refine cd_region ?_
  refine st_val (ro_assign (v := .int _ _) rfl) ?_
  refine st_nil ?_
  refine nx_then ?_
  refine cd_seq ?_
  refine cd_region ?_
  refine st_val (ro_move (v := .int _ _) rfl) ?_
  refine st_call SesFind_k55 (isNaN_rt x _) ?_
  rintro v8 w1 ⟨rfl, rfl⟩
  refine st_val (ro_assign (v := .bool _) rfl) ?_
  refine st_nil ?_
  refine nx_then ?_
  refine cd_seq ?_
  refine cd_region ?_
  refine st_val (ro_move (v := .int _ _) rfl) ?_
  refine st_call SesFind_k55 (isNaN_rt y _) ?_
  rintro v10 w2 ⟨rfl, rfl⟩
  refine st_val (ro_assign (v := .bool _) rfl) ?_
  refine st_nil ?_
  refine nx_then ?_
  refine cd_seq ?_
  refine cd_seq ?_
  refine cd_region ?_
  refine st_val (ro_move (v := .bool _) rfl) ?_
  refine st_nil ?_
  refine nx_then ?_
  refine cd_condF rfl ?_
  refine cd_skip ?_
  refine nx_then ?_
  refine cd_seq ?_
  refine cd_seq ?_
  refine cd_region ?_
  refine st_val (ro_move (v := .bool _) rfl) ?_
  refine st_nil ?_
  refine nx_then ?_
  refine cd_condF rfl ?_
  refine cd_skip ?_
  refine nx_then ?_
  refine cd_seq ?_
  refine cd_seq ?_
  refine cd_region ?_
  refine st_val (ro_move (v := .int _ _) rfl) ?_
  refine st_val (ro_move (v := .int _ _) rfl) ?_
  refine st_val (ro_lss rfl rfl) ?_
  refine st_nil ?_
  refine nx_then ?_
  refine cd_cond rfl (fun Q3 => ?_) (fun Q3 => ?_)
  · (try first | replace Q3 := bn_t Q3 | replace Q3 := bn_f Q3)
    (try first | replace Q3 := bx_t Q3 | replace Q3 := bx_f Q3 | replace Q3 := be_t Q3 | replace Q3 := be_f Q3 | replace Q3 := of_decide_eq_true Q3 | replace Q3 := of_decide_eq_false Q3)
    first
     | (exfalso; first | omega | contradiction | (cases Q3; done))
     | skip
       refine cd_seq ?_
       refine cd_region ?_
       refine st_val (ro_assign (v := .int _ _) rfl) ?_
       refine st_nil ?_
       refine nx_then ?_
       refine cd_ret ?_
       refine rt_then ?_
       refine res1 (v := .int _ _) rfl rfl ?_
       refine ⟨int_eq ?_, rfl⟩
       unfold cmpV
       split <;> (try split) <;> omega
  · (try first | replace Q3 := bn_t Q3 | replace Q3 := bn_f Q3)
    (try first | replace Q3 := bx_t Q3 | replace Q3 := bx_f Q3 | replace Q3 := be_t Q3 | replace Q3 := be_f Q3 | replace Q3 := of_decide_eq_true Q3 | replace Q3 := of_decide_eq_false Q3)
    first
     | (exfalso; first | omega | contradiction | (cases Q3; done))
     | skip
       refine cd_skip ?_
       refine nx_then ?_
       refine cd_seq ?_
       refine cd_seq ?_
       refine cd_region ?_
       refine st_val (ro_move (v := .int _ _) rfl) ?_
       refine st_val (ro_move (v := .int _ _) rfl) ?_
       refine st_val (ro_gtr rfl rfl) ?_
       refine st_nil ?_
       refine nx_then ?_
       refine cd_cond rfl (fun Q4 => ?_) (fun Q4 => ?_)
       · (try first | replace Q4 := bn_t Q4 | replace Q4 := bn_f Q4)
         (try first | replace Q4 := bx_t Q4 | replace Q4 := bx_f Q4 | replace Q4 := be_t Q4 | replace Q4 := be_f Q4 | replace Q4 := of_decide_eq_true Q4 | replace Q4 := of_decide_eq_false Q4)
         first
          | (exfalso; first | omega | contradiction | (cases Q4; done))
          | skip
            refine cd_seq ?_
            refine cd_region ?_
            refine st_val (ro_assign (v := .int _ _) rfl) ?_
            refine st_nil ?_
            refine nx_then ?_
            refine cd_ret ?_
            refine rt_then ?_
            refine res1 (v := .int _ _) rfl rfl ?_
            refine ⟨int_eq ?_, rfl⟩
            unfold cmpV
            split <;> (try split) <;> omega
       · (try first | replace Q4 := bn_t Q4 | replace Q4 := bn_f Q4)
         (try first | replace Q4 := bx_t Q4 | replace Q4 := bx_f Q4 | replace Q4 := be_t Q4 | replace Q4 := be_f Q4 | replace Q4 := of_decide_eq_true Q4 | replace Q4 := of_decide_eq_false Q4)
         first
          | (exfalso; first | omega | contradiction | (cases Q4; done))
          | skip
            refine cd_skip ?_
            refine nx_then ?_
            refine cd_seq ?_
            refine cd_region ?_
            refine st_val (ro_assign (v := .int _ _) rfl) ?_
            refine st_nil ?_
            refine nx_then ?_
            refine cd_ret ?_
            refine res1 (v := .int _ _) rfl rfl ?_
            refine ⟨int_eq ?_, rfl⟩
            unfold cmpV
            split <;> (try split) <;> omega
set_option maxRecDepth 100000 in
set_option maxHeartbeats 400000 in
theorem find1_rt (x : Ses) (t : Int) (w : World) :
    Rt Try.prog 50 [.agg #[.int .i64 x.c, .int .i64 x.s, .int .i64 x.e, .int .i64 x.n, .slice x.H x.hl x.hc, .int .i64 x.u], .int .i64 t] w (fun v w' => v = .int .i64 (cmpV x.c t) ∧ From w w') := by
  refine enter (n := 9) Try.func50 rfl rfl rfl ?_
  refine cd_seq ?_
  refine cd_region ?_
  refine st_box (v := .agg _) rfl ?_
  intro b2 w1 E2 hb2 hk2
  refine st_val (ro_assign (v := .int _ _) rfl) ?_
  refine st_nil ?_
  refine nx_then ?_
  refine cd_seq ?_
  refine cd_region ?_
  refine st_val (ro_fieldAddr SesFind_f60_0 rfl) ?_
  refine st_val (ro_load SesFind_g3 rfl (by exact (hk2.from_ From.rfl_).rd 0 rfl)) ?_
  refine st_val (ro_move (v := .int _ _) rfl) ?_
  refine st_call SesFind_k51 (compare_rt x.c t _) ?_
  rintro v8 w2 ⟨rfl, rfl⟩
  refine st_val (ro_assign (v := .int _ _) rfl) ?_
  refine st_nil ?_
  refine nx_then ?_
  refine cd_ret ?_
  refine res1 (v := .int _ _) rfl rfl ?_
  exact ⟨rfl, (From.rfl_.next E2)⟩
theorem find_cal : callable Try.prog 50 = true := by kernel_rfl
def FindGot (L : List Ses) (t : Int) (v : Value) : Prop := (∃ (i : Nat) (h : i < L.length), L[i].c = t ∧ v = .tuple #[.int .i64 (i : Nat), .bool true]) ∨
  (∃ i : Nat, i ≤ L.length ∧ (∀ j (h : j < L.length), j < i → L[j].c < t) ∧ (∀ j (h : j < L.length), i ≤ j → t < L[j].c) ∧ v = .tuple #[.int .i64 (i : Nat), .bool false])
theorem cmp_neg {x y : Int} : cmpV x y < 0 ↔ x < y := by
  unfold cmpV
  split
  · simp; assumption
  · split <;> simp <;> omega
theorem cmp_zero {x y : Int} : cmpV x y = 0 ↔ x = y := by
  unfold cmpV
  split
  · simp; omega
  · split <;> simp <;> omega
set_option maxRecDepth 100000 in
set_option maxHeartbeats 400000 in
theorem search_rt (A : Option Addr) (c : Nat) (L : List Ses) (w : World) (hr : RowS w A L) (hl : L.length ≤ 10000000000000) (t : Int) (hs : ∀ i j (hi : i < L.length) (hj : j < L.length), i < j → L[i].c < L[j].c) :
    Rt Try.prog 49 [.slice A L.length c, .int .i64 t, .func (.func 50) #[] #[]] w (fun v w' => FindGot L t v ∧ From w w') := by
  refine enter (n := 49) Try.func49 rfl rfl rfl ?_
  refine cd_seq ?_
  refine cd_region ?_
  refine st_val (ro_assign (v := .int _ _) rfl) ?_
  refine st_val (ro_assign (v := .bool _) rfl) ?_
  refine st_nil ?_
  refine nx_then ?_
  refine cd_seq ?_
  refine cd_region ?_
  refine st_val (ro_move (v := .slice _ _ _) rfl) ?_
  refine st_val (ro_len SesFind_l22 rfl) ?_
  refine st_val (ro_assign (v := .int _ _) rfl) ?_
  refine st_nil ?_
  refine nx_then ?_
  refine cd_seq ?_
  refine cd_region ?_
  refine st_val (ro_move (v := .int _ _) rfl) ?_
  refine st_val (ro_assign (v := .int _ _) rfl) ?_
  refine st_val (ro_assign (v := .int _ _) rfl) ?_
  refine st_nil ?_
  refine nx_then ?_
  refine cd_seq ?_
  refine cd_block ?_
  refine cd_loop (G := Nat × Nat) [11, 15, 16, 17, 18, 19, 20, 21, 22, 23, 24, 25, 26, 27, 28, 29, 30, 31, 32, 33, 34] (fun (i, j) => [(9, .int .i64 (i : Nat)), (10, .int .i64 (j : Nat))]) (fun (i, j) w' => i ≤ j ∧ j ≤ L.length ∧ (∀ x (hx : x < L.length), x < i → L[x].c < t) ∧ (∀ x (hx : x < L.length), j ≤ x → t ≤ L[x].c) ∧ From w w') (fun (i, j) => j - i) ((0, L.length)) ⟨rfl, rfl, trivial⟩ ?_ ?_
  · exact ⟨Nat.zero_le _, Nat.le_refl _, fun x _ h => absurd h (by omega), fun x h1 h2 => absurd h1 (by omega), From.rfl_⟩
  rintro ⟨i, j⟩ ρ1 w1 ⟨hij, hjn, hlo, hhi, hB⟩
  refine cd_seq ?_
  refine cd_seq ?_
  refine cd_region ?_
  refine st_val (ro_move (v := .int _ _) rfl) ?_
  refine st_val (ro_move (v := .int _ _) rfl) ?_
  refine st_val (ro_lss rfl rfl) ?_
  refine st_nil ?_
  refine nx_then ?_
  refine cd_cond rfl (fun Q2 => ?_) (fun Q2 => ?_)
  · (try first | replace Q2 := bn_t Q2 | replace Q2 := bn_f Q2)
    (try first | replace Q2 := bx_t Q2 | replace Q2 := bx_f Q2 | replace Q2 := be_t Q2 | replace Q2 := be_f Q2 | replace Q2 := of_decide_eq_true Q2 | replace Q2 := of_decide_eq_false Q2)
    obtain ⟨ba, oa, rfl, hcs⟩ := hr (by omega)
    first
     | (exfalso; first | omega | contradiction | (cases Q2; done))
     | skip
       refine cd_skip ?_
       refine nx_then ?_
       refine cd_block ?_
       refine cd_seq ?_
       refine cd_region ?_
       refine st_val (ro_move (v := .int _ _) rfl) ?_
       refine st_val (ro_move (v := .int _ _) rfl) ?_
       refine st_val (ro_addN rfl rfl (by omega)) ?_
       obtain ⟨h, hh⟩ : ∃ h, h = (i + j) / 2 ^ 1 := ⟨_, rfl⟩
       
       refine st_val (ro_conv64 SesFind_s3 SesFind_i65 rfl (by omega)) ?_
       refine st_val (ro_shrN (b := 1) rfl rfl (by decide)) ?_
       refine st_val (ro_convI SesFind_s65 SesFind_i3 rfl (by omega)) ?_
       refine st_spell (t := 23) (v := .int _ _) (v' := .int .i64 (h : Nat)) rfl (by rw [hh]) ?_
       refine st_val (ro_assign (v := .int _ _) rfl) ?_
       refine st_nil ?_
       refine nx_then ?_
       refine cd_seq ?_
       refine cd_region ?_
       refine st_val (ro_move (v := .func _ _ _) rfl) ?_
       refine st_val (ro_move (v := .slice _ _ _) rfl) ?_
       refine st_val (ro_move (v := .int _ _) rfl) ?_
       refine st_val (ro_indexAddrN SesFind_e22 rfl rfl (by omega)) ?_
       refine st_val (ro_loadA (cs := [_, _, _, _, _, _]) SesFind_g60 SesFind_z60 rfl (by exact rangeF hB (hcs h (by omega)))) ?_
       refine st_val (ro_move (v := .int _ _) rfl) ?_
       refine st_callF (caps := []) rfl find_cal (find1_rt L[h] t _) ?_
       rintro v30 w3 ⟨rfl, E30⟩
       refine st_val (ro_lss rfl rfl) ?_
       refine st_nil ?_
       refine nx_then ?_
       refine cd_cond rfl (fun Q4 => ?_) (fun Q4 => ?_)
       · (try first | replace Q4 := bn_t Q4 | replace Q4 := bn_f Q4)
         (try first | replace Q4 := bx_t Q4 | replace Q4 := bx_f Q4 | replace Q4 := be_t Q4 | replace Q4 := be_f Q4 | replace Q4 := of_decide_eq_true Q4 | replace Q4 := of_decide_eq_false Q4)
         have h31 := cmp_neg.1 Q4
         first
          | (exfalso; first | omega | contradiction | (cases Q4; done))
          | skip
            refine cd_region ?_
            refine st_val (ro_move (v := .int _ _) rfl) ?_
            refine st_val (ro_addN (b := 1) rfl rfl (by omega)) ?_
            refine st_val (ro_assign (v := .int _ _) rfl) ?_
            refine st_nil ?_
            refine nx_block ?_
            refine nx_cut ((h + 1, j)) ⟨(by first | rfl | (refine int_eq ?_; omega)), (by first | rfl | (refine int_eq ?_; omega)), trivial⟩ (by (iterate 45 refine agr_cons rfl ?_); exact agr_rfl) ⟨?_, ?_⟩
            · refine ⟨by omega, hjn, fun x hx hxi => ?_, hhi, (hB.next E30)⟩
              rcases Nat.lt_or_ge x h with a | a
              · have := hs x h hx (by omega) a
                omega
              · obtain rfl : x = h := by omega
                exact h31
            · show j - (h + 1) < j - i; omega
       · (try first | replace Q4 := bn_t Q4 | replace Q4 := bn_f Q4)
         (try first | replace Q4 := bx_t Q4 | replace Q4 := bx_f Q4 | replace Q4 := be_t Q4 | replace Q4 := be_f Q4 | replace Q4 := of_decide_eq_true Q4 | replace Q4 := of_decide_eq_false Q4)
         have h31 : ¬ L[h].c < t := fun a => absurd (cmp_neg.2 a) Q4
         first
          | (exfalso; first | omega | contradiction | (cases Q4; done))
          | skip
            refine cd_region ?_
            refine st_val (ro_move (v := .int _ _) rfl) ?_
            refine st_val (ro_assign (v := .int _ _) rfl) ?_
            refine st_nil ?_
            refine nx_block ?_
            refine nx_cut ((i, h)) ⟨(by first | rfl | (refine int_eq ?_; omega)), (by first | rfl | (refine int_eq ?_; omega)), trivial⟩ (by (iterate 44 refine agr_cons rfl ?_); exact agr_rfl) ⟨?_, ?_⟩
            · refine ⟨by omega, by omega, hlo, fun x hx hxi => ?_, (hB.next E30)⟩
              rcases Nat.lt_or_ge h x with a | a
              · have := hs h x (by omega) hx a
                omega
              · obtain rfl : x = h := by omega
                omega
            · show h - i < j - i; omega
  · (try first | replace Q2 := bn_t Q2 | replace Q2 := bn_f Q2)
    (try first | replace Q2 := bx_t Q2 | replace Q2 := bx_f Q2 | replace Q2 := be_t Q2 | replace Q2 := be_f Q2 | replace Q2 := of_decide_eq_true Q2 | replace Q2 := of_decide_eq_false Q2)
    first
     | (exfalso; first | omega | contradiction | (cases Q2; done))
     | skip
       refine cd_exit ?_
       refine ex_then ?_
       refine ex_then ?_
       refine ex_block ?_
       refine nx_then ?_
       refine cd_seq ?_
       refine cd_region ?_
       refine st_val (ro_move (v := .int _ _) rfl) ?_
       refine st_val (ro_move (v := .int _ _) rfl) ?_
       refine st_val (ro_move (v := .int _ _) rfl) ?_
       refine st_val (ro_lss rfl rfl) ?_
       refine st_val (ro_move (v := .bool _) rfl) ?_
       refine st_split (t := 39) rfl (fun Q5 => ?_) (fun Q5 => ?_)
       · (try first | replace Q5 := bn_t Q5 | replace Q5 := bn_f Q5)
         (try first | replace Q5 := bx_t Q5 | replace Q5 := bx_f Q5 | replace Q5 := be_t Q5 | replace Q5 := be_f Q5 | replace Q5 := of_decide_eq_true Q5 | replace Q5 := of_decide_eq_false Q5)
         obtain ⟨ba, oa, rfl, hcs⟩ := hr (by omega)
         first
          | (exfalso; first | omega | contradiction | (cases Q5; done))
          | skip
            refine st_unguard rfl ?_
            refine st_val (ro_move (v := .func _ _ _) rfl) ?_
            refine st_unguard rfl ?_
            refine st_val (ro_move (v := .slice _ _ _) rfl) ?_
            refine st_unguard rfl ?_
            refine st_val (ro_move (v := .int _ _) rfl) ?_
            refine st_unguard rfl ?_
            refine st_val (ro_indexAddrN SesFind_e22 rfl rfl (by omega)) ?_
            refine st_unguard rfl ?_
            refine st_val (ro_loadA (cs := [_, _, _, _, _, _]) SesFind_g60 SesFind_z60 rfl (by exact rangeF hB (hcs i (by omega)))) ?_
            refine st_unguard rfl ?_
            refine st_val (ro_move (v := .int _ _) rfl) ?_
            refine st_unguard rfl ?_
            refine st_callF (caps := []) rfl find_cal (find1_rt L[i] t _) ?_
            rintro v46 w6 ⟨rfl, E46⟩
            refine st_unguard rfl ?_
            refine st_val (ro_eql rfl rfl) ?_
            refine st_val (ro_pickT (v := .bool _) rfl rfl) ?_
            refine st_val (ro_assign (v := .int _ _) rfl) ?_
            refine st_val (ro_assign (v := .bool _) rfl) ?_
            refine st_nil ?_
            refine nx_then ?_
            refine cd_ret ?_
            refine res2 (v := .int _ _) (v' := .bool _) rfl rfl rfl ?_
            obtain rfl : i = j := by omega
            refine ⟨?_, (hB.next E46)⟩
            by_cases hi : i < L.length
            · have h1 := hhi i hi (Nat.le_refl _)
              by_cases he : L[i].c = t
              · refine .inl ⟨i, hi, he, ?_⟩
                first
                  | (exfalso; omega)
                  | (rw [he]; simp [cmpV])
              · refine .inr ⟨i, hjn, hlo, fun x hx hxi => ?_, ?_⟩
                · rcases Nat.lt_or_ge i x with a | a
                  · have := hs i x hi hx a
                    omega
                  · obtain rfl : x = i := by omega
                    omega
                · first
                    | (exfalso; omega)
                    | (rw [beq_dec, decide_eq_false (fun a => he (cmp_zero.1 a))])
            · refine .inr ⟨i, hjn, hlo, fun x hx hxi => absurd hx (by omega), ?_⟩
              first
                | rfl
                | (exfalso; omega)
       · (try first | replace Q5 := bn_t Q5 | replace Q5 := bn_f Q5)
         (try first | replace Q5 := bx_t Q5 | replace Q5 := bx_f Q5 | replace Q5 := be_t Q5 | replace Q5 := be_f Q5 | replace Q5 := of_decide_eq_true Q5 | replace Q5 := of_decide_eq_false Q5)
         first
          | (exfalso; first | omega | contradiction | (cases Q5; done))
          | skip
            refine st_gno rfl rfl ?_
            refine st_gno rfl rfl ?_
            refine st_gno rfl rfl ?_
            refine st_gno rfl rfl ?_
            refine st_gno rfl rfl ?_
            refine st_gno rfl rfl ?_
            refine st_gno rfl rfl ?_
            refine st_gno rfl rfl ?_
            refine st_val (ro_pickF (v := .bool _) rfl rfl) ?_
            refine st_val (ro_assign (v := .int _ _) rfl) ?_
            refine st_val (ro_assign (v := .bool _) rfl) ?_
            refine st_nil ?_
            refine nx_then ?_
            refine cd_ret ?_
            refine res2 (v := .int _ _) (v' := .bool _) rfl rfl rfl ?_
            obtain rfl : i = j := by omega
            refine ⟨?_, hB⟩
            by_cases hi : i < L.length
            · have h1 := hhi i hi (Nat.le_refl _)
              by_cases he : L[i].c = t
              · refine .inl ⟨i, hi, he, ?_⟩
                first
                  | (exfalso; omega)
                  | (rw [he]; simp [cmpV])
              · refine .inr ⟨i, hjn, hlo, fun x hx hxi => ?_, ?_⟩
                · rcases Nat.lt_or_ge i x with a | a
                  · have := hs i x hi hx a
                    omega
                  · obtain rfl : x = i := by omega
                    omega
                · first
                    | (exfalso; omega)
                    | (rw [beq_dec, decide_eq_false (fun a => he (cmp_zero.1 a))])
            · refine .inr ⟨i, hjn, hlo, fun x hx hxi => absurd hx (by omega), ?_⟩
              first
                | rfl
                | (exfalso; omega)
set_option maxRecDepth 100000 in
set_option maxHeartbeats 400000 in
theorem find_rt (A : Option Addr) (c : Nat) (L : List Ses) (w : World) (hr : RowS w A L) (hl : L.length ≤ 10000000000000) (t : Int) (hs : ∀ i j (hi : i < L.length) (hj : j < L.length), i < j → L[i].c < L[j].c) :
    Rt Try.prog 38 [.slice A L.length c, .int .i64 t] w (fun v w' => FindGot L t v ∧ From w w') := by
  refine enter (n := 11) Try.func38 rfl rfl rfl ?_
  refine cd_seq ?_
  refine cd_region ?_
  refine st_val (ro_assign (v := .int _ _) rfl) ?_
  refine st_val (ro_assign (v := .bool _) rfl) ?_
  refine st_nil ?_
  refine nx_then ?_
  refine cd_seq ?_
  refine cd_region ?_
  refine st_val (ro_move (v := .slice _ _ _) rfl) ?_
  refine st_val (ro_move (v := .int _ _) rfl) ?_
  refine st_call SesFind_k49 (search_rt A c L _ hr hl t hs) ?_
  rintro v8 w1 ⟨hg8, E8⟩
  rcases hg8 with ⟨i, hi, he, rfl⟩ | ⟨i, hi, h1, h2, rfl⟩
  · refine st_val (ro_extract rfl rfl) ?_
    refine st_val (ro_extract rfl rfl) ?_
    refine st_val (ro_assign (v := .int _ _) rfl) ?_
    refine st_val (ro_assign (v := .bool _) rfl) ?_
    refine st_nil ?_
    refine nx_then ?_
    refine cd_ret ?_
    refine res2 (v := .int _ _) (v' := .bool _) rfl rfl rfl ?_
    first
      | exact ⟨.inl ⟨i, hi, he, rfl⟩, (From.rfl_.next E8)⟩
      | exact ⟨.inr ⟨i, hi, h1, h2, rfl⟩, (From.rfl_.next E8)⟩
  · refine st_val (ro_extract rfl rfl) ?_
    refine st_val (ro_extract rfl rfl) ?_
    refine st_val (ro_assign (v := .int _ _) rfl) ?_
    refine st_val (ro_assign (v := .bool _) rfl) ?_
    refine st_nil ?_
    refine nx_then ?_
    refine cd_ret ?_
    refine res2 (v := .int _ _) (v' := .bool _) rfl rfl rfl ?_
    first
      | exact ⟨.inl ⟨i, hi, he, rfl⟩, (From.rfl_.next E8)⟩
      | exact ⟨.inr ⟨i, hi, h1, h2, rfl⟩, (From.rfl_.next E8)⟩
set_option maxRecDepth 100000 in
set_option maxHeartbeats 400000 in
theorem refFind_rt (A : Option Addr) (c : Nat) (L : List Ses) (w : World) (hr : RowS w A L) (hl : L.length ≤ 10000000000000) (t : Int) :
    Rt Try.prog 36 [.slice A L.length c, .int .i64 t] w (fun v w' => ((∃ (i : Nat) (h : i < L.length), L[i].c = t ∧ v = .int .i64 (i : Nat)) ∨ ((∀ j (h : j < L.length), L[j].c ≠ t) ∧ v = .int .i64 (-1))) ∧ w = w') := by
  refine enter (n := 20) Try.func36 rfl rfl rfl ?_
  refine cd_seq ?_
  refine cd_region ?_
  refine st_val (ro_assign (v := .int _ _) rfl) ?_
  refine st_nil ?_
  refine nx_then ?_
  refine cd_seq ?_
  refine cd_seq ?_
  refine cd_region ?_
  refine st_val (ro_assign (v := .int _ _) rfl) ?_
  refine st_nil ?_
  refine nx_then ?_
  refine cd_block ?_
  refine cd_loop (G := Nat) [4, 6, 7, 8, 9, 10, 11, 12, 13, 14, 15, 16, 17, 18, 19] (fun k => [(5, .int .i64 (k : Nat))]) (fun k w' => k ≤ L.length ∧ (∀ i (h : i < L.length), i < k → L[i].c ≠ t) ∧ w = w') (fun k => L.length - k) (0) ⟨rfl, trivial⟩ ?_ ?_
  · exact ⟨Nat.zero_le _, fun i h h0 => absurd h0 (by omega), rfl⟩
  rintro k ρ1 w1 ⟨hk, hne, rfl⟩
  refine cd_seq ?_
  refine cd_seq ?_
  refine cd_region ?_
  refine st_val (ro_move (v := .int _ _) rfl) ?_
  refine st_val (ro_move (v := .slice _ _ _) rfl) ?_
  refine st_val (ro_len SesFind_l22 rfl) ?_
  refine st_val (ro_lss rfl rfl) ?_
  refine st_nil ?_
  refine nx_then ?_
  refine cd_cond rfl (fun Q2 => ?_) (fun Q2 => ?_)
  · (try first | replace Q2 := bn_t Q2 | replace Q2 := bn_f Q2)
    (try first | replace Q2 := bx_t Q2 | replace Q2 := bx_f Q2 | replace Q2 := be_t Q2 | replace Q2 := be_f Q2 | replace Q2 := of_decide_eq_true Q2 | replace Q2 := of_decide_eq_false Q2)
    obtain ⟨ba, oa, rfl, hcs⟩ := hr (by omega)
    first
     | (exfalso; first | omega | contradiction | (cases Q2; done))
     | skip
       refine cd_skip ?_
       refine nx_then ?_
       refine cd_seq ?_
       refine cd_block ?_
       refine cd_seq ?_
       refine cd_region ?_
       refine st_val (ro_move (v := .slice _ _ _) rfl) ?_
       refine st_val (ro_move (v := .int _ _) rfl) ?_
       refine st_val (ro_indexAddrN SesFind_e22 rfl rfl (by omega)) ?_
       refine st_val (ro_fieldAddr SesFind_f60_0 rfl) ?_
       refine st_val (ro_load SesFind_g3 rfl (by exact hcs k (by omega) 0 _ rfl)) ?_
       refine st_val (ro_move (v := .int _ _) rfl) ?_
       refine st_val (ro_eql rfl rfl) ?_
       refine st_nil ?_
       refine nx_then ?_
       refine cd_cond rfl (fun Q3 => ?_) (fun Q3 => ?_)
       · (try first | replace Q3 := bn_t Q3 | replace Q3 := bn_f Q3)
         (try first | replace Q3 := bx_t Q3 | replace Q3 := bx_f Q3 | replace Q3 := be_t Q3 | replace Q3 := be_f Q3 | replace Q3 := of_decide_eq_true Q3 | replace Q3 := of_decide_eq_false Q3)
         first
          | (exfalso; first | omega | contradiction | (cases Q3; done))
          | skip
            refine cd_seq ?_
            refine cd_region ?_
            refine st_val (ro_move (v := .int _ _) rfl) ?_
            refine st_val (ro_assign (v := .int _ _) rfl) ?_
            refine st_nil ?_
            refine nx_then ?_
            refine cd_ret ?_
            refine rt_block ?_
            refine rt_then ?_
            refine rt_then ?_
            refine rt_block ?_
            refine rt_then ?_
            refine res1 (v := .int _ _) rfl rfl ?_
            exact ⟨.inl ⟨k, by omega, by assumption, rfl⟩, rfl⟩
       · (try first | replace Q3 := bn_t Q3 | replace Q3 := bn_f Q3)
         (try first | replace Q3 := bx_t Q3 | replace Q3 := bx_f Q3 | replace Q3 := be_t Q3 | replace Q3 := be_f Q3 | replace Q3 := of_decide_eq_true Q3 | replace Q3 := of_decide_eq_false Q3)
         first
          | (exfalso; first | omega | contradiction | (cases Q3; done))
          | skip
            refine cd_skip ?_
            refine nx_block ?_
            refine nx_then ?_
            refine cd_region ?_
            refine st_val (ro_move (v := .int _ _) rfl) ?_
            refine st_val (ro_addN (b := 1) rfl rfl (by omega)) ?_
            refine st_val (ro_assign (v := .int _ _) rfl) ?_
            refine st_nil ?_
            refine nx_cut (k + 1) ⟨(by first | rfl | (refine int_eq ?_; omega)), trivial⟩ (by (iterate 30 refine agr_cons rfl ?_); exact agr_rfl) ⟨?_, ?_⟩
            · refine ⟨by omega, fun i h h0 => ?_, rfl⟩
              rcases Nat.lt_or_ge i k with a | a
              · exact hne i h a
              · obtain rfl : i = k := by omega
                assumption
            · omega
  · (try first | replace Q2 := bn_t Q2 | replace Q2 := bn_f Q2)
    (try first | replace Q2 := bx_t Q2 | replace Q2 := bx_f Q2 | replace Q2 := be_t Q2 | replace Q2 := be_f Q2 | replace Q2 := of_decide_eq_true Q2 | replace Q2 := of_decide_eq_false Q2)
    first
     | (exfalso; first | omega | contradiction | (cases Q2; done))
     | skip
       refine cd_exit ?_
       refine ex_then ?_
       refine ex_then ?_
       refine ex_block ?_
       refine nx_then ?_
       refine cd_seq ?_
       refine cd_region ?_
       refine st_val (ro_assign (v := .int _ _) rfl) ?_
       refine st_nil ?_
       refine nx_then ?_
       refine cd_ret ?_
       refine res1 (v := .int _ _) rfl rfl ?_
       exact ⟨.inr ⟨fun j h => hne j h (by omega), rfl⟩, rfl⟩
end Go.Proofs.Ytbikemhokgcboaa
