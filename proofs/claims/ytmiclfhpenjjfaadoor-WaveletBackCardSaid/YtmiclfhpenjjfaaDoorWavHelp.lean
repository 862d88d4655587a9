/- wavelet: helpers of the laws. -/
import Derived.Test.YtmiclfhpenjjfaaDoorWavRank
import Derived.Test.YtmiclfhpenjjfaaDoorWavMake
namespace Go.Proofs.YtmiclfhpenjjfaaDoor
open Go.RowKit
open Go.ChangeShapes Go.WideShapes Go.ChangeAt
theorem WavHelp_e22 : elemQ Tryd.prog 22 = some (3, 1) := by kernel_rfl
theorem WavHelp_l22 : (elemQ Tryd.prog 22).isSome = true := by kernel_rfl
theorem WavHelp_g3 : aggQ Tryd.prog 3 = some false := by kernel_rfl
theorem WavHelp_q22 : litQ Tryd.prog 22 = some (3, 1, 8, (.int .i64 0)) := by kernel_rfl
theorem WavHelp_f24_1 : fieldQ Tryd.prog 24 1 = some 1 := by kernel_rfl
theorem WavHelp_g22 : aggQ Tryd.prog 22 = some false := by kernel_rfl
theorem WavHelp_f24_2 : fieldQ Tryd.prog 24 2 = some 2 := by kernel_rfl
theorem WavHelp_k13 : callable Tryd.prog 13 = true := by kernel_rfl
theorem WavHelp_z3 : sizeQ Tryd.prog 3 = some 1 := by kernel_rfl
theorem WavHelp_k31 : callable Tryd.prog 31 = true := by kernel_rfl
theorem WavHelp_k12 : callable Tryd.prog 12 = true := by kernel_rfl
theorem WavHelp_p26 : Tryd.prog.underlying 26 = some (.pointer (Tryd.prog.pointee 26)) := by kernel_rfl
theorem WavHelp_k15 : callable Tryd.prog 15 = true := by kernel_rfl
theorem WavHelp_k17 : callable Tryd.prog 17 = true := by kernel_rfl
theorem WavHelp_f24_0 : fieldQ Tryd.prog 24 0 = some 0 := by kernel_rfl
theorem WavHelp_k18 : callable Tryd.prog 18 = true := by kernel_rfl
theorem WavHelp_k19 : callable Tryd.prog 19 = true := by kernel_rfl
theorem TreeAt.grown {w w' : World} {base b k : Nat} {L : List Nat} {r : Option Nat} (h : TreeAt w base b k L) (hg : w.grownBy w' r) (hne : ∀ q, r = some q → q < base) : TreeAt w' base b k L := by
  obtain ⟨hb0, AT, cT, g, vs, hT, ho, hVs, hg0, hg2, hrest⟩ := h
  exact ⟨hb0, AT, cT, g, vs, hT.grown hg (fun q hq => by have := hne q hq; omega), own_kept ho hg hne, fun j hj => (hVs j hj).grown hg hne, hg0, hg2.grown hg (fun q hq => by have := hne q hq; omega), hrest⟩
theorem TreeAt.le {w : World} {base base' b k : Nat} {L : List Nat} (h : TreeAt w base b k L) (hb : base' ≤ base) : TreeAt w base' b k L := by
  obtain ⟨hb0, AT, cT, g, vs, hT, ho, hVs, hg0, hg2, hrest⟩ := h
  exact ⟨by omega, AT, cT, g, vs, hT, own_le ho hb, fun j hj => (hVs j hj).le hb, by omega, hg2, hrest⟩
theorem map_cast_inj : ∀ {M L : List Nat}, M.map (fun x : Nat => (x : Int)) = L.map (fun x : Nat => (x : Int)) → M = L
  | [], [], _ => rfl
  | [], _ :: _, h => by simp at h
  | _ :: _, [], h => by simp at h
  | a :: r, b :: s, h => by
    simp only [List.map_cons, List.cons.injEq] at h
    have h1 : a = b := by have := h.1; omega
    rw [h1, map_cast_inj h.2]
theorem chk_zero {K : Nat} {L : List Nat} (h1 : 1 ≤ K) (h2 : K ≤ 512) (h3 : ∀ x ∈ L, x < K) (h4 : L.length ≤ 131072) : chkW (K : Nat) (L.map fun x : Nat => (x : Int)) = 0 := by
  unfold chkW
  rw [if_neg (by omega), if_neg, if_neg (by rw [List.length_map]; omega)]
  intro h
  obtain ⟨x, hx, hb⟩ := List.any_eq_true.1 h
  obtain ⟨y, hy, rfl⟩ := List.mem_map.1 hx
  have := of_decide_eq_true hb
  have := h3 y hy
  omega
def MadeT (base : Nat) (w' : World) (k : Int) (xs : List Int) (v : Value) : Prop := (chkW k xs ≠ 0 ∧ v = .tuple #[.pointer none, .int .i64 (chkW k xs)]) ∨ (∃ (K : Nat) (L : List Nat) (b : Nat), k = (K : Nat) ∧ xs = L.map (fun x : Nat => (x : Int)) ∧ v = .tuple #[.pointer (some ⟨b, 0, none⟩), .int .i64 0] ∧ TreeAt w' base b K L)
/-- an ask: a number, symbols, numbers -/
theorem ask_of {w : World} {cs : Array Value} {x : (Ty.pr (.int .i64) (.pr (.sl (.int .i64)) (.pr (.sl (.int .i64)) .unit))).den} (hs : cs.size = 3) (h : (Ty.pr (.int .i64) (.pr (.sl (.int .i64)) (.pr (.sl (.int .i64)) .unit))).At w (fun j => cs[j]?) x) :
    ∃ (k : Int) (A : Option Addr) (ca : Nat) (xs : List Int) (B : Option Addr) (cb : Nat) (is : List Int), cs = #[.int .i64 k, .slice A xs.length ca, .slice B is.length cb] ∧ RowOf iV w A xs ∧ (∀ x ∈ xs, -9223372036854775808 ≤ x ∧ x ≤ 9223372036854775807) ∧ RowOf iV w B is ∧ (∀ x ∈ is, -9223372036854775808 ≤ x ∧ x ≤ 9223372036854775807) ∧ (-9223372036854775808 ≤ k ∧ k ≤ 9223372036854775807) := by
  obtain ⟨h0, h1, h2, _⟩ := h
  obtain ⟨A, ca, a0, a1, a2, a3, _⟩ := at_nums h1
  obtain ⟨B, cb, b0, b1, b2, b3, _⟩ := at_nums h2
  have e : cs[0]? = some _ := h0.1
  have e0 : cs[1]? = some _ := a0
  have e1 : cs[2]? = some _ := b0
  refine ⟨_, A, ca, _, B, cb, _, ?_, a1, a2, b1, b2, wf_i64 h0.2⟩
  · obtain ⟨l⟩ := cs
    match l, hs with
    | [a, b, c], _ =>
      simp only [List.getElem?_toArray, List.getElem?_cons_zero, List.getElem?_cons_succ, Option.some.injEq] at e e0 e1
      rw [e, e0, e1]
set_option maxRecDepth 100000 in
set_option maxHeartbeats 400000 in
theorem copyNums_any (A : Option Addr) (c : Nat) (l : List Int) (w : World) (hr : RowOf iV w A l) (hl : l.length * 8 ≤ 140737488351232) :
    Rt Tryd.prog 17 [.slice A l.length c] w (fun v w' => ∃ A' c', v = .slice A' l.length c' ∧ w'.ownsRow w.heap.size 3 1 v l.length (l.map iV) ∧ From w w') := by
  refine enter (n := 19) Tryd.func17 rfl rfl rfl ?_
  refine cd_seq ?_
  refine cd_region ?_
  refine st_val (ro_assign (v := .slice _ _ _) rfl) ?_
  refine st_nil ?_
  refine nx_then ?_
  refine cd_seq ?_
  refine cd_region ?_
  refine st_val (ro_assign (v := .slice _ _ _) rfl) ?_
  refine st_nil ?_
  refine nx_then ?_
  refine cd_seq ?_
  refine cd_seq ?_
  refine cd_region ?_
  refine st_val (ro_assign (v := .int _ _) rfl) ?_
  refine st_nil ?_
  refine nx_then ?_
  refine cd_block ?_
  refine cd_loop (G := Nat × Option Addr × Nat) [5, 6, 7, 8, 9, 10, 11, 12, 13, 14, 15, 16, 17] (fun g => [(3, .slice g.2.1 g.1 g.2.2), (4, .int .i64 (g.1 : Nat))]) (fun g w' => g.1 ≤ l.length ∧ w'.ownsRow w.heap.size 3 1 (.slice g.2.1 g.1 g.2.2) g.1 ((l.take g.1).map iV) ∧ From w w') (fun g => l.length - g.1) ((0, none, 0)) ⟨rfl, rfl, trivial⟩ ?_ ?_
  · exact ⟨Nat.zero_le _, World.ownsRow_nil _ _ _ _, From.rfl_⟩
  rintro ⟨k, A3, c3⟩ ρ1 w1 ⟨hk, ho, hB⟩
  simp only at hk ho
  refine cd_seq ?_
  refine cd_seq ?_
  refine cd_region ?_
  refine st_val (ro_move (v := .int _ _) rfl) ?_
  refine st_val (ro_move (v := .slice _ _ _) rfl) ?_
  refine st_val (ro_len WavHelp_l22 rfl) ?_
  refine st_val (ro_lss rfl rfl) ?_
  refine st_nil ?_
  refine nx_then ?_
  refine cd_cond rfl (fun Q2 => ?_) (fun Q2 => ?_)
  · (try first | replace Q2 := bn_t Q2 | replace Q2 := bn_f Q2)
    (try first | replace Q2 := bx_t Q2 | replace Q2 := bx_f Q2 | replace Q2 := be_t Q2 | replace Q2 := be_f Q2 | replace Q2 := of_decide_eq_true Q2 | replace Q2 := of_decide_eq_false Q2)
    obtain ⟨ba, oa, rfl, ca⟩ := hr (by omega)
    first
     | (exfalso; first | omega | contradiction | (cases Q2; done))
     | skip
       refine cd_skip ?_
       refine nx_then ?_
       refine cd_seq ?_
       refine cd_block ?_
       refine cd_region ?_
       refine st_val (ro_move (v := .slice _ _ _) rfl) ?_
       refine st_val (ro_move (v := .slice _ _ _) rfl) ?_
       refine st_val (ro_move (v := .int _ _) rfl) ?_
       refine st_val (ro_indexAddr1 WavHelp_e22 rfl rfl (by omega)) ?_
       refine st_val (ro_load WavHelp_g3 rfl (by first | (exact cellF hB (ca k (by omega))))) ?_
       refine st_lit1 (v := .int _ _) WavHelp_q22 rfl rfl rfl ?_
       intro b16 w3 E16 hb16 hk16
       refine st_push1 (a0 := w) WavHelp_q22 rfl rfl (ho.kept_from E16) (hB.next E16) rfl hk16 rfl (by omega) (by omega) ?_
       intro A17 c17 w4 ho17 B17 hg17
       refine st_val (ro_assign (v := .slice _ _ _) rfl) ?_
       refine st_nil ?_
       refine nx_block ?_
       refine nx_then ?_
       refine cd_region ?_
       refine st_val (ro_move (v := .int _ _) rfl) ?_
       refine st_val (ro_add64 rfl rfl (by omega)) ?_
       refine st_val (ro_assign (v := .int _ _) rfl) ?_
       refine st_nil ?_
       refine nx_cut ((k + 1, A17, c17)) ⟨(by first | rfl | (refine int_eq ?_; omega)), (by first | rfl | (refine int_eq ?_; omega)), trivial⟩ (by (iterate 30 refine agr_cons rfl ?_); exact agr_rfl) ⟨?_, ?_⟩
       · exact ⟨by simp only; omega, by rw [map_take_succ iV (by omega)]; exact ho17, B17⟩
       · simp only; omega
  · (try first | replace Q2 := bn_t Q2 | replace Q2 := bn_f Q2)
    (try first | replace Q2 := bx_t Q2 | replace Q2 := bx_f Q2 | replace Q2 := be_t Q2 | replace Q2 := be_f Q2 | replace Q2 := of_decide_eq_true Q2 | replace Q2 := of_decide_eq_false Q2)
    first
     | (exfalso; first | omega | contradiction | (cases Q2; done))
     | skip
       refine cd_exit ?_
       refine ex_then ?_
       refine ex_then ?_
       refine ex_block ?_
       refine nx_then ?_
       refine cd_seq ?_
       refine cd_region ?_
       refine st_val (ro_move (v := .slice _ _ _) rfl) ?_
       refine st_val (ro_assign (v := .slice _ _ _) rfl) ?_
       refine st_nil ?_
       refine nx_then ?_
       refine cd_ret ?_
       refine res1 (v := .slice _ _ _) rfl rfl ?_
       obtain rfl : k = l.length := by omega
       exact ⟨A3, c3, rfl, by rwa [List.take_length] at ho, hB⟩
set_option maxRecDepth 100000 in
set_option maxHeartbeats 400000 in
theorem num_any (e : Int) (w : World) :
    Rt Tryd.prog 13 [.int .i64 e] w (fun v w' => v = .int .i64 e ∧ w = w') := by
  refine enter (n := 4) Tryd.func13 rfl rfl rfl ?_
  refine cd_seq ?_
  refine cd_region ?_
  refine st_val (ro_assign (v := .int _ _) rfl) ?_
  refine st_nil ?_
  refine nx_then ?_
  refine cd_seq ?_
  refine cd_region ?_
  refine st_val (ro_move (v := .int _ _) rfl) ?_
  refine st_val (ro_assign (v := .int _ _) rfl) ?_
  refine st_nil ?_
  refine nx_then ?_
  refine cd_ret ?_
  refine res1 (v := .int _ _) rfl rfl ?_
  exact ⟨rfl, rfl⟩
set_option maxRecDepth 100000 in
set_option maxHeartbeats 400000 in
theorem heavy_any (k : Int) (A B : Option Addr) (n ca m cb : Nat) (w : World) :
    Rt Tryd.prog 6 [.agg #[.int .i64 k, .slice A n ca, .slice B m cb]] w (fun v w' => v = .bool (decide (300 < n ∨ 30 < m)) ∧ From w w') := by
  refine enter (n := 13) Tryd.func6 rfl rfl rfl ?_
  refine cd_seq ?_
  refine cd_region ?_
  refine st_box (v := .agg _) rfl ?_
  intro b1 w1 E1 hb1 hk1
  refine st_val (ro_assign (v := .bool _) rfl) ?_
  refine st_nil ?_
  refine nx_then ?_
  refine cd_seq ?_
  refine cd_region ?_
  refine st_val (ro_fieldAddr WavHelp_f24_1 rfl) ?_
  refine st_val (ro_load WavHelp_g22 rfl (by exact hk1.rd 1 rfl)) ?_
  refine st_val (ro_len WavHelp_l22 rfl) ?_
  refine st_val (ro_gtr rfl rfl) ?_
  refine st_val (ro_move (v := .bool _) rfl) ?_
  refine st_split (t := 7) rfl (fun Q2 => ?_) (fun Q2 => ?_)
  · (try first | replace Q2 := bn_t Q2 | replace Q2 := bn_f Q2)
    (try first | replace Q2 := bx_t Q2 | replace Q2 := bx_f Q2 | replace Q2 := be_t Q2 | replace Q2 := be_f Q2 | replace Q2 := of_decide_eq_true Q2 | replace Q2 := of_decide_eq_false Q2)
    first
     | (exfalso; first | omega | contradiction | (cases Q2; done))
     | skip
       refine st_gno rfl rfl ?_
       refine st_gno rfl rfl ?_
       refine st_gno rfl rfl ?_
       refine st_gno rfl rfl ?_
       refine st_val (ro_pickT (v := .bool _) rfl rfl) ?_
       refine st_val (ro_assign (v := .bool _) rfl) ?_
       refine st_nil ?_
       refine nx_then ?_
       refine cd_ret ?_
       refine res1 (v := .bool _) rfl rfl ?_
       refine ⟨?_, (From.rfl_.next E1)⟩
       first
         | rw [decide_eq_true (by omega)]
         | exact congrArg Value.bool (decide_eq_decide.2 (by omega))
  · (try first | replace Q2 := bn_t Q2 | replace Q2 := bn_f Q2)
    (try first | replace Q2 := bx_t Q2 | replace Q2 := bx_f Q2 | replace Q2 := be_t Q2 | replace Q2 := be_f Q2 | replace Q2 := of_decide_eq_true Q2 | replace Q2 := of_decide_eq_false Q2)
    first
     | (exfalso; first | omega | contradiction | (cases Q2; done))
     | skip
       refine st_unguard rfl ?_
       refine st_val (ro_fieldAddr WavHelp_f24_2 rfl) ?_
       refine st_unguard rfl ?_
       refine st_val (ro_load WavHelp_g22 rfl (by exact hk1.rd 2 rfl)) ?_
       refine st_unguard rfl ?_
       refine st_val (ro_len WavHelp_l22 rfl) ?_
       refine st_unguard rfl ?_
       refine st_val (ro_gtr rfl rfl) ?_
       refine st_val (ro_pickF (v := .bool _) rfl rfl) ?_
       refine st_val (ro_assign (v := .bool _) rfl) ?_
       refine st_nil ?_
       refine nx_then ?_
       refine cd_ret ?_
       refine res1 (v := .bool _) rfl rfl ?_
       refine ⟨?_, (From.rfl_.next E1)⟩
       first
         | rw [decide_eq_true (by omega)]
         | exact congrArg Value.bool (decide_eq_decide.2 (by omega))
set_option maxRecDepth 100000 in
set_option maxHeartbeats 400000 in
theorem told_any (n e want bad : Int) (w : World) (h : (bad ≠ 0 → e = bad ∧ n = 0) ∧ (bad = 0 → e = 0 ∧ n = want)) :
    Rt Tryd.prog 11 [.int .i64 n, .int .i64 e, .int .i64 want, .int .i64 bad] w (fun v w' => v = .bool true ∧ w = w') := by
  refine enter (n := 27) Tryd.func11 rfl rfl rfl ?_
  refine cd_seq ?_
  refine cd_region ?_
  refine st_val (ro_assign (v := .bool _) rfl) ?_
  refine st_nil ?_
  refine nx_then ?_
  refine cd_seq ?_
  refine cd_seq ?_
  refine cd_region ?_
  refine st_val (ro_move (v := .int _ _) rfl) ?_
  refine st_val (ro_neq rfl rfl) ?_
  refine st_nil ?_
  refine nx_then ?_
  refine cd_cond rfl (fun Q1 => ?_) (fun Q1 => ?_)
  · (try first | replace Q1 := bn_t Q1 | replace Q1 := bn_f Q1)
    (try first | replace Q1 := bx_t Q1 | replace Q1 := bx_f Q1 | replace Q1 := be_t Q1 | replace Q1 := be_f Q1 | replace Q1 := of_decide_eq_true Q1 | replace Q1 := of_decide_eq_false Q1)
    obtain ⟨rfl, rfl⟩ := h.1 (by omega)
    first
     | (exfalso; first | omega | contradiction | (cases Q1; done))
     | skip
       refine cd_seq ?_
       refine cd_region ?_
       refine st_val (ro_move (v := .int _ _) rfl) ?_
       refine st_call WavHelp_k13 (num_any _ _) ?_
       rintro v12 w2 ⟨rfl, rfl⟩
       refine st_val (ro_move (v := .int _ _) rfl) ?_
       refine st_val (ro_eql rfl rfl) ?_
       refine st_val (ro_move (v := .bool _) rfl) ?_
       refine st_split (t := 15) rfl (fun Q3 => ?_) (fun Q3 => ?_)
       · (try first | replace Q3 := bn_t Q3 | replace Q3 := bn_f Q3)
         (try first | replace Q3 := bx_t Q3 | replace Q3 := bx_f Q3 | replace Q3 := be_t Q3 | replace Q3 := be_f Q3 | replace Q3 := of_decide_eq_true Q3 | replace Q3 := of_decide_eq_false Q3)
         first
          | (exfalso; first | omega | contradiction | (cases Q3; done))
          | skip
            refine st_unguard rfl ?_
            refine st_val (ro_move (v := .int _ _) rfl) ?_
            refine st_unguard rfl ?_
            refine st_val (ro_eql rfl rfl) ?_
            refine st_val (ro_pickT (v := .bool _) rfl rfl) ?_
            refine st_val (ro_assign (v := .bool _) rfl) ?_
            refine st_nil ?_
            refine nx_then ?_
            refine cd_ret ?_
            refine rt_then ?_
            refine res1 (v := .bool _) rfl rfl ?_
            first
              | exact ⟨rfl, rfl⟩
              | exact ⟨congrArg Value.bool (beq_self_eq_true _), rfl⟩
       · (try first | replace Q3 := bn_t Q3 | replace Q3 := bn_f Q3)
         (try first | replace Q3 := bx_t Q3 | replace Q3 := bx_f Q3 | replace Q3 := be_t Q3 | replace Q3 := be_f Q3 | replace Q3 := of_decide_eq_true Q3 | replace Q3 := of_decide_eq_false Q3)
         first
          | (exfalso; first | omega | contradiction | (cases Q3; done))
          | skip
            refine st_gno rfl rfl ?_
            refine st_gno rfl rfl ?_
            refine st_val (ro_pickF (v := .bool _) rfl rfl) ?_
            refine st_val (ro_assign (v := .bool _) rfl) ?_
            refine st_nil ?_
            refine nx_then ?_
            refine cd_ret ?_
            refine rt_then ?_
            refine res1 (v := .bool _) rfl rfl ?_
            first
              | exact ⟨rfl, rfl⟩
              | exact ⟨congrArg Value.bool (beq_self_eq_true _), rfl⟩
  · (try first | replace Q1 := bn_t Q1 | replace Q1 := bn_f Q1)
    (try first | replace Q1 := bx_t Q1 | replace Q1 := bx_f Q1 | replace Q1 := be_t Q1 | replace Q1 := be_f Q1 | replace Q1 := of_decide_eq_true Q1 | replace Q1 := of_decide_eq_false Q1)
    obtain ⟨rfl, rfl⟩ := h.2 (by omega)
    first
     | (exfalso; first | omega | contradiction | (cases Q1; done))
     | skip
       refine cd_skip ?_
       refine nx_then ?_
       refine cd_seq ?_
       refine cd_region ?_
       refine st_val (ro_move (v := .int _ _) rfl) ?_
       refine st_call WavHelp_k13 (num_any _ _) ?_
       rintro v20 w4 ⟨rfl, rfl⟩
       refine st_val (ro_eql rfl rfl) ?_
       refine st_val (ro_move (v := .bool _) rfl) ?_
       refine st_split (t := 22) rfl (fun Q5 => ?_) (fun Q5 => ?_)
       · (try first | replace Q5 := bn_t Q5 | replace Q5 := bn_f Q5)
         (try first | replace Q5 := bx_t Q5 | replace Q5 := bx_f Q5 | replace Q5 := be_t Q5 | replace Q5 := be_f Q5 | replace Q5 := of_decide_eq_true Q5 | replace Q5 := of_decide_eq_false Q5)
         first
          | (exfalso; first | omega | contradiction | (cases Q5; done))
          | skip
            refine st_unguard rfl ?_
            refine st_val (ro_move (v := .int _ _) rfl) ?_
            refine st_unguard rfl ?_
            refine st_val (ro_move (v := .int _ _) rfl) ?_
            refine st_unguard rfl ?_
            refine st_val (ro_eql rfl rfl) ?_
            refine st_val (ro_pickT (v := .bool _) rfl rfl) ?_
            refine st_val (ro_assign (v := .bool _) rfl) ?_
            refine st_nil ?_
            refine nx_then ?_
            refine cd_ret ?_
            refine res1 (v := .bool _) rfl rfl ?_
            first
              | exact ⟨rfl, rfl⟩
              | exact ⟨congrArg Value.bool (beq_self_eq_true _), rfl⟩
       · (try first | replace Q5 := bn_t Q5 | replace Q5 := bn_f Q5)
         (try first | replace Q5 := bx_t Q5 | replace Q5 := bx_f Q5 | replace Q5 := be_t Q5 | replace Q5 := be_f Q5 | replace Q5 := of_decide_eq_true Q5 | replace Q5 := of_decide_eq_false Q5)
         first
          | (exfalso; first | omega | contradiction | (cases Q5; done))
          | skip
            refine st_gno rfl rfl ?_
            refine st_gno rfl rfl ?_
            refine st_gno rfl rfl ?_
            refine st_val (ro_pickF (v := .bool _) rfl rfl) ?_
            refine st_val (ro_assign (v := .bool _) rfl) ?_
            refine st_nil ?_
            refine nx_then ?_
            refine cd_ret ?_
            refine res1 (v := .bool _) rfl rfl ?_
            first
              | exact ⟨rfl, rfl⟩
              | exact ⟨congrArg Value.bool (beq_self_eq_true _), rfl⟩
set_option maxRecDepth 100000 in
set_option maxHeartbeats 400000 in
theorem spoilNums_any (base : Nat) (A : Option Addr) (c : Nat) (l : List Int) (w : World) (ho : w.ownsRow base 3 1 (.slice A l.length c) l.length (l.map iV)) (hn : l.length * 8 ≤ 140737488351232) (hbs : base ≤ w.heap.size) :
    Rt Tryd.prog 18 [.slice A l.length c] w (fun _ w' => w.grownBy w' (A.map (·.block))) := by
  refine enter (n := 15) Tryd.func18 rfl rfl rfl ?_
  refine cd_seq ?_
  refine cd_seq ?_
  refine cd_region ?_
  refine st_val (ro_assign (v := .int _ _) rfl) ?_
  refine st_nil ?_
  refine nx_then ?_
  refine cd_block ?_
  refine cd_loop (G := List Int × Nat) [3, 4, 5, 6, 7, 8, 9, 10, 11] (fun (_, k) => [(2, .int .i64 (k : Nat))]) (fun (l1, k) w' => k ≤ l.length ∧ l1.length = l.length ∧ w'.ownsRow base 3 1 (.slice A l.length c) l.length (l1.map iV) ∧ w.grownBy w' (A.map (·.block))) (fun (_, k) => l.length - k) ((l, 0)) ⟨rfl, trivial⟩ ?_ ?_
  · exact ⟨Nat.zero_le _, rfl, ho, (From.rfl_ (a := w)).grown _⟩
  rintro ⟨l1, k⟩ ρ1 w1 ⟨hk, hlen, ho1, hG⟩
  refine cd_seq ?_
  refine cd_seq ?_
  refine cd_region ?_
  refine st_val (ro_move (v := .int _ _) rfl) ?_
  refine st_val (ro_move (v := .slice _ _ _) rfl) ?_
  refine st_val (ro_len WavHelp_l22 rfl) ?_
  refine st_val (ro_lss rfl rfl) ?_
  refine st_nil ?_
  refine nx_then ?_
  refine cd_cond rfl (fun Q2 => ?_) (fun Q2 => ?_)
  · (try first | replace Q2 := bn_t Q2 | replace Q2 := bn_f Q2)
    (try first | replace Q2 := bx_t Q2 | replace Q2 := bx_f Q2 | replace Q2 := be_t Q2 | replace Q2 := be_f Q2 | replace Q2 := of_decide_eq_true Q2 | replace Q2 := of_decide_eq_false Q2)
    obtain ⟨g, rfl⟩ := own_some ho (by omega)
    first
     | (exfalso; first | omega | contradiction | (cases Q2; done))
     | skip
       refine cd_skip ?_
       refine nx_then ?_
       refine cd_seq ?_
       refine cd_block ?_
       refine cd_region ?_
       refine st_val (ro_move (v := .slice _ _ _) rfl) ?_
       refine st_val (ro_move (v := .int _ _) rfl) ?_
       refine st_val (ro_indexAddr0 WavHelp_e22 rfl rfl (by omega)) ?_
       refine st_putOwn (v := .int _ _) WavHelp_z3 rfl rfl rfl (ho1) (by omega) ?_
       intro w3 O3 P3
       refine st_nil ?_
       refine nx_block ?_
       refine nx_then ?_
       refine cd_region ?_
       refine st_val (ro_move (v := .int _ _) rfl) ?_
       refine st_val (ro_addN (b := 1) rfl rfl (by omega)) ?_
       refine st_val (ro_assign (v := .int _ _) rfl) ?_
       refine st_nil ?_
       refine nx_cut ((l1.set k (-99), k + 1)) ⟨(by first | rfl | (refine int_eq ?_; omega)), trivial⟩ (by (iterate 20 refine agr_cons rfl ?_); exact agr_rfl) ⟨?_, ?_⟩
       · exact ⟨by omega, (List.length_set ..).trans hlen, by rw [List.map_set]; exact P3, grown_trans hG O3.grown⟩
       · show _ - _ < _ - _; omega
  · (try first | replace Q2 := bn_t Q2 | replace Q2 := bn_f Q2)
    (try first | replace Q2 := bx_t Q2 | replace Q2 := bx_f Q2 | replace Q2 := be_t Q2 | replace Q2 := be_f Q2 | replace Q2 := of_decide_eq_true Q2 | replace Q2 := of_decide_eq_false Q2)
    first
     | (exfalso; first | omega | contradiction | (cases Q2; done))
     | skip
       refine cd_exit ?_
       refine ex_then ?_
       refine ex_then ?_
       refine ex_block ?_
       refine nx_then ?_
       refine cd_region ?_
       refine st_val (ro_move (v := .slice _ _ _) rfl) ?_
       refine st_lit1 (v := .int _ _) WavHelp_q22 rfl rfl rfl ?_
       intro b13 w4 E13 hb13 hk13
       refine st_appendB (base := base) WavHelp_q22 rfl (by decide) rfl (A := A) (xs := l1.map iV) (news := [.int .i64 5]) (ho1.kept_from E13) (by have := hG.size; have := E13.size; omega) rfl rfl (fun _ => ⟨b13, 0, rfl, hk13.range 0 _ (fun j v h => by simpa using h)⟩) (fun h => by cases h) (by simp [Value.oneCell']) (by omega) (by omega) ?_
       intro A14 c14 w5 ho14 hg14
       refine st_val (ro_assign (v := .slice _ _ _) rfl) ?_
       refine st_nil ?_
       refine end_ret ?_
       refine res0 rfl ?_
       exact grown_trans hG (grown_trans (E13.grown _) hg14)
set_option maxRecDepth 100000 in
set_option maxHeartbeats 400000 in
theorem refMay_any (k : Int) (A : Option Addr) (c : Nat) (xs : List Int) (w : World) (hr : RowOf iV w A xs) (hl : xs.length ≤ 1000000000000) :
    Rt Tryd.prog 31 [.int .i64 k, .slice A xs.length c] w (fun v w' => v = .bool (!xs.any (badSym k)) ∧ w = w') := by
  refine enter (n := 25) Tryd.func31 rfl rfl rfl ?_
  refine cd_seq ?_
  refine cd_region ?_
  refine st_val (ro_assign (v := .bool _) rfl) ?_
  refine st_nil ?_
  refine nx_then ?_
  refine cd_seq ?_
  refine cd_seq ?_
  refine cd_region ?_
  refine st_val (ro_assign (v := .int _ _) rfl) ?_
  refine st_nil ?_
  refine nx_then ?_
  refine cd_block ?_
  refine cd_loop (G := Nat) [4, 6, 7, 8, 9, 10, 11, 12, 13, 14, 15, 16, 17, 18, 19, 20, 21, 22, 23, 24] (fun i => [(5, .int .i64 (i : Nat))]) (fun i w' => i ≤ xs.length ∧ (xs.take i).any (badSym k) = false ∧ w = w') (fun i => xs.length - i) (0) ⟨rfl, trivial⟩ ?_ ?_
  · exact ⟨Nat.zero_le _, rfl, rfl⟩
  rintro i ρ1 w1 ⟨hi, han, rfl⟩
  refine cd_seq ?_
  refine cd_seq ?_
  refine cd_region ?_
  refine st_val (ro_move (v := .int _ _) rfl) ?_
  refine st_val (ro_move (v := .slice _ _ _) rfl) ?_
  refine st_val (ro_len WavHelp_l22 rfl) ?_
  refine st_val (ro_lss rfl rfl) ?_
  refine st_nil ?_
  refine nx_then ?_
  refine cd_cond rfl (fun Q2 => ?_) (fun Q2 => ?_)
  · (try first | replace Q2 := bn_t Q2 | replace Q2 := bn_f Q2)
    (try first | replace Q2 := bx_t Q2 | replace Q2 := bx_f Q2 | replace Q2 := be_t Q2 | replace Q2 := be_f Q2 | replace Q2 := of_decide_eq_true Q2 | replace Q2 := of_decide_eq_false Q2)
    have hiL : i < xs.length := by omega
    obtain ⟨ba, oa, hA, hca⟩ := hr (by omega)
    subst hA
    first
     | (exfalso; first | omega | contradiction | (cases Q2; done))
     | skip
       refine cd_skip ?_
       refine nx_then ?_
       refine cd_seq ?_
       refine cd_block ?_
       refine cd_seq ?_
       refine cd_region ?_
       refine st_val (ro_move (v := .slice _ _ _) rfl) ?_
       refine st_val (ro_move (v := .int _ _) rfl) ?_
       refine st_val (ro_indexAddr1 WavHelp_e22 rfl rfl (by omega)) ?_
       refine st_val (ro_load WavHelp_g3 rfl (by exact hca i hiL)) ?_
       refine st_val (ro_lss rfl rfl) ?_
       refine st_val (ro_move (v := .bool _) rfl) ?_
       refine st_split (t := 17) rfl (fun Q3 => ?_) (fun Q3 => ?_)
       · (try first | replace Q3 := bn_t Q3 | replace Q3 := bn_f Q3)
         (try first | replace Q3 := bx_t Q3 | replace Q3 := bx_f Q3 | replace Q3 := be_t Q3 | replace Q3 := be_f Q3 | replace Q3 := of_decide_eq_true Q3 | replace Q3 := of_decide_eq_false Q3)
         first
          | (exfalso; first | omega | contradiction | (cases Q3; done))
          | skip
            refine st_gno rfl rfl ?_
            refine st_gno rfl rfl ?_
            refine st_gno rfl rfl ?_
            refine st_gno rfl rfl ?_
            refine st_gno rfl rfl ?_
            refine st_gno rfl rfl ?_
            refine st_val (ro_pickT (v := .bool _) rfl rfl) ?_
            refine st_nil ?_
            refine nx_then ?_
            refine cd_condT rfl ?_
            refine cd_seq ?_
            refine cd_region ?_
            refine st_val (ro_assign (v := .bool _) rfl) ?_
            refine st_nil ?_
            refine nx_then ?_
            refine cd_ret ?_
            refine rt_block ?_
            refine rt_then ?_
            refine rt_then ?_
            refine rt_block ?_
            refine rt_then ?_
            refine res1 (v := .bool _) rfl rfl ?_
            have hbd2 : badSym k xs[i] = true := decide_eq_true (by omega)
            exact ⟨by rw [any_at hiL hbd2]; rfl, rfl⟩
       · (try first | replace Q3 := bn_t Q3 | replace Q3 := bn_f Q3)
         (try first | replace Q3 := bx_t Q3 | replace Q3 := bx_f Q3 | replace Q3 := be_t Q3 | replace Q3 := be_f Q3 | replace Q3 := of_decide_eq_true Q3 | replace Q3 := of_decide_eq_false Q3)
         first
          | (exfalso; first | omega | contradiction | (cases Q3; done))
          | skip
            refine st_unguard rfl ?_
            refine st_val (ro_move (v := .slice _ _ _) rfl) ?_
            refine st_unguard rfl ?_
            refine st_val (ro_move (v := .int _ _) rfl) ?_
            refine st_unguard rfl ?_
            refine st_val (ro_indexAddr1 WavHelp_e22 rfl rfl (by omega)) ?_
            refine st_unguard rfl ?_
            refine st_val (ro_load WavHelp_g3 rfl (by exact hca i hiL)) ?_
            refine st_unguard rfl ?_
            refine st_val (ro_move (v := .int _ _) rfl) ?_
            refine st_unguard rfl ?_
            refine st_val (ro_geq rfl rfl) ?_
            refine st_val (ro_pickF (v := .bool _) rfl rfl) ?_
            refine st_nil ?_
            refine nx_then ?_
            refine cd_cond rfl (fun Q4 => ?_) (fun Q4 => ?_)
            · (try first | replace Q4 := bn_t Q4 | replace Q4 := bn_f Q4)
              (try first | replace Q4 := bx_t Q4 | replace Q4 := bx_f Q4 | replace Q4 := be_t Q4 | replace Q4 := be_f Q4 | replace Q4 := of_decide_eq_true Q4 | replace Q4 := of_decide_eq_false Q4)
              have hbd : badSym k xs[i] = true := decide_eq_true (by omega)
              first
               | (exfalso; first | omega | contradiction | (cases Q4; done))
               | skip
                 refine cd_seq ?_
                 refine cd_region ?_
                 refine st_val (ro_assign (v := .bool _) rfl) ?_
                 refine st_nil ?_
                 refine nx_then ?_
                 refine cd_ret ?_
                 refine rt_block ?_
                 refine rt_then ?_
                 refine rt_then ?_
                 refine rt_block ?_
                 refine rt_then ?_
                 refine res1 (v := .bool _) rfl rfl ?_
                 have hbd2 : badSym k xs[i] = true := decide_eq_true (by omega)
                 exact ⟨by rw [any_at hiL hbd2]; rfl, rfl⟩
            · (try first | replace Q4 := bn_t Q4 | replace Q4 := bn_f Q4)
              (try first | replace Q4 := bx_t Q4 | replace Q4 := bx_f Q4 | replace Q4 := be_t Q4 | replace Q4 := be_f Q4 | replace Q4 := of_decide_eq_true Q4 | replace Q4 := of_decide_eq_false Q4)
              have hbd : badSym k xs[i] = false := decide_eq_false (by omega)
              first
               | (exfalso; first | omega | contradiction | (cases Q4; done))
               | skip
                 refine cd_skip ?_
                 refine nx_block ?_
                 refine nx_then ?_
                 refine cd_region ?_
                 refine st_val (ro_move (v := .int _ _) rfl) ?_
                 refine st_val (ro_addN (b := 1) rfl rfl (by omega)) ?_
                 refine st_val (ro_assign (v := .int _ _) rfl) ?_
                 refine st_nil ?_
                 refine nx_cut (i + 1) ⟨(by first | rfl | (refine int_eq ?_; omega)), trivial⟩ (by (iterate 42 refine agr_cons rfl ?_); exact agr_rfl) ⟨?_, ?_⟩
                 · exact ⟨by omega, any_take hiL han hbd, rfl⟩
                 · omega
  · (try first | replace Q2 := bn_t Q2 | replace Q2 := bn_f Q2)
    (try first | replace Q2 := bx_t Q2 | replace Q2 := bx_f Q2 | replace Q2 := be_t Q2 | replace Q2 := be_f Q2 | replace Q2 := of_decide_eq_true Q2 | replace Q2 := of_decide_eq_false Q2)
    first
     | (exfalso; first | omega | contradiction | (cases Q2; done))
     | skip
       refine cd_exit ?_
       refine ex_then ?_
       refine ex_then ?_
       refine ex_block ?_
       refine nx_then ?_
       refine cd_seq ?_
       refine cd_region ?_
       refine st_val (ro_assign (v := .bool _) rfl) ?_
       refine st_nil ?_
       refine nx_then ?_
       refine cd_ret ?_
       refine res1 (v := .bool _) rfl rfl ?_
       obtain rfl : i = xs.length := by omega
       rw [List.take_length] at han
       exact ⟨by rw [han]; rfl, rfl⟩
set_option maxRecDepth 100000 in
set_option maxHeartbeats 400000 in
theorem refTree_any (k : Int) (A : Option Addr) (c : Nat) (xs : List Int) (w : World) (hr : RowOf iV w A xs) (hl : xs.length ≤ 1000000000000) :
    Rt Tryd.prog 19 [.int .i64 k, .slice A xs.length c] w (fun v w' => v = .int .i64 (chkW k xs) ∧ w = w') := by
  refine enter (n := 20) Tryd.func19 rfl rfl rfl ?_
  refine cd_seq ?_
  refine cd_region ?_
  refine st_val (ro_assign (v := .int _ _) rfl) ?_
  refine st_nil ?_
  refine nx_then ?_
  refine cd_seq ?_
  refine cd_seq ?_
  refine cd_region ?_
  refine st_val (ro_move (v := .int _ _) rfl) ?_
  refine st_val (ro_lss rfl rfl) ?_
  refine st_val (ro_move (v := .bool _) rfl) ?_
  refine st_split (t := 7) rfl (fun Q1 => ?_) (fun Q1 => ?_)
  · (try first | replace Q1 := bn_t Q1 | replace Q1 := bn_f Q1)
    (try first | replace Q1 := bx_t Q1 | replace Q1 := bx_f Q1 | replace Q1 := be_t Q1 | replace Q1 := be_f Q1 | replace Q1 := of_decide_eq_true Q1 | replace Q1 := of_decide_eq_false Q1)
    first
     | (exfalso; first | omega | contradiction | (cases Q1; done))
     | skip
       refine st_gno rfl rfl ?_
       refine st_gno rfl rfl ?_
       refine st_val (ro_pickT (v := .bool _) rfl rfl) ?_
       refine st_val (ro_move (v := .bool _) rfl) ?_
       refine st_gno rfl rfl ?_
       refine st_gno rfl rfl ?_
       refine st_gno rfl rfl ?_
       refine st_gno rfl rfl ?_
       refine st_val (ro_pickT (v := .bool _) rfl rfl) ?_
       refine st_nil ?_
       refine nx_then ?_
       refine cd_condT rfl ?_
       refine cd_seq ?_
       refine cd_region ?_
       refine st_val (ro_assign (v := .int _ _) rfl) ?_
       refine st_nil ?_
       refine nx_then ?_
       refine cd_ret ?_
       refine rt_then ?_
       refine res1 (v := .int _ _) rfl rfl ?_
       refine ⟨int_eq ?_, rfl⟩
       have h17 : k < 1 ∨ 512 < k ∨ xs.any (badSym k) = true := by first | exact h16 | (left; omega) | (right; left; omega)
       unfold chkW
       by_cases h1 : k < 1 ∨ 512 < k
       · rw [if_pos h1]
       · rw [if_neg h1, if_pos (by rcases h17 with a | a | a <;> first | exact a | omega)]
  · (try first | replace Q1 := bn_t Q1 | replace Q1 := bn_f Q1)
    (try first | replace Q1 := bx_t Q1 | replace Q1 := bx_f Q1 | replace Q1 := be_t Q1 | replace Q1 := be_f Q1 | replace Q1 := of_decide_eq_true Q1 | replace Q1 := of_decide_eq_false Q1)
    first
     | (exfalso; first | omega | contradiction | (cases Q1; done))
     | skip
       refine st_unguard rfl ?_
       refine st_val (ro_move (v := .int _ _) rfl) ?_
       refine st_unguard rfl ?_
       refine st_val (ro_gtr rfl rfl) ?_
       refine st_val (ro_pickF (v := .bool _) rfl rfl) ?_
       refine st_val (ro_move (v := .bool _) rfl) ?_
       refine st_split (t := 11) rfl (fun Q2 => ?_) (fun Q2 => ?_)
       · (try first | replace Q2 := bn_t Q2 | replace Q2 := bn_f Q2)
         (try first | replace Q2 := bx_t Q2 | replace Q2 := bx_f Q2 | replace Q2 := be_t Q2 | replace Q2 := be_f Q2 | replace Q2 := of_decide_eq_true Q2 | replace Q2 := of_decide_eq_false Q2)
         first
          | (exfalso; first | omega | contradiction | (cases Q2; done))
          | skip
            refine st_gno rfl rfl ?_
            refine st_gno rfl rfl ?_
            refine st_gno rfl rfl ?_
            refine st_gno rfl rfl ?_
            refine st_val (ro_pickT (v := .bool _) rfl rfl) ?_
            refine st_nil ?_
            refine nx_then ?_
            refine cd_condT rfl ?_
            refine cd_seq ?_
            refine cd_region ?_
            refine st_val (ro_assign (v := .int _ _) rfl) ?_
            refine st_nil ?_
            refine nx_then ?_
            refine cd_ret ?_
            refine rt_then ?_
            refine res1 (v := .int _ _) rfl rfl ?_
            refine ⟨int_eq ?_, rfl⟩
            have h17 : k < 1 ∨ 512 < k ∨ xs.any (badSym k) = true := by first | exact h16 | (left; omega) | (right; left; omega)
            unfold chkW
            by_cases h1 : k < 1 ∨ 512 < k
            · rw [if_pos h1]
            · rw [if_neg h1, if_pos (by rcases h17 with a | a | a <;> first | exact a | omega)]
       · (try first | replace Q2 := bn_t Q2 | replace Q2 := bn_f Q2)
         (try first | replace Q2 := bx_t Q2 | replace Q2 := bx_f Q2 | replace Q2 := be_t Q2 | replace Q2 := be_f Q2 | replace Q2 := of_decide_eq_true Q2 | replace Q2 := of_decide_eq_false Q2)
         first
          | (exfalso; first | omega | contradiction | (cases Q2; done))
          | skip
            refine st_unguard rfl ?_
            refine st_val (ro_move (v := .int _ _) rfl) ?_
            refine st_unguard rfl ?_
            refine st_val (ro_move (v := .slice _ _ _) rfl) ?_
            refine st_unguard rfl ?_
            refine st_call WavHelp_k31 (refMay_any k A c xs _ hr hl) ?_
            rintro v14 w3 ⟨rfl, rfl⟩
            refine st_unguard rfl ?_
            refine st_val (ro_not rfl) ?_
            refine st_val (ro_pickF (v := .bool _) rfl rfl) ?_
            refine st_nil ?_
            refine nx_then ?_
            refine cd_cond rfl (fun Q4 => ?_) (fun Q4 => ?_)
            · (try first | replace Q4 := bn_t Q4 | replace Q4 := bn_f Q4)
              (try first | replace Q4 := bx_t Q4 | replace Q4 := bx_f Q4 | replace Q4 := be_t Q4 | replace Q4 := be_f Q4 | replace Q4 := of_decide_eq_true Q4 | replace Q4 := of_decide_eq_false Q4)
              have h16 : k < 1 ∨ 512 < k ∨ xs.any (badSym k) = true := by first | omega | (right; right; simpa using Q4)
              first
               | (exfalso; first | omega | contradiction | (cases Q4; done))
               | skip
                 refine cd_seq ?_
                 refine cd_region ?_
                 refine st_val (ro_assign (v := .int _ _) rfl) ?_
                 refine st_nil ?_
                 refine nx_then ?_
                 refine cd_ret ?_
                 refine rt_then ?_
                 refine res1 (v := .int _ _) rfl rfl ?_
                 refine ⟨int_eq ?_, rfl⟩
                 have h17 : k < 1 ∨ 512 < k ∨ xs.any (badSym k) = true := by first | exact h16 | (left; omega) | (right; left; omega)
                 unfold chkW
                 by_cases h1 : k < 1 ∨ 512 < k
                 · rw [if_pos h1]
                 · rw [if_neg h1, if_pos (by rcases h17 with a | a | a <;> first | exact a | omega)]
            · (try first | replace Q4 := bn_t Q4 | replace Q4 := bn_f Q4)
              (try first | replace Q4 := bx_t Q4 | replace Q4 := bx_f Q4 | replace Q4 := be_t Q4 | replace Q4 := be_f Q4 | replace Q4 := of_decide_eq_true Q4 | replace Q4 := of_decide_eq_false Q4)
              have h16 : xs.any (badSym k) = false := by simpa using Q4
              first
               | (exfalso; first | omega | contradiction | (cases Q4; done))
               | skip
                 refine cd_skip ?_
                 refine nx_then ?_
                 refine cd_seq ?_
                 refine cd_seq ?_
                 refine cd_region ?_
                 refine st_val (ro_move (v := .slice _ _ _) rfl) ?_
                 refine st_val (ro_len WavHelp_l22 rfl) ?_
                 refine st_val (ro_gtr rfl rfl) ?_
                 refine st_nil ?_
                 refine nx_then ?_
                 refine cd_cond rfl (fun Q5 => ?_) (fun Q5 => ?_)
                 · (try first | replace Q5 := bn_t Q5 | replace Q5 := bn_f Q5)
                   (try first | replace Q5 := bx_t Q5 | replace Q5 := bx_f Q5 | replace Q5 := be_t Q5 | replace Q5 := be_f Q5 | replace Q5 := of_decide_eq_true Q5 | replace Q5 := of_decide_eq_false Q5)
                   first
                    | (exfalso; first | omega | contradiction | (cases Q5; done))
                    | skip
                      refine cd_seq ?_
                      refine cd_region ?_
                      refine st_val (ro_assign (v := .int _ _) rfl) ?_
                      refine st_nil ?_
                      refine nx_then ?_
                      refine cd_ret ?_
                      refine rt_then ?_
                      refine res1 (v := .int _ _) rfl rfl ?_
                      exact ⟨int_eq (by unfold chkW; rw [if_neg (by omega), if_neg (by rw [h16]; simp), if_pos (by omega)]), rfl⟩
                 · (try first | replace Q5 := bn_t Q5 | replace Q5 := bn_f Q5)
                   (try first | replace Q5 := bx_t Q5 | replace Q5 := bx_f Q5 | replace Q5 := be_t Q5 | replace Q5 := be_f Q5 | replace Q5 := of_decide_eq_true Q5 | replace Q5 := of_decide_eq_false Q5)
                   first
                    | (exfalso; first | omega | contradiction | (cases Q5; done))
                    | skip
                      refine cd_skip ?_
                      refine nx_then ?_
                      refine cd_seq ?_
                      refine cd_region ?_
                      refine st_val (ro_assign (v := .int _ _) rfl) ?_
                      refine st_nil ?_
                      refine nx_then ?_
                      refine cd_ret ?_
                      refine res1 (v := .int _ _) rfl rfl ?_
                      exact ⟨int_eq (by unfold chkW; rw [if_neg (by omega), if_neg (by rw [h16]; simp), if_neg (by omega)]), rfl⟩
theorem wakes_k : kV 3 [2, 0, 2] 2 3 = 2 ∧ kE 3 [2, 0, 2] 2 3 = 0 ∧ chkW 3 [2, 0, 2] = 0 := by decide
theorem rank_w (base b : Nat) (w : World) (ht : TreeAt w base b 3 [2, 0, 2]) : Rt Tryd.prog 15 [.pointer (some ⟨b, 0, none⟩), .int .i64 2, .int .i64 3] w fun v w' => v = .tuple #[.int .i64 2, .int .i64 0] ∧ From w w' := by
  have h := rankT base b 3 [2, 0, 2] w ht 2 3
  rw [wakes_k.1, wakes_k.2.1] at h
  exact h
set_option maxRecDepth 100000 in
set_option maxHeartbeats 400000 in
theorem wakes_any (w : World) :
    Rt Tryd.prog 8 [] w (fun v w' => v = .bool true ∧ From w w') := by
  refine enter (n := 29) Tryd.func8 rfl rfl rfl ?_
  refine cd_seq ?_
  refine cd_region ?_
  refine st_val (ro_assign (v := .bool _) rfl) ?_
  refine st_nil ?_
  refine nx_then ?_
  refine cd_seq ?_
  refine cd_region ?_
  refine st_lits [.const (.int .i64 2), .const (.int .i64 0), .const (.int .i64 2)] [.int .i64 2, .int .i64 0, .int .i64 2] WavHelp_q22 rfl rfl rfl rfl (by simp [Value.cells]) ?_
  intro b6 w1 E6 hb6 hk6
  refine st_call WavHelp_k12 (new_w 3 (some ⟨b6, 0, none⟩) 3 3 [2, 0, 2] _ (RowOf.blk hk6 (fun i hi => by match i, hi with | 0, _ => rfl | 1, _ => rfl | 2, _ => rfl)) rfl (by decide) (fun q _ hq => by cases hq; exact hk6.lt)) ?_
  rintro v7 w2 ⟨hn7, E7⟩
  rcases hn7 with ⟨hne, _⟩ | ⟨K, L, b, hK, hL, rfl, hv⟩
  · exact absurd wakes_k.2.2 hne
  · obtain rfl : K = 3 := by omega
    obtain rfl : [2, 0, 2] = L := map_cast_inj hL
    refine st_val (ro_move (v := .tuple _) rfl) ?_
    refine st_val (ro_extract rfl rfl) ?_
    refine st_val (ro_extract rfl rfl) ?_
    refine st_val (ro_assign (v := .pointer _) rfl) ?_
    refine st_val (ro_assign (v := .int _ _) rfl) ?_
    refine st_nil ?_
    refine nx_then ?_
    refine cd_seq ?_
    refine cd_seq ?_
    refine cd_region ?_
    refine st_val (ro_move (v := .int _ _) rfl) ?_
    refine st_call WavHelp_k13 (num_any _ _) ?_
    rintro v11 w3 ⟨rfl, rfl⟩
    refine st_val (ro_neq rfl rfl) ?_
    refine st_val (ro_move (v := .bool _) rfl) ?_
    refine st_split (t := 13) rfl (fun Q4 => ?_) (fun Q4 => ?_)
    · (try first | replace Q4 := bn_t Q4 | replace Q4 := bn_f Q4)
      (try first | replace Q4 := bx_t Q4 | replace Q4 := bx_f Q4 | replace Q4 := be_t Q4 | replace Q4 := be_f Q4 | replace Q4 := of_decide_eq_true Q4 | replace Q4 := of_decide_eq_false Q4)
      first
       | (exfalso; first | omega | contradiction | (cases Q4; done))
       | skip
         refine st_gno rfl rfl ?_
         refine st_gno rfl rfl ?_
         refine st_val (ro_pickT (v := .bool _) rfl rfl) ?_
         refine st_nil ?_
         refine nx_then ?_
         refine cd_condT rfl ?_
         refine cd_seq ?_
         refine cd_region ?_
         refine st_val (ro_assign (v := .bool _) rfl) ?_
         refine st_nil ?_
         refine nx_then ?_
         refine cd_ret ?_
         refine rt_then ?_
         refine res1 (v := .bool _) rfl rfl ?_
         exact ⟨rfl, ((From.rfl_.next E6).next E7)⟩
    · (try first | replace Q4 := bn_t Q4 | replace Q4 := bn_f Q4)
      (try first | replace Q4 := bx_t Q4 | replace Q4 := bx_f Q4 | replace Q4 := be_t Q4 | replace Q4 := be_f Q4 | replace Q4 := of_decide_eq_true Q4 | replace Q4 := of_decide_eq_false Q4)
      first
       | (exfalso; first | omega | contradiction | (cases Q4; done))
       | skip
         refine st_unguard rfl ?_
         refine st_val (ro_move (v := .pointer _) rfl) ?_
         refine st_unguard rfl ?_
         refine st_val (ro_eqlNil WavHelp_p26 rfl rfl) ?_
         refine st_val (ro_pickF (v := .bool _) rfl rfl) ?_
         refine st_nil ?_
         refine nx_then ?_
         refine cd_cond rfl (fun Q5 => ?_) (fun Q5 => ?_)
         · (try first | replace Q5 := bn_t Q5 | replace Q5 := bn_f Q5)
           (try first | replace Q5 := bx_t Q5 | replace Q5 := bx_f Q5 | replace Q5 := be_t Q5 | replace Q5 := be_f Q5 | replace Q5 := of_decide_eq_true Q5 | replace Q5 := of_decide_eq_false Q5)
           first
            | (exfalso; first | omega | contradiction | (cases Q5; done))
            | skip
              refine cd_seq ?_
              refine cd_region ?_
              refine st_val (ro_assign (v := .bool _) rfl) ?_
              refine st_nil ?_
              refine nx_then ?_
              refine cd_ret ?_
              refine rt_then ?_
              refine res1 (v := .bool _) rfl rfl ?_
              exact ⟨rfl, ((From.rfl_.next E6).next E7)⟩
         · (try first | replace Q5 := bn_t Q5 | replace Q5 := bn_f Q5)
           (try first | replace Q5 := bx_t Q5 | replace Q5 := bx_f Q5 | replace Q5 := be_t Q5 | replace Q5 := be_f Q5 | replace Q5 := of_decide_eq_true Q5 | replace Q5 := of_decide_eq_false Q5)
           first
            | (exfalso; first | omega | contradiction | (cases Q5; done))
            | skip
              refine cd_skip ?_
              refine nx_then ?_
              refine cd_seq ?_
              refine cd_region ?_
              refine st_val (ro_move (v := .pointer _) rfl) ?_
              refine st_call WavHelp_k15 (rank_w _ b _ (hv.from_ From.rfl_)) ?_
              rintro v19 w6 ⟨rfl, E19⟩
              refine st_val (ro_move (v := .tuple _) rfl) ?_
              refine st_val (ro_extract rfl rfl) ?_
              refine st_val (ro_extract rfl rfl) ?_
              refine st_val (ro_assign (v := .int _ _) rfl) ?_
              refine st_val (ro_assign (v := .int _ _) rfl) ?_
              refine st_nil ?_
              refine nx_then ?_
              refine cd_seq ?_
              refine cd_region ?_
              refine st_val (ro_move (v := .int _ _) rfl) ?_
              refine st_call WavHelp_k13 (num_any _ _) ?_
              rintro v23 w7 ⟨rfl, rfl⟩
              refine st_val (ro_eql rfl rfl) ?_
              refine st_val (ro_move (v := .bool _) rfl) ?_
              refine st_split (t := 25) rfl (fun Q8 => ?_) (fun Q8 => ?_)
              · (try first | replace Q8 := bn_t Q8 | replace Q8 := bn_f Q8)
                (try first | replace Q8 := bx_t Q8 | replace Q8 := bx_f Q8 | replace Q8 := be_t Q8 | replace Q8 := be_f Q8 | replace Q8 := of_decide_eq_true Q8 | replace Q8 := of_decide_eq_false Q8)
                first
                 | (exfalso; first | omega | contradiction | (cases Q8; done))
                 | skip
                   refine st_unguard rfl ?_
                   refine st_val (ro_move (v := .int _ _) rfl) ?_
                   refine st_unguard rfl ?_
                   refine st_val (ro_eql rfl rfl) ?_
                   refine st_val (ro_pickT (v := .bool _) rfl rfl) ?_
                   refine st_val (ro_assign (v := .bool _) rfl) ?_
                   refine st_nil ?_
                   refine nx_then ?_
                   refine cd_ret ?_
                   refine res1 (v := .bool _) rfl rfl ?_
                   exact ⟨rfl, (((From.rfl_.next E6).next E7).next E19)⟩
              · (try first | replace Q8 := bn_t Q8 | replace Q8 := bn_f Q8)
                (try first | replace Q8 := bx_t Q8 | replace Q8 := bx_f Q8 | replace Q8 := be_t Q8 | replace Q8 := be_f Q8 | replace Q8 := of_decide_eq_true Q8 | replace Q8 := of_decide_eq_false Q8)
                first
                 | (exfalso; first | omega | contradiction | (cases Q8; done))
                 | skip
                   refine st_gno rfl rfl ?_
                   refine st_gno rfl rfl ?_
                   refine st_val (ro_pickF (v := .bool _) rfl rfl) ?_
                   refine st_val (ro_assign (v := .bool _) rfl) ?_
                   refine st_nil ?_
                   refine nx_then ?_
                   refine cd_ret ?_
                   refine res1 (v := .bool _) rfl rfl ?_
                   exact ⟨rfl, (((From.rfl_.next E6).next E7).next E19)⟩
set_option maxRecDepth 100000 in
set_option maxHeartbeats 400000 in
theorem made_rt (k : Int) (A B : Option Addr) (ca m cb : Nat) (xs : List Int) (w : World) (hr : RowOf iV w A xs) (hl : xs.length ≤ 300) :
    Rt Tryd.prog 7 [.agg #[.int .i64 k, .slice A xs.length ca, .slice B m cb]] w (fun v w' => MadeT w.heap.size w' k xs v ∧ From w w') := by
  refine enter (n := 38) Tryd.func7 rfl rfl rfl ?_
  refine cd_seq ?_
  refine cd_region ?_
  refine st_box (v := .agg _) rfl ?_
  intro b1 w1 E1 hb1 hk1
  refine st_val (ro_assign (v := .pointer _) rfl) ?_
  refine st_val (ro_assign (v := .int _ _) rfl) ?_
  refine st_nil ?_
  refine nx_then ?_
  refine cd_seq ?_
  refine cd_region ?_
  refine st_val (ro_fieldAddr WavHelp_f24_1 rfl) ?_
  refine st_val (ro_load WavHelp_g22 rfl (by exact (hk1.from_ From.rfl_).rd 1 rfl)) ?_
  have hB10 := (From.rfl_.next E1)
  have hl10 := (hk1.from_ From.rfl_).lt
  refine st_call WavHelp_k17 (copyNums_any A ca xs _ (hr.from_ (From.rfl_.next E1)) (by omega)) ?_
  rintro v10 w2 ⟨A10, c10, rfl, ho10, E10⟩
  refine st_val (ro_assign (v := .slice _ _ _) rfl) ?_
  refine st_nil ?_
  refine nx_then ?_
  refine cd_seq ?_
  refine cd_region ?_
  refine st_val (ro_fieldAddr WavHelp_f24_0 rfl) ?_
  refine st_val (ro_load WavHelp_g3 rfl (by exact (hk1.from_ (From.rfl_.next E10)).rd 0 rfl)) ?_
  refine st_val (ro_move (v := .slice _ _ _) rfl) ?_
  have hB15 := ((From.rfl_.next E1).next E10)
  refine st_call WavHelp_k12 (new_w k A10 c10 xs.length xs _ (RowOf.own ho10).2 rfl (by omega) (fun q _ hq => (own_at ho10 q hq).2)) ?_
  rintro v15 w3 ⟨hn15, E15⟩
  replace hk1 := hk1.from_ ((From.rfl_.next E10).next E15)
  rcases hn15 with ⟨hne, rfl⟩ | ⟨K, L, b, hK, hL, rfl, hv⟩
  · have hb33 : (chkW k xs != 0) = true := by simpa using hne
    refine st_val (ro_move (v := .tuple _) rfl) ?_
    refine st_val (ro_extract rfl rfl) ?_
    refine st_val (ro_extract rfl rfl) ?_
    refine st_val (ro_assign (v := .pointer _) rfl) ?_
    refine st_val (ro_assign (v := .int _ _) rfl) ?_
    refine st_nil ?_
    refine nx_then ?_
    refine cd_seq ?_
    refine cd_region ?_
    refine st_val (ro_move (v := .slice _ _ _) rfl) ?_
    refine st_call WavHelp_k18 (spoilNums_any _ A10 c10 xs _ (ho10.kept_from E15) (by omega) (by have := E10.size; have := E15.size; omega)) ?_
    rintro v19 w4 hg19
    replace hk1 := hk1.grown hg19 (fun k hk => by have := own_at ho10 k hk; omega)
    (try replace hv := hv.grown hg19 (fun k hk => (own_at ho10 k hk).2))
    refine st_nil ?_
    refine nx_then ?_
    refine cd_seq ?_
    refine cd_region ?_
    refine st_val (ro_fieldAddr WavHelp_f24_0 rfl) ?_
    refine st_val (ro_load WavHelp_g3 rfl (by exact (hk1.from_ From.rfl_).rd 0 rfl)) ?_
    refine st_val (ro_fieldAddr WavHelp_f24_1 rfl) ?_
    refine st_val (ro_load WavHelp_g22 rfl (by exact (hk1.from_ From.rfl_).rd 1 rfl)) ?_
    refine st_call WavHelp_k19 (refTree_any k A ca xs _ (hr.from_ ((((From.rfl_.next E1).next E10).next E15).grew hg19 (fun k hk => Nat.le_trans hB10.size (own_at ho10 k hk).1))) (by omega)) ?_
    rintro v24 w5 ⟨rfl, rfl⟩
    refine st_val (ro_assign (v := .int _ _) rfl) ?_
    refine st_nil ?_
    refine nx_then ?_
    refine cd_seq ?_
    refine cd_seq ?_
    refine cd_region ?_
    refine st_val (ro_move (v := .int _ _) rfl) ?_
    refine st_call WavHelp_k13 (num_any _ _) ?_
    rintro v26 w6 ⟨rfl, rfl⟩
    refine st_val (ro_move (v := .int _ _) rfl) ?_
    refine st_val (ro_neq rfl rfl) ?_
    refine st_val (ro_move (v := .bool _) rfl) ?_
    refine st_split (t := 29) rfl (fun Q7 => ?_) (fun Q7 => ?_)
    · (try first | replace Q7 := bn_t Q7 | replace Q7 := bn_f Q7)
      (try first | replace Q7 := bx_t Q7 | replace Q7 := bx_f Q7 | replace Q7 := be_t Q7 | replace Q7 := be_f Q7 | replace Q7 := of_decide_eq_true Q7 | replace Q7 := of_decide_eq_false Q7)
      first
       | (exfalso; first | omega | (simp [hb33] at *; done) | contradiction | (cases Q7; done))
       | skip
         refine st_gno rfl rfl ?_
         refine st_gno rfl rfl ?_
         refine st_gno rfl rfl ?_
         refine st_gno rfl rfl ?_
         refine st_gno rfl rfl ?_
         refine st_val (ro_pickT (v := .bool _) rfl rfl) ?_
         refine st_nil ?_
         refine nx_then ?_
         refine cd_condT rfl ?_
         refine cd_seq ?_
         refine cd_region ?_
         refine st_val (ro_assign (v := .pointer _) rfl) ?_
         refine st_val (ro_assign (v := .int _ _) rfl) ?_
         refine st_nil ?_
         refine nx_then ?_
         refine cd_ret ?_
         refine rt_then ?_
         refine res2 (v := .pointer _) (v' := .int _ _) rfl rfl rfl ?_
         exfalso; simp_all
    · (try first | replace Q7 := bn_t Q7 | replace Q7 := bn_f Q7)
      (try first | replace Q7 := bx_t Q7 | replace Q7 := bx_f Q7 | replace Q7 := be_t Q7 | replace Q7 := be_f Q7 | replace Q7 := of_decide_eq_true Q7 | replace Q7 := of_decide_eq_false Q7)
      first
       | (exfalso; first | omega | (simp [hb33] at *; done) | contradiction | (cases Q7; done))
       | skip
         refine st_unguard rfl ?_
         refine st_val (ro_move (v := .pointer _) rfl) ?_
         refine st_unguard rfl ?_
         refine st_val (ro_eqlNil WavHelp_p26 rfl rfl) ?_
         refine st_unguard rfl ?_
         refine st_val (ro_move (v := .int _ _) rfl) ?_
         refine st_unguard rfl ?_
         refine st_val (ro_neq rfl rfl) ?_
         refine st_unguard rfl ?_
         refine st_val (ro_neqB (by kernel_rfl) rfl rfl) ?_
         refine st_val (ro_pickF (v := .bool _) rfl rfl) ?_
         refine st_nil ?_
         refine nx_then ?_
         refine cd_cond rfl (fun Q8 => ?_) (fun Q8 => ?_)
         · (try first | replace Q8 := bn_t Q8 | replace Q8 := bn_f Q8)
           (try first | replace Q8 := bx_t Q8 | replace Q8 := bx_f Q8 | replace Q8 := be_t Q8 | replace Q8 := be_f Q8 | replace Q8 := of_decide_eq_true Q8 | replace Q8 := of_decide_eq_false Q8)
           first
            | (exfalso; first | omega | (simp [hb33] at *; done) | contradiction | (cases Q8; done))
            | skip
              refine cd_seq ?_
              refine cd_region ?_
              refine st_val (ro_assign (v := .pointer _) rfl) ?_
              refine st_val (ro_assign (v := .int _ _) rfl) ?_
              refine st_nil ?_
              refine nx_then ?_
              refine cd_ret ?_
              refine rt_then ?_
              refine res2 (v := .pointer _) (v' := .int _ _) rfl rfl rfl ?_
              exfalso; simp_all
         · (try first | replace Q8 := bn_t Q8 | replace Q8 := bn_f Q8)
           (try first | replace Q8 := bx_t Q8 | replace Q8 := bx_f Q8 | replace Q8 := be_t Q8 | replace Q8 := be_f Q8 | replace Q8 := of_decide_eq_true Q8 | replace Q8 := of_decide_eq_false Q8)
           first
            | (exfalso; first | omega | (simp [hb33] at *; done) | contradiction | (cases Q8; done))
            | skip
              refine cd_skip ?_
              refine nx_then ?_
              refine cd_seq ?_
              refine cd_region ?_
              refine st_val (ro_move (v := .pointer _) rfl) ?_
              refine st_val (ro_move (v := .int _ _) rfl) ?_
              refine st_val (ro_assign (v := .pointer _) rfl) ?_
              refine st_val (ro_assign (v := .int _ _) rfl) ?_
              refine st_nil ?_
              refine nx_then ?_
              refine cd_ret ?_
              refine res2 (v := .pointer _) (v' := .int _ _) rfl rfl rfl ?_
              first
                | exact ⟨.inl ⟨hne, rfl⟩, ((((From.rfl_.next E1).next E10).next E15).grew hg19 (fun k hk => Nat.le_trans hB10.size (own_at ho10 k hk).1))⟩
                | exact ⟨.inr ⟨K, L, b, hK, hL, by rw [hz], hv.le hB15.size⟩, ((((From.rfl_.next E1).next E10).next E15).grew hg19 (fun k hk => Nat.le_trans hB10.size (own_at ho10 k hk).1))⟩
  · have hz : chkW k xs = 0 := by
      obtain ⟨_, _, _, _, _, _, _, _, _, _, hK1, hK2, hlt, hLl⟩ := id hv
      rw [hK, hL]; exact chk_zero hK1 hK2 hlt hLl
    have hb33 : (chkW k xs != 0) = false := by simpa using hz
    refine st_val (ro_move (v := .tuple _) rfl) ?_
    refine st_val (ro_extract rfl rfl) ?_
    refine st_val (ro_extract rfl rfl) ?_
    refine st_val (ro_assign (v := .pointer _) rfl) ?_
    refine st_val (ro_assign (v := .int _ _) rfl) ?_
    refine st_nil ?_
    refine nx_then ?_
    refine cd_seq ?_
    refine cd_region ?_
    refine st_val (ro_move (v := .slice _ _ _) rfl) ?_
    refine st_call WavHelp_k18 (spoilNums_any _ A10 c10 xs _ (ho10.kept_from E15) (by omega) (by have := E10.size; have := E15.size; omega)) ?_
    rintro v19 w9 hg19
    replace hk1 := hk1.grown hg19 (fun k hk => by have := own_at ho10 k hk; omega)
    (try replace hv := hv.grown hg19 (fun k hk => (own_at ho10 k hk).2))
    refine st_nil ?_
    refine nx_then ?_
    refine cd_seq ?_
    refine cd_region ?_
    refine st_val (ro_fieldAddr WavHelp_f24_0 rfl) ?_
    refine st_val (ro_load WavHelp_g3 rfl (by exact (hk1.from_ From.rfl_).rd 0 rfl)) ?_
    refine st_val (ro_fieldAddr WavHelp_f24_1 rfl) ?_
    refine st_val (ro_load WavHelp_g22 rfl (by exact (hk1.from_ From.rfl_).rd 1 rfl)) ?_
    refine st_call WavHelp_k19 (refTree_any k A ca xs _ (hr.from_ ((((From.rfl_.next E1).next E10).next E15).grew hg19 (fun k hk => Nat.le_trans hB10.size (own_at ho10 k hk).1))) (by omega)) ?_
    rintro v24 w10 ⟨rfl, rfl⟩
    refine st_val (ro_assign (v := .int _ _) rfl) ?_
    refine st_nil ?_
    refine nx_then ?_
    refine cd_seq ?_
    refine cd_seq ?_
    refine cd_region ?_
    refine st_val (ro_move (v := .int _ _) rfl) ?_
    refine st_call WavHelp_k13 (num_any _ _) ?_
    rintro v26 w11 ⟨rfl, rfl⟩
    refine st_val (ro_move (v := .int _ _) rfl) ?_
    refine st_val (ro_neq rfl rfl) ?_
    refine st_val (ro_move (v := .bool _) rfl) ?_
    refine st_split (t := 29) rfl (fun Q12 => ?_) (fun Q12 => ?_)
    · (try first | replace Q12 := bn_t Q12 | replace Q12 := bn_f Q12)
      (try first | replace Q12 := bx_t Q12 | replace Q12 := bx_f Q12 | replace Q12 := be_t Q12 | replace Q12 := be_f Q12 | replace Q12 := of_decide_eq_true Q12 | replace Q12 := of_decide_eq_false Q12)
      first
       | (exfalso; first | omega | (simp [hb33] at *; done) | contradiction | (cases Q12; done))
       | skip
         refine st_gno rfl rfl ?_
         refine st_gno rfl rfl ?_
         refine st_gno rfl rfl ?_
         refine st_gno rfl rfl ?_
         refine st_gno rfl rfl ?_
         refine st_val (ro_pickT (v := .bool _) rfl rfl) ?_
         refine st_nil ?_
         refine nx_then ?_
         refine cd_condT rfl ?_
         refine cd_seq ?_
         refine cd_region ?_
         refine st_val (ro_assign (v := .pointer _) rfl) ?_
         refine st_val (ro_assign (v := .int _ _) rfl) ?_
         refine st_nil ?_
         refine nx_then ?_
         refine cd_ret ?_
         refine rt_then ?_
         refine res2 (v := .pointer _) (v' := .int _ _) rfl rfl rfl ?_
         exfalso; simp_all
    · (try first | replace Q12 := bn_t Q12 | replace Q12 := bn_f Q12)
      (try first | replace Q12 := bx_t Q12 | replace Q12 := bx_f Q12 | replace Q12 := be_t Q12 | replace Q12 := be_f Q12 | replace Q12 := of_decide_eq_true Q12 | replace Q12 := of_decide_eq_false Q12)
      first
       | (exfalso; first | omega | (simp [hb33] at *; done) | contradiction | (cases Q12; done))
       | skip
         refine st_unguard rfl ?_
         refine st_val (ro_move (v := .pointer _) rfl) ?_
         refine st_unguard rfl ?_
         refine st_val (ro_eqlNil WavHelp_p26 rfl rfl) ?_
         refine st_unguard rfl ?_
         refine st_val (ro_move (v := .int _ _) rfl) ?_
         refine st_unguard rfl ?_
         refine st_val (ro_neq rfl rfl) ?_
         refine st_unguard rfl ?_
         refine st_val (ro_neqB (by kernel_rfl) rfl rfl) ?_
         refine st_val (ro_pickF (v := .bool _) rfl rfl) ?_
         refine st_nil ?_
         refine nx_then ?_
         refine cd_cond rfl (fun Q13 => ?_) (fun Q13 => ?_)
         · (try first | replace Q13 := bn_t Q13 | replace Q13 := bn_f Q13)
           (try first | replace Q13 := bx_t Q13 | replace Q13 := bx_f Q13 | replace Q13 := be_t Q13 | replace Q13 := be_f Q13 | replace Q13 := of_decide_eq_true Q13 | replace Q13 := of_decide_eq_false Q13)
           first
            | (exfalso; first | omega | (simp [hb33] at *; done) | contradiction | (cases Q13; done))
            | skip
              refine cd_seq ?_
              refine cd_region ?_
              refine st_val (ro_assign (v := .pointer _) rfl) ?_
              refine st_val (ro_assign (v := .int _ _) rfl) ?_
              refine st_nil ?_
              refine nx_then ?_
              refine cd_ret ?_
              refine rt_then ?_
              refine res2 (v := .pointer _) (v' := .int _ _) rfl rfl rfl ?_
              exfalso; simp_all
         · (try first | replace Q13 := bn_t Q13 | replace Q13 := bn_f Q13)
           (try first | replace Q13 := bx_t Q13 | replace Q13 := bx_f Q13 | replace Q13 := be_t Q13 | replace Q13 := be_f Q13 | replace Q13 := of_decide_eq_true Q13 | replace Q13 := of_decide_eq_false Q13)
           first
            | (exfalso; first | omega | (simp [hb33] at *; done) | contradiction | (cases Q13; done))
            | skip
              refine cd_skip ?_
              refine nx_then ?_
              refine cd_seq ?_
              refine cd_region ?_
              refine st_val (ro_move (v := .pointer _) rfl) ?_
              refine st_val (ro_move (v := .int _ _) rfl) ?_
              refine st_val (ro_assign (v := .pointer _) rfl) ?_
              refine st_val (ro_assign (v := .int _ _) rfl) ?_
              refine st_nil ?_
              refine nx_then ?_
              refine cd_ret ?_
              refine res2 (v := .pointer _) (v' := .int _ _) rfl rfl rfl ?_
              first
                | exact ⟨.inl ⟨hne, rfl⟩, ((((From.rfl_.next E1).next E10).next E15).grew hg19 (fun k hk => Nat.le_trans hB10.size (own_at ho10 k hk).1))⟩
                | exact ⟨.inr ⟨K, L, b, hK, hL, by rw [hz], hv.le hB15.size⟩, ((((From.rfl_.next E1).next E10).next E15).grew hg19 (fun k hk => Nat.le_trans hB10.size (own_at ho10 k hk).1))⟩
end Go.Proofs.YtmiclfhpenjjfaaDoor
