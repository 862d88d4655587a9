/- Helpers of the laws of package bits. -/
import Derived.Test.YtmjppicoffbdcaaDoorBitsRank
namespace Go.Proofs.YtmjppicoffbdcaaDoor
open Go.RowKit
open Go.ChangeShapes Go.WideShapes Go.ChangeAt
theorem BitsHelp_e22 : elemQ Tryd.prog 22 = some (4, 1) := by kernel_rfl
theorem BitsHelp_l22 : (elemQ Tryd.prog 22).isSome = true := by kernel_rfl
theorem BitsHelp_g4 : aggQ Tryd.prog 4 = some false := by kernel_rfl
theorem BitsHelp_q22 : litQ Tryd.prog 22 = some (4, 1, 1, (.bool false)) := by kernel_rfl
theorem BitsHelp_f25_0 : fieldQ Tryd.prog 25 0 = some 0 := by kernel_rfl
theorem BitsHelp_g22 : aggQ Tryd.prog 22 = some false := by kernel_rfl
theorem BitsHelp_f25_1 : fieldQ Tryd.prog 25 1 = some 1 := by kernel_rfl
theorem BitsHelp_g23 : aggQ Tryd.prog 23 = some false := by kernel_rfl
theorem BitsHelp_l23 : (elemQ Tryd.prog 23).isSome = true := by kernel_rfl
theorem BitsHelp_k10 : callable Tryd.prog 10 = true := by kernel_rfl
theorem BitsHelp_z4 : sizeQ Tryd.prog 4 = some 1 := by kernel_rfl
theorem BitsHelp_p27 : Tryd.prog.underlying 27 = some (.pointer (Tryd.prog.pointee 27)) := by kernel_rfl
theorem BitsHelp_k17 : callable Tryd.prog 17 = true := by kernel_rfl
theorem BitsHelp_k16 : callable Tryd.prog 16 = true := by kernel_rfl
theorem BitsHelp_k18 : callable Tryd.prog 18 = true := by kernel_rfl
theorem BitsHelp_k19 : callable Tryd.prog 19 = true := by kernel_rfl
theorem BitsHelp_k14 : callable Tryd.prog 14 = true := by kernel_rfl
theorem at_bools {w : World} {c : Nat → Option Value} {xs : List Bool} (h : (Ty.sl .bool).At w c xs) : ∃ (A : Option Addr) (cap : Nat), c 0 = some (.slice A xs.length cap) ∧ RowOf boV w A xs ∧ xs.length ≤ 140737488351232 ∧ xs.length ≤ cap := by
  obtain ⟨A, cap, h0, h1, h2, h3⟩ := h
  refine ⟨A, cap, h0, fun hp => ?_, by have h4 := h1; simp only [Ty.bytes, Nat.mul_one] at h4; exact h4, h2.1⟩
  obtain ⟨b, o, hA, hb, hi⟩ := h3 hp
  refine ⟨b, o, hA, fun i hil => ?_⟩
  have := hi i _ (List.getElem?_eq_getElem hil)
  simpa [Ty.At, Ty.size] using this
theorem walk_st {H : Type} {enc : TypeId × Value → H} {F : FuncId} {T : TypeId} (t u : Ty) (hf : (Ty.pr t u).fits Tryd.prog (.inl T) = true)
    (h : ∀ (cs : Array Value) (x : (Ty.pr t u).den) (w : World), cs.size = (Ty.pr t u).size → (Ty.pr t u).At w (fun j => cs[j]?) x → Rt Tryd.prog F [.agg cs] w fun v w' => v = .bool true ∧ From w w')
    (W : World) (base : Nat) (v : Value) (d : DataW H) (p : List MemPlace) (hok : Value.okWide Tryd.prog W .any base T v) (ht : DataW.Trod enc Tryd.prog W 0 (fun _ => true) true T v d p) (hsz : ∀ n ∈ d.weights Tryd.prog T, n ≤ 140737488351232) :
    Calls Tryd.prog F #[v] W fun e W' => e = .returned (.bool true) ∧ From W W' := by
  obtain ⟨cs, x, rfl, hs, ha⟩ := arg_st t u hf hok ht hsz
  exact Rt.to (h cs x W hs ha)
/-- an ask: bits, numbers -/
theorem ask_of {w : World} {cs : Array Value} {x : (Ty.pr (.sl .bool) (.pr (.sl (.int .i64)) .unit)).den} (hs : cs.size = 2) (h : (Ty.pr (.sl .bool) (.pr (.sl (.int .i64)) .unit)).At w (fun j => cs[j]?) x) :
    ∃ (A : Option Addr) (ca : Nat) (l : List Bool) (B : Option Addr) (cb : Nat) (is : List Int), cs = #[.slice A l.length ca, .slice B is.length cb] ∧ RowOf boV w A l ∧ l.length ≤ 140737488351232 ∧ RowOf iV w B is ∧ is.length * 8 ≤ 140737488351232 ∧ (∀ x ∈ is, -9223372036854775808 ≤ x ∧ x ≤ 9223372036854775807) := by
  obtain ⟨h1, h2, _⟩ := h
  obtain ⟨A, ca, a0, a1, a2, _⟩ := at_bools h1
  obtain ⟨B, cb, b0, b1, b2, b3, _⟩ := at_nums h2
  have e0 : cs[0]? = some _ := a0
  have e1 : cs[1]? = some _ := b0
  refine ⟨A, ca, _, B, cb, _, ?_, a1, a2, b1, b3, b2⟩
  obtain ⟨l⟩ := cs
  match l, hs with
  | [a, b], _ =>
    simp only [List.getElem?_toArray, List.getElem?_cons_zero, List.getElem?_cons_succ, Option.some.injEq] at e0 e1
    rw [e0, e1]
set_option maxRecDepth 100000 in
set_option maxHeartbeats 400000 in
theorem copyBools_any (A : Option Addr) (c : Nat) (l : List Bool) (w : World) (hr : RowOf boV w A l) (hl : l.length * 1 ≤ 140737488351232) :
    Rt Tryd.prog 17 [.slice A l.length c] w (fun v w' => ∃ A' c', v = .slice A' l.length c' ∧ w'.ownsRow w.heap.size 4 1 v l.length (l.map boV) ∧ From w w') := by
  refine enter (n := 19) Tryd.func17 rfl rfl rfl ?_
  refine cd_seq ?_
  refine cd_region ?_
  refine st_val (ro_assign (v := .slice _ _ _) rfl) ?_
  refine st_nil ?_
  refine nx_then ?_
  refine cd_seq ?_
  refine cd_region ?_
  refine st_val (ro_assign (v := .slice _ _ _) rfl) ?_
  refine st_nil ?_
  refine nx_then ?_
  refine cd_seq ?_
  refine cd_seq ?_
  refine cd_region ?_
  refine st_val (ro_assign (v := .int _ _) rfl) ?_
  refine st_nil ?_
  refine nx_then ?_
  refine cd_block ?_
  refine cd_loop (G := Nat × Option Addr × Nat) [5, 6, 7, 8, 9, 10, 11, 12, 13, 14, 15, 16, 17] (fun g => [(3, .slice g.2.1 g.1 g.2.2), (4, .int .i64 (g.1 : Nat))]) (fun g w' => g.1 ≤ l.length ∧ w'.ownsRow w.heap.size 4 1 (.slice g.2.1 g.1 g.2.2) g.1 ((l.take g.1).map boV) ∧ From w w') (fun g => l.length - g.1) ((0, none, 0)) ⟨rfl, rfl, trivial⟩ ?_ ?_
  · exact ⟨Nat.zero_le _, World.ownsRow_nil _ _ _ _, From.rfl_⟩
  rintro ⟨k, A3, c3⟩ ρ1 w1 ⟨hk, ho, hB⟩
  simp only at hk ho
  refine cd_seq ?_
  refine cd_seq ?_
  refine cd_region ?_
  refine st_val (ro_move (v := .int _ _) rfl) ?_
  refine st_val (ro_move (v := .slice _ _ _) rfl) ?_
  refine st_val (ro_len BitsHelp_l22 rfl) ?_
  refine st_val (ro_lss rfl rfl) ?_
  refine st_nil ?_
  refine nx_then ?_
  refine cd_cond rfl (fun Q2 => ?_) (fun Q2 => ?_)
  · (try first | replace Q2 := bn_t Q2 | replace Q2 := bn_f Q2)
    (try first | replace Q2 := bx_t Q2 | replace Q2 := bx_f Q2 | replace Q2 := be_t Q2 | replace Q2 := be_f Q2 | replace Q2 := of_decide_eq_true Q2 | replace Q2 := of_decide_eq_false Q2)
    obtain ⟨ba, oa, rfl, ca⟩ := hr (by omega)
    first
     | (exfalso; first | omega | contradiction | (cases Q2; done))
     | skip
       refine cd_skip ?_
       refine nx_then ?_
       refine cd_seq ?_
       refine cd_block ?_
       refine cd_region ?_
       refine st_val (ro_move (v := .slice _ _ _) rfl) ?_
       refine st_val (ro_move (v := .slice _ _ _) rfl) ?_
       refine st_val (ro_move (v := .int _ _) rfl) ?_
       refine st_val (ro_indexAddr1 BitsHelp_e22 rfl rfl (by omega)) ?_
       refine st_val (ro_load BitsHelp_g4 rfl (by first | (exact cellF hB (ca k (by omega))))) ?_
       refine st_lit1 (v := .bool _) BitsHelp_q22 rfl rfl rfl ?_
       intro b16 w3 E16 hb16 hk16
       refine st_push1 (a0 := w) BitsHelp_q22 rfl rfl (ho.kept_from E16) (hB.next E16) rfl hk16 rfl (by omega) (by omega) ?_
       intro A17 c17 w4 ho17 B17 hg17
       refine st_val (ro_assign (v := .slice _ _ _) rfl) ?_
       refine st_nil ?_
       refine nx_block ?_
       refine nx_then ?_
       refine cd_region ?_
       refine st_val (ro_move (v := .int _ _) rfl) ?_
       refine st_val (ro_add64 rfl rfl (by omega)) ?_
       refine st_val (ro_assign (v := .int _ _) rfl) ?_
       refine st_nil ?_
       refine nx_cut ((k + 1, A17, c17)) ⟨(by first | rfl | (refine int_eq ?_; omega)), (by first | rfl | (refine int_eq ?_; omega)), trivial⟩ (by (iterate 30 refine agr_cons rfl ?_); exact agr_rfl) ⟨?_, ?_⟩
       · exact ⟨by simp only; omega, by rw [map_take_succ boV (by omega)]; exact ho17, B17⟩
       · simp only; omega
  · (try first | replace Q2 := bn_t Q2 | replace Q2 := bn_f Q2)
    (try first | replace Q2 := bx_t Q2 | replace Q2 := bx_f Q2 | replace Q2 := be_t Q2 | replace Q2 := be_f Q2 | replace Q2 := of_decide_eq_true Q2 | replace Q2 := of_decide_eq_false Q2)
    first
     | (exfalso; first | omega | contradiction | (cases Q2; done))
     | skip
       refine cd_exit ?_
       refine ex_then ?_
       refine ex_then ?_
       refine ex_block ?_
       refine nx_then ?_
       refine cd_seq ?_
       refine cd_region ?_
       refine st_val (ro_move (v := .slice _ _ _) rfl) ?_
       refine st_val (ro_assign (v := .slice _ _ _) rfl) ?_
       refine st_nil ?_
       refine nx_then ?_
       refine cd_ret ?_
       refine res1 (v := .slice _ _ _) rfl rfl ?_
       obtain rfl : k = l.length := by omega
       exact ⟨A3, c3, rfl, by rwa [List.take_length] at ho, hB⟩
set_option maxRecDepth 100000 in
set_option maxHeartbeats 400000 in
theorem num_any (e : Int) (w : World) :
    Rt Tryd.prog 10 [.int .i64 e] w (fun v w' => v = .int .i64 e ∧ w = w') := by
  refine enter (n := 4) Tryd.func10 rfl rfl rfl ?_
  refine cd_seq ?_
  refine cd_region ?_
  refine st_val (ro_assign (v := .int _ _) rfl) ?_
  refine st_nil ?_
  refine nx_then ?_
  refine cd_seq ?_
  refine cd_region ?_
  refine st_val (ro_move (v := .int _ _) rfl) ?_
  refine st_val (ro_assign (v := .int _ _) rfl) ?_
  refine st_nil ?_
  refine nx_then ?_
  refine cd_ret ?_
  refine res1 (v := .int _ _) rfl rfl ?_
  exact ⟨rfl, rfl⟩
set_option maxRecDepth 100000 in
set_option maxHeartbeats 400000 in
theorem heavy_any (A B : Option Addr) (n ca m cb : Nat) (w : World) :
    Rt Tryd.prog 6 [.agg #[.slice A n ca, .slice B m cb]] w (fun v w' => v = .bool (decide (600 < n ∨ 60 < m)) ∧ From w w') := by
  refine enter (n := 13) Tryd.func6 rfl rfl rfl ?_
  refine cd_seq ?_
  refine cd_region ?_
  refine st_box (v := .agg _) rfl ?_
  intro b1 w1 E1 hb1 hk1
  refine st_val (ro_assign (v := .bool _) rfl) ?_
  refine st_nil ?_
  refine nx_then ?_
  refine cd_seq ?_
  refine cd_region ?_
  refine st_val (ro_fieldAddr BitsHelp_f25_0 rfl) ?_
  refine st_val (ro_load BitsHelp_g22 rfl (by exact hk1.rd 0 rfl)) ?_
  refine st_val (ro_len BitsHelp_l22 rfl) ?_
  refine st_val (ro_gtr rfl rfl) ?_
  refine st_val (ro_move (v := .bool _) rfl) ?_
  refine st_split (t := 7) rfl (fun Q2 => ?_) (fun Q2 => ?_)
  · (try first | replace Q2 := bn_t Q2 | replace Q2 := bn_f Q2)
    (try first | replace Q2 := bx_t Q2 | replace Q2 := bx_f Q2 | replace Q2 := be_t Q2 | replace Q2 := be_f Q2 | replace Q2 := of_decide_eq_true Q2 | replace Q2 := of_decide_eq_false Q2)
    first
     | (exfalso; first | omega | contradiction | (cases Q2; done))
     | skip
       refine st_gno rfl rfl ?_
       refine st_gno rfl rfl ?_
       refine st_gno rfl rfl ?_
       refine st_gno rfl rfl ?_
       refine st_val (ro_pickT (v := .bool _) rfl rfl) ?_
       refine st_val (ro_assign (v := .bool _) rfl) ?_
       refine st_nil ?_
       refine nx_then ?_
       refine cd_ret ?_
       refine res1 (v := .bool _) rfl rfl ?_
       refine ⟨?_, (From.rfl_.next E1)⟩
       first
         | rw [decide_eq_true (by omega)]
         | exact congrArg Value.bool (decide_eq_decide.2 (by omega))
  · (try first | replace Q2 := bn_t Q2 | replace Q2 := bn_f Q2)
    (try first | replace Q2 := bx_t Q2 | replace Q2 := bx_f Q2 | replace Q2 := be_t Q2 | replace Q2 := be_f Q2 | replace Q2 := of_decide_eq_true Q2 | replace Q2 := of_decide_eq_false Q2)
    first
     | (exfalso; first | omega | contradiction | (cases Q2; done))
     | skip
       refine st_unguard rfl ?_
       refine st_val (ro_fieldAddr BitsHelp_f25_1 rfl) ?_
       refine st_unguard rfl ?_
       refine st_val (ro_load BitsHelp_g23 rfl (by exact hk1.rd 1 rfl)) ?_
       refine st_unguard rfl ?_
       refine st_val (ro_len BitsHelp_l23 rfl) ?_
       refine st_unguard rfl ?_
       refine st_val (ro_gtr rfl rfl) ?_
       refine st_val (ro_pickF (v := .bool _) rfl rfl) ?_
       refine st_val (ro_assign (v := .bool _) rfl) ?_
       refine st_nil ?_
       refine nx_then ?_
       refine cd_ret ?_
       refine res1 (v := .bool _) rfl rfl ?_
       refine ⟨?_, (From.rfl_.next E1)⟩
       first
         | rw [decide_eq_true (by omega)]
         | exact congrArg Value.bool (decide_eq_decide.2 (by omega))
set_option maxRecDepth 100000 in
set_option maxHeartbeats 400000 in
theorem told_any (n e want : Int) (ok : Bool) (w : World) (h : (ok = true → e = 0 ∧ n = want) ∧ (ok = false → e = 3 ∧ n = 0)) :
    Rt Tryd.prog 12 [.int .i64 n, .int .i64 e, .int .i64 want, .bool ok] w (fun v w' => v = .bool true ∧ w = w') := by
  refine enter (n := 26) Tryd.func12 rfl rfl rfl ?_
  refine cd_seq ?_
  refine cd_region ?_
  refine st_val (ro_assign (v := .bool _) rfl) ?_
  refine st_nil ?_
  refine nx_then ?_
  refine cd_seq ?_
  refine cd_seq ?_
  refine cd_region ?_
  refine st_val (ro_move (v := .bool _) rfl) ?_
  refine st_val (ro_not rfl) ?_
  refine st_nil ?_
  refine nx_then ?_
  refine cd_cond rfl (fun Q1 => ?_) (fun Q1 => ?_)
  · (try first | replace Q1 := bn_t Q1 | replace Q1 := bn_f Q1)
    (try first | replace Q1 := bx_t Q1 | replace Q1 := bx_f Q1 | replace Q1 := be_t Q1 | replace Q1 := be_f Q1 | replace Q1 := of_decide_eq_true Q1 | replace Q1 := of_decide_eq_false Q1)
    obtain ⟨rfl, rfl⟩ := h.2 (by simpa using Q1)
    first
     | (exfalso; first | omega | contradiction | (cases Q1; done))
     | skip
       refine cd_seq ?_
       refine cd_region ?_
       refine st_val (ro_move (v := .int _ _) rfl) ?_
       refine st_call BitsHelp_k10 (num_any _ _) ?_
       rintro v12 w2 ⟨rfl, rfl⟩
       refine st_val (ro_eql rfl rfl) ?_
       refine st_val (ro_move (v := .bool _) rfl) ?_
       refine st_split (t := 14) rfl (fun Q3 => ?_) (fun Q3 => ?_)
       · (try first | replace Q3 := bn_t Q3 | replace Q3 := bn_f Q3)
         (try first | replace Q3 := bx_t Q3 | replace Q3 := bx_f Q3 | replace Q3 := be_t Q3 | replace Q3 := be_f Q3 | replace Q3 := of_decide_eq_true Q3 | replace Q3 := of_decide_eq_false Q3)
         first
          | (exfalso; first | omega | contradiction | (cases Q3; done))
          | skip
            refine st_unguard rfl ?_
            refine st_val (ro_move (v := .int _ _) rfl) ?_
            refine st_unguard rfl ?_
            refine st_val (ro_eql rfl rfl) ?_
            refine st_val (ro_pickT (v := .bool _) rfl rfl) ?_
            refine st_val (ro_assign (v := .bool _) rfl) ?_
            refine st_nil ?_
            refine nx_then ?_
            refine cd_ret ?_
            refine rt_then ?_
            refine res1 (v := .bool _) rfl rfl ?_
            first
              | exact ⟨rfl, rfl⟩
              | exact ⟨congrArg Value.bool (beq_self_eq_true _), rfl⟩
       · (try first | replace Q3 := bn_t Q3 | replace Q3 := bn_f Q3)
         (try first | replace Q3 := bx_t Q3 | replace Q3 := bx_f Q3 | replace Q3 := be_t Q3 | replace Q3 := be_f Q3 | replace Q3 := of_decide_eq_true Q3 | replace Q3 := of_decide_eq_false Q3)
         first
          | (exfalso; first | omega | contradiction | (cases Q3; done))
          | skip
            refine st_gno rfl rfl ?_
            refine st_gno rfl rfl ?_
            refine st_val (ro_pickF (v := .bool _) rfl rfl) ?_
            refine st_val (ro_assign (v := .bool _) rfl) ?_
            refine st_nil ?_
            refine nx_then ?_
            refine cd_ret ?_
            refine rt_then ?_
            refine res1 (v := .bool _) rfl rfl ?_
            first
              | exact ⟨rfl, rfl⟩
              | exact ⟨congrArg Value.bool (beq_self_eq_true _), rfl⟩
  · (try first | replace Q1 := bn_t Q1 | replace Q1 := bn_f Q1)
    (try first | replace Q1 := bx_t Q1 | replace Q1 := bx_f Q1 | replace Q1 := be_t Q1 | replace Q1 := be_f Q1 | replace Q1 := of_decide_eq_true Q1 | replace Q1 := of_decide_eq_false Q1)
    obtain ⟨rfl, rfl⟩ := h.1 (by simpa using Q1)
    first
     | (exfalso; first | omega | contradiction | (cases Q1; done))
     | skip
       refine cd_skip ?_
       refine nx_then ?_
       refine cd_seq ?_
       refine cd_region ?_
       refine st_val (ro_move (v := .int _ _) rfl) ?_
       refine st_call BitsHelp_k10 (num_any _ _) ?_
       rintro v19 w4 ⟨rfl, rfl⟩
       refine st_val (ro_eql rfl rfl) ?_
       refine st_val (ro_move (v := .bool _) rfl) ?_
       refine st_split (t := 21) rfl (fun Q5 => ?_) (fun Q5 => ?_)
       · (try first | replace Q5 := bn_t Q5 | replace Q5 := bn_f Q5)
         (try first | replace Q5 := bx_t Q5 | replace Q5 := bx_f Q5 | replace Q5 := be_t Q5 | replace Q5 := be_f Q5 | replace Q5 := of_decide_eq_true Q5 | replace Q5 := of_decide_eq_false Q5)
         first
          | (exfalso; first | omega | contradiction | (cases Q5; done))
          | skip
            refine st_unguard rfl ?_
            refine st_val (ro_move (v := .int _ _) rfl) ?_
            refine st_unguard rfl ?_
            refine st_val (ro_move (v := .int _ _) rfl) ?_
            refine st_unguard rfl ?_
            refine st_val (ro_eql rfl rfl) ?_
            refine st_val (ro_pickT (v := .bool _) rfl rfl) ?_
            refine st_val (ro_assign (v := .bool _) rfl) ?_
            refine st_nil ?_
            refine nx_then ?_
            refine cd_ret ?_
            refine res1 (v := .bool _) rfl rfl ?_
            first
              | exact ⟨rfl, rfl⟩
              | exact ⟨congrArg Value.bool (beq_self_eq_true _), rfl⟩
       · (try first | replace Q5 := bn_t Q5 | replace Q5 := bn_f Q5)
         (try first | replace Q5 := bx_t Q5 | replace Q5 := bx_f Q5 | replace Q5 := be_t Q5 | replace Q5 := be_f Q5 | replace Q5 := of_decide_eq_true Q5 | replace Q5 := of_decide_eq_false Q5)
         first
          | (exfalso; first | omega | contradiction | (cases Q5; done))
          | skip
            refine st_gno rfl rfl ?_
            refine st_gno rfl rfl ?_
            refine st_gno rfl rfl ?_
            refine st_val (ro_pickF (v := .bool _) rfl rfl) ?_
            refine st_val (ro_assign (v := .bool _) rfl) ?_
            refine st_nil ?_
            refine nx_then ?_
            refine cd_ret ?_
            refine res1 (v := .bool _) rfl rfl ?_
            first
              | exact ⟨rfl, rfl⟩
              | exact ⟨congrArg Value.bool (beq_self_eq_true _), rfl⟩
set_option maxRecDepth 100000 in
set_option maxHeartbeats 400000 in
theorem spoilBools_any (base : Nat) (A : Option Addr) (c : Nat) (l : List Bool) (w : World) (ho : w.ownsRow base 4 1 (.slice A l.length c) l.length (l.map boV)) (hn : l.length ≤ 140737488351232) (hbs : base ≤ w.heap.size) :
    Rt Tryd.prog 18 [.slice A l.length c] w (fun _ w' => w.grownBy w' (A.map (·.block))) := by
  refine enter (n := 20) Tryd.func18 rfl rfl rfl ?_
  refine cd_seq ?_
  refine cd_seq ?_
  refine cd_region ?_
  refine st_val (ro_assign (v := .int _ _) rfl) ?_
  refine st_nil ?_
  refine nx_then ?_
  refine cd_block ?_
  refine cd_loop (G := List Bool × Nat) [3, 4, 5, 6, 7, 8, 9, 10, 11, 12, 13, 14, 15, 16] (fun (_, k) => [(2, .int .i64 (k : Nat))]) (fun (l1, k) w' => k ≤ l.length ∧ l1.length = l.length ∧ w'.ownsRow base 4 1 (.slice A l.length c) l.length (l1.map boV) ∧ w.grownBy w' (A.map (·.block))) (fun (_, k) => l.length - k) ((l, 0)) ⟨rfl, trivial⟩ ?_ ?_
  · exact ⟨Nat.zero_le _, rfl, ho, (From.rfl_ (a := w)).grown _⟩
  rintro ⟨l1, k⟩ ρ1 w1 ⟨hk, hlen, ho1, hG⟩
  refine cd_seq ?_
  refine cd_seq ?_
  refine cd_region ?_
  refine st_val (ro_move (v := .int _ _) rfl) ?_
  refine st_val (ro_move (v := .slice _ _ _) rfl) ?_
  refine st_val (ro_len BitsHelp_l22 rfl) ?_
  refine st_val (ro_lss rfl rfl) ?_
  refine st_nil ?_
  refine nx_then ?_
  refine cd_cond rfl (fun Q2 => ?_) (fun Q2 => ?_)
  · (try first | replace Q2 := bn_t Q2 | replace Q2 := bn_f Q2)
    (try first | replace Q2 := bx_t Q2 | replace Q2 := bx_f Q2 | replace Q2 := be_t Q2 | replace Q2 := be_f Q2 | replace Q2 := of_decide_eq_true Q2 | replace Q2 := of_decide_eq_false Q2)
    obtain ⟨g, rfl⟩ := own_some ho (by omega)
    first
     | (exfalso; first | omega | contradiction | (cases Q2; done))
     | skip
       refine cd_skip ?_
       refine nx_then ?_
       refine cd_seq ?_
       refine cd_block ?_
       refine cd_region ?_
       refine st_val (ro_move (v := .slice _ _ _) rfl) ?_
       refine st_val (ro_move (v := .int _ _) rfl) ?_
       refine st_val (ro_move (v := .slice _ _ _) rfl) ?_
       refine st_val (ro_move (v := .int _ _) rfl) ?_
       refine st_val (ro_indexAddr0 BitsHelp_e22 rfl rfl (by omega)) ?_
       refine st_val (ro_load BitsHelp_g4 rfl (by exact own_cell ho1 k (by omega))) ?_
       refine st_val (ro_not rfl) ?_
       refine st_val (ro_indexAddr0 BitsHelp_e22 rfl rfl (by omega)) ?_
       refine st_putOwn (v := .bool _) BitsHelp_z4 rfl rfl rfl (ho1) (by omega) ?_
       intro w3 O3 P3
       refine st_nil ?_
       refine nx_block ?_
       refine nx_then ?_
       refine cd_region ?_
       refine st_val (ro_move (v := .int _ _) rfl) ?_
       refine st_val (ro_addN (b := 1) rfl rfl (by omega)) ?_
       refine st_val (ro_assign (v := .int _ _) rfl) ?_
       refine st_nil ?_
       refine nx_cut ((l1.set k (!(l1[k]'(by omega))), k + 1)) ⟨(by first | rfl | (refine int_eq ?_; omega)), trivial⟩ (by (iterate 30 refine agr_cons rfl ?_); exact agr_rfl) ⟨?_, ?_⟩
       · exact ⟨by omega, (List.length_set ..).trans hlen, by rw [List.map_set]; exact P3, grown_trans hG O3.grown⟩
       · show _ - _ < _ - _; omega
  · (try first | replace Q2 := bn_t Q2 | replace Q2 := bn_f Q2)
    (try first | replace Q2 := bx_t Q2 | replace Q2 := bx_f Q2 | replace Q2 := be_t Q2 | replace Q2 := be_f Q2 | replace Q2 := of_decide_eq_true Q2 | replace Q2 := of_decide_eq_false Q2)
    first
     | (exfalso; first | omega | contradiction | (cases Q2; done))
     | skip
       refine cd_exit ?_
       refine ex_then ?_
       refine ex_then ?_
       refine ex_block ?_
       refine nx_then ?_
       refine cd_region ?_
       refine st_val (ro_move (v := .slice _ _ _) rfl) ?_
       refine st_lit1 (v := .bool true) BitsHelp_q22 rfl rfl rfl ?_
       intro b18 w4 E18 hb18 hk18
       refine st_appendB (base := base) BitsHelp_q22 rfl (by decide) rfl (A := A) (xs := l1.map boV) (news := [.bool true]) (ho1.kept_from E18) (by have := hG.size; have := E18.size; omega) rfl rfl (fun _ => ⟨b18, 0, rfl, hk18.range 0 _ (fun j v h => by simpa using h)⟩) (fun h => by cases h) (by simp [Value.oneCell']) (by omega) (by omega) ?_
       intro A19 c19 w5 ho19 hg19
       refine st_val (ro_assign (v := .slice _ _ _) rfl) ?_
       refine st_nil ?_
       refine end_ret ?_
       refine res0 rfl ?_
       exact grown_trans hG (grown_trans (E18.grown _) hg19)
set_option maxRecDepth 100000 in
set_option maxHeartbeats 400000 in
theorem made_rt (A B : Option Addr) (ca m cb : Nat) (l : List Bool) (w : World) (hr : RowOf boV w A l) (hl : l.length ≤ 600) :
    Rt Tryd.prog 7 [.agg #[.slice A l.length ca, .slice B m cb]] w (fun v w' => ∃ b, v = .pointer (some ⟨b, 0, none⟩) ∧ Vec w' w.heap.size b l ∧ From w w') := by
  refine enter (n := 32) Tryd.func7 rfl rfl rfl ?_
  refine cd_seq ?_
  refine cd_region ?_
  refine st_box (v := .agg _) rfl ?_
  intro b1 w1 E1 hb1 hk1
  refine st_val (ro_assign (v := .pointer _) rfl) ?_
  refine st_nil ?_
  refine nx_then ?_
  refine cd_seq ?_
  refine cd_region ?_
  refine st_val (ro_fieldAddr BitsHelp_f25_0 rfl) ?_
  refine st_val (ro_load BitsHelp_g22 rfl (by exact hk1.rd 0 rfl)) ?_
  have hB8 := (From.rfl_.next E1)
  have hl8 := (hk1.from_ From.rfl_).lt
  refine st_call BitsHelp_k17 (copyBools_any A ca l _ (hr.from_ (From.rfl_.next E1)) (by omega)) ?_
  rintro v8 w2 ⟨A8, c8, rfl, ho8, E8⟩
  refine st_val (ro_assign (v := .slice _ _ _) rfl) ?_
  refine st_nil ?_
  refine nx_then ?_
  refine cd_seq ?_
  refine cd_region ?_
  refine st_val (ro_move (v := .slice _ _ _) rfl) ?_
  have hB11 := ((From.rfl_.next E1).next E8)
  refine st_call BitsHelp_k16 (new_rt A8 c8 l _ (RowOf.own ho8).2 (by omega)) ?_
  rintro v11 w3 ⟨b, rfl, hv, E11⟩
  refine st_val (ro_move (v := .tuple _) rfl) ?_
  refine st_val (ro_extract rfl rfl) ?_
  refine st_val (ro_extract rfl rfl) ?_
  refine st_val (ro_assign (v := .pointer _) rfl) ?_
  refine st_val (ro_assign (v := .int _ _) rfl) ?_
  refine st_nil ?_
  refine nx_then ?_
  refine cd_seq ?_
  refine cd_region ?_
  refine st_val (ro_move (v := .slice _ _ _) rfl) ?_
  refine st_call BitsHelp_k18 (spoilBools_any _ A8 c8 l _ (ho8.kept_from E11) (by omega) (by have := E8.size; have := E11.size; omega)) ?_
  rintro v15 w4 hg15
  replace hv := hv.grown hg15 (fun k hk => (own_lt ho8 k hk).2)
  replace hk1 := (hk1.from_ ((From.rfl_.next E8).next E11)).grown hg15 (fun k hk => by have := own_lt ho8 k hk; omega)
  refine st_nil ?_
  refine nx_then ?_
  refine cd_seq ?_
  refine cd_seq ?_
  have hz : (0 : Nat) = 0 := rfl
  · apply cd_drawn 15 [(16, eqp _), (17, eqp _), (18, eqp _), (19, eqp _), (20, eqp _), (21, eqp _), (22, eqp _), (23, eqp _), (24, eqp _), (25, eqp _), (26, eqp _), (27, eqp _), (28, eqp _), (29, eqp _), (30, eqp _)] (by kernel_rfl) (by kernel_rfl) ⟨eqp_mono _, eqp_mono _, eqp_mono _, eqp_mono _, eqp_mono _, eqp_mono _, eqp_mono _, eqp_mono _, eqp_mono _, eqp_mono _, eqp_mono _, eqp_mono _, eqp_mono _, eqp_mono _, eqp_mono _, trivial⟩
    case hop =>
     refine ⟨?_, ?_⟩
     · intro w6 D6
       show OpOK _ _ _ _ _ _ _
       exact ok_pure (ro_move (v := .int _ _) rfl) rfl
     refine ⟨?_, ?_⟩
     · intro w7 D7
       rintro _ rfl
       show OpOK _ _ _ _ _ _ _
       refine ok_call BitsHelp_k10 ((num_any _ _).mono ?_)
       rintro v _ ⟨rfl, rfl⟩; exact ⟨From.rfl_, rfl⟩
     refine ⟨?_, ?_⟩
     · intro w8 D8
       rintro _ rfl
       show OpOK _ _ _ _ _ _ _
       exact ok_pure (ro_bf (ro_neq rfl rfl) rfl) rfl
     refine ⟨?_, ?_⟩
     · intro w9 D9
       rintro _ rfl
       show OpOK _ _ _ _ _ _ _
       exact ok_pure (ro_move (v := .bool _) rfl) rfl
     refine ⟨?_, ?_⟩
     · intro w10 D10
       rintro _ rfl
       show OpOK _ _ _ _ _ _ _
       exact ok_gpure rfl (ro_move (v := .pointer _) rfl) rfl
     refine ⟨?_, ?_⟩
     · intro w11 D11
       rintro _ rfl _ rfl
       show OpOK _ _ _ _ _ _ _
       exact ok_gpure rfl (ro_bf (ro_eqlNil BitsHelp_p27 rfl rfl) rfl) rfl
     refine ⟨?_, ?_⟩
     · intro w12 D12
       rintro _ rfl _ rfl
       show OpOK _ _ _ _ _ _ _
       exact ok_pure (ro_pickF (v := .bool _) rfl rfl) rfl
     refine ⟨?_, ?_⟩
     · intro w13 D13
       rintro _ rfl
       show OpOK _ _ _ _ _ _ _
       exact ok_pure (ro_move (v := .bool _) rfl) rfl
     refine ⟨?_, ?_⟩
     · intro w14 D14
       rintro _ rfl
       show OpOK _ _ _ _ _ _ _
       exact ok_gpure rfl (ro_move (v := .pointer _) rfl) rfl
     refine ⟨?_, ?_⟩
     · intro w15 D15
       rintro _ rfl _ rfl
       show OpOK _ _ _ _ _ _ _
       refine ok_gcall rfl BitsHelp_k19 ((len_rt _ b l _ (hv.from_ (From.rfl_.next D15))).mono ?_)
       rintro v _ ⟨rfl, rfl⟩; exact ⟨From.rfl_, rfl⟩
     refine ⟨?_, ?_⟩
     · intro w16 D16
       rintro _ rfl
       show OpOK _ _ _ _ _ _ _
       exact ok_gpure rfl (ro_fieldAddr BitsHelp_f25_0 rfl) rfl
     refine ⟨?_, ?_⟩
     · intro w17 D17
       rintro _ rfl _ rfl
       show OpOK _ _ _ _ _ _ _
       exact ok_gpure rfl (ro_load BitsHelp_g22 rfl (by exact (hk1.from_ (From.rfl_.next D17)).rd 0 rfl)) rfl
     refine ⟨?_, ?_⟩
     · intro w18 D18
       rintro _ rfl _ rfl
       show OpOK _ _ _ _ _ _ _
       exact ok_gpure rfl (ro_len BitsHelp_l22 rfl) rfl
     refine ⟨?_, ?_⟩
     · intro w19 D19
       rintro _ rfl _ rfl _ rfl
       show OpOK _ _ _ _ _ _ _
       exact ok_gpure rfl (ro_bf (ro_neq rfl rfl) (bne_self_eq_false _)) rfl
     refine ⟨?_, ?_⟩
     · intro w20 D20
       rintro _ rfl _ rfl
       show OpOK _ _ _ _ _ _ _
       exact ok_pure (ro_pickF (v := .bool _) rfl rfl) rfl
     exact trivial
    case hend =>
     intro w21 D21
     rintro _ rfl _ rfl _ rfl _ rfl _ rfl _ rfl _ rfl _ rfl _ rfl _ rfl _ rfl _ rfl _ rfl _ rfl _ rfl
     show St _ _ _ _ _ _ _
     refine st_nil ?_
     refine nx_then ?_
     refine cd_condF rfl ?_
     refine cd_skip ?_
     refine nx_then ?_
     refine cd_seq ?_
     refine cd_region ?_
     refine st_val (ro_move (v := .pointer _) rfl) ?_
     refine st_val (ro_assign (v := .pointer _) rfl) ?_
     refine st_nil ?_
     refine nx_then ?_
     refine cd_ret ?_
     refine res1 (v := .pointer _) rfl rfl ?_
     exact ⟨b, rfl, (hv.from_ (From.rfl_.next D21)).le hB11.size, (((((From.rfl_.next E1).next E8).next E11).grew hg15 (fun k hk => Nat.le_trans hB8.size (own_lt ho8 k hk).1)).next D21)⟩
set_option maxRecDepth 100000 in
set_option maxHeartbeats 400000 in
theorem wakes_any (w : World) :
    Rt Tryd.prog 13 [] w (fun v w' => v = .bool true ∧ From w w') := by
  refine enter (n := 29) Tryd.func13 rfl rfl rfl ?_
  refine cd_seq ?_
  refine cd_region ?_
  refine st_val (ro_assign (v := .bool _) rfl) ?_
  refine st_nil ?_
  refine nx_then ?_
  refine cd_seq ?_
  refine cd_region ?_
  refine st_lits [.const (.bool true), .const (.bool false), .const (.bool true)] [.bool true, .bool false, .bool true] BitsHelp_q22 rfl rfl rfl rfl (by simp [Value.cells]) ?_
  intro b6 w1 E6 hb6 hk6
  refine st_call BitsHelp_k16 (new_rt (some ⟨b6, 0, none⟩) 3 [true, false, true] _ (RowOf.blk hk6 (fun i hi => by match i, hi with | 0, _ => rfl | 1, _ => rfl | 2, _ => rfl)) (by decide)) ?_
  rintro v7 w2 ⟨b, rfl, hv, E7⟩
  refine st_val (ro_move (v := .tuple _) rfl) ?_
  refine st_val (ro_extract rfl rfl) ?_
  refine st_val (ro_extract rfl rfl) ?_
  refine st_val (ro_assign (v := .pointer _) rfl) ?_
  refine st_val (ro_assign (v := .int _ _) rfl) ?_
  refine st_nil ?_
  refine nx_then ?_
  refine cd_seq ?_
  refine cd_seq ?_
  refine cd_region ?_
  refine st_val (ro_move (v := .int _ _) rfl) ?_
  refine st_call BitsHelp_k10 (num_any _ _) ?_
  rintro v11 w3 ⟨rfl, rfl⟩
  refine st_val (ro_neq rfl rfl) ?_
  refine st_val (ro_move (v := .bool _) rfl) ?_
  refine st_split (t := 13) rfl (fun Q4 => ?_) (fun Q4 => ?_)
  · (try first | replace Q4 := bn_t Q4 | replace Q4 := bn_f Q4)
    (try first | replace Q4 := bx_t Q4 | replace Q4 := bx_f Q4 | replace Q4 := be_t Q4 | replace Q4 := be_f Q4 | replace Q4 := of_decide_eq_true Q4 | replace Q4 := of_decide_eq_false Q4)
    first
     | (exfalso; first | omega | contradiction | (cases Q4; done))
     | skip
       refine st_gno rfl rfl ?_
       refine st_gno rfl rfl ?_
       refine st_val (ro_pickT (v := .bool _) rfl rfl) ?_
       refine st_nil ?_
       refine nx_then ?_
       refine cd_condT rfl ?_
       refine cd_seq ?_
       refine cd_region ?_
       refine st_val (ro_assign (v := .bool _) rfl) ?_
       refine st_nil ?_
       refine nx_then ?_
       refine cd_ret ?_
       refine rt_then ?_
       refine res1 (v := .bool _) rfl rfl ?_
       exact ⟨rfl, ((From.rfl_.next E6).next E7)⟩
  · (try first | replace Q4 := bn_t Q4 | replace Q4 := bn_f Q4)
    (try first | replace Q4 := bx_t Q4 | replace Q4 := bx_f Q4 | replace Q4 := be_t Q4 | replace Q4 := be_f Q4 | replace Q4 := of_decide_eq_true Q4 | replace Q4 := of_decide_eq_false Q4)
    first
     | (exfalso; first | omega | contradiction | (cases Q4; done))
     | skip
       refine st_unguard rfl ?_
       refine st_val (ro_move (v := .pointer _) rfl) ?_
       refine st_unguard rfl ?_
       refine st_val (ro_eqlNil BitsHelp_p27 rfl rfl) ?_
       refine st_val (ro_pickF (v := .bool _) rfl rfl) ?_
       refine st_nil ?_
       refine nx_then ?_
       refine cd_cond rfl (fun Q5 => ?_) (fun Q5 => ?_)
       · (try first | replace Q5 := bn_t Q5 | replace Q5 := bn_f Q5)
         (try first | replace Q5 := bx_t Q5 | replace Q5 := bx_f Q5 | replace Q5 := be_t Q5 | replace Q5 := be_f Q5 | replace Q5 := of_decide_eq_true Q5 | replace Q5 := of_decide_eq_false Q5)
         first
          | (exfalso; first | omega | contradiction | (cases Q5; done))
          | skip
            refine cd_seq ?_
            refine cd_region ?_
            refine st_val (ro_assign (v := .bool _) rfl) ?_
            refine st_nil ?_
            refine nx_then ?_
            refine cd_ret ?_
            refine rt_then ?_
            refine res1 (v := .bool _) rfl rfl ?_
            exact ⟨rfl, ((From.rfl_.next E6).next E7)⟩
       · (try first | replace Q5 := bn_t Q5 | replace Q5 := bn_f Q5)
         (try first | replace Q5 := bx_t Q5 | replace Q5 := bx_f Q5 | replace Q5 := be_t Q5 | replace Q5 := be_f Q5 | replace Q5 := of_decide_eq_true Q5 | replace Q5 := of_decide_eq_false Q5)
         first
          | (exfalso; first | omega | contradiction | (cases Q5; done))
          | skip
            refine cd_skip ?_
            refine nx_then ?_
            refine cd_seq ?_
            refine cd_region ?_
            refine st_val (ro_move (v := .pointer _) rfl) ?_
            refine st_call BitsHelp_k14 (rank_rt _ b 2 [true, false, true] _ (hv.from_ From.rfl_)) ?_
            rintro v19 w6 ⟨rfl, E19⟩
            refine st_val (ro_move (v := .tuple _) rfl) ?_
            refine st_val (ro_extract rfl rfl) ?_
            refine st_val (ro_extract rfl rfl) ?_
            refine st_val (ro_assign (v := .int _ _) rfl) ?_
            refine st_val (ro_assign (v := .int _ _) rfl) ?_
            refine st_nil ?_
            refine nx_then ?_
            refine cd_seq ?_
            refine cd_region ?_
            refine st_val (ro_move (v := .int _ _) rfl) ?_
            refine st_call BitsHelp_k10 (num_any _ _) ?_
            rintro v23 w7 ⟨rfl, rfl⟩
            refine st_val (ro_eql rfl rfl) ?_
            refine st_val (ro_move (v := .bool _) rfl) ?_
            refine st_split (t := 25) rfl (fun Q8 => ?_) (fun Q8 => ?_)
            · (try first | replace Q8 := bn_t Q8 | replace Q8 := bn_f Q8)
              (try first | replace Q8 := bx_t Q8 | replace Q8 := bx_f Q8 | replace Q8 := be_t Q8 | replace Q8 := be_f Q8 | replace Q8 := of_decide_eq_true Q8 | replace Q8 := of_decide_eq_false Q8)
              first
               | (exfalso; first | omega | contradiction | (cases Q8; done))
               | skip
                 refine st_unguard rfl ?_
                 refine st_val (ro_move (v := .int _ _) rfl) ?_
                 refine st_unguard rfl ?_
                 refine st_val (ro_eql rfl rfl) ?_
                 refine st_val (ro_pickT (v := .bool _) rfl rfl) ?_
                 refine st_val (ro_assign (v := .bool _) rfl) ?_
                 refine st_nil ?_
                 refine nx_then ?_
                 refine cd_ret ?_
                 refine res1 (v := .bool _) rfl rfl ?_
                 exact ⟨rfl, (((From.rfl_.next E6).next E7).next E19)⟩
            · (try first | replace Q8 := bn_t Q8 | replace Q8 := bn_f Q8)
              (try first | replace Q8 := bx_t Q8 | replace Q8 := bx_f Q8 | replace Q8 := be_t Q8 | replace Q8 := be_f Q8 | replace Q8 := of_decide_eq_true Q8 | replace Q8 := of_decide_eq_false Q8)
              first
               | (exfalso; first | omega | contradiction | (cases Q8; done))
               | skip
                 refine st_gno rfl rfl ?_
                 refine st_gno rfl rfl ?_
                 refine st_val (ro_pickF (v := .bool _) rfl rfl) ?_
                 refine st_val (ro_assign (v := .bool _) rfl) ?_
                 refine st_nil ?_
                 refine nx_then ?_
                 refine cd_ret ?_
                 refine res1 (v := .bool _) rfl rfl ?_
                 exact ⟨rfl, (((From.rfl_.next E6).next E7).next E19)⟩
end Go.Proofs.YtmjppicoffbdcaaDoor
