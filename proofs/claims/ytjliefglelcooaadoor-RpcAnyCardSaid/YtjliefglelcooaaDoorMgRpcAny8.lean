/- rpc: messages compared, which may be. -/
import Derived.Test.YtjliefglelcooaaDoorMgRpcAny4
import Derived.Test.YtjliefglelcooaaDoorMgRpcAny1
namespace Go.Proofs.YtjliefglelcooaaDoor
open Go.RowKit
open Go.ChangeShapes Go.WideShapes Go.ChangeAt
theorem RpcMay_g41 : aggQ Tryd.prog 41 = some true := by kernel_rfl
theorem RpcMay_z41 : sizeQ Tryd.prog 41 = some 3 := by kernel_rfl
theorem RpcMay_l25 : (elemQ Tryd.prog 25).isSome = true := by kernel_rfl
theorem RpcMay_e25 : elemQ Tryd.prog 25 = some (41, 3) := by kernel_rfl
theorem RpcMay_f27_0 : fieldQ Tryd.prog 27 0 = some 0 := by kernel_rfl
theorem RpcMay_g3 : aggQ Tryd.prog 3 = some false := by kernel_rfl
theorem RpcMay_f27_1 : fieldQ Tryd.prog 27 1 = some 1 := by kernel_rfl
theorem RpcMay_f27_2 : fieldQ Tryd.prog 27 2 = some 2 := by kernel_rfl
theorem RpcMay_f27_3 : fieldQ Tryd.prog 27 3 = some 3 := by kernel_rfl
theorem RpcMay_f27_4 : fieldQ Tryd.prog 27 4 = some 4 := by kernel_rfl
theorem RpcMay_f27_5 : fieldQ Tryd.prog 27 5 = some 5 := by kernel_rfl
theorem RpcMay_f27_6 : fieldQ Tryd.prog 27 6 = some 6 := by kernel_rfl
theorem RpcMay_f27_7 : fieldQ Tryd.prog 27 7 = some 7 := by kernel_rfl
theorem RpcMay_f27_8 : fieldQ Tryd.prog 27 8 = some 8 := by kernel_rfl
theorem RpcMay_g4 : aggQ Tryd.prog 4 = some false := by kernel_rfl
theorem RpcMay_f27_9 : fieldQ Tryd.prog 27 9 = some 9 := by kernel_rfl
theorem RpcMay_g25 : aggQ Tryd.prog 25 = some false := by kernel_rfl
theorem RpcMay_k19 : callable Tryd.prog 19 = true := by kernel_rfl
theorem RpcMay_f27_10 : fieldQ Tryd.prog 27 10 = some 10 := by kernel_rfl
theorem RpcMay_f27_11 : fieldQ Tryd.prog 27 11 = some 11 := by kernel_rfl
theorem RpcMay_g9 : aggQ Tryd.prog 9 = some false := by kernel_rfl
theorem RpcMay_f27_12 : fieldQ Tryd.prog 27 12 = some 12 := by kernel_rfl
theorem RpcMay_b27_0_1_2_3 : ∀ (a0 : Int) (a1 : Int) (a2 : Int) (a3 : Int), Tryd.prog.built 27 [(0, .int .i64 a0), (1, .int .i64 a1), (2, .int .i64 a2), (3, .int .i64 a3)] = some #[.int .i64 a0, .int .i64 a1, .int .i64 a2, .int .i64 a3, .int .i64 0, .int .i64 0, .int .i64 0, .int .i64 0, .bool false, .slice none 0 0, .int .i64 0, .string ⟨#[]⟩, .bool false] := by intros; kernel_rfl
theorem RpcMay_o27 : zeroQ Tryd.prog 27 = some (.agg #[.int .i64 0, .int .i64 0, .int .i64 0, .int .i64 0, .int .i64 0, .int .i64 0, .int .i64 0, .int .i64 0, .bool false, .slice none 0 0, .int .i64 0, .string ⟨#[]⟩, .bool false]) := by kernel_rfl
theorem RpcMay_z27 : sizeQ Tryd.prog 27 = some 13 := by kernel_rfl
theorem RpcMay_k23 : callable Tryd.prog 23 = true := by kernel_rfl
theorem RpcMay_k24 : callable Tryd.prog 24 = true := by kernel_rfl
theorem RpcMay_z3 : sizeQ Tryd.prog 3 = some 1 := by kernel_rfl
theorem RpcMay_z4 : sizeQ Tryd.prog 4 = some 1 := by kernel_rfl
theorem RpcMay_z25 : sizeQ Tryd.prog 25 = some 1 := by kernel_rfl
theorem RpcMay_k25 : callable Tryd.prog 25 = true := by kernel_rfl
theorem RpcMay_z9 : sizeQ Tryd.prog 9 = some 1 := by kernel_rfl
theorem RpcMay_g27 : aggQ Tryd.prog 27 = some true := by kernel_rfl
theorem RpcMay_k9 : callable Tryd.prog 9 = true := by kernel_rfl
instance : DecidableEq Ent := fun x y => decidable_of_iff (x.i = y.i ∧ x.t = y.t ∧ x.d = y.d) ⟨fun h => by cases x; cases y; simp_all, fun h => by rw [h]; exact ⟨rfl, rfl, rfl⟩⟩
theorem eq_ge {α : Type} {a b : List α} {k : Nat} (hl : a.length = b.length) (hk : ¬ k < a.length) (h : a.take k = b.take k) : a = b := by
  rw [List.take_of_length_le (by omega), List.take_of_length_le (by omega)] at h
  exact h
theorem take_eq {α : Type} {a b : List α} {k : Nat} (ha : k < a.length) (hb : k < b.length) (h : a.take k = b.take k) (he : a[k] = b[k]) : a.take (k + 1) = b.take (k + 1) := by
  rw [List.take_succ_eq_append_getElem ha, List.take_succ_eq_append_getElem hb, h, he]
theorem eqEnt (a b : Ent) (w : World) : (Op.equalIn 10000 41 (.agg #[.int .i64 a.i, .int .i64 a.t, .string a.d]) (.agg #[.int .i64 b.i, .int .i64 b.t, .string b.d])).run Tryd.prog w = .ok (decide (a = b)) w := by
  have u3 := Tryd.underlying3
  have a3 := Tryd.isAgg3
  have z3 := Tryd.sizeOf3
  have u9 := Tryd.underlying9
  have a9 := Tryd.isAgg9
  have z9 := Tryd.sizeOf9
  have hS : Tryd.prog.underlying 41 = some (.struct (Tryd.prog.fieldsOf 41)) := by kernel_rfl
  have hp : Tryd.prog.stoodInHeld 41 = false := by kernel_rfl
  obtain ⟨i1, t1, d1⟩ := a
  obtain ⟨i2, t2, d2⟩ := b
  rw [show (10000 : Nat) = 9999 + 1 from rfl, run_equalIn_agg w 9999 41 _ _ hS hp]
  simp only [Program.fieldsOf, Tryd.underlying41 ]
  go_simp
  simp only [toList_inj]
  by_cases h1 : i1 = i2 <;> by_cases h2 : t1 = t2 <;> by_cases h3 : d1 = d2 <;> simp [h1, h2, h3]
theorem ro_neqEnt {ρ : Operand → Value} {w : World} {yt : TypeId} {x y : Operand} {a b : Ent} (hx : ρ x = .agg #[.int .i64 a.i, .int .i64 a.t, .string a.d]) (hy : ρ y = .agg #[.int .i64 b.i, .int .i64 b.t, .string b.d]) : RO Tryd.prog ρ (.binOp .neq 41 x y yt) w (.bool (!decide (a = b))) w := by
  refine ro_bin hx hy (run_eqGuard_agg w _ _ _ _ _ _ (by kernel_rfl)) ?_
  rw [run_neq_struct, eqEnt]
  rfl
theorem ent_cells {w : World} {A : Option Addr} {n c : Nat} {es : List Ent} (h : Ents w (.slice A n c) es) (hn : 0 < es.length) : ∃ b o, A = some ⟨b, o, none⟩ ∧ ∀ i (hi : i < es.length), w.rangeAt b (o + i * 3) [.int .i64 es[i].i, .int .i64 es[i].t, .string es[i].d] := by
  obtain ⟨A', c', hv, _, _, _, hp⟩ := h
  simp only [Value.slice.injEq] at hv
  obtain ⟨rfl, _, _⟩ := hv
  obtain ⟨b, o, hA, _, hc⟩ := hp hn
  exact ⟨b, o, hA, fun i hi => range3 (hc i hi).1 (hc i hi).2.1 (hc i hi).2.2⟩
theorem beqS (a b : ByteArray) : (a.toList == b.toList) = decide (a = b) := by
  rw [Bool.eq_iff_iff, beq_iff_eq, decide_eq_true_eq, toList_inj]
theorem beqB (a b : Bool) : (a == b) = decide (a = b) := by cases a <;> cases b <;> rfl
theorem nil_len {es : List Ent} : [] = es ↔ es.length = 0 := by cases es <;> simp
theorem bool0' {b : Bool} : false = b ↔ b.toNat = 0 := by cases b <;> simp
theorem okR_iff {k f t tm ix lt cm rd : Int} {ok : Bool} {es : List Ent} {a : Int} {d : ByteArray} {dn : Bool} (h1 : NumR k f t tm ix lt cm rd a) (h2 : AppR k ix lt es) (h3 : SnpR k ix a d) : OkR k f t tm ix lt cm rd ok es a d dn ↔ ExR k ix lt cm rd ok es.length a d dn :=
  ⟨fun h => h.2.1, fun h => ⟨h1, h, h2, h3⟩⟩
set_option maxRecDepth 100000 in
set_option maxHeartbeats 400000 in
theorem eqEnts_g (A B : Option Addr) (ca cb n m : Nat) (xs ys : List Ent) (w : World) (hn : n = xs.length) (hm : m = ys.length) (h1 : Ents w (.slice A n ca) xs) (h2 : Ents w (.slice B m cb) ys) (hl : xs.length ≤ 400000000000) :
    Rt Tryd.prog 19 [.slice A n ca, .slice B m cb] w (fun v w' => v = .bool (decide (xs = ys)) ∧ From w w') := by
  subst hn hm
  refine enter (n := 26) Tryd.func19 rfl rfl rfl ?_
  refine cd_seq ?_
  refine cd_region ?_
  refine st_val (ro_assign (v := .bool _) rfl) ?_
  refine st_nil ?_
  refine nx_then ?_
  refine cd_seq ?_
  refine cd_seq ?_
  refine cd_region ?_
  refine st_val (ro_move (v := .slice _ _ _) rfl) ?_
  refine st_val (ro_len RpcMay_l25 rfl) ?_
  refine st_val (ro_move (v := .slice _ _ _) rfl) ?_
  refine st_val (ro_len RpcMay_l25 rfl) ?_
  refine st_val (ro_neq rfl rfl) ?_
  refine st_nil ?_
  refine nx_then ?_
  refine cd_cond rfl (fun Q1 => ?_) (fun Q1 => ?_)
  · (try first | replace Q1 := bn_t Q1 | replace Q1 := bn_f Q1)
    (try first | replace Q1 := bx_t Q1 | replace Q1 := bx_f Q1 | replace Q1 := be_t Q1 | replace Q1 := be_f Q1 | replace Q1 := of_decide_eq_true Q1 | replace Q1 := of_decide_eq_false Q1)
    first
     | (exfalso; first | omega | contradiction | (cases Q1; done))
     | skip
       refine cd_seq ?_
       refine cd_region ?_
       refine st_val (ro_assign (v := .bool _) rfl) ?_
       refine st_nil ?_
       refine nx_then ?_
       refine cd_ret ?_
       refine rt_then ?_
       refine res1 (v := .bool _) rfl rfl ?_
       exact ⟨congrArg Value.bool (decide_eq_false (fun e => absurd (congrArg List.length e) (by omega))).symm, From.rfl_⟩
  · (try first | replace Q1 := bn_t Q1 | replace Q1 := bn_f Q1)
    (try first | replace Q1 := bx_t Q1 | replace Q1 := bx_f Q1 | replace Q1 := be_t Q1 | replace Q1 := be_f Q1 | replace Q1 := of_decide_eq_true Q1 | replace Q1 := of_decide_eq_false Q1)
    have hlen : xs.length = ys.length := by omega
    first
     | (exfalso; first | omega | contradiction | (cases Q1; done))
     | skip
       refine cd_skip ?_
       refine nx_then ?_
       refine cd_seq ?_
       refine cd_seq ?_
       refine cd_region ?_
       refine st_val (ro_assign (v := .int _ _) rfl) ?_
       refine st_nil ?_
       refine nx_then ?_
       refine cd_block ?_
       refine cd_loop (G := Nat) [4, 11, 12, 13, 14, 15, 16, 17, 18, 19, 20, 21, 22, 23, 24, 25] (fun k => [(5, .int .i64 (k : Nat))]) (fun k w' => k ≤ xs.length ∧ xs.take k = ys.take k ∧ From w w') (fun k => xs.length - k) (0) ⟨rfl, trivial⟩ ?_ ?_
       · exact ⟨Nat.zero_le _, rfl, From.rfl_⟩
       rintro k ρ2 w2 ⟨hk, ht, hB⟩
       refine cd_seq ?_
       refine cd_seq ?_
       refine cd_region ?_
       refine st_val (ro_move (v := .int _ _) rfl) ?_
       refine st_val (ro_move (v := .slice _ _ _) rfl) ?_
       refine st_val (ro_len RpcMay_l25 rfl) ?_
       refine st_val (ro_lss rfl rfl) ?_
       refine st_nil ?_
       refine nx_then ?_
       refine cd_cond rfl (fun Q3 => ?_) (fun Q3 => ?_)
       · (try first | replace Q3 := bn_t Q3 | replace Q3 := bn_f Q3)
         (try first | replace Q3 := bx_t Q3 | replace Q3 := bx_f Q3 | replace Q3 := be_t Q3 | replace Q3 := be_f Q3 | replace Q3 := of_decide_eq_true Q3 | replace Q3 := of_decide_eq_false Q3)
         have hkx : k < xs.length := by omega
         have hky : k < ys.length := by omega
         obtain ⟨ba, oa, rfl, hca⟩ := ent_cells h1 (by omega)
         obtain ⟨bb, ob, rfl, hcb⟩ := ent_cells h2 (by omega)
         first
          | (exfalso; first | omega | contradiction | (cases Q3; done))
          | skip
            refine cd_skip ?_
            refine nx_then ?_
            refine cd_seq ?_
            refine cd_block ?_
            refine cd_seq ?_
            apply cd_drawnD 9 [(17, eqp _), (18, eqp _), (19, eqp _), (20, eqp (.agg #[.int .i64 (xs[k]'hkx).i, .int .i64 (xs[k]'hkx).t, .string (xs[k]'hkx).d])), (21, eqp _), (22, eqp _), (23, eqp _), (24, eqp (.agg #[.int .i64 (ys[k]'hky).i, .int .i64 (ys[k]'hky).t, .string (ys[k]'hky).d])), (25, eqp (.bool (!decide (xs[k]'hkx = ys[k]'hky))))] (by repeat first | exact pq_body | refine pq_then ?_ | refine pq_block ?_) (by kernel_rfl) (by kernel_rfl) ⟨eqp_mono _, eqp_mono _, eqp_mono _, eqp_mono _, eqp_mono _, eqp_mono _, eqp_mono _, eqp_mono _, eqp_mono _, trivial⟩
            case hop =>
             refine ⟨?_, ?_⟩
             · rintro - w5 D5
               show OpOK _ _ _ _ _ _ _
               exact ok_pure (ro_move (v := .slice _ _ _) rfl) rfl
             refine ⟨?_, ?_⟩
             · rintro - w6 D6
               show OpOK _ _ _ _ _ _ _
               exact ok_pure (ro_move (v := .int _ _) rfl) rfl
             refine ⟨?_, ?_⟩
             · rintro - w7 D7
               rintro _ rfl _ rfl
               show OpOK _ _ _ _ _ _ _
               exact ok_pure (ro_indexAddrN RpcMay_e25 rfl rfl (by omega)) rfl
             refine ⟨?_, ?_⟩
             · rintro - w8 D8
               rintro _ rfl
               show OpOK _ _ _ _ _ _ _
               exact ok_pure (ro_loadA (cs := [.int .i64 xs[k].i, .int .i64 xs[k].t, .string xs[k].d]) RpcMay_g41 RpcMay_z41 rfl (rangeF (hB.next D8) (hca k hkx))) rfl
             refine ⟨?_, ?_⟩
             · rintro - w9 D9
               show OpOK _ _ _ _ _ _ _
               exact ok_pure (ro_move (v := .slice _ _ _) rfl) rfl
             refine ⟨?_, ?_⟩
             · rintro - w10 D10
               show OpOK _ _ _ _ _ _ _
               exact ok_pure (ro_move (v := .int _ _) rfl) rfl
             refine ⟨?_, ?_⟩
             · rintro - w11 D11
               rintro _ rfl _ rfl
               show OpOK _ _ _ _ _ _ _
               exact ok_pure (ro_indexAddrN RpcMay_e25 rfl rfl (by omega)) rfl
             refine ⟨?_, ?_⟩
             · rintro - w12 D12
               rintro _ rfl
               show OpOK _ _ _ _ _ _ _
               exact ok_pure (ro_loadA (cs := [.int .i64 ys[k].i, .int .i64 ys[k].t, .string ys[k].d]) RpcMay_g41 RpcMay_z41 rfl (rangeF (hB.next D12) (hcb k hky))) rfl
             refine ⟨?_, ?_⟩
             · rintro - w13 D13
               rintro v13_20 rfl v13_24 rfl
               show OpOK _ _ _ _ _ _ _
               exact ok_pure (ro_neqEnt (a := xs[k]) (b := ys[k]) rfl rfl) rfl
             exact trivial
            case hend =>
             intro w14 D14
             rintro _ rfl _ rfl _ rfl v20 rfl _ rfl _ rfl _ rfl v24 rfl v25 rfl
             show St _ _ _ _ _ _ _
             refine st_nil ?_
             refine nx_then ?_
             refine cd_cond rfl (fun Q15 => ?_) (fun Q15 => ?_)
             · (try first | replace Q15 := bn_t Q15 | replace Q15 := bn_f Q15)
               (try first | replace Q15 := bx_t Q15 | replace Q15 := bx_f Q15 | replace Q15 := be_t Q15 | replace Q15 := be_f Q15 | replace Q15 := of_decide_eq_true Q15 | replace Q15 := of_decide_eq_false Q15)
               have hne : ¬ xs[k] = ys[k] := by simpa using Q15
               first
                | (exfalso; first | omega | contradiction | (cases Q15; done))
                | skip
                  refine cd_seq ?_
                  refine cd_region ?_
                  refine st_val (ro_assign (v := .bool _) rfl) ?_
                  refine st_nil ?_
                  refine nx_then ?_
                  refine cd_ret ?_
                  refine rt_block ?_
                  refine rt_then ?_
                  refine rt_then ?_
                  refine rt_block ?_
                  refine rt_then ?_
                  refine res1 (v := .bool _) rfl rfl ?_
                  exact ⟨congrArg Value.bool (decide_eq_false (fun e => by subst e; exact hne rfl)).symm, (hB.next D14)⟩
             · (try first | replace Q15 := bn_t Q15 | replace Q15 := bn_f Q15)
               (try first | replace Q15 := bx_t Q15 | replace Q15 := bx_f Q15 | replace Q15 := be_t Q15 | replace Q15 := be_f Q15 | replace Q15 := of_decide_eq_true Q15 | replace Q15 := of_decide_eq_false Q15)
               have heq : xs[k] = ys[k] := by simpa using Q15
               first
                | (exfalso; first | omega | contradiction | (cases Q15; done))
                | skip
                  refine cd_skip ?_
                  refine nx_block ?_
                  refine nx_then ?_
                  refine cd_region ?_
                  refine st_val (ro_move (v := .int _ _) rfl) ?_
                  refine st_val (ro_addN (b := 1) rfl rfl (by omega)) ?_
                  refine st_val (ro_assign (v := .int _ _) rfl) ?_
                  refine st_nil ?_
                  refine nx_cut (k + 1) ⟨(by first | rfl | (refine int_eq ?_; omega)), trivial⟩ (by (iterate 33 refine agr_cons rfl ?_); exact agr_rfl) ⟨?_, ?_⟩
                  · exact ⟨by omega, take_eq hkx hky ht heq, (hB.next D14)⟩
                  · omega
       · (try first | replace Q3 := bn_t Q3 | replace Q3 := bn_f Q3)
         (try first | replace Q3 := bx_t Q3 | replace Q3 := bx_f Q3 | replace Q3 := be_t Q3 | replace Q3 := be_f Q3 | replace Q3 := of_decide_eq_true Q3 | replace Q3 := of_decide_eq_false Q3)
         first
          | (exfalso; first | omega | contradiction | (cases Q3; done))
          | skip
            refine cd_exit ?_
            refine ex_then ?_
            refine ex_then ?_
            refine ex_block ?_
            refine nx_then ?_
            refine cd_seq ?_
            refine cd_region ?_
            refine st_val (ro_assign (v := .bool _) rfl) ?_
            refine st_nil ?_
            refine nx_then ?_
            refine cd_ret ?_
            refine res1 (v := .bool _) rfl rfl ?_
            exact ⟨congrArg Value.bool (decide_eq_true (eq_ge hlen (by omega) ht)).symm, hB⟩
set_option maxRecDepth 100000 in
set_option maxHeartbeats 1000000 in
theorem eqRpc_g (k f t tm ix lt cm rd : Int) (ok : Bool) (E : Option Addr) (n c : Nat) (a : Int) (d : ByteArray) (dn : Bool) (k2 f2 t2 tm2 ix2 lt2 cm2 rd2 : Int) (ok2 : Bool) (Eb : Option Addr) (n2 c2 : Nat) (a2 : Int) (d2 : ByteArray) (dn2 : Bool) (w : World) (es es2 : List Ent) (hn : n = es.length) (hn2 : n2 = es2.length) (he : Ents w (.slice E n c) es) (he2 : Ents w (.slice Eb n2 c2) es2) (hl : es.length ≤ 400000000000) :
    Rt Tryd.prog 9 [.agg #[.int .i64 k, .int .i64 f, .int .i64 t, .int .i64 tm, .int .i64 ix, .int .i64 lt, .int .i64 cm, .int .i64 rd, .bool ok, .slice E n c, .int .i64 a, .string d, .bool dn], .agg #[.int .i64 k2, .int .i64 f2, .int .i64 t2, .int .i64 tm2, .int .i64 ix2, .int .i64 lt2, .int .i64 cm2, .int .i64 rd2, .bool ok2, .slice Eb n2 c2, .int .i64 a2, .string d2, .bool dn2]] w (fun v w' => v = .bool (decide (k = k2 ∧ f = f2 ∧ t = t2 ∧ tm = tm2 ∧ ix = ix2 ∧ lt = lt2 ∧ cm = cm2 ∧ rd = rd2 ∧ ok = ok2 ∧ es = es2 ∧ a = a2 ∧ d = d2 ∧ dn = dn2)) ∧ From w w') := by
  refine enter (n := 94) Tryd.func9 rfl rfl rfl ?_
  refine cd_seq ?_
  refine cd_region ?_
  refine st_box (v := .agg _) rfl ?_
  intro b2 w1 E2 hb2 hk2
  refine st_box (v := .agg _) rfl ?_
  intro b3 w2 E3 hb3 hk3
  replace hk2 := hk2.from_ E3
  refine st_val (ro_assign (v := .bool _) rfl) ?_
  refine st_nil ?_
  refine nx_then ?_
  refine cd_seq ?_
  refine cd_region ?_
  refine st_val (ro_fieldAddr RpcMay_f27_0 rfl) ?_
  refine st_val (ro_load RpcMay_g3 rfl (by exact (hk2.from_ From.rfl_).rd 0 rfl)) ?_
  refine st_val (ro_fieldAddr RpcMay_f27_0 rfl) ?_
  refine st_val (ro_load RpcMay_g3 rfl (by exact (hk3.from_ From.rfl_).rd 0 rfl)) ?_
  refine st_val (ro_eql rfl rfl) ?_
  refine st_val (ro_move (v := .bool _) rfl) ?_
  refine st_split (t := 10) rfl (fun Q3 => ?_) (fun Q3 => ?_)
  · (try first | replace Q3 := bn_t Q3 | replace Q3 := bn_f Q3)
    (try first | replace Q3 := bx_t Q3 | replace Q3 := bx_f Q3 | replace Q3 := be_t Q3 | replace Q3 := be_f Q3 | replace Q3 := of_decide_eq_true Q3 | replace Q3 := of_decide_eq_false Q3)
    have q0 := Q3
    refine st_unguard rfl ?_
    refine st_val (ro_fieldAddr RpcMay_f27_1 rfl) ?_
    refine st_unguard rfl ?_
    refine st_val (ro_load RpcMay_g3 rfl (by exact (hk2.from_ From.rfl_).rd 1 rfl)) ?_
    refine st_unguard rfl ?_
    refine st_val (ro_fieldAddr RpcMay_f27_1 rfl) ?_
    refine st_unguard rfl ?_
    refine st_val (ro_load RpcMay_g3 rfl (by exact (hk3.from_ From.rfl_).rd 1 rfl)) ?_
    refine st_unguard rfl ?_
    refine st_val (ro_eql rfl rfl) ?_
    refine st_val (ro_pickT (v := .bool _) rfl rfl) ?_
    refine st_val (ro_move (v := .bool _) rfl) ?_
    refine st_split (t := 17) rfl (fun Q4 => ?_) (fun Q4 => ?_)
    · (try first | replace Q4 := bn_t Q4 | replace Q4 := bn_f Q4)
      (try first | replace Q4 := bx_t Q4 | replace Q4 := bx_f Q4 | replace Q4 := be_t Q4 | replace Q4 := be_f Q4 | replace Q4 := of_decide_eq_true Q4 | replace Q4 := of_decide_eq_false Q4)
      have q1 := Q4
      refine st_unguard rfl ?_
      refine st_val (ro_fieldAddr RpcMay_f27_2 rfl) ?_
      refine st_unguard rfl ?_
      refine st_val (ro_load RpcMay_g3 rfl (by exact (hk2.from_ From.rfl_).rd 2 rfl)) ?_
      refine st_unguard rfl ?_
      refine st_val (ro_fieldAddr RpcMay_f27_2 rfl) ?_
      refine st_unguard rfl ?_
      refine st_val (ro_load RpcMay_g3 rfl (by exact (hk3.from_ From.rfl_).rd 2 rfl)) ?_
      refine st_unguard rfl ?_
      refine st_val (ro_eql rfl rfl) ?_
      refine st_val (ro_pickT (v := .bool _) rfl rfl) ?_
      refine st_val (ro_move (v := .bool _) rfl) ?_
      refine st_split (t := 24) rfl (fun Q5 => ?_) (fun Q5 => ?_)
      · (try first | replace Q5 := bn_t Q5 | replace Q5 := bn_f Q5)
        (try first | replace Q5 := bx_t Q5 | replace Q5 := bx_f Q5 | replace Q5 := be_t Q5 | replace Q5 := be_f Q5 | replace Q5 := of_decide_eq_true Q5 | replace Q5 := of_decide_eq_false Q5)
        have q2 := Q5
        refine st_unguard rfl ?_
        refine st_val (ro_fieldAddr RpcMay_f27_3 rfl) ?_
        refine st_unguard rfl ?_
        refine st_val (ro_load RpcMay_g3 rfl (by exact (hk2.from_ From.rfl_).rd 3 rfl)) ?_
        refine st_unguard rfl ?_
        refine st_val (ro_fieldAddr RpcMay_f27_3 rfl) ?_
        refine st_unguard rfl ?_
        refine st_val (ro_load RpcMay_g3 rfl (by exact (hk3.from_ From.rfl_).rd 3 rfl)) ?_
        refine st_unguard rfl ?_
        refine st_val (ro_eql rfl rfl) ?_
        refine st_val (ro_pickT (v := .bool _) rfl rfl) ?_
        refine st_val (ro_move (v := .bool _) rfl) ?_
        refine st_split (t := 31) rfl (fun Q6 => ?_) (fun Q6 => ?_)
        · (try first | replace Q6 := bn_t Q6 | replace Q6 := bn_f Q6)
          (try first | replace Q6 := bx_t Q6 | replace Q6 := bx_f Q6 | replace Q6 := be_t Q6 | replace Q6 := be_f Q6 | replace Q6 := of_decide_eq_true Q6 | replace Q6 := of_decide_eq_false Q6)
          have q3 := Q6
          refine st_unguard rfl ?_
          refine st_val (ro_fieldAddr RpcMay_f27_4 rfl) ?_
          refine st_unguard rfl ?_
          refine st_val (ro_load RpcMay_g3 rfl (by exact (hk2.from_ From.rfl_).rd 4 rfl)) ?_
          refine st_unguard rfl ?_
          refine st_val (ro_fieldAddr RpcMay_f27_4 rfl) ?_
          refine st_unguard rfl ?_
          refine st_val (ro_load RpcMay_g3 rfl (by exact (hk3.from_ From.rfl_).rd 4 rfl)) ?_
          refine st_unguard rfl ?_
          refine st_val (ro_eql rfl rfl) ?_
          refine st_val (ro_pickT (v := .bool _) rfl rfl) ?_
          refine st_val (ro_move (v := .bool _) rfl) ?_
          refine st_split (t := 38) rfl (fun Q7 => ?_) (fun Q7 => ?_)
          · (try first | replace Q7 := bn_t Q7 | replace Q7 := bn_f Q7)
            (try first | replace Q7 := bx_t Q7 | replace Q7 := bx_f Q7 | replace Q7 := be_t Q7 | replace Q7 := be_f Q7 | replace Q7 := of_decide_eq_true Q7 | replace Q7 := of_decide_eq_false Q7)
            have q4 := Q7
            refine st_unguard rfl ?_
            refine st_val (ro_fieldAddr RpcMay_f27_5 rfl) ?_
            refine st_unguard rfl ?_
            refine st_val (ro_load RpcMay_g3 rfl (by exact (hk2.from_ From.rfl_).rd 5 rfl)) ?_
            refine st_unguard rfl ?_
            refine st_val (ro_fieldAddr RpcMay_f27_5 rfl) ?_
            refine st_unguard rfl ?_
            refine st_val (ro_load RpcMay_g3 rfl (by exact (hk3.from_ From.rfl_).rd 5 rfl)) ?_
            refine st_unguard rfl ?_
            refine st_val (ro_eql rfl rfl) ?_
            refine st_val (ro_pickT (v := .bool _) rfl rfl) ?_
            refine st_val (ro_move (v := .bool _) rfl) ?_
            refine st_split (t := 45) rfl (fun Q8 => ?_) (fun Q8 => ?_)
            · (try first | replace Q8 := bn_t Q8 | replace Q8 := bn_f Q8)
              (try first | replace Q8 := bx_t Q8 | replace Q8 := bx_f Q8 | replace Q8 := be_t Q8 | replace Q8 := be_f Q8 | replace Q8 := of_decide_eq_true Q8 | replace Q8 := of_decide_eq_false Q8)
              have q5 := Q8
              refine st_unguard rfl ?_
              refine st_val (ro_fieldAddr RpcMay_f27_6 rfl) ?_
              refine st_unguard rfl ?_
              refine st_val (ro_load RpcMay_g3 rfl (by exact (hk2.from_ From.rfl_).rd 6 rfl)) ?_
              refine st_unguard rfl ?_
              refine st_val (ro_fieldAddr RpcMay_f27_6 rfl) ?_
              refine st_unguard rfl ?_
              refine st_val (ro_load RpcMay_g3 rfl (by exact (hk3.from_ From.rfl_).rd 6 rfl)) ?_
              refine st_unguard rfl ?_
              refine st_val (ro_eql rfl rfl) ?_
              refine st_val (ro_pickT (v := .bool _) rfl rfl) ?_
              refine st_val (ro_move (v := .bool _) rfl) ?_
              refine st_split (t := 52) rfl (fun Q9 => ?_) (fun Q9 => ?_)
              · (try first | replace Q9 := bn_t Q9 | replace Q9 := bn_f Q9)
                (try first | replace Q9 := bx_t Q9 | replace Q9 := bx_f Q9 | replace Q9 := be_t Q9 | replace Q9 := be_f Q9 | replace Q9 := of_decide_eq_true Q9 | replace Q9 := of_decide_eq_false Q9)
                have q6 := Q9
                refine st_unguard rfl ?_
                refine st_val (ro_fieldAddr RpcMay_f27_7 rfl) ?_
                refine st_unguard rfl ?_
                refine st_val (ro_load RpcMay_g3 rfl (by exact (hk2.from_ From.rfl_).rd 7 rfl)) ?_
                refine st_unguard rfl ?_
                refine st_val (ro_fieldAddr RpcMay_f27_7 rfl) ?_
                refine st_unguard rfl ?_
                refine st_val (ro_load RpcMay_g3 rfl (by exact (hk3.from_ From.rfl_).rd 7 rfl)) ?_
                refine st_unguard rfl ?_
                refine st_val (ro_eql rfl rfl) ?_
                refine st_val (ro_pickT (v := .bool _) rfl rfl) ?_
                refine st_val (ro_move (v := .bool _) rfl) ?_
                refine st_split (t := 59) rfl (fun Q10 => ?_) (fun Q10 => ?_)
                · (try first | replace Q10 := bn_t Q10 | replace Q10 := bn_f Q10)
                  (try first | replace Q10 := bx_t Q10 | replace Q10 := bx_f Q10 | replace Q10 := be_t Q10 | replace Q10 := be_f Q10 | replace Q10 := of_decide_eq_true Q10 | replace Q10 := of_decide_eq_false Q10)
                  have q7 := Q10
                  refine st_unguard rfl ?_
                  refine st_val (ro_fieldAddr RpcMay_f27_8 rfl) ?_
                  refine st_unguard rfl ?_
                  refine st_val (ro_load RpcMay_g4 rfl (by exact (hk2.from_ From.rfl_).rd 8 rfl)) ?_
                  refine st_unguard rfl ?_
                  refine st_val (ro_fieldAddr RpcMay_f27_8 rfl) ?_
                  refine st_unguard rfl ?_
                  refine st_val (ro_load RpcMay_g4 rfl (by exact (hk3.from_ From.rfl_).rd 8 rfl)) ?_
                  refine st_unguard rfl ?_
                  refine st_val (ro_eq (ro_eqlB (by kernel_rfl) rfl rfl) (congrArg Value.bool (beqB ok ok2))) ?_
                  refine st_val (ro_pickT (v := .bool _) rfl rfl) ?_
                  refine st_val (ro_move (v := .bool _) rfl) ?_
                  refine st_split (t := 66) rfl (fun Q11 => ?_) (fun Q11 => ?_)
                  · (try first | replace Q11 := bn_t Q11 | replace Q11 := bn_f Q11)
                    (try first | replace Q11 := bx_t Q11 | replace Q11 := bx_f Q11 | replace Q11 := be_t Q11 | replace Q11 := be_f Q11 | replace Q11 := of_decide_eq_true Q11 | replace Q11 := of_decide_eq_false Q11)
                    have q8 := Q11
                    refine st_unguard rfl ?_
                    refine st_val (ro_fieldAddr RpcMay_f27_9 rfl) ?_
                    refine st_unguard rfl ?_
                    refine st_val (ro_load RpcMay_g25 rfl (by exact (hk2.from_ From.rfl_).rd 9 rfl)) ?_
                    refine st_unguard rfl ?_
                    refine st_val (ro_fieldAddr RpcMay_f27_9 rfl) ?_
                    refine st_unguard rfl ?_
                    refine st_val (ro_load RpcMay_g25 rfl (by exact (hk3.from_ From.rfl_).rd 9 rfl)) ?_
                    refine st_unguard rfl ?_
                    refine st_call RpcMay_k19 (eqEnts_g E Eb c c2 n n2 es es2 _ hn hn2 (he.from_ ((From.rfl_.next E2).next E3)) (he2.from_ ((From.rfl_.next E2).next E3)) hl) ?_
                    rintro v71 w12 ⟨rfl, E71⟩
                    refine st_val (ro_pickT (v := .bool _) rfl rfl) ?_
                    refine st_val (ro_move (v := .bool _) rfl) ?_
                    refine st_split (t := 73) rfl (fun Q13 => ?_) (fun Q13 => ?_)
                    · (try first | replace Q13 := bn_t Q13 | replace Q13 := bn_f Q13)
                      (try first | replace Q13 := bx_t Q13 | replace Q13 := bx_f Q13 | replace Q13 := be_t Q13 | replace Q13 := be_f Q13 | replace Q13 := of_decide_eq_true Q13 | replace Q13 := of_decide_eq_false Q13)
                      have q9 := Q13
                      refine st_unguard rfl ?_
                      refine st_val (ro_fieldAddr RpcMay_f27_10 rfl) ?_
                      refine st_unguard rfl ?_
                      refine st_val (ro_load RpcMay_g3 rfl (by exact (hk2.from_ (From.rfl_.next E71)).rd 10 rfl)) ?_
                      refine st_unguard rfl ?_
                      refine st_val (ro_fieldAddr RpcMay_f27_10 rfl) ?_
                      refine st_unguard rfl ?_
                      refine st_val (ro_load RpcMay_g3 rfl (by exact (hk3.from_ (From.rfl_.next E71)).rd 10 rfl)) ?_
                      refine st_unguard rfl ?_
                      refine st_val (ro_eql rfl rfl) ?_
                      refine st_val (ro_pickT (v := .bool _) rfl rfl) ?_
                      refine st_val (ro_move (v := .bool _) rfl) ?_
                      refine st_split (t := 80) rfl (fun Q14 => ?_) (fun Q14 => ?_)
                      · (try first | replace Q14 := bn_t Q14 | replace Q14 := bn_f Q14)
                        (try first | replace Q14 := bx_t Q14 | replace Q14 := bx_f Q14 | replace Q14 := be_t Q14 | replace Q14 := be_f Q14 | replace Q14 := of_decide_eq_true Q14 | replace Q14 := of_decide_eq_false Q14)
                        have q10 := Q14
                        refine st_unguard rfl ?_
                        refine st_val (ro_fieldAddr RpcMay_f27_11 rfl) ?_
                        refine st_unguard rfl ?_
                        refine st_val (ro_load RpcMay_g9 rfl (by exact (hk2.from_ (From.rfl_.next E71)).rd 11 rfl)) ?_
                        refine st_unguard rfl ?_
                        refine st_val (ro_fieldAddr RpcMay_f27_11 rfl) ?_
                        refine st_unguard rfl ?_
                        refine st_val (ro_load RpcMay_g9 rfl (by exact (hk3.from_ (From.rfl_.next E71)).rd 11 rfl)) ?_
                        refine st_unguard rfl ?_
                        refine st_val (ro_eq (ro_eqlS rfl rfl) (congrArg Value.bool (beqS d d2))) ?_
                        refine st_val (ro_pickT (v := .bool _) rfl rfl) ?_
                        refine st_val (ro_move (v := .bool _) rfl) ?_
                        refine st_split (t := 87) rfl (fun Q15 => ?_) (fun Q15 => ?_)
                        · (try first | replace Q15 := bn_t Q15 | replace Q15 := bn_f Q15)
                          (try first | replace Q15 := bx_t Q15 | replace Q15 := bx_f Q15 | replace Q15 := be_t Q15 | replace Q15 := be_f Q15 | replace Q15 := of_decide_eq_true Q15 | replace Q15 := of_decide_eq_false Q15)
                          have q11 := Q15
                          refine st_unguard rfl ?_
                          refine st_val (ro_fieldAddr RpcMay_f27_12 rfl) ?_
                          refine st_unguard rfl ?_
                          refine st_val (ro_load RpcMay_g4 rfl (by exact (hk2.from_ (From.rfl_.next E71)).rd 12 rfl)) ?_
                          refine st_unguard rfl ?_
                          refine st_val (ro_fieldAddr RpcMay_f27_12 rfl) ?_
                          refine st_unguard rfl ?_
                          refine st_val (ro_load RpcMay_g4 rfl (by exact (hk3.from_ (From.rfl_.next E71)).rd 12 rfl)) ?_
                          refine st_unguard rfl ?_
                          refine st_val (ro_eq (ro_eqlB (by kernel_rfl) rfl rfl) (congrArg Value.bool (beqB dn dn2))) ?_
                          refine st_val (ro_pickT (v := .bool _) rfl rfl) ?_
                          refine st_val (ro_assign (v := .bool _) rfl) ?_
                          refine st_nil ?_
                          refine nx_then ?_
                          refine cd_ret ?_
                          refine res1 (v := .bool _) rfl rfl ?_
                          refine ⟨congrArg Value.bool ?_, (((From.rfl_.next E2).next E3).next E71)⟩
                          first
                            | exact (decide_eq_false hno).symm
                            | (rw [decide_eq_decide]; exact ⟨fun h => ⟨q0, q1, q2, q3, q4, q5, q6, q7, q8, q9, q10, q11, h⟩, fun h => h.2.2.2.2.2.2.2.2.2.2.2.2⟩)
                        · (try first | replace Q15 := bn_t Q15 | replace Q15 := bn_f Q15)
                          (try first | replace Q15 := bx_t Q15 | replace Q15 := bx_f Q15 | replace Q15 := be_t Q15 | replace Q15 := be_f Q15 | replace Q15 := of_decide_eq_true Q15 | replace Q15 := of_decide_eq_false Q15)
                          have hno : ¬ (k = k2 ∧ f = f2 ∧ t = t2 ∧ tm = tm2 ∧ ix = ix2 ∧ lt = lt2 ∧ cm = cm2 ∧ rd = rd2 ∧ ok = ok2 ∧ es = es2 ∧ a = a2 ∧ d = d2 ∧ dn = dn2) := fun e => Q15 e.2.2.2.2.2.2.2.2.2.2.2.1
                          refine st_gno rfl rfl ?_
                          refine st_gno rfl rfl ?_
                          refine st_gno rfl rfl ?_
                          refine st_gno rfl rfl ?_
                          refine st_gno rfl rfl ?_
                          refine st_val (ro_pickF (v := .bool _) rfl rfl) ?_
                          refine st_val (ro_assign (v := .bool _) rfl) ?_
                          refine st_nil ?_
                          refine nx_then ?_
                          refine cd_ret ?_
                          refine res1 (v := .bool _) rfl rfl ?_
                          refine ⟨congrArg Value.bool ?_, (((From.rfl_.next E2).next E3).next E71)⟩
                          first
                            | exact (decide_eq_false hno).symm
                            | (rw [decide_eq_decide]; exact ⟨fun h => ⟨q0, q1, q2, q3, q4, q5, q6, q7, q8, q9, q10, q11, h⟩, fun h => h.2.2.2.2.2.2.2.2.2.2.2.2⟩)
                      · (try first | replace Q14 := bn_t Q14 | replace Q14 := bn_f Q14)
                        (try first | replace Q14 := bx_t Q14 | replace Q14 := bx_f Q14 | replace Q14 := be_t Q14 | replace Q14 := be_f Q14 | replace Q14 := of_decide_eq_true Q14 | replace Q14 := of_decide_eq_false Q14)
                        have hno : ¬ (k = k2 ∧ f = f2 ∧ t = t2 ∧ tm = tm2 ∧ ix = ix2 ∧ lt = lt2 ∧ cm = cm2 ∧ rd = rd2 ∧ ok = ok2 ∧ es = es2 ∧ a = a2 ∧ d = d2 ∧ dn = dn2) := fun e => Q14 e.2.2.2.2.2.2.2.2.2.2.1
                        refine st_gno rfl rfl ?_
                        refine st_gno rfl rfl ?_
                        refine st_gno rfl rfl ?_
                        refine st_gno rfl rfl ?_
                        refine st_gno rfl rfl ?_
                        refine st_val (ro_pickF (v := .bool _) rfl rfl) ?_
                        refine st_val (ro_move (v := .bool _) rfl) ?_
                        refine st_gno rfl rfl ?_
                        refine st_gno rfl rfl ?_
                        refine st_gno rfl rfl ?_
                        refine st_gno rfl rfl ?_
                        refine st_gno rfl rfl ?_
                        refine st_val (ro_pickF (v := .bool _) rfl rfl) ?_
                        refine st_val (ro_assign (v := .bool _) rfl) ?_
                        refine st_nil ?_
                        refine nx_then ?_
                        refine cd_ret ?_
                        refine res1 (v := .bool _) rfl rfl ?_
                        refine ⟨congrArg Value.bool ?_, (((From.rfl_.next E2).next E3).next E71)⟩
                        first
                          | exact (decide_eq_false hno).symm
                          | (rw [decide_eq_decide]; exact ⟨fun h => ⟨q0, q1, q2, q3, q4, q5, q6, q7, q8, q9, q10, q11, h⟩, fun h => h.2.2.2.2.2.2.2.2.2.2.2.2⟩)
                    · (try first | replace Q13 := bn_t Q13 | replace Q13 := bn_f Q13)
                      (try first | replace Q13 := bx_t Q13 | replace Q13 := bx_f Q13 | replace Q13 := be_t Q13 | replace Q13 := be_f Q13 | replace Q13 := of_decide_eq_true Q13 | replace Q13 := of_decide_eq_false Q13)
                      have hno : ¬ (k = k2 ∧ f = f2 ∧ t = t2 ∧ tm = tm2 ∧ ix = ix2 ∧ lt = lt2 ∧ cm = cm2 ∧ rd = rd2 ∧ ok = ok2 ∧ es = es2 ∧ a = a2 ∧ d = d2 ∧ dn = dn2) := fun e => Q13 e.2.2.2.2.2.2.2.2.2.1
                      refine st_gno rfl rfl ?_
                      refine st_gno rfl rfl ?_
                      refine st_gno rfl rfl ?_
                      refine st_gno rfl rfl ?_
                      refine st_gno rfl rfl ?_
                      refine st_val (ro_pickF (v := .bool _) rfl rfl) ?_
                      refine st_val (ro_move (v := .bool _) rfl) ?_
                      refine st_gno rfl rfl ?_
                      refine st_gno rfl rfl ?_
                      refine st_gno rfl rfl ?_
                      refine st_gno rfl rfl ?_
                      refine st_gno rfl rfl ?_
                      refine st_val (ro_pickF (v := .bool _) rfl rfl) ?_
                      refine st_val (ro_move (v := .bool _) rfl) ?_
                      refine st_gno rfl rfl ?_
                      refine st_gno rfl rfl ?_
                      refine st_gno rfl rfl ?_
                      refine st_gno rfl rfl ?_
                      refine st_gno rfl rfl ?_
                      refine st_val (ro_pickF (v := .bool _) rfl rfl) ?_
                      refine st_val (ro_assign (v := .bool _) rfl) ?_
                      refine st_nil ?_
                      refine nx_then ?_
                      refine cd_ret ?_
                      refine res1 (v := .bool _) rfl rfl ?_
                      refine ⟨congrArg Value.bool ?_, (((From.rfl_.next E2).next E3).next E71)⟩
                      first
                        | exact (decide_eq_false hno).symm
                        | (rw [decide_eq_decide]; exact ⟨fun h => ⟨q0, q1, q2, q3, q4, q5, q6, q7, q8, q9, q10, q11, h⟩, fun h => h.2.2.2.2.2.2.2.2.2.2.2.2⟩)
                  · (try first | replace Q11 := bn_t Q11 | replace Q11 := bn_f Q11)
                    (try first | replace Q11 := bx_t Q11 | replace Q11 := bx_f Q11 | replace Q11 := be_t Q11 | replace Q11 := be_f Q11 | replace Q11 := of_decide_eq_true Q11 | replace Q11 := of_decide_eq_false Q11)
                    have hno : ¬ (k = k2 ∧ f = f2 ∧ t = t2 ∧ tm = tm2 ∧ ix = ix2 ∧ lt = lt2 ∧ cm = cm2 ∧ rd = rd2 ∧ ok = ok2 ∧ es = es2 ∧ a = a2 ∧ d = d2 ∧ dn = dn2) := fun e => Q11 e.2.2.2.2.2.2.2.2.1
                    refine st_gno rfl rfl ?_
                    refine st_gno rfl rfl ?_
                    refine st_gno rfl rfl ?_
                    refine st_gno rfl rfl ?_
                    refine st_gno rfl rfl ?_
                    refine st_val (ro_pickF (v := .bool _) rfl rfl) ?_
                    refine st_val (ro_move (v := .bool _) rfl) ?_
                    refine st_gno rfl rfl ?_
                    refine st_gno rfl rfl ?_
                    refine st_gno rfl rfl ?_
                    refine st_gno rfl rfl ?_
                    refine st_gno rfl rfl ?_
                    refine st_val (ro_pickF (v := .bool _) rfl rfl) ?_
                    refine st_val (ro_move (v := .bool _) rfl) ?_
                    refine st_gno rfl rfl ?_
                    refine st_gno rfl rfl ?_
                    refine st_gno rfl rfl ?_
                    refine st_gno rfl rfl ?_
                    refine st_gno rfl rfl ?_
                    refine st_val (ro_pickF (v := .bool _) rfl rfl) ?_
                    refine st_val (ro_move (v := .bool _) rfl) ?_
                    refine st_gno rfl rfl ?_
                    refine st_gno rfl rfl ?_
                    refine st_gno rfl rfl ?_
                    refine st_gno rfl rfl ?_
                    refine st_gno rfl rfl ?_
                    refine st_val (ro_pickF (v := .bool _) rfl rfl) ?_
                    refine st_val (ro_assign (v := .bool _) rfl) ?_
                    refine st_nil ?_
                    refine nx_then ?_
                    refine cd_ret ?_
                    refine res1 (v := .bool _) rfl rfl ?_
                    refine ⟨congrArg Value.bool ?_, ((From.rfl_.next E2).next E3)⟩
                    first
                      | exact (decide_eq_false hno).symm
                      | (rw [decide_eq_decide]; exact ⟨fun h => ⟨q0, q1, q2, q3, q4, q5, q6, q7, q8, q9, q10, q11, h⟩, fun h => h.2.2.2.2.2.2.2.2.2.2.2.2⟩)
                · (try first | replace Q10 := bn_t Q10 | replace Q10 := bn_f Q10)
                  (try first | replace Q10 := bx_t Q10 | replace Q10 := bx_f Q10 | replace Q10 := be_t Q10 | replace Q10 := be_f Q10 | replace Q10 := of_decide_eq_true Q10 | replace Q10 := of_decide_eq_false Q10)
                  have hno : ¬ (k = k2 ∧ f = f2 ∧ t = t2 ∧ tm = tm2 ∧ ix = ix2 ∧ lt = lt2 ∧ cm = cm2 ∧ rd = rd2 ∧ ok = ok2 ∧ es = es2 ∧ a = a2 ∧ d = d2 ∧ dn = dn2) := fun e => Q10 e.2.2.2.2.2.2.2.1
                  refine st_gno rfl rfl ?_
                  refine st_gno rfl rfl ?_
                  refine st_gno rfl rfl ?_
                  refine st_gno rfl rfl ?_
                  refine st_gno rfl rfl ?_
                  refine st_val (ro_pickF (v := .bool _) rfl rfl) ?_
                  refine st_val (ro_move (v := .bool _) rfl) ?_
                  refine st_gno rfl rfl ?_
                  refine st_gno rfl rfl ?_
                  refine st_gno rfl rfl ?_
                  refine st_gno rfl rfl ?_
                  refine st_gno rfl rfl ?_
                  refine st_val (ro_pickF (v := .bool _) rfl rfl) ?_
                  refine st_val (ro_move (v := .bool _) rfl) ?_
                  refine st_gno rfl rfl ?_
                  refine st_gno rfl rfl ?_
                  refine st_gno rfl rfl ?_
                  refine st_gno rfl rfl ?_
                  refine st_gno rfl rfl ?_
                  refine st_val (ro_pickF (v := .bool _) rfl rfl) ?_
                  refine st_val (ro_move (v := .bool _) rfl) ?_
                  refine st_gno rfl rfl ?_
                  refine st_gno rfl rfl ?_
                  refine st_gno rfl rfl ?_
                  refine st_gno rfl rfl ?_
                  refine st_gno rfl rfl ?_
                  refine st_val (ro_pickF (v := .bool _) rfl rfl) ?_
                  refine st_val (ro_move (v := .bool _) rfl) ?_
                  refine st_gno rfl rfl ?_
                  refine st_gno rfl rfl ?_
                  refine st_gno rfl rfl ?_
                  refine st_gno rfl rfl ?_
                  refine st_gno rfl rfl ?_
                  refine st_val (ro_pickF (v := .bool _) rfl rfl) ?_
                  refine st_val (ro_assign (v := .bool _) rfl) ?_
                  refine st_nil ?_
                  refine nx_then ?_
                  refine cd_ret ?_
                  refine res1 (v := .bool _) rfl rfl ?_
                  refine ⟨congrArg Value.bool ?_, ((From.rfl_.next E2).next E3)⟩
                  first
                    | exact (decide_eq_false hno).symm
                    | (rw [decide_eq_decide]; exact ⟨fun h => ⟨q0, q1, q2, q3, q4, q5, q6, q7, q8, q9, q10, q11, h⟩, fun h => h.2.2.2.2.2.2.2.2.2.2.2.2⟩)
              · (try first | replace Q9 := bn_t Q9 | replace Q9 := bn_f Q9)
                (try first | replace Q9 := bx_t Q9 | replace Q9 := bx_f Q9 | replace Q9 := be_t Q9 | replace Q9 := be_f Q9 | replace Q9 := of_decide_eq_true Q9 | replace Q9 := of_decide_eq_false Q9)
                have hno : ¬ (k = k2 ∧ f = f2 ∧ t = t2 ∧ tm = tm2 ∧ ix = ix2 ∧ lt = lt2 ∧ cm = cm2 ∧ rd = rd2 ∧ ok = ok2 ∧ es = es2 ∧ a = a2 ∧ d = d2 ∧ dn = dn2) := fun e => Q9 e.2.2.2.2.2.2.1
                refine st_gno rfl rfl ?_
                refine st_gno rfl rfl ?_
                refine st_gno rfl rfl ?_
                refine st_gno rfl rfl ?_
                refine st_gno rfl rfl ?_
                refine st_val (ro_pickF (v := .bool _) rfl rfl) ?_
                refine st_val (ro_move (v := .bool _) rfl) ?_
                refine st_gno rfl rfl ?_
                refine st_gno rfl rfl ?_
                refine st_gno rfl rfl ?_
                refine st_gno rfl rfl ?_
                refine st_gno rfl rfl ?_
                refine st_val (ro_pickF (v := .bool _) rfl rfl) ?_
                refine st_val (ro_move (v := .bool _) rfl) ?_
                refine st_gno rfl rfl ?_
                refine st_gno rfl rfl ?_
                refine st_gno rfl rfl ?_
                refine st_gno rfl rfl ?_
                refine st_gno rfl rfl ?_
                refine st_val (ro_pickF (v := .bool _) rfl rfl) ?_
                refine st_val (ro_move (v := .bool _) rfl) ?_
                refine st_gno rfl rfl ?_
                refine st_gno rfl rfl ?_
                refine st_gno rfl rfl ?_
                refine st_gno rfl rfl ?_
                refine st_gno rfl rfl ?_
                refine st_val (ro_pickF (v := .bool _) rfl rfl) ?_
                refine st_val (ro_move (v := .bool _) rfl) ?_
                refine st_gno rfl rfl ?_
                refine st_gno rfl rfl ?_
                refine st_gno rfl rfl ?_
                refine st_gno rfl rfl ?_
                refine st_gno rfl rfl ?_
                refine st_val (ro_pickF (v := .bool _) rfl rfl) ?_
                refine st_val (ro_move (v := .bool _) rfl) ?_
                refine st_gno rfl rfl ?_
                refine st_gno rfl rfl ?_
                refine st_gno rfl rfl ?_
                refine st_gno rfl rfl ?_
                refine st_gno rfl rfl ?_
                refine st_val (ro_pickF (v := .bool _) rfl rfl) ?_
                refine st_val (ro_assign (v := .bool _) rfl) ?_
                refine st_nil ?_
                refine nx_then ?_
                refine cd_ret ?_
                refine res1 (v := .bool _) rfl rfl ?_
                refine ⟨congrArg Value.bool ?_, ((From.rfl_.next E2).next E3)⟩
                first
                  | exact (decide_eq_false hno).symm
                  | (rw [decide_eq_decide]; exact ⟨fun h => ⟨q0, q1, q2, q3, q4, q5, q6, q7, q8, q9, q10, q11, h⟩, fun h => h.2.2.2.2.2.2.2.2.2.2.2.2⟩)
            · (try first | replace Q8 := bn_t Q8 | replace Q8 := bn_f Q8)
              (try first | replace Q8 := bx_t Q8 | replace Q8 := bx_f Q8 | replace Q8 := be_t Q8 | replace Q8 := be_f Q8 | replace Q8 := of_decide_eq_true Q8 | replace Q8 := of_decide_eq_false Q8)
              have hno : ¬ (k = k2 ∧ f = f2 ∧ t = t2 ∧ tm = tm2 ∧ ix = ix2 ∧ lt = lt2 ∧ cm = cm2 ∧ rd = rd2 ∧ ok = ok2 ∧ es = es2 ∧ a = a2 ∧ d = d2 ∧ dn = dn2) := fun e => Q8 e.2.2.2.2.2.1
              refine st_gno rfl rfl ?_
              refine st_gno rfl rfl ?_
              refine st_gno rfl rfl ?_
              refine st_gno rfl rfl ?_
              refine st_gno rfl rfl ?_
              refine st_val (ro_pickF (v := .bool _) rfl rfl) ?_
              refine st_val (ro_move (v := .bool _) rfl) ?_
              refine st_gno rfl rfl ?_
              refine st_gno rfl rfl ?_
              refine st_gno rfl rfl ?_
              refine st_gno rfl rfl ?_
              refine st_gno rfl rfl ?_
              refine st_val (ro_pickF (v := .bool _) rfl rfl) ?_
              refine st_val (ro_move (v := .bool _) rfl) ?_
              refine st_gno rfl rfl ?_
              refine st_gno rfl rfl ?_
              refine st_gno rfl rfl ?_
              refine st_gno rfl rfl ?_
              refine st_gno rfl rfl ?_
              refine st_val (ro_pickF (v := .bool _) rfl rfl) ?_
              refine st_val (ro_move (v := .bool _) rfl) ?_
              refine st_gno rfl rfl ?_
              refine st_gno rfl rfl ?_
              refine st_gno rfl rfl ?_
              refine st_gno rfl rfl ?_
              refine st_gno rfl rfl ?_
              refine st_val (ro_pickF (v := .bool _) rfl rfl) ?_
              refine st_val (ro_move (v := .bool _) rfl) ?_
              refine st_gno rfl rfl ?_
              refine st_gno rfl rfl ?_
              refine st_gno rfl rfl ?_
              refine st_gno rfl rfl ?_
              refine st_gno rfl rfl ?_
              refine st_val (ro_pickF (v := .bool _) rfl rfl) ?_
              refine st_val (ro_move (v := .bool _) rfl) ?_
              refine st_gno rfl rfl ?_
              refine st_gno rfl rfl ?_
              refine st_gno rfl rfl ?_
              refine st_gno rfl rfl ?_
              refine st_gno rfl rfl ?_
              refine st_val (ro_pickF (v := .bool _) rfl rfl) ?_
              refine st_val (ro_move (v := .bool _) rfl) ?_
              refine st_gno rfl rfl ?_
              refine st_gno rfl rfl ?_
              refine st_gno rfl rfl ?_
              refine st_gno rfl rfl ?_
              refine st_gno rfl rfl ?_
              refine st_val (ro_pickF (v := .bool _) rfl rfl) ?_
              refine st_val (ro_assign (v := .bool _) rfl) ?_
              refine st_nil ?_
              refine nx_then ?_
              refine cd_ret ?_
              refine res1 (v := .bool _) rfl rfl ?_
              refine ⟨congrArg Value.bool ?_, ((From.rfl_.next E2).next E3)⟩
              first
                | exact (decide_eq_false hno).symm
                | (rw [decide_eq_decide]; exact ⟨fun h => ⟨q0, q1, q2, q3, q4, q5, q6, q7, q8, q9, q10, q11, h⟩, fun h => h.2.2.2.2.2.2.2.2.2.2.2.2⟩)
          · (try first | replace Q7 := bn_t Q7 | replace Q7 := bn_f Q7)
            (try first | replace Q7 := bx_t Q7 | replace Q7 := bx_f Q7 | replace Q7 := be_t Q7 | replace Q7 := be_f Q7 | replace Q7 := of_decide_eq_true Q7 | replace Q7 := of_decide_eq_false Q7)
            have hno : ¬ (k = k2 ∧ f = f2 ∧ t = t2 ∧ tm = tm2 ∧ ix = ix2 ∧ lt = lt2 ∧ cm = cm2 ∧ rd = rd2 ∧ ok = ok2 ∧ es = es2 ∧ a = a2 ∧ d = d2 ∧ dn = dn2) := fun e => Q7 e.2.2.2.2.1
            refine st_gno rfl rfl ?_
            refine st_gno rfl rfl ?_
            refine st_gno rfl rfl ?_
            refine st_gno rfl rfl ?_
            refine st_gno rfl rfl ?_
            refine st_val (ro_pickF (v := .bool _) rfl rfl) ?_
            refine st_val (ro_move (v := .bool _) rfl) ?_
            refine st_gno rfl rfl ?_
            refine st_gno rfl rfl ?_
            refine st_gno rfl rfl ?_
            refine st_gno rfl rfl ?_
            refine st_gno rfl rfl ?_
            refine st_val (ro_pickF (v := .bool _) rfl rfl) ?_
            refine st_val (ro_move (v := .bool _) rfl) ?_
            refine st_gno rfl rfl ?_
            refine st_gno rfl rfl ?_
            refine st_gno rfl rfl ?_
            refine st_gno rfl rfl ?_
            refine st_gno rfl rfl ?_
            refine st_val (ro_pickF (v := .bool _) rfl rfl) ?_
            refine st_val (ro_move (v := .bool _) rfl) ?_
            refine st_gno rfl rfl ?_
            refine st_gno rfl rfl ?_
            refine st_gno rfl rfl ?_
            refine st_gno rfl rfl ?_
            refine st_gno rfl rfl ?_
            refine st_val (ro_pickF (v := .bool _) rfl rfl) ?_
            refine st_val (ro_move (v := .bool _) rfl) ?_
            refine st_gno rfl rfl ?_
            refine st_gno rfl rfl ?_
            refine st_gno rfl rfl ?_
            refine st_gno rfl rfl ?_
            refine st_gno rfl rfl ?_
            refine st_val (ro_pickF (v := .bool _) rfl rfl) ?_
            refine st_val (ro_move (v := .bool _) rfl) ?_
            refine st_gno rfl rfl ?_
            refine st_gno rfl rfl ?_
            refine st_gno rfl rfl ?_
            refine st_gno rfl rfl ?_
            refine st_gno rfl rfl ?_
            refine st_val (ro_pickF (v := .bool _) rfl rfl) ?_
            refine st_val (ro_move (v := .bool _) rfl) ?_
            refine st_gno rfl rfl ?_
            refine st_gno rfl rfl ?_
            refine st_gno rfl rfl ?_
            refine st_gno rfl rfl ?_
            refine st_gno rfl rfl ?_
            refine st_val (ro_pickF (v := .bool _) rfl rfl) ?_
            refine st_val (ro_move (v := .bool _) rfl) ?_
            refine st_gno rfl rfl ?_
            refine st_gno rfl rfl ?_
            refine st_gno rfl rfl ?_
            refine st_gno rfl rfl ?_
            refine st_gno rfl rfl ?_
            refine st_val (ro_pickF (v := .bool _) rfl rfl) ?_
            refine st_val (ro_assign (v := .bool _) rfl) ?_
            refine st_nil ?_
            refine nx_then ?_
            refine cd_ret ?_
            refine res1 (v := .bool _) rfl rfl ?_
            refine ⟨congrArg Value.bool ?_, ((From.rfl_.next E2).next E3)⟩
            first
              | exact (decide_eq_false hno).symm
              | (rw [decide_eq_decide]; exact ⟨fun h => ⟨q0, q1, q2, q3, q4, q5, q6, q7, q8, q9, q10, q11, h⟩, fun h => h.2.2.2.2.2.2.2.2.2.2.2.2⟩)
        · (try first | replace Q6 := bn_t Q6 | replace Q6 := bn_f Q6)
          (try first | replace Q6 := bx_t Q6 | replace Q6 := bx_f Q6 | replace Q6 := be_t Q6 | replace Q6 := be_f Q6 | replace Q6 := of_decide_eq_true Q6 | replace Q6 := of_decide_eq_false Q6)
          have hno : ¬ (k = k2 ∧ f = f2 ∧ t = t2 ∧ tm = tm2 ∧ ix = ix2 ∧ lt = lt2 ∧ cm = cm2 ∧ rd = rd2 ∧ ok = ok2 ∧ es = es2 ∧ a = a2 ∧ d = d2 ∧ dn = dn2) := fun e => Q6 e.2.2.2.1
          refine st_gno rfl rfl ?_
          refine st_gno rfl rfl ?_
          refine st_gno rfl rfl ?_
          refine st_gno rfl rfl ?_
          refine st_gno rfl rfl ?_
          refine st_val (ro_pickF (v := .bool _) rfl rfl) ?_
          refine st_val (ro_move (v := .bool _) rfl) ?_
          refine st_gno rfl rfl ?_
          refine st_gno rfl rfl ?_
          refine st_gno rfl rfl ?_
          refine st_gno rfl rfl ?_
          refine st_gno rfl rfl ?_
          refine st_val (ro_pickF (v := .bool _) rfl rfl) ?_
          refine st_val (ro_move (v := .bool _) rfl) ?_
          refine st_gno rfl rfl ?_
          refine st_gno rfl rfl ?_
          refine st_gno rfl rfl ?_
          refine st_gno rfl rfl ?_
          refine st_gno rfl rfl ?_
          refine st_val (ro_pickF (v := .bool _) rfl rfl) ?_
          refine st_val (ro_move (v := .bool _) rfl) ?_
          refine st_gno rfl rfl ?_
          refine st_gno rfl rfl ?_
          refine st_gno rfl rfl ?_
          refine st_gno rfl rfl ?_
          refine st_gno rfl rfl ?_
          refine st_val (ro_pickF (v := .bool _) rfl rfl) ?_
          refine st_val (ro_move (v := .bool _) rfl) ?_
          refine st_gno rfl rfl ?_
          refine st_gno rfl rfl ?_
          refine st_gno rfl rfl ?_
          refine st_gno rfl rfl ?_
          refine st_gno rfl rfl ?_
          refine st_val (ro_pickF (v := .bool _) rfl rfl) ?_
          refine st_val (ro_move (v := .bool _) rfl) ?_
          refine st_gno rfl rfl ?_
          refine st_gno rfl rfl ?_
          refine st_gno rfl rfl ?_
          refine st_gno rfl rfl ?_
          refine st_gno rfl rfl ?_
          refine st_val (ro_pickF (v := .bool _) rfl rfl) ?_
          refine st_val (ro_move (v := .bool _) rfl) ?_
          refine st_gno rfl rfl ?_
          refine st_gno rfl rfl ?_
          refine st_gno rfl rfl ?_
          refine st_gno rfl rfl ?_
          refine st_gno rfl rfl ?_
          refine st_val (ro_pickF (v := .bool _) rfl rfl) ?_
          refine st_val (ro_move (v := .bool _) rfl) ?_
          refine st_gno rfl rfl ?_
          refine st_gno rfl rfl ?_
          refine st_gno rfl rfl ?_
          refine st_gno rfl rfl ?_
          refine st_gno rfl rfl ?_
          refine st_val (ro_pickF (v := .bool _) rfl rfl) ?_
          refine st_val (ro_move (v := .bool _) rfl) ?_
          refine st_gno rfl rfl ?_
          refine st_gno rfl rfl ?_
          refine st_gno rfl rfl ?_
          refine st_gno rfl rfl ?_
          refine st_gno rfl rfl ?_
          refine st_val (ro_pickF (v := .bool _) rfl rfl) ?_
          refine st_val (ro_assign (v := .bool _) rfl) ?_
          refine st_nil ?_
          refine nx_then ?_
          refine cd_ret ?_
          refine res1 (v := .bool _) rfl rfl ?_
          refine ⟨congrArg Value.bool ?_, ((From.rfl_.next E2).next E3)⟩
          first
            | exact (decide_eq_false hno).symm
            | (rw [decide_eq_decide]; exact ⟨fun h => ⟨q0, q1, q2, q3, q4, q5, q6, q7, q8, q9, q10, q11, h⟩, fun h => h.2.2.2.2.2.2.2.2.2.2.2.2⟩)
      · (try first | replace Q5 := bn_t Q5 | replace Q5 := bn_f Q5)
        (try first | replace Q5 := bx_t Q5 | replace Q5 := bx_f Q5 | replace Q5 := be_t Q5 | replace Q5 := be_f Q5 | replace Q5 := of_decide_eq_true Q5 | replace Q5 := of_decide_eq_false Q5)
        have hno : ¬ (k = k2 ∧ f = f2 ∧ t = t2 ∧ tm = tm2 ∧ ix = ix2 ∧ lt = lt2 ∧ cm = cm2 ∧ rd = rd2 ∧ ok = ok2 ∧ es = es2 ∧ a = a2 ∧ d = d2 ∧ dn = dn2) := fun e => Q5 e.2.2.1
        refine st_gno rfl rfl ?_
        refine st_gno rfl rfl ?_
        refine st_gno rfl rfl ?_
        refine st_gno rfl rfl ?_
        refine st_gno rfl rfl ?_
        refine st_val (ro_pickF (v := .bool _) rfl rfl) ?_
        refine st_val (ro_move (v := .bool _) rfl) ?_
        refine st_gno rfl rfl ?_
        refine st_gno rfl rfl ?_
        refine st_gno rfl rfl ?_
        refine st_gno rfl rfl ?_
        refine st_gno rfl rfl ?_
        refine st_val (ro_pickF (v := .bool _) rfl rfl) ?_
        refine st_val (ro_move (v := .bool _) rfl) ?_
        refine st_gno rfl rfl ?_
        refine st_gno rfl rfl ?_
        refine st_gno rfl rfl ?_
        refine st_gno rfl rfl ?_
        refine st_gno rfl rfl ?_
        refine st_val (ro_pickF (v := .bool _) rfl rfl) ?_
        refine st_val (ro_move (v := .bool _) rfl) ?_
        refine st_gno rfl rfl ?_
        refine st_gno rfl rfl ?_
        refine st_gno rfl rfl ?_
        refine st_gno rfl rfl ?_
        refine st_gno rfl rfl ?_
        refine st_val (ro_pickF (v := .bool _) rfl rfl) ?_
        refine st_val (ro_move (v := .bool _) rfl) ?_
        refine st_gno rfl rfl ?_
        refine st_gno rfl rfl ?_
        refine st_gno rfl rfl ?_
        refine st_gno rfl rfl ?_
        refine st_gno rfl rfl ?_
        refine st_val (ro_pickF (v := .bool _) rfl rfl) ?_
        refine st_val (ro_move (v := .bool _) rfl) ?_
        refine st_gno rfl rfl ?_
        refine st_gno rfl rfl ?_
        refine st_gno rfl rfl ?_
        refine st_gno rfl rfl ?_
        refine st_gno rfl rfl ?_
        refine st_val (ro_pickF (v := .bool _) rfl rfl) ?_
        refine st_val (ro_move (v := .bool _) rfl) ?_
        refine st_gno rfl rfl ?_
        refine st_gno rfl rfl ?_
        refine st_gno rfl rfl ?_
        refine st_gno rfl rfl ?_
        refine st_gno rfl rfl ?_
        refine st_val (ro_pickF (v := .bool _) rfl rfl) ?_
        refine st_val (ro_move (v := .bool _) rfl) ?_
        refine st_gno rfl rfl ?_
        refine st_gno rfl rfl ?_
        refine st_gno rfl rfl ?_
        refine st_gno rfl rfl ?_
        refine st_gno rfl rfl ?_
        refine st_val (ro_pickF (v := .bool _) rfl rfl) ?_
        refine st_val (ro_move (v := .bool _) rfl) ?_
        refine st_gno rfl rfl ?_
        refine st_gno rfl rfl ?_
        refine st_gno rfl rfl ?_
        refine st_gno rfl rfl ?_
        refine st_gno rfl rfl ?_
        refine st_val (ro_pickF (v := .bool _) rfl rfl) ?_
        refine st_val (ro_move (v := .bool _) rfl) ?_
        refine st_gno rfl rfl ?_
        refine st_gno rfl rfl ?_
        refine st_gno rfl rfl ?_
        refine st_gno rfl rfl ?_
        refine st_gno rfl rfl ?_
        refine st_val (ro_pickF (v := .bool _) rfl rfl) ?_
        refine st_val (ro_assign (v := .bool _) rfl) ?_
        refine st_nil ?_
        refine nx_then ?_
        refine cd_ret ?_
        refine res1 (v := .bool _) rfl rfl ?_
        refine ⟨congrArg Value.bool ?_, ((From.rfl_.next E2).next E3)⟩
        first
          | exact (decide_eq_false hno).symm
          | (rw [decide_eq_decide]; exact ⟨fun h => ⟨q0, q1, q2, q3, q4, q5, q6, q7, q8, q9, q10, q11, h⟩, fun h => h.2.2.2.2.2.2.2.2.2.2.2.2⟩)
    · (try first | replace Q4 := bn_t Q4 | replace Q4 := bn_f Q4)
      (try first | replace Q4 := bx_t Q4 | replace Q4 := bx_f Q4 | replace Q4 := be_t Q4 | replace Q4 := be_f Q4 | replace Q4 := of_decide_eq_true Q4 | replace Q4 := of_decide_eq_false Q4)
      have hno : ¬ (k = k2 ∧ f = f2 ∧ t = t2 ∧ tm = tm2 ∧ ix = ix2 ∧ lt = lt2 ∧ cm = cm2 ∧ rd = rd2 ∧ ok = ok2 ∧ es = es2 ∧ a = a2 ∧ d = d2 ∧ dn = dn2) := fun e => Q4 e.2.1
      refine st_gno rfl rfl ?_
      refine st_gno rfl rfl ?_
      refine st_gno rfl rfl ?_
      refine st_gno rfl rfl ?_
      refine st_gno rfl rfl ?_
      refine st_val (ro_pickF (v := .bool _) rfl rfl) ?_
      refine st_val (ro_move (v := .bool _) rfl) ?_
      refine st_gno rfl rfl ?_
      refine st_gno rfl rfl ?_
      refine st_gno rfl rfl ?_
      refine st_gno rfl rfl ?_
      refine st_gno rfl rfl ?_
      refine st_val (ro_pickF (v := .bool _) rfl rfl) ?_
      refine st_val (ro_move (v := .bool _) rfl) ?_
      refine st_gno rfl rfl ?_
      refine st_gno rfl rfl ?_
      refine st_gno rfl rfl ?_
      refine st_gno rfl rfl ?_
      refine st_gno rfl rfl ?_
      refine st_val (ro_pickF (v := .bool _) rfl rfl) ?_
      refine st_val (ro_move (v := .bool _) rfl) ?_
      refine st_gno rfl rfl ?_
      refine st_gno rfl rfl ?_
      refine st_gno rfl rfl ?_
      refine st_gno rfl rfl ?_
      refine st_gno rfl rfl ?_
      refine st_val (ro_pickF (v := .bool _) rfl rfl) ?_
      refine st_val (ro_move (v := .bool _) rfl) ?_
      refine st_gno rfl rfl ?_
      refine st_gno rfl rfl ?_
      refine st_gno rfl rfl ?_
      refine st_gno rfl rfl ?_
      refine st_gno rfl rfl ?_
      refine st_val (ro_pickF (v := .bool _) rfl rfl) ?_
      refine st_val (ro_move (v := .bool _) rfl) ?_
      refine st_gno rfl rfl ?_
      refine st_gno rfl rfl ?_
      refine st_gno rfl rfl ?_
      refine st_gno rfl rfl ?_
      refine st_gno rfl rfl ?_
      refine st_val (ro_pickF (v := .bool _) rfl rfl) ?_
      refine st_val (ro_move (v := .bool _) rfl) ?_
      refine st_gno rfl rfl ?_
      refine st_gno rfl rfl ?_
      refine st_gno rfl rfl ?_
      refine st_gno rfl rfl ?_
      refine st_gno rfl rfl ?_
      refine st_val (ro_pickF (v := .bool _) rfl rfl) ?_
      refine st_val (ro_move (v := .bool _) rfl) ?_
      refine st_gno rfl rfl ?_
      refine st_gno rfl rfl ?_
      refine st_gno rfl rfl ?_
      refine st_gno rfl rfl ?_
      refine st_gno rfl rfl ?_
      refine st_val (ro_pickF (v := .bool _) rfl rfl) ?_
      refine st_val (ro_move (v := .bool _) rfl) ?_
      refine st_gno rfl rfl ?_
      refine st_gno rfl rfl ?_
      refine st_gno rfl rfl ?_
      refine st_gno rfl rfl ?_
      refine st_gno rfl rfl ?_
      refine st_val (ro_pickF (v := .bool _) rfl rfl) ?_
      refine st_val (ro_move (v := .bool _) rfl) ?_
      refine st_gno rfl rfl ?_
      refine st_gno rfl rfl ?_
      refine st_gno rfl rfl ?_
      refine st_gno rfl rfl ?_
      refine st_gno rfl rfl ?_
      refine st_val (ro_pickF (v := .bool _) rfl rfl) ?_
      refine st_val (ro_move (v := .bool _) rfl) ?_
      refine st_gno rfl rfl ?_
      refine st_gno rfl rfl ?_
      refine st_gno rfl rfl ?_
      refine st_gno rfl rfl ?_
      refine st_gno rfl rfl ?_
      refine st_val (ro_pickF (v := .bool _) rfl rfl) ?_
      refine st_val (ro_assign (v := .bool _) rfl) ?_
      refine st_nil ?_
      refine nx_then ?_
      refine cd_ret ?_
      refine res1 (v := .bool _) rfl rfl ?_
      refine ⟨congrArg Value.bool ?_, ((From.rfl_.next E2).next E3)⟩
      first
        | exact (decide_eq_false hno).symm
        | (rw [decide_eq_decide]; exact ⟨fun h => ⟨q0, q1, q2, q3, q4, q5, q6, q7, q8, q9, q10, q11, h⟩, fun h => h.2.2.2.2.2.2.2.2.2.2.2.2⟩)
  · (try first | replace Q3 := bn_t Q3 | replace Q3 := bn_f Q3)
    (try first | replace Q3 := bx_t Q3 | replace Q3 := bx_f Q3 | replace Q3 := be_t Q3 | replace Q3 := be_f Q3 | replace Q3 := of_decide_eq_true Q3 | replace Q3 := of_decide_eq_false Q3)
    have hno : ¬ (k = k2 ∧ f = f2 ∧ t = t2 ∧ tm = tm2 ∧ ix = ix2 ∧ lt = lt2 ∧ cm = cm2 ∧ rd = rd2 ∧ ok = ok2 ∧ es = es2 ∧ a = a2 ∧ d = d2 ∧ dn = dn2) := fun e => Q3 e.1
    refine st_gno rfl rfl ?_
    refine st_gno rfl rfl ?_
    refine st_gno rfl rfl ?_
    refine st_gno rfl rfl ?_
    refine st_gno rfl rfl ?_
    refine st_val (ro_pickF (v := .bool _) rfl rfl) ?_
    refine st_val (ro_move (v := .bool _) rfl) ?_
    refine st_gno rfl rfl ?_
    refine st_gno rfl rfl ?_
    refine st_gno rfl rfl ?_
    refine st_gno rfl rfl ?_
    refine st_gno rfl rfl ?_
    refine st_val (ro_pickF (v := .bool _) rfl rfl) ?_
    refine st_val (ro_move (v := .bool _) rfl) ?_
    refine st_gno rfl rfl ?_
    refine st_gno rfl rfl ?_
    refine st_gno rfl rfl ?_
    refine st_gno rfl rfl ?_
    refine st_gno rfl rfl ?_
    refine st_val (ro_pickF (v := .bool _) rfl rfl) ?_
    refine st_val (ro_move (v := .bool _) rfl) ?_
    refine st_gno rfl rfl ?_
    refine st_gno rfl rfl ?_
    refine st_gno rfl rfl ?_
    refine st_gno rfl rfl ?_
    refine st_gno rfl rfl ?_
    refine st_val (ro_pickF (v := .bool _) rfl rfl) ?_
    refine st_val (ro_move (v := .bool _) rfl) ?_
    refine st_gno rfl rfl ?_
    refine st_gno rfl rfl ?_
    refine st_gno rfl rfl ?_
    refine st_gno rfl rfl ?_
    refine st_gno rfl rfl ?_
    refine st_val (ro_pickF (v := .bool _) rfl rfl) ?_
    refine st_val (ro_move (v := .bool _) rfl) ?_
    refine st_gno rfl rfl ?_
    refine st_gno rfl rfl ?_
    refine st_gno rfl rfl ?_
    refine st_gno rfl rfl ?_
    refine st_gno rfl rfl ?_
    refine st_val (ro_pickF (v := .bool _) rfl rfl) ?_
    refine st_val (ro_move (v := .bool _) rfl) ?_
    refine st_gno rfl rfl ?_
    refine st_gno rfl rfl ?_
    refine st_gno rfl rfl ?_
    refine st_gno rfl rfl ?_
    refine st_gno rfl rfl ?_
    refine st_val (ro_pickF (v := .bool _) rfl rfl) ?_
    refine st_val (ro_move (v := .bool _) rfl) ?_
    refine st_gno rfl rfl ?_
    refine st_gno rfl rfl ?_
    refine st_gno rfl rfl ?_
    refine st_gno rfl rfl ?_
    refine st_gno rfl rfl ?_
    refine st_val (ro_pickF (v := .bool _) rfl rfl) ?_
    refine st_val (ro_move (v := .bool _) rfl) ?_
    refine st_gno rfl rfl ?_
    refine st_gno rfl rfl ?_
    refine st_gno rfl rfl ?_
    refine st_gno rfl rfl ?_
    refine st_gno rfl rfl ?_
    refine st_val (ro_pickF (v := .bool _) rfl rfl) ?_
    refine st_val (ro_move (v := .bool _) rfl) ?_
    refine st_gno rfl rfl ?_
    refine st_gno rfl rfl ?_
    refine st_gno rfl rfl ?_
    refine st_gno rfl rfl ?_
    refine st_gno rfl rfl ?_
    refine st_val (ro_pickF (v := .bool _) rfl rfl) ?_
    refine st_val (ro_move (v := .bool _) rfl) ?_
    refine st_gno rfl rfl ?_
    refine st_gno rfl rfl ?_
    refine st_gno rfl rfl ?_
    refine st_gno rfl rfl ?_
    refine st_gno rfl rfl ?_
    refine st_val (ro_pickF (v := .bool _) rfl rfl) ?_
    refine st_val (ro_move (v := .bool _) rfl) ?_
    refine st_gno rfl rfl ?_
    refine st_gno rfl rfl ?_
    refine st_gno rfl rfl ?_
    refine st_gno rfl rfl ?_
    refine st_gno rfl rfl ?_
    refine st_val (ro_pickF (v := .bool _) rfl rfl) ?_
    refine st_val (ro_assign (v := .bool _) rfl) ?_
    refine st_nil ?_
    refine nx_then ?_
    refine cd_ret ?_
    refine res1 (v := .bool _) rfl rfl ?_
    refine ⟨congrArg Value.bool ?_, ((From.rfl_.next E2).next E3)⟩
    first
      | exact (decide_eq_false hno).symm
      | (rw [decide_eq_decide]; exact ⟨fun h => ⟨q0, q1, q2, q3, q4, q5, q6, q7, q8, q9, q10, q11, h⟩, fun h => h.2.2.2.2.2.2.2.2.2.2.2.2⟩)
set_option maxRecDepth 100000 in
set_option maxHeartbeats 400000 in
theorem node_r (n : Int) (w : World) :
    Rt Tryd.prog 23 [.int .i64 n] w (fun v w' => v = .bool (decide (1 ≤ n ∧ n ≤ 7)) ∧ w = w') := by
  refine enter (n := 9) Tryd.func23 rfl rfl rfl ?_
  refine cd_seq ?_
  refine cd_region ?_
  refine st_val (ro_assign (v := .bool _) rfl) ?_
  refine st_nil ?_
  refine nx_then ?_
  refine cd_seq ?_
  refine cd_region ?_
  refine st_val (ro_move (v := .int _ _) rfl) ?_
  refine st_val (ro_geq rfl rfl) ?_
  refine st_val (ro_move (v := .bool _) rfl) ?_
  refine st_split (t := 5) rfl (fun Q1 => ?_) (fun Q1 => ?_)
  · (try first | replace Q1 := bn_t Q1 | replace Q1 := bn_f Q1)
    (try first | replace Q1 := bx_t Q1 | replace Q1 := bx_f Q1 | replace Q1 := be_t Q1 | replace Q1 := be_f Q1 | replace Q1 := of_decide_eq_true Q1 | replace Q1 := of_decide_eq_false Q1)
    first
     | (exfalso; first | omega | contradiction | (cases Q1; done))
     | skip
       refine st_unguard rfl ?_
       refine st_val (ro_move (v := .int _ _) rfl) ?_
       refine st_unguard rfl ?_
       refine st_val (ro_leq rfl rfl) ?_
       refine st_val (ro_pickT (v := .bool _) rfl rfl) ?_
       refine st_val (ro_assign (v := .bool _) rfl) ?_
       refine st_nil ?_
       refine nx_then ?_
       refine cd_ret ?_
       refine res1 (v := .bool _) rfl rfl ?_
       refine ⟨congrArg Value.bool ?_, rfl⟩
       first
         | (rw [eq_comm, decide_eq_false_iff_not]; omega)
         | (rw [decide_eq_decide]; omega)
  · (try first | replace Q1 := bn_t Q1 | replace Q1 := bn_f Q1)
    (try first | replace Q1 := bx_t Q1 | replace Q1 := bx_f Q1 | replace Q1 := be_t Q1 | replace Q1 := be_f Q1 | replace Q1 := of_decide_eq_true Q1 | replace Q1 := of_decide_eq_false Q1)
    first
     | (exfalso; first | omega | contradiction | (cases Q1; done))
     | skip
       refine st_gno rfl rfl ?_
       refine st_gno rfl rfl ?_
       refine st_val (ro_pickF (v := .bool _) rfl rfl) ?_
       refine st_val (ro_assign (v := .bool _) rfl) ?_
       refine st_nil ?_
       refine nx_then ?_
       refine cd_ret ?_
       refine res1 (v := .bool _) rfl rfl ?_
       refine ⟨congrArg Value.bool ?_, rfl⟩
       first
         | (rw [eq_comm, decide_eq_false_iff_not]; omega)
         | (rw [decide_eq_decide]; omega)
set_option maxRecDepth 100000 in
set_option maxHeartbeats 400000 in
theorem num_r (n : Int) (w : World) :
    Rt Tryd.prog 24 [.int .i64 n] w (fun v w' => v = .bool (decide (0 ≤ n ∧ n < 1099511627776)) ∧ w = w') := by
  refine enter (n := 9) Tryd.func24 rfl rfl rfl ?_
  refine cd_seq ?_
  refine cd_region ?_
  refine st_val (ro_assign (v := .bool _) rfl) ?_
  refine st_nil ?_
  refine nx_then ?_
  refine cd_seq ?_
  refine cd_region ?_
  refine st_val (ro_move (v := .int _ _) rfl) ?_
  refine st_val (ro_geq rfl rfl) ?_
  refine st_val (ro_move (v := .bool _) rfl) ?_
  refine st_split (t := 5) rfl (fun Q1 => ?_) (fun Q1 => ?_)
  · (try first | replace Q1 := bn_t Q1 | replace Q1 := bn_f Q1)
    (try first | replace Q1 := bx_t Q1 | replace Q1 := bx_f Q1 | replace Q1 := be_t Q1 | replace Q1 := be_f Q1 | replace Q1 := of_decide_eq_true Q1 | replace Q1 := of_decide_eq_false Q1)
    first
     | (exfalso; first | omega | contradiction | (cases Q1; done))
     | skip
       refine st_unguard rfl ?_
       refine st_val (ro_move (v := .int _ _) rfl) ?_
       refine st_unguard rfl ?_
       refine st_val (ro_lss rfl rfl) ?_
       refine st_val (ro_pickT (v := .bool _) rfl rfl) ?_
       refine st_val (ro_assign (v := .bool _) rfl) ?_
       refine st_nil ?_
       refine nx_then ?_
       refine cd_ret ?_
       refine res1 (v := .bool _) rfl rfl ?_
       refine ⟨congrArg Value.bool ?_, rfl⟩
       first
         | (rw [eq_comm, decide_eq_false_iff_not]; omega)
         | (rw [decide_eq_decide]; omega)
  · (try first | replace Q1 := bn_t Q1 | replace Q1 := bn_f Q1)
    (try first | replace Q1 := bx_t Q1 | replace Q1 := bx_f Q1 | replace Q1 := be_t Q1 | replace Q1 := be_f Q1 | replace Q1 := of_decide_eq_true Q1 | replace Q1 := of_decide_eq_false Q1)
    first
     | (exfalso; first | omega | contradiction | (cases Q1; done))
     | skip
       refine st_gno rfl rfl ?_
       refine st_gno rfl rfl ?_
       refine st_val (ro_pickF (v := .bool _) rfl rfl) ?_
       refine st_val (ro_assign (v := .bool _) rfl) ?_
       refine st_nil ?_
       refine nx_then ?_
       refine cd_ret ?_
       refine res1 (v := .bool _) rfl rfl ?_
       refine ⟨congrArg Value.bool ?_, rfl⟩
       first
         | (rw [eq_comm, decide_eq_false_iff_not]; omega)
         | (rw [decide_eq_decide]; omega)
theorem runs_w (p q : Int) (A : Option Addr) (n c : Nat) (es : List Ent) (w : World) (h : Ents w (.slice A n c) es) (hi0 : -4611686018427387904 ≤ p) (hi1 : p ≤ 4611686018427387904) (hl : es.length ≤ 140737488351232) : Rt Tryd.prog 25 [.slice A n c, .int .i64 p, .int .i64 q] w fun v w' => v = .bool (runs es p q) ∧ From w w' :=
  Rt.of (runs_any p q _ es w h hi0 hi1 hl)
set_option maxRecDepth 100000 in
set_option maxHeartbeats 4000000 in
theorem may_r (k f t tm ix lt cm rd : Int) (ok : Bool) (E : Option Addr) (n c : Nat) (a : Int) (d : ByteArray) (dn : Bool) (w : World) (es : List Ent) (hn : n = es.length) (he : Ents w (.slice E n c) es) (hl : es.length ≤ 400000000000) :
    Rt Tryd.prog 11 [.agg #[.int .i64 k, .int .i64 f, .int .i64 t, .int .i64 tm, .int .i64 ix, .int .i64 lt, .int .i64 cm, .int .i64 rd, .bool ok, .slice E n c, .int .i64 a, .string d, .bool dn]] w (fun v w' => v = .bool (decide (OkR k f t tm ix lt cm rd ok es a d dn)) ∧ From w w') := by
  refine enter (n := 169) Tryd.func11 rfl rfl rfl ?_
  refine cd_seq ?_
  refine cd_region ?_
  refine st_box (v := .agg _) rfl ?_
  intro b1 w1 E1 hb1 hk1
  have hg1 : w.heap.size ≤ b1 := by rw [hb1]; exact Nat.le_refl _
  refine st_val (ro_assign (v := .bool _) rfl) ?_
  refine st_nil ?_
  refine nx_then ?_
  refine cd_seq ?_
  refine cd_region ?_
  refine st_val (ro_fieldAddr RpcMay_f27_0 rfl) ?_
  refine st_val (ro_load RpcMay_g3 rfl (by exact hk1.rd 0 rfl)) ?_
  refine st_val (ro_fieldAddr RpcMay_f27_1 rfl) ?_
  refine st_val (ro_load RpcMay_g3 rfl (by exact hk1.rd 1 rfl)) ?_
  refine st_val (ro_fieldAddr RpcMay_f27_2 rfl) ?_
  refine st_val (ro_load RpcMay_g3 rfl (by exact hk1.rd 2 rfl)) ?_
  refine st_val (ro_fieldAddr RpcMay_f27_3 rfl) ?_
  refine st_val (ro_load RpcMay_g3 rfl (by exact hk1.rd 3 rfl)) ?_
  refine st_val (ro_build (l := [(0, .tmp 5), (1, .tmp 7), (2, .tmp 9), (3, .tmp 11)]) (RpcMay_b27_0_1_2_3 _ _ _ _)) ?_
  refine st_alloc RpcMay_o27 ?_
  intro b3 w2 E3 hb3 hk3
  have hg3 : w.heap.size ≤ b3 := by rw [hb3]; exact ((From.rfl_.next E1)).size
  have hlt : b1 < b3 := by have := hk1.lt; omega
  replace hk1 := hk1.from_ E3
  refine st_putW (vs := [_, _, _, _, _, _, _, _, _, _, _, _, _]) RpcMay_z27 rfl rfl (by simp [Value.oneCell']) (hk3) rfl ?_
  intro w3 O1 P1
  replace hk1 := hk1.only O1 (by omega)
  have hX := P1
  refine st_nil ?_
  refine nx_then ?_
  refine cd_seq ?_
  refine cd_seq ?_
  refine cd_region ?_
  refine st_val (ro_fieldAddr RpcMay_f27_1 rfl) ?_
  refine st_val (ro_load RpcMay_g3 rfl (by exact (hk1.from_ From.rfl_).rd 1 rfl)) ?_
  refine st_call RpcMay_k23 (node_r _ _) ?_
  rintro v15 w4 ⟨rfl, rfl⟩
  refine st_val (ro_not rfl) ?_
  refine st_val (ro_move (v := .bool _) rfl) ?_
  refine st_split (t := 17) rfl (fun Q5 => ?_) (fun Q5 => ?_)
  · (try first | replace Q5 := bn_t Q5 | replace Q5 := bn_f Q5)
    (try first | replace Q5 := bx_t Q5 | replace Q5 := bx_f Q5 | replace Q5 := be_t Q5 | replace Q5 := be_f Q5 | replace Q5 := of_decide_eq_true Q5 | replace Q5 := of_decide_eq_false Q5)
    first
     | (exfalso; first | omega | contradiction | (cases Q5; done))
     | skip
       refine st_gno rfl rfl ?_
       refine st_gno rfl rfl ?_
       refine st_gno rfl rfl ?_
       refine st_gno rfl rfl ?_
       refine st_val (ro_pickT (v := .bool _) rfl rfl) ?_
       refine st_val (ro_move (v := .bool _) rfl) ?_
       refine st_gno rfl rfl ?_
       refine st_gno rfl rfl ?_
       refine st_gno rfl rfl ?_
       refine st_gno rfl rfl ?_
       refine st_val (ro_pickT (v := .bool _) rfl rfl) ?_
       refine st_val (ro_move (v := .bool _) rfl) ?_
       refine st_gno rfl rfl ?_
       refine st_gno rfl rfl ?_
       refine st_gno rfl rfl ?_
       refine st_gno rfl rfl ?_
       refine st_val (ro_pickT (v := .bool _) rfl rfl) ?_
       refine st_val (ro_move (v := .bool _) rfl) ?_
       refine st_gno rfl rfl ?_
       refine st_gno rfl rfl ?_
       refine st_gno rfl rfl ?_
       refine st_gno rfl rfl ?_
       refine st_val (ro_pickT (v := .bool _) rfl rfl) ?_
       refine st_val (ro_move (v := .bool _) rfl) ?_
       refine st_gno rfl rfl ?_
       refine st_gno rfl rfl ?_
       refine st_gno rfl rfl ?_
       refine st_gno rfl rfl ?_
       refine st_val (ro_pickT (v := .bool _) rfl rfl) ?_
       refine st_val (ro_move (v := .bool _) rfl) ?_
       refine st_gno rfl rfl ?_
       refine st_gno rfl rfl ?_
       refine st_gno rfl rfl ?_
       refine st_gno rfl rfl ?_
       refine st_val (ro_pickT (v := .bool _) rfl rfl) ?_
       refine st_val (ro_move (v := .bool _) rfl) ?_
       refine st_gno rfl rfl ?_
       refine st_gno rfl rfl ?_
       refine st_gno rfl rfl ?_
       refine st_gno rfl rfl ?_
       refine st_val (ro_pickT (v := .bool _) rfl rfl) ?_
       refine st_nil ?_
       refine nx_then ?_
       refine cd_condT rfl ?_
       refine cd_seq ?_
       refine cd_region ?_
       refine st_val (ro_assign (v := .bool _) rfl) ?_
       refine st_nil ?_
       refine nx_then ?_
       refine cd_ret ?_
       refine rt_then ?_
       refine res1 (v := .bool _) rfl rfl ?_
       exact ⟨congrArg Value.bool (decide_eq_false (fun h => by have h1 := h.1; unfold NumR at h1; omega)).symm, (((From.rfl_.next E1).next E3).only O1 (hg3))⟩
  · (try first | replace Q5 := bn_t Q5 | replace Q5 := bn_f Q5)
    (try first | replace Q5 := bx_t Q5 | replace Q5 := bx_f Q5 | replace Q5 := be_t Q5 | replace Q5 := be_f Q5 | replace Q5 := of_decide_eq_true Q5 | replace Q5 := of_decide_eq_false Q5)
    first
     | (exfalso; first | omega | contradiction | (cases Q5; done))
     | skip
       refine st_unguard rfl ?_
       refine st_val (ro_fieldAddr RpcMay_f27_2 rfl) ?_
       refine st_unguard rfl ?_
       refine st_val (ro_load RpcMay_g3 rfl (by exact (hk1.from_ From.rfl_).rd 2 rfl)) ?_
       refine st_unguard rfl ?_
       refine st_call RpcMay_k23 (node_r _ _) ?_
       rintro v20 w6 ⟨rfl, rfl⟩
       refine st_unguard rfl ?_
       refine st_val (ro_not rfl) ?_
       refine st_val (ro_pickF (v := .bool _) rfl rfl) ?_
       refine st_val (ro_move (v := .bool _) rfl) ?_
       refine st_split (t := 23) rfl (fun Q7 => ?_) (fun Q7 => ?_)
       · (try first | replace Q7 := bn_t Q7 | replace Q7 := bn_f Q7)
         (try first | replace Q7 := bx_t Q7 | replace Q7 := bx_f Q7 | replace Q7 := be_t Q7 | replace Q7 := be_f Q7 | replace Q7 := of_decide_eq_true Q7 | replace Q7 := of_decide_eq_false Q7)
         first
          | (exfalso; first | omega | contradiction | (cases Q7; done))
          | skip
            refine st_gno rfl rfl ?_
            refine st_gno rfl rfl ?_
            refine st_gno rfl rfl ?_
            refine st_gno rfl rfl ?_
            refine st_val (ro_pickT (v := .bool _) rfl rfl) ?_
            refine st_val (ro_move (v := .bool _) rfl) ?_
            refine st_gno rfl rfl ?_
            refine st_gno rfl rfl ?_
            refine st_gno rfl rfl ?_
            refine st_gno rfl rfl ?_
            refine st_val (ro_pickT (v := .bool _) rfl rfl) ?_
            refine st_val (ro_move (v := .bool _) rfl) ?_
            refine st_gno rfl rfl ?_
            refine st_gno rfl rfl ?_
            refine st_gno rfl rfl ?_
            refine st_gno rfl rfl ?_
            refine st_val (ro_pickT (v := .bool _) rfl rfl) ?_
            refine st_val (ro_move (v := .bool _) rfl) ?_
            refine st_gno rfl rfl ?_
            refine st_gno rfl rfl ?_
            refine st_gno rfl rfl ?_
            refine st_gno rfl rfl ?_
            refine st_val (ro_pickT (v := .bool _) rfl rfl) ?_
            refine st_val (ro_move (v := .bool _) rfl) ?_
            refine st_gno rfl rfl ?_
            refine st_gno rfl rfl ?_
            refine st_gno rfl rfl ?_
            refine st_gno rfl rfl ?_
            refine st_val (ro_pickT (v := .bool _) rfl rfl) ?_
            refine st_val (ro_move (v := .bool _) rfl) ?_
            refine st_gno rfl rfl ?_
            refine st_gno rfl rfl ?_
            refine st_gno rfl rfl ?_
            refine st_gno rfl rfl ?_
            refine st_val (ro_pickT (v := .bool _) rfl rfl) ?_
            refine st_nil ?_
            refine nx_then ?_
            refine cd_condT rfl ?_
            refine cd_seq ?_
            refine cd_region ?_
            refine st_val (ro_assign (v := .bool _) rfl) ?_
            refine st_nil ?_
            refine nx_then ?_
            refine cd_ret ?_
            refine rt_then ?_
            refine res1 (v := .bool _) rfl rfl ?_
            exact ⟨congrArg Value.bool (decide_eq_false (fun h => by have h1 := h.1; unfold NumR at h1; omega)).symm, (((From.rfl_.next E1).next E3).only O1 (hg3))⟩
       · (try first | replace Q7 := bn_t Q7 | replace Q7 := bn_f Q7)
         (try first | replace Q7 := bx_t Q7 | replace Q7 := bx_f Q7 | replace Q7 := be_t Q7 | replace Q7 := be_f Q7 | replace Q7 := of_decide_eq_true Q7 | replace Q7 := of_decide_eq_false Q7)
         first
          | (exfalso; first | omega | contradiction | (cases Q7; done))
          | skip
            refine st_unguard rfl ?_
            refine st_val (ro_fieldAddr RpcMay_f27_3 rfl) ?_
            refine st_unguard rfl ?_
            refine st_val (ro_load RpcMay_g3 rfl (by exact (hk1.from_ From.rfl_).rd 3 rfl)) ?_
            refine st_unguard rfl ?_
            refine st_call RpcMay_k24 (num_r _ _) ?_
            rintro v26 w8 ⟨rfl, rfl⟩
            refine st_unguard rfl ?_
            refine st_val (ro_not rfl) ?_
            refine st_val (ro_pickF (v := .bool _) rfl rfl) ?_
            refine st_val (ro_move (v := .bool _) rfl) ?_
            refine st_split (t := 29) rfl (fun Q9 => ?_) (fun Q9 => ?_)
            · (try first | replace Q9 := bn_t Q9 | replace Q9 := bn_f Q9)
              (try first | replace Q9 := bx_t Q9 | replace Q9 := bx_f Q9 | replace Q9 := be_t Q9 | replace Q9 := be_f Q9 | replace Q9 := of_decide_eq_true Q9 | replace Q9 := of_decide_eq_false Q9)
              first
               | (exfalso; first | omega | contradiction | (cases Q9; done))
               | skip
                 refine st_gno rfl rfl ?_
                 refine st_gno rfl rfl ?_
                 refine st_gno rfl rfl ?_
                 refine st_gno rfl rfl ?_
                 refine st_val (ro_pickT (v := .bool _) rfl rfl) ?_
                 refine st_val (ro_move (v := .bool _) rfl) ?_
                 refine st_gno rfl rfl ?_
                 refine st_gno rfl rfl ?_
                 refine st_gno rfl rfl ?_
                 refine st_gno rfl rfl ?_
                 refine st_val (ro_pickT (v := .bool _) rfl rfl) ?_
                 refine st_val (ro_move (v := .bool _) rfl) ?_
                 refine st_gno rfl rfl ?_
                 refine st_gno rfl rfl ?_
                 refine st_gno rfl rfl ?_
                 refine st_gno rfl rfl ?_
                 refine st_val (ro_pickT (v := .bool _) rfl rfl) ?_
                 refine st_val (ro_move (v := .bool _) rfl) ?_
                 refine st_gno rfl rfl ?_
                 refine st_gno rfl rfl ?_
                 refine st_gno rfl rfl ?_
                 refine st_gno rfl rfl ?_
                 refine st_val (ro_pickT (v := .bool _) rfl rfl) ?_
                 refine st_val (ro_move (v := .bool _) rfl) ?_
                 refine st_gno rfl rfl ?_
                 refine st_gno rfl rfl ?_
                 refine st_gno rfl rfl ?_
                 refine st_gno rfl rfl ?_
                 refine st_val (ro_pickT (v := .bool _) rfl rfl) ?_
                 refine st_nil ?_
                 refine nx_then ?_
                 refine cd_condT rfl ?_
                 refine cd_seq ?_
                 refine cd_region ?_
                 refine st_val (ro_assign (v := .bool _) rfl) ?_
                 refine st_nil ?_
                 refine nx_then ?_
                 refine cd_ret ?_
                 refine rt_then ?_
                 refine res1 (v := .bool _) rfl rfl ?_
                 exact ⟨congrArg Value.bool (decide_eq_false (fun h => by have h1 := h.1; unfold NumR at h1; omega)).symm, (((From.rfl_.next E1).next E3).only O1 (hg3))⟩
            · (try first | replace Q9 := bn_t Q9 | replace Q9 := bn_f Q9)
              (try first | replace Q9 := bx_t Q9 | replace Q9 := bx_f Q9 | replace Q9 := be_t Q9 | replace Q9 := be_f Q9 | replace Q9 := of_decide_eq_true Q9 | replace Q9 := of_decide_eq_false Q9)
              first
               | (exfalso; first | omega | contradiction | (cases Q9; done))
               | skip
                 refine st_unguard rfl ?_
                 refine st_val (ro_fieldAddr RpcMay_f27_4 rfl) ?_
                 refine st_unguard rfl ?_
                 refine st_val (ro_load RpcMay_g3 rfl (by exact (hk1.from_ From.rfl_).rd 4 rfl)) ?_
                 refine st_unguard rfl ?_
                 refine st_call RpcMay_k24 (num_r _ _) ?_
                 rintro v32 w10 ⟨rfl, rfl⟩
                 refine st_unguard rfl ?_
                 refine st_val (ro_not rfl) ?_
                 refine st_val (ro_pickF (v := .bool _) rfl rfl) ?_
                 refine st_val (ro_move (v := .bool _) rfl) ?_
                 refine st_split (t := 35) rfl (fun Q11 => ?_) (fun Q11 => ?_)
                 · (try first | replace Q11 := bn_t Q11 | replace Q11 := bn_f Q11)
                   (try first | replace Q11 := bx_t Q11 | replace Q11 := bx_f Q11 | replace Q11 := be_t Q11 | replace Q11 := be_f Q11 | replace Q11 := of_decide_eq_true Q11 | replace Q11 := of_decide_eq_false Q11)
                   first
                    | (exfalso; first | omega | contradiction | (cases Q11; done))
                    | skip
                      refine st_gno rfl rfl ?_
                      refine st_gno rfl rfl ?_
                      refine st_gno rfl rfl ?_
                      refine st_gno rfl rfl ?_
                      refine st_val (ro_pickT (v := .bool _) rfl rfl) ?_
                      refine st_val (ro_move (v := .bool _) rfl) ?_
                      refine st_gno rfl rfl ?_
                      refine st_gno rfl rfl ?_
                      refine st_gno rfl rfl ?_
                      refine st_gno rfl rfl ?_
                      refine st_val (ro_pickT (v := .bool _) rfl rfl) ?_
                      refine st_val (ro_move (v := .bool _) rfl) ?_
                      refine st_gno rfl rfl ?_
                      refine st_gno rfl rfl ?_
                      refine st_gno rfl rfl ?_
                      refine st_gno rfl rfl ?_
                      refine st_val (ro_pickT (v := .bool _) rfl rfl) ?_
                      refine st_val (ro_move (v := .bool _) rfl) ?_
                      refine st_gno rfl rfl ?_
                      refine st_gno rfl rfl ?_
                      refine st_gno rfl rfl ?_
                      refine st_gno rfl rfl ?_
                      refine st_val (ro_pickT (v := .bool _) rfl rfl) ?_
                      refine st_nil ?_
                      refine nx_then ?_
                      refine cd_condT rfl ?_
                      refine cd_seq ?_
                      refine cd_region ?_
                      refine st_val (ro_assign (v := .bool _) rfl) ?_
                      refine st_nil ?_
                      refine nx_then ?_
                      refine cd_ret ?_
                      refine rt_then ?_
                      refine res1 (v := .bool _) rfl rfl ?_
                      exact ⟨congrArg Value.bool (decide_eq_false (fun h => by have h1 := h.1; unfold NumR at h1; omega)).symm, (((From.rfl_.next E1).next E3).only O1 (hg3))⟩
                 · (try first | replace Q11 := bn_t Q11 | replace Q11 := bn_f Q11)
                   (try first | replace Q11 := bx_t Q11 | replace Q11 := bx_f Q11 | replace Q11 := be_t Q11 | replace Q11 := be_f Q11 | replace Q11 := of_decide_eq_true Q11 | replace Q11 := of_decide_eq_false Q11)
                   first
                    | (exfalso; first | omega | contradiction | (cases Q11; done))
                    | skip
                      refine st_unguard rfl ?_
                      refine st_val (ro_fieldAddr RpcMay_f27_5 rfl) ?_
                      refine st_unguard rfl ?_
                      refine st_val (ro_load RpcMay_g3 rfl (by exact (hk1.from_ From.rfl_).rd 5 rfl)) ?_
                      refine st_unguard rfl ?_
                      refine st_call RpcMay_k24 (num_r _ _) ?_
                      rintro v38 w12 ⟨rfl, rfl⟩
                      refine st_unguard rfl ?_
                      refine st_val (ro_not rfl) ?_
                      refine st_val (ro_pickF (v := .bool _) rfl rfl) ?_
                      refine st_val (ro_move (v := .bool _) rfl) ?_
                      refine st_split (t := 41) rfl (fun Q13 => ?_) (fun Q13 => ?_)
                      · (try first | replace Q13 := bn_t Q13 | replace Q13 := bn_f Q13)
                        (try first | replace Q13 := bx_t Q13 | replace Q13 := bx_f Q13 | replace Q13 := be_t Q13 | replace Q13 := be_f Q13 | replace Q13 := of_decide_eq_true Q13 | replace Q13 := of_decide_eq_false Q13)
                        first
                         | (exfalso; first | omega | contradiction | (cases Q13; done))
                         | skip
                           refine st_gno rfl rfl ?_
                           refine st_gno rfl rfl ?_
                           refine st_gno rfl rfl ?_
                           refine st_gno rfl rfl ?_
                           refine st_val (ro_pickT (v := .bool _) rfl rfl) ?_
                           refine st_val (ro_move (v := .bool _) rfl) ?_
                           refine st_gno rfl rfl ?_
                           refine st_gno rfl rfl ?_
                           refine st_gno rfl rfl ?_
                           refine st_gno rfl rfl ?_
                           refine st_val (ro_pickT (v := .bool _) rfl rfl) ?_
                           refine st_val (ro_move (v := .bool _) rfl) ?_
                           refine st_gno rfl rfl ?_
                           refine st_gno rfl rfl ?_
                           refine st_gno rfl rfl ?_
                           refine st_gno rfl rfl ?_
                           refine st_val (ro_pickT (v := .bool _) rfl rfl) ?_
                           refine st_nil ?_
                           refine nx_then ?_
                           refine cd_condT rfl ?_
                           refine cd_seq ?_
                           refine cd_region ?_
                           refine st_val (ro_assign (v := .bool _) rfl) ?_
                           refine st_nil ?_
                           refine nx_then ?_
                           refine cd_ret ?_
                           refine rt_then ?_
                           refine res1 (v := .bool _) rfl rfl ?_
                           exact ⟨congrArg Value.bool (decide_eq_false (fun h => by have h1 := h.1; unfold NumR at h1; omega)).symm, (((From.rfl_.next E1).next E3).only O1 (hg3))⟩
                      · (try first | replace Q13 := bn_t Q13 | replace Q13 := bn_f Q13)
                        (try first | replace Q13 := bx_t Q13 | replace Q13 := bx_f Q13 | replace Q13 := be_t Q13 | replace Q13 := be_f Q13 | replace Q13 := of_decide_eq_true Q13 | replace Q13 := of_decide_eq_false Q13)
                        first
                         | (exfalso; first | omega | contradiction | (cases Q13; done))
                         | skip
                           refine st_unguard rfl ?_
                           refine st_val (ro_fieldAddr RpcMay_f27_6 rfl) ?_
                           refine st_unguard rfl ?_
                           refine st_val (ro_load RpcMay_g3 rfl (by exact (hk1.from_ From.rfl_).rd 6 rfl)) ?_
                           refine st_unguard rfl ?_
                           refine st_call RpcMay_k24 (num_r _ _) ?_
                           rintro v44 w14 ⟨rfl, rfl⟩
                           refine st_unguard rfl ?_
                           refine st_val (ro_not rfl) ?_
                           refine st_val (ro_pickF (v := .bool _) rfl rfl) ?_
                           refine st_val (ro_move (v := .bool _) rfl) ?_
                           refine st_split (t := 47) rfl (fun Q15 => ?_) (fun Q15 => ?_)
                           · (try first | replace Q15 := bn_t Q15 | replace Q15 := bn_f Q15)
                             (try first | replace Q15 := bx_t Q15 | replace Q15 := bx_f Q15 | replace Q15 := be_t Q15 | replace Q15 := be_f Q15 | replace Q15 := of_decide_eq_true Q15 | replace Q15 := of_decide_eq_false Q15)
                             first
                              | (exfalso; first | omega | contradiction | (cases Q15; done))
                              | skip
                                refine st_gno rfl rfl ?_
                                refine st_gno rfl rfl ?_
                                refine st_gno rfl rfl ?_
                                refine st_gno rfl rfl ?_
                                refine st_val (ro_pickT (v := .bool _) rfl rfl) ?_
                                refine st_val (ro_move (v := .bool _) rfl) ?_
                                refine st_gno rfl rfl ?_
                                refine st_gno rfl rfl ?_
                                refine st_gno rfl rfl ?_
                                refine st_gno rfl rfl ?_
                                refine st_val (ro_pickT (v := .bool _) rfl rfl) ?_
                                refine st_nil ?_
                                refine nx_then ?_
                                refine cd_condT rfl ?_
                                refine cd_seq ?_
                                refine cd_region ?_
                                refine st_val (ro_assign (v := .bool _) rfl) ?_
                                refine st_nil ?_
                                refine nx_then ?_
                                refine cd_ret ?_
                                refine rt_then ?_
                                refine res1 (v := .bool _) rfl rfl ?_
                                exact ⟨congrArg Value.bool (decide_eq_false (fun h => by have h1 := h.1; unfold NumR at h1; omega)).symm, (((From.rfl_.next E1).next E3).only O1 (hg3))⟩
                           · (try first | replace Q15 := bn_t Q15 | replace Q15 := bn_f Q15)
                             (try first | replace Q15 := bx_t Q15 | replace Q15 := bx_f Q15 | replace Q15 := be_t Q15 | replace Q15 := be_f Q15 | replace Q15 := of_decide_eq_true Q15 | replace Q15 := of_decide_eq_false Q15)
                             first
                              | (exfalso; first | omega | contradiction | (cases Q15; done))
                              | skip
                                refine st_unguard rfl ?_
                                refine st_val (ro_fieldAddr RpcMay_f27_7 rfl) ?_
                                refine st_unguard rfl ?_
                                refine st_val (ro_load RpcMay_g3 rfl (by exact (hk1.from_ From.rfl_).rd 7 rfl)) ?_
                                refine st_unguard rfl ?_
                                refine st_call RpcMay_k24 (num_r _ _) ?_
                                rintro v50 w16 ⟨rfl, rfl⟩
                                refine st_unguard rfl ?_
                                refine st_val (ro_not rfl) ?_
                                refine st_val (ro_pickF (v := .bool _) rfl rfl) ?_
                                refine st_val (ro_move (v := .bool _) rfl) ?_
                                refine st_split (t := 53) rfl (fun Q17 => ?_) (fun Q17 => ?_)
                                · (try first | replace Q17 := bn_t Q17 | replace Q17 := bn_f Q17)
                                  (try first | replace Q17 := bx_t Q17 | replace Q17 := bx_f Q17 | replace Q17 := be_t Q17 | replace Q17 := be_f Q17 | replace Q17 := of_decide_eq_true Q17 | replace Q17 := of_decide_eq_false Q17)
                                  first
                                   | (exfalso; first | omega | contradiction | (cases Q17; done))
                                   | skip
                                     refine st_gno rfl rfl ?_
                                     refine st_gno rfl rfl ?_
                                     refine st_gno rfl rfl ?_
                                     refine st_gno rfl rfl ?_
                                     refine st_val (ro_pickT (v := .bool _) rfl rfl) ?_
                                     refine st_nil ?_
                                     refine nx_then ?_
                                     refine cd_condT rfl ?_
                                     refine cd_seq ?_
                                     refine cd_region ?_
                                     refine st_val (ro_assign (v := .bool _) rfl) ?_
                                     refine st_nil ?_
                                     refine nx_then ?_
                                     refine cd_ret ?_
                                     refine rt_then ?_
                                     refine res1 (v := .bool _) rfl rfl ?_
                                     exact ⟨congrArg Value.bool (decide_eq_false (fun h => by have h1 := h.1; unfold NumR at h1; omega)).symm, (((From.rfl_.next E1).next E3).only O1 (hg3))⟩
                                · (try first | replace Q17 := bn_t Q17 | replace Q17 := bn_f Q17)
                                  (try first | replace Q17 := bx_t Q17 | replace Q17 := bx_f Q17 | replace Q17 := be_t Q17 | replace Q17 := be_f Q17 | replace Q17 := of_decide_eq_true Q17 | replace Q17 := of_decide_eq_false Q17)
                                  first
                                   | (exfalso; first | omega | contradiction | (cases Q17; done))
                                   | skip
                                     refine st_unguard rfl ?_
                                     refine st_val (ro_fieldAddr RpcMay_f27_10 rfl) ?_
                                     refine st_unguard rfl ?_
                                     refine st_val (ro_load RpcMay_g3 rfl (by exact (hk1.from_ From.rfl_).rd 10 rfl)) ?_
                                     refine st_unguard rfl ?_
                                     refine st_call RpcMay_k24 (num_r _ _) ?_
                                     rintro v56 w18 ⟨rfl, rfl⟩
                                     refine st_unguard rfl ?_
                                     refine st_val (ro_not rfl) ?_
                                     refine st_val (ro_pickF (v := .bool _) rfl rfl) ?_
                                     refine st_nil ?_
                                     refine nx_then ?_
                                     refine cd_cond rfl (fun Q19 => ?_) (fun Q19 => ?_)
                                     · (try first | replace Q19 := bn_t Q19 | replace Q19 := bn_f Q19)
                                       (try first | replace Q19 := bx_t Q19 | replace Q19 := bx_f Q19 | replace Q19 := be_t Q19 | replace Q19 := be_f Q19 | replace Q19 := of_decide_eq_true Q19 | replace Q19 := of_decide_eq_false Q19)
                                       first
                                        | (exfalso; first | omega | contradiction | (cases Q19; done))
                                        | skip
                                          refine cd_seq ?_
                                          refine cd_region ?_
                                          refine st_val (ro_assign (v := .bool _) rfl) ?_
                                          refine st_nil ?_
                                          refine nx_then ?_
                                          refine cd_ret ?_
                                          refine rt_then ?_
                                          refine res1 (v := .bool _) rfl rfl ?_
                                          exact ⟨congrArg Value.bool (decide_eq_false (fun h => by have h1 := h.1; unfold NumR at h1; omega)).symm, (((From.rfl_.next E1).next E3).only O1 (hg3))⟩
                                     · (try first | replace Q19 := bn_t Q19 | replace Q19 := bn_f Q19)
                                       (try first | replace Q19 := bx_t Q19 | replace Q19 := bx_f Q19 | replace Q19 := be_t Q19 | replace Q19 := be_f Q19 | replace Q19 := of_decide_eq_true Q19 | replace Q19 := of_decide_eq_false Q19)
                                       first
                                        | (exfalso; first | omega | contradiction | (cases Q19; done))
                                        | skip
                                          refine cd_skip ?_
                                          refine nx_then ?_
                                          refine cd_cut (G := (Int × Int × Int × Int) × Bool × (Option Addr × Nat × Nat × List Ent) × Int × ByteArray × Bool) [2, 59, 60, 61, 62, 63, 64, 65, 66, 67, 68, 69, 70, 71, 72, 73, 74, 75, 76, 77, 78, 79, 80, 81, 82, 83, 84, 85, 86, 87, 88, 89, 90, 91, 92, 93, 94, 95, 96, 97, 98, 99, 100, 101, 102, 103, 104, 105, 106, 107, 108, 109, 110, 111, 112, 113, 114, 115, 116, 117, 118, 119, 120, 121, 122, 123, 124, 125, 126, 127, 128, 129, 130, 131, 132, 133, 134, 135, 136, 137, 138, 139, 140, 141, 142, 143, 144, 145, 146, 147, 148, 149, 150, 151, 152, 153, 154, 155, 156, 157, 158, 159, 160, 161, 162, 163, 164, 165] (fun _ => []) (fun ((ix', lt', cm', rd'), ok', (E', n', c', es'), a', d', dn') w' => Blk w' b3 27 #[.int .i64 k, .int .i64 f, .int .i64 t, .int .i64 tm, .int .i64 ix', .int .i64 lt', .int .i64 cm', .int .i64 rd', .bool ok', .slice E' n' c', .int .i64 a', .string d', .bool dn'] ∧ Blk w' b1 27 #[.int .i64 k, .int .i64 f, .int .i64 t, .int .i64 tm, .int .i64 ix, .int .i64 lt, .int .i64 cm, .int .i64 rd, .bool ok, .slice E n c, .int .i64 a, .string d, .bool dn] ∧ Ents w' (.slice E' n' c') es' ∧ n' = es'.length ∧ es'.length ≤ es.length ∧ ((ix' = ix ∧ lt' = lt ∧ cm' = cm ∧ rd' = rd ∧ ok' = ok ∧ es' = es ∧ a' = a ∧ d' = d ∧ dn' = dn) ↔ OkR k f t tm ix lt cm rd ok es a d dn) ∧ From w w') ?_ ?_
                                          · refine cd_seq ?_
                                            refine cd_region ?_
                                            refine st_val (ro_fieldAddr RpcMay_f27_0 rfl) ?_
                                            refine st_val (ro_load RpcMay_g3 rfl (by exact (hk1.from_ From.rfl_).rd 0 rfl)) ?_
                                            refine st_nil ?_
                                            refine nx_then ?_
                                            refine cd_block ?_
                                            refine cd_seq ?_
                                            refine cd_region ?_
                                            refine st_val (ro_eql rfl rfl) ?_
                                            refine st_val (ro_assign (v := .bool _) rfl) ?_
                                            refine st_nil ?_
                                            refine nx_then ?_
                                            refine cd_cond rfl (fun Q20 => ?_) (fun Q20 => ?_)
                                            · (try first | replace Q20 := bn_t Q20 | replace Q20 := bn_f Q20)
                                              (try first | replace Q20 := bx_t Q20 | replace Q20 := bx_f Q20 | replace Q20 := be_t Q20 | replace Q20 := be_f Q20 | replace Q20 := of_decide_eq_true Q20 | replace Q20 := of_decide_eq_false Q20)
                                              have hap : AppR k ix lt es := fun h => by omega
                                              have hsn : SnpR k ix a d := fun h => by omega
                                              have hnm : NumR k f t tm ix lt cm rd a := by unfold NumR; omega
                                              first
                                               | (exfalso; first | omega | contradiction | (cases Q20; done))
                                               | skip
                                                 have hU21 : UniT [(0, 63, .pointer (some ⟨b1, 4, none⟩)), (1, 64, .int .i64 ix), (2, 65, .pointer (some ⟨b1, 5, none⟩)), (3, 66, .int .i64 lt), (4, 67, .pointer (some ⟨b3, 4, none⟩)), (6, 68, .pointer (some ⟨b3, 5, none⟩))] := by simp [UniT]
                                                 refine cd_invT [(0, 63, .pointer (some ⟨b1, 4, none⟩)), (1, 64, .int .i64 ix), (2, 65, .pointer (some ⟨b1, 5, none⟩)), (3, 66, .int .i64 lt), (4, 67, .pointer (some ⟨b3, 4, none⟩)), (6, 68, .pointer (some ⟨b3, 5, none⟩))] (fun S w' => Blk w' b1 27 #[.int .i64 k, .int .i64 f, .int .i64 t, .int .i64 tm, .int .i64 ix, .int .i64 lt, .int .i64 cm, .int .i64 rd, .bool ok, .slice E n c, .int .i64 a, .string d, .bool dn] ∧ Blk w' b3 27 #[.int .i64 k, .int .i64 f, .int .i64 t, .int .i64 tm, bif S 5 then .int .i64 ix else .int .i64 0, bif S 7 then .int .i64 lt else .int .i64 0, .int .i64 0, .int .i64 0, .bool false, .slice none 0 0, .int .i64 0, .string ⟨#[]⟩, .bool false] ∧ From w w') (by kernel_rfl) (by kernel_rfl) hU21 (by simp) (⟨hk1.from_ From.rfl_.d1, hX.from_ From.rfl_.d1, ((((From.rfl_.next E1).next E3).only O1 (hg3))).d1⟩) ?_ ?_
                                                 · refine ⟨?_, ?_⟩
                                                   · rintro S L' wS hI hM hS0 ⟨-⟩
                                                     have e1 := hI.1 1 (by simp)
                                                     have hM' := hM
                                                     obtain ⟨hk1, hX, hB⟩ := hM'
                                                     exact step_ro (ro_fieldAddr RpcMay_f27_4 e1) ⟨hI.put hU21 (.head _), hM⟩
                                                   refine ⟨?_, ?_⟩
                                                   · rintro S L' wS hI hM hS0 ⟨d0, -⟩
                                                     have e63 : look L' 63 = .pointer (some ⟨b1, 4, none⟩) := hI.get (i := 0) (.head _) d0
                                                     have hM' := hM
                                                     obtain ⟨hk1, hX, hB⟩ := hM'
                                                     exact step_ro (ro_load RpcMay_g3 e63 (by exact hk1.rd 4 rfl)) ⟨hI.put hU21 (.tail _ (.head _)), hM⟩
                                                   refine ⟨?_, ?_⟩
                                                   · rintro S L' wS hI hM hS0 ⟨-, -⟩
                                                     have e1 := hI.1 1 (by simp)
                                                     have hM' := hM
                                                     obtain ⟨hk1, hX, hB⟩ := hM'
                                                     exact step_ro (ro_fieldAddr RpcMay_f27_5 e1) ⟨hI.put hU21 (.tail _ (.tail _ (.head _))), hM⟩
                                                   refine ⟨?_, ?_⟩
                                                   · rintro S L' wS hI hM hS0 ⟨d2, -, -⟩
                                                     have e65 : look L' 65 = .pointer (some ⟨b1, 5, none⟩) := hI.get (i := 2) (.tail _ (.tail _ (.head _))) d2
                                                     have hM' := hM
                                                     obtain ⟨hk1, hX, hB⟩ := hM'
                                                     exact step_ro (ro_load RpcMay_g3 e65 (by exact hk1.rd 5 rfl)) ⟨hI.put hU21 (.tail _ (.tail _ (.tail _ (.head _)))), hM⟩
                                                   refine ⟨?_, ?_⟩
                                                   · rintro S L' wS hI hM hS0 ⟨d0, d1, -, -, -⟩
                                                     have e3 := hI.1 3 (by simp)
                                                     have hM' := hM
                                                     obtain ⟨hk1, hX, hB⟩ := hM'
                                                     exact step_ro (ro_fieldAddr RpcMay_f27_4 e3) ⟨hI.put hU21 (.tail _ (.tail _ (.tail _ (.tail _ (.head _))))), hM⟩
                                                   refine ⟨?_, ?_⟩
                                                   · rintro S L' wS hI hM hS0 ⟨d4, d1, d0, d1, -, -, -⟩
                                                     have e64 : look L' 64 = .int .i64 ix := hI.get (i := 1) (.tail _ (.head _)) d1
                                                     have e67 : look L' 67 = .pointer (some ⟨b3, 4, none⟩) := hI.get (i := 4) (.tail _ (.tail _ (.tail _ (.tail _ (.head _))))) d4
                                                     have hM' := hM
                                                     obtain ⟨hk1, hX, hB⟩ := hM'
                                                     obtain ⟨w2, hR, hO, hb⟩ := rs_put (n := 169) (L := L') (x := .tmp 67) (y := .tmp 64) RpcMay_z3 e67 e64 rfl hX (by simp)
                                                     exact step_rs hR ⟨hI.skip (by simp), hk1.only hO (by omega), hb, hB.only hO hg3⟩
                                                   refine ⟨?_, ?_⟩
                                                   · rintro S L' wS hI hM hS0 ⟨d0, d1, d2, d3, d4, d5, -⟩
                                                     have e3 := hI.1 3 (by simp)
                                                     have hM' := hM
                                                     obtain ⟨hk1, hX, hB⟩ := hM'
                                                     exact step_ro (ro_fieldAddr RpcMay_f27_5 e3) ⟨hI.put hU21 (.tail _ (.tail _ (.tail _ (.tail _ (.tail _ (.head _)))))), hM⟩
                                                   refine ⟨?_, ?_⟩
                                                   · rintro S L' wS hI hM hS0 ⟨d6, d3, d5, d0, d1, d2, d3, d4, d5, -⟩
                                                     have e66 : look L' 66 = .int .i64 lt := hI.get (i := 3) (.tail _ (.tail _ (.tail _ (.head _)))) d3
                                                     have e68 : look L' 68 = .pointer (some ⟨b3, 5, none⟩) := hI.get (i := 6) (.tail _ (.tail _ (.tail _ (.tail _ (.tail _ (.head _)))))) d6
                                                     have hM' := hM
                                                     obtain ⟨hk1, hX, hB⟩ := hM'
                                                     obtain ⟨w2, hR, hO, hb⟩ := rs_put (n := 169) (L := L') (x := .tmp 68) (y := .tmp 66) RpcMay_z3 e68 e66 rfl hX (by simp)
                                                     exact step_rs hR ⟨hI.skip (by simp), hk1.only hO (by omega), hb, hB.only hO hg3⟩
                                                   exact trivial
                                                 · intro w22 hM
                                                   obtain ⟨hk1, hX, hB⟩ := hM
                                                   replace hX : Blk w22 b3 27 #[.int .i64 k, .int .i64 f, .int .i64 t, .int .i64 tm, .int .i64 ix, .int .i64 lt, .int .i64 0, .int .i64 0, .bool false, .slice none 0 0, .int .i64 0, .string ⟨#[]⟩, .bool false] := hX
                                                   refine nx_block ?_
                                                   refine nx_cut (((ix, lt, 0, 0), false, (none, 0, 0, []), 0, ⟨#[]⟩, false)) trivial (by (iterate 10 refine agr_cons rfl ?_); exact agr_rfl) ?_
                                                   refine ⟨hX.from_ From.rfl_, hk1.from_ From.rfl_, Ents.nil_ _, rfl, by simp, ?_, hB⟩
                                                   rw [okR_iff hnm hap hsn]
                                                   simp only [nil_len, size0', bool0', true_and, and_true]
                                                   unfold ExR
                                                   rw [if_pos (by omega)]
                                                   first | done | omega
                                            · (try first | replace Q20 := bn_t Q20 | replace Q20 := bn_f Q20)
                                              (try first | replace Q20 := bx_t Q20 | replace Q20 := bx_f Q20 | replace Q20 := be_t Q20 | replace Q20 := be_f Q20 | replace Q20 := of_decide_eq_true Q20 | replace Q20 := of_decide_eq_false Q20)
                                              first
                                               | (exfalso; first | omega | contradiction | (cases Q20; done))
                                               | skip
                                                 refine cd_seq ?_
                                                 refine cd_region ?_
                                                 refine st_val (ro_eql rfl rfl) ?_
                                                 refine st_val (ro_assign (v := .bool _) rfl) ?_
                                                 refine st_nil ?_
                                                 refine nx_then ?_
                                                 refine cd_cond rfl (fun Q23 => ?_) (fun Q23 => ?_)
                                                 · (try first | replace Q23 := bn_t Q23 | replace Q23 := bn_f Q23)
                                                   (try first | replace Q23 := bx_t Q23 | replace Q23 := bx_f Q23 | replace Q23 := be_t Q23 | replace Q23 := be_f Q23 | replace Q23 := of_decide_eq_true Q23 | replace Q23 := of_decide_eq_false Q23)
                                                   have hap : AppR k ix lt es := fun h => by omega
                                                   have hsn : SnpR k ix a d := fun h => by omega
                                                   have hnm : NumR k f t tm ix lt cm rd a := by unfold NumR; omega
                                                   first
                                                    | (exfalso; first | omega | contradiction | (cases Q23; done))
                                                    | skip
                                                      refine cd_region ?_
                                                      refine st_val (ro_fieldAddr RpcMay_f27_8 rfl) ?_
                                                      refine st_val (ro_load RpcMay_g4 rfl (by exact (hk1.from_ From.rfl_).rd 8 rfl)) ?_
                                                      refine st_val (ro_fieldAddr RpcMay_f27_8 rfl) ?_
                                                      refine st_put (v := .bool _) RpcMay_z4 rfl rfl rfl (hX) (by show 0 + 8 < 13; decide) ?_
                                                      intro w24 O9 P9
                                                      replace hk1 := hk1.only O9 (by omega)
                                                      replace hX : Blk w24 b3 27 #[.int .i64 k, .int .i64 f, .int .i64 t, .int .i64 tm, .int .i64 0, .int .i64 0, .int .i64 0, .int .i64 0, .bool ok, .slice none 0 0, .int .i64 0, .string ⟨#[]⟩, .bool false] := P9
                                                      refine st_nil ?_
                                                      refine nx_block ?_
                                                      refine nx_cut (((0, 0, 0, 0), ok, (none, 0, 0, []), 0, ⟨#[]⟩, false)) trivial (by (iterate 9 refine agr_cons rfl ?_); exact agr_rfl) ?_
                                                      refine ⟨hX.from_ From.rfl_, hk1.from_ From.rfl_, Ents.nil_ _, rfl, by simp, ?_, ((((From.rfl_.next E1).next E3).only O1 (hg3)).only O9 (hg3))⟩
                                                      rw [okR_iff hnm hap hsn]
                                                      simp only [nil_len, size0', bool0', true_and, and_true]
                                                      unfold ExR
                                                      rw [if_neg (by omega), if_pos (by omega)]
                                                      first | done | omega
                                                 · (try first | replace Q23 := bn_t Q23 | replace Q23 := bn_f Q23)
                                                   (try first | replace Q23 := bx_t Q23 | replace Q23 := bx_f Q23 | replace Q23 := be_t Q23 | replace Q23 := be_f Q23 | replace Q23 := of_decide_eq_true Q23 | replace Q23 := of_decide_eq_false Q23)
                                                   first
                                                    | (exfalso; first | omega | contradiction | (cases Q23; done))
                                                    | skip
                                                      refine cd_seq ?_
                                                      refine cd_region ?_
                                                      refine st_val (ro_eql rfl rfl) ?_
                                                      refine st_val (ro_assign (v := .bool _) rfl) ?_
                                                      refine st_nil ?_
                                                      refine nx_then ?_
                                                      refine cd_cond rfl (fun Q25 => ?_) (fun Q25 => ?_)
                                                      · (try first | replace Q25 := bn_t Q25 | replace Q25 := bn_f Q25)
                                                        (try first | replace Q25 := bx_t Q25 | replace Q25 := bx_f Q25 | replace Q25 := be_t Q25 | replace Q25 := be_f Q25 | replace Q25 := of_decide_eq_true Q25 | replace Q25 := of_decide_eq_false Q25)
                                                        have hsn : SnpR k ix a d := fun h => by omega
                                                        have hnm : NumR k f t tm ix lt cm rd a := by unfold NumR; omega
                                                        first
                                                         | (exfalso; first | omega | contradiction | (cases Q25; done))
                                                         | skip
                                                           refine cd_seq ?_
                                                           have hU26 : UniT [(0, 76, .pointer (some ⟨b1, 4, none⟩)), (1, 77, .int .i64 ix), (2, 78, .pointer (some ⟨b1, 5, none⟩)), (3, 79, .int .i64 lt), (4, 80, .pointer (some ⟨b1, 6, none⟩)), (5, 81, .int .i64 cm), (6, 82, .pointer (some ⟨b1, 7, none⟩)), (7, 83, .int .i64 rd), (8, 84, .pointer (some ⟨b1, 9, none⟩)), (9, 85, .slice E n c), (10, 86, .pointer (some ⟨b3, 4, none⟩)), (12, 87, .pointer (some ⟨b3, 5, none⟩)), (14, 88, .pointer (some ⟨b3, 6, none⟩)), (16, 89, .pointer (some ⟨b3, 7, none⟩)), (18, 90, .pointer (some ⟨b3, 9, none⟩))] := by simp [UniT]
                                                           refine cd_invT [(0, 76, .pointer (some ⟨b1, 4, none⟩)), (1, 77, .int .i64 ix), (2, 78, .pointer (some ⟨b1, 5, none⟩)), (3, 79, .int .i64 lt), (4, 80, .pointer (some ⟨b1, 6, none⟩)), (5, 81, .int .i64 cm), (6, 82, .pointer (some ⟨b1, 7, none⟩)), (7, 83, .int .i64 rd), (8, 84, .pointer (some ⟨b1, 9, none⟩)), (9, 85, .slice E n c), (10, 86, .pointer (some ⟨b3, 4, none⟩)), (12, 87, .pointer (some ⟨b3, 5, none⟩)), (14, 88, .pointer (some ⟨b3, 6, none⟩)), (16, 89, .pointer (some ⟨b3, 7, none⟩)), (18, 90, .pointer (some ⟨b3, 9, none⟩))] (fun S w' => Blk w' b1 27 #[.int .i64 k, .int .i64 f, .int .i64 t, .int .i64 tm, .int .i64 ix, .int .i64 lt, .int .i64 cm, .int .i64 rd, .bool ok, .slice E n c, .int .i64 a, .string d, .bool dn] ∧ Blk w' b3 27 #[.int .i64 k, .int .i64 f, .int .i64 t, .int .i64 tm, bif S 11 then .int .i64 ix else .int .i64 0, bif S 13 then .int .i64 lt else .int .i64 0, bif S 15 then .int .i64 cm else .int .i64 0, bif S 17 then .int .i64 rd else .int .i64 0, .bool false, bif S 19 then .slice E n c else .slice none 0 0, .int .i64 0, .string ⟨#[]⟩, .bool false] ∧ From w w') (by kernel_rfl) (by kernel_rfl) hU26 (by simp) (⟨hk1.from_ From.rfl_.d1, hX.from_ From.rfl_.d1, ((((From.rfl_.next E1).next E3).only O1 (hg3))).d1⟩) ?_ ?_
                                                           · refine ⟨?_, ?_⟩
                                                             · rintro S L' wS hI hM hS0 ⟨-⟩
                                                               have e1 := hI.1 1 (by simp)
                                                               have hM' := hM
                                                               obtain ⟨hk1, hX, hB⟩ := hM'
                                                               exact step_ro (ro_fieldAddr RpcMay_f27_4 e1) ⟨hI.put hU26 (.head _), hM⟩
                                                             refine ⟨?_, ?_⟩
                                                             · rintro S L' wS hI hM hS0 ⟨d0, -⟩
                                                               have e76 : look L' 76 = .pointer (some ⟨b1, 4, none⟩) := hI.get (i := 0) (.head _) d0
                                                               have hM' := hM
                                                               obtain ⟨hk1, hX, hB⟩ := hM'
                                                               exact step_ro (ro_load RpcMay_g3 e76 (by exact hk1.rd 4 rfl)) ⟨hI.put hU26 (.tail _ (.head _)), hM⟩
                                                             refine ⟨?_, ?_⟩
                                                             · rintro S L' wS hI hM hS0 ⟨-, -⟩
                                                               have e1 := hI.1 1 (by simp)
                                                               have hM' := hM
                                                               obtain ⟨hk1, hX, hB⟩ := hM'
                                                               exact step_ro (ro_fieldAddr RpcMay_f27_5 e1) ⟨hI.put hU26 (.tail _ (.tail _ (.head _))), hM⟩
                                                             refine ⟨?_, ?_⟩
                                                             · rintro S L' wS hI hM hS0 ⟨d2, -, -⟩
                                                               have e78 : look L' 78 = .pointer (some ⟨b1, 5, none⟩) := hI.get (i := 2) (.tail _ (.tail _ (.head _))) d2
                                                               have hM' := hM
                                                               obtain ⟨hk1, hX, hB⟩ := hM'
                                                               exact step_ro (ro_load RpcMay_g3 e78 (by exact hk1.rd 5 rfl)) ⟨hI.put hU26 (.tail _ (.tail _ (.tail _ (.head _)))), hM⟩
                                                             refine ⟨?_, ?_⟩
                                                             · rintro S L' wS hI hM hS0 ⟨-, -⟩
                                                               have e1 := hI.1 1 (by simp)
                                                               have hM' := hM
                                                               obtain ⟨hk1, hX, hB⟩ := hM'
                                                               exact step_ro (ro_fieldAddr RpcMay_f27_6 e1) ⟨hI.put hU26 (.tail _ (.tail _ (.tail _ (.tail _ (.head _))))), hM⟩
                                                             refine ⟨?_, ?_⟩
                                                             · rintro S L' wS hI hM hS0 ⟨d4, -, -⟩
                                                               have e80 : look L' 80 = .pointer (some ⟨b1, 6, none⟩) := hI.get (i := 4) (.tail _ (.tail _ (.tail _ (.tail _ (.head _))))) d4
                                                               have hM' := hM
                                                               obtain ⟨hk1, hX, hB⟩ := hM'
                                                               exact step_ro (ro_load RpcMay_g3 e80 (by exact hk1.rd 6 rfl)) ⟨hI.put hU26 (.tail _ (.tail _ (.tail _ (.tail _ (.tail _ (.head _)))))), hM⟩
                                                             refine ⟨?_, ?_⟩
                                                             · rintro S L' wS hI hM hS0 ⟨-, -⟩
                                                               have e1 := hI.1 1 (by simp)
                                                               have hM' := hM
                                                               obtain ⟨hk1, hX, hB⟩ := hM'
                                                               exact step_ro (ro_fieldAddr RpcMay_f27_7 e1) ⟨hI.put hU26 (.tail _ (.tail _ (.tail _ (.tail _ (.tail _ (.tail _ (.head _))))))), hM⟩
                                                             refine ⟨?_, ?_⟩
                                                             · rintro S L' wS hI hM hS0 ⟨d6, -, -⟩
                                                               have e82 : look L' 82 = .pointer (some ⟨b1, 7, none⟩) := hI.get (i := 6) (.tail _ (.tail _ (.tail _ (.tail _ (.tail _ (.tail _ (.head _))))))) d6
                                                               have hM' := hM
                                                               obtain ⟨hk1, hX, hB⟩ := hM'
                                                               exact step_ro (ro_load RpcMay_g3 e82 (by exact hk1.rd 7 rfl)) ⟨hI.put hU26 (.tail _ (.tail _ (.tail _ (.tail _ (.tail _ (.tail _ (.tail _ (.head _)))))))), hM⟩
                                                             refine ⟨?_, ?_⟩
                                                             · rintro S L' wS hI hM hS0 ⟨-, -⟩
                                                               have e1 := hI.1 1 (by simp)
                                                               have hM' := hM
                                                               obtain ⟨hk1, hX, hB⟩ := hM'
                                                               exact step_ro (ro_fieldAddr RpcMay_f27_9 e1) ⟨hI.put hU26 (.tail _ (.tail _ (.tail _ (.tail _ (.tail _ (.tail _ (.tail _ (.tail _ (.head _))))))))), hM⟩
                                                             refine ⟨?_, ?_⟩
                                                             · rintro S L' wS hI hM hS0 ⟨d8, -, -⟩
                                                               have e84 : look L' 84 = .pointer (some ⟨b1, 9, none⟩) := hI.get (i := 8) (.tail _ (.tail _ (.tail _ (.tail _ (.tail _ (.tail _ (.tail _ (.tail _ (.head _))))))))) d8
                                                               have hM' := hM
                                                               obtain ⟨hk1, hX, hB⟩ := hM'
                                                               exact step_ro (ro_load RpcMay_g25 e84 (by exact hk1.rd 9 rfl)) ⟨hI.put hU26 (.tail _ (.tail _ (.tail _ (.tail _ (.tail _ (.tail _ (.tail _ (.tail _ (.tail _ (.head _)))))))))), hM⟩
                                                             refine ⟨?_, ?_⟩
                                                             · rintro S L' wS hI hM hS0 ⟨d0, d1, -, -, -, -, -, -, -, -, -⟩
                                                               have e3 := hI.1 3 (by simp)
                                                               have hM' := hM
                                                               obtain ⟨hk1, hX, hB⟩ := hM'
                                                               exact step_ro (ro_fieldAddr RpcMay_f27_4 e3) ⟨hI.put hU26 (.tail _ (.tail _ (.tail _ (.tail _ (.tail _ (.tail _ (.tail _ (.tail _ (.tail _ (.tail _ (.head _))))))))))), hM⟩
                                                             refine ⟨?_, ?_⟩
                                                             · rintro S L' wS hI hM hS0 ⟨d10, d1, d0, d1, -, -, -, -, -, -, -, -, -⟩
                                                               have e77 : look L' 77 = .int .i64 ix := hI.get (i := 1) (.tail _ (.head _)) d1
                                                               have e86 : look L' 86 = .pointer (some ⟨b3, 4, none⟩) := hI.get (i := 10) (.tail _ (.tail _ (.tail _ (.tail _ (.tail _ (.tail _ (.tail _ (.tail _ (.tail _ (.tail _ (.head _))))))))))) d10
                                                               have hM' := hM
                                                               obtain ⟨hk1, hX, hB⟩ := hM'
                                                               obtain ⟨w2, hR, hO, hb⟩ := rs_put (n := 169) (L := L') (x := .tmp 86) (y := .tmp 77) RpcMay_z3 e86 e77 rfl hX (by simp)
                                                               exact step_rs hR ⟨hI.skip (by simp), hk1.only hO (by omega), hb, hB.only hO hg3⟩
                                                             refine ⟨?_, ?_⟩
                                                             · rintro S L' wS hI hM hS0 ⟨d0, d1, d2, d3, -, -, -, -, -, -, d10, d11, -⟩
                                                               have e3 := hI.1 3 (by simp)
                                                               have hM' := hM
                                                               obtain ⟨hk1, hX, hB⟩ := hM'
                                                               exact step_ro (ro_fieldAddr RpcMay_f27_5 e3) ⟨hI.put hU26 (.tail _ (.tail _ (.tail _ (.tail _ (.tail _ (.tail _ (.tail _ (.tail _ (.tail _ (.tail _ (.tail _ (.head _)))))))))))), hM⟩
                                                             refine ⟨?_, ?_⟩
                                                             · rintro S L' wS hI hM hS0 ⟨d12, d3, d11, d0, d1, d2, d3, -, -, -, -, -, -, d10, d11, -⟩
                                                               have e79 : look L' 79 = .int .i64 lt := hI.get (i := 3) (.tail _ (.tail _ (.tail _ (.head _)))) d3
                                                               have e87 : look L' 87 = .pointer (some ⟨b3, 5, none⟩) := hI.get (i := 12) (.tail _ (.tail _ (.tail _ (.tail _ (.tail _ (.tail _ (.tail _ (.tail _ (.tail _ (.tail _ (.tail _ (.head _)))))))))))) d12
                                                               have hM' := hM
                                                               obtain ⟨hk1, hX, hB⟩ := hM'
                                                               obtain ⟨w2, hR, hO, hb⟩ := rs_put (n := 169) (L := L') (x := .tmp 87) (y := .tmp 79) RpcMay_z3 e87 e79 rfl hX (by simp)
                                                               exact step_rs hR ⟨hI.skip (by simp), hk1.only hO (by omega), hb, hB.only hO hg3⟩
                                                             refine ⟨?_, ?_⟩
                                                             · rintro S L' wS hI hM hS0 ⟨d0, d1, d2, d3, d4, d5, -, -, -, -, d10, d11, d12, d13, -⟩
                                                               have e3 := hI.1 3 (by simp)
                                                               have hM' := hM
                                                               obtain ⟨hk1, hX, hB⟩ := hM'
                                                               exact step_ro (ro_fieldAddr RpcMay_f27_6 e3) ⟨hI.put hU26 (.tail _ (.tail _ (.tail _ (.tail _ (.tail _ (.tail _ (.tail _ (.tail _ (.tail _ (.tail _ (.tail _ (.tail _ (.head _))))))))))))), hM⟩
                                                             refine ⟨?_, ?_⟩
                                                             · rintro S L' wS hI hM hS0 ⟨d14, d5, d13, d0, d1, d2, d3, d4, d5, -, -, -, -, d10, d11, d12, d13, -⟩
                                                               have e81 : look L' 81 = .int .i64 cm := hI.get (i := 5) (.tail _ (.tail _ (.tail _ (.tail _ (.tail _ (.head _)))))) d5
                                                               have e88 : look L' 88 = .pointer (some ⟨b3, 6, none⟩) := hI.get (i := 14) (.tail _ (.tail _ (.tail _ (.tail _ (.tail _ (.tail _ (.tail _ (.tail _ (.tail _ (.tail _ (.tail _ (.tail _ (.head _))))))))))))) d14
                                                               have hM' := hM
                                                               obtain ⟨hk1, hX, hB⟩ := hM'
                                                               obtain ⟨w2, hR, hO, hb⟩ := rs_put (n := 169) (L := L') (x := .tmp 88) (y := .tmp 81) RpcMay_z3 e88 e81 rfl hX (by simp)
                                                               exact step_rs hR ⟨hI.skip (by simp), hk1.only hO (by omega), hb, hB.only hO hg3⟩
                                                             refine ⟨?_, ?_⟩
                                                             · rintro S L' wS hI hM hS0 ⟨d0, d1, d2, d3, d4, d5, d6, d7, -, -, d10, d11, d12, d13, d14, d15, -⟩
                                                               have e3 := hI.1 3 (by simp)
                                                               have hM' := hM
                                                               obtain ⟨hk1, hX, hB⟩ := hM'
                                                               exact step_ro (ro_fieldAddr RpcMay_f27_7 e3) ⟨hI.put hU26 (.tail _ (.tail _ (.tail _ (.tail _ (.tail _ (.tail _ (.tail _ (.tail _ (.tail _ (.tail _ (.tail _ (.tail _ (.tail _ (.head _)))))))))))))), hM⟩
                                                             refine ⟨?_, ?_⟩
                                                             · rintro S L' wS hI hM hS0 ⟨d16, d7, d15, d0, d1, d2, d3, d4, d5, d6, d7, -, -, d10, d11, d12, d13, d14, d15, -⟩
                                                               have e83 : look L' 83 = .int .i64 rd := hI.get (i := 7) (.tail _ (.tail _ (.tail _ (.tail _ (.tail _ (.tail _ (.tail _ (.head _)))))))) d7
                                                               have e89 : look L' 89 = .pointer (some ⟨b3, 7, none⟩) := hI.get (i := 16) (.tail _ (.tail _ (.tail _ (.tail _ (.tail _ (.tail _ (.tail _ (.tail _ (.tail _ (.tail _ (.tail _ (.tail _ (.tail _ (.head _)))))))))))))) d16
                                                               have hM' := hM
                                                               obtain ⟨hk1, hX, hB⟩ := hM'
                                                               obtain ⟨w2, hR, hO, hb⟩ := rs_put (n := 169) (L := L') (x := .tmp 89) (y := .tmp 83) RpcMay_z3 e89 e83 rfl hX (by simp)
                                                               exact step_rs hR ⟨hI.skip (by simp), hk1.only hO (by omega), hb, hB.only hO hg3⟩
                                                             refine ⟨?_, ?_⟩
                                                             · rintro S L' wS hI hM hS0 ⟨d0, d1, d2, d3, d4, d5, d6, d7, d8, d9, d10, d11, d12, d13, d14, d15, d16, d17, -⟩
                                                               have e3 := hI.1 3 (by simp)
                                                               have hM' := hM
                                                               obtain ⟨hk1, hX, hB⟩ := hM'
                                                               exact step_ro (ro_fieldAddr RpcMay_f27_9 e3) ⟨hI.put hU26 (.tail _ (.tail _ (.tail _ (.tail _ (.tail _ (.tail _ (.tail _ (.tail _ (.tail _ (.tail _ (.tail _ (.tail _ (.tail _ (.tail _ (.head _))))))))))))))), hM⟩
                                                             refine ⟨?_, ?_⟩
                                                             · rintro S L' wS hI hM hS0 ⟨d18, d9, d17, d0, d1, d2, d3, d4, d5, d6, d7, d8, d9, d10, d11, d12, d13, d14, d15, d16, d17, -⟩
                                                               have e85 : look L' 85 = .slice E n c := hI.get (i := 9) (.tail _ (.tail _ (.tail _ (.tail _ (.tail _ (.tail _ (.tail _ (.tail _ (.tail _ (.head _)))))))))) d9
                                                               have e90 : look L' 90 = .pointer (some ⟨b3, 9, none⟩) := hI.get (i := 18) (.tail _ (.tail _ (.tail _ (.tail _ (.tail _ (.tail _ (.tail _ (.tail _ (.tail _ (.tail _ (.tail _ (.tail _ (.tail _ (.tail _ (.head _))))))))))))))) d18
                                                               have hM' := hM
                                                               obtain ⟨hk1, hX, hB⟩ := hM'
                                                               obtain ⟨w2, hR, hO, hb⟩ := rs_put (n := 169) (L := L') (x := .tmp 90) (y := .tmp 85) RpcMay_z25 e90 e85 rfl hX (by simp)
                                                               exact step_rs hR ⟨hI.skip (by simp), hk1.only hO (by omega), hb, hB.only hO hg3⟩
                                                             exact trivial
                                                           · intro w27 hM
                                                             obtain ⟨hk1, hX, hB⟩ := hM
                                                             replace hX : Blk w27 b3 27 #[.int .i64 k, .int .i64 f, .int .i64 t, .int .i64 tm, .int .i64 ix, .int .i64 lt, .int .i64 cm, .int .i64 rd, .bool false, .slice E n c, .int .i64 0, .string ⟨#[]⟩, .bool false] := hX
                                                             refine nx_then ?_
                                                             refine cd_seq ?_
                                                             refine cd_region ?_
                                                             refine st_val (ro_fieldAddr RpcMay_f27_9 rfl) ?_
                                                             refine st_val (ro_load RpcMay_g25 rfl (by exact (hk1.from_ From.rfl_).rd 9 rfl)) ?_
                                                             refine st_val (ro_len RpcMay_l25 rfl) ?_
                                                             refine st_val (ro_gtr rfl rfl) ?_
                                                             refine st_val (ro_move (v := .bool _) rfl) ?_
                                                             refine st_split (t := 95) rfl (fun Q28 => ?_) (fun Q28 => ?_)
                                                             · (try first | replace Q28 := bn_t Q28 | replace Q28 := bn_f Q28)
                                                               (try first | replace Q28 := bx_t Q28 | replace Q28 := bx_f Q28 | replace Q28 := be_t Q28 | replace Q28 := be_f Q28 | replace Q28 := of_decide_eq_true Q28 | replace Q28 := of_decide_eq_false Q28)
                                                               first
                                                                | (exfalso; first | omega | contradiction | (cases Q28; done))
                                                                | skip
                                                                  refine st_gno rfl rfl ?_
                                                                  refine st_gno rfl rfl ?_
                                                                  refine st_gno rfl rfl ?_
                                                                  refine st_gno rfl rfl ?_
                                                                  refine st_gno rfl rfl ?_
                                                                  refine st_gno rfl rfl ?_
                                                                  refine st_gno rfl rfl ?_
                                                                  refine st_gno rfl rfl ?_
                                                                  refine st_val (ro_pickT (v := .bool _) rfl rfl) ?_
                                                                  refine st_nil ?_
                                                                  refine nx_then ?_
                                                                  refine cd_condT rfl ?_
                                                                  refine cd_seq ?_
                                                                  refine cd_region ?_
                                                                  refine st_val (ro_assign (v := .bool _) rfl) ?_
                                                                  refine st_nil ?_
                                                                  refine nx_then ?_
                                                                  refine cd_ret ?_
                                                                  refine rt_block ?_
                                                                  refine rt_then ?_
                                                                  refine res1 (v := .bool _) rfl rfl ?_
                                                                  exact ⟨congrArg Value.bool (decide_eq_false (fun h => by
                                                                    have h2 := h.2.2.1 (by omega)
                                                                    first
                                                                      | omega
                                                                      | (have h3 : runs es ix lt = false := by assumption
                                                                         rw [h3] at h2; simp at h2))).symm, hB⟩
                                                             · (try first | replace Q28 := bn_t Q28 | replace Q28 := bn_f Q28)
                                                               (try first | replace Q28 := bx_t Q28 | replace Q28 := bx_f Q28 | replace Q28 := be_t Q28 | replace Q28 := be_f Q28 | replace Q28 := of_decide_eq_true Q28 | replace Q28 := of_decide_eq_false Q28)
                                                               first
                                                                | (exfalso; first | omega | contradiction | (cases Q28; done))
                                                                | skip
                                                                  refine st_unguard rfl ?_
                                                                  refine st_val (ro_fieldAddr RpcMay_f27_9 rfl) ?_
                                                                  refine st_unguard rfl ?_
                                                                  refine st_val (ro_load RpcMay_g25 rfl (by exact (hk1.from_ From.rfl_).rd 9 rfl)) ?_
                                                                  refine st_unguard rfl ?_
                                                                  refine st_val (ro_fieldAddr RpcMay_f27_4 rfl) ?_
                                                                  refine st_unguard rfl ?_
                                                                  refine st_val (ro_load RpcMay_g3 rfl (by exact (hk1.from_ From.rfl_).rd 4 rfl)) ?_
                                                                  refine st_unguard rfl ?_
                                                                  refine st_val (ro_fieldAddr RpcMay_f27_5 rfl) ?_
                                                                  refine st_unguard rfl ?_
                                                                  refine st_val (ro_load RpcMay_g3 rfl (by exact (hk1.from_ From.rfl_).rd 5 rfl)) ?_
                                                                  refine st_unguard rfl ?_
                                                                  refine st_call RpcMay_k25 (runs_w ix lt E n c es _ (he.from_ hB) (by omega) (by omega) (by omega)) ?_
                                                                  rintro v102 w29 ⟨rfl, E102⟩
                                                                  refine st_unguard rfl ?_
                                                                  refine st_val (ro_not rfl) ?_
                                                                  refine st_val (ro_pickF (v := .bool _) rfl rfl) ?_
                                                                  refine st_nil ?_
                                                                  refine nx_then ?_
                                                                  refine cd_cond rfl (fun Q30 => ?_) (fun Q30 => ?_)
                                                                  · (try first | replace Q30 := bn_t Q30 | replace Q30 := bn_f Q30)
                                                                    (try first | replace Q30 := bx_t Q30 | replace Q30 := bx_f Q30 | replace Q30 := be_t Q30 | replace Q30 := be_f Q30 | replace Q30 := of_decide_eq_true Q30 | replace Q30 := of_decide_eq_false Q30)
                                                                    first
                                                                     | (exfalso; first | omega | contradiction | (cases Q30; done))
                                                                     | skip
                                                                       refine cd_seq ?_
                                                                       refine cd_region ?_
                                                                       refine st_val (ro_assign (v := .bool _) rfl) ?_
                                                                       refine st_nil ?_
                                                                       refine nx_then ?_
                                                                       refine cd_ret ?_
                                                                       refine rt_block ?_
                                                                       refine rt_then ?_
                                                                       refine res1 (v := .bool _) rfl rfl ?_
                                                                       exact ⟨congrArg Value.bool (decide_eq_false (fun h => by
                                                                         have h2 := h.2.2.1 (by omega)
                                                                         first
                                                                           | omega
                                                                           | (have h3 : runs es ix lt = false := by assumption
                                                                              rw [h3] at h2; simp at h2))).symm, (hB.next E102)⟩
                                                                  · (try first | replace Q30 := bn_t Q30 | replace Q30 := bn_f Q30)
                                                                    (try first | replace Q30 := bx_t Q30 | replace Q30 := bx_f Q30 | replace Q30 := be_t Q30 | replace Q30 := be_f Q30 | replace Q30 := of_decide_eq_true Q30 | replace Q30 := of_decide_eq_false Q30)
                                                                    have hap : AppR k ix lt es := fun _ => ⟨by omega, by simpa using Q30⟩
                                                                    first
                                                                     | (exfalso; first | omega | contradiction | (cases Q30; done))
                                                                     | skip
                                                                       refine cd_skip ?_
                                                                       refine nx_block ?_
                                                                       refine nx_cut (((ix, lt, cm, rd), false, (E, n, c, es), 0, ⟨#[]⟩, false)) trivial (by (iterate 38 refine agr_cons rfl ?_); exact agr_rfl) ?_
                                                                       refine ⟨hX.from_ (From.rfl_.next E102), hk1.from_ (From.rfl_.next E102), he.from_ (hB.next E102), hn, by simp, ?_, (hB.next E102)⟩
                                                                       rw [okR_iff hnm hap hsn]
                                                                       simp only [nil_len, size0', bool0', true_and, and_true]
                                                                       unfold ExR
                                                                       rw [if_neg (by omega), if_neg (by omega), if_pos (by omega)]
                                                                       first | done | omega
                                                      · (try first | replace Q25 := bn_t Q25 | replace Q25 := bn_f Q25)
                                                        (try first | replace Q25 := bx_t Q25 | replace Q25 := bx_f Q25 | replace Q25 := be_t Q25 | replace Q25 := be_f Q25 | replace Q25 := of_decide_eq_true Q25 | replace Q25 := of_decide_eq_false Q25)
                                                        first
                                                         | (exfalso; first | omega | contradiction | (cases Q25; done))
                                                         | skip
                                                           refine cd_seq ?_
                                                           refine cd_region ?_
                                                           refine st_val (ro_eql rfl rfl) ?_
                                                           refine st_val (ro_assign (v := .bool _) rfl) ?_
                                                           refine st_nil ?_
                                                           refine nx_then ?_
                                                           refine cd_cond rfl (fun Q31 => ?_) (fun Q31 => ?_)
                                                           · (try first | replace Q31 := bn_t Q31 | replace Q31 := bn_f Q31)
                                                             (try first | replace Q31 := bx_t Q31 | replace Q31 := bx_f Q31 | replace Q31 := be_t Q31 | replace Q31 := be_f Q31 | replace Q31 := of_decide_eq_true Q31 | replace Q31 := of_decide_eq_false Q31)
                                                             have hap : AppR k ix lt es := fun h => by omega
                                                             have hsn : SnpR k ix a d := fun h => by omega
                                                             have hnm : NumR k f t tm ix lt cm rd a := by unfold NumR; omega
                                                             first
                                                              | (exfalso; first | omega | contradiction | (cases Q31; done))
                                                              | skip
                                                                have hU32 : UniT [(0, 107, .pointer (some ⟨b1, 8, none⟩)), (1, 108, .bool ok), (2, 109, .pointer (some ⟨b1, 4, none⟩)), (3, 110, .int .i64 ix), (4, 111, .pointer (some ⟨b1, 7, none⟩)), (5, 112, .int .i64 rd), (6, 113, .pointer (some ⟨b3, 8, none⟩)), (8, 114, .pointer (some ⟨b3, 4, none⟩)), (10, 115, .pointer (some ⟨b3, 7, none⟩))] := by simp [UniT]
                                                                refine cd_invT [(0, 107, .pointer (some ⟨b1, 8, none⟩)), (1, 108, .bool ok), (2, 109, .pointer (some ⟨b1, 4, none⟩)), (3, 110, .int .i64 ix), (4, 111, .pointer (some ⟨b1, 7, none⟩)), (5, 112, .int .i64 rd), (6, 113, .pointer (some ⟨b3, 8, none⟩)), (8, 114, .pointer (some ⟨b3, 4, none⟩)), (10, 115, .pointer (some ⟨b3, 7, none⟩))] (fun S w' => Blk w' b1 27 #[.int .i64 k, .int .i64 f, .int .i64 t, .int .i64 tm, .int .i64 ix, .int .i64 lt, .int .i64 cm, .int .i64 rd, .bool ok, .slice E n c, .int .i64 a, .string d, .bool dn] ∧ Blk w' b3 27 #[.int .i64 k, .int .i64 f, .int .i64 t, .int .i64 tm, bif S 9 then .int .i64 ix else .int .i64 0, .int .i64 0, .int .i64 0, bif S 11 then .int .i64 rd else .int .i64 0, bif S 7 then .bool ok else .bool false, .slice none 0 0, .int .i64 0, .string ⟨#[]⟩, .bool false] ∧ From w w') (by kernel_rfl) (by kernel_rfl) hU32 (by simp) (⟨hk1.from_ From.rfl_.d1, hX.from_ From.rfl_.d1, ((((From.rfl_.next E1).next E3).only O1 (hg3))).d1⟩) ?_ ?_
                                                                · refine ⟨?_, ?_⟩
                                                                  · rintro S L' wS hI hM hS0 ⟨-⟩
                                                                    have e1 := hI.1 1 (by simp)
                                                                    have hM' := hM
                                                                    obtain ⟨hk1, hX, hB⟩ := hM'
                                                                    exact step_ro (ro_fieldAddr RpcMay_f27_8 e1) ⟨hI.put hU32 (.head _), hM⟩
                                                                  refine ⟨?_, ?_⟩
                                                                  · rintro S L' wS hI hM hS0 ⟨d0, -⟩
                                                                    have e107 : look L' 107 = .pointer (some ⟨b1, 8, none⟩) := hI.get (i := 0) (.head _) d0
                                                                    have hM' := hM
                                                                    obtain ⟨hk1, hX, hB⟩ := hM'
                                                                    exact step_ro (ro_load RpcMay_g4 e107 (by exact hk1.rd 8 rfl)) ⟨hI.put hU32 (.tail _ (.head _)), hM⟩
                                                                  refine ⟨?_, ?_⟩
                                                                  · rintro S L' wS hI hM hS0 ⟨-, -⟩
                                                                    have e1 := hI.1 1 (by simp)
                                                                    have hM' := hM
                                                                    obtain ⟨hk1, hX, hB⟩ := hM'
                                                                    exact step_ro (ro_fieldAddr RpcMay_f27_4 e1) ⟨hI.put hU32 (.tail _ (.tail _ (.head _))), hM⟩
                                                                  refine ⟨?_, ?_⟩
                                                                  · rintro S L' wS hI hM hS0 ⟨d2, -, -⟩
                                                                    have e109 : look L' 109 = .pointer (some ⟨b1, 4, none⟩) := hI.get (i := 2) (.tail _ (.tail _ (.head _))) d2
                                                                    have hM' := hM
                                                                    obtain ⟨hk1, hX, hB⟩ := hM'
                                                                    exact step_ro (ro_load RpcMay_g3 e109 (by exact hk1.rd 4 rfl)) ⟨hI.put hU32 (.tail _ (.tail _ (.tail _ (.head _)))), hM⟩
                                                                  refine ⟨?_, ?_⟩
                                                                  · rintro S L' wS hI hM hS0 ⟨-, -⟩
                                                                    have e1 := hI.1 1 (by simp)
                                                                    have hM' := hM
                                                                    obtain ⟨hk1, hX, hB⟩ := hM'
                                                                    exact step_ro (ro_fieldAddr RpcMay_f27_7 e1) ⟨hI.put hU32 (.tail _ (.tail _ (.tail _ (.tail _ (.head _))))), hM⟩
                                                                  refine ⟨?_, ?_⟩
                                                                  · rintro S L' wS hI hM hS0 ⟨d4, -, -⟩
                                                                    have e111 : look L' 111 = .pointer (some ⟨b1, 7, none⟩) := hI.get (i := 4) (.tail _ (.tail _ (.tail _ (.tail _ (.head _))))) d4
                                                                    have hM' := hM
                                                                    obtain ⟨hk1, hX, hB⟩ := hM'
                                                                    exact step_ro (ro_load RpcMay_g3 e111 (by exact hk1.rd 7 rfl)) ⟨hI.put hU32 (.tail _ (.tail _ (.tail _ (.tail _ (.tail _ (.head _)))))), hM⟩
                                                                  refine ⟨?_, ?_⟩
                                                                  · rintro S L' wS hI hM hS0 ⟨d0, d1, -, -, -, -, -⟩
                                                                    have e3 := hI.1 3 (by simp)
                                                                    have hM' := hM
                                                                    obtain ⟨hk1, hX, hB⟩ := hM'
                                                                    exact step_ro (ro_fieldAddr RpcMay_f27_8 e3) ⟨hI.put hU32 (.tail _ (.tail _ (.tail _ (.tail _ (.tail _ (.tail _ (.head _))))))), hM⟩
                                                                  refine ⟨?_, ?_⟩
                                                                  · rintro S L' wS hI hM hS0 ⟨d6, d1, d0, d1, -, -, -, -, -⟩
                                                                    have e108 : look L' 108 = .bool ok := hI.get (i := 1) (.tail _ (.head _)) d1
                                                                    have e113 : look L' 113 = .pointer (some ⟨b3, 8, none⟩) := hI.get (i := 6) (.tail _ (.tail _ (.tail _ (.tail _ (.tail _ (.tail _ (.head _))))))) d6
                                                                    have hM' := hM
                                                                    obtain ⟨hk1, hX, hB⟩ := hM'
                                                                    obtain ⟨w2, hR, hO, hb⟩ := rs_put (n := 169) (L := L') (x := .tmp 113) (y := .tmp 108) RpcMay_z4 e113 e108 rfl hX (by simp)
                                                                    exact step_rs hR ⟨hI.skip (by simp), hk1.only hO (by omega), hb, hB.only hO hg3⟩
                                                                  refine ⟨?_, ?_⟩
                                                                  · rintro S L' wS hI hM hS0 ⟨d0, d1, d2, d3, -, -, d6, d7, -⟩
                                                                    have e3 := hI.1 3 (by simp)
                                                                    have hM' := hM
                                                                    obtain ⟨hk1, hX, hB⟩ := hM'
                                                                    exact step_ro (ro_fieldAddr RpcMay_f27_4 e3) ⟨hI.put hU32 (.tail _ (.tail _ (.tail _ (.tail _ (.tail _ (.tail _ (.tail _ (.head _)))))))), hM⟩
                                                                  refine ⟨?_, ?_⟩
                                                                  · rintro S L' wS hI hM hS0 ⟨d8, d3, d7, d0, d1, d2, d3, -, -, d6, d7, -⟩
                                                                    have e110 : look L' 110 = .int .i64 ix := hI.get (i := 3) (.tail _ (.tail _ (.tail _ (.head _)))) d3
                                                                    have e114 : look L' 114 = .pointer (some ⟨b3, 4, none⟩) := hI.get (i := 8) (.tail _ (.tail _ (.tail _ (.tail _ (.tail _ (.tail _ (.tail _ (.head _)))))))) d8
                                                                    have hM' := hM
                                                                    obtain ⟨hk1, hX, hB⟩ := hM'
                                                                    obtain ⟨w2, hR, hO, hb⟩ := rs_put (n := 169) (L := L') (x := .tmp 114) (y := .tmp 110) RpcMay_z3 e114 e110 rfl hX (by simp)
                                                                    exact step_rs hR ⟨hI.skip (by simp), hk1.only hO (by omega), hb, hB.only hO hg3⟩
                                                                  refine ⟨?_, ?_⟩
                                                                  · rintro S L' wS hI hM hS0 ⟨d0, d1, d2, d3, d4, d5, d6, d7, d8, d9, -⟩
                                                                    have e3 := hI.1 3 (by simp)
                                                                    have hM' := hM
                                                                    obtain ⟨hk1, hX, hB⟩ := hM'
                                                                    exact step_ro (ro_fieldAddr RpcMay_f27_7 e3) ⟨hI.put hU32 (.tail _ (.tail _ (.tail _ (.tail _ (.tail _ (.tail _ (.tail _ (.tail _ (.head _))))))))), hM⟩
                                                                  refine ⟨?_, ?_⟩
                                                                  · rintro S L' wS hI hM hS0 ⟨d10, d5, d9, d0, d1, d2, d3, d4, d5, d6, d7, d8, d9, -⟩
                                                                    have e112 : look L' 112 = .int .i64 rd := hI.get (i := 5) (.tail _ (.tail _ (.tail _ (.tail _ (.tail _ (.head _)))))) d5
                                                                    have e115 : look L' 115 = .pointer (some ⟨b3, 7, none⟩) := hI.get (i := 10) (.tail _ (.tail _ (.tail _ (.tail _ (.tail _ (.tail _ (.tail _ (.tail _ (.head _))))))))) d10
                                                                    have hM' := hM
                                                                    obtain ⟨hk1, hX, hB⟩ := hM'
                                                                    obtain ⟨w2, hR, hO, hb⟩ := rs_put (n := 169) (L := L') (x := .tmp 115) (y := .tmp 112) RpcMay_z3 e115 e112 rfl hX (by simp)
                                                                    exact step_rs hR ⟨hI.skip (by simp), hk1.only hO (by omega), hb, hB.only hO hg3⟩
                                                                  exact trivial
                                                                · intro w33 hM
                                                                  obtain ⟨hk1, hX, hB⟩ := hM
                                                                  replace hX : Blk w33 b3 27 #[.int .i64 k, .int .i64 f, .int .i64 t, .int .i64 tm, .int .i64 ix, .int .i64 0, .int .i64 0, .int .i64 rd, .bool ok, .slice none 0 0, .int .i64 0, .string ⟨#[]⟩, .bool false] := hX
                                                                  refine nx_block ?_
                                                                  refine nx_cut (((ix, 0, 0, rd), ok, (none, 0, 0, []), 0, ⟨#[]⟩, false)) trivial (by (iterate 19 refine agr_cons rfl ?_); exact agr_rfl) ?_
                                                                  refine ⟨hX.from_ From.rfl_, hk1.from_ From.rfl_, Ents.nil_ _, rfl, by simp, ?_, hB⟩
                                                                  rw [okR_iff hnm hap hsn]
                                                                  simp only [nil_len, size0', bool0', true_and, and_true]
                                                                  unfold ExR
                                                                  rw [if_neg (by omega), if_neg (by omega), if_neg (by omega), if_pos (by omega)]
                                                                  first | done | omega
                                                           · (try first | replace Q31 := bn_t Q31 | replace Q31 := bn_f Q31)
                                                             (try first | replace Q31 := bx_t Q31 | replace Q31 := bx_f Q31 | replace Q31 := be_t Q31 | replace Q31 := be_f Q31 | replace Q31 := of_decide_eq_true Q31 | replace Q31 := of_decide_eq_false Q31)
                                                             first
                                                              | (exfalso; first | omega | contradiction | (cases Q31; done))
                                                              | skip
                                                                refine cd_seq ?_
                                                                refine cd_region ?_
                                                                refine st_val (ro_eql rfl rfl) ?_
                                                                refine st_val (ro_assign (v := .bool _) rfl) ?_
                                                                refine st_nil ?_
                                                                refine nx_then ?_
                                                                refine cd_cond rfl (fun Q34 => ?_) (fun Q34 => ?_)
                                                                · (try first | replace Q34 := bn_t Q34 | replace Q34 := bn_f Q34)
                                                                  (try first | replace Q34 := bx_t Q34 | replace Q34 := bx_f Q34 | replace Q34 := be_t Q34 | replace Q34 := be_f Q34 | replace Q34 := of_decide_eq_true Q34 | replace Q34 := of_decide_eq_false Q34)
                                                                  have hap : AppR k ix lt es := fun h => by omega
                                                                  have hnm : NumR k f t tm ix lt cm rd a := by unfold NumR; omega
                                                                  first
                                                                   | (exfalso; first | omega | contradiction | (cases Q34; done))
                                                                   | skip
                                                                     refine cd_seq ?_
                                                                     have hU35 : UniT [(0, 118, .pointer (some ⟨b1, 4, none⟩)), (1, 119, .int .i64 ix), (2, 120, .pointer (some ⟨b1, 5, none⟩)), (3, 121, .int .i64 lt), (4, 122, .pointer (some ⟨b1, 7, none⟩)), (5, 123, .int .i64 rd), (6, 124, .pointer (some ⟨b1, 10, none⟩)), (7, 125, .int .i64 a), (8, 126, .pointer (some ⟨b1, 11, none⟩)), (9, 127, .string d), (10, 128, .pointer (some ⟨b1, 12, none⟩)), (11, 129, .bool dn), (12, 130, .pointer (some ⟨b3, 4, none⟩)), (14, 131, .pointer (some ⟨b3, 5, none⟩)), (16, 132, .pointer (some ⟨b3, 7, none⟩)), (18, 133, .pointer (some ⟨b3, 10, none⟩)), (20, 134, .pointer (some ⟨b3, 11, none⟩)), (22, 135, .pointer (some ⟨b3, 12, none⟩))] := by simp [UniT]
                                                                     refine cd_invT [(0, 118, .pointer (some ⟨b1, 4, none⟩)), (1, 119, .int .i64 ix), (2, 120, .pointer (some ⟨b1, 5, none⟩)), (3, 121, .int .i64 lt), (4, 122, .pointer (some ⟨b1, 7, none⟩)), (5, 123, .int .i64 rd), (6, 124, .pointer (some ⟨b1, 10, none⟩)), (7, 125, .int .i64 a), (8, 126, .pointer (some ⟨b1, 11, none⟩)), (9, 127, .string d), (10, 128, .pointer (some ⟨b1, 12, none⟩)), (11, 129, .bool dn), (12, 130, .pointer (some ⟨b3, 4, none⟩)), (14, 131, .pointer (some ⟨b3, 5, none⟩)), (16, 132, .pointer (some ⟨b3, 7, none⟩)), (18, 133, .pointer (some ⟨b3, 10, none⟩)), (20, 134, .pointer (some ⟨b3, 11, none⟩)), (22, 135, .pointer (some ⟨b3, 12, none⟩))] (fun S w' => Blk w' b1 27 #[.int .i64 k, .int .i64 f, .int .i64 t, .int .i64 tm, .int .i64 ix, .int .i64 lt, .int .i64 cm, .int .i64 rd, .bool ok, .slice E n c, .int .i64 a, .string d, .bool dn] ∧ Blk w' b3 27 #[.int .i64 k, .int .i64 f, .int .i64 t, .int .i64 tm, bif S 13 then .int .i64 ix else .int .i64 0, bif S 15 then .int .i64 lt else .int .i64 0, .int .i64 0, bif S 17 then .int .i64 rd else .int .i64 0, .bool false, .slice none 0 0, bif S 19 then .int .i64 a else .int .i64 0, bif S 21 then .string d else .string ⟨#[]⟩, bif S 23 then .bool dn else .bool false] ∧ From w w') (by kernel_rfl) (by kernel_rfl) hU35 (by simp) (⟨hk1.from_ From.rfl_.d1, hX.from_ From.rfl_.d1, ((((From.rfl_.next E1).next E3).only O1 (hg3))).d1⟩) ?_ ?_
                                                                     · refine ⟨?_, ?_⟩
                                                                       · rintro S L' wS hI hM hS0 ⟨-⟩
                                                                         have e1 := hI.1 1 (by simp)
                                                                         have hM' := hM
                                                                         obtain ⟨hk1, hX, hB⟩ := hM'
                                                                         exact step_ro (ro_fieldAddr RpcMay_f27_4 e1) ⟨hI.put hU35 (.head _), hM⟩
                                                                       refine ⟨?_, ?_⟩
                                                                       · rintro S L' wS hI hM hS0 ⟨d0, -⟩
                                                                         have e118 : look L' 118 = .pointer (some ⟨b1, 4, none⟩) := hI.get (i := 0) (.head _) d0
                                                                         have hM' := hM
                                                                         obtain ⟨hk1, hX, hB⟩ := hM'
                                                                         exact step_ro (ro_load RpcMay_g3 e118 (by exact hk1.rd 4 rfl)) ⟨hI.put hU35 (.tail _ (.head _)), hM⟩
                                                                       refine ⟨?_, ?_⟩
                                                                       · rintro S L' wS hI hM hS0 ⟨-, -⟩
                                                                         have e1 := hI.1 1 (by simp)
                                                                         have hM' := hM
                                                                         obtain ⟨hk1, hX, hB⟩ := hM'
                                                                         exact step_ro (ro_fieldAddr RpcMay_f27_5 e1) ⟨hI.put hU35 (.tail _ (.tail _ (.head _))), hM⟩
                                                                       refine ⟨?_, ?_⟩
                                                                       · rintro S L' wS hI hM hS0 ⟨d2, -, -⟩
                                                                         have e120 : look L' 120 = .pointer (some ⟨b1, 5, none⟩) := hI.get (i := 2) (.tail _ (.tail _ (.head _))) d2
                                                                         have hM' := hM
                                                                         obtain ⟨hk1, hX, hB⟩ := hM'
                                                                         exact step_ro (ro_load RpcMay_g3 e120 (by exact hk1.rd 5 rfl)) ⟨hI.put hU35 (.tail _ (.tail _ (.tail _ (.head _)))), hM⟩
                                                                       refine ⟨?_, ?_⟩
                                                                       · rintro S L' wS hI hM hS0 ⟨-, -⟩
                                                                         have e1 := hI.1 1 (by simp)
                                                                         have hM' := hM
                                                                         obtain ⟨hk1, hX, hB⟩ := hM'
                                                                         exact step_ro (ro_fieldAddr RpcMay_f27_7 e1) ⟨hI.put hU35 (.tail _ (.tail _ (.tail _ (.tail _ (.head _))))), hM⟩
                                                                       refine ⟨?_, ?_⟩
                                                                       · rintro S L' wS hI hM hS0 ⟨d4, -, -⟩
                                                                         have e122 : look L' 122 = .pointer (some ⟨b1, 7, none⟩) := hI.get (i := 4) (.tail _ (.tail _ (.tail _ (.tail _ (.head _))))) d4
                                                                         have hM' := hM
                                                                         obtain ⟨hk1, hX, hB⟩ := hM'
                                                                         exact step_ro (ro_load RpcMay_g3 e122 (by exact hk1.rd 7 rfl)) ⟨hI.put hU35 (.tail _ (.tail _ (.tail _ (.tail _ (.tail _ (.head _)))))), hM⟩
                                                                       refine ⟨?_, ?_⟩
                                                                       · rintro S L' wS hI hM hS0 ⟨-, -⟩
                                                                         have e1 := hI.1 1 (by simp)
                                                                         have hM' := hM
                                                                         obtain ⟨hk1, hX, hB⟩ := hM'
                                                                         exact step_ro (ro_fieldAddr RpcMay_f27_10 e1) ⟨hI.put hU35 (.tail _ (.tail _ (.tail _ (.tail _ (.tail _ (.tail _ (.head _))))))), hM⟩
                                                                       refine ⟨?_, ?_⟩
                                                                       · rintro S L' wS hI hM hS0 ⟨d6, -, -⟩
                                                                         have e124 : look L' 124 = .pointer (some ⟨b1, 10, none⟩) := hI.get (i := 6) (.tail _ (.tail _ (.tail _ (.tail _ (.tail _ (.tail _ (.head _))))))) d6
                                                                         have hM' := hM
                                                                         obtain ⟨hk1, hX, hB⟩ := hM'
                                                                         exact step_ro (ro_load RpcMay_g3 e124 (by exact hk1.rd 10 rfl)) ⟨hI.put hU35 (.tail _ (.tail _ (.tail _ (.tail _ (.tail _ (.tail _ (.tail _ (.head _)))))))), hM⟩
                                                                       refine ⟨?_, ?_⟩
                                                                       · rintro S L' wS hI hM hS0 ⟨-, -⟩
                                                                         have e1 := hI.1 1 (by simp)
                                                                         have hM' := hM
                                                                         obtain ⟨hk1, hX, hB⟩ := hM'
                                                                         exact step_ro (ro_fieldAddr RpcMay_f27_11 e1) ⟨hI.put hU35 (.tail _ (.tail _ (.tail _ (.tail _ (.tail _ (.tail _ (.tail _ (.tail _ (.head _))))))))), hM⟩
                                                                       refine ⟨?_, ?_⟩
                                                                       · rintro S L' wS hI hM hS0 ⟨d8, -, -⟩
                                                                         have e126 : look L' 126 = .pointer (some ⟨b1, 11, none⟩) := hI.get (i := 8) (.tail _ (.tail _ (.tail _ (.tail _ (.tail _ (.tail _ (.tail _ (.tail _ (.head _))))))))) d8
                                                                         have hM' := hM
                                                                         obtain ⟨hk1, hX, hB⟩ := hM'
                                                                         exact step_ro (ro_load RpcMay_g9 e126 (by exact hk1.rd 11 rfl)) ⟨hI.put hU35 (.tail _ (.tail _ (.tail _ (.tail _ (.tail _ (.tail _ (.tail _ (.tail _ (.tail _ (.head _)))))))))), hM⟩
                                                                       refine ⟨?_, ?_⟩
                                                                       · rintro S L' wS hI hM hS0 ⟨-, -⟩
                                                                         have e1 := hI.1 1 (by simp)
                                                                         have hM' := hM
                                                                         obtain ⟨hk1, hX, hB⟩ := hM'
                                                                         exact step_ro (ro_fieldAddr RpcMay_f27_12 e1) ⟨hI.put hU35 (.tail _ (.tail _ (.tail _ (.tail _ (.tail _ (.tail _ (.tail _ (.tail _ (.tail _ (.tail _ (.head _))))))))))), hM⟩
                                                                       refine ⟨?_, ?_⟩
                                                                       · rintro S L' wS hI hM hS0 ⟨d10, -, -⟩
                                                                         have e128 : look L' 128 = .pointer (some ⟨b1, 12, none⟩) := hI.get (i := 10) (.tail _ (.tail _ (.tail _ (.tail _ (.tail _ (.tail _ (.tail _ (.tail _ (.tail _ (.tail _ (.head _))))))))))) d10
                                                                         have hM' := hM
                                                                         obtain ⟨hk1, hX, hB⟩ := hM'
                                                                         exact step_ro (ro_load RpcMay_g4 e128 (by exact hk1.rd 12 rfl)) ⟨hI.put hU35 (.tail _ (.tail _ (.tail _ (.tail _ (.tail _ (.tail _ (.tail _ (.tail _ (.tail _ (.tail _ (.tail _ (.head _)))))))))))), hM⟩
                                                                       refine ⟨?_, ?_⟩
                                                                       · rintro S L' wS hI hM hS0 ⟨d0, d1, -, -, -, -, -, -, -, -, -, -, -⟩
                                                                         have e3 := hI.1 3 (by simp)
                                                                         have hM' := hM
                                                                         obtain ⟨hk1, hX, hB⟩ := hM'
                                                                         exact step_ro (ro_fieldAddr RpcMay_f27_4 e3) ⟨hI.put hU35 (.tail _ (.tail _ (.tail _ (.tail _ (.tail _ (.tail _ (.tail _ (.tail _ (.tail _ (.tail _ (.tail _ (.tail _ (.head _))))))))))))), hM⟩
                                                                       refine ⟨?_, ?_⟩
                                                                       · rintro S L' wS hI hM hS0 ⟨d12, d1, d0, d1, -, -, -, -, -, -, -, -, -, -, -⟩
                                                                         have e119 : look L' 119 = .int .i64 ix := hI.get (i := 1) (.tail _ (.head _)) d1
                                                                         have e130 : look L' 130 = .pointer (some ⟨b3, 4, none⟩) := hI.get (i := 12) (.tail _ (.tail _ (.tail _ (.tail _ (.tail _ (.tail _ (.tail _ (.tail _ (.tail _ (.tail _ (.tail _ (.tail _ (.head _))))))))))))) d12
                                                                         have hM' := hM
                                                                         obtain ⟨hk1, hX, hB⟩ := hM'
                                                                         obtain ⟨w2, hR, hO, hb⟩ := rs_put (n := 169) (L := L') (x := .tmp 130) (y := .tmp 119) RpcMay_z3 e130 e119 rfl hX (by simp)
                                                                         exact step_rs hR ⟨hI.skip (by simp), hk1.only hO (by omega), hb, hB.only hO hg3⟩
                                                                       refine ⟨?_, ?_⟩
                                                                       · rintro S L' wS hI hM hS0 ⟨d0, d1, d2, d3, -, -, -, -, -, -, -, -, d12, d13, -⟩
                                                                         have e3 := hI.1 3 (by simp)
                                                                         have hM' := hM
                                                                         obtain ⟨hk1, hX, hB⟩ := hM'
                                                                         exact step_ro (ro_fieldAddr RpcMay_f27_5 e3) ⟨hI.put hU35 (.tail _ (.tail _ (.tail _ (.tail _ (.tail _ (.tail _ (.tail _ (.tail _ (.tail _ (.tail _ (.tail _ (.tail _ (.tail _ (.head _)))))))))))))), hM⟩
                                                                       refine ⟨?_, ?_⟩
                                                                       · rintro S L' wS hI hM hS0 ⟨d14, d3, d13, d0, d1, d2, d3, -, -, -, -, -, -, -, -, d12, d13, -⟩
                                                                         have e121 : look L' 121 = .int .i64 lt := hI.get (i := 3) (.tail _ (.tail _ (.tail _ (.head _)))) d3
                                                                         have e131 : look L' 131 = .pointer (some ⟨b3, 5, none⟩) := hI.get (i := 14) (.tail _ (.tail _ (.tail _ (.tail _ (.tail _ (.tail _ (.tail _ (.tail _ (.tail _ (.tail _ (.tail _ (.tail _ (.tail _ (.head _)))))))))))))) d14
                                                                         have hM' := hM
                                                                         obtain ⟨hk1, hX, hB⟩ := hM'
                                                                         obtain ⟨w2, hR, hO, hb⟩ := rs_put (n := 169) (L := L') (x := .tmp 131) (y := .tmp 121) RpcMay_z3 e131 e121 rfl hX (by simp)
                                                                         exact step_rs hR ⟨hI.skip (by simp), hk1.only hO (by omega), hb, hB.only hO hg3⟩
                                                                       refine ⟨?_, ?_⟩
                                                                       · rintro S L' wS hI hM hS0 ⟨d0, d1, d2, d3, d4, d5, -, -, -, -, -, -, d12, d13, d14, d15, -⟩
                                                                         have e3 := hI.1 3 (by simp)
                                                                         have hM' := hM
                                                                         obtain ⟨hk1, hX, hB⟩ := hM'
                                                                         exact step_ro (ro_fieldAddr RpcMay_f27_7 e3) ⟨hI.put hU35 (.tail _ (.tail _ (.tail _ (.tail _ (.tail _ (.tail _ (.tail _ (.tail _ (.tail _ (.tail _ (.tail _ (.tail _ (.tail _ (.tail _ (.head _))))))))))))))), hM⟩
                                                                       refine ⟨?_, ?_⟩
                                                                       · rintro S L' wS hI hM hS0 ⟨d16, d5, d15, d0, d1, d2, d3, d4, d5, -, -, -, -, -, -, d12, d13, d14, d15, -⟩
                                                                         have e123 : look L' 123 = .int .i64 rd := hI.get (i := 5) (.tail _ (.tail _ (.tail _ (.tail _ (.tail _ (.head _)))))) d5
                                                                         have e132 : look L' 132 = .pointer (some ⟨b3, 7, none⟩) := hI.get (i := 16) (.tail _ (.tail _ (.tail _ (.tail _ (.tail _ (.tail _ (.tail _ (.tail _ (.tail _ (.tail _ (.tail _ (.tail _ (.tail _ (.tail _ (.head _))))))))))))))) d16
                                                                         have hM' := hM
                                                                         obtain ⟨hk1, hX, hB⟩ := hM'
                                                                         obtain ⟨w2, hR, hO, hb⟩ := rs_put (n := 169) (L := L') (x := .tmp 132) (y := .tmp 123) RpcMay_z3 e132 e123 rfl hX (by simp)
                                                                         exact step_rs hR ⟨hI.skip (by simp), hk1.only hO (by omega), hb, hB.only hO hg3⟩
                                                                       refine ⟨?_, ?_⟩
                                                                       · rintro S L' wS hI hM hS0 ⟨d0, d1, d2, d3, d4, d5, d6, d7, -, -, -, -, d12, d13, d14, d15, d16, d17, -⟩
                                                                         have e3 := hI.1 3 (by simp)
                                                                         have hM' := hM
                                                                         obtain ⟨hk1, hX, hB⟩ := hM'
                                                                         exact step_ro (ro_fieldAddr RpcMay_f27_10 e3) ⟨hI.put hU35 (.tail _ (.tail _ (.tail _ (.tail _ (.tail _ (.tail _ (.tail _ (.tail _ (.tail _ (.tail _ (.tail _ (.tail _ (.tail _ (.tail _ (.tail _ (.head _)))))))))))))))), hM⟩
                                                                       refine ⟨?_, ?_⟩
                                                                       · rintro S L' wS hI hM hS0 ⟨d18, d7, d17, d0, d1, d2, d3, d4, d5, d6, d7, -, -, -, -, d12, d13, d14, d15, d16, d17, -⟩
                                                                         have e125 : look L' 125 = .int .i64 a := hI.get (i := 7) (.tail _ (.tail _ (.tail _ (.tail _ (.tail _ (.tail _ (.tail _ (.head _)))))))) d7
                                                                         have e133 : look L' 133 = .pointer (some ⟨b3, 10, none⟩) := hI.get (i := 18) (.tail _ (.tail _ (.tail _ (.tail _ (.tail _ (.tail _ (.tail _ (.tail _ (.tail _ (.tail _ (.tail _ (.tail _ (.tail _ (.tail _ (.tail _ (.head _)))))))))))))))) d18
                                                                         have hM' := hM
                                                                         obtain ⟨hk1, hX, hB⟩ := hM'
                                                                         obtain ⟨w2, hR, hO, hb⟩ := rs_put (n := 169) (L := L') (x := .tmp 133) (y := .tmp 125) RpcMay_z3 e133 e125 rfl hX (by simp)
                                                                         exact step_rs hR ⟨hI.skip (by simp), hk1.only hO (by omega), hb, hB.only hO hg3⟩
                                                                       refine ⟨?_, ?_⟩
                                                                       · rintro S L' wS hI hM hS0 ⟨d0, d1, d2, d3, d4, d5, d6, d7, d8, d9, -, -, d12, d13, d14, d15, d16, d17, d18, d19, -⟩
                                                                         have e3 := hI.1 3 (by simp)
                                                                         have hM' := hM
                                                                         obtain ⟨hk1, hX, hB⟩ := hM'
                                                                         exact step_ro (ro_fieldAddr RpcMay_f27_11 e3) ⟨hI.put hU35 (.tail _ (.tail _ (.tail _ (.tail _ (.tail _ (.tail _ (.tail _ (.tail _ (.tail _ (.tail _ (.tail _ (.tail _ (.tail _ (.tail _ (.tail _ (.tail _ (.head _))))))))))))))))), hM⟩
                                                                       refine ⟨?_, ?_⟩
                                                                       · rintro S L' wS hI hM hS0 ⟨d20, d9, d19, d0, d1, d2, d3, d4, d5, d6, d7, d8, d9, -, -, d12, d13, d14, d15, d16, d17, d18, d19, -⟩
                                                                         have e127 : look L' 127 = .string d := hI.get (i := 9) (.tail _ (.tail _ (.tail _ (.tail _ (.tail _ (.tail _ (.tail _ (.tail _ (.tail _ (.head _)))))))))) d9
                                                                         have e134 : look L' 134 = .pointer (some ⟨b3, 11, none⟩) := hI.get (i := 20) (.tail _ (.tail _ (.tail _ (.tail _ (.tail _ (.tail _ (.tail _ (.tail _ (.tail _ (.tail _ (.tail _ (.tail _ (.tail _ (.tail _ (.tail _ (.tail _ (.head _))))))))))))))))) d20
                                                                         have hM' := hM
                                                                         obtain ⟨hk1, hX, hB⟩ := hM'
                                                                         obtain ⟨w2, hR, hO, hb⟩ := rs_put (n := 169) (L := L') (x := .tmp 134) (y := .tmp 127) RpcMay_z9 e134 e127 rfl hX (by simp)
                                                                         exact step_rs hR ⟨hI.skip (by simp), hk1.only hO (by omega), hb, hB.only hO hg3⟩
                                                                       refine ⟨?_, ?_⟩
                                                                       · rintro S L' wS hI hM hS0 ⟨d0, d1, d2, d3, d4, d5, d6, d7, d8, d9, d10, d11, d12, d13, d14, d15, d16, d17, d18, d19, d20, d21, -⟩
                                                                         have e3 := hI.1 3 (by simp)
                                                                         have hM' := hM
                                                                         obtain ⟨hk1, hX, hB⟩ := hM'
                                                                         exact step_ro (ro_fieldAddr RpcMay_f27_12 e3) ⟨hI.put hU35 (.tail _ (.tail _ (.tail _ (.tail _ (.tail _ (.tail _ (.tail _ (.tail _ (.tail _ (.tail _ (.tail _ (.tail _ (.tail _ (.tail _ (.tail _ (.tail _ (.tail _ (.head _)))))))))))))))))), hM⟩
                                                                       refine ⟨?_, ?_⟩
                                                                       · rintro S L' wS hI hM hS0 ⟨d22, d11, d21, d0, d1, d2, d3, d4, d5, d6, d7, d8, d9, d10, d11, d12, d13, d14, d15, d16, d17, d18, d19, d20, d21, -⟩
                                                                         have e129 : look L' 129 = .bool dn := hI.get (i := 11) (.tail _ (.tail _ (.tail _ (.tail _ (.tail _ (.tail _ (.tail _ (.tail _ (.tail _ (.tail _ (.tail _ (.head _)))))))))))) d11
                                                                         have e135 : look L' 135 = .pointer (some ⟨b3, 12, none⟩) := hI.get (i := 22) (.tail _ (.tail _ (.tail _ (.tail _ (.tail _ (.tail _ (.tail _ (.tail _ (.tail _ (.tail _ (.tail _ (.tail _ (.tail _ (.tail _ (.tail _ (.tail _ (.tail _ (.head _)))))))))))))))))) d22
                                                                         have hM' := hM
                                                                         obtain ⟨hk1, hX, hB⟩ := hM'
                                                                         obtain ⟨w2, hR, hO, hb⟩ := rs_put (n := 169) (L := L') (x := .tmp 135) (y := .tmp 129) RpcMay_z4 e135 e129 rfl hX (by simp)
                                                                         exact step_rs hR ⟨hI.skip (by simp), hk1.only hO (by omega), hb, hB.only hO hg3⟩
                                                                       exact trivial
                                                                     · intro w36 hM
                                                                       obtain ⟨hk1, hX, hB⟩ := hM
                                                                       replace hX : Blk w36 b3 27 #[.int .i64 k, .int .i64 f, .int .i64 t, .int .i64 tm, .int .i64 ix, .int .i64 lt, .int .i64 0, .int .i64 rd, .bool false, .slice none 0 0, .int .i64 a, .string d, .bool dn] := hX
                                                                       refine nx_then ?_
                                                                       refine cd_seq ?_
                                                                       refine cd_region ?_
                                                                       refine st_val (ro_fieldAddr RpcMay_f27_4 rfl) ?_
                                                                       refine st_val (ro_load RpcMay_g3 rfl (by exact (hk1.from_ From.rfl_).rd 4 rfl)) ?_
                                                                       refine st_val (ro_eql rfl rfl) ?_
                                                                       refine st_val (ro_move (v := .bool _) rfl) ?_
                                                                       refine st_split (t := 139) rfl (fun Q37 => ?_) (fun Q37 => ?_)
                                                                       · (try first | replace Q37 := bn_t Q37 | replace Q37 := bn_f Q37)
                                                                         (try first | replace Q37 := bx_t Q37 | replace Q37 := bx_f Q37 | replace Q37 := be_t Q37 | replace Q37 := be_f Q37 | replace Q37 := of_decide_eq_true Q37 | replace Q37 := of_decide_eq_false Q37)
                                                                         first
                                                                          | (exfalso; first | omega | contradiction | (cases Q37; done))
                                                                          | skip
                                                                            refine st_gno rfl rfl ?_
                                                                            refine st_gno rfl rfl ?_
                                                                            refine st_gno rfl rfl ?_
                                                                            refine st_val (ro_pickT (v := .bool _) rfl rfl) ?_
                                                                            refine st_val (ro_move (v := .bool _) rfl) ?_
                                                                            refine st_gno rfl rfl ?_
                                                                            refine st_gno rfl rfl ?_
                                                                            refine st_gno rfl rfl ?_
                                                                            refine st_val (ro_pickT (v := .bool _) rfl rfl) ?_
                                                                            refine st_val (ro_move (v := .bool _) rfl) ?_
                                                                            refine st_gno rfl rfl ?_
                                                                            refine st_gno rfl rfl ?_
                                                                            refine st_gno rfl rfl ?_
                                                                            refine st_gno rfl rfl ?_
                                                                            refine st_val (ro_pickT (v := .bool _) rfl rfl) ?_
                                                                            refine st_nil ?_
                                                                            refine nx_then ?_
                                                                            refine cd_condT rfl ?_
                                                                            refine cd_seq ?_
                                                                            refine cd_region ?_
                                                                            refine st_val (ro_assign (v := .bool _) rfl) ?_
                                                                            refine st_nil ?_
                                                                            refine nx_then ?_
                                                                            refine cd_ret ?_
                                                                            refine rt_block ?_
                                                                            refine rt_then ?_
                                                                            refine res1 (v := .bool _) rfl rfl ?_
                                                                            exact ⟨congrArg Value.bool (decide_eq_false (fun h => by have h2 := h.2.2.2 (by omega); omega)).symm, hB⟩
                                                                       · (try first | replace Q37 := bn_t Q37 | replace Q37 := bn_f Q37)
                                                                         (try first | replace Q37 := bx_t Q37 | replace Q37 := bx_f Q37 | replace Q37 := be_t Q37 | replace Q37 := be_f Q37 | replace Q37 := of_decide_eq_true Q37 | replace Q37 := of_decide_eq_false Q37)
                                                                         first
                                                                          | (exfalso; first | omega | contradiction | (cases Q37; done))
                                                                          | skip
                                                                            refine st_unguard rfl ?_
                                                                            refine st_val (ro_fieldAddr RpcMay_f27_4 rfl) ?_
                                                                            refine st_unguard rfl ?_
                                                                            refine st_val (ro_load RpcMay_g3 rfl (by exact (hk1.from_ From.rfl_).rd 4 rfl)) ?_
                                                                            refine st_unguard rfl ?_
                                                                            refine st_val (ro_gtr rfl rfl) ?_
                                                                            refine st_val (ro_pickF (v := .bool _) rfl rfl) ?_
                                                                            refine st_val (ro_move (v := .bool _) rfl) ?_
                                                                            refine st_split (t := 144) rfl (fun Q38 => ?_) (fun Q38 => ?_)
                                                                            · (try first | replace Q38 := bn_t Q38 | replace Q38 := bn_f Q38)
                                                                              (try first | replace Q38 := bx_t Q38 | replace Q38 := bx_f Q38 | replace Q38 := be_t Q38 | replace Q38 := be_f Q38 | replace Q38 := of_decide_eq_true Q38 | replace Q38 := of_decide_eq_false Q38)
                                                                              first
                                                                               | (exfalso; first | omega | contradiction | (cases Q38; done))
                                                                               | skip
                                                                                 refine st_gno rfl rfl ?_
                                                                                 refine st_gno rfl rfl ?_
                                                                                 refine st_gno rfl rfl ?_
                                                                                 refine st_val (ro_pickT (v := .bool _) rfl rfl) ?_
                                                                                 refine st_val (ro_move (v := .bool _) rfl) ?_
                                                                                 refine st_gno rfl rfl ?_
                                                                                 refine st_gno rfl rfl ?_
                                                                                 refine st_gno rfl rfl ?_
                                                                                 refine st_gno rfl rfl ?_
                                                                                 refine st_val (ro_pickT (v := .bool _) rfl rfl) ?_
                                                                                 refine st_nil ?_
                                                                                 refine nx_then ?_
                                                                                 refine cd_condT rfl ?_
                                                                                 refine cd_seq ?_
                                                                                 refine cd_region ?_
                                                                                 refine st_val (ro_assign (v := .bool _) rfl) ?_
                                                                                 refine st_nil ?_
                                                                                 refine nx_then ?_
                                                                                 refine cd_ret ?_
                                                                                 refine rt_block ?_
                                                                                 refine rt_then ?_
                                                                                 refine res1 (v := .bool _) rfl rfl ?_
                                                                                 exact ⟨congrArg Value.bool (decide_eq_false (fun h => by have h2 := h.2.2.2 (by omega); omega)).symm, hB⟩
                                                                            · (try first | replace Q38 := bn_t Q38 | replace Q38 := bn_f Q38)
                                                                              (try first | replace Q38 := bx_t Q38 | replace Q38 := bx_f Q38 | replace Q38 := be_t Q38 | replace Q38 := be_f Q38 | replace Q38 := of_decide_eq_true Q38 | replace Q38 := of_decide_eq_false Q38)
                                                                              first
                                                                               | (exfalso; first | omega | contradiction | (cases Q38; done))
                                                                               | skip
                                                                                 refine st_unguard rfl ?_
                                                                                 refine st_val (ro_fieldAddr RpcMay_f27_10 rfl) ?_
                                                                                 refine st_unguard rfl ?_
                                                                                 refine st_val (ro_load RpcMay_g3 rfl (by exact (hk1.from_ From.rfl_).rd 10 rfl)) ?_
                                                                                 refine st_unguard rfl ?_
                                                                                 refine st_val (ro_gtr rfl rfl) ?_
                                                                                 refine st_val (ro_pickF (v := .bool _) rfl rfl) ?_
                                                                                 refine st_val (ro_move (v := .bool _) rfl) ?_
                                                                                 refine st_split (t := 149) rfl (fun Q39 => ?_) (fun Q39 => ?_)
                                                                                 · (try first | replace Q39 := bn_t Q39 | replace Q39 := bn_f Q39)
                                                                                   (try first | replace Q39 := bx_t Q39 | replace Q39 := bx_f Q39 | replace Q39 := be_t Q39 | replace Q39 := be_f Q39 | replace Q39 := of_decide_eq_true Q39 | replace Q39 := of_decide_eq_false Q39)
                                                                                   first
                                                                                    | (exfalso; first | omega | contradiction | (cases Q39; done))
                                                                                    | skip
                                                                                      refine st_gno rfl rfl ?_
                                                                                      refine st_gno rfl rfl ?_
                                                                                      refine st_gno rfl rfl ?_
                                                                                      refine st_gno rfl rfl ?_
                                                                                      refine st_val (ro_pickT (v := .bool _) rfl rfl) ?_
                                                                                      refine st_nil ?_
                                                                                      refine nx_then ?_
                                                                                      refine cd_condT rfl ?_
                                                                                      refine cd_seq ?_
                                                                                      refine cd_region ?_
                                                                                      refine st_val (ro_assign (v := .bool _) rfl) ?_
                                                                                      refine st_nil ?_
                                                                                      refine nx_then ?_
                                                                                      refine cd_ret ?_
                                                                                      refine rt_block ?_
                                                                                      refine rt_then ?_
                                                                                      refine res1 (v := .bool _) rfl rfl ?_
                                                                                      exact ⟨congrArg Value.bool (decide_eq_false (fun h => by have h2 := h.2.2.2 (by omega); omega)).symm, hB⟩
                                                                                 · (try first | replace Q39 := bn_t Q39 | replace Q39 := bn_f Q39)
                                                                                   (try first | replace Q39 := bx_t Q39 | replace Q39 := bx_f Q39 | replace Q39 := be_t Q39 | replace Q39 := be_f Q39 | replace Q39 := of_decide_eq_true Q39 | replace Q39 := of_decide_eq_false Q39)
                                                                                   first
                                                                                    | (exfalso; first | omega | contradiction | (cases Q39; done))
                                                                                    | skip
                                                                                      refine st_unguard rfl ?_
                                                                                      refine st_val (ro_fieldAddr RpcMay_f27_11 rfl) ?_
                                                                                      refine st_unguard rfl ?_
                                                                                      refine st_val (ro_load RpcMay_g9 rfl (by exact (hk1.from_ From.rfl_).rd 11 rfl)) ?_
                                                                                      refine st_unguard rfl ?_
                                                                                      refine st_val (ro_lenS (by kernel_rfl) rfl) ?_
                                                                                      refine st_unguard rfl ?_
                                                                                      refine st_val (ro_gtr rfl rfl) ?_
                                                                                      refine st_val (ro_pickF (v := .bool _) rfl rfl) ?_
                                                                                      refine st_nil ?_
                                                                                      refine nx_then ?_
                                                                                      refine cd_cond rfl (fun Q40 => ?_) (fun Q40 => ?_)
                                                                                      · (try first | replace Q40 := bn_t Q40 | replace Q40 := bn_f Q40)
                                                                                        (try first | replace Q40 := bx_t Q40 | replace Q40 := bx_f Q40 | replace Q40 := be_t Q40 | replace Q40 := be_f Q40 | replace Q40 := of_decide_eq_true Q40 | replace Q40 := of_decide_eq_false Q40)
                                                                                        first
                                                                                         | (exfalso; first | omega | contradiction | (cases Q40; done))
                                                                                         | skip
                                                                                           refine cd_seq ?_
                                                                                           refine cd_region ?_
                                                                                           refine st_val (ro_assign (v := .bool _) rfl) ?_
                                                                                           refine st_nil ?_
                                                                                           refine nx_then ?_
                                                                                           refine cd_ret ?_
                                                                                           refine rt_block ?_
                                                                                           refine rt_then ?_
                                                                                           refine res1 (v := .bool _) rfl rfl ?_
                                                                                           exact ⟨congrArg Value.bool (decide_eq_false (fun h => by have h2 := h.2.2.2 (by omega); omega)).symm, hB⟩
                                                                                      · (try first | replace Q40 := bn_t Q40 | replace Q40 := bn_f Q40)
                                                                                        (try first | replace Q40 := bx_t Q40 | replace Q40 := bx_f Q40 | replace Q40 := be_t Q40 | replace Q40 := be_f Q40 | replace Q40 := of_decide_eq_true Q40 | replace Q40 := of_decide_eq_false Q40)
                                                                                        have hsn : SnpR k ix a d := fun _ => by omega
                                                                                        first
                                                                                         | (exfalso; first | omega | contradiction | (cases Q40; done))
                                                                                         | skip
                                                                                           refine cd_skip ?_
                                                                                           refine nx_block ?_
                                                                                           refine nx_cut (((ix, lt, 0, rd), false, (none, 0, 0, []), a, d, dn)) trivial (by (iterate 52 refine agr_cons rfl ?_); exact agr_rfl) ?_
                                                                                           refine ⟨hX.from_ From.rfl_, hk1.from_ From.rfl_, Ents.nil_ _, rfl, by simp, ?_, hB⟩
                                                                                           rw [okR_iff hnm hap hsn]
                                                                                           simp only [nil_len, size0', bool0', true_and, and_true]
                                                                                           unfold ExR
                                                                                           rw [if_neg (by omega), if_neg (by omega), if_neg (by omega), if_neg (by omega), if_pos (by omega)]
                                                                                           first | done | omega
                                                                · (try first | replace Q34 := bn_t Q34 | replace Q34 := bn_f Q34)
                                                                  (try first | replace Q34 := bx_t Q34 | replace Q34 := bx_f Q34 | replace Q34 := be_t Q34 | replace Q34 := be_f Q34 | replace Q34 := of_decide_eq_true Q34 | replace Q34 := of_decide_eq_false Q34)
                                                                  first
                                                                   | (exfalso; first | omega | contradiction | (cases Q34; done))
                                                                   | skip
                                                                     refine cd_seq ?_
                                                                     refine cd_region ?_
                                                                     refine st_val (ro_eql rfl rfl) ?_
                                                                     refine st_val (ro_assign (v := .bool _) rfl) ?_
                                                                     refine st_nil ?_
                                                                     refine nx_then ?_
                                                                     refine cd_cond rfl (fun Q41 => ?_) (fun Q41 => ?_)
                                                                     · (try first | replace Q41 := bn_t Q41 | replace Q41 := bn_f Q41)
                                                                       (try first | replace Q41 := bx_t Q41 | replace Q41 := bx_f Q41 | replace Q41 := be_t Q41 | replace Q41 := be_f Q41 | replace Q41 := of_decide_eq_true Q41 | replace Q41 := of_decide_eq_false Q41)
                                                                       have hap : AppR k ix lt es := fun h => by omega
                                                                       have hsn : SnpR k ix a d := fun h => by omega
                                                                       have hnm : NumR k f t tm ix lt cm rd a := by unfold NumR; omega
                                                                       first
                                                                        | (exfalso; first | omega | contradiction | (cases Q41; done))
                                                                        | skip
                                                                          have hU42 : UniT [(0, 157, .pointer (some ⟨b1, 4, none⟩)), (1, 158, .int .i64 ix), (2, 159, .pointer (some ⟨b1, 10, none⟩)), (3, 160, .int .i64 a), (4, 161, .pointer (some ⟨b1, 7, none⟩)), (5, 162, .int .i64 rd), (6, 163, .pointer (some ⟨b3, 4, none⟩)), (8, 164, .pointer (some ⟨b3, 10, none⟩)), (10, 165, .pointer (some ⟨b3, 7, none⟩))] := by simp [UniT]
                                                                          refine cd_invT [(0, 157, .pointer (some ⟨b1, 4, none⟩)), (1, 158, .int .i64 ix), (2, 159, .pointer (some ⟨b1, 10, none⟩)), (3, 160, .int .i64 a), (4, 161, .pointer (some ⟨b1, 7, none⟩)), (5, 162, .int .i64 rd), (6, 163, .pointer (some ⟨b3, 4, none⟩)), (8, 164, .pointer (some ⟨b3, 10, none⟩)), (10, 165, .pointer (some ⟨b3, 7, none⟩))] (fun S w' => Blk w' b1 27 #[.int .i64 k, .int .i64 f, .int .i64 t, .int .i64 tm, .int .i64 ix, .int .i64 lt, .int .i64 cm, .int .i64 rd, .bool ok, .slice E n c, .int .i64 a, .string d, .bool dn] ∧ Blk w' b3 27 #[.int .i64 k, .int .i64 f, .int .i64 t, .int .i64 tm, bif S 7 then .int .i64 ix else .int .i64 0, .int .i64 0, .int .i64 0, bif S 11 then .int .i64 rd else .int .i64 0, .bool false, .slice none 0 0, bif S 9 then .int .i64 a else .int .i64 0, .string ⟨#[]⟩, .bool false] ∧ From w w') (by kernel_rfl) (by kernel_rfl) hU42 (by simp) (⟨hk1.from_ From.rfl_.d1, hX.from_ From.rfl_.d1, ((((From.rfl_.next E1).next E3).only O1 (hg3))).d1⟩) ?_ ?_
                                                                          · refine ⟨?_, ?_⟩
                                                                            · rintro S L' wS hI hM hS0 ⟨-⟩
                                                                              have e1 := hI.1 1 (by simp)
                                                                              have hM' := hM
                                                                              obtain ⟨hk1, hX, hB⟩ := hM'
                                                                              exact step_ro (ro_fieldAddr RpcMay_f27_4 e1) ⟨hI.put hU42 (.head _), hM⟩
                                                                            refine ⟨?_, ?_⟩
                                                                            · rintro S L' wS hI hM hS0 ⟨d0, -⟩
                                                                              have e157 : look L' 157 = .pointer (some ⟨b1, 4, none⟩) := hI.get (i := 0) (.head _) d0
                                                                              have hM' := hM
                                                                              obtain ⟨hk1, hX, hB⟩ := hM'
                                                                              exact step_ro (ro_load RpcMay_g3 e157 (by exact hk1.rd 4 rfl)) ⟨hI.put hU42 (.tail _ (.head _)), hM⟩
                                                                            refine ⟨?_, ?_⟩
                                                                            · rintro S L' wS hI hM hS0 ⟨-, -⟩
                                                                              have e1 := hI.1 1 (by simp)
                                                                              have hM' := hM
                                                                              obtain ⟨hk1, hX, hB⟩ := hM'
                                                                              exact step_ro (ro_fieldAddr RpcMay_f27_10 e1) ⟨hI.put hU42 (.tail _ (.tail _ (.head _))), hM⟩
                                                                            refine ⟨?_, ?_⟩
                                                                            · rintro S L' wS hI hM hS0 ⟨d2, -, -⟩
                                                                              have e159 : look L' 159 = .pointer (some ⟨b1, 10, none⟩) := hI.get (i := 2) (.tail _ (.tail _ (.head _))) d2
                                                                              have hM' := hM
                                                                              obtain ⟨hk1, hX, hB⟩ := hM'
                                                                              exact step_ro (ro_load RpcMay_g3 e159 (by exact hk1.rd 10 rfl)) ⟨hI.put hU42 (.tail _ (.tail _ (.tail _ (.head _)))), hM⟩
                                                                            refine ⟨?_, ?_⟩
                                                                            · rintro S L' wS hI hM hS0 ⟨-, -⟩
                                                                              have e1 := hI.1 1 (by simp)
                                                                              have hM' := hM
                                                                              obtain ⟨hk1, hX, hB⟩ := hM'
                                                                              exact step_ro (ro_fieldAddr RpcMay_f27_7 e1) ⟨hI.put hU42 (.tail _ (.tail _ (.tail _ (.tail _ (.head _))))), hM⟩
                                                                            refine ⟨?_, ?_⟩
                                                                            · rintro S L' wS hI hM hS0 ⟨d4, -, -⟩
                                                                              have e161 : look L' 161 = .pointer (some ⟨b1, 7, none⟩) := hI.get (i := 4) (.tail _ (.tail _ (.tail _ (.tail _ (.head _))))) d4
                                                                              have hM' := hM
                                                                              obtain ⟨hk1, hX, hB⟩ := hM'
                                                                              exact step_ro (ro_load RpcMay_g3 e161 (by exact hk1.rd 7 rfl)) ⟨hI.put hU42 (.tail _ (.tail _ (.tail _ (.tail _ (.tail _ (.head _)))))), hM⟩
                                                                            refine ⟨?_, ?_⟩
                                                                            · rintro S L' wS hI hM hS0 ⟨d0, d1, -, -, -, -, -⟩
                                                                              have e3 := hI.1 3 (by simp)
                                                                              have hM' := hM
                                                                              obtain ⟨hk1, hX, hB⟩ := hM'
                                                                              exact step_ro (ro_fieldAddr RpcMay_f27_4 e3) ⟨hI.put hU42 (.tail _ (.tail _ (.tail _ (.tail _ (.tail _ (.tail _ (.head _))))))), hM⟩
                                                                            refine ⟨?_, ?_⟩
                                                                            · rintro S L' wS hI hM hS0 ⟨d6, d1, d0, d1, -, -, -, -, -⟩
                                                                              have e158 : look L' 158 = .int .i64 ix := hI.get (i := 1) (.tail _ (.head _)) d1
                                                                              have e163 : look L' 163 = .pointer (some ⟨b3, 4, none⟩) := hI.get (i := 6) (.tail _ (.tail _ (.tail _ (.tail _ (.tail _ (.tail _ (.head _))))))) d6
                                                                              have hM' := hM
                                                                              obtain ⟨hk1, hX, hB⟩ := hM'
                                                                              obtain ⟨w2, hR, hO, hb⟩ := rs_put (n := 169) (L := L') (x := .tmp 163) (y := .tmp 158) RpcMay_z3 e163 e158 rfl hX (by simp)
                                                                              exact step_rs hR ⟨hI.skip (by simp), hk1.only hO (by omega), hb, hB.only hO hg3⟩
                                                                            refine ⟨?_, ?_⟩
                                                                            · rintro S L' wS hI hM hS0 ⟨d0, d1, d2, d3, -, -, d6, d7, -⟩
                                                                              have e3 := hI.1 3 (by simp)
                                                                              have hM' := hM
                                                                              obtain ⟨hk1, hX, hB⟩ := hM'
                                                                              exact step_ro (ro_fieldAddr RpcMay_f27_10 e3) ⟨hI.put hU42 (.tail _ (.tail _ (.tail _ (.tail _ (.tail _ (.tail _ (.tail _ (.head _)))))))), hM⟩
                                                                            refine ⟨?_, ?_⟩
                                                                            · rintro S L' wS hI hM hS0 ⟨d8, d3, d7, d0, d1, d2, d3, -, -, d6, d7, -⟩
                                                                              have e160 : look L' 160 = .int .i64 a := hI.get (i := 3) (.tail _ (.tail _ (.tail _ (.head _)))) d3
                                                                              have e164 : look L' 164 = .pointer (some ⟨b3, 10, none⟩) := hI.get (i := 8) (.tail _ (.tail _ (.tail _ (.tail _ (.tail _ (.tail _ (.tail _ (.head _)))))))) d8
                                                                              have hM' := hM
                                                                              obtain ⟨hk1, hX, hB⟩ := hM'
                                                                              obtain ⟨w2, hR, hO, hb⟩ := rs_put (n := 169) (L := L') (x := .tmp 164) (y := .tmp 160) RpcMay_z3 e164 e160 rfl hX (by simp)
                                                                              exact step_rs hR ⟨hI.skip (by simp), hk1.only hO (by omega), hb, hB.only hO hg3⟩
                                                                            refine ⟨?_, ?_⟩
                                                                            · rintro S L' wS hI hM hS0 ⟨d0, d1, d2, d3, d4, d5, d6, d7, d8, d9, -⟩
                                                                              have e3 := hI.1 3 (by simp)
                                                                              have hM' := hM
                                                                              obtain ⟨hk1, hX, hB⟩ := hM'
                                                                              exact step_ro (ro_fieldAddr RpcMay_f27_7 e3) ⟨hI.put hU42 (.tail _ (.tail _ (.tail _ (.tail _ (.tail _ (.tail _ (.tail _ (.tail _ (.head _))))))))), hM⟩
                                                                            refine ⟨?_, ?_⟩
                                                                            · rintro S L' wS hI hM hS0 ⟨d10, d5, d9, d0, d1, d2, d3, d4, d5, d6, d7, d8, d9, -⟩
                                                                              have e162 : look L' 162 = .int .i64 rd := hI.get (i := 5) (.tail _ (.tail _ (.tail _ (.tail _ (.tail _ (.head _)))))) d5
                                                                              have e165 : look L' 165 = .pointer (some ⟨b3, 7, none⟩) := hI.get (i := 10) (.tail _ (.tail _ (.tail _ (.tail _ (.tail _ (.tail _ (.tail _ (.tail _ (.head _))))))))) d10
                                                                              have hM' := hM
                                                                              obtain ⟨hk1, hX, hB⟩ := hM'
                                                                              obtain ⟨w2, hR, hO, hb⟩ := rs_put (n := 169) (L := L') (x := .tmp 165) (y := .tmp 162) RpcMay_z3 e165 e162 rfl hX (by simp)
                                                                              exact step_rs hR ⟨hI.skip (by simp), hk1.only hO (by omega), hb, hB.only hO hg3⟩
                                                                            exact trivial
                                                                          · intro w43 hM
                                                                            obtain ⟨hk1, hX, hB⟩ := hM
                                                                            replace hX : Blk w43 b3 27 #[.int .i64 k, .int .i64 f, .int .i64 t, .int .i64 tm, .int .i64 ix, .int .i64 0, .int .i64 0, .int .i64 rd, .bool false, .slice none 0 0, .int .i64 a, .string ⟨#[]⟩, .bool false] := hX
                                                                            refine nx_block ?_
                                                                            refine nx_cut (((ix, 0, 0, rd), false, (none, 0, 0, []), a, ⟨#[]⟩, false)) trivial (by (iterate 23 refine agr_cons rfl ?_); exact agr_rfl) ?_
                                                                            refine ⟨hX.from_ From.rfl_, hk1.from_ From.rfl_, Ents.nil_ _, rfl, by simp, ?_, hB⟩
                                                                            rw [okR_iff hnm hap hsn]
                                                                            simp only [nil_len, size0', bool0', true_and, and_true]
                                                                            unfold ExR
                                                                            rw [if_neg (by omega), if_neg (by omega), if_neg (by omega), if_neg (by omega), if_neg (by omega), if_pos (by omega)]
                                                                            first | done | omega
                                                                     · (try first | replace Q41 := bn_t Q41 | replace Q41 := bn_f Q41)
                                                                       (try first | replace Q41 := bx_t Q41 | replace Q41 := bx_f Q41 | replace Q41 := be_t Q41 | replace Q41 := be_f Q41 | replace Q41 := of_decide_eq_true Q41 | replace Q41 := of_decide_eq_false Q41)
                                                                       first
                                                                        | (exfalso; first | omega | contradiction | (cases Q41; done))
                                                                        | skip
                                                                          refine cd_seq ?_
                                                                          refine cd_region ?_
                                                                          refine st_val (ro_assign (v := .bool _) rfl) ?_
                                                                          refine st_nil ?_
                                                                          refine nx_then ?_
                                                                          refine cd_ret ?_
                                                                          refine rt_block ?_
                                                                          refine rt_then ?_
                                                                          refine res1 (v := .bool _) rfl rfl ?_
                                                                          exact ⟨congrArg Value.bool (decide_eq_false (fun h => by have h1 := h.1; unfold NumR at h1; omega)).symm, (((From.rfl_.next E1).next E3).only O1 (hg3))⟩
                                          · rintro ⟨⟨ix', lt', cm', rd'⟩, ok', ⟨E', n', c', es'⟩, a', d', dn'⟩ ρ44 w44 ⟨hX, hk1, heX, hnX, hlX, hiff, hB⟩
                                            refine cd_seq ?_
                                            refine cd_region ?_
                                            refine st_val (ro_loadA (cs := [_, _, _, _, _, _, _, _, _, _, _, _, _]) RpcMay_g27 RpcMay_z27 rfl (by exact hX.whole)) ?_
                                            refine st_val (ro_loadA (cs := [_, _, _, _, _, _, _, _, _, _, _, _, _]) RpcMay_g27 RpcMay_z27 rfl (by exact hk1.whole)) ?_
                                            refine st_call RpcMay_k9 (eqRpc_g k f t tm ix' lt' cm' rd' ok' E' n' c' a' d' dn' k f t tm ix lt cm rd ok E n c a d dn _ es' es hnX hn heX (he.from_ hB) (by omega)) ?_
                                            rintro v168 w45 ⟨rfl, E168⟩
                                            refine st_val (ro_assign (v := .bool _) rfl) ?_
                                            refine st_nil ?_
                                            refine nx_then ?_
                                            refine cd_ret ?_
                                            refine res1 (v := .bool _) rfl rfl ?_
                                            refine ⟨congrArg Value.bool ?_, (hB.next E168)⟩
                                            rw [decide_eq_decide, ← hiff]
                                            constructor
                                            · rintro ⟨-, -, -, -, e5, e6, e7, e8, e9, e10, e11, e12, e13⟩
                                              exact ⟨e5, e6, e7, e8, e9, e10, e11, e12, e13⟩
                                            · rintro ⟨e5, e6, e7, e8, e9, e10, e11, e12, e13⟩
                                              exact ⟨rfl, rfl, rfl, rfl, e5, e6, e7, e8, e9, e10, e11, e12, e13⟩
end Go.Proofs.YtjliefglelcooaaDoor
