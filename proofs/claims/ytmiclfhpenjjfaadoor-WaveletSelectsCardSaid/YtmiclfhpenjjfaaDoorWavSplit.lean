/- wavelet: the methods of a level; split. -/
import Derived.Test.YtmiclfhpenjjfaaDoorWavWalks
namespace Go.Proofs.YtmiclfhpenjjfaaDoor
open Go.RowKit
open Go.ChangeShapes Go.WideShapes Go.ChangeAt
theorem WavSplit_e22 : elemQ Tryd.prog 22 = some (3, 1) := by kernel_rfl
theorem WavSplit_e65 : elemQ Tryd.prog 65 = some (4, 1) := by kernel_rfl
theorem WavSplit_m22 : makeQ Tryd.prog 22 = some (3, 8, (.int .i64 0)) := by kernel_rfl
theorem WavSplit_f49_0 : fieldQ Tryd.prog 49 0 = some 0 := by kernel_rfl
theorem WavSplit_g47 : aggQ Tryd.prog 47 = some false := by kernel_rfl
theorem WavSplit_k44 : callable Tryd.prog 44 = true := by kernel_rfl
theorem WavSplit_g49 : aggQ Tryd.prog 49 = some true := by kernel_rfl
theorem WavSplit_z49 : sizeQ Tryd.prog 49 = some 3 := by kernel_rfl
theorem WavSplit_k37 : callable Tryd.prog 37 = true := by kernel_rfl
theorem WavSplit_f49_1 : fieldQ Tryd.prog 49 1 = some 1 := by kernel_rfl
theorem WavSplit_g3 : aggQ Tryd.prog 3 = some false := by kernel_rfl
theorem WavSplit_f49_2 : fieldQ Tryd.prog 49 2 = some 2 := by kernel_rfl
theorem WavSplit_g4 : aggQ Tryd.prog 4 = some false := by kernel_rfl
theorem WavSplit_o49 : zeroQ Tryd.prog 49 = some (.agg #[.pointer none, .int .i64 0, .int .i64 0]) := by kernel_rfl
theorem WavSplit_l22 : (elemQ Tryd.prog 22).isSome = true := by kernel_rfl
theorem WavSplit_m65 : makeQ Tryd.prog 65 = some (4, 1, (.bool false)) := by kernel_rfl
theorem WavSplit_z4 : sizeQ Tryd.prog 4 = some 1 := by kernel_rfl
theorem WavSplit_q22 : litQ Tryd.prog 22 = some (3, 1, 8, (.int .i64 0)) := by kernel_rfl
theorem WavSplit_k36 : callable Tryd.prog 36 = true := by kernel_rfl
theorem WavSplit_b49_0_1_2 : ∀ (a0 : Option Addr) (a1 : Int) (a2 : Int), Tryd.prog.built 49 [(0, .pointer a0), (1, .int .i64 a1), (2, .int .i64 a2)] = some #[.pointer a0, .int .i64 a1, .int .i64 a2] := by intros; kernel_rfl
theorem and_one_bit (s c : Nat) : ((((c / 2 ^ s &&& 1 : Nat) : Int)) == 1) = bitN s c := by
  rw [Nat.and_one_is_mod]
  unfold bitN
  generalize c / 2 ^ s % 2 = r
  rw [Bool.eq_iff_iff]
  simp only [beq_iff_eq, decide_eq_true_eq]
  omega
theorem rB_in {l : List Bool} {i : Nat} (h : i ≤ l.length) : rB l (i : Nat) = (rk l i : Nat) := by
  unfold rB
  rw [if_pos (by omega)]
  simp
theorem ones_le (s : Nat) (M : List Nat) (i : Nat) : (onesL s (M.take i)).length ≤ i := by
  have := zo_len s (M.take i)
  rw [List.length_take] at this
  omega
section
variable {P : Program} {ops : Array Oper} {Q : Exit → Act → World → Prop} {rest : List Oper} {n : Nat} {L : List (Nat × Value)} {w : World} {ty : TypeId} {pos : String} {after : Array Edge} {d : Nat} {t : TypeId} {x y : Operand}
theorem st_make0 {e by_ m base : Nat} {z : Value} {kl kc : IntKind} (ht : makeQ P t = some (e, by_, z)) (hz : z.cells = #[z]) (hx : ev n L x = .int kl 0) (hy : ev n L y = .int kc (m : Nat)) (hm : m ≤ 9007199254740992) (hb : by_ * m ≤ 281474976710656) (hbs : base ≤ w.heap.size)
    (k : ∀ g w', From w w' → g = w.heap.size → w'.ownsRow base e 1 (.slice (some ⟨g, 0, none⟩) 0 m) 0 [] → St P ops Q rest n ((d, .slice (some ⟨g, 0, none⟩) 0 m) :: L) w') : St P ops Q (⟨some d, .makeSlice t x y, ty, pos, after, none⟩ :: rest) n L w := by
  unfold makeQ at ht
  split at ht
  · rename_i e' hu
    cases hi : P.info? e' with
    | none => simp [hi] at ht
    | some i =>
      rw [hi] at ht
      simp only [Option.bind_some] at ht
      split at ht
      · rename_i hs
        cases hzz : i.zero with
        | none => simp [hzz] at ht
        | some z' =>
          simp only [hzz, Option.map_some, Option.some.injEq, Prod.mk.injEq] at ht
          obtain ⟨rfl, rfl, rfl⟩ := ht
          have hr := run_make (P := P) w t e' i z' hu hi hzz kl kc 0 (m : Int) (by omega) (by omega) (by
            have : ((i.bytes * m : Nat) : Int) ≤ 281474976710656 := by omega
            rwa [Int.natCast_mul] at this) (by omega)
          rw [Int.toNat_natCast] at hr
          refine st_val (v := .slice (some ⟨w.heap.size, 0, none⟩) 0 m) (w' := w.alloc (.cells (madeCells z'.cells (m * i.size)) e')) (fun _ _ _ _ _ => ?_) (k _ _ (From.rfl_.new _) rfl ⟨by simp, .inr ⟨w.heap.size, m, _, rfl, hbs, heap_alloc_new w _, Nat.zero_le _, by unfold maxLen; omega, by simp [madeCells, hs], by simp⟩⟩)
          simp [execOp, hx, hy, hr]
      · cases ht
  · cases ht
end
def lvlV (v z s : Nat) : List Value := [.pointer (some ⟨v, 0, none⟩), .int .i64 (z : Nat), .int .i64 (s : Nat)]
set_option maxRecDepth 100000 in
set_option maxHeartbeats 400000 in
theorem rank_l (base v z s i : Nat) (M : List Nat) (w : World) (hv : Vec w base v (M.map (bitN s))) (hi : i ≤ M.length) (hz : z = (zerosL s M).length) (hM : M.length ≤ 131072) :
    Rt Tryd.prog 37 [.agg (lvlV v z s).toArray, .int .i64 (i : Nat)] w (fun v w' => v = .int .i64 ((onesL s (M.take i)).length : Nat) ∧ From w w') := by
  refine enter (n := 15) Tryd.func37 rfl rfl rfl ?_
  refine cd_seq ?_
  refine cd_region ?_
  refine st_box (v := .agg _) rfl ?_
  intro b2 w1 E2 hb2 hk2
  refine st_val (ro_assign (v := .int _ _) rfl) ?_
  refine st_nil ?_
  refine nx_then ?_
  refine cd_seq ?_
  refine cd_region ?_
  refine st_val (ro_fieldAddr WavSplit_f49_0 rfl) ?_
  refine st_val (ro_load WavSplit_g47 rfl (by exact (hk2.from_ From.rfl_).rd 0 rfl)) ?_
  refine st_val (ro_move (v := .int _ _) rfl) ?_
  refine st_call WavSplit_k44 (rank_rt base v (i : Nat) (M.map (bitN s)) _ (hv.from_ (From.rfl_.next E2))) ?_
  rintro v11 w2 ⟨rfl, E11⟩
  refine st_val (ro_move (v := .tuple _) rfl) ?_
  refine st_val (ro_extract rfl rfl) ?_
  refine st_val (ro_extract rfl rfl) ?_
  refine st_val (ro_assign (v := .int _ _) rfl) ?_
  refine st_val (ro_assign (v := .int _ _) rfl) ?_
  refine st_nil ?_
  refine nx_then ?_
  refine cd_seq ?_
  refine cd_region ?_
  refine st_val (ro_move (v := .int _ _) rfl) ?_
  refine st_val (ro_assign (v := .int _ _) rfl) ?_
  refine st_nil ?_
  refine nx_then ?_
  refine cd_ret ?_
  refine res1 (v := .int _ _) rfl rfl ?_
  exact ⟨int_eq (by rw [rB_in (by rw [List.length_map]; exact hi), rk_ones s M i hi]), ((From.rfl_.next E2).next E11)⟩
set_option maxRecDepth 100000 in
set_option maxHeartbeats 400000 in
theorem down_l (base v z s i : Nat) (M : List Nat) (w : World) (hv : Vec w base v (M.map (bitN s))) (hi : i ≤ M.length) (hz : z = (zerosL s M).length) (hM : M.length ≤ 131072) (b : Bool) :
    Rt Tryd.prog 29 [.agg (lvlV v z s).toArray, .int .i64 (i : Nat), .bool b] w (fun v w' => v = .int .i64 (downN s M i b : Nat) ∧ From w w') := by
  refine enter (n := 19) Tryd.func29 rfl rfl rfl ?_
  refine cd_seq ?_
  refine cd_region ?_
  refine st_box (v := .agg _) rfl ?_
  intro b3 w1 E3 hb3 hk3
  refine st_val (ro_assign (v := .int _ _) rfl) ?_
  refine st_nil ?_
  refine nx_then ?_
  refine cd_seq ?_
  refine cd_region ?_
  refine st_val (ro_loadA (cs := [_, _, _]) WavSplit_g49 WavSplit_z49 rfl (by exact (hk3.from_ From.rfl_).whole)) ?_
  refine st_val (ro_move (v := .int _ _) rfl) ?_
  refine st_call WavSplit_k37 (rank_l base v z s i M _ (hv.from_ (From.rfl_.next E3)) hi hz hM) ?_
  rintro v10 w2 ⟨rfl, E10⟩
  refine st_val (ro_assign (v := .int _ _) rfl) ?_
  refine st_nil ?_
  refine nx_then ?_
  refine cd_seq ?_
  refine cd_seq ?_
  refine cd_region ?_
  refine st_val (ro_move (v := .bool _) rfl) ?_
  refine st_nil ?_
  refine nx_then ?_
  refine cd_cond rfl (fun Q3 => ?_) (fun Q3 => ?_)
  · (try first | replace Q3 := bn_t Q3 | replace Q3 := bn_f Q3)
    (try first | replace Q3 := bx_t Q3 | replace Q3 := bx_f Q3 | replace Q3 := be_t Q3 | replace Q3 := be_f Q3 | replace Q3 := of_decide_eq_true Q3 | replace Q3 := of_decide_eq_false Q3)
    refine cd_seq ?_
    refine cd_region ?_
    refine st_val (ro_fieldAddr WavSplit_f49_1 rfl) ?_
    refine st_val (ro_load WavSplit_g3 rfl (by exact (hk3.from_ (From.rfl_.next E10)).rd 1 rfl)) ?_
    refine st_val (ro_move (v := .int _ _) rfl) ?_
    refine st_val (ro_addN rfl rfl (by have := zo_len s M; have := ones_le s M i; omega)) ?_
    refine st_val (ro_assign (v := .int _ _) rfl) ?_
    refine st_nil ?_
    refine nx_then ?_
    refine cd_ret ?_
    refine rt_then ?_
    refine res1 (v := .int _ _) rfl rfl ?_
    refine ⟨int_eq ?_, ((From.rfl_.next E3).next E10)⟩
    unfold downN
    first | rw [if_pos (by assumption), hz] | (simp_all; done)
  · (try first | replace Q3 := bn_t Q3 | replace Q3 := bn_f Q3)
    (try first | replace Q3 := bx_t Q3 | replace Q3 := bx_f Q3 | replace Q3 := be_t Q3 | replace Q3 := be_f Q3 | replace Q3 := of_decide_eq_true Q3 | replace Q3 := of_decide_eq_false Q3)
    refine cd_skip ?_
    refine nx_then ?_
    refine cd_seq ?_
    refine cd_region ?_
    refine st_val (ro_move (v := .int _ _) rfl) ?_
    refine st_val (ro_move (v := .int _ _) rfl) ?_
    refine st_val (ro_subN rfl rfl (by have := ones_le s M i; omega)) ?_
    refine st_val (ro_assign (v := .int _ _) rfl) ?_
    refine st_nil ?_
    refine nx_then ?_
    refine cd_ret ?_
    refine res1 (v := .int _ _) rfl rfl ?_
    refine ⟨int_eq ?_, ((From.rfl_.next E3).next E10)⟩
    unfold downN
    first | rw [if_neg (by simp_all)] | (simp_all; done)
set_option maxRecDepth 100000 in
set_option maxHeartbeats 400000 in
theorem one_l (v z s c : Nat) (w : World) (hs : s ≤ 9) (hc : c < 1024) :
    Rt Tryd.prog 23 [.agg (lvlV v z s).toArray, .int .i64 (c : Nat)] w (fun v w' => v = .bool (bitN s c) ∧ From w w') := by
  refine enter (n := 11) Tryd.func23 rfl rfl rfl ?_
  refine cd_seq ?_
  refine cd_region ?_
  refine st_box (v := .agg _) rfl ?_
  intro b2 w1 E2 hb2 hk2
  refine st_val (ro_assign (v := .bool _) rfl) ?_
  refine st_nil ?_
  refine nx_then ?_
  refine cd_seq ?_
  refine cd_region ?_
  refine st_val (ro_move (v := .int _ _) rfl) ?_
  refine st_val (ro_fieldAddr WavSplit_f49_2 rfl) ?_
  refine st_val (ro_load WavSplit_g3 rfl (by exact (hk2.from_ From.rfl_).rd 2 rfl)) ?_
  refine st_val (ro_shrN rfl rfl (by show s ≤ 64; omega)) ?_
  refine st_val (ro_andI (b := 1) rfl rfl ⟨by have := Nat.div_le_self c (2 ^ s); omega, by decide⟩) ?_
  refine st_val (ro_eql rfl rfl) ?_
  refine st_val (ro_assign (v := .bool _) rfl) ?_
  refine st_nil ?_
  refine nx_then ?_
  refine cd_ret ?_
  refine res1 (v := .bool _) rfl rfl ?_
  exact ⟨congrArg Value.bool (and_one_bit s c), (From.rfl_.next E2)⟩
/-- the bits, as far as they are known -/
def bitsTo (s : Nat) (L : List Nat) (i : Nat) : List Bool := (L.take i).map (bitN s) ++ List.replicate (L.length - i) false
theorem bitsTo_len {s : Nat} {L : List Nat} {i : Nat} (h : i ≤ L.length) : (bitsTo s L i).length = L.length := by simp [bitsTo]; omega
theorem bitsTo_set {s : Nat} {L : List Nat} {i : Nat} (h : i < L.length) : (bitsTo s L i).set i (bitN s L[i]) = bitsTo s L (i + 1) := by
  unfold bitsTo
  have e : ((L.take i).map (bitN s)).length = i := by simp; omega
  rw [List.set_append_right _ _ (by omega), e, Nat.sub_self, show L.length - i = (L.length - (i + 1)) + 1 by omega, List.replicate_succ, List.set_cons_zero, List.take_succ_eq_append_getElem h, List.map_append]
  simp
theorem bitsTo_all {s : Nat} {L : List Nat} : bitsTo s L L.length = L.map (bitN s) := by simp [bitsTo]
theorem zeros_succ {s : Nat} {L : List Nat} {i : Nat} (h : i < L.length) : zerosL s (L.take (i + 1)) = zerosL s (L.take i) ++ if bitN s L[i] then [] else [L[i]] := by
  rw [List.take_succ_eq_append_getElem h, zeros_app]
  congr 1
  unfold zerosL
  cases hb : bitN s L[i] <;> simp [hb]
theorem ones_succ {s : Nat} {L : List Nat} {i : Nat} (h : i < L.length) : onesL s (L.take (i + 1)) = onesL s (L.take i) ++ if bitN s L[i] then [L[i]] else [] := by
  rw [List.take_succ_eq_append_getElem h, ones_app]
  congr 1
  unfold onesL
  cases hb : bitN s L[i] <;> simp [hb]
theorem boV_map (l : List Bool) (i : Nat) (h : i < l.length) : (l.map boV).toArray[i]? = some (boV l[i]) := by simp [h]
theorem bo_set {l : List Bool} (i : Nat) (x : Bool) : ((l.map boV).toArray.setIfInBounds i (boV x)) = ((l.set i x).map boV).toArray := by
  rw [List.setIfInBounds_toArray, List.map_set]
theorem bits_at {s : Nat} {L : List Nat} {i : Nat} (h : i < L.length) : ((bitsTo s L (i + 1)).map boV).toArray[i]? = some (boV (bitN s L[i])) := by
  rw [← bitsTo_set h, boV_map _ i (by rw [List.length_set, bitsTo_len (by omega)]; exact h), List.getElem_set_self]
theorem bits_full {s : Nat} {L : List Nat} {i : Nat} (h : i < L.length) : ((L.map (bitN s)).map boV).toArray[i]? = some (boV (bitN s L[i])) := by
  rw [boV_map _ i (by rw [List.length_map]; exact h), List.getElem_map]
theorem new_n (A : Option Addr) (c n : Nat) (l : List Bool) (w : World) (hn : n = l.length) (hr : RowOf boV w A l) (hl : n ≤ 1048576) : Rt Tryd.prog 36 [.slice A n c] w fun v w' => ∃ b, v = .tuple #[.pointer (some ⟨b, 0, none⟩), .int .i64 0] ∧ Vec w' w.heap.size b l ∧ From w w' := by
  subst hn
  exact new_rt A c l w hr hl
theorem repl_bo (n : Nat) : (List.replicate n (Value.bool false)).toArray = ((List.replicate n false).map boV).toArray := by rw [List.map_replicate]
theorem own_offB {w : World} {base e s n c m g t : Nat} {A : Option Addr} {xs : List Value} {cs : Array Value} (h : w.ownsRow base e s (.slice A n c) m xs) (hb : Blk w g t cs) (hne : t ≠ e) : ∀ k, A.map (·.block) = some k → k ≠ g := own_off h hb hne
set_option maxRecDepth 100000 in
set_option maxHeartbeats 600000 in
theorem split_rt (A : Option Addr) (c : Nat) (L : List Nat) (w : World) (hr : RowOf nV w A L) (hl : L.length ≤ 131072) (s : Nat) (hs : s ≤ 9) (h10 : ∀ x ∈ L, x < 1024) :
    Rt Tryd.prog 27 [.slice A L.length c, .int .i64 (s : Nat)] w (fun v w' => (∃ b A' c', v = .tuple #[.agg (lvlV b (zerosL s L).length s).toArray, .slice A' L.length c', .int .i64 0] ∧ Vec w' w.heap.size b (L.map (bitN s)) ∧ w'.ownsRow w.heap.size 3 1 (.slice A' L.length c') L.length ((partL s L).map nV)) ∧ From w w') := by
  refine enter (n := 76) Tryd.func27 rfl rfl rfl ?_
  refine cd_seq ?_
  refine cd_region ?_
  refine st_alloc WavSplit_o49 ?_
  intro b4 w1 E4 hb4 hk4
  have hl4 := hk4.lt
  have hg4 : w.heap.size ≤ b4 := Nat.le_of_eq hb4.symm
  refine st_val (ro_assign (v := .slice _ _ _) rfl) ?_
  refine st_val (ro_assign (v := .int _ _) rfl) ?_
  refine st_nil ?_
  refine nx_then ?_
  refine cd_seq ?_
  refine cd_region ?_
  refine st_val (ro_move (v := .slice _ _ _) rfl) ?_
  refine st_val (ro_len WavSplit_l22 rfl) ?_
  refine st_make WavSplit_m65 rfl rfl rfl (by omega) (by omega) ?_
  intro b18 w2 E18 hb18 hk18
  have hg18 : w.heap.size ≤ b18 := by rw [hb18]; exact Nat.le_trans hg4 (Nat.le_of_lt hl4)
  have h418 : b4 ≠ b18 := by omega
  refine st_val (ro_assign (v := .slice _ _ _) rfl) ?_
  refine st_nil ?_
  refine nx_then ?_
  refine cd_seq ?_
  refine cd_region ?_
  refine st_val (ro_move (v := .slice _ _ _) rfl) ?_
  refine st_val (ro_len WavSplit_l22 rfl) ?_
  refine st_make0 (base := w.heap.size) WavSplit_m22 rfl rfl rfl (by omega) (by omega) ((From.rfl_.next E4).next E18).size ?_
  intro b21 w3 E21 hb21 ho21
  refine st_val (ro_assign (v := .slice _ _ _) rfl) ?_
  refine st_nil ?_
  refine nx_then ?_
  refine cd_seq ?_
  refine cd_seq ?_
  refine cd_region ?_
  refine st_val (ro_move (v := .slice _ _ _) rfl) ?_
  refine st_val (ro_len WavSplit_l22 rfl) ?_
  refine st_val (ro_move (v := .int _ _) rfl) ?_
  refine st_nil ?_
  refine nx_then ?_
  refine cd_block ?_
  refine cd_loop (G := Nat × Option Addr × Nat × Nat) [9, 10, 25, 26, 27, 28, 29, 30, 31, 32, 33, 34, 35, 36, 37, 38, 39, 40, 41, 42, 43, 44, 45, 46] (fun (i, A8, c8, m) => [(8, .slice A8 m c8), (24, .int .i64 (i : Nat))]) (fun (i, A8, c8, m) w' => i ≤ L.length ∧ m = (zerosL s (L.take i)).length ∧ Blk w' b18 4 ((bitsTo s L i).map boV).toArray ∧ w'.ownsRow w.heap.size 3 1 (.slice A8 m c8) m ((zerosL s (L.take i)).map nV) ∧ Blk w' b4 49 #[.pointer none, .int .i64 0, .int .i64 0] ∧ From w w') (fun (i, _, _, _) => L.length - i) ((0, some ⟨b21, 0, none⟩, L.length, 0)) ⟨rfl, rfl, trivial⟩ ?_ ?_
  · refine ⟨Nat.zero_le _, rfl, ?_, ho21, hk4.from_ (E18.next E21), (((From.rfl_.next E4).next E18).next E21)⟩
    have e : bitsTo s L 0 = List.replicate L.length false := by simp [bitsTo]
    rw [e, ← repl_bo]
    exact hk18.from_ E21
  rintro ⟨i, A8, c8, m⟩ ρ4 w4 ⟨hi, hm, hT, ho8, hR4, hB⟩
  refine cd_seq ?_
  refine cd_region ?_
  refine st_val (ro_lss rfl rfl) ?_
  refine st_nil ?_
  refine nx_then ?_
  refine cd_seq ?_
  refine cd_cond rfl (fun Q5 => ?_) (fun Q5 => ?_)
  · (try with_reducible first | replace Q5 := of_decide_eq_true Q5 | replace Q5 := of_decide_eq_false Q5 | replace Q5 := bn_t Q5 | replace Q5 := bn_f Q5)
    (try with_reducible first | replace Q5 := of_decide_eq_true Q5 | replace Q5 := of_decide_eq_false Q5 | replace Q5 := bx_t Q5 | replace Q5 := bx_f Q5 | replace Q5 := be_t Q5 | replace Q5 := be_f Q5)
    have hiL : i < L.length := by omega
    have hmb : m ≤ L.length := by rw [hm]; have := zo_len s (L.take i); rw [List.length_take] at this; omega
    obtain ⟨ba, oa, hA, hca⟩ := hr (by omega)
    subst hA
    refine cd_skip ?_
    refine nx_then ?_
    refine cd_cut (G := Option Addr × Nat × Nat) [9, 10, 26, 27, 28, 29, 30, 31, 32, 33, 34, 35, 36, 37, 38, 39, 40, 41, 42, 43, 44, 45] (fun (A8, c8, m) => [(8, .slice A8 m c8)]) (fun (A8, c8, m) w' => m = (zerosL s (L.take (i + 1))).length ∧ Blk w' b18 4 ((bitsTo s L (i + 1)).map boV).toArray ∧ w'.ownsRow w.heap.size 3 1 (.slice A8 m c8) m ((zerosL s (L.take (i + 1))).map nV) ∧ Blk w' b4 49 #[.pointer none, .int .i64 0, .int .i64 0] ∧ From w w') ?_ ?_
    · refine cd_block ?_
      refine cd_seq ?_
      refine cd_region ?_
      refine st_val (ro_move (v := .int _ _) rfl) ?_
      refine st_val (ro_indexAddr1 WavSplit_e22 rfl rfl (by omega)) ?_
      refine st_val (ro_load WavSplit_g3 rfl (by exact cellF hB (hca i hiL))) ?_
      refine st_val (ro_assign (v := .int _ _) rfl) ?_
      refine st_val (ro_assign (v := .int _ _) rfl) ?_
      refine st_nil ?_
      refine nx_then ?_
      refine cd_seq ?_
      refine cd_region ?_
      refine st_val (ro_move (v := .slice _ _ _) rfl) ?_
      refine st_val (ro_move (v := .int _ _) rfl) ?_
      refine st_val (ro_move (v := .int _ _) rfl) ?_
      refine st_val (ro_move (v := .int _ _) rfl) ?_
      refine st_val (ro_shrN rfl rfl (by show s ≤ 64; omega)) ?_
      refine st_val (ro_andI (b := 1) rfl rfl ⟨by have := Nat.div_le_self (L[i]) (2 ^ s); have := h10 _ (List.getElem_mem hiL); omega, by decide⟩) ?_
      refine st_val (ro_eq (ro_eql rfl rfl) (congrArg Value.bool (and_one_bit s L[i]))) ?_
      refine st_val (ro_indexAddr0 WavSplit_e65 rfl rfl (by omega)) ?_
      refine st_put (v := .bool _) WavSplit_z4 rfl rfl rfl (hT) (by simp; rw [bitsTo_len hi]; exact hiL) ?_
      intro w6 O6 P6
      have P6b : Blk w6 b18 4 ((bitsTo s L (i + 1)).map boV).toArray := by rw [← bitsTo_set hiL, ← bo_set]; exact P6
      refine st_nil ?_
      refine nx_then ?_
      refine cd_seq ?_
      refine cd_region ?_
      refine st_val (ro_move (v := .slice _ _ _) rfl) ?_
      refine st_val (ro_move (v := .int _ _) rfl) ?_
      refine st_val (ro_indexAddr0 WavSplit_e65 rfl rfl (by omega)) ?_
      refine st_val (ro_load (v := boV (bitN s L[i])) WavSplit_g4 rfl (P6b.rd i (bits_at hiL))) ?_
      refine st_val (ro_not rfl) ?_
      refine st_nil ?_
      refine nx_then ?_
      refine cd_cond rfl (fun Q7 => ?_) (fun Q7 => ?_)
      · (try with_reducible first | replace Q7 := of_decide_eq_true Q7 | replace Q7 := of_decide_eq_false Q7 | replace Q7 := bn_t Q7 | replace Q7 := bn_f Q7)
        (try with_reducible first | replace Q7 := of_decide_eq_true Q7 | replace Q7 := of_decide_eq_false Q7 | replace Q7 := bx_t Q7 | replace Q7 := bx_f Q7 | replace Q7 := be_t Q7 | replace Q7 := be_f Q7)
        have hbt : bitN s L[i] = false := by simpa using Q7
        refine cd_region ?_
        refine st_val (ro_move (v := .slice _ _ _) rfl) ?_
        refine st_val (ro_move (v := .int _ _) rfl) ?_
        refine st_lit1 (v := .int _ _) WavSplit_q22 rfl rfl rfl ?_
        intro b44 w8 E44 hb44 hk44
        have hTq := P6b.from_ E44
        have hRq := (hR4.only O6 (by omega)).from_ E44
        have hoq := (own_only3 ho8 O6 (own_off ho8 hT (by decide))).kept_from E44
        refine st_push1 (a0 := w) WavSplit_q22 rfl rfl (hoq) ((hB.only O6 (hg18)).next E44) rfl hk44 rfl (by omega) (by omega) ?_
        intro A45 c45 w9 ho45 B45 hg45
        refine st_val (ro_assign (v := .slice _ _ _) rfl) ?_
        refine st_nil ?_
        refine nx_block ?_
        refine nx_cut ((A45, c45, m + 1)) ⟨(by first | rfl | (refine int_eq ?_; omega)), trivial⟩ (by (iterate 23 refine agr_cons rfl ?_); exact agr_rfl) ?_
        exact ⟨by rw [zeros_succ hiL, hbt, hm]; simp, hTq.grown hg45 (own_off hoq hTq (by decide)), by rw [zeros_succ hiL, hbt, List.map_append]; exact ho45, hRq.grown hg45 (own_off hoq hRq (by decide)), B45⟩
      · (try with_reducible first | replace Q7 := of_decide_eq_true Q7 | replace Q7 := of_decide_eq_false Q7 | replace Q7 := bn_t Q7 | replace Q7 := bn_f Q7)
        (try with_reducible first | replace Q7 := of_decide_eq_true Q7 | replace Q7 := of_decide_eq_false Q7 | replace Q7 := bx_t Q7 | replace Q7 := bx_f Q7 | replace Q7 := be_t Q7 | replace Q7 := be_f Q7)
        have hbt : bitN s L[i] = true := by simpa using Q7
        refine cd_skip ?_
        refine nx_block ?_
        refine nx_cut ((A8, c8, m)) ⟨(by first | rfl | (refine int_eq ?_; omega)), trivial⟩ (by (iterate 18 refine agr_cons rfl ?_); exact agr_rfl) ?_
        exact ⟨by rw [zeros_succ hiL, hbt, hm]; simp, P6b, by rw [zeros_succ hiL, hbt]; simpa using own_only3 ho8 O6 (own_off ho8 hT (by decide)), hR4.only O6 (by omega), (hB.only O6 (hg18))⟩
    · rintro ⟨A8', c8', m'⟩ ρ10 w10 ⟨hm2, hT2, ho82, hR42, hB⟩
      refine cd_region ?_
      refine st_val (ro_addN (b := 1) rfl rfl (by omega)) ?_
      refine st_val (ro_move (v := .int _ _) rfl) ?_
      refine st_nil ?_
      refine nx_cut ((i + 1, A8', c8', m')) ⟨(by first | rfl | (refine int_eq ?_; omega)), (by first | rfl | (refine int_eq ?_; omega)), trivial⟩ (by (iterate 52 refine agr_cons rfl ?_); exact agr_rfl) ⟨?_, ?_⟩
      · exact ⟨by omega, hm2, hT2, ho82, hR42, hB⟩
      · show L.length - (i + 1) < L.length - i; omega
  · (try with_reducible first | replace Q5 := of_decide_eq_true Q5 | replace Q5 := of_decide_eq_false Q5 | replace Q5 := bn_t Q5 | replace Q5 := bn_f Q5)
    (try with_reducible first | replace Q5 := of_decide_eq_true Q5 | replace Q5 := of_decide_eq_false Q5 | replace Q5 := bx_t Q5 | replace Q5 := bx_f Q5 | replace Q5 := be_t Q5 | replace Q5 := be_f Q5)
    refine cd_exit ?_
    refine ex_then ?_
    refine ex_then ?_
    refine ex_block ?_
    refine nx_then ?_
    refine cd_seq ?_
    refine cd_region ?_
    refine st_val (ro_move (v := .slice _ _ _) rfl) ?_
    refine st_val (ro_len WavSplit_l22 rfl) ?_
    refine st_val (ro_assign (v := .int _ _) rfl) ?_
    refine st_nil ?_
    refine nx_then ?_
    refine cd_seq ?_
    refine cd_seq ?_
    refine cd_region ?_
    refine st_val (ro_move (v := .slice _ _ _) rfl) ?_
    refine st_val (ro_len WavSplit_l22 rfl) ?_
    refine st_val (ro_move (v := .int _ _) rfl) ?_
    refine st_nil ?_
    refine nx_then ?_
    refine cd_block ?_
    refine cd_loop (G := Nat × Option Addr × Nat × Nat) [12, 13, 52, 53, 54, 55, 56, 57, 58, 59, 60, 61, 62, 63, 64] (fun (i, A8, c8, m) => [(8, .slice A8 m c8), (51, .int .i64 (i : Nat))]) (fun (i, A8, c8, m) w' => i ≤ L.length ∧ m = ((zerosL s L) ++ onesL s (L.take i)).length ∧ Blk w' b18 4 ((L.map (bitN s)).map boV).toArray ∧ w'.ownsRow w.heap.size 3 1 (.slice A8 m c8) m (((zerosL s L) ++ onesL s (L.take i)).map nV) ∧ Blk w' b4 49 #[.pointer none, .int .i64 0, .int .i64 0] ∧ From w w') (fun (i, _, _, _) => L.length - i) ((0, A8, c8, m)) ⟨rfl, rfl, trivial⟩ ?_ ?_
    · obtain rfl : i = L.length := by omega
      rw [bitsTo_all] at hT
      rw [List.take_length] at ho8 hm
      exact ⟨Nat.zero_le _, by simpa [onesL] using hm, hT, by simpa [onesL] using ho8, hR4, hB⟩
    rintro ⟨i2, A9, c9, m2⟩ ρ11 w11 ⟨hi2, hm3, hT3, ho9, hR5, hB⟩
    refine cd_seq ?_
    refine cd_region ?_
    refine st_val (ro_lss rfl rfl) ?_
    refine st_nil ?_
    refine nx_then ?_
    refine cd_seq ?_
    refine cd_cond rfl (fun Q12 => ?_) (fun Q12 => ?_)
    · (try with_reducible first | replace Q12 := of_decide_eq_true Q12 | replace Q12 := of_decide_eq_false Q12 | replace Q12 := bn_t Q12 | replace Q12 := bn_f Q12)
      (try with_reducible first | replace Q12 := of_decide_eq_true Q12 | replace Q12 := of_decide_eq_false Q12 | replace Q12 := bx_t Q12 | replace Q12 := bx_f Q12 | replace Q12 := be_t Q12 | replace Q12 := be_f Q12)
      have hiL2 : i2 < L.length := by omega
      have hmb2 : m2 ≤ 262144 := by rw [hm3, List.length_append]; have := zo_len s L; have := ones_le s L i2; omega
      obtain ⟨ba, oa, hA, hca⟩ := hr (by omega)
      subst hA
      refine cd_skip ?_
      refine nx_then ?_
      refine cd_cut (G := Option Addr × Nat × Nat) [12, 13, 53, 54, 55, 56, 57, 58, 59, 60, 61, 62, 63] (fun (A8, c8, m) => [(8, .slice A8 m c8)]) (fun (A8, c8, m) w' => m = ((zerosL s L) ++ onesL s (L.take (i2 + 1))).length ∧ Blk w' b18 4 ((L.map (bitN s)).map boV).toArray ∧ w'.ownsRow w.heap.size 3 1 (.slice A8 m c8) m (((zerosL s L) ++ onesL s (L.take (i2 + 1))).map nV) ∧ Blk w' b4 49 #[.pointer none, .int .i64 0, .int .i64 0] ∧ From w w') ?_ ?_
      · refine cd_block ?_
        refine cd_seq ?_
        refine cd_region ?_
        refine st_val (ro_move (v := .int _ _) rfl) ?_
        refine st_val (ro_indexAddr1 WavSplit_e22 rfl rfl (by omega)) ?_
        refine st_val (ro_load WavSplit_g3 rfl (by exact cellF hB (hca i2 hiL2))) ?_
        refine st_val (ro_assign (v := .int _ _) rfl) ?_
        refine st_val (ro_assign (v := .int _ _) rfl) ?_
        refine st_nil ?_
        refine nx_then ?_
        refine cd_seq ?_
        refine cd_region ?_
        refine st_val (ro_move (v := .slice _ _ _) rfl) ?_
        refine st_val (ro_move (v := .int _ _) rfl) ?_
        refine st_val (ro_indexAddr0 WavSplit_e65 rfl rfl (by omega)) ?_
        refine st_val (ro_load (v := boV (bitN s L[i2])) WavSplit_g4 rfl (hT3.rd i2 (bits_full hiL2))) ?_
        refine st_nil ?_
        refine nx_then ?_
        refine cd_cond rfl (fun Q13 => ?_) (fun Q13 => ?_)
        · (try with_reducible first | replace Q13 := of_decide_eq_true Q13 | replace Q13 := of_decide_eq_false Q13 | replace Q13 := bn_t Q13 | replace Q13 := bn_f Q13)
          (try with_reducible first | replace Q13 := of_decide_eq_true Q13 | replace Q13 := of_decide_eq_false Q13 | replace Q13 := bx_t Q13 | replace Q13 := bx_f Q13 | replace Q13 := be_t Q13 | replace Q13 := be_f Q13)
          have hbt2 : bitN s L[i2] = true := Q13
          refine cd_region ?_
          refine st_val (ro_move (v := .slice _ _ _) rfl) ?_
          refine st_val (ro_move (v := .int _ _) rfl) ?_
          refine st_lit1 (v := .int _ _) WavSplit_q22 rfl rfl rfl ?_
          intro b62 w14 E62 hb62 hk62
          refine st_push1 (a0 := w) WavSplit_q22 rfl rfl ((ho9.kept_from E62)) (hB.next E62) rfl hk62 rfl (by omega) (by omega) ?_
          intro A63 c63 w15 ho63 B63 hg63
          refine st_val (ro_assign (v := .slice _ _ _) rfl) ?_
          refine st_nil ?_
          refine nx_block ?_
          refine nx_cut ((A63, c63, m2 + 1)) ⟨(by first | rfl | (refine int_eq ?_; omega)), trivial⟩ (by (iterate 14 refine agr_cons rfl ?_); exact agr_rfl) ?_
          exact ⟨by rw [ones_succ hiL2, hbt2, hm3]; simp; omega, (hT3.from_ E62).grown hg63 (own_off (ho9.kept_from E62) (hT3.from_ E62) (by decide)), by rw [ones_succ hiL2, hbt2]; simpa using ho63, (hR5.from_ E62).grown hg63 (own_off (ho9.kept_from E62) (hR5.from_ E62) (by decide)), B63⟩
        · (try with_reducible first | replace Q13 := of_decide_eq_true Q13 | replace Q13 := of_decide_eq_false Q13 | replace Q13 := bn_t Q13 | replace Q13 := bn_f Q13)
          (try with_reducible first | replace Q13 := of_decide_eq_true Q13 | replace Q13 := of_decide_eq_false Q13 | replace Q13 := bx_t Q13 | replace Q13 := bx_f Q13 | replace Q13 := be_t Q13 | replace Q13 := be_f Q13)
          have hbt2 : bitN s L[i2] = false := by simpa using Q13
          refine cd_skip ?_
          refine nx_block ?_
          refine nx_cut ((A9, c9, m2)) ⟨(by first | rfl | (refine int_eq ?_; omega)), trivial⟩ (by (iterate 9 refine agr_cons rfl ?_); exact agr_rfl) ?_
          exact ⟨by rw [ones_succ hiL2, hbt2, hm3]; simp, hT3, by rw [ones_succ hiL2, hbt2]; simpa using ho9, hR5, hB⟩
      · rintro ⟨A9', c9', m3⟩ ρ16 w16 ⟨hm4, hT4, ho94, hR54, hB⟩
        refine cd_region ?_
        refine st_val (ro_addN (b := 1) rfl rfl (by omega)) ?_
        refine st_val (ro_move (v := .int _ _) rfl) ?_
        refine st_nil ?_
        refine nx_cut ((i2 + 1, A9', c9', m3)) ⟨(by first | rfl | (refine int_eq ?_; omega)), (by first | rfl | (refine int_eq ?_; omega)), trivial⟩ (by (iterate 34 refine agr_cons rfl ?_); exact agr_rfl) ⟨?_, ?_⟩
        · exact ⟨by omega, hm4, hT4, ho94, hR54, hB⟩
        · show L.length - (i2 + 1) < L.length - i2; omega
    · (try with_reducible first | replace Q12 := of_decide_eq_true Q12 | replace Q12 := of_decide_eq_false Q12 | replace Q12 := bn_t Q12 | replace Q12 := bn_f Q12)
      (try with_reducible first | replace Q12 := of_decide_eq_true Q12 | replace Q12 := of_decide_eq_false Q12 | replace Q12 := bx_t Q12 | replace Q12 := bx_f Q12 | replace Q12 := be_t Q12 | replace Q12 := be_f Q12)
      refine cd_exit ?_
      refine ex_then ?_
      refine ex_then ?_
      refine ex_block ?_
      refine nx_then ?_
      refine cd_seq ?_
      refine cd_region ?_
      refine st_val (ro_move (v := .slice _ _ _) rfl) ?_
      have hB67 : From w w11 := hB
      refine st_call WavSplit_k36 (new_n (some ⟨b18, 0, none⟩) L.length L.length (L.map (bitN s)) _ (by rw [List.length_map]) (RowOf.blk hT3 (fun i hi => boV_map _ i hi)) (by omega)) ?_
      rintro v67 w17 ⟨v67, rfl, hV67, E67⟩
      refine st_val (ro_move (v := .tuple _) rfl) ?_
      refine st_val (ro_extract rfl rfl) ?_
      refine st_val (ro_extract rfl rfl) ?_
      refine st_val (ro_assign (v := .pointer _) rfl) ?_
      refine st_val (ro_assign (v := .int _ _) rfl) ?_
      refine st_nil ?_
      refine nx_then ?_
      refine cd_seq ?_
      refine cd_region ?_
      refine st_val (ro_move (v := .pointer _) rfl) ?_
      refine st_val (ro_move (v := .int _ _) rfl) ?_
      refine st_val (ro_move (v := .int _ _) rfl) ?_
      refine st_val (ro_build (l := [(0, .tmp 70), (1, .tmp 71), (2, .tmp 72)]) (WavSplit_b49_0_1_2 _ _ _)) ?_
      refine st_val (ro_move (v := .slice _ _ _) rfl) ?_
      refine st_val (ro_move (v := .int _ _) rfl) ?_
      refine st_putW (vs := [_, _, _]) WavSplit_z49 rfl rfl (by simp [Value.oneCell']) ((hR5.from_ E67)) rfl ?_
      intro w18 O18 P18
      refine st_val (ro_assign (v := .slice _ _ _) rfl) ?_
      refine st_val (ro_assign (v := .int _ _) rfl) ?_
      refine st_nil ?_
      refine nx_then ?_
      refine cd_ret ?_
      refine resr3 rfl (rv_cellA (cs := [_, _, _]) WavSplit_g49 WavSplit_z49 rfl (by exact P18.whole)) (rv_tmp (v := .slice _ _ _) rfl) (rv_tmp (v := .int _ _) rfl) ?_
      obtain rfl : i2 = L.length := by omega
      rw [List.take_length] at ho9 hm3
      have hpl : m2 = L.length := by rw [hm3]; exact part_len s L
      subst hpl
      have hiE : i = L.length := by omega
      rw [hiE, List.take_length] at hm
      exact ⟨⟨v67, A9, c9, by rw [hm]; rfl, (hV67.grown (Only.grown O18) (fun k hk => by simp only [Option.some.injEq] at hk; have := hR5.lt; omega)).le hB67.size, own_only3 (ho9.kept_from E67) O18 (own_off (ho9.kept_from E67) (hR5.from_ E67) (by decide))⟩, ((hB.next E67).only O18 (hg4))⟩
end Go.Proofs.YtmiclfhpenjjfaaDoor
