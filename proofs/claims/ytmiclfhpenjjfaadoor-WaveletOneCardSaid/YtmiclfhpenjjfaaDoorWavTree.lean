/- wavelet: the methods of a tree. -/
import Derived.Test.YtmiclfhpenjjfaaDoorWavNew
namespace Go.Proofs.YtmiclfhpenjjfaaDoor
open Go.RowKit
open Go.ChangeShapes Go.WideShapes Go.ChangeAt
theorem WavTree_g22 : aggQ Tryd.prog 22 = some false := by kernel_rfl
theorem WavTree_g3 : aggQ Tryd.prog 3 = some false := by kernel_rfl
theorem WavTree_f45_1 : fieldQ Tryd.prog 45 1 = some 1 := by kernel_rfl
theorem WavTree_l22 : (elemQ Tryd.prog 22).isSome = true := by kernel_rfl
theorem WavTree_f45_2 : fieldQ Tryd.prog 45 2 = some 2 := by kernel_rfl
theorem WavTree_e22 : elemQ Tryd.prog 22 = some (3, 1) := by kernel_rfl
theorem WavTree_k28 : callable Tryd.prog 28 = true := by kernel_rfl
theorem WavTree_f45_0 : fieldQ Tryd.prog 45 0 = some 0 := by kernel_rfl
theorem WavTree_g43 : aggQ Tryd.prog 43 = some false := by kernel_rfl
theorem WavTree_l43 : (elemQ Tryd.prog 43).isSome = true := by kernel_rfl
theorem WavTree_e43 : elemQ Tryd.prog 43 = some (49, 3) := by kernel_rfl
theorem WavTree_g49 : aggQ Tryd.prog 49 = some true := by kernel_rfl
theorem WavTree_z49 : sizeQ Tryd.prog 49 = some 3 := by kernel_rfl
theorem WavTree_o49 : zeroQ Tryd.prog 49 = some (.agg #[.pointer none, .int .i64 0, .int .i64 0]) := by kernel_rfl
theorem WavTree_f49_0 : fieldQ Tryd.prog 49 0 = some 0 := by kernel_rfl
theorem WavTree_g47 : aggQ Tryd.prog 47 = some false := by kernel_rfl
theorem WavTree_k30 : callable Tryd.prog 30 = true := by kernel_rfl
theorem WavTree_f49_2 : fieldQ Tryd.prog 49 2 = some 2 := by kernel_rfl
theorem WavTree_k29 : callable Tryd.prog 29 = true := by kernel_rfl
theorem cntLt_all {L : List Nat} {k : Nat} (h : ∀ x ∈ L, x < k) : cntLt L k = L.length := List.countP_eq_length.2 fun x hx => decide_eq_true (h x hx)
theorem TreeAt.from_ {w w' : World} {base b k : Nat} {L : List Nat} (h : TreeAt w base b k L) (hF : From w w') : TreeAt w' base b k L := by
  obtain ⟨hb0, AT, cT, g, vs, hT, ho, hVs, hg0, hg2, hrest⟩ := h
  exact ⟨hb0, AT, cT, g, vs, hT.from_ hF, ho.kept_from hF, fun j hj => (hVs j hj).from_ hF, hg0, hg2.from_ hF, hrest⟩
def sE (k : Nat) (c : Int) : Int := if 0 ≤ c ∧ c ≤ k then 0 else 1
def sV (k : Nat) (L : List Nat) (c : Int) : Int := if 0 ≤ c ∧ c ≤ k then (cntLt L c.toNat : Nat) else 0
def aE (L : List Nat) (i : Int) : Int := if 0 ≤ i ∧ i < L.length then 0 else 3
def aV (L : List Nat) (i : Int) : Int := if 0 ≤ i ∧ i < L.length then (L.getD i.toNat 0 : Nat) else 0
def hiD (n x j : Nat) : Nat := x / 2 ^ (n - j) * 2 ^ (n - j)
theorem dig_step {n x j : Nat} (hj : j < n) : hiD n x j ||| (if bitN (n - 1 - j) x then 2 ^ (n - 1 - j) else 0) = hiD n x (j + 1) := by
  have h := digit_step x (n - 1 - j)
  rw [show n - 1 - j + 1 = n - j by omega] at h
  unfold hiD
  rw [show n - (j + 1) = n - 1 - j by omega]
  exact h
theorem dig_t {n x j : Nat} (hj : j < n) (hb : bitN (n - 1 - j) x = true) : hiD n x j ||| 2 ^ (n - 1 - j) = hiD n x (j + 1) := by
  have := dig_step (x := x) hj
  rwa [if_pos hb] at this
theorem dig_f {n x j : Nat} (hj : j < n) (hb : bitN (n - 1 - j) x = false) : hiD n x j = hiD n x (j + 1) := by
  have := dig_step (x := x) hj
  rwa [if_neg (by simp [hb]), Nat.or_zero] at this
theorem hiD_le (n x j : Nat) : hiD n x j ≤ x := Nat.div_mul_le_self _ _
theorem hiD_zero {n x : Nat} (h : x < 2 ^ n) : hiD n x 0 = 0 := by unfold hiD; rw [Nat.sub_zero, Nat.div_eq_of_lt h, Nat.zero_mul]
theorem hiD_all {n x : Nat} : hiD n x n = x := by unfold hiD; rw [Nat.sub_self, Nat.pow_zero, Nat.div_one, Nat.mul_one]
section
variable {P : Program} {ρ : Operand → Value} {w : World} {t yt : TypeId} {x y : Operand}
theorem or_i64 {a b : Nat} (ha : a < 2 ^ 63) (hb : b < 2 ^ 63) : Go.bits .or .i64 (a : Int) (b : Int) = ((a ||| b : Nat) : Int) := by
  have e1 : (BitVec.ofInt 64 (a : Int)).toNat = a := by rw [BitVec.ofInt_natCast, BitVec.toNat_ofNat]; exact Nat.mod_eq_of_lt (by omega)
  have e2 : (BitVec.ofInt 64 (b : Int)).toNat = b := by rw [BitVec.ofInt_natCast, BitVec.toNat_ofNat]; exact Nat.mod_eq_of_lt (by omega)
  show IntKind.i64.wrap ((BitVec.ofInt 64 (a : Int) ||| BitVec.ofInt 64 (b : Int)).toNat : Int) = _
  have h : a ||| b < 2 ^ 63 := Nat.or_lt_two_pow ha hb
  rw [BitVec.toNat_or, e1, e2, IntKind.wrap_i64]; generalize a ||| b = c at *; omega
theorem ro_orI {a b : Nat} (hx : ρ x = .int .i64 (a : Nat)) (hy : ρ y = .int .i64 (b : Nat)) (h : a < 2 ^ 63 ∧ b < 2 ^ 63) : RO P ρ (.binOp .or t x y yt) w (.int .i64 ((a ||| b : Nat) : Int)) w := by
  have := ro_or (P := P) (ρ := ρ) (w := w) (t := t) (yt := yt) hx hy; rwa [or_i64 h.1 h.2] at this
theorem ro_shl1 {b : Nat} (hx : ρ x = .int .i64 1) (hy : ρ y = .int .i64 (b : Nat)) (h : b ≤ 9) : RO P ρ (.binOp .shl t x y yt) w (.int .i64 ((2 ^ b : Nat) : Int)) w := by
  have := ro_shl (P := P) (ρ := ρ) (w := w) (t := t) (yt := yt) hx hy (by omega)
  have e : min ((b : Nat) : Int).toNat IntKind.i64.bits = b := by rw [Int.toNat_natCast]; show min b 64 = b; omega
  rw [e] at this
  have e2 : IntKind.i64.wrap ((1 : Int) * 2 ^ b) = ((2 ^ b : Nat) : Int) := by
    have h1 : (1 : Int) * 2 ^ b = ((2 ^ b : Nat) : Int) := by rw [Int.one_mul]; norm_cast
    have h2 : 2 ^ b ≤ 2 ^ 9 := Nat.pow_le_pow_right (by decide) h
    rw [h1, IntKind.wrap_i64]
    generalize 2 ^ b = c at *
    omega
  rwa [e2] at this
end
theorem ix1 (q : Nat) : 0 + ((q : Nat) : Int).toNat * 1 = q := by simp
theorem ix3 (q : Nat) : 0 + ((q : Nat) : Int).toNat * 3 = q * 3 := by simp
theorem lvls_len (n : Nat) (L : List Nat) (vs : Nat → Nat) (j : Nat) : (lvlsV n L vs j).length = j * 3 := by
  unfold lvlsV
  rw [flat_len (s := 3) (fun x => rfl), List.length_range]
theorem lvls_at (n : Nat) (L : List Nat) (vs : Nat → Nat) (j i : Nat) (hi : i < j) (q : Nat) (hq : q < 3) : (lvlsV n L vs j)[i * 3 + q]? = (lvlV (vs i) (zerosL (n - 1 - i) (lvl n L i)).length (n - 1 - i))[q]? := by
  unfold lvlsV
  have := flat_at (s := 3) (f := fun i => lvlV (vs i) (zerosL (n - 1 - i) (lvl n L i)).length (n - 1 - i)) (fun x => rfl) (List.range j) i (by simpa using hi) q hq
  rw [this, List.getElem_range]
theorem lvls_own {w : World} {base c n : Nat} {A : Option Addr} {L : List Nat} {vs : Nat → Nat} (h : w.ownsRow base 49 3 (.slice A n c) n (lvlsV n L vs n)) (hn : 0 < n) :
    ∃ g, A = some ⟨g, 0, none⟩ ∧ ∀ i, i < n → w.rangeAt g (i * 3) (lvlV (vs i) (zerosL (n - 1 - i) (lvl n L i)).length (n - 1 - i)) := by
  obtain ⟨g, cur, rfl, _, hb, h1, _, h3, h4⟩ := own_blk h hn
  refine ⟨g, rfl, fun i hi => hb.range _ _ fun q v hv => ?_⟩
  have hq : q < 3 := by
    obtain ⟨hq, _⟩ := List.getElem?_eq_some_iff.1 hv
    exact hq
  rw [← lvls_at n L vs n i hi q hq, ← h4, List.getElem?_take_of_lt (by omega)] at hv
  exact hv
theorem get_x (base v s x : Nat) (X Z M : List Nat) (w : World) (hv : Vec w base v (M.map (bitN s))) (hM : M = X ++ [x] ++ Z) : Rt Tryd.prog 30 [.pointer (some ⟨v, 0, none⟩), .int .i64 (X.length : Nat)] w fun u w' => u = .tuple #[.bool (bitN s x), .int .i64 0] ∧ w = w' := by
  subst hM
  have := get_rt base v (X.length : Nat) _ w hv
  have hl : (0 : Int) ≤ (X.length : Nat) ∧ ((X.length : Nat) : Int) < ((X ++ [x] ++ Z).map (bitN s)).length := by simp; omega
  unfold gB gE at this
  rw [if_pos hl, if_pos hl, Int.toNat_natCast] at this
  have e : bt ((X ++ [x] ++ Z).map (bitN s)) X.length = bitN s x := by
    unfold bt
    simp
  rwa [e] at this
theorem down_x (base v z s x : Nat) (X Z M : List Nat) (w : World) (hv : Vec w base v (M.map (bitN s))) (hM : M = X ++ [x] ++ Z) (hz : z = (zerosL s M).length) (hl : M.length ≤ 131072) : Rt Tryd.prog 29 [.agg (lvlV v z s).toArray, .int .i64 (X.length : Nat), .bool (bitN s x)] w
    fun u w' => (∃ X' Z', u = .int .i64 (X'.length : Nat) ∧ partL s M = X' ++ [x] ++ Z') ∧ From w w' := by
  subst hM
  obtain ⟨X', Z', h1, h2⟩ := one_down s X Z x
  exact (down_l base v z s X.length _ w hv (by simp) hz hl (bitN s x)).mono fun u w' ⟨h, hF⟩ => ⟨⟨X', Z', by rw [h2]; exact h, h1⟩, hF⟩
set_option maxRecDepth 100000 in
set_option maxHeartbeats 400000 in
theorem lenT (base b K : Nat) (L : List Nat) (w : World) (ht : TreeAt w base b K L) :
    Rt Tryd.prog 28 [.pointer (some ⟨b, 0, none⟩)] w (fun v w' => v = .int .i64 (L.length : Nat) ∧ From w w') := by
  obtain ⟨hb0, AT, cT, g, vs, hT, ho, hVs, hg0, hg2, hK1, hK2, hlt, hLl⟩ := ht
  refine enter (n := 19) Tryd.func28 rfl rfl rfl ?_
  refine cd_seq ?_
  refine cd_region ?_
  refine st_val (ro_assign (v := .int _ _) rfl) ?_
  refine st_nil ?_
  refine nx_then ?_
  refine cd_seq ?_
  refine cd_seq ?_
  refine cd_region ?_
  refine st_val (ro_move (v := .pointer _) rfl) ?_
  refine st_val (ro_nilCheck rfl) ?_
  refine st_val (ro_fieldAddr WavTree_f45_1 rfl) ?_
  refine st_val (ro_load WavTree_g22 rfl (by exact hT.rd 1 rfl)) ?_
  refine st_val (ro_len WavTree_l22 rfl) ?_
  refine st_val (ro_eql rfl rfl) ?_
  refine st_nil ?_
  refine nx_then ?_
  refine cd_cond rfl (fun Q1 => ?_) (fun Q1 => ?_)
  · (try first | replace Q1 := bn_t Q1 | replace Q1 := bn_f Q1)
    (try first | replace Q1 := bx_t Q1 | replace Q1 := bx_f Q1 | replace Q1 := be_t Q1 | replace Q1 := be_f Q1 | replace Q1 := of_decide_eq_true Q1 | replace Q1 := of_decide_eq_false Q1)
    first
     | (exfalso; first | omega | contradiction | (cases Q1; done))
     | skip
       refine cd_seq ?_
       refine cd_region ?_
       refine st_val (ro_assign (v := .int _ _) rfl) ?_
       refine st_nil ?_
       refine nx_then ?_
       refine cd_ret ?_
       refine rt_then ?_
       refine res1 (v := .int _ _) rfl rfl ?_
       exact ⟨rfl, From.rfl_⟩
  · (try first | replace Q1 := bn_t Q1 | replace Q1 := bn_f Q1)
    (try first | replace Q1 := bx_t Q1 | replace Q1 := bx_f Q1 | replace Q1 := be_t Q1 | replace Q1 := be_f Q1 | replace Q1 := of_decide_eq_true Q1 | replace Q1 := of_decide_eq_false Q1)
    first
     | (exfalso; first | omega | contradiction | (cases Q1; done))
     | skip
       refine cd_skip ?_
       refine nx_then ?_
       refine cd_seq ?_
       apply cd_drawnD 11 [(9, eqp _), (10, eqp _), (11, eqp _), (12, eqp (.slice (some ⟨g, 0, none⟩) (K + 1) (K + 1))), (13, eqp _), (14, eqp _), (15, eqp _), (16, eqp (.int .i64 (K : Nat))), (17, eqp _), (18, eqp (nV (cntLt L K))), (2, eqp _)] (by repeat first | exact pq_body | refine pq_then ?_ | refine pq_block ?_) (by kernel_rfl) (by kernel_rfl) ⟨eqp_mono _, eqp_mono _, eqp_mono _, eqp_mono _, eqp_mono _, eqp_mono _, eqp_mono _, eqp_mono _, eqp_mono _, eqp_mono _, eqp_mono _, trivial⟩
       case hop =>
        refine ⟨?_, ?_⟩
        · rintro - w3 D3
          show OpOK _ _ _ _ _ _ _
          exact ok_pure (ro_move (v := .pointer _) rfl) rfl
        refine ⟨?_, ?_⟩
        · rintro - w4 D4
          rintro _ rfl
          show OpOK _ _ _ _ _ _ _
          exact ok_pure (ro_nilCheck rfl) rfl
        refine ⟨?_, ?_⟩
        · rintro - w5 D5
          rintro _ rfl
          show OpOK _ _ _ _ _ _ _
          exact ok_pure (ro_fieldAddr WavTree_f45_1 rfl) rfl
        refine ⟨?_, ?_⟩
        · rintro - w6 D6
          rintro _ rfl
          show OpOK _ _ _ _ _ _ _
          exact ok_pure (ro_load WavTree_g22 rfl (by exact (hT.from_ D6).rd 1 rfl)) rfl
        refine ⟨?_, ?_⟩
        · rintro - w7 D7
          show OpOK _ _ _ _ _ _ _
          exact ok_pure (ro_move (v := .pointer _) rfl) rfl
        refine ⟨?_, ?_⟩
        · rintro - w8 D8
          rintro _ rfl
          show OpOK _ _ _ _ _ _ _
          exact ok_pure (ro_nilCheck rfl) rfl
        refine ⟨?_, ?_⟩
        · rintro - w9 D9
          rintro _ rfl
          show OpOK _ _ _ _ _ _ _
          exact ok_pure (ro_fieldAddr WavTree_f45_2 rfl) rfl
        refine ⟨?_, ?_⟩
        · rintro - w10 D10
          rintro _ rfl
          show OpOK _ _ _ _ _ _ _
          exact ok_pure (ro_load WavTree_g3 rfl (by exact (hT.from_ D10).rd 2 rfl)) rfl
        refine ⟨?_, ?_⟩
        · rintro - w11 D11
          rintro v11_12 rfl v11_16 rfl
          show OpOK _ _ _ _ _ _ _
          exact ok_pure (ro_indexAddr WavTree_e22 rfl rfl (by omega)) rfl
        refine ⟨?_, ?_⟩
        · rintro - w12 D12
          rintro _ rfl
          show OpOK _ _ _ _ _ _ _
          exact ok_pure (ro_load WavTree_g3 rfl (by rw [ix1]; exact (hg2.from_ D12).rd K (tab_get (by omega)))) rfl
        refine ⟨?_, ?_⟩
        · rintro - w13 D13
          rintro v13_18 rfl
          show OpOK _ _ _ _ _ _ _
          exact ok_pure (ro_assign (v := .int _ _) rfl) rfl
        exact trivial
       case hend =>
        intro w14 D14
        rintro _ rfl _ rfl _ rfl v12 rfl _ rfl _ rfl _ rfl v16 rfl _ rfl v18 rfl _ rfl
        show St _ _ _ _ _ _ _
        refine st_nil ?_
        refine nx_then ?_
        refine cd_ret ?_
        refine res1 (v := .int _ _) rfl rfl ?_
        exact ⟨int_eq (by rw [cntLt_all hlt]), (From.rfl_.next D14)⟩
set_option maxRecDepth 100000 in
set_option maxHeartbeats 400000 in
theorem knownT (base b K : Nat) (L : List Nat) (w : World) (ht : TreeAt w base b K L) (c : Int) :
    Rt Tryd.prog 20 [.pointer (some ⟨b, 0, none⟩), .int .i64 c] w (fun v w' => v = .bool (decide (0 ≤ c ∧ c < (K : Nat))) ∧ w = w') := by
  obtain ⟨hb0, AT, cT, g, vs, hT, ho, hVs, hg0, hg2, hK1, hK2, hlt, hLl⟩ := ht
  refine enter (n := 15) Tryd.func20 rfl rfl rfl ?_
  refine cd_seq ?_
  refine cd_region ?_
  refine st_val (ro_assign (v := .bool _) rfl) ?_
  refine st_nil ?_
  refine nx_then ?_
  refine cd_seq ?_
  refine cd_region ?_
  refine st_val (ro_move (v := .int _ _) rfl) ?_
  refine st_val (ro_geq rfl rfl) ?_
  refine st_val (ro_move (v := .bool _) rfl) ?_
  refine st_split (t := 7) rfl (fun Q1 => ?_) (fun Q1 => ?_)
  · (try first | replace Q1 := bn_t Q1 | replace Q1 := bn_f Q1)
    (try first | replace Q1 := bx_t Q1 | replace Q1 := bx_f Q1 | replace Q1 := be_t Q1 | replace Q1 := be_f Q1 | replace Q1 := of_decide_eq_true Q1 | replace Q1 := of_decide_eq_false Q1)
    first
     | (exfalso; first | omega | contradiction | (cases Q1; done))
     | skip
       refine st_unguard rfl ?_
       refine st_val (ro_move (v := .int _ _) rfl) ?_
       refine st_unguard rfl ?_
       refine st_val (ro_move (v := .pointer _) rfl) ?_
       refine st_unguard rfl ?_
       refine st_val (ro_nilCheck rfl) ?_
       refine st_unguard rfl ?_
       refine st_val (ro_fieldAddr WavTree_f45_2 rfl) ?_
       refine st_unguard rfl ?_
       refine st_val (ro_load WavTree_g3 rfl (by exact hT.rd 2 rfl)) ?_
       refine st_unguard rfl ?_
       refine st_val (ro_lss rfl rfl) ?_
       refine st_val (ro_pickT (v := .bool _) rfl rfl) ?_
       refine st_val (ro_assign (v := .bool _) rfl) ?_
       refine st_nil ?_
       refine nx_then ?_
       refine cd_ret ?_
       refine res1 (v := .bool _) rfl rfl ?_
       exact ⟨congrArg Value.bool (by first | (symm; rw [decide_eq_decide]; omega) | (rw [eq_comm, decide_eq_false_iff_not]; omega) | (simp; omega)), rfl⟩
  · (try first | replace Q1 := bn_t Q1 | replace Q1 := bn_f Q1)
    (try first | replace Q1 := bx_t Q1 | replace Q1 := bx_f Q1 | replace Q1 := be_t Q1 | replace Q1 := be_f Q1 | replace Q1 := of_decide_eq_true Q1 | replace Q1 := of_decide_eq_false Q1)
    first
     | (exfalso; first | omega | contradiction | (cases Q1; done))
     | skip
       refine st_gno rfl rfl ?_
       refine st_gno rfl rfl ?_
       refine st_gno rfl rfl ?_
       refine st_gno rfl rfl ?_
       refine st_gno rfl rfl ?_
       refine st_gno rfl rfl ?_
       refine st_val (ro_pickF (v := .bool _) rfl rfl) ?_
       refine st_val (ro_assign (v := .bool _) rfl) ?_
       refine st_nil ?_
       refine nx_then ?_
       refine cd_ret ?_
       refine res1 (v := .bool _) rfl rfl ?_
       exact ⟨congrArg Value.bool (by first | (symm; rw [decide_eq_decide]; omega) | (rw [eq_comm, decide_eq_false_iff_not]; omega) | (simp; omega)), rfl⟩
set_option maxRecDepth 100000 in
set_option maxHeartbeats 400000 in
theorem lessT (base b K : Nat) (L : List Nat) (w : World) (ht : TreeAt w base b K L) (c : Int) :
    Rt Tryd.prog 14 [.pointer (some ⟨b, 0, none⟩), .int .i64 c] w (fun v w' => v = .tuple #[.int .i64 (sV K L c), .int .i64 (sE K c)] ∧ w = w') := by
  obtain ⟨hb0, AT, cT, g, vs, hT, ho, hVs, hg0, hg2, hK1, hK2, hlt, hLl⟩ := ht
  refine enter (n := 29) Tryd.func14 rfl rfl rfl ?_
  refine cd_seq ?_
  refine cd_region ?_
  refine st_val (ro_assign (v := .int _ _) rfl) ?_
  refine st_val (ro_assign (v := .int _ _) rfl) ?_
  refine st_nil ?_
  refine nx_then ?_
  refine cd_seq ?_
  refine cd_seq ?_
  refine cd_region ?_
  refine st_val (ro_move (v := .int _ _) rfl) ?_
  refine st_val (ro_lss rfl rfl) ?_
  refine st_val (ro_move (v := .bool _) rfl) ?_
  refine st_split (t := 8) rfl (fun Q1 => ?_) (fun Q1 => ?_)
  · (try first | replace Q1 := bn_t Q1 | replace Q1 := bn_f Q1)
    (try first | replace Q1 := bx_t Q1 | replace Q1 := bx_f Q1 | replace Q1 := be_t Q1 | replace Q1 := be_f Q1 | replace Q1 := of_decide_eq_true Q1 | replace Q1 := of_decide_eq_false Q1)
    first
     | (exfalso; first | omega | contradiction | (cases Q1; done))
     | skip
       refine st_gno rfl rfl ?_
       refine st_gno rfl rfl ?_
       refine st_gno rfl rfl ?_
       refine st_gno rfl rfl ?_
       refine st_gno rfl rfl ?_
       refine st_gno rfl rfl ?_
       refine st_val (ro_pickT (v := .bool _) rfl rfl) ?_
       refine st_nil ?_
       refine nx_then ?_
       refine cd_condT rfl ?_
       refine cd_seq ?_
       refine cd_region ?_
       refine st_val (ro_assign (v := .int _ _) rfl) ?_
       refine st_val (ro_assign (v := .int _ _) rfl) ?_
       refine st_nil ?_
       refine nx_then ?_
       refine cd_ret ?_
       refine rt_then ?_
       refine res2 (v := .int _ _) (v' := .int _ _) rfl rfl rfl ?_
       refine ⟨?_, rfl⟩
       unfold sV sE
       rw [if_neg (by omega), if_neg (by omega)]
  · (try first | replace Q1 := bn_t Q1 | replace Q1 := bn_f Q1)
    (try first | replace Q1 := bx_t Q1 | replace Q1 := bx_f Q1 | replace Q1 := be_t Q1 | replace Q1 := be_f Q1 | replace Q1 := of_decide_eq_true Q1 | replace Q1 := of_decide_eq_false Q1)
    first
     | (exfalso; first | omega | contradiction | (cases Q1; done))
     | skip
       refine st_unguard rfl ?_
       refine st_val (ro_move (v := .int _ _) rfl) ?_
       refine st_unguard rfl ?_
       refine st_val (ro_move (v := .pointer _) rfl) ?_
       refine st_unguard rfl ?_
       refine st_val (ro_nilCheck rfl) ?_
       refine st_unguard rfl ?_
       refine st_val (ro_fieldAddr WavTree_f45_2 rfl) ?_
       refine st_unguard rfl ?_
       refine st_val (ro_load WavTree_g3 rfl (by exact hT.rd 2 rfl)) ?_
       refine st_unguard rfl ?_
       refine st_val (ro_gtr rfl rfl) ?_
       refine st_val (ro_pickF (v := .bool _) rfl rfl) ?_
       refine st_nil ?_
       refine nx_then ?_
       refine cd_cond rfl (fun Q2 => ?_) (fun Q2 => ?_)
       · (try first | replace Q2 := bn_t Q2 | replace Q2 := bn_f Q2)
         (try first | replace Q2 := bx_t Q2 | replace Q2 := bx_f Q2 | replace Q2 := be_t Q2 | replace Q2 := be_f Q2 | replace Q2 := of_decide_eq_true Q2 | replace Q2 := of_decide_eq_false Q2)
         first
          | (exfalso; first | omega | contradiction | (cases Q2; done))
          | skip
            refine cd_seq ?_
            refine cd_region ?_
            refine st_val (ro_assign (v := .int _ _) rfl) ?_
            refine st_val (ro_assign (v := .int _ _) rfl) ?_
            refine st_nil ?_
            refine nx_then ?_
            refine cd_ret ?_
            refine rt_then ?_
            refine res2 (v := .int _ _) (v' := .int _ _) rfl rfl rfl ?_
            refine ⟨?_, rfl⟩
            unfold sV sE
            rw [if_neg (by omega), if_neg (by omega)]
       · (try first | replace Q2 := bn_t Q2 | replace Q2 := bn_f Q2)
         (try first | replace Q2 := bx_t Q2 | replace Q2 := bx_f Q2 | replace Q2 := be_t Q2 | replace Q2 := be_f Q2 | replace Q2 := of_decide_eq_true Q2 | replace Q2 := of_decide_eq_false Q2)
         first
          | (exfalso; first | omega | contradiction | (cases Q2; done))
          | skip
            refine cd_skip ?_
            refine nx_then ?_
            refine cd_seq ?_
            refine cd_seq ?_
            refine cd_region ?_
            refine st_val (ro_move (v := .pointer _) rfl) ?_
            refine st_val (ro_nilCheck rfl) ?_
            refine st_val (ro_fieldAddr WavTree_f45_1 rfl) ?_
            refine st_val (ro_load WavTree_g22 rfl (by exact hT.rd 1 rfl)) ?_
            refine st_val (ro_len WavTree_l22 rfl) ?_
            refine st_val (ro_eql rfl rfl) ?_
            refine st_nil ?_
            refine nx_then ?_
            refine cd_cond rfl (fun Q3 => ?_) (fun Q3 => ?_)
            · (try first | replace Q3 := bn_t Q3 | replace Q3 := bn_f Q3)
              (try first | replace Q3 := bx_t Q3 | replace Q3 := bx_f Q3 | replace Q3 := be_t Q3 | replace Q3 := be_f Q3 | replace Q3 := of_decide_eq_true Q3 | replace Q3 := of_decide_eq_false Q3)
              first
               | (exfalso; first | omega | contradiction | (cases Q3; done))
               | skip
                 refine cd_seq ?_
                 refine cd_region ?_
                 refine st_val (ro_assign (v := .int _ _) rfl) ?_
                 refine st_val (ro_assign (v := .int _ _) rfl) ?_
                 refine st_nil ?_
                 refine nx_then ?_
                 refine cd_ret ?_
                 refine rt_then ?_
                 refine res2 (v := .int _ _) (v' := .int _ _) rfl rfl rfl ?_
                 exact ⟨rfl, From.rfl_⟩
            · (try first | replace Q3 := bn_t Q3 | replace Q3 := bn_f Q3)
              (try first | replace Q3 := bx_t Q3 | replace Q3 := bx_f Q3 | replace Q3 := be_t Q3 | replace Q3 := be_f Q3 | replace Q3 := of_decide_eq_true Q3 | replace Q3 := of_decide_eq_false Q3)
              first
               | (exfalso; first | omega | contradiction | (cases Q3; done))
               | skip
                 refine cd_skip ?_
                 refine nx_then ?_
                 refine cd_seq ?_
                 refine cd_region ?_
                 obtain ⟨q, rfl⟩ : ∃ q : Nat, c = (q : Int) := ⟨c.toNat, by omega⟩
                 refine st_val (ro_move (v := .pointer _) rfl) ?_
                 refine st_val (ro_nilCheck rfl) ?_
                 refine st_val (ro_fieldAddr WavTree_f45_1 rfl) ?_
                 refine st_val (ro_load WavTree_g22 rfl (by exact hT.rd 1 rfl)) ?_
                 refine st_val (ro_move (v := .int _ _) rfl) ?_
                 refine st_val (ro_indexAddr WavTree_e22 rfl rfl (by omega)) ?_
                 refine st_val (ro_load WavTree_g3 rfl (by rw [ix1]; exact hg2.rd q (tab_get (by omega)))) ?_
                 refine st_val (ro_assign (v := .int _ _) rfl) ?_
                 refine st_val (ro_assign (v := .int _ _) rfl) ?_
                 refine st_nil ?_
                 refine nx_then ?_
                 refine cd_ret ?_
                 refine res2 (v := .int _ _) (v' := .int _ _) rfl rfl rfl ?_
                 refine ⟨?_, rfl⟩
                 unfold sV sE
                 rw [if_pos (by omega), if_pos (by omega)]
                 rfl
set_option maxRecDepth 100000 in
set_option maxHeartbeats 400000 in
theorem accessT (base b K : Nat) (L : List Nat) (w : World) (ht : TreeAt w base b K L) (i : Int) :
    Rt Tryd.prog 16 [.pointer (some ⟨b, 0, none⟩), .int .i64 i] w (fun v w' => v = .tuple #[.int .i64 (aV L i), .int .i64 (aE L i)] ∧ From w w') := by
  have htt := ht
  obtain ⟨hb0, AT, cT, g, vs, hT, ho, hVs, hg0, hg2, hK1, hK2, hlt, hLl⟩ := ht
  refine enter (n := 47) Tryd.func16 rfl rfl rfl ?_
  refine cd_seq ?_
  refine cd_region ?_
  refine st_val (ro_assign (v := .int _ _) rfl) ?_
  refine st_val (ro_assign (v := .int _ _) rfl) ?_
  refine st_nil ?_
  refine nx_then ?_
  refine cd_seq ?_
  refine cd_seq ?_
  refine cd_region ?_
  refine st_val (ro_move (v := .int _ _) rfl) ?_
  refine st_val (ro_lss rfl rfl) ?_
  refine st_val (ro_move (v := .bool _) rfl) ?_
  refine st_split (t := 13) rfl (fun Q1 => ?_) (fun Q1 => ?_)
  · (try first | replace Q1 := bn_t Q1 | replace Q1 := bn_f Q1)
    (try first | replace Q1 := bx_t Q1 | replace Q1 := bx_f Q1 | replace Q1 := be_t Q1 | replace Q1 := be_f Q1 | replace Q1 := of_decide_eq_true Q1 | replace Q1 := of_decide_eq_false Q1)
    first
     | (exfalso; first | omega | contradiction | (cases Q1; done))
     | skip
       refine st_gno rfl rfl ?_
       refine st_gno rfl rfl ?_
       refine st_gno rfl rfl ?_
       refine st_gno rfl rfl ?_
       refine st_val (ro_pickT (v := .bool _) rfl rfl) ?_
       refine st_nil ?_
       refine nx_then ?_
       refine cd_condT rfl ?_
       refine cd_seq ?_
       refine cd_region ?_
       refine st_val (ro_assign (v := .int _ _) rfl) ?_
       refine st_val (ro_assign (v := .int _ _) rfl) ?_
       refine st_nil ?_
       refine nx_then ?_
       refine cd_ret ?_
       refine rt_then ?_
       refine res2 (v := .int _ _) (v' := .int _ _) rfl rfl rfl ?_
       refine ⟨?_, From.rfl_⟩
       unfold aV aE
       rw [if_neg (by omega), if_neg (by omega)]
  · (try first | replace Q1 := bn_t Q1 | replace Q1 := bn_f Q1)
    (try first | replace Q1 := bx_t Q1 | replace Q1 := bx_f Q1 | replace Q1 := be_t Q1 | replace Q1 := be_f Q1 | replace Q1 := of_decide_eq_true Q1 | replace Q1 := of_decide_eq_false Q1)
    first
     | (exfalso; first | omega | contradiction | (cases Q1; done))
     | skip
       refine st_unguard rfl ?_
       refine st_val (ro_move (v := .int _ _) rfl) ?_
       refine st_unguard rfl ?_
       refine st_val (ro_move (v := .pointer _) rfl) ?_
       refine st_unguard rfl ?_
       refine st_call WavTree_k28 (lenT base b K L _ (htt.from_ From.rfl_)) ?_
       rintro v16 w2 ⟨rfl, E16⟩
       refine st_unguard rfl ?_
       refine st_val (ro_geq rfl rfl) ?_
       refine st_val (ro_pickF (v := .bool _) rfl rfl) ?_
       refine st_nil ?_
       refine nx_then ?_
       refine cd_cond rfl (fun Q3 => ?_) (fun Q3 => ?_)
       · (try first | replace Q3 := bn_t Q3 | replace Q3 := bn_f Q3)
         (try first | replace Q3 := bx_t Q3 | replace Q3 := bx_f Q3 | replace Q3 := be_t Q3 | replace Q3 := be_f Q3 | replace Q3 := of_decide_eq_true Q3 | replace Q3 := of_decide_eq_false Q3)
         first
          | (exfalso; first | omega | contradiction | (cases Q3; done))
          | skip
            refine cd_seq ?_
            refine cd_region ?_
            refine st_val (ro_assign (v := .int _ _) rfl) ?_
            refine st_val (ro_assign (v := .int _ _) rfl) ?_
            refine st_nil ?_
            refine nx_then ?_
            refine cd_ret ?_
            refine rt_then ?_
            refine res2 (v := .int _ _) (v' := .int _ _) rfl rfl rfl ?_
            refine ⟨?_, (From.rfl_.next E16)⟩
            unfold aV aE
            rw [if_neg (by omega), if_neg (by omega)]
       · (try first | replace Q3 := bn_t Q3 | replace Q3 := bn_f Q3)
         (try first | replace Q3 := bx_t Q3 | replace Q3 := bx_f Q3 | replace Q3 := be_t Q3 | replace Q3 := be_f Q3 | replace Q3 := of_decide_eq_true Q3 | replace Q3 := of_decide_eq_false Q3)
         obtain ⟨q, rfl⟩ : ∃ q : Nat, i = (q : Int) := ⟨i.toNat, by omega⟩
         have hq : q < L.length := by omega
         obtain ⟨x, hxe⟩ : ∃ x, x = L[q] := ⟨_, rfl⟩
         have hxL : x ∈ L := hxe ▸ List.getElem_mem hq
         have hx2 : x < 2 ^ nlv K := Nat.lt_of_lt_of_le (hlt x hxL) (nlv_lt hK1 hK2)
         have hLx : lvl (nlv K) L 0 = L.take q ++ [x] ++ L.drop (q + 1) := by rw [hxe]; show L = _; simp
         first
          | (exfalso; first | omega | contradiction | (cases Q3; done))
          | skip
            refine cd_skip ?_
            refine nx_then ?_
            refine cd_seq ?_
            refine cd_region ?_
            refine st_val (ro_assign (v := .int _ _) rfl) ?_
            refine st_nil ?_
            refine nx_then ?_
            refine cd_seq ?_
            refine cd_seq ?_
            refine cd_region ?_
            refine st_val (ro_move (v := .pointer _) rfl) ?_
            refine st_val (ro_nilCheck rfl) ?_
            refine st_val (ro_fieldAddr WavTree_f45_0 rfl) ?_
            refine st_val (ro_load WavTree_g43 rfl (by exact (hT.from_ (From.rfl_.next E16)).rd 0 rfl)) ?_
            refine st_val (ro_len WavTree_l43 rfl) ?_
            refine st_val (ro_move (v := .int _ _) rfl) ?_
            refine st_nil ?_
            refine nx_then ?_
            refine cd_block ?_
            refine cd_loop (G := Nat × List Nat × List Nat) [8, 9, 10, 25, 26, 27, 28, 29, 30, 31, 32, 33, 34, 35, 36, 37, 38, 39, 40, 41, 42, 43, 44, 45] (fun (j, X, Z) => [(1, .int .i64 (X.length : Nat)), (6, .int .i64 (hiD (nlv K) x j : Nat)), (24, .int .i64 (j : Nat))]) (fun (j, X, Z) w' => j ≤ nlv K ∧ lvl (nlv K) L j = X ++ [x] ++ Z ∧ From w w') (fun (j, _, _) => nlv K - j) ((0, L.take q, L.drop (q + 1))) ⟨(int_eq (by rw [List.length_take]; omega)), (int_eq (by rw [hiD_zero hx2]; rfl)), rfl, trivial⟩ ?_ ?_
            · exact ⟨Nat.zero_le _, hLx, (From.rfl_.next E16)⟩
            rintro ⟨j, X, Z⟩ ρ4 w4 ⟨hj, hX, hB⟩
            refine cd_seq ?_
            refine cd_region ?_
            refine st_val (ro_lss rfl rfl) ?_
            refine st_nil ?_
            refine nx_then ?_
            refine cd_seq ?_
            refine cd_cond rfl (fun Q5 => ?_) (fun Q5 => ?_)
            · (try first | replace Q5 := bn_t Q5 | replace Q5 := bn_f Q5)
              (try first | replace Q5 := bx_t Q5 | replace Q5 := bx_f Q5 | replace Q5 := be_t Q5 | replace Q5 := be_f Q5 | replace Q5 := of_decide_eq_true Q5 | replace Q5 := of_decide_eq_false Q5)
              have hjn : j < nlv K := by omega
              obtain ⟨gA, rfl, hlv⟩ := lvls_own ho (by omega)
              first
               | (exfalso; first | omega | contradiction | (cases Q5; done))
               | skip
                 refine cd_skip ?_
                 refine nx_then ?_
                 refine cd_seq ?_
                 refine cd_block ?_
                 refine cd_seq ?_
                 refine cd_region ?_
                 refine st_val (ro_indexAddr WavTree_e43 rfl rfl (by omega)) ?_
                 refine st_val (ro_loadA (cs := [_, _, _]) WavTree_g49 WavTree_z49 rfl (by rw [ix3]; exact rangeF hB (hlv j hjn))) ?_
                 refine st_alloc WavTree_o49 ?_
                 intro b8 w6 E8 hb8 hk8
                 refine st_putW (vs := [_, _, _]) WavTree_z49 rfl rfl (by simp [Value.oneCell']) (hk8) rfl ?_
                 intro w7 O6 P6
                 refine st_nil ?_
                 refine nx_then ?_
                 refine cd_seq ?_
                 refine cd_region ?_
                 refine st_val (ro_fieldAddr WavTree_f49_0 rfl) ?_
                 refine st_val (ro_load WavTree_g47 rfl (by exact (P6.from_ From.rfl_).rd 0 rfl)) ?_
                 refine st_val (ro_move (v := .int _ _) rfl) ?_
                 refine st_call WavTree_k30 (get_x base (vs j) (nlv K - 1 - j) x X Z (lvl (nlv K) L j) _ ((hVs j hjn).from_ ((hB.next E8).only O6 (by rw [hb8]; exact hB.size))) hX) ?_
                 rintro v32 w8 ⟨rfl, rfl⟩
                 refine st_val (ro_move (v := .tuple _) rfl) ?_
                 refine st_val (ro_extract rfl rfl) ?_
                 refine st_val (ro_extract rfl rfl) ?_
                 refine st_val (ro_assign (v := .bool _) rfl) ?_
                 refine st_val (ro_assign (v := .int _ _) rfl) ?_
                 refine st_nil ?_
                 refine nx_then ?_
                 refine cd_seq ?_
                 refine cd_seq ?_
                 refine cd_region ?_
                 refine st_val (ro_move (v := .bool _) rfl) ?_
                 refine st_nil ?_
                 refine nx_then ?_
                 refine cd_cond rfl (fun Q9 => ?_) (fun Q9 => ?_)
                 · (try first | replace Q9 := bn_t Q9 | replace Q9 := bn_f Q9)
                   (try first | replace Q9 := bx_t Q9 | replace Q9 := bx_f Q9 | replace Q9 := be_t Q9 | replace Q9 := be_f Q9 | replace Q9 := of_decide_eq_true Q9 | replace Q9 := of_decide_eq_false Q9)
                   have hbb : bitN (nlv K - 1 - j) x = true := by unfold bitN; simpa using Q9
                   first
                    | (exfalso; first | omega | contradiction | (cases Q9; done))
                    | skip
                      refine cd_region ?_
                      refine st_val (ro_move (v := .int _ _) rfl) ?_
                      refine st_val (ro_fieldAddr WavTree_f49_2 rfl) ?_
                      refine st_val (ro_load WavTree_g3 rfl (by exact (P6.from_ From.rfl_).rd 2 rfl)) ?_
                      refine st_val (ro_shl1 (b := nlv K - 1 - j) rfl rfl (by have := nlv_le hK2; omega)) ?_
                      refine st_val (ro_orI (a := hiD (nlv K) x j) (b := 2 ^ (nlv K - 1 - j)) rfl rfl ⟨by have := hiD_le (nlv K) x j; have := hlt x hxL; omega, by have := Nat.pow_le_pow_right (n := 2) (by decide) (show nlv K - 1 - j ≤ 9 by have := nlv_le hK2; omega); omega⟩) ?_
                      refine st_val (ro_assign (v := .int _ _) rfl) ?_
                      refine st_nil ?_
                      refine nx_then ?_
                      refine cd_region ?_
                      refine st_val (ro_loadA (cs := [_, _, _]) WavTree_g49 WavTree_z49 rfl (by exact (P6.from_ From.rfl_).whole)) ?_
                      refine st_val (ro_move (v := .int _ _) rfl) ?_
                      refine st_val (ro_move (v := .bool _) rfl) ?_
                      refine st_call WavTree_k29 (down_x base (vs j) _ (nlv K - 1 - j) x X Z (lvl (nlv K) L j) _ ((hVs j hjn).from_ ((hB.next E8).only O6 (by rw [hb8]; exact hB.size))) hX rfl (by rw [lvl_len]; exact hLl)) ?_
                      rintro v44 w10 ⟨⟨X2, Z2, rfl, hP2⟩, E44⟩
                      refine st_val (ro_assign (v := .int _ _) rfl) ?_
                      refine st_nil ?_
                      refine nx_block ?_
                      refine nx_then ?_
                      refine cd_region ?_
                      refine st_val (ro_add64 rfl rfl (by have := nlv_le hK2; omega)) ?_
                      refine st_val (ro_move (v := .int _ _) rfl) ?_
                      refine st_nil ?_
                      refine nx_cut ((j + 1, X2, Z2)) ⟨rfl, (by first | exact int_eq (congrArg Nat.cast (dig_t hjn hbb)) | exact int_eq (congrArg Nat.cast (dig_f hjn hbb))), rfl, trivial⟩ (by (iterate 54 refine agr_cons rfl ?_); exact agr_rfl) ⟨?_, ?_⟩
                      · exact ⟨by omega, hP2, (((hB.next E8).only O6 (by rw [hb8]; exact hB.size)).next E44)⟩
                      · show nlv K - (j + 1) < nlv K - j; omega
                 · (try first | replace Q9 := bn_t Q9 | replace Q9 := bn_f Q9)
                   (try first | replace Q9 := bx_t Q9 | replace Q9 := bx_f Q9 | replace Q9 := be_t Q9 | replace Q9 := be_f Q9 | replace Q9 := of_decide_eq_true Q9 | replace Q9 := of_decide_eq_false Q9)
                   have hbb : bitN (nlv K - 1 - j) x = false := by unfold bitN; simpa using Q9
                   first
                    | (exfalso; first | omega | contradiction | (cases Q9; done))
                    | skip
                      refine cd_skip ?_
                      refine nx_then ?_
                      refine cd_region ?_
                      refine st_val (ro_loadA (cs := [_, _, _]) WavTree_g49 WavTree_z49 rfl (by exact (P6.from_ From.rfl_).whole)) ?_
                      refine st_val (ro_move (v := .int _ _) rfl) ?_
                      refine st_val (ro_move (v := .bool _) rfl) ?_
                      refine st_call WavTree_k29 (down_x base (vs j) _ (nlv K - 1 - j) x X Z (lvl (nlv K) L j) _ ((hVs j hjn).from_ ((hB.next E8).only O6 (by rw [hb8]; exact hB.size))) hX rfl (by rw [lvl_len]; exact hLl)) ?_
                      rintro v44 w11 ⟨⟨X2, Z2, rfl, hP2⟩, E44⟩
                      refine st_val (ro_assign (v := .int _ _) rfl) ?_
                      refine st_nil ?_
                      refine nx_block ?_
                      refine nx_then ?_
                      refine cd_region ?_
                      refine st_val (ro_add64 rfl rfl (by have := nlv_le hK2; omega)) ?_
                      refine st_val (ro_move (v := .int _ _) rfl) ?_
                      refine st_nil ?_
                      refine nx_cut ((j + 1, X2, Z2)) ⟨rfl, (by first | exact int_eq (congrArg Nat.cast (dig_t hjn hbb)) | exact int_eq (congrArg Nat.cast (dig_f hjn hbb))), rfl, trivial⟩ (by (iterate 48 refine agr_cons rfl ?_); exact agr_rfl) ⟨?_, ?_⟩
                      · exact ⟨by omega, hP2, (((hB.next E8).only O6 (by rw [hb8]; exact hB.size)).next E44)⟩
                      · show nlv K - (j + 1) < nlv K - j; omega
            · (try first | replace Q5 := bn_t Q5 | replace Q5 := bn_f Q5)
              (try first | replace Q5 := bx_t Q5 | replace Q5 := bx_f Q5 | replace Q5 := be_t Q5 | replace Q5 := be_f Q5 | replace Q5 := of_decide_eq_true Q5 | replace Q5 := of_decide_eq_false Q5)
              first
               | (exfalso; first | omega | contradiction | (cases Q5; done))
               | skip
                 refine cd_exit ?_
                 refine ex_then ?_
                 refine ex_then ?_
                 refine ex_block ?_
                 refine nx_then ?_
                 refine cd_seq ?_
                 refine cd_region ?_
                 refine st_val (ro_move (v := .int _ _) rfl) ?_
                 refine st_val (ro_assign (v := .int _ _) rfl) ?_
                 refine st_val (ro_assign (v := .int _ _) rfl) ?_
                 refine st_nil ?_
                 refine nx_then ?_
                 refine cd_ret ?_
                 refine res2 (v := .int _ _) (v' := .int _ _) rfl rfl rfl ?_
                 obtain rfl : j = nlv K := by omega
                 refine ⟨?_, hB⟩
                 unfold aV aE
                 rw [if_pos (by omega), if_pos (by omega), Int.toNat_natCast, List.getD_eq_getElem?_getD, List.getElem?_eq_getElem hq, ← hxe, hiD_all]
                 rfl
end Go.Proofs.YtmiclfhpenjjfaaDoor
