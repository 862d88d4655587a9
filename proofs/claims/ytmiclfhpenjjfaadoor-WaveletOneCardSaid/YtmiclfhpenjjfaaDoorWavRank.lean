/- wavelet: Rank. -/
import Derived.Test.YtmiclfhpenjjfaaDoorWavTree
namespace Go.Proofs.YtmiclfhpenjjfaaDoor
open Go.RowKit
open Go.ChangeShapes Go.WideShapes Go.ChangeAt
theorem WavRank_g49 : aggQ Tryd.prog 49 = some true := by kernel_rfl
theorem WavRank_z49 : sizeQ Tryd.prog 49 = some 3 := by kernel_rfl
theorem WavRank_kdown : callable Tryd.prog 29 = true := by kernel_rfl
theorem WavRank_k20 : callable Tryd.prog 20 = true := by kernel_rfl
theorem WavRank_k28 : callable Tryd.prog 28 = true := by kernel_rfl
theorem WavRank_f45_0 : fieldQ Tryd.prog 45 0 = some 0 := by kernel_rfl
theorem WavRank_g43 : aggQ Tryd.prog 43 = some false := by kernel_rfl
theorem WavRank_l43 : (elemQ Tryd.prog 43).isSome = true := by kernel_rfl
theorem WavRank_e43 : elemQ Tryd.prog 43 = some (49, 3) := by kernel_rfl
theorem WavRank_o49 : zeroQ Tryd.prog 49 = some (.agg #[.pointer none, .int .i64 0, .int .i64 0]) := by kernel_rfl
theorem WavRank_k23 : callable Tryd.prog 23 = true := by kernel_rfl
def cntC (L : List Nat) (c q : Nat) : Nat := (L.take q).countP fun x => decide (x = c)
def kE (K : Nat) (L : List Nat) (c i : Int) : Int := if 0 ≤ c ∧ c < K then (if 0 ≤ i ∧ i ≤ L.length then 0 else 3) else 1
def kV (K : Nat) (L : List Nat) (c i : Int) : Int := if 0 ≤ c ∧ c < K then (if 0 ≤ i ∧ i ≤ L.length then (cntC L c.toNat i.toNat : Nat) else 0) else 0
/-- those of the first ones that still go with c -/
def yL (L : List Nat) (q c n j : Nat) : List Nat := hiL (L.take q) c (n - j)
theorem yL_zero {L : List Nat} {q c n : Nat} (h : ∀ x ∈ L, x < 2 ^ n) (hc : c < 2 ^ n) : yL L q c n 0 = L.take q := hi_all _ _ _ (fun x hx => h x (List.mem_of_mem_take hx)) hc
theorem yL_step {L : List Nat} {q c n j : Nat} (hj : j < n) : (yL L q c n j).filter (fun x => bitN (n - 1 - j) x == bitN (n - 1 - j) c) = yL L q c n (j + 1) := by
  have h := hi_step (L.take q) c (n - 1 - j)
  unfold yL
  rw [show n - (j + 1) = n - 1 - j by omega, ← h, show n - 1 - j + 1 = n - j by omega]
theorem yL_all {L : List Nat} {q c n : Nat} : (yL L q c n n).length = cntC L c q := by
  unfold yL cntC
  rw [Nat.sub_self, hi_zero]
theorem seg_len {X Y Z M : List Nat} (h : M = X ++ Y ++ Z) : X.length + Y.length ≤ M.length := by rw [h]; simp
set_option maxRecDepth 100000 in
set_option maxHeartbeats 400000 in
theorem rankT (base b K : Nat) (L : List Nat) (w : World) (ht : TreeAt w base b K L) (c i : Int) :
    Rt Tryd.prog 15 [.pointer (some ⟨b, 0, none⟩), .int .i64 c, .int .i64 i] w (fun v w' => v = .tuple #[.int .i64 (kV K L c i), .int .i64 (kE K L c i)] ∧ From w w') := by
  have htt := ht
  obtain ⟨hb0, AT, cT, g, vs, hT, ho, hVs, hg0, hg2, hK1, hK2, hlt, hLl⟩ := ht
  refine enter (n := 48) Tryd.func15 rfl rfl rfl ?_
  refine cd_seq ?_
  refine cd_region ?_
  refine st_val (ro_assign (v := .int _ _) rfl) ?_
  refine st_val (ro_assign (v := .int _ _) rfl) ?_
  refine st_nil ?_
  refine nx_then ?_
  refine cd_seq ?_
  refine cd_seq ?_
  refine cd_region ?_
  refine st_val (ro_move (v := .pointer _) rfl) ?_
  refine st_val (ro_move (v := .int _ _) rfl) ?_
  refine st_call WavRank_k20 (knownT base b K L _ htt c) ?_
  rintro v14 w1 ⟨rfl, rfl⟩
  refine st_val (ro_not rfl) ?_
  refine st_nil ?_
  refine nx_then ?_
  refine cd_cond rfl (fun Q2 => ?_) (fun Q2 => ?_)
  · (try first | replace Q2 := bn_t Q2 | replace Q2 := bn_f Q2)
    (try first | replace Q2 := bx_t Q2 | replace Q2 := bx_f Q2 | replace Q2 := be_t Q2 | replace Q2 := be_f Q2 | replace Q2 := of_decide_eq_true Q2 | replace Q2 := of_decide_eq_false Q2)
    have hkn : ¬ (0 ≤ c ∧ c < (K : Nat)) := by simpa using Q2
    first
     | (exfalso; first | omega | contradiction | (cases Q2; done))
     | skip
       refine cd_seq ?_
       refine cd_region ?_
       refine st_val (ro_assign (v := .int _ _) rfl) ?_
       refine st_val (ro_assign (v := .int _ _) rfl) ?_
       refine st_nil ?_
       refine nx_then ?_
       refine cd_ret ?_
       refine rt_then ?_
       refine res2 (v := .int _ _) (v' := .int _ _) rfl rfl rfl ?_
       refine ⟨?_, From.rfl_⟩
       unfold kV kE
       rw [if_neg hkn, if_neg hkn]
  · (try first | replace Q2 := bn_t Q2 | replace Q2 := bn_f Q2)
    (try first | replace Q2 := bx_t Q2 | replace Q2 := bx_f Q2 | replace Q2 := be_t Q2 | replace Q2 := be_f Q2 | replace Q2 := of_decide_eq_true Q2 | replace Q2 := of_decide_eq_false Q2)
    have hkn : 0 ≤ c ∧ c < (K : Nat) := by simpa using Q2
    obtain ⟨cc, rfl⟩ : ∃ cc : Nat, c = (cc : Int) := ⟨c.toNat, by omega⟩
    first
     | (exfalso; first | omega | contradiction | (cases Q2; done))
     | skip
       refine cd_skip ?_
       refine nx_then ?_
       refine cd_seq ?_
       refine cd_seq ?_
       refine cd_region ?_
       refine st_val (ro_move (v := .int _ _) rfl) ?_
       refine st_val (ro_lss rfl rfl) ?_
       refine st_val (ro_move (v := .bool _) rfl) ?_
       refine st_split (t := 18) rfl (fun Q3 => ?_) (fun Q3 => ?_)
       · (try first | replace Q3 := bn_t Q3 | replace Q3 := bn_f Q3)
         (try first | replace Q3 := bx_t Q3 | replace Q3 := bx_f Q3 | replace Q3 := be_t Q3 | replace Q3 := be_f Q3 | replace Q3 := of_decide_eq_true Q3 | replace Q3 := of_decide_eq_false Q3)
         first
          | (exfalso; first | omega | contradiction | (cases Q3; done))
          | skip
            refine st_gno rfl rfl ?_
            refine st_gno rfl rfl ?_
            refine st_gno rfl rfl ?_
            refine st_gno rfl rfl ?_
            refine st_val (ro_pickT (v := .bool _) rfl rfl) ?_
            refine st_nil ?_
            refine nx_then ?_
            refine cd_condT rfl ?_
            refine cd_seq ?_
            refine cd_region ?_
            refine st_val (ro_assign (v := .int _ _) rfl) ?_
            refine st_val (ro_assign (v := .int _ _) rfl) ?_
            refine st_nil ?_
            refine nx_then ?_
            refine cd_ret ?_
            refine rt_then ?_
            refine res2 (v := .int _ _) (v' := .int _ _) rfl rfl rfl ?_
            refine ⟨?_, From.rfl_⟩
            unfold kV kE
            rw [if_pos hkn, if_pos hkn, if_neg (by omega), if_neg (by omega)]
       · (try first | replace Q3 := bn_t Q3 | replace Q3 := bn_f Q3)
         (try first | replace Q3 := bx_t Q3 | replace Q3 := bx_f Q3 | replace Q3 := be_t Q3 | replace Q3 := be_f Q3 | replace Q3 := of_decide_eq_true Q3 | replace Q3 := of_decide_eq_false Q3)
         first
          | (exfalso; first | omega | contradiction | (cases Q3; done))
          | skip
            refine st_unguard rfl ?_
            refine st_val (ro_move (v := .int _ _) rfl) ?_
            refine st_unguard rfl ?_
            refine st_val (ro_move (v := .pointer _) rfl) ?_
            refine st_unguard rfl ?_
            refine st_call WavRank_k28 (lenT base b K L _ (htt.from_ From.rfl_)) ?_
            rintro v21 w4 ⟨rfl, E21⟩
            refine st_unguard rfl ?_
            refine st_val (ro_gtr rfl rfl) ?_
            refine st_val (ro_pickF (v := .bool _) rfl rfl) ?_
            refine st_nil ?_
            refine nx_then ?_
            refine cd_cond rfl (fun Q5 => ?_) (fun Q5 => ?_)
            · (try first | replace Q5 := bn_t Q5 | replace Q5 := bn_f Q5)
              (try first | replace Q5 := bx_t Q5 | replace Q5 := bx_f Q5 | replace Q5 := be_t Q5 | replace Q5 := be_f Q5 | replace Q5 := of_decide_eq_true Q5 | replace Q5 := of_decide_eq_false Q5)
              first
               | (exfalso; first | omega | contradiction | (cases Q5; done))
               | skip
                 refine cd_seq ?_
                 refine cd_region ?_
                 refine st_val (ro_assign (v := .int _ _) rfl) ?_
                 refine st_val (ro_assign (v := .int _ _) rfl) ?_
                 refine st_nil ?_
                 refine nx_then ?_
                 refine cd_ret ?_
                 refine rt_then ?_
                 refine res2 (v := .int _ _) (v' := .int _ _) rfl rfl rfl ?_
                 refine ⟨?_, (From.rfl_.next E21)⟩
                 unfold kV kE
                 rw [if_pos hkn, if_pos hkn, if_neg (by omega), if_neg (by omega)]
            · (try first | replace Q5 := bn_t Q5 | replace Q5 := bn_f Q5)
              (try first | replace Q5 := bx_t Q5 | replace Q5 := bx_f Q5 | replace Q5 := be_t Q5 | replace Q5 := be_f Q5 | replace Q5 := of_decide_eq_true Q5 | replace Q5 := of_decide_eq_false Q5)
              obtain ⟨q, rfl⟩ : ∃ q : Nat, i = (q : Int) := ⟨i.toNat, by omega⟩
              have hy0 : yL L q cc (nlv K) 0 = L.take q := yL_zero (fun x hx => Nat.lt_of_lt_of_le (hlt x hx) (nlv_lt hK1 hK2)) (Nat.lt_of_lt_of_le (by omega) (nlv_lt hK1 hK2))
              first
               | (exfalso; first | omega | contradiction | (cases Q5; done))
               | skip
                 refine cd_skip ?_
                 refine nx_then ?_
                 refine cd_seq ?_
                 refine cd_region ?_
                 refine st_val (ro_assign (v := .int _ _) rfl) ?_
                 refine st_nil ?_
                 refine nx_then ?_
                 refine cd_seq ?_
                 refine cd_seq ?_
                 refine cd_region ?_
                 refine st_val (ro_move (v := .pointer _) rfl) ?_
                 refine st_val (ro_nilCheck rfl) ?_
                 refine st_val (ro_fieldAddr WavRank_f45_0 rfl) ?_
                 refine st_val (ro_load WavRank_g43 rfl (by exact (hT.from_ (From.rfl_.next E21)).rd 0 rfl)) ?_
                 refine st_val (ro_len WavRank_l43 rfl) ?_
                 refine st_val (ro_move (v := .int _ _) rfl) ?_
                 refine st_nil ?_
                 refine nx_then ?_
                 refine cd_block ?_
                 refine cd_loop (G := Nat × List Nat × List Nat) [10, 11, 30, 31, 32, 33, 34, 35, 36, 37, 38, 39, 40, 41, 42, 43, 44] (fun (j, X, Z) => [(2, .int .i64 ((X.length + (yL L q cc (nlv K) j).length : Nat) : Int)), (8, .int .i64 (X.length : Nat)), (29, .int .i64 (j : Nat))]) (fun (j, X, Z) w' => j ≤ nlv K ∧ lvl (nlv K) L j = X ++ (yL L q cc (nlv K) j) ++ Z ∧ From w w') (fun (j, _, _) => nlv K - j) ((0, [], L.drop q)) ⟨(int_eq (by rw [hy0, List.length_take, List.length_nil]; omega)), rfl, rfl, trivial⟩ ?_ ?_
                 · exact ⟨Nat.zero_le _, by rw [hy0]; show L = _; simp, (From.rfl_.next E21)⟩
                 rintro ⟨j, X, Z⟩ ρ6 w6 ⟨hj, hX, hB⟩
                 refine cd_seq ?_
                 refine cd_region ?_
                 refine st_val (ro_lss rfl rfl) ?_
                 refine st_nil ?_
                 refine nx_then ?_
                 refine cd_seq ?_
                 refine cd_cond rfl (fun Q7 => ?_) (fun Q7 => ?_)
                 · (try first | replace Q7 := bn_t Q7 | replace Q7 := bn_f Q7)
                   (try first | replace Q7 := bx_t Q7 | replace Q7 := bx_f Q7 | replace Q7 := be_t Q7 | replace Q7 := be_f Q7 | replace Q7 := of_decide_eq_true Q7 | replace Q7 := of_decide_eq_false Q7)
                   have hjn : j < nlv K := by omega
                   obtain ⟨gA, rfl, hlv⟩ := lvls_own ho (by omega)
                   obtain ⟨X2, Z2, hP2, hx2, hy2⟩ := seg_down (nlv K - 1 - j) X (yL L q cc (nlv K) j) Z (bitN (nlv K - 1 - j) cc)
                   rw [yL_step hjn] at hP2 hy2
                   rw [← hX] at hP2 hx2 hy2
                   have hsl := seg_len hX
                   first
                    | (exfalso; first | omega | contradiction | (cases Q7; done))
                    | skip
                      refine cd_skip ?_
                      refine nx_then ?_
                      refine cd_seq ?_
                      refine cd_block ?_
                      refine cd_seq ?_
                      refine cd_region ?_
                      refine st_val (ro_indexAddr WavRank_e43 rfl rfl (by omega)) ?_
                      refine st_val (ro_loadA (cs := [_, _, _]) WavRank_g49 WavRank_z49 rfl (by rw [ix3]; exact rangeF hB (hlv j hjn))) ?_
                      refine st_alloc WavRank_o49 ?_
                      intro b10 w8 E10 hb10 hk10
                      refine st_putW (vs := [_, _, _]) WavRank_z49 rfl rfl (by simp [Value.oneCell']) (hk10) rfl ?_
                      intro w9 O8 P8
                      refine st_nil ?_
                      refine nx_then ?_
                      refine cd_seq ?_
                      refine cd_region ?_
                      refine st_val (ro_loadA (cs := [_, _, _]) WavRank_g49 WavRank_z49 rfl (by exact (P8.from_ From.rfl_).whole)) ?_
                      refine st_val (ro_move (v := .int _ _) rfl) ?_
                      refine st_call WavRank_k23 (one_l (vs j) _ (nlv K - 1 - j) cc _ (by have := nlv_le hK2; omega) (by omega)) ?_
                      rintro v35 w10 ⟨rfl, E35⟩
                      have hB35 : From w w10 := (((hB.next E10).only O8 (by rw [hb10]; exact hB.size)).next E35)
                      have P8b := P8.from_ (From.rfl_.next E35)
                      refine st_val (ro_assign (v := .bool _) rfl) ?_
                      refine st_nil ?_
                      refine nx_then ?_
                      apply cd_drawnD 10 [(36, eqp (.agg (lvlV (vs j) (zerosL (nlv K - 1 - j) (lvl (nlv K) L j)).length (nlv K - 1 - j)).toArray)), (37, eqp _), (38, eqp _), (39, eqp (.int .i64 (X2.length : Nat))), (40, eqp (.agg (lvlV (vs j) (zerosL (nlv K - 1 - j) (lvl (nlv K) L j)).length (nlv K - 1 - j)).toArray)), (41, eqp _), (42, eqp _), (43, eqp (.int .i64 ((X2.length + (yL L q cc (nlv K) (j + 1)).length : Nat) : Int))), (8, eqp _), (2, eqp _)] (by repeat first | exact pq_body | refine pq_then ?_ | refine pq_block ?_) (by kernel_rfl) (by kernel_rfl) ⟨eqp_mono _, eqp_mono _, eqp_mono _, eqp_mono _, eqp_mono _, eqp_mono _, eqp_mono _, eqp_mono _, eqp_mono _, eqp_mono _, trivial⟩
                      case hop =>
                       refine ⟨?_, ?_⟩
                       · rintro - w12 D12
                         show OpOK _ _ _ _ _ _ _
                         exact ok_pure (ro_loadA (cs := (lvlV (vs j) (zerosL (nlv K - 1 - j) (lvl (nlv K) L j)).length (nlv K - 1 - j))) WavRank_g49 WavRank_z49 rfl ((P8b.from_ D12).whole)) rfl
                       refine ⟨?_, ?_⟩
                       · rintro - w13 D13
                         show OpOK _ _ _ _ _ _ _
                         exact ok_pure (ro_move (v := .int _ _) rfl) rfl
                       refine ⟨?_, ?_⟩
                       · rintro - w14 D14
                         show OpOK _ _ _ _ _ _ _
                         exact ok_pure (ro_move (v := .bool _) rfl) rfl
                       refine ⟨?_, ?_⟩
                       · rintro - w15 D15
                         rintro v15_36 rfl _ rfl _ rfl
                         show OpOK _ _ _ _ _ _ _
                         refine ok_call WavRank_kdown ((down_l base (vs j) _ (nlv K - 1 - j) X.length (lvl (nlv K) L j) _ ((hVs j hjn).from_ (hB35.next D15)) (by omega) rfl (by rw [lvl_len]; exact hLl) (bitN (nlv K - 1 - j) cc)).mono ?_)
                         rintro v w2 ⟨rfl, hE2⟩
                         exact ⟨hE2, by rw [hx2]; rfl⟩
                       refine ⟨?_, ?_⟩
                       · rintro - w16 D16
                         show OpOK _ _ _ _ _ _ _
                         exact ok_pure (ro_loadA (cs := (lvlV (vs j) (zerosL (nlv K - 1 - j) (lvl (nlv K) L j)).length (nlv K - 1 - j))) WavRank_g49 WavRank_z49 rfl ((P8b.from_ D16).whole)) rfl
                       refine ⟨?_, ?_⟩
                       · rintro - w17 D17
                         show OpOK _ _ _ _ _ _ _
                         exact ok_pure (ro_move (v := .int _ _) rfl) rfl
                       refine ⟨?_, ?_⟩
                       · rintro - w18 D18
                         show OpOK _ _ _ _ _ _ _
                         exact ok_pure (ro_move (v := .bool _) rfl) rfl
                       refine ⟨?_, ?_⟩
                       · rintro - w19 D19
                         rintro v19_40 rfl _ rfl _ rfl
                         show OpOK _ _ _ _ _ _ _
                         refine ok_call WavRank_kdown ((down_l base (vs j) _ (nlv K - 1 - j) (X.length + (yL L q cc (nlv K) j).length) (lvl (nlv K) L j) _ ((hVs j hjn).from_ (hB35.next D19)) (by omega) rfl (by rw [lvl_len]; exact hLl) (bitN (nlv K - 1 - j) cc)).mono ?_)
                         rintro v w2 ⟨rfl, hE2⟩
                         exact ⟨hE2, by rw [hy2]; rfl⟩
                       refine ⟨?_, ?_⟩
                       · rintro - w20 D20
                         rintro v20_39 rfl
                         show OpOK _ _ _ _ _ _ _
                         exact ok_pure (ro_assign (v := .int _ _) rfl) rfl
                       refine ⟨?_, ?_⟩
                       · rintro - w21 D21
                         rintro v21_43 rfl
                         show OpOK _ _ _ _ _ _ _
                         exact ok_pure (ro_assign (v := .int _ _) rfl) rfl
                       exact trivial
                      case hend =>
                       intro w22 D22
                       rintro v36 rfl _ rfl _ rfl v39 rfl v40 rfl _ rfl _ rfl v43 rfl _ rfl _ rfl
                       show St _ _ _ _ _ _ _
                       refine st_nil ?_
                       refine nx_block ?_
                       refine nx_then ?_
                       refine cd_region ?_
                       refine st_val (ro_add64 rfl rfl (by have := nlv_le hK2; omega)) ?_
                       refine st_val (ro_move (v := .int _ _) rfl) ?_
                       refine st_nil ?_
                       refine nx_cut ((j + 1, X2, Z2)) ⟨(by first | rfl | (refine int_eq ?_; omega)), (by first | rfl | (refine int_eq ?_; omega)), (by first | rfl | (refine int_eq ?_; omega)), trivial⟩ (by (iterate 40 refine agr_cons rfl ?_); exact agr_rfl) ⟨?_, ?_⟩
                       · exact ⟨by omega, hP2, ((((hB.next E10).only O8 (by rw [hb10]; exact hB.size)).next E35).next D22)⟩
                       · show nlv K - (j + 1) < nlv K - j; omega
                 · (try first | replace Q7 := bn_t Q7 | replace Q7 := bn_f Q7)
                   (try first | replace Q7 := bx_t Q7 | replace Q7 := bx_f Q7 | replace Q7 := be_t Q7 | replace Q7 := be_f Q7 | replace Q7 := of_decide_eq_true Q7 | replace Q7 := of_decide_eq_false Q7)
                   first
                    | (exfalso; first | omega | contradiction | (cases Q7; done))
                    | skip
                      refine cd_exit ?_
                      refine ex_then ?_
                      refine ex_then ?_
                      refine ex_block ?_
                      refine nx_then ?_
                      refine cd_seq ?_
                      refine cd_region ?_
                      refine st_val (ro_move (v := .int _ _) rfl) ?_
                      refine st_val (ro_move (v := .int _ _) rfl) ?_
                      refine st_val (ro_subN rfl rfl (by have hs7 := seg_len hX; rw [lvl_len] at hs7; omega)) ?_
                      refine st_val (ro_assign (v := .int _ _) rfl) ?_
                      refine st_val (ro_assign (v := .int _ _) rfl) ?_
                      refine st_nil ?_
                      refine nx_then ?_
                      refine cd_ret ?_
                      refine res2 (v := .int _ _) (v' := .int _ _) rfl rfl rfl ?_
                      obtain rfl : j = nlv K := by omega
                      have hya := yL_all (L := L) (q := q) (c := cc) (n := nlv K)
                      refine ⟨?_, hB⟩
                      unfold kV kE
                      rw [if_pos hkn, if_pos hkn, if_pos (by omega), if_pos (by omega), Int.toNat_natCast, Int.toNat_natCast, ← hya, Nat.add_sub_cancel_left]
end Go.Proofs.YtmiclfhpenjjfaaDoor
