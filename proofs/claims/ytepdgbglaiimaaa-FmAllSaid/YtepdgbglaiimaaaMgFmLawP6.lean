/- The law FmAll. -/
import Derived.Test.YtepdgbglaiimaaaMgFmLawP5
set_option maxRecDepth 100000
namespace Go.Proofs.Ytepdgbglaiimaaa
open Go.RowKit
open Go.ChangeShapes Go.WideShapes Go.ChangeAt
open Go.Proofs.Ytepdgbglaiimaaa.SA
theorem FmLawH_e22 : elemQ Try.prog 22 = some (3, 1) := by kernel_rfl
theorem FmLawH_g25 : aggQ Try.prog 25 = some true := by kernel_rfl
theorem FmLawH_z25 : sizeQ Try.prog 25 = some 4 := by kernel_rfl
theorem FmLawH_k8 : callable Try.prog 8 = true := by kernel_rfl
theorem FmLawH_f25_0 : fieldQ Try.prog 25 0 = some 0 := by kernel_rfl
theorem FmLawH_g3 : aggQ Try.prog 3 = some false := by kernel_rfl
theorem FmLawH_f25_1 : fieldQ Try.prog 25 1 = some 1 := by kernel_rfl
theorem FmLawH_g22 : aggQ Try.prog 22 = some false := by kernel_rfl
theorem FmLawH_k24 : callable Try.prog 24 = true := by kernel_rfl
theorem FmLawH_k15 : callable Try.prog 15 = true := by kernel_rfl
theorem FmLawH_p27 : Try.prog.underlying 27 = some (.pointer (Try.prog.pointee 27)) := by kernel_rfl
theorem FmLawH_k10 : callable Try.prog 10 = true := by kernel_rfl
theorem FmLawH_f25_2 : fieldQ Try.prog 25 2 = some 2 := by kernel_rfl
theorem FmLawH_g23 : aggQ Try.prog 23 = some false := by kernel_rfl
theorem FmLawH_l23 : (elemQ Try.prog 23).isSome = true := by kernel_rfl
theorem FmLawH_e23 : elemQ Try.prog 23 = some (22, 1) := by kernel_rfl
theorem FmLawH_k18 : callable Try.prog 18 = true := by kernel_rfl
theorem FmLawH_l22 : (elemQ Try.prog 22).isSome = true := by kernel_rfl
theorem FmLawH_k19 : callable Try.prog 19 = true := by kernel_rfl
theorem FmLawH_k14 : callable Try.prog 14 = true := by kernel_rfl
theorem row_pre {w : World} {A : Option Addr} {c m : Nat} {q : List Int} (h : RowOf iV w A q) : RowOf iV w (restOf A c 0 1) (q.take m) := fun h0 => by
  have hq : 0 < q.length := by rw [List.length_take] at h0; omega
  obtain ⟨b, o, rfl, hc⟩ := h hq
  refine ⟨b, o, by unfold restOf; split <;> simp [Addr.add], fun i hi => ?_⟩
  rw [List.length_take] at hi
  rw [hc i (by omega)]
  simp
open Classical in
theorem here1 {xs q : List Int} {L p : List Nat} {k : Nat} (hL : xs = cI L) (hpl : p.length = q.length) (hq : q = cI p) (hk : k + p.length ≤ L.length) : ((xs.drop k).take (k + q.length - k) = q) ↔ pBg (endT L) k p := by
  subst hL hq
  rw [← here_iff (show k ≤ L.length by omega), List.length_map]
  exact ⟨fun h => ⟨hk, h⟩, fun h => h.2⟩
theorem told1 {L p : List Nat} {k lf : Nat} (hl : lf = (fndL L p).length) (hk : k < L.length) (h : (fndTo L p k).length < lf) : ((((fndL L p).getD (fndTo L p k).length 0 : Nat) : Int) = (k : Nat)) ↔ pBg (endT L) k p := by
  rw [← told_iff hk]
  exact ⟨fun e => ⟨by omega, by omega⟩, fun e => by have := e.2; omega⟩
theorem told0 {L p : List Nat} {k lf : Nat} (hl : lf = (fndL L p).length) (hk : k < L.length) (h : ¬ (fndTo L p k).length < lf) : ¬ pBg (endT L) k p := fun hb => by
  have := ((told_iff hk).2 hb).1
  omega
set_option maxHeartbeats 4000000 in
theorem holds_law (k : Int) (A D B : Option Addr) (ca cp cb : Nat) (L : List Int) (ps : List (List Int)) (is : List Int) (w : World) (ha : AskF w k A D B L ps is) (hcap : L.length ≤ ca) :
    Rt Try.prog 6 [.agg #[.int .i64 k, .slice A L.length ca, .slice D ps.length cp, .slice B is.length cb]] w (fun v w' => v = .bool true ∧ From w w') := by
  have hlenP := ha.lenP
  have hlenL := ha.lenL
  classical
  refine enter (n := 138) Try.func6 rfl rfl rfl ?_
  refine cd_seq (cd_region ?_)
  refine st_box (v := .agg _) rfl ?_
  intro b1 w1 E1 hb1 hk1
  refine asb rfl ?_
  refine st_nil (nx_then (cd_seq (cd_seq (cd_region ?_))))
  refine st_val (ro_loadA (cs := [_, _, _, _]) FmLawH_g25 FmLawH_z25 rfl (by first | (first | exact (hP1.from_ From.rfl_).whole | exact (hP1.from_ From.rfl_).rd 0 rfl | exact (hP1.from_ From.rfl_).rd 1 rfl | exact (hP1.from_ From.rfl_).rd 2 rfl | exact (hP1.from_ From.rfl_).rd 3 rfl) | (first | exact (hk1.from_ From.rfl_).whole | exact (hk1.from_ From.rfl_).rd 0 rfl | exact (hk1.from_ From.rfl_).rd 1 rfl | exact (hk1.from_ From.rfl_).rd 2 rfl | exact (hk1.from_ From.rfl_).rd 3 rfl))) ?_
  refine st_call FmLawH_k8 (heavy_rt k A D B ca cp cb L ps is _ (ha.from_ (From.rfl_.next E1))) ?_
  rintro v16 w2 ⟨⟨hv, rfl, hli⟩, E16⟩
  refine st_nil (nx_then ?_)
  refine cd_cond rfl (fun Q3 => ?_) (fun Q3 => ?_)
  · refine cd_seq (cd_region ?_)
    refine asb rfl ?_
    refine st_nil (nx_then (cd_ret (rt_then ?_)))
    refine res1 (v := .bool _) rfl rfl ?_
    exact ⟨rfl, ((From.rfl_.next E1).next E16)⟩
  replace hli := hli (by simpa using Q3)
  have hl40 := hli.l
  have hp40 := hli.p
  have hi40 := hli.i
  refine cd_skip (nx_then (cd_seq (cd_region ?_)))
  refine st_val (ro_fieldAddr FmLawH_f25_0 rfl) ?_
  refine st_val (ro_load FmLawH_g3 rfl (by first | (first | exact (hP1.from_ (From.rfl_.next E16)).whole | exact (hP1.from_ (From.rfl_.next E16)).rd 0 rfl | exact (hP1.from_ (From.rfl_.next E16)).rd 1 rfl | exact (hP1.from_ (From.rfl_.next E16)).rd 2 rfl | exact (hP1.from_ (From.rfl_.next E16)).rd 3 rfl) | (first | exact (hk1.from_ (From.rfl_.next E16)).whole | exact (hk1.from_ (From.rfl_.next E16)).rd 0 rfl | exact (hk1.from_ (From.rfl_.next E16)).rd 1 rfl | exact (hk1.from_ (From.rfl_.next E16)).rd 2 rfl | exact (hk1.from_ (From.rfl_.next E16)).rd 3 rfl))) ?_
  refine st_val (ro_fieldAddr FmLawH_f25_1 rfl) ?_
  refine st_val (ro_load FmLawH_g22 rfl (by first | (first | exact (hP1.from_ (From.rfl_.next E16)).whole | exact (hP1.from_ (From.rfl_.next E16)).rd 0 rfl | exact (hP1.from_ (From.rfl_.next E16)).rd 1 rfl | exact (hP1.from_ (From.rfl_.next E16)).rd 2 rfl | exact (hP1.from_ (From.rfl_.next E16)).rd 3 rfl) | (first | exact (hk1.from_ (From.rfl_.next E16)).whole | exact (hk1.from_ (From.rfl_.next E16)).rd 0 rfl | exact (hk1.from_ (From.rfl_.next E16)).rd 1 rfl | exact (hk1.from_ (From.rfl_.next E16)).rd 2 rfl | exact (hk1.from_ (From.rfl_.next E16)).rd 3 rfl))) ?_
  have hz22 := (((From.rfl_.next E1).next E16)).size
  refine st_call FmLawH_k24 (build_rt k A ca L.length L _ (ha.rowL.from_ ((From.rfl_.next E1).next E16)) rfl (by omega)) ?_
  rintro v22 w4 ⟨hs22, E22⟩
  replace hk1 := hk1.from_ ((From.rfl_.next E16).next E22)
  rcases hs22 with ⟨hck, rfl⟩ | ⟨hck, K, b, a, Ln, Bs, F, rfl, hLn, hlt, hf, rfl⟩
  · refine mvt rfl ?_
    refine st_val (ro_extract rfl rfl) ?_
    refine st_val (ro_extract rfl rfl) ?_
    refine asp rfl ?_
    refine asi rfl ?_
    refine st_nil (nx_then (cd_seq (cd_seq (cd_region ?_))))
    refine mvi rfl ?_
    refine st_call FmLawH_k15 (num_any _ _) ?_
    rintro v26 w5 ⟨rfl, rfl⟩
    refine st_val (ro_neq rfl rfl) ?_
    refine st_nil (nx_then ?_)
    refine cd_cond rfl (fun Q6 => ?_) (fun Q6 => ?_)
    rotate_left
    · with_reducible replace Q6 := bx_f Q6
      exfalso; omega
    with_reducible replace Q6 := bx_t Q6
    refine cd_seq (cd_region ?_)
    refine mvp rfl ?_
    refine st_val (ro_eqlNil FmLawH_p27 rfl rfl) ?_
    refine mvb rfl ?_
    refine st_split (t := 30) rfl (fun Q31 => ?_) (fun Q31 => ?_)
    rotate_left
    · exfalso; contradiction
    refine st_unguard rfl ?_
    refine st_call FmLawH_k10 (wakes_rt _) ?_
    rintro v31 w32 ⟨rfl, E31⟩
    refine st_val (ro_pickT (v := .bool _) rfl rfl) ?_
    refine asb rfl ?_
    refine st_nil (nx_then (cd_ret (rt_then ?_)))
    refine res1 (v := .bool _) rfl rfl ?_
    exact ⟨rfl, ((((From.rfl_.next E1).next E16).next E22).next E31)⟩
  replace hf := hf.le hz22
  have hLl : Ln.length = L.length := by rw [hLn, List.length_map]
  have hSA := hf.2.1
  refine mvt rfl ?_
  refine st_val (ro_extract rfl rfl) ?_
  refine st_val (ro_extract rfl rfl) ?_
  refine asp rfl ?_
  refine asi rfl ?_
  refine st_nil (nx_then (cd_seq (cd_seq (cd_region ?_))))
  refine mvi rfl ?_
  refine st_call FmLawH_k15 (num_any _ _) ?_
  rintro v26 w33 ⟨rfl, rfl⟩
  refine st_val (ro_neq rfl rfl) ?_
  refine st_nil (nx_then ?_)
  refine cd_cond rfl (fun Q34 => ?_) (fun Q34 => ?_)
  · with_reducible replace Q34 := bx_t Q34
    exfalso; omega
  with_reducible replace Q34 := bx_f Q34
  refine cd_skip (nx_then (cd_seq (cd_seq (cd_region ?_))))
  refine asi rfl ?_
  refine st_nil (nx_then (cd_block ?_))
  refine cd_loop (G := Nat) [2, 6, 7, 8, 9, 10, 11, 12, 13, 14, 33, 34, 35, 36, 37, 38, 39, 40, 41, 42, 43, 44, 45, 46, 47, 48, 49, 50, 51, 52, 53, 54, 55, 56, 57, 58, 59, 60, 61, 62, 63, 64, 65, 66, 67, 68, 69, 70, 71, 72, 73, 74, 75, 76, 77, 78, 79, 80, 81, 82, 83, 84, 85, 86, 87, 88, 89, 90, 91, 92, 93, 94, 95, 96, 97, 98, 99, 100, 101, 102, 103, 104, 105, 106, 107, 108, 109, 110, 111, 112, 113, 114, 115, 116, 117, 118, 119, 120, 121, 122, 123, 124, 125, 126, 127, 128, 129, 130, 131, 132, 133, 134, 135, 136] (fun i => [(5, .int .i64 (i : Nat))]) (fun i w' => i ≤ ps.length ∧ FmAt w' w.heap.size b K a Ln Bs F ∧ Blk w' b1 25 #[.int .i64 (K : Nat), .slice A L.length ca, .slice D ps.length cp, .slice B is.length cb] ∧ From w w') (fun i => ps.length - i) (0) ⟨rfl, trivial⟩ ?_ ?_
  · exact ⟨Nat.zero_le _, hf.from_ From.rfl_, hk1.from_ From.rfl_, (((From.rfl_.next E1).next E16).next E22)⟩
  rintro i ρ37 w37 ⟨hi, hf, hP1, hB⟩
  refine cd_seq (cd_seq (cd_region ?_))
  refine mvi rfl ?_
  refine st_val (ro_fieldAddr FmLawH_f25_2 rfl) ?_
  refine st_val (ro_load FmLawH_g23 rfl (by first | (first | exact (hP1.from_ From.rfl_).whole | exact (hP1.from_ From.rfl_).rd 0 rfl | exact (hP1.from_ From.rfl_).rd 1 rfl | exact (hP1.from_ From.rfl_).rd 2 rfl | exact (hP1.from_ From.rfl_).rd 3 rfl) | (first | exact (hk1.from_ From.rfl_).whole | exact (hk1.from_ From.rfl_).rd 0 rfl | exact (hk1.from_ From.rfl_).rd 1 rfl | exact (hk1.from_ From.rfl_).rd 2 rfl | exact (hk1.from_ From.rfl_).rd 3 rfl))) ?_
  refine st_val (ro_len FmLawH_l23 rfl) ?_
  refine st_val (ro_lss rfl rfl) ?_
  refine st_nil (nx_then ?_)
  refine cd_cond rfl (fun Q38 => ?_) (fun Q38 => ?_)
  · with_reducible replace Q38 := of_decide_eq_true Q38
    obtain ⟨bD, oD, rfl, hcD⟩ := ha.pats (by omega)
    obtain ⟨A9, c9, hce, hr9, hce3⟩ := hcD i (by omega)
    have hq9 := hli.q i (by omega)
    obtain ⟨q, hq⟩ : ∃ q, q = ps[i] := ⟨_, rfl⟩
    rw [← hq] at hce hr9 hce3 hq9
    have hcap9 := hce3.2
    refine cd_skip (nx_then (cd_seq (cd_block (cd_seq (cd_region ?_)))))
    refine st_val (ro_fieldAddr FmLawH_f25_2 rfl) ?_
    refine st_val (ro_load FmLawH_g23 rfl (by first | (first | exact (hP1.from_ From.rfl_).whole | exact (hP1.from_ From.rfl_).rd 0 rfl | exact (hP1.from_ From.rfl_).rd 1 rfl | exact (hP1.from_ From.rfl_).rd 2 rfl | exact (hP1.from_ From.rfl_).rd 3 rfl) | (first | exact (hk1.from_ From.rfl_).whole | exact (hk1.from_ From.rfl_).rd 0 rfl | exact (hk1.from_ From.rfl_).rd 1 rfl | exact (hk1.from_ From.rfl_).rd 2 rfl | exact (hk1.from_ From.rfl_).rd 3 rfl))) ?_
    refine mvi rfl ?_
    refine st_val (ro_indexAddr1 FmLawH_e23 rfl rfl (by omega)) ?_
    refine st_val (ro_load FmLawH_g22 rfl (by exact cellF hB hce)) ?_
    refine ass rfl ?_
    refine st_nil (nx_then (cd_seq (cd_region ?_)))
    refine mvp rfl ?_
    refine mvs rfl ?_
    refine st_call FmLawH_k18 (find_d _ b K a Ln Bs F _ (hf.from_ From.rfl_) A9 c9 q.length q (hr9.from_ hB) rfl (by omega)) ?_
    rintro v48 w39 ⟨⟨A48, c48, rfl, ho48⟩, E48⟩
    have hr48 := (RowOf.own ho48).2
    refine mvt rfl ?_
    refine st_val (ro_extract rfl rfl) ?_
    refine st_val (ro_extract rfl rfl) ?_
    refine ass rfl ?_
    refine asi rfl ?_
    refine st_nil (nx_then (cd_seq (cd_seq (cd_region ?_))))
    refine mvi rfl ?_
    refine st_call FmLawH_k15 (num_any _ _) ?_
    rintro v52 w40 ⟨rfl, rfl⟩
    refine st_val (ro_neq rfl rfl) ?_
    refine st_nil (nx_then ?_)
    refine cd_cond rfl (fun Q41 => ?_) (fun Q41 => ?_)
    · with_reducible replace Q41 := bx_t Q41
      refine cd_exit ?_
      refine ex_then (ex_block (nx_then (cd_region ?_)))
      refine mvi rfl ?_
      refine st_val (ro_addN (b := 1) rfl rfl (by omega)) ?_
      refine asi rfl ?_
      refine st_nil ?_
      refine nx_cut (i + 1) ⟨(by first | rfl | (refine int_eq ?_; omega)), trivial⟩ (by (iterate 140 refine agr_cons rfl ?_); exact agr_rfl) ⟨?_, ?_⟩
      · exact ⟨by omega, hf.from_ (From.rfl_.next E48), hP1.from_ (From.rfl_.next E48), (hB.next E48)⟩
      · show ps.length - (i + 1) < ps.length - i; omega
    with_reducible replace Q41 := bx_f Q41
    have hz53 : askE (K : Nat) q = 0 := by omega
    obtain ⟨p, hqp, hp0, hpK⟩ := ask_nat hz53
    have hpl : p.length = q.length := by rw [hqp]; simp [cI]
    have hpp := List.length_pos_iff.2 hp0
    have hfd : fdL K Ln q = fndL Ln p := by unfold fdL; rw [if_pos hz53, hqp, cI_toNat]
    rw [hfd] at hr48
    have hfl : (fndL Ln p).length ≤ Ln.length := fndTo_le
    obtain ⟨lf, hlf⟩ : ∃ lf, lf = (fndL Ln p).length := ⟨_, rfl⟩
    have hlf2 : (fdL K Ln q).length = lf := by rw [hfd, hlf]
    refine cd_skip (nx_then (cd_seq (cd_region ?_)))
    refine asi rfl ?_
    refine st_nil (nx_then (cd_seq (cd_seq (cd_region ?_))))
    refine asi rfl ?_
    refine st_nil (nx_then (cd_block ?_))
    refine cd_loop (G := Nat) [2, 11, 12, 54, 55, 56, 57, 58, 59, 60, 61, 62, 63, 64, 65, 66, 67, 68, 69, 70, 71, 72, 73, 74, 75, 76, 77, 78, 79, 80, 81, 82, 83, 84, 85, 86, 87, 88, 89, 90, 91, 92, 93, 94, 95, 96, 97, 98] (fun k => [(9, .int .i64 ((fndTo Ln p k).length : Nat)), (10, .int .i64 (k : Nat))]) (fun k w' => k ≤ Ln.length ∧ FmAt w' w.heap.size b K a Ln Bs F ∧ RowOf iV w' A48 (cI (fndL Ln p)) ∧ Blk w' b1 25 #[.int .i64 (K : Nat), .slice A L.length ca, .slice (some ⟨bD, oD, none⟩) ps.length cp, .slice B is.length cb] ∧ From w w') (fun k => Ln.length - k) (0) ⟨rfl, rfl, trivial⟩ ?_ ?_
    · exact ⟨Nat.zero_le _, hf.from_ (From.rfl_.next E48), hr48, hP1.from_ (From.rfl_.next E48), (hB.next E48)⟩
    rintro k ρ42 w42 ⟨hk, hf, hr48, hP1, hB⟩
    have hft := fndTo_le (L := Ln) (p := p) (k := k)
    refine cd_seq (cd_seq (cd_region ?_))
    refine mvi rfl ?_
    refine st_val (ro_fieldAddr FmLawH_f25_1 rfl) ?_
    refine st_val (ro_load FmLawH_g22 rfl (by first | (first | exact (hP1.from_ From.rfl_).whole | exact (hP1.from_ From.rfl_).rd 0 rfl | exact (hP1.from_ From.rfl_).rd 1 rfl | exact (hP1.from_ From.rfl_).rd 2 rfl | exact (hP1.from_ From.rfl_).rd 3 rfl) | (first | exact (hk1.from_ From.rfl_).whole | exact (hk1.from_ From.rfl_).rd 0 rfl | exact (hk1.from_ From.rfl_).rd 1 rfl | exact (hk1.from_ From.rfl_).rd 2 rfl | exact (hk1.from_ From.rfl_).rd 3 rfl))) ?_
    refine st_val (ro_len FmLawH_l22 rfl) ?_
    refine st_val (ro_lss rfl rfl) ?_
    refine st_nil (nx_then ?_)
    refine cd_cond rfl (fun Q43 => ?_) (fun Q43 => ?_)
    · with_reducible replace Q43 := of_decide_eq_true Q43
      refine cd_skip (nx_then ?_)
      refine cd_cut (G := Nat) [2, 11, 12, 61, 62, 63, 64, 65, 66, 67, 68, 69, 70, 71, 72, 73, 74, 75, 76, 77, 78, 79, 80, 81, 82, 83, 84, 85, 86, 87, 88, 89, 90, 91, 92, 93, 94, 95, 96, 97, 98] (fun m => [(9, .int .i64 (m : Nat))]) (fun m w' => m = (fndTo Ln p (k + 1)).length ∧ FmAt w' w.heap.size b K a Ln Bs F ∧ RowOf iV w' A48 (cI (fndL Ln p)) ∧ Blk w' b1 25 #[.int .i64 (K : Nat), .slice A L.length ca, .slice (some ⟨bD, oD, none⟩) ps.length cp, .slice B is.length cb] ∧ From w w') ?_ ?_
      · refine cd_block (cd_seq (cd_region ?_))
        refine mvs rfl ?_
        refine st_val (ro_len FmLawH_l22 rfl) ?_
        refine st_val (ro_fieldAddr FmLawH_f25_1 rfl) ?_
        refine st_val (ro_load FmLawH_g22 rfl (by first | (first | exact (hP1.from_ From.rfl_).whole | exact (hP1.from_ From.rfl_).rd 0 rfl | exact (hP1.from_ From.rfl_).rd 1 rfl | exact (hP1.from_ From.rfl_).rd 2 rfl | exact (hP1.from_ From.rfl_).rd 3 rfl) | (first | exact (hk1.from_ From.rfl_).whole | exact (hk1.from_ From.rfl_).rd 0 rfl | exact (hk1.from_ From.rfl_).rd 1 rfl | exact (hk1.from_ From.rfl_).rd 2 rfl | exact (hk1.from_ From.rfl_).rd 3 rfl))) ?_
        refine st_val (ro_len FmLawH_l22 rfl) ?_
        refine mvi rfl ?_
        refine st_val (ro_subN rfl rfl (by omega)) ?_
        refine st_val (ro_leq rfl rfl) ?_
        refine mvb rfl ?_
        refine st_split (t := 69) rfl (fun Q44 => ?_) (fun Q44 => ?_)
        · with_reducible replace Q44 := of_decide_eq_true Q44
          have hkl : k + p.length ≤ Ln.length := by omega
          refine st_unguard rfl ?_
          refine st_val (ro_fieldAddr FmLawH_f25_1 rfl) ?_
          refine st_unguard rfl ?_
          refine st_val (ro_load FmLawH_g22 rfl (by first | (first | exact (hP1.from_ From.rfl_).whole | exact (hP1.from_ From.rfl_).rd 0 rfl | exact (hP1.from_ From.rfl_).rd 1 rfl | exact (hP1.from_ From.rfl_).rd 2 rfl | exact (hP1.from_ From.rfl_).rd 3 rfl) | (first | exact (hk1.from_ From.rfl_).whole | exact (hk1.from_ From.rfl_).rd 0 rfl | exact (hk1.from_ From.rfl_).rd 1 rfl | exact (hk1.from_ From.rfl_).rd 2 rfl | exact (hk1.from_ From.rfl_).rd 3 rfl))) ?_
          refine st_unguard rfl ?_
          refine mvi rfl ?_
          refine st_unguard rfl ?_
          refine mvi rfl ?_
          refine st_unguard rfl ?_
          refine mvs rfl ?_
          refine st_unguard rfl ?_
          refine st_val (ro_len FmLawH_l22 rfl) ?_
          refine st_unguard rfl ?_
          refine st_val (ro_addN rfl rfl (by omega)) ?_
          refine st_unguard rfl ?_
          refine st_val (ro_sliceO (l := k) (h := k + q.length) FmLawH_e22 rfl (.inr ⟨_, _, _, rfl, rfl, rfl⟩) (.inr ⟨_, _, _, rfl, rfl, rfl⟩) (by omega) (by omega)) ?_
          refine st_unguard rfl ?_
          refine mvs rfl ?_
          refine st_unguard rfl ?_
          refine st_call FmLawH_k19 (eq_n (restOf A ca k 1) A9 (ca - k) c9 (k + q.length - k) q.length ((L.drop k).take (k + q.length - k)) q _ (slice_row (ha.rowL.from_ hB) (by omega) (by omega) hcap) (hr9.from_ hB) (by rw [slice_len (by omega) (by omega)]) rfl (by omega)) ?_
          rintro v79 w45 ⟨rfl, E79⟩
          refine st_val (ro_pickT (v := .bool _) rfl rfl) ?_
          refine st_spell (t := 80) (v := .bool _) (v' := .bool (decide (pBg (endT Ln) k p))) rfl (by rw [hqp] at *; exact congrArg Value.bool (by first | exact decide_eq_decide.2 (here1 hLn hpl hqp hkl) | exact (decide_eq_false (fun hb => hkl (bg_le (by omega) hb))).symm)) ?_
          refine asb rfl ?_
          refine st_nil (nx_then (cd_seq (cd_region ?_)))
          refine mvi rfl ?_
          refine mvs rfl ?_
          refine st_val (ro_len FmLawH_l22 rfl) ?_
          refine st_val (ro_lss rfl rfl) ?_
          refine mvb rfl ?_
          refine st_split (t := 85) rfl (fun Q46 => ?_) (fun Q46 => ?_)
          · with_reducible replace Q46 := of_decide_eq_true Q46
            obtain ⟨b48, o48, rfl, hc48⟩ := rowD hr48 (by omega)
            have hct := hc48 (fndTo Ln p k).length (by omega)
            refine st_unguard rfl ?_
            refine mvs rfl ?_
            refine st_unguard rfl ?_
            refine mvi rfl ?_
            refine st_unguard rfl ?_
            refine st_val (ro_indexAddr1 FmLawH_e22 rfl rfl (by omega)) ?_
            refine st_unguard rfl ?_
            refine st_val (ro_load FmLawH_g3 rfl (by exact cellF (From.rfl_.next E79) hct)) ?_
            refine st_unguard rfl ?_
            refine mvi rfl ?_
            refine st_unguard rfl ?_
            refine st_val (ro_eql rfl rfl) ?_
            refine st_val (ro_pickT (v := .bool _) rfl rfl) ?_
            refine st_spell (t := 92) (v := .bool _) (v' := .bool (decide (pBg (endT Ln) k p))) rfl (by exact congrArg Value.bool (by first | exact decide_eq_decide.2 (told1 hlf (by omega) (by omega)) | exact (decide_eq_false (told0 hlf (by omega) (by omega))).symm)) ?_
            refine asb rfl ?_
            refine st_nil (nx_then (cd_seq (cd_seq (cd_region ?_))))
            refine mvb rfl ?_
            refine mvb rfl ?_
            refine st_val (ro_bf (ro_neqB (by kernel_rfl) rfl rfl) (bne_self_eq_false _)) ?_
            refine st_nil (nx_then ?_)
            refine cd_condF rfl ?_
            refine cd_skip (nx_then (cd_seq (cd_region ?_)))
            refine mvb rfl ?_
            refine st_nil (nx_then ?_)
            refine cd_cond rfl (fun Q47 => ?_) (fun Q47 => ?_)
            · with_reducible replace Q47 := of_decide_eq_true Q47
              have hy : pBg (endT Ln) k p := by simpa using Q47
              refine cd_region ?_
              refine mvi rfl ?_
              refine st_val (ro_addN (b := 1) rfl rfl (by omega)) ?_
              refine asi rfl ?_
              refine st_nil (nx_block ?_)
              refine nx_cut ((fndTo Ln p k).length + 1) ⟨(by first | rfl | (refine int_eq ?_; omega)), trivial⟩ (by (iterate 45 refine agr_cons rfl ?_); exact agr_rfl) ?_
              exact ⟨by rw [fndTo_yes hy]; simp, hf.from_ (From.rfl_.next E79), hr48.from_ (From.rfl_.next E79), hP1.from_ (From.rfl_.next E79), (hB.next E79)⟩
            with_reducible replace Q47 := of_decide_eq_false Q47
            have hy : ¬ pBg (endT Ln) k p := by simpa using Q47
            refine cd_skip (nx_block ?_)
            refine nx_cut ((fndTo Ln p k).length) ⟨(by first | rfl | (refine int_eq ?_; omega)), trivial⟩ (by (iterate 42 refine agr_cons rfl ?_); exact agr_rfl) ?_
            exact ⟨by rw [fndTo_no hy], hf.from_ (From.rfl_.next E79), hr48.from_ (From.rfl_.next E79), hP1.from_ (From.rfl_.next E79), (hB.next E79)⟩
          with_reducible replace Q46 := of_decide_eq_false Q46
          refine st_gno rfl rfl ?_
          refine st_gno rfl rfl ?_
          refine st_gno rfl rfl ?_
          refine st_gno rfl rfl ?_
          refine st_gno rfl rfl ?_
          refine st_gno rfl rfl ?_
          refine st_val (ro_pickF (v := .bool _) rfl rfl) ?_
          refine st_spell (t := 92) (v := .bool _) (v' := .bool (decide (pBg (endT Ln) k p))) rfl (by exact congrArg Value.bool (by first | exact decide_eq_decide.2 (told1 hlf (by omega) (by omega)) | exact (decide_eq_false (told0 hlf (by omega) (by omega))).symm)) ?_
          refine asb rfl ?_
          refine st_nil (nx_then (cd_seq (cd_seq (cd_region ?_))))
          refine mvb rfl ?_
          refine mvb rfl ?_
          refine st_val (ro_bf (ro_neqB (by kernel_rfl) rfl rfl) (bne_self_eq_false _)) ?_
          refine st_nil (nx_then ?_)
          refine cd_condF rfl ?_
          refine cd_skip (nx_then (cd_seq (cd_region ?_)))
          refine mvb rfl ?_
          refine st_nil (nx_then ?_)
          refine cd_cond rfl (fun Q48 => ?_) (fun Q48 => ?_)
          · with_reducible replace Q48 := of_decide_eq_true Q48
            have hy : pBg (endT Ln) k p := by simpa using Q48
            refine cd_region ?_
            refine mvi rfl ?_
            refine st_val (ro_addN (b := 1) rfl rfl (by omega)) ?_
            refine asi rfl ?_
            refine st_nil (nx_block ?_)
            refine nx_cut ((fndTo Ln p k).length + 1) ⟨(by first | rfl | (refine int_eq ?_; omega)), trivial⟩ (by (iterate 45 refine agr_cons rfl ?_); exact agr_rfl) ?_
            exact ⟨by rw [fndTo_yes hy]; simp, hf.from_ (From.rfl_.next E79), hr48.from_ (From.rfl_.next E79), hP1.from_ (From.rfl_.next E79), (hB.next E79)⟩
          with_reducible replace Q48 := of_decide_eq_false Q48
          have hy : ¬ pBg (endT Ln) k p := by simpa using Q48
          refine cd_skip (nx_block ?_)
          refine nx_cut ((fndTo Ln p k).length) ⟨(by first | rfl | (refine int_eq ?_; omega)), trivial⟩ (by (iterate 42 refine agr_cons rfl ?_); exact agr_rfl) ?_
          exact ⟨by rw [fndTo_no hy], hf.from_ (From.rfl_.next E79), hr48.from_ (From.rfl_.next E79), hP1.from_ (From.rfl_.next E79), (hB.next E79)⟩
        with_reducible replace Q44 := of_decide_eq_false Q44
        have hkl : ¬ k + p.length ≤ Ln.length := by omega
        refine st_gno rfl rfl ?_
        refine st_gno rfl rfl ?_
        refine st_gno rfl rfl ?_
        refine st_gno rfl rfl ?_
        refine st_gno rfl rfl ?_
        refine st_gno rfl rfl ?_
        refine st_gno rfl rfl ?_
        refine st_gno rfl rfl ?_
        refine st_gno rfl rfl ?_
        refine st_gno rfl rfl ?_
        refine st_val (ro_pickF (v := .bool _) rfl rfl) ?_
        refine st_spell (t := 80) (v := .bool _) (v' := .bool (decide (pBg (endT Ln) k p))) rfl (by rw [hqp] at *; exact congrArg Value.bool (by first | exact decide_eq_decide.2 (here1 hLn hpl hqp hkl) | exact (decide_eq_false (fun hb => hkl (bg_le (by omega) hb))).symm)) ?_
        refine asb rfl ?_
        refine st_nil (nx_then (cd_seq (cd_region ?_)))
        refine mvi rfl ?_
        refine mvs rfl ?_
        refine st_val (ro_len FmLawH_l22 rfl) ?_
        refine st_val (ro_lss rfl rfl) ?_
        refine mvb rfl ?_
        refine st_split (t := 85) rfl (fun Q49 => ?_) (fun Q49 => ?_)
        · with_reducible replace Q49 := of_decide_eq_true Q49
          obtain ⟨b48, o48, rfl, hc48⟩ := rowD hr48 (by omega)
          have hct := hc48 (fndTo Ln p k).length (by omega)
          refine st_unguard rfl ?_
          refine mvs rfl ?_
          refine st_unguard rfl ?_
          refine mvi rfl ?_
          refine st_unguard rfl ?_
          refine st_val (ro_indexAddr1 FmLawH_e22 rfl rfl (by omega)) ?_
          refine st_unguard rfl ?_
          refine st_val (ro_load FmLawH_g3 rfl (by exact cellF From.rfl_ hct)) ?_
          refine st_unguard rfl ?_
          refine mvi rfl ?_
          refine st_unguard rfl ?_
          refine st_val (ro_eql rfl rfl) ?_
          refine st_val (ro_pickT (v := .bool _) rfl rfl) ?_
          refine st_spell (t := 92) (v := .bool _) (v' := .bool (decide (pBg (endT Ln) k p))) rfl (by exact congrArg Value.bool (by first | exact decide_eq_decide.2 (told1 hlf (by omega) (by omega)) | exact (decide_eq_false (told0 hlf (by omega) (by omega))).symm)) ?_
          refine asb rfl ?_
          refine st_nil (nx_then (cd_seq (cd_seq (cd_region ?_))))
          refine mvb rfl ?_
          refine mvb rfl ?_
          refine st_val (ro_bf (ro_neqB (by kernel_rfl) rfl rfl) (bne_self_eq_false _)) ?_
          refine st_nil (nx_then ?_)
          refine cd_condF rfl ?_
          refine cd_skip (nx_then (cd_seq (cd_region ?_)))
          refine mvb rfl ?_
          refine st_nil (nx_then ?_)
          refine cd_cond rfl (fun Q50 => ?_) (fun Q50 => ?_)
          · with_reducible replace Q50 := of_decide_eq_true Q50
            have hy : pBg (endT Ln) k p := by simpa using Q50
            refine cd_region ?_
            refine mvi rfl ?_
            refine st_val (ro_addN (b := 1) rfl rfl (by omega)) ?_
            refine asi rfl ?_
            refine st_nil (nx_block ?_)
            refine nx_cut ((fndTo Ln p k).length + 1) ⟨(by first | rfl | (refine int_eq ?_; omega)), trivial⟩ (by (iterate 45 refine agr_cons rfl ?_); exact agr_rfl) ?_
            exact ⟨by rw [fndTo_yes hy]; simp, hf.from_ From.rfl_, hr48.from_ From.rfl_, hP1.from_ From.rfl_, hB⟩
          with_reducible replace Q50 := of_decide_eq_false Q50
          have hy : ¬ pBg (endT Ln) k p := by simpa using Q50
          refine cd_skip (nx_block ?_)
          refine nx_cut ((fndTo Ln p k).length) ⟨(by first | rfl | (refine int_eq ?_; omega)), trivial⟩ (by (iterate 42 refine agr_cons rfl ?_); exact agr_rfl) ?_
          exact ⟨by rw [fndTo_no hy], hf.from_ From.rfl_, hr48.from_ From.rfl_, hP1.from_ From.rfl_, hB⟩
        with_reducible replace Q49 := of_decide_eq_false Q49
        refine st_gno rfl rfl ?_
        refine st_gno rfl rfl ?_
        refine st_gno rfl rfl ?_
        refine st_gno rfl rfl ?_
        refine st_gno rfl rfl ?_
        refine st_gno rfl rfl ?_
        refine st_val (ro_pickF (v := .bool _) rfl rfl) ?_
        refine st_spell (t := 92) (v := .bool _) (v' := .bool (decide (pBg (endT Ln) k p))) rfl (by exact congrArg Value.bool (by first | exact decide_eq_decide.2 (told1 hlf (by omega) (by omega)) | exact (decide_eq_false (told0 hlf (by omega) (by omega))).symm)) ?_
        refine asb rfl ?_
        refine st_nil (nx_then (cd_seq (cd_seq (cd_region ?_))))
        refine mvb rfl ?_
        refine mvb rfl ?_
        refine st_val (ro_bf (ro_neqB (by kernel_rfl) rfl rfl) (bne_self_eq_false _)) ?_
        refine st_nil (nx_then ?_)
        refine cd_condF rfl ?_
        refine cd_skip (nx_then (cd_seq (cd_region ?_)))
        refine mvb rfl ?_
        refine st_nil (nx_then ?_)
        refine cd_cond rfl (fun Q51 => ?_) (fun Q51 => ?_)
        · with_reducible replace Q51 := of_decide_eq_true Q51
          have hy : pBg (endT Ln) k p := by simpa using Q51
          refine cd_region ?_
          refine mvi rfl ?_
          refine st_val (ro_addN (b := 1) rfl rfl (by omega)) ?_
          refine asi rfl ?_
          refine st_nil (nx_block ?_)
          refine nx_cut ((fndTo Ln p k).length + 1) ⟨(by first | rfl | (refine int_eq ?_; omega)), trivial⟩ (by (iterate 45 refine agr_cons rfl ?_); exact agr_rfl) ?_
          exact ⟨by rw [fndTo_yes hy]; simp, hf.from_ From.rfl_, hr48.from_ From.rfl_, hP1.from_ From.rfl_, hB⟩
        with_reducible replace Q51 := of_decide_eq_false Q51
        have hy : ¬ pBg (endT Ln) k p := by simpa using Q51
        refine cd_skip (nx_block ?_)
        refine nx_cut ((fndTo Ln p k).length) ⟨(by first | rfl | (refine int_eq ?_; omega)), trivial⟩ (by (iterate 42 refine agr_cons rfl ?_); exact agr_rfl) ?_
        exact ⟨by rw [fndTo_no hy], hf.from_ From.rfl_, hr48.from_ From.rfl_, hP1.from_ From.rfl_, hB⟩
      rintro m ρ52 w52 ⟨h20, hf, hr48, hP1, hB⟩
      refine cd_region ?_
      refine mvi rfl ?_
      refine st_val (ro_addN (b := 1) rfl rfl (by omega)) ?_
      refine asi rfl ?_
      refine st_nil ?_
      refine nx_cut (k + 1) ⟨(int_eq (by rw [h20])), rfl, trivial⟩ (by (iterate 100 refine agr_cons rfl ?_); exact agr_rfl) ⟨?_, ?_⟩
      · exact ⟨by omega, hf.from_ From.rfl_, hr48.from_ From.rfl_, hP1.from_ From.rfl_, hB⟩
      · show Ln.length - (k + 1) < Ln.length - k; omega
    with_reducible replace Q43 := of_decide_eq_false Q43
    refine cd_exit ?_
    refine ex_then (ex_then (ex_block (nx_then (cd_seq (cd_seq (cd_region ?_))))))
    refine mvi rfl ?_
    refine mvs rfl ?_
    refine st_val (ro_len FmLawH_l22 rfl) ?_
    refine st_val (ro_bf (ro_neq rfl rfl) (by have hkn : k = Ln.length := (by omega); rw [hkn, hlf2, hlf]; exact bne_self_eq_false _)) ?_
    refine st_nil (nx_then ?_)
    refine cd_condF rfl ?_
    refine cd_skip (nx_then (cd_seq (cd_region ?_)))
    refine mvp rfl ?_
    refine mvs rfl ?_
    refine mvs rfl ?_
    refine st_val (ro_len FmLawH_l22 rfl) ?_
    refine st_val (ro_sub64 rfl rfl (by omega)) ?_
    refine st_val (ro_sliceO (l := 0) (h := q.length - 1) FmLawH_e22 rfl (.inl ⟨rfl, rfl⟩) (.inr ⟨_, _, _, rfl, rfl, by omega⟩) (by omega) (by omega)) ?_
    refine st_call FmLawH_k14 (hits_d _ b K a Ln Bs F _ (hf.from_ From.rfl_) (restOf A9 c9 0 1) (c9 - 0) (q.length - 1 - 0) (q.take (q.length - 1)) (row_pre (hr9.from_ hB)) (by rw [List.length_take]; omega) (by omega)) ?_
    rintro v110 w53 ⟨rfl, E110⟩
    refine mvt rfl ?_
    refine st_val (ro_extract rfl rfl) ?_
    refine st_val (ro_extract rfl rfl) ?_
    refine asi rfl ?_
    refine asi rfl ?_
    refine st_nil (nx_then (cd_seq (cd_region ?_)))
    refine mvs rfl ?_
    refine st_val (ro_len FmLawH_l22 rfl) ?_
    refine st_val (ro_gtr rfl rfl) ?_
    refine mvb rfl ?_
    refine st_split (t := 116) rfl (fun Q54 => ?_) (fun Q54 => ?_)
    · with_reducible replace Q54 := of_decide_eq_true Q54
      have h1q : 1 < q.length := by omega
      obtain ⟨he0, hge⟩ := less_one (K := K) hSA hpK (show 1 < p.length by omega)
      rw [hpl, show cI p = q from hqp.symm] at he0 hge
      refine st_unguard rfl ?_
      refine mvi rfl ?_
      refine st_unguard rfl ?_
      refine st_call FmLawH_k15 (num_any _ _) ?_
      rintro v118 w55 ⟨rfl, rfl⟩
      refine st_unguard rfl ?_
      refine st_val (ro_bf (ro_neq rfl rfl) (by rw [he0]; rfl)) ?_
      refine st_unguard rfl ?_
      refine mvb rfl ?_
      refine st_unguard rfl ?_
      refine mvi rfl ?_
      refine st_unguard rfl ?_
      refine mvs rfl ?_
      refine st_unguard rfl ?_
      refine st_val (ro_len FmLawH_l22 rfl) ?_
      refine st_unguard rfl ?_
      refine st_val (ro_bf (ro_lss rfl rfl) (decide_eq_false (by omega))) ?_
      refine st_unguard rfl ?_
      refine st_val (ro_pickF (v := .bool _) rfl rfl) ?_
      refine st_val (ro_pickT (v := .bool _) rfl rfl) ?_
      refine mvb rfl ?_
      refine st_unguard rfl ?_
      refine mvs rfl ?_
      refine st_unguard rfl ?_
      refine st_val (ro_len FmLawH_l22 rfl) ?_
      refine st_unguard rfl ?_
      refine st_val (ro_eql rfl rfl) ?_
      refine st_unguard rfl ?_
      refine mvb rfl ?_
      refine st_split (t := 131) rfl (fun Q56 => ?_) (fun Q56 => ?_)
      · with_reducible replace Q56 := of_decide_eq_true Q56
        exfalso; omega
      with_reducible replace Q56 := of_decide_eq_false Q56
      refine st_gno rfl rfl ?_
      refine st_gno rfl rfl ?_
      refine st_gno rfl rfl ?_
      refine st_unguard rfl ?_
      refine st_val (ro_pickF (v := .bool _) rfl rfl) ?_
      refine st_val (ro_pickF (v := .bool _) rfl rfl) ?_
      refine st_nil (nx_then ?_)
      refine cd_condF rfl ?_
      refine cd_skip (nx_block (nx_then (cd_region ?_)))
      refine mvi rfl ?_
      refine st_val (ro_addN (b := 1) rfl rfl (by omega)) ?_
      refine asi rfl ?_
      refine st_nil ?_
      refine nx_cut (i + 1) ⟨(by first | rfl | (refine int_eq ?_; omega)), trivial⟩ (by (iterate 239 refine agr_cons rfl ?_); exact agr_rfl) ⟨?_, ?_⟩
      · exact ⟨by omega, hf.from_ (From.rfl_.next E110), hP1.from_ (From.rfl_.next E110), (hB.next E110)⟩
      · show ps.length - (i + 1) < ps.length - i; omega
    with_reducible replace Q54 := of_decide_eq_false Q54
    have h1q : q.length = 1 := by omega
    refine st_gno rfl rfl ?_
    refine st_gno rfl rfl ?_
    refine st_gno rfl rfl ?_
    refine st_gno rfl rfl ?_
    refine st_gund rfl ?_
    refine st_gund rfl ?_
    refine st_gund rfl ?_
    refine st_gund rfl ?_
    refine st_gno rfl rfl ?_
    refine st_val (ro_pickF (v := .bool _) rfl rfl) ?_
    refine mvb rfl ?_
    refine st_unguard rfl ?_
    refine mvs rfl ?_
    refine st_unguard rfl ?_
    refine st_val (ro_len FmLawH_l22 rfl) ?_
    refine st_unguard rfl ?_
    refine st_val (ro_eql rfl rfl) ?_
    refine st_unguard rfl ?_
    refine mvb rfl ?_
    refine st_split (t := 131) rfl (fun Q58 => ?_) (fun Q58 => ?_)
    rotate_left
    · with_reducible replace Q58 := of_decide_eq_false Q58
      exfalso; omega
    with_reducible replace Q58 := of_decide_eq_true Q58
    refine st_unguard rfl ?_
    refine mvi rfl ?_
    refine st_unguard rfl ?_
    refine st_call FmLawH_k15 (num_any _ _) ?_
    rintro v133 w59 ⟨rfl, rfl⟩
    refine st_unguard rfl ?_
    refine st_val (ro_bf (ro_neq rfl rfl) (by rw [h1q]; rfl)) ?_
    refine st_unguard rfl ?_
    refine st_val (ro_pickT (v := .bool _) rfl rfl) ?_
    refine st_val (ro_pickF (v := .bool _) rfl rfl) ?_
    refine st_nil (nx_then ?_)
    refine cd_condF rfl ?_
    refine cd_skip (nx_block (nx_then (cd_region ?_)))
    refine mvi rfl ?_
    refine st_val (ro_addN (b := 1) rfl rfl (by omega)) ?_
    refine asi rfl ?_
    refine st_nil ?_
    refine nx_cut (i + 1) ⟨(by first | rfl | (refine int_eq ?_; omega)), trivial⟩ (by (iterate 239 refine agr_cons rfl ?_); exact agr_rfl) ⟨?_, ?_⟩
    · exact ⟨by omega, hf.from_ (From.rfl_.next E110), hP1.from_ (From.rfl_.next E110), (hB.next E110)⟩
    · show ps.length - (i + 1) < ps.length - i; omega
  with_reducible replace Q38 := of_decide_eq_false Q38
  refine cd_exit ?_
  refine ex_then (ex_then (ex_block (nx_then (cd_seq (cd_region ?_)))))
  refine st_call FmLawH_k10 (wakes_rt _) ?_
  rintro v137 w60 ⟨rfl, E137⟩
  refine asb rfl ?_
  refine st_nil (nx_then (cd_ret ?_))
  refine res1 (v := .bool _) rfl rfl ?_
  exact ⟨rfl, (hB.next E137)⟩
theorem holds_arg (cs : Array Value) (x : (Ty.pr (.int .i64) (.pr (.sl (.int .i64)) (.pr (.sl (.sl (.int .i64))) (.pr (.sl (.int .i64)) .unit)))).den) (w : World) (hs : cs.size = 4) (h : (Ty.pr (.int .i64) (.pr (.sl (.int .i64)) (.pr (.sl (.sl (.int .i64))) (.pr (.sl (.int .i64)) .unit)))).At w (fun j => cs[j]?) x) :
    Rt Try.prog 6 [.agg cs] w fun v w' => v = .bool true ∧ From w w' := by
  obtain ⟨k, A, ca, L, D, cp, ps, B, cb, is, rfl, ha, hcap⟩ := ask_of6 hs h
  exact holds_law k A D B ca cp cb L ps is w ha hcap
theorem FmHolds_lifted (os : Os) (started : os.Started) (H : Type) (enc : TypeId × Value → H) :
    ReturnsInHanded {} Try.checked os 6 .any (Rows.fmHoldsSpec.pre6 enc Try.prog Try.f6 Rows.fmHoldsRow.domain false) (Rows.fmHoldsSpec.post enc Try.prog Try.f6 false true false false) := by
  refine returnsInHanded_of_change_sized (C := Try.checked) Try.own started (by kernel_rfl) Try.func6
    (ChangeSpec.witness6 (enc := enc) (C := Try.checked) false ⟨#[], #[.agg #[.int .i64 0, .slice none 0 0, .slice none 0 0, .slice none 0 0]], []⟩ 8 (by kernel_rfl) (by kernel_rfl) (by kernel_rfl) (by kernel_rfl)) ?_
  intro W base args ds gs before hval hW _ hsz _
  exact law_step 6 Try.f6 25 4 Rows.fmHoldsSpec Try.params6 (by kernel_rfl) Try.underlying4 rfl (fun _ => rfl) (by kernel_rfl) (of_decide_eq_true (by kernel_rfl)) (walk_struct (.int .i64) (.pr (.sl (.int .i64)) (.pr (.sl (.sl (.int .i64))) (.pr (.sl (.int .i64)) .unit))) (by kernel_rfl) holds_arg) W base args ds gs before hval hW hsz

theorem FmHolds_holds : Rows.FmHoldsSaid :=
  OpenClaim.holds_of_wide 6 Try.f6 rfl rfl rfl rfl rfl rfl rfl ⟨rfl, rfl, rfl, rfl, rfl⟩ rfl rfl rfl rfl rfl (by kernel_rfl) Try.func6 (by kernel_rfl)
    (of_decide_eq_true (by kernel_rfl)) (by unfold Func.isWrapper; first | (rw [if_pos (by decide +kernel)]; kernel_rfl) | (rw [if_neg (by decide +kernel)]; exact ⟨rfl, rfl⟩))
    (fun os started H enc _ => FmHolds_lifted os started H enc)
#print axioms FmHolds_holds

end Go.Proofs.Ytepdgbglaiimaaa

namespace Go.Proofs.Ytepdgbglaiimaaa
open Go.RowKit
open Go.ChangeShapes Go.WideShapes Go.ChangeAt
open Go.Proofs.Ytepdgbglaiimaaa.SA
theorem FmLawA_e22 : elemQ Try.prog 22 = some (3, 1) := by kernel_rfl
theorem FmLawA_g25 : aggQ Try.prog 25 = some true := by kernel_rfl
theorem FmLawA_z25 : sizeQ Try.prog 25 = some 4 := by kernel_rfl
theorem FmLawA_k8 : callable Try.prog 8 = true := by kernel_rfl
theorem FmLawA_f25_1 : fieldQ Try.prog 25 1 = some 1 := by kernel_rfl
theorem FmLawA_g22 : aggQ Try.prog 22 = some false := by kernel_rfl
theorem FmLawA_l22 : (elemQ Try.prog 22).isSome = true := by kernel_rfl
theorem FmLawA_f25_0 : fieldQ Try.prog 25 0 = some 0 := by kernel_rfl
theorem FmLawA_g3 : aggQ Try.prog 3 = some false := by kernel_rfl
theorem FmLawA_k24 : callable Try.prog 24 = true := by kernel_rfl
theorem FmLawA_k15 : callable Try.prog 15 = true := by kernel_rfl
theorem FmLawA_p27 : Try.prog.underlying 27 = some (.pointer (Try.prog.pointee 27)) := by kernel_rfl
theorem FmLawA_k10 : callable Try.prog 10 = true := by kernel_rfl
theorem FmLawA_k18 : callable Try.prog 18 = true := by kernel_rfl
theorem FmLawA_k25 : callable Try.prog 25 = true := by kernel_rfl
theorem FmLawA_k26 : callable Try.prog 26 = true := by kernel_rfl
theorem FmLawA_q22 : litQ Try.prog 22 = some (3, 1, 8, (.int .i64 0)) := by kernel_rfl
theorem FmLawA_k19 : callable Try.prog 19 = true := by kernel_rfl
theorem FmLawA_k14 : callable Try.prog 14 = true := by kernel_rfl
theorem part_all {xs : List Int} {L : List Nat} {K i n : Nat} (hL : xs = cI L) (hs : ∀ x ∈ L, x < K) (hi : i + n ≤ L.length) (hn : 0 < n) : askE (K : Nat) ((xs.drop i).take (i + n - i)) = 0 ∧ ((i : Nat) : Int) ∈ cI (fdL K L ((xs.drop i).take (i + n - i))) ∧ (fdL K L ((xs.drop i).take (i + n - i))).Pairwise (· < ·) := by
  have e : (xs.drop i).take (i + n - i) = cI ((L.drop i).take n) := by rw [hL, Nat.add_sub_cancel_left, cI, ← List.map_drop, ← List.map_take]
  have h0 : (L.drop i).take n ≠ [] := fun h => by
    have := congrArg List.length h
    rw [List.length_take, List.length_drop, List.length_nil] at this
    omega
  have hK : ∀ x ∈ (L.drop i).take n, x < K := fun x hx => hs x (List.mem_of_mem_drop (List.mem_of_mem_take hx))
  have ha := ask_good h0 hK
  rw [e]
  refine ⟨ha, ?_, ?_⟩
  · unfold fdL
    rw [if_pos ha, cI_toNat]
    exact List.mem_map.2 ⟨i, fnd_part hi hn, rfl⟩
  · unfold fdL
    rw [if_pos ha, cI_toNat]
    exact fndL_asc _ _
theorem whole_all {xs : List Int} {L : List Nat} {K : Nat} (hL : xs = cI L) (hs : ∀ x ∈ L, x < K) (h : 0 < xs.length) : askE (K : Nat) xs = 0 ∧ fdL K L xs = [0] := by
  subst hL
  rw [List.length_map] at h
  have h0 : L ≠ [] := List.length_pos_iff.1 h
  have ha := ask_good h0 hs
  refine ⟨ha, ?_⟩
  unfold fdL
  rw [if_pos ha, cI_toNat]
  exact fnd_whole h0
theorem one_ask {c K : Nat} (h : c < K) : askE (K : Nat) [((c : Nat) : Int)] = 0 := ask_good (p := [c]) (by simp) (by simpa using h)
theorem one_eq {xs : List Int} {L F : List Nat} {K c : Nat} {r : Int} (hL : xs = cI L) (hS : IsSA L F) (hc : c < K) (hr : 0 ≤ r ↔ ((c : Nat) : Int) ∈ xs) : ((rsT K L [((c : Nat) : Int)] - rsF K L [((c : Nat) : Int)] == 0) != decide (r < 0)) = false := by
  have h := hits_cnt (K := K) hS (p := [c]) (by simp) (by simpa using hc)
  rw [show ([((c : Nat) : Int)] : List Int) = cI [c] from rfl, h]
  have h1 := fnd_one (L := L) (c := c)
  have h2 : ((c : Nat) : Int) ∈ xs ↔ c ∈ L := by
    rw [hL]
    refine ⟨fun hm => ?_, fun hm => List.mem_map.2 ⟨c, hm, rfl⟩⟩
    obtain ⟨x, hx, e⟩ := List.mem_map.1 hm
    obtain rfl : x = c := by omega
    exact hx
  by_cases hm : c ∈ L
  · have : (fndL L [c]).length ≠ 0 := fun e => h1.1 e hm
    rw [decide_eq_false (by have := hr.2 (h2.2 hm); omega)]
    simp
    exact fun e => this (by rw [e]; rfl)
  · rw [h1.2 hm, decide_eq_true (Int.not_le.1 fun x => hm (h2.1 (hr.1 x)))]
    rfl
theorem ask_K {K : Nat} : askE (K : Nat) [((K : Nat) : Int)] = 1 := by
  unfold askE
  rw [if_neg (by simp), if_neg]
  simp [okS]
theorem row_one {w : World} {g : Nat} {x : Int} (h : Blk w g 3 #[.int .i64 x]) : RowOf iV w (some ⟨g, 0, none⟩) [x] := fun _ => ⟨g, 0, rfl, fun i hi => by
  match i, hi with
  | 0, _ => exact h.rd 0 rfl⟩
set_option maxHeartbeats 4000000 in
theorem all_law (k : Int) (A D B : Option Addr) (ca cp cb : Nat) (L : List Int) (ps : List (List Int)) (is : List Int) (w : World) (ha : AskF w k A D B L ps is) (hcap : L.length ≤ ca) :
    Rt Try.prog 7 [.agg #[.int .i64 k, .slice A L.length ca, .slice D ps.length cp, .slice B is.length cb]] w (fun v w' => v = .bool true ∧ From w w') := by
  have hlenP := ha.lenP
  have hlenL := ha.lenL
  refine enter (n := 166) Try.func7 rfl rfl rfl ?_
  refine cd_seq (cd_region ?_)
  refine st_box (v := .agg _) rfl ?_
  intro b1 w1 E1 hb1 hk1
  refine asb rfl ?_
  refine st_nil (nx_then (cd_seq (cd_seq (cd_region ?_))))
  refine st_val (ro_loadA (cs := [_, _, _, _]) FmLawA_g25 FmLawA_z25 rfl (by first | (first | exact (hP1.from_ From.rfl_).whole | exact (hP1.from_ From.rfl_).rd 0 rfl | exact (hP1.from_ From.rfl_).rd 1 rfl | exact (hP1.from_ From.rfl_).rd 2 rfl | exact (hP1.from_ From.rfl_).rd 3 rfl) | (first | exact (hk1.from_ From.rfl_).whole | exact (hk1.from_ From.rfl_).rd 0 rfl | exact (hk1.from_ From.rfl_).rd 1 rfl | exact (hk1.from_ From.rfl_).rd 2 rfl | exact (hk1.from_ From.rfl_).rd 3 rfl))) ?_
  refine st_call FmLawA_k8 (heavy_rt k A D B ca cp cb L ps is _ (ha.from_ (From.rfl_.next E1))) ?_
  rintro v19 w2 ⟨⟨hv, rfl, hli⟩, E19⟩
  refine mvb rfl ?_
  refine st_split (t := 20) rfl (fun Q3 => ?_) (fun Q3 => ?_)
  · refine st_gno rfl rfl ?_
    refine st_gno rfl rfl ?_
    refine st_gno rfl rfl ?_
    refine st_gno rfl rfl ?_
    refine st_val (ro_pickT (v := .bool _) rfl rfl) ?_
    refine st_nil (nx_then ?_)
    refine cd_condT rfl ?_
    refine cd_seq (cd_region ?_)
    refine asb rfl ?_
    refine st_nil (nx_then (cd_ret (rt_then ?_)))
    refine res1 (v := .bool _) rfl rfl ?_
    exact ⟨rfl, ((From.rfl_.next E1).next E19)⟩
  replace hli := hli (by simpa using Q3)
  have hl40 := hli.l
  have hp40 := hli.p
  have hi40 := hli.i
  refine st_unguard rfl ?_
  refine st_val (ro_fieldAddr FmLawA_f25_1 rfl) ?_
  refine st_unguard rfl ?_
  refine st_val (ro_load FmLawA_g22 rfl (by first | (first | exact (hP1.from_ (From.rfl_.next E19)).whole | exact (hP1.from_ (From.rfl_.next E19)).rd 0 rfl | exact (hP1.from_ (From.rfl_.next E19)).rd 1 rfl | exact (hP1.from_ (From.rfl_.next E19)).rd 2 rfl | exact (hP1.from_ (From.rfl_.next E19)).rd 3 rfl) | (first | exact (hk1.from_ (From.rfl_.next E19)).whole | exact (hk1.from_ (From.rfl_.next E19)).rd 0 rfl | exact (hk1.from_ (From.rfl_.next E19)).rd 1 rfl | exact (hk1.from_ (From.rfl_.next E19)).rd 2 rfl | exact (hk1.from_ (From.rfl_.next E19)).rd 3 rfl))) ?_
  refine st_unguard rfl ?_
  refine st_val (ro_len FmLawA_l22 rfl) ?_
  refine st_unguard rfl ?_
  refine st_val (ro_gtr rfl rfl) ?_
  refine st_val (ro_pickF (v := .bool _) rfl rfl) ?_
  refine st_nil (nx_then ?_)
  refine cd_cond rfl (fun Q4 => ?_) (fun Q4 => ?_)
  · with_reducible replace Q4 := of_decide_eq_true Q4
    refine cd_seq (cd_region ?_)
    refine asb rfl ?_
    refine st_nil (nx_then (cd_ret (rt_then ?_)))
    refine res1 (v := .bool _) rfl rfl ?_
    exact ⟨rfl, ((From.rfl_.next E1).next E19)⟩
  with_reducible replace Q4 := of_decide_eq_false Q4
  refine cd_skip (nx_then (cd_seq (cd_region ?_)))
  refine st_val (ro_fieldAddr FmLawA_f25_0 rfl) ?_
  refine st_val (ro_load FmLawA_g3 rfl (by first | (first | exact (hP1.from_ (From.rfl_.next E19)).whole | exact (hP1.from_ (From.rfl_.next E19)).rd 0 rfl | exact (hP1.from_ (From.rfl_.next E19)).rd 1 rfl | exact (hP1.from_ (From.rfl_.next E19)).rd 2 rfl | exact (hP1.from_ (From.rfl_.next E19)).rd 3 rfl) | (first | exact (hk1.from_ (From.rfl_.next E19)).whole | exact (hk1.from_ (From.rfl_.next E19)).rd 0 rfl | exact (hk1.from_ (From.rfl_.next E19)).rd 1 rfl | exact (hk1.from_ (From.rfl_.next E19)).rd 2 rfl | exact (hk1.from_ (From.rfl_.next E19)).rd 3 rfl))) ?_
  refine st_val (ro_fieldAddr FmLawA_f25_1 rfl) ?_
  refine st_val (ro_load FmLawA_g22 rfl (by first | (first | exact (hP1.from_ (From.rfl_.next E19)).whole | exact (hP1.from_ (From.rfl_.next E19)).rd 0 rfl | exact (hP1.from_ (From.rfl_.next E19)).rd 1 rfl | exact (hP1.from_ (From.rfl_.next E19)).rd 2 rfl | exact (hP1.from_ (From.rfl_.next E19)).rd 3 rfl) | (first | exact (hk1.from_ (From.rfl_.next E19)).whole | exact (hk1.from_ (From.rfl_.next E19)).rd 0 rfl | exact (hk1.from_ (From.rfl_.next E19)).rd 1 rfl | exact (hk1.from_ (From.rfl_.next E19)).rd 2 rfl | exact (hk1.from_ (From.rfl_.next E19)).rd 3 rfl))) ?_
  have hz31 := (((From.rfl_.next E1).next E19)).size
  refine st_call FmLawA_k24 (build_rt k A ca L.length L _ (ha.rowL.from_ ((From.rfl_.next E1).next E19)) rfl (by omega)) ?_
  rintro v31 w5 ⟨hs31, E31⟩
  replace hk1 := hk1.from_ ((From.rfl_.next E19).next E31)
  rcases hs31 with ⟨hck, rfl⟩ | ⟨hck, K, b, a, Ln, Bs, F, rfl, hLn, hlt, hf, rfl⟩
  · refine mvt rfl ?_
    refine st_val (ro_extract rfl rfl) ?_
    refine st_val (ro_extract rfl rfl) ?_
    refine asp rfl ?_
    refine asi rfl ?_
    refine st_nil (nx_then (cd_seq (cd_seq (cd_region ?_))))
    refine mvi rfl ?_
    refine st_call FmLawA_k15 (num_any _ _) ?_
    rintro v35 w6 ⟨rfl, rfl⟩
    refine st_val (ro_neq rfl rfl) ?_
    refine st_nil (nx_then ?_)
    refine cd_cond rfl (fun Q7 => ?_) (fun Q7 => ?_)
    rotate_left
    · with_reducible replace Q7 := bx_f Q7
      exfalso; omega
    with_reducible replace Q7 := bx_t Q7
    refine cd_seq (cd_region ?_)
    refine mvp rfl ?_
    refine st_val (ro_eqlNil FmLawA_p27 rfl rfl) ?_
    refine mvb rfl ?_
    refine st_split (t := 39) rfl (fun Q41 => ?_) (fun Q41 => ?_)
    rotate_left
    · exfalso; contradiction
    refine st_unguard rfl ?_
    refine st_call FmLawA_k10 (wakes_rt _) ?_
    rintro v40 w42 ⟨rfl, E40⟩
    refine st_val (ro_pickT (v := .bool _) rfl rfl) ?_
    refine asb rfl ?_
    refine st_nil (nx_then (cd_ret (rt_then ?_)))
    refine res1 (v := .bool _) rfl rfl ?_
    exact ⟨rfl, ((((From.rfl_.next E1).next E19).next E31).next E40)⟩
  replace hf := hf.le hz31
  have hLl : Ln.length = L.length := by rw [hLn, List.length_map]
  have hSA := hf.2.1
  have hsy := hf.symb
  refine mvt rfl ?_
  refine st_val (ro_extract rfl rfl) ?_
  refine st_val (ro_extract rfl rfl) ?_
  refine asp rfl ?_
  refine asi rfl ?_
  refine st_nil (nx_then (cd_seq (cd_seq (cd_region ?_))))
  refine mvi rfl ?_
  refine st_call FmLawA_k15 (num_any _ _) ?_
  rintro v35 w43 ⟨rfl, rfl⟩
  refine st_val (ro_neq rfl rfl) ?_
  refine st_nil (nx_then ?_)
  refine cd_cond rfl (fun Q44 => ?_) (fun Q44 => ?_)
  · with_reducible replace Q44 := bx_t Q44
    exfalso; omega
  with_reducible replace Q44 := bx_f Q44
  refine cd_skip (nx_then (cd_seq (cd_seq (cd_region ?_))))
  refine asi rfl ?_
  refine st_nil (nx_then (cd_block ?_))
  refine cd_loop (G := Nat) [2, 6, 7, 8, 42, 43, 44, 45, 46, 47, 48, 49, 50, 51, 52, 53, 54, 55, 56, 57, 58, 59, 60, 61, 62, 63, 64, 65, 66, 67, 68, 69, 70, 71, 72, 73, 74, 75, 76, 77, 78, 79, 80, 81, 82, 83, 84, 85, 86, 87, 88, 89, 90, 91] (fun i => [(5, .int .i64 (i : Nat))]) (fun i w' => i ≤ 200 ∧ FmAt w' w.heap.size b K a Ln Bs F ∧ Blk w' b1 25 #[.int .i64 (K : Nat), .slice A L.length ca, .slice D ps.length cp, .slice B is.length cb] ∧ From w w') (fun i => L.length - i) (0) ⟨rfl, trivial⟩ ?_ ?_
  · exact ⟨Nat.zero_le _, hf.from_ From.rfl_, hk1.from_ From.rfl_, (((From.rfl_.next E1).next E19).next E31)⟩
  rintro i ρ47 w47 ⟨hi, hf, hP1, hB⟩
  refine cd_seq (cd_seq (cd_region ?_))
  refine mvi rfl ?_
  refine st_val (ro_fieldAddr FmLawA_f25_1 rfl) ?_
  refine st_val (ro_load FmLawA_g22 rfl (by first | (first | exact (hP1.from_ From.rfl_).whole | exact (hP1.from_ From.rfl_).rd 0 rfl | exact (hP1.from_ From.rfl_).rd 1 rfl | exact (hP1.from_ From.rfl_).rd 2 rfl | exact (hP1.from_ From.rfl_).rd 3 rfl) | (first | exact (hk1.from_ From.rfl_).whole | exact (hk1.from_ From.rfl_).rd 0 rfl | exact (hk1.from_ From.rfl_).rd 1 rfl | exact (hk1.from_ From.rfl_).rd 2 rfl | exact (hk1.from_ From.rfl_).rd 3 rfl))) ?_
  refine st_val (ro_len FmLawA_l22 rfl) ?_
  refine st_val (ro_lss rfl rfl) ?_
  refine st_nil (nx_then ?_)
  refine cd_cond rfl (fun Q48 => ?_) (fun Q48 => ?_)
  · with_reducible replace Q48 := of_decide_eq_true Q48
    refine cd_skip (nx_then (cd_seq (cd_block (cd_seq (cd_region ?_)))))
    refine asi rfl ?_
    refine st_nil (nx_then (cd_block ?_))
    refine cd_loop (G := Nat) [2, 7, 8, 54, 55, 56, 57, 58, 59, 60, 61, 62, 63, 64, 65, 66, 67, 68, 69, 70, 71, 72, 73, 74, 75, 76, 77, 78, 79, 80, 81, 82, 83, 84, 85, 86, 87, 88, 89, 90, 91] (fun n => [(6, .int .i64 (n : Nat))]) (fun n w' => 1 ≤ n ∧ n ≤ 200 ∧ FmAt w' w.heap.size b K a Ln Bs F ∧ Blk w' b1 25 #[.int .i64 (K : Nat), .slice A L.length ca, .slice D ps.length cp, .slice B is.length cb] ∧ From w w') (fun n => L.length + 1 - n) (1) ⟨rfl, trivial⟩ ?_ ?_
    · exact ⟨Nat.le_refl _, by omega, hf.from_ From.rfl_, hP1.from_ From.rfl_, hB⟩
    rintro n ρ49 w49 ⟨hn1, hn2, hf, hP1, hB⟩
    refine cd_seq (cd_seq (cd_region ?_))
    refine mvi rfl ?_
    refine st_val (ro_fieldAddr FmLawA_f25_1 rfl) ?_
    refine st_val (ro_load FmLawA_g22 rfl (by first | (first | exact (hP1.from_ From.rfl_).whole | exact (hP1.from_ From.rfl_).rd 0 rfl | exact (hP1.from_ From.rfl_).rd 1 rfl | exact (hP1.from_ From.rfl_).rd 2 rfl | exact (hP1.from_ From.rfl_).rd 3 rfl) | (first | exact (hk1.from_ From.rfl_).whole | exact (hk1.from_ From.rfl_).rd 0 rfl | exact (hk1.from_ From.rfl_).rd 1 rfl | exact (hk1.from_ From.rfl_).rd 2 rfl | exact (hk1.from_ From.rfl_).rd 3 rfl))) ?_
    refine st_val (ro_len FmLawA_l22 rfl) ?_
    refine mvi rfl ?_
    refine st_val (ro_subN rfl rfl (by omega)) ?_
    refine st_val (ro_leq rfl rfl) ?_
    refine st_nil (nx_then ?_)
    refine cd_cond rfl (fun Q50 => ?_) (fun Q50 => ?_)
    · with_reducible replace Q50 := of_decide_eq_true Q50
      obtain ⟨hq0, hin, hri⟩ := part_all (i := i) (n := n) hLn hsy (by omega) (by omega)
      refine cd_skip (nx_then (cd_seq (cd_block (cd_seq (cd_region ?_)))))
      refine mvp rfl ?_
      refine st_val (ro_fieldAddr FmLawA_f25_1 rfl) ?_
      refine st_val (ro_load FmLawA_g22 rfl (by first | (first | exact (hP1.from_ From.rfl_).whole | exact (hP1.from_ From.rfl_).rd 0 rfl | exact (hP1.from_ From.rfl_).rd 1 rfl | exact (hP1.from_ From.rfl_).rd 2 rfl | exact (hP1.from_ From.rfl_).rd 3 rfl) | (first | exact (hk1.from_ From.rfl_).whole | exact (hk1.from_ From.rfl_).rd 0 rfl | exact (hk1.from_ From.rfl_).rd 1 rfl | exact (hk1.from_ From.rfl_).rd 2 rfl | exact (hk1.from_ From.rfl_).rd 3 rfl))) ?_
      refine mvi rfl ?_
      refine mvi rfl ?_
      refine mvi rfl ?_
      refine st_val (ro_addN rfl rfl (by omega)) ?_
      refine st_val (ro_sliceO (l := i) (h := i + n) FmLawA_e22 rfl (.inr ⟨_, _, _, rfl, rfl, rfl⟩) (.inr ⟨_, _, _, rfl, rfl, rfl⟩) (by omega) (by omega)) ?_
      refine st_call FmLawA_k18 (find_d _ b K a Ln Bs F _ (hf.from_ From.rfl_) (restOf A ca i 1) (ca - i) (i + n - i) ((L.drop i).take (i + n - i)) (slice_row (ha.rowL.from_ hB) (by omega) (by omega) hcap) (by rw [slice_len (by omega) (by omega)]) (by omega)) ?_
      rintro v75 w51 ⟨⟨A75, c75, rfl, ho75⟩, E75⟩
      have hr75 := (RowOf.own ho75).2
      have hfl := fd_le (K := K) (L := Ln) ((L.drop i).take (i + n - i))
      refine mvt rfl ?_
      refine st_val (ro_extract rfl rfl) ?_
      refine st_val (ro_extract rfl rfl) ?_
      refine ass rfl ?_
      refine asi rfl ?_
      refine st_nil (nx_then (cd_seq (cd_region ?_)))
      refine mvi rfl ?_
      refine st_call FmLawA_k15 (num_any _ _) ?_
      rintro v79 w52 ⟨rfl, rfl⟩
      refine st_val (ro_bf (ro_neq rfl rfl) (by rw [hq0]; rfl)) ?_
      refine mvb rfl ?_
      refine st_unguard rfl ?_
      refine mvs rfl ?_
      refine st_unguard rfl ?_
      refine mvi rfl ?_
      refine st_unguard rfl ?_
      refine st_call FmLawA_k25 (in_rt A75 c75 _ (cI (fdL K Ln ((L.drop i).take (i + n - i)))) i _ (hr75.from_ From.rfl_) (by rw [List.length_map]) (by omega)) ?_
      rintro v84 w53 ⟨⟨r84, rfl, hr84, hi84⟩, E84⟩
      refine st_unguard rfl ?_
      refine st_val (ro_bf (ro_lss rfl rfl) (decide_eq_false (by have := hi84.2 hin; omega))) ?_
      refine st_val (ro_pickF (v := .bool _) rfl rfl) ?_
      refine mvb rfl ?_
      refine st_unguard rfl ?_
      refine mvs rfl ?_
      refine st_unguard rfl ?_
      refine st_call FmLawA_k26 (rising_rt A75 c75 _ (fdL K Ln ((L.drop i).take (i + n - i))) _ (hr75.from_ E84) rfl (by omega) hri) ?_
      rintro v89 w54 ⟨rfl, E89⟩
      refine st_unguard rfl ?_
      refine st_val (ro_bf (ro_not rfl) rfl) ?_
      refine st_val (ro_pickF (v := .bool _) rfl rfl) ?_
      refine st_nil (nx_then ?_)
      refine cd_condF rfl ?_
      refine cd_skip (nx_block (nx_then (cd_region ?_)))
      refine mvi rfl ?_
      refine st_val (ro_addN (b := 1) rfl rfl (by omega)) ?_
      refine mvi rfl ?_
      refine st_val (ro_quoN (b := 2) rfl rfl (by omega)) ?_
      refine st_val (ro_addN rfl rfl (by omega)) ?_
      refine asi rfl ?_
      refine st_nil ?_
      refine nx_cut (n + 1 + n / 2) ⟨(by first | rfl | (refine int_eq ?_; omega)), trivial⟩ (by (iterate 83 refine agr_cons rfl ?_); exact agr_rfl) ⟨?_, ?_⟩
      · exact ⟨by omega, by omega, hf.from_ (((From.rfl_.next E75).next E84).next E89), hP1.from_ (((From.rfl_.next E75).next E84).next E89), (((hB.next E75).next E84).next E89)⟩
      · show L.length + 1 - (n + 1 + n / 2) < L.length + 1 - n; omega
    with_reducible replace Q50 := of_decide_eq_false Q50
    refine cd_exit ?_
    refine ex_then (ex_then (ex_block (nx_block (nx_then (cd_region ?_)))))
    refine mvi rfl ?_
    refine st_val (ro_addN (b := 1) rfl rfl (by omega)) ?_
    refine st_val (ro_fieldAddr FmLawA_f25_1 rfl) ?_
    refine st_val (ro_load FmLawA_g22 rfl (by first | (first | exact (hP1.from_ From.rfl_).whole | exact (hP1.from_ From.rfl_).rd 0 rfl | exact (hP1.from_ From.rfl_).rd 1 rfl | exact (hP1.from_ From.rfl_).rd 2 rfl | exact (hP1.from_ From.rfl_).rd 3 rfl) | (first | exact (hk1.from_ From.rfl_).whole | exact (hk1.from_ From.rfl_).rd 0 rfl | exact (hk1.from_ From.rfl_).rd 1 rfl | exact (hk1.from_ From.rfl_).rd 2 rfl | exact (hk1.from_ From.rfl_).rd 3 rfl))) ?_
    refine st_val (ro_len FmLawA_l22 rfl) ?_
    refine st_val (ro_quoN (b := 10) rfl rfl (by omega)) ?_
    refine st_val (ro_addN rfl rfl (by omega)) ?_
    refine asi rfl ?_
    refine st_nil ?_
    refine nx_cut (i + 1 + L.length / 10) ⟨(by first | rfl | (refine int_eq ?_; omega)), trivial⟩ (by (iterate 118 refine agr_cons rfl ?_); exact agr_rfl) ⟨?_, ?_⟩
    · exact ⟨by omega, hf.from_ From.rfl_, hP1.from_ From.rfl_, hB⟩
    · show L.length - (i + 1 + L.length / 10) < L.length - i; omega
  with_reducible replace Q48 := of_decide_eq_false Q48
  refine cd_exit ?_
  refine ex_then (ex_then (ex_block (nx_then ?_)))
  refine cd_cut (G := Unit) [2, 9, 10, 92, 93, 94, 95, 96, 97, 98, 99, 100, 101, 102, 103, 104, 105, 106, 107, 108, 109, 110, 111] (fun _ => []) (fun _ w' => FmAt w' w.heap.size b K a Ln Bs F ∧ Blk w' b1 25 #[.int .i64 (K : Nat), .slice A L.length ca, .slice D ps.length cp, .slice B is.length cb] ∧ From w w') ?_ ?_
  · refine cd_seq (cd_region ?_)
    refine st_val (ro_fieldAddr FmLawA_f25_1 rfl) ?_
    refine st_val (ro_load FmLawA_g22 rfl (by first | (first | exact (hP1.from_ From.rfl_).whole | exact (hP1.from_ From.rfl_).rd 0 rfl | exact (hP1.from_ From.rfl_).rd 1 rfl | exact (hP1.from_ From.rfl_).rd 2 rfl | exact (hP1.from_ From.rfl_).rd 3 rfl) | (first | exact (hk1.from_ From.rfl_).whole | exact (hk1.from_ From.rfl_).rd 0 rfl | exact (hk1.from_ From.rfl_).rd 1 rfl | exact (hk1.from_ From.rfl_).rd 2 rfl | exact (hk1.from_ From.rfl_).rd 3 rfl))) ?_
    refine st_val (ro_len FmLawA_l22 rfl) ?_
    refine st_val (ro_gtr rfl rfl) ?_
    refine st_nil (nx_then ?_)
    refine cd_cond rfl (fun Q55 => ?_) (fun Q55 => ?_)
    · with_reducible replace Q55 := of_decide_eq_true Q55
      obtain ⟨hq0, hw0⟩ := whole_all hLn hsy (by omega)
      refine cd_seq (cd_region ?_)
      refine mvp rfl ?_
      refine st_val (ro_fieldAddr FmLawA_f25_1 rfl) ?_
      refine st_val (ro_load FmLawA_g22 rfl (by first | (first | exact (hP1.from_ From.rfl_).whole | exact (hP1.from_ From.rfl_).rd 0 rfl | exact (hP1.from_ From.rfl_).rd 1 rfl | exact (hP1.from_ From.rfl_).rd 2 rfl | exact (hP1.from_ From.rfl_).rd 3 rfl) | (first | exact (hk1.from_ From.rfl_).whole | exact (hk1.from_ From.rfl_).rd 0 rfl | exact (hk1.from_ From.rfl_).rd 1 rfl | exact (hk1.from_ From.rfl_).rd 2 rfl | exact (hk1.from_ From.rfl_).rd 3 rfl))) ?_
      refine st_call FmLawA_k18 (find_d _ b K a Ln Bs F _ (hf.from_ From.rfl_) A ca L.length L (ha.rowL.from_ hB) rfl (by omega)) ?_
      rintro v100 w56 ⟨⟨A100, c100, rfl, ho100⟩, E100⟩
      have hr100 := (RowOf.own ho100).2
      rw [hw0] at hr100
      refine mvt rfl ?_
      refine st_val (ro_extract rfl rfl) ?_
      refine st_val (ro_extract rfl rfl) ?_
      refine ass rfl ?_
      refine asi rfl ?_
      refine st_nil (nx_then (cd_seq (cd_region ?_)))
      refine mvi rfl ?_
      refine st_call FmLawA_k15 (num_any _ _) ?_
      rintro v104 w57 ⟨rfl, rfl⟩
      refine st_val (ro_bf (ro_neq rfl rfl) (by rw [hq0]; rfl)) ?_
      refine mvb rfl ?_
      refine st_unguard rfl ?_
      refine mvs rfl ?_
      refine st_unguard rfl ?_
      refine st_lit1 (v := .int _ _) FmLawA_q22 rfl rfl rfl ?_
      intro b108 w58 E108 hb108 hk108
      refine st_unguard rfl ?_
      refine st_call FmLawA_k19 (eq_same A100 (some ⟨b108, 0, none⟩) c100 1 (fdL K Ln L).length 1 [0] _ (hr100.from_ E108) (row_one hk108) (by rw [hw0]; rfl) rfl (by rw [hw0]; simp)) ?_
      rintro v109 w59 ⟨rfl, E109⟩
      refine st_unguard rfl ?_
      refine st_val (ro_bf (ro_not rfl) rfl) ?_
      refine st_val (ro_pickF (v := .bool _) rfl rfl) ?_
      refine st_nil (nx_then ?_)
      refine cd_condF rfl ?_
      refine cd_skip ?_
      refine nx_cut (()) trivial (by (iterate 22 refine agr_cons rfl ?_); exact agr_rfl) ?_
      exact ⟨hf.from_ (((From.rfl_.next E100).next E108).next E109), hP1.from_ (((From.rfl_.next E100).next E108).next E109), (((hB.next E100).next E108).next E109)⟩
    with_reducible replace Q55 := of_decide_eq_false Q55
    refine cd_skip ?_
    refine nx_cut (()) trivial (by (iterate 4 refine agr_cons rfl ?_); exact agr_rfl) ?_
    exact ⟨hf.from_ From.rfl_, hP1.from_ From.rfl_, hB⟩
  rintro _ ρ60 w60 ⟨hf, hP1, hB⟩
  refine cd_seq (cd_seq (cd_region ?_))
  refine asi rfl ?_
  refine st_nil (nx_then (cd_block ?_))
  refine cd_loop (G := Nat) [2, 12, 13, 112, 113, 114, 115, 116, 117, 118, 119, 120, 121, 122, 123, 124, 125, 126, 127, 128, 129, 130, 131, 132, 133, 134, 135, 136, 137, 138, 139, 140, 141] (fun c => [(11, .int .i64 (c : Nat))]) (fun c w' => c ≤ 20 ∧ FmAt w' w.heap.size b K a Ln Bs F ∧ Blk w' b1 25 #[.int .i64 (K : Nat), .slice A L.length ca, .slice D ps.length cp, .slice B is.length cb] ∧ From w w') (fun c => 20 - c) (0) ⟨rfl, trivial⟩ ?_ ?_
  · exact ⟨Nat.zero_le _, hf.from_ From.rfl_, hP1.from_ From.rfl_, hB⟩
  rintro c ρ61 w61 ⟨hc20, hf, hP1, hB⟩
  refine cd_seq (cd_seq (cd_region ?_))
  refine mvi rfl ?_
  refine st_val (ro_fieldAddr FmLawA_f25_0 rfl) ?_
  refine st_val (ro_load FmLawA_g3 rfl (by first | (first | exact (hP1.from_ From.rfl_).whole | exact (hP1.from_ From.rfl_).rd 0 rfl | exact (hP1.from_ From.rfl_).rd 1 rfl | exact (hP1.from_ From.rfl_).rd 2 rfl | exact (hP1.from_ From.rfl_).rd 3 rfl) | (first | exact (hk1.from_ From.rfl_).whole | exact (hk1.from_ From.rfl_).rd 0 rfl | exact (hk1.from_ From.rfl_).rd 1 rfl | exact (hk1.from_ From.rfl_).rd 2 rfl | exact (hk1.from_ From.rfl_).rd 3 rfl))) ?_
  refine st_val (ro_lss rfl rfl) ?_
  refine mvb rfl ?_
  refine st_split (t := 116) rfl (fun Q62 => ?_) (fun Q62 => ?_)
  · with_reducible replace Q62 := of_decide_eq_true Q62
    refine st_unguard rfl ?_
    refine mvi rfl ?_
    refine st_unguard rfl ?_
    refine st_val (ro_lss rfl rfl) ?_
    refine st_val (ro_pickT (v := .bool _) rfl rfl) ?_
    refine st_nil (nx_then ?_)
    refine cd_cond rfl (fun Q63 => ?_) (fun Q63 => ?_)
    · with_reducible replace Q63 := of_decide_eq_true Q63
      refine cd_skip (nx_then (cd_seq (cd_block (cd_seq (cd_region ?_)))))
      refine mvp rfl ?_
      refine mvi rfl ?_
      refine st_lit1 (v := .int _ _) FmLawA_q22 rfl rfl rfl ?_
      intro b125 w64 E125 hb125 hk125
      refine st_call FmLawA_k14 (hits_d _ b K a Ln Bs F _ (hf.from_ (From.rfl_.next E125)) (some ⟨b125, 0, none⟩) 1 1 [((c : Nat) : Int)] (row_one hk125) rfl (by omega)) ?_
      rintro v126 w65 ⟨rfl, E126⟩
      refine mvt rfl ?_
      refine st_val (ro_extract rfl rfl) ?_
      refine st_val (ro_extract rfl rfl) ?_
      refine asi rfl ?_
      refine asi rfl ?_
      refine st_nil (nx_then (cd_seq (cd_region ?_)))
      refine mvi rfl ?_
      refine st_call FmLawA_k15 (num_any _ _) ?_
      rintro v130 w66 ⟨rfl, rfl⟩
      refine st_val (ro_bf (ro_neq rfl rfl) (by rw [one_ask (by omega)]; rfl)) ?_
      refine mvb rfl ?_
      refine st_unguard rfl ?_
      refine mvi rfl ?_
      refine st_unguard rfl ?_
      refine st_val (ro_eql rfl rfl) ?_
      refine st_unguard rfl ?_
      refine st_val (ro_fieldAddr FmLawA_f25_1 rfl) ?_
      refine st_unguard rfl ?_
      refine st_val (ro_load FmLawA_g22 rfl (by first | (first | exact (hP1.from_ ((From.rfl_.next E125).next E126)).whole | exact (hP1.from_ ((From.rfl_.next E125).next E126)).rd 0 rfl | exact (hP1.from_ ((From.rfl_.next E125).next E126)).rd 1 rfl | exact (hP1.from_ ((From.rfl_.next E125).next E126)).rd 2 rfl | exact (hP1.from_ ((From.rfl_.next E125).next E126)).rd 3 rfl) | (first | exact (hk1.from_ ((From.rfl_.next E125).next E126)).whole | exact (hk1.from_ ((From.rfl_.next E125).next E126)).rd 0 rfl | exact (hk1.from_ ((From.rfl_.next E125).next E126)).rd 1 rfl | exact (hk1.from_ ((From.rfl_.next E125).next E126)).rd 2 rfl | exact (hk1.from_ ((From.rfl_.next E125).next E126)).rd 3 rfl))) ?_
      refine st_unguard rfl ?_
      refine mvi rfl ?_
      refine st_unguard rfl ?_
      refine st_call FmLawA_k25 (in_rt A ca L.length L c _ (ha.rowL.from_ ((hB.next E125).next E126)) rfl (by omega)) ?_
      rintro v138 w67 ⟨⟨r138, rfl, hr138, hi138⟩, E138⟩
      refine st_unguard rfl ?_
      refine st_val (ro_lss rfl rfl) ?_
      refine st_unguard rfl ?_
      refine st_val (ro_bf (ro_neqB (by kernel_rfl) rfl rfl) (one_eq hLn hSA (by omega) hi138)) ?_
      refine st_val (ro_pickF (v := .bool _) rfl rfl) ?_
      refine st_nil (nx_then ?_)
      refine cd_condF rfl ?_
      refine cd_skip (nx_block (nx_then (cd_region ?_)))
      refine mvi rfl ?_
      refine st_val (ro_addN (b := 1) rfl rfl (by omega)) ?_
      refine asi rfl ?_
      refine st_nil ?_
      refine nx_cut (c + 1) ⟨(by first | rfl | (refine int_eq ?_; omega)), trivial⟩ (by (iterate 68 refine agr_cons rfl ?_); exact agr_rfl) ⟨?_, ?_⟩
      · exact ⟨by omega, hf.from_ (((From.rfl_.next E125).next E126).next E138), hP1.from_ (((From.rfl_.next E125).next E126).next E138), (((hB.next E125).next E126).next E138)⟩
      · show 20 - (c + 1) < 20 - c; omega
    with_reducible replace Q63 := of_decide_eq_false Q63
    refine cd_exit ?_
    refine ex_then (ex_then (ex_block (nx_then (cd_seq (cd_region ?_)))))
    refine mvp rfl ?_
    refine st_call FmLawA_k18 (find_d _ b K a Ln Bs F _ (hf.from_ From.rfl_) none 0 0 [] RowOf.nil rfl (by omega)) ?_
    rintro v144 w68 ⟨⟨A144, c144, rfl, ho144⟩, E144⟩
    refine mvt rfl ?_
    refine st_val (ro_extract rfl rfl) ?_
    refine st_val (ro_extract rfl rfl) ?_
    refine ass rfl ?_
    refine asi rfl ?_
    refine st_nil (nx_then (cd_seq (cd_region ?_)))
    refine mvp rfl ?_
    refine st_val (ro_fieldAddr FmLawA_f25_0 rfl) ?_
    refine st_val (ro_load FmLawA_g3 rfl (by first | (first | exact (hP1.from_ (From.rfl_.next E144)).whole | exact (hP1.from_ (From.rfl_.next E144)).rd 0 rfl | exact (hP1.from_ (From.rfl_.next E144)).rd 1 rfl | exact (hP1.from_ (From.rfl_.next E144)).rd 2 rfl | exact (hP1.from_ (From.rfl_.next E144)).rd 3 rfl) | (first | exact (hk1.from_ (From.rfl_.next E144)).whole | exact (hk1.from_ (From.rfl_.next E144)).rd 0 rfl | exact (hk1.from_ (From.rfl_.next E144)).rd 1 rfl | exact (hk1.from_ (From.rfl_.next E144)).rd 2 rfl | exact (hk1.from_ (From.rfl_.next E144)).rd 3 rfl))) ?_
    refine st_lit1 (v := .int _ _) FmLawA_q22 rfl rfl rfl ?_
    intro b151 w69 E151 hb151 hk151
    refine st_call FmLawA_k14 (hits_d _ b K a Ln Bs F _ (hf.from_ ((From.rfl_.next E144).next E151)) (some ⟨b151, 0, none⟩) 1 1 [((K : Nat) : Int)] (row_one hk151) rfl (by omega)) ?_
    rintro v152 w70 ⟨rfl, E152⟩
    refine mvt rfl ?_
    refine st_val (ro_extract rfl rfl) ?_
    refine st_val (ro_extract rfl rfl) ?_
    refine asi rfl ?_
    refine asi rfl ?_
    refine st_nil (nx_then (cd_seq (cd_region ?_)))
    refine mvi rfl ?_
    refine st_call FmLawA_k15 (num_any _ _) ?_
    rintro v156 w71 ⟨rfl, rfl⟩
    refine st_val (ro_bt (ro_eql rfl rfl) rfl) ?_
    refine mvb rfl ?_
    refine st_unguard rfl ?_
    refine mvi rfl ?_
    refine st_unguard rfl ?_
    refine st_call FmLawA_k15 (num_any _ _) ?_
    rintro v160 w72 ⟨rfl, rfl⟩
    refine st_unguard rfl ?_
    refine st_val (ro_bt (ro_eql rfl rfl) (by rw [ask_K]; rfl)) ?_
    refine st_val (ro_pickT (v := .bool _) rfl rfl) ?_
    refine mvb rfl ?_
    refine st_unguard rfl ?_
    refine st_call FmLawA_k10 (wakes_rt _) ?_
    rintro v164 w73 ⟨rfl, E164⟩
    refine st_val (ro_pickT (v := .bool _) rfl rfl) ?_
    refine asb rfl ?_
    refine st_nil (nx_then (cd_ret ?_))
    refine res1 (v := .bool _) rfl rfl ?_
    exact ⟨rfl, ((((hB.next E144).next E151).next E152).next E164)⟩
  with_reducible replace Q62 := of_decide_eq_false Q62
  refine st_gno rfl rfl ?_
  refine st_gno rfl rfl ?_
  refine st_val (ro_pickF (v := .bool _) rfl rfl) ?_
  refine st_nil (nx_then ?_)
  refine cd_condF rfl ?_
  refine cd_exit ?_
  refine ex_then (ex_then (ex_block (nx_then (cd_seq (cd_region ?_)))))
  refine mvp rfl ?_
  refine st_call FmLawA_k18 (find_d _ b K a Ln Bs F _ (hf.from_ From.rfl_) none 0 0 [] RowOf.nil rfl (by omega)) ?_
  rintro v144 w74 ⟨⟨A144, c144, rfl, ho144⟩, E144⟩
  refine mvt rfl ?_
  refine st_val (ro_extract rfl rfl) ?_
  refine st_val (ro_extract rfl rfl) ?_
  refine ass rfl ?_
  refine asi rfl ?_
  refine st_nil (nx_then (cd_seq (cd_region ?_)))
  refine mvp rfl ?_
  refine st_val (ro_fieldAddr FmLawA_f25_0 rfl) ?_
  refine st_val (ro_load FmLawA_g3 rfl (by first | (first | exact (hP1.from_ (From.rfl_.next E144)).whole | exact (hP1.from_ (From.rfl_.next E144)).rd 0 rfl | exact (hP1.from_ (From.rfl_.next E144)).rd 1 rfl | exact (hP1.from_ (From.rfl_.next E144)).rd 2 rfl | exact (hP1.from_ (From.rfl_.next E144)).rd 3 rfl) | (first | exact (hk1.from_ (From.rfl_.next E144)).whole | exact (hk1.from_ (From.rfl_.next E144)).rd 0 rfl | exact (hk1.from_ (From.rfl_.next E144)).rd 1 rfl | exact (hk1.from_ (From.rfl_.next E144)).rd 2 rfl | exact (hk1.from_ (From.rfl_.next E144)).rd 3 rfl))) ?_
  refine st_lit1 (v := .int _ _) FmLawA_q22 rfl rfl rfl ?_
  intro b151 w75 E151 hb151 hk151
  refine st_call FmLawA_k14 (hits_d _ b K a Ln Bs F _ (hf.from_ ((From.rfl_.next E144).next E151)) (some ⟨b151, 0, none⟩) 1 1 [((K : Nat) : Int)] (row_one hk151) rfl (by omega)) ?_
  rintro v152 w76 ⟨rfl, E152⟩
  refine mvt rfl ?_
  refine st_val (ro_extract rfl rfl) ?_
  refine st_val (ro_extract rfl rfl) ?_
  refine asi rfl ?_
  refine asi rfl ?_
  refine st_nil (nx_then (cd_seq (cd_region ?_)))
  refine mvi rfl ?_
  refine st_call FmLawA_k15 (num_any _ _) ?_
  rintro v156 w77 ⟨rfl, rfl⟩
  refine st_val (ro_bt (ro_eql rfl rfl) rfl) ?_
  refine mvb rfl ?_
  refine st_unguard rfl ?_
  refine mvi rfl ?_
  refine st_unguard rfl ?_
  refine st_call FmLawA_k15 (num_any _ _) ?_
  rintro v160 w78 ⟨rfl, rfl⟩
  refine st_unguard rfl ?_
  refine st_val (ro_bt (ro_eql rfl rfl) (by rw [ask_K]; rfl)) ?_
  refine st_val (ro_pickT (v := .bool _) rfl rfl) ?_
  refine mvb rfl ?_
  refine st_unguard rfl ?_
  refine st_call FmLawA_k10 (wakes_rt _) ?_
  rintro v164 w79 ⟨rfl, E164⟩
  refine st_val (ro_pickT (v := .bool _) rfl rfl) ?_
  refine asb rfl ?_
  refine st_nil (nx_then (cd_ret ?_))
  refine res1 (v := .bool _) rfl rfl ?_
  exact ⟨rfl, ((((hB.next E144).next E151).next E152).next E164)⟩
theorem all_arg (cs : Array Value) (x : (Ty.pr (.int .i64) (.pr (.sl (.int .i64)) (.pr (.sl (.sl (.int .i64))) (.pr (.sl (.int .i64)) .unit)))).den) (w : World) (hs : cs.size = 4) (h : (Ty.pr (.int .i64) (.pr (.sl (.int .i64)) (.pr (.sl (.sl (.int .i64))) (.pr (.sl (.int .i64)) .unit)))).At w (fun j => cs[j]?) x) :
    Rt Try.prog 7 [.agg cs] w fun v w' => v = .bool true ∧ From w w' := by
  obtain ⟨k, A, ca, L, D, cp, ps, B, cb, is, rfl, ha, hcap⟩ := ask_of6 hs h
  exact all_law k A D B ca cp cb L ps is w ha hcap
theorem FmAll_lifted (os : Os) (started : os.Started) (H : Type) (enc : TypeId × Value → H) :
    ReturnsInHanded {} Try.checked os 7 .any (Rows.fmAllSpec.pre6 enc Try.prog Try.f7 Rows.fmAllRow.domain false) (Rows.fmAllSpec.post enc Try.prog Try.f7 false true false false) := by
  refine returnsInHanded_of_change_sized (C := Try.checked) Try.own started (by kernel_rfl) Try.func7
    (ChangeSpec.witness6 (enc := enc) (C := Try.checked) false ⟨#[], #[.agg #[.int .i64 0, .slice none 0 0, .slice none 0 0, .slice none 0 0]], []⟩ 8 (by kernel_rfl) (by kernel_rfl) (by kernel_rfl) (by kernel_rfl)) ?_
  intro W base args ds gs before hval hW _ hsz _
  exact law_step 7 Try.f7 25 4 Rows.fmAllSpec Try.params7 (by kernel_rfl) Try.underlying4 rfl (fun _ => rfl) (by kernel_rfl) (of_decide_eq_true (by kernel_rfl)) (walk_struct (.int .i64) (.pr (.sl (.int .i64)) (.pr (.sl (.sl (.int .i64))) (.pr (.sl (.int .i64)) .unit))) (by kernel_rfl) all_arg) W base args ds gs before hval hW hsz

theorem FmAll_holds : Rows.FmAllSaid :=
  OpenClaim.holds_of_wide 7 Try.f7 rfl rfl rfl rfl rfl rfl rfl ⟨rfl, rfl, rfl, rfl, rfl⟩ rfl rfl rfl rfl rfl (by kernel_rfl) Try.func7 (by kernel_rfl)
    (of_decide_eq_true (by kernel_rfl)) (by unfold Func.isWrapper; first | (rw [if_pos (by decide +kernel)]; kernel_rfl) | (rw [if_neg (by decide +kernel)]; exact ⟨rfl, rfl⟩))
    (fun os started H enc _ => FmAll_lifted os started H enc)
#print axioms FmAll_holds

end Go.Proofs.Ytepdgbglaiimaaa
