/- The law TiersMerges. -/
import Derived.Test.YtllpcjdljgmilaaMgTrLawO1
import Derived.Laws.StructEq
set_option maxRecDepth 100000
namespace Go.Proofs.Ytllpcjdljgmilaa
open Go.RowKit
open Go.ChangeShapes Go.WideShapes Go.ChangeAt
theorem TrSort_f43_0 : fieldQ Try.prog 43 0 = some 0 := by kernel_rfl
theorem TrSort_g9 : aggQ Try.prog 9 = some false := by kernel_rfl
theorem TrSort_k19 : callable Try.prog 19 = true := by kernel_rfl
theorem TrSort_e27 : elemQ Try.prog 27 = some (43, 2) := by kernel_rfl
theorem TrSort_g43 : aggQ Try.prog 43 = some true := by kernel_rfl
theorem TrSort_z43 : sizeQ Try.prog 43 = some 2 := by kernel_rfl
theorem TrSort_kcmp : callable Try.prog 18 = true := by kernel_rfl
theorem TrSort_k30 : callable Try.prog 30 = true := by kernel_rfl
theorem s_no {b c : Bool} (h : b = true → c = true) (k : c = false) : b = false := by
  cases b with
  | false => rfl
  | true => rw [h rfl] at k; cases k
theorem strCmp_rt (a b : ByteArray) (w : World) : Rt Try.prog 19 [.string a, .string b] w fun v w' => v = .int .i64 (cmpS a b) ∧ w = w' :=
  Calls.mono (Try.strings_Compare a b w) fun e w' h => ⟨_, h.1, by unfold cmpS; rw [Lib.toList_data, Lib.toList_data], h.2.symm⟩
set_option maxHeartbeats 400000 in
theorem cmpD_rt (a b : Dc) (w : World) :
    Rt Try.prog 18 [.agg (dV a).toArray, .agg (dV b).toArray] w (fun v w' => v = .int .i64 (cmpS a.1 b.1) ∧ From w w') := by
  refine enter (n := 10) Try.func18 rfl rfl rfl ?_
  refine cd_seq (cd_region ?_)
  refine st_box (v := .agg _) rfl ?_
  intro b2 w1 E2 hb2 hk2
  refine st_box (v := .agg _) rfl ?_
  intro b3 w2 E3 hb3 hk3
  refine asi rfl ?_
  refine st_nil (nx_then (cd_seq (cd_region ?_)))
  refine st_val (ro_fieldAddr TrSort_f43_0 rfl) ?_
  refine st_val (ro_load TrSort_g9 rfl (by exact (hk2.from_ E3).rd 0 rfl)) ?_
  refine st_val (ro_fieldAddr TrSort_f43_0 rfl) ?_
  refine st_val (ro_load TrSort_g9 rfl (by exact hk3.rd 0 rfl)) ?_
  refine st_call TrSort_k19 (strCmp_rt a.1 b.1 _) ?_
  rintro v9 w3 ⟨rfl, rfl⟩
  refine asi rfl ?_
  refine st_nil (nx_then (cd_ret ?_))
  refine res1 (v := .int _ _) rfl rfl ?_
  exact ⟨rfl, ((From.rfl_.next E2).next E3)⟩
set_option maxHeartbeats 2000000 in
theorem swapR_rt (base : Nat) (A : Option Addr) (c n : Nat) (xs : List Dc) (w : World) (ho : w.ownsRow base 43 2 (.slice A n c) n (xs.flatMap dV)) (hbs : base ≤ w.heap.size) (hl : n ≤ 100000000) (a b q : Nat) (hab : a + q ≤ b) (hbn : b + q ≤ n) :
    Rt Try.prog 30 [.slice A n c, .int .i64 (a : Nat), .int .i64 (b : Nat), .int .i64 (q : Nat), .func (.func 18) #[] #[]] w (fun _ w' => ∃ ys, w'.ownsRow base 43 2 (.slice A n c) n (List.flatMap dV ys) ∧ w.grownBy w' (A.map (·.block)) ∧ SM.PW Dz a (b + q) xs ys ∧ ∀ k, SM.G Dz ys k = SM.swr a b q (SM.G Dz xs) k) := by
  have hxl := own_leng dV_len ho
  refine enter (n := 38) Try.func30 rfl rfl rfl ?_
  refine cd_seq (cd_region ?_)
  refine asi rfl ?_
  refine st_nil (nx_then (cd_block ?_))
  refine cd_loop (G := Nat × List Dc) [11, 12, 13, 14, 15, 16, 17, 18, 19, 20, 21, 22, 23, 24, 25, 26, 27, 28, 29, 30, 31, 32, 33, 34, 35, 36, 37] (fun (i, _) => [(10, .int .i64 (i : Nat))]) (fun (i, ys) w' => i ≤ q ∧ w'.ownsRow base 43 2 (.slice A n c) n (List.flatMap dV ys) ∧ w.grownBy w' (A.map (·.block)) ∧ SM.PW Dz a (b + q) xs ys ∧ ∀ k, SM.G Dz ys k = SM.swr a b i (SM.G Dz xs) k) (fun (i, _) => q - i) ((0, xs)) ⟨rfl, trivial⟩ ?_ ?_
  · exact ⟨Nat.zero_le _, ho, World.grownBy.refl _ _, .rfl_, fun k => (SM.swr_zero a b _ k).symm⟩
  rintro ⟨i, ys⟩ ρ1 w1 ⟨hi, hoy, hG0, hP, hR⟩
  refine cd_seq (cd_seq (cd_region ?_))
  refine mvi rfl ?_
  refine mvi rfl ?_
  refine st_val (ro_lss rfl rfl) ?_
  refine st_nil (nx_then ?_)
  refine cd_cond rfl (fun Q2 => ?_) (fun Q2 => ?_)
  · with_reducible replace Q2 := of_decide_eq_true Q2
    obtain ⟨g, rfl⟩ := own_some ho (by omega)
    have hyl := own_leng dV_len hoy
    refine cd_skip (nx_then (cd_seq (cd_block ?_)))
    have hU3 : UniT [(0, 16, .slice (some ⟨g, 0, none⟩) n c), (1, 17, .int .i64 ((a : Nat) : Int)), (2, 18, .int .i64 ((i : Nat) : Int)), (3, 19, .int .i64 (((a + i) : Nat) : Int)), (4, 20, .slice (some ⟨g, 0, none⟩) n c), (5, 21, .int .i64 ((b : Nat) : Int)), (6, 22, .int .i64 ((i : Nat) : Int)), (7, 23, .int .i64 (((b + i) : Nat) : Int)), (8, 24, .slice (some ⟨g, 0, none⟩) n c), (9, 25, .int .i64 ((b : Nat) : Int)), (10, 26, .int .i64 ((i : Nat) : Int)), (11, 27, .int .i64 (((b + i) : Nat) : Int)), (12, 28, .pointer (some ⟨g, 0 + (b + i) * 2, none⟩)), (13, 29, .agg (dV (SM.G Dz ys (b + i))).toArray), (14, 30, .slice (some ⟨g, 0, none⟩) n c), (15, 31, .int .i64 ((a : Nat) : Int)), (16, 32, .int .i64 ((i : Nat) : Int)), (17, 33, .int .i64 (((a + i) : Nat) : Int)), (18, 34, .pointer (some ⟨g, 0 + (a + i) * 2, none⟩)), (19, 35, .agg (dV (SM.G Dz ys (a + i))).toArray), (20, 36, .pointer (some ⟨g, 0 + (a + i) * 2, none⟩)), (22, 37, .pointer (some ⟨g, 0 + (b + i) * 2, none⟩))] := by simp [UniT]
    refine cd_invT [(0, 16, .slice (some ⟨g, 0, none⟩) n c), (1, 17, .int .i64 ((a : Nat) : Int)), (2, 18, .int .i64 ((i : Nat) : Int)), (3, 19, .int .i64 (((a + i) : Nat) : Int)), (4, 20, .slice (some ⟨g, 0, none⟩) n c), (5, 21, .int .i64 ((b : Nat) : Int)), (6, 22, .int .i64 ((i : Nat) : Int)), (7, 23, .int .i64 (((b + i) : Nat) : Int)), (8, 24, .slice (some ⟨g, 0, none⟩) n c), (9, 25, .int .i64 ((b : Nat) : Int)), (10, 26, .int .i64 ((i : Nat) : Int)), (11, 27, .int .i64 (((b + i) : Nat) : Int)), (12, 28, .pointer (some ⟨g, 0 + (b + i) * 2, none⟩)), (13, 29, .agg (dV (SM.G Dz ys (b + i))).toArray), (14, 30, .slice (some ⟨g, 0, none⟩) n c), (15, 31, .int .i64 ((a : Nat) : Int)), (16, 32, .int .i64 ((i : Nat) : Int)), (17, 33, .int .i64 (((a + i) : Nat) : Int)), (18, 34, .pointer (some ⟨g, 0 + (a + i) * 2, none⟩)), (19, 35, .agg (dV (SM.G Dz ys (a + i))).toArray), (20, 36, .pointer (some ⟨g, 0 + (a + i) * 2, none⟩)), (22, 37, .pointer (some ⟨g, 0 + (b + i) * 2, none⟩))] (fun S w' => World.grownBy w1 w' (some g) ∧ (S 21 = false → w'.ownsRow base 43 2 (.slice (some ⟨g, 0, none⟩) n c) n (List.flatMap dV ys)) ∧ (S 21 = true → S 13 = true ∧ S 19 = true) ∧ (S 21 = true → S 23 = false → w'.ownsRow base 43 2 (.slice (some ⟨g, 0, none⟩) n c) n (List.flatMap dV (ys.set (a + i) (SM.G Dz ys (b + i))))) ∧ (S 21 = true → S 23 = true → w'.ownsRow base 43 2 (.slice (some ⟨g, 0, none⟩) n c) n (List.flatMap dV ((ys.set (a + i) (SM.G Dz ys (b + i))).set (b + i) (SM.G Dz ys (a + i))))) ∧ (S 21 = false → S 23 = false)) (by kernel_rfl) (by kernel_rfl) hU3 (by simp) (⟨(From.rfl_.d1 (a := w1)).grown _, fun _ => hoy.kept_from From.rfl_.d1, fun q => Bool.noConfusion q, fun q => Bool.noConfusion q, fun q => Bool.noConfusion q, fun _ => rfl⟩) ?_ ?_
    · refine ⟨?_, ?_⟩
      · rintro S L' wS hI hM hS0 ⟨-⟩
        have e0 := hI.1 0 (by simp)
        have hM' := hM
        obtain ⟨hG, hA, hB1, hC, hD, hE⟩ := hM'
        exact step_ro (ro_move e0) ⟨hI.put hU3 (.head _), hM⟩
      refine ⟨?_, ?_⟩
      · rintro S L' wS hI hM hS0 ⟨-⟩
        have e1 := hI.1 1 (by simp)
        have hM' := hM
        obtain ⟨hG, hA, hB1, hC, hD, hE⟩ := hM'
        exact step_ro (ro_move e1) ⟨hI.put hU3 (.tail _ (.head _)), hM⟩
      refine ⟨?_, ?_⟩
      · rintro S L' wS hI hM hS0 ⟨-⟩
        have e10 := hI.1 10 (by simp)
        have hM' := hM
        obtain ⟨hG, hA, hB1, hC, hD, hE⟩ := hM'
        exact step_ro (ro_move e10) ⟨hI.put hU3 (.tail _ (.tail _ (.head _))), hM⟩
      refine ⟨?_, ?_⟩
      · rintro S L' wS hI hM hS0 ⟨d1, d2, -⟩
        have e17 : look L' 17 = .int .i64 ((a : Nat) : Int) := hI.get (i := 1) (.tail _ (.head _)) d1
        have e18 : look L' 18 = .int .i64 ((i : Nat) : Int) := hI.get (i := 2) (.tail _ (.tail _ (.head _))) d2
        have hM' := hM
        obtain ⟨hG, hA, hB1, hC, hD, hE⟩ := hM'
        exact step_ro (ro_addN (a := a) (b := i) e17 e18 (by omega)) ⟨hI.put hU3 (.tail _ (.tail _ (.tail _ (.head _)))), hM⟩
      refine ⟨?_, ?_⟩
      · rintro S L' wS hI hM hS0 ⟨-, -⟩
        have e0 := hI.1 0 (by simp)
        have hM' := hM
        obtain ⟨hG, hA, hB1, hC, hD, hE⟩ := hM'
        exact step_ro (ro_move e0) ⟨hI.put hU3 (.tail _ (.tail _ (.tail _ (.tail _ (.head _))))), hM⟩
      refine ⟨?_, ?_⟩
      · rintro S L' wS hI hM hS0 ⟨-, -⟩
        have e2 := hI.1 2 (by simp)
        have hM' := hM
        obtain ⟨hG, hA, hB1, hC, hD, hE⟩ := hM'
        exact step_ro (ro_move e2) ⟨hI.put hU3 (.tail _ (.tail _ (.tail _ (.tail _ (.tail _ (.head _)))))), hM⟩
      refine ⟨?_, ?_⟩
      · rintro S L' wS hI hM hS0 ⟨-, -⟩
        have e10 := hI.1 10 (by simp)
        have hM' := hM
        obtain ⟨hG, hA, hB1, hC, hD, hE⟩ := hM'
        exact step_ro (ro_move e10) ⟨hI.put hU3 (.tail _ (.tail _ (.tail _ (.tail _ (.tail _ (.tail _ (.head _))))))), hM⟩
      refine ⟨?_, ?_⟩
      · rintro S L' wS hI hM hS0 ⟨d5, d6, -, -⟩
        have e21 : look L' 21 = .int .i64 ((b : Nat) : Int) := hI.get (i := 5) (.tail _ (.tail _ (.tail _ (.tail _ (.tail _ (.head _)))))) d5
        have e22 : look L' 22 = .int .i64 ((i : Nat) : Int) := hI.get (i := 6) (.tail _ (.tail _ (.tail _ (.tail _ (.tail _ (.tail _ (.head _))))))) d6
        have hM' := hM
        obtain ⟨hG, hA, hB1, hC, hD, hE⟩ := hM'
        exact step_ro (ro_addN (a := b) (b := i) e21 e22 (by omega)) ⟨hI.put hU3 (.tail _ (.tail _ (.tail _ (.tail _ (.tail _ (.tail _ (.tail _ (.head _)))))))), hM⟩
      refine ⟨?_, ?_⟩
      · rintro S L' wS hI hM hS0 ⟨-⟩
        have e0 := hI.1 0 (by simp)
        have hM' := hM
        obtain ⟨hG, hA, hB1, hC, hD, hE⟩ := hM'
        exact step_ro (ro_move e0) ⟨hI.put hU3 (.tail _ (.tail _ (.tail _ (.tail _ (.tail _ (.tail _ (.tail _ (.tail _ (.head _))))))))), hM⟩
      refine ⟨?_, ?_⟩
      · rintro S L' wS hI hM hS0 ⟨-⟩
        have e2 := hI.1 2 (by simp)
        have hM' := hM
        obtain ⟨hG, hA, hB1, hC, hD, hE⟩ := hM'
        exact step_ro (ro_move e2) ⟨hI.put hU3 (.tail _ (.tail _ (.tail _ (.tail _ (.tail _ (.tail _ (.tail _ (.tail _ (.tail _ (.head _)))))))))), hM⟩
      refine ⟨?_, ?_⟩
      · rintro S L' wS hI hM hS0 ⟨-⟩
        have e10 := hI.1 10 (by simp)
        have hM' := hM
        obtain ⟨hG, hA, hB1, hC, hD, hE⟩ := hM'
        exact step_ro (ro_move e10) ⟨hI.put hU3 (.tail _ (.tail _ (.tail _ (.tail _ (.tail _ (.tail _ (.tail _ (.tail _ (.tail _ (.tail _ (.head _))))))))))), hM⟩
      refine ⟨?_, ?_⟩
      · rintro S L' wS hI hM hS0 ⟨d9, d10, -⟩
        have e25 : look L' 25 = .int .i64 ((b : Nat) : Int) := hI.get (i := 9) (.tail _ (.tail _ (.tail _ (.tail _ (.tail _ (.tail _ (.tail _ (.tail _ (.tail _ (.head _)))))))))) d9
        have e26 : look L' 26 = .int .i64 ((i : Nat) : Int) := hI.get (i := 10) (.tail _ (.tail _ (.tail _ (.tail _ (.tail _ (.tail _ (.tail _ (.tail _ (.tail _ (.tail _ (.head _))))))))))) d10
        have hM' := hM
        obtain ⟨hG, hA, hB1, hC, hD, hE⟩ := hM'
        exact step_ro (ro_addN (a := b) (b := i) e25 e26 (by omega)) ⟨hI.put hU3 (.tail _ (.tail _ (.tail _ (.tail _ (.tail _ (.tail _ (.tail _ (.tail _ (.tail _ (.tail _ (.tail _ (.head _)))))))))))), hM⟩
      refine ⟨?_, ?_⟩
      · rintro S L' wS hI hM hS0 ⟨d8, d11, -⟩
        have e24 : look L' 24 = .slice (some ⟨g, 0, none⟩) n c := hI.get (i := 8) (.tail _ (.tail _ (.tail _ (.tail _ (.tail _ (.tail _ (.tail _ (.tail _ (.head _))))))))) d8
        have e27 : look L' 27 = .int .i64 (((b + i) : Nat) : Int) := hI.get (i := 11) (.tail _ (.tail _ (.tail _ (.tail _ (.tail _ (.tail _ (.tail _ (.tail _ (.tail _ (.tail _ (.tail _ (.head _)))))))))))) d11
        have hM' := hM
        obtain ⟨hG, hA, hB1, hC, hD, hE⟩ := hM'
        exact step_ro (ro_indexAddrN (i := (b + i)) TrSort_e27 e24 e27 (by omega)) ⟨hI.put hU3 (.tail _ (.tail _ (.tail _ (.tail _ (.tail _ (.tail _ (.tail _ (.tail _ (.tail _ (.tail _ (.tail _ (.tail _ (.head _))))))))))))), hM⟩
      refine ⟨?_, ?_⟩
      · rintro S L' wS hI hM hS0 ⟨d12, -⟩
        have e28 : look L' 28 = .pointer (some ⟨g, 0 + (b + i) * 2, none⟩) := hI.get (i := 12) (.tail _ (.tail _ (.tail _ (.tail _ (.tail _ (.tail _ (.tail _ (.tail _ (.tail _ (.tail _ (.tail _ (.tail _ (.head _))))))))))))) d12
        have hM' := hM
        obtain ⟨hG, hA, hB1, hC, hD, hE⟩ := hM'
        exact step_ro (ro_loadA (cs := dV (SM.G Dz ys (b + i))) TrSort_g43 TrSort_z43 e28 (own_rd dV_len Dz (hA (s_no (fun q => (hB1 q).1) hS0)) (by omega))) ⟨hI.put hU3 (.tail _ (.tail _ (.tail _ (.tail _ (.tail _ (.tail _ (.tail _ (.tail _ (.tail _ (.tail _ (.tail _ (.tail _ (.tail _ (.head _)))))))))))))), hG, hA, fun q => ⟨rfl, (hB1 q).2⟩, hC, hD, hE⟩
      refine ⟨?_, ?_⟩
      · rintro S L' wS hI hM hS0 ⟨-⟩
        have e0 := hI.1 0 (by simp)
        have hM' := hM
        obtain ⟨hG, hA, hB1, hC, hD, hE⟩ := hM'
        exact step_ro (ro_move e0) ⟨hI.put hU3 (.tail _ (.tail _ (.tail _ (.tail _ (.tail _ (.tail _ (.tail _ (.tail _ (.tail _ (.tail _ (.tail _ (.tail _ (.tail _ (.tail _ (.head _))))))))))))))), hM⟩
      refine ⟨?_, ?_⟩
      · rintro S L' wS hI hM hS0 ⟨-⟩
        have e1 := hI.1 1 (by simp)
        have hM' := hM
        obtain ⟨hG, hA, hB1, hC, hD, hE⟩ := hM'
        exact step_ro (ro_move e1) ⟨hI.put hU3 (.tail _ (.tail _ (.tail _ (.tail _ (.tail _ (.tail _ (.tail _ (.tail _ (.tail _ (.tail _ (.tail _ (.tail _ (.tail _ (.tail _ (.tail _ (.head _)))))))))))))))), hM⟩
      refine ⟨?_, ?_⟩
      · rintro S L' wS hI hM hS0 ⟨-⟩
        have e10 := hI.1 10 (by simp)
        have hM' := hM
        obtain ⟨hG, hA, hB1, hC, hD, hE⟩ := hM'
        exact step_ro (ro_move e10) ⟨hI.put hU3 (.tail _ (.tail _ (.tail _ (.tail _ (.tail _ (.tail _ (.tail _ (.tail _ (.tail _ (.tail _ (.tail _ (.tail _ (.tail _ (.tail _ (.tail _ (.tail _ (.head _))))))))))))))))), hM⟩
      refine ⟨?_, ?_⟩
      · rintro S L' wS hI hM hS0 ⟨d15, d16, -⟩
        have e31 : look L' 31 = .int .i64 ((a : Nat) : Int) := hI.get (i := 15) (.tail _ (.tail _ (.tail _ (.tail _ (.tail _ (.tail _ (.tail _ (.tail _ (.tail _ (.tail _ (.tail _ (.tail _ (.tail _ (.tail _ (.tail _ (.head _)))))))))))))))) d15
        have e32 : look L' 32 = .int .i64 ((i : Nat) : Int) := hI.get (i := 16) (.tail _ (.tail _ (.tail _ (.tail _ (.tail _ (.tail _ (.tail _ (.tail _ (.tail _ (.tail _ (.tail _ (.tail _ (.tail _ (.tail _ (.tail _ (.tail _ (.head _))))))))))))))))) d16
        have hM' := hM
        obtain ⟨hG, hA, hB1, hC, hD, hE⟩ := hM'
        exact step_ro (ro_addN (a := a) (b := i) e31 e32 (by omega)) ⟨hI.put hU3 (.tail _ (.tail _ (.tail _ (.tail _ (.tail _ (.tail _ (.tail _ (.tail _ (.tail _ (.tail _ (.tail _ (.tail _ (.tail _ (.tail _ (.tail _ (.tail _ (.tail _ (.head _)))))))))))))))))), hM⟩
      refine ⟨?_, ?_⟩
      · rintro S L' wS hI hM hS0 ⟨d14, d17, -⟩
        have e30 : look L' 30 = .slice (some ⟨g, 0, none⟩) n c := hI.get (i := 14) (.tail _ (.tail _ (.tail _ (.tail _ (.tail _ (.tail _ (.tail _ (.tail _ (.tail _ (.tail _ (.tail _ (.tail _ (.tail _ (.tail _ (.head _))))))))))))))) d14
        have e33 : look L' 33 = .int .i64 (((a + i) : Nat) : Int) := hI.get (i := 17) (.tail _ (.tail _ (.tail _ (.tail _ (.tail _ (.tail _ (.tail _ (.tail _ (.tail _ (.tail _ (.tail _ (.tail _ (.tail _ (.tail _ (.tail _ (.tail _ (.tail _ (.head _)))))))))))))))))) d17
        have hM' := hM
        obtain ⟨hG, hA, hB1, hC, hD, hE⟩ := hM'
        exact step_ro (ro_indexAddrN (i := (a + i)) TrSort_e27 e30 e33 (by omega)) ⟨hI.put hU3 (.tail _ (.tail _ (.tail _ (.tail _ (.tail _ (.tail _ (.tail _ (.tail _ (.tail _ (.tail _ (.tail _ (.tail _ (.tail _ (.tail _ (.tail _ (.tail _ (.tail _ (.tail _ (.head _))))))))))))))))))), hM⟩
      refine ⟨?_, ?_⟩
      · rintro S L' wS hI hM hS0 ⟨d18, -⟩
        have e34 : look L' 34 = .pointer (some ⟨g, 0 + (a + i) * 2, none⟩) := hI.get (i := 18) (.tail _ (.tail _ (.tail _ (.tail _ (.tail _ (.tail _ (.tail _ (.tail _ (.tail _ (.tail _ (.tail _ (.tail _ (.tail _ (.tail _ (.tail _ (.tail _ (.tail _ (.tail _ (.head _))))))))))))))))))) d18
        have hM' := hM
        obtain ⟨hG, hA, hB1, hC, hD, hE⟩ := hM'
        exact step_ro (ro_loadA (cs := dV (SM.G Dz ys (a + i))) TrSort_g43 TrSort_z43 e34 (own_rd dV_len Dz (hA (s_no (fun q => (hB1 q).2) hS0)) (by omega))) ⟨hI.put hU3 (.tail _ (.tail _ (.tail _ (.tail _ (.tail _ (.tail _ (.tail _ (.tail _ (.tail _ (.tail _ (.tail _ (.tail _ (.tail _ (.tail _ (.tail _ (.tail _ (.tail _ (.tail _ (.tail _ (.head _)))))))))))))))))))), hG, hA, fun q => ⟨(hB1 q).1, rfl⟩, hC, hD, hE⟩
      refine ⟨?_, ?_⟩
      · rintro S L' wS hI hM hS0 ⟨d0, d3, d0, d1, d2, d3, -, -, -, -, d8, d9, d10, d11, d12, d13, -, -, -, -, -, d19, -⟩
        have e16 : look L' 16 = .slice (some ⟨g, 0, none⟩) n c := hI.get (i := 0) (.head _) d0
        have e19 : look L' 19 = .int .i64 (((a + i) : Nat) : Int) := hI.get (i := 3) (.tail _ (.tail _ (.tail _ (.head _)))) d3
        have hM' := hM
        obtain ⟨hG, hA, hB1, hC, hD, hE⟩ := hM'
        exact step_ro (ro_indexAddrN (i := (a + i)) TrSort_e27 e16 e19 (by omega)) ⟨hI.put hU3 (.tail _ (.tail _ (.tail _ (.tail _ (.tail _ (.tail _ (.tail _ (.tail _ (.tail _ (.tail _ (.tail _ (.tail _ (.tail _ (.tail _ (.tail _ (.tail _ (.tail _ (.tail _ (.tail _ (.tail _ (.head _))))))))))))))))))))), hM⟩
      refine ⟨?_, ?_⟩
      · rintro S L' wS hI hM hS0 ⟨d20, d13, d0, d1, d2, d3, -, -, -, -, d8, d9, d10, d11, d12, d13, -, -, -, -, -, d19, -⟩
        have e29 : look L' 29 = .agg (dV (SM.G Dz ys (b + i))).toArray := hI.get (i := 13) (.tail _ (.tail _ (.tail _ (.tail _ (.tail _ (.tail _ (.tail _ (.tail _ (.tail _ (.tail _ (.tail _ (.tail _ (.tail _ (.head _)))))))))))))) d13
        have e36 : look L' 36 = .pointer (some ⟨g, 0 + (a + i) * 2, none⟩) := hI.get (i := 20) (.tail _ (.tail _ (.tail _ (.tail _ (.tail _ (.tail _ (.tail _ (.tail _ (.tail _ (.tail _ (.tail _ (.tail _ (.tail _ (.tail _ (.tail _ (.tail _ (.tail _ (.tail _ (.tail _ (.tail _ (.head _))))))))))))))))))))) d20
        have hM' := hM
        obtain ⟨hG, hA, hB1, hC, hD, hE⟩ := hM'
        obtain ⟨w2, hR, hO, hb⟩ := rs_putOwnD (n := 38) (L := L') (x := .tmp 36) (y := .tmp 29) (f := dV) dV_len dV_each (i := (a + i)) TrSort_z43 e36 e29 (hA hS0) (by omega)
        exact step_rs hR ⟨hI.skip (by simp), grown_trans hG hO.grown, fun q => Bool.noConfusion q, fun _ => ⟨d13, d19⟩, fun _ _ => hb, fun _ q => Bool.noConfusion (q.symm.trans (hE hS0)), fun q => Bool.noConfusion q⟩
      refine ⟨?_, ?_⟩
      · rintro S L' wS hI hM hS0 ⟨d4, d7, d0, d1, d2, d3, d4, d5, d6, d7, d8, d9, d10, d11, d12, d13, d14, d15, d16, d17, d18, d19, d20, d21, -⟩
        have e20 : look L' 20 = .slice (some ⟨g, 0, none⟩) n c := hI.get (i := 4) (.tail _ (.tail _ (.tail _ (.tail _ (.head _))))) d4
        have e23 : look L' 23 = .int .i64 (((b + i) : Nat) : Int) := hI.get (i := 7) (.tail _ (.tail _ (.tail _ (.tail _ (.tail _ (.tail _ (.tail _ (.head _)))))))) d7
        have hM' := hM
        obtain ⟨hG, hA, hB1, hC, hD, hE⟩ := hM'
        exact step_ro (ro_indexAddrN (i := (b + i)) TrSort_e27 e20 e23 (by omega)) ⟨hI.put hU3 (.tail _ (.tail _ (.tail _ (.tail _ (.tail _ (.tail _ (.tail _ (.tail _ (.tail _ (.tail _ (.tail _ (.tail _ (.tail _ (.tail _ (.tail _ (.tail _ (.tail _ (.tail _ (.tail _ (.tail _ (.tail _ (.head _)))))))))))))))))))))), hM⟩
      refine ⟨?_, ?_⟩
      · rintro S L' wS hI hM hS0 ⟨d22, d19, d21, d0, d1, d2, d3, d4, d5, d6, d7, d8, d9, d10, d11, d12, d13, d14, d15, d16, d17, d18, d19, d20, d21, -⟩
        have e35 : look L' 35 = .agg (dV (SM.G Dz ys (a + i))).toArray := hI.get (i := 19) (.tail _ (.tail _ (.tail _ (.tail _ (.tail _ (.tail _ (.tail _ (.tail _ (.tail _ (.tail _ (.tail _ (.tail _ (.tail _ (.tail _ (.tail _ (.tail _ (.tail _ (.tail _ (.tail _ (.head _)))))))))))))))))))) d19
        have e37 : look L' 37 = .pointer (some ⟨g, 0 + (b + i) * 2, none⟩) := hI.get (i := 22) (.tail _ (.tail _ (.tail _ (.tail _ (.tail _ (.tail _ (.tail _ (.tail _ (.tail _ (.tail _ (.tail _ (.tail _ (.tail _ (.tail _ (.tail _ (.tail _ (.tail _ (.tail _ (.tail _ (.tail _ (.tail _ (.head _)))))))))))))))))))))) d22
        have hM' := hM
        obtain ⟨hG, hA, hB1, hC, hD, hE⟩ := hM'
        obtain ⟨w2, hR, hO, hb⟩ := rs_putOwnD (n := 38) (L := L') (x := .tmp 37) (y := .tmp 35) (f := dV) dV_len dV_each (i := (b + i)) TrSort_z43 e37 e35 (hC d21 hS0) (by omega)
        exact step_rs hR ⟨hI.skip (by simp), grown_trans hG hO.grown, fun q => Bool.noConfusion (q.symm.trans d21), hB1, fun _ q => Bool.noConfusion q, fun _ _ => hb, fun q => Bool.noConfusion (q.symm.trans d21)⟩
      exact trivial
    · intro w4 hM
      obtain ⟨hG, hA, hB1, hC, hD, hE⟩ := hM
      have hS9 := hD rfl rfl
      change World.ownsRow _ _ _ _ _ _ (List.flatMap dV (SM.swp Dz ys (a + i) (b + i))) at hS9
      
      refine nx_block (nx_then (cd_region ?_))
      refine mvi rfl ?_
      refine st_val (ro_addN (b := 1) rfl rfl (by omega)) ?_
      refine asi rfl ?_
      refine st_nil ?_
      refine nx_cut ((i + 1, SM.swp Dz ys (a + i) (b + i))) ⟨(by first | rfl | (refine int_eq ?_; omega)), trivial⟩ (by (iterate 56 refine agr_cons rfl ?_); exact agr_rfl) ⟨?_, ?_⟩
      · exact ⟨by omega, hS9, grown_trans hG0 hG, hP.trans (.swap (by omega) (by omega) (by omega)), SM.swr_succ hR (by omega) hyl (by omega)⟩
      · show q - (i + 1) < q - i; omega
  with_reducible replace Q2 := of_decide_eq_false Q2
  refine cd_exit ?_
  refine ex_then (ex_then (ex_block ?_))
  refine end_ret ?_
  refine res0 rfl ?_
  obtain rfl : i = q := by omega
  exact ⟨ys, hoy, hG0, hP, hR⟩
set_option maxHeartbeats 4000000 in
theorem insert_rt (base : Nat) (A : Option Addr) (c n : Nat) (xs : List Dc) (w : World) (ho : w.ownsRow base 43 2 (.slice A n c) n (xs.flatMap dV)) (hbs : base ≤ w.heap.size) (hl : n ≤ 100000000) (a b : Nat) (hab : a ≤ b) (hbn : b ≤ n) :
    Rt Try.prog 26 [.slice A n c, .int .i64 (a : Nat), .int .i64 (b : Nat), .func (.func 18) #[] #[]] w (fun _ w' => ∃ ys, w'.ownsRow base 43 2 (.slice A n c) n (List.flatMap dV ys) ∧ w.grownBy w' (A.map (·.block)) ∧ SM.PW Dz a b xs ys ∧ SM.Srt Dz ltD a b ys) := by
  have hxl := own_leng dV_len ho
  refine enter (n := 53) Try.func26 rfl rfl rfl ?_
  refine cd_seq (cd_region ?_)
  refine mvi rfl ?_
  refine st_val (ro_addN (b := 1) rfl rfl (by omega)) ?_
  refine asi rfl ?_
  refine st_nil (nx_then (cd_block ?_))
  refine cd_loop (G := Nat × List Dc) [9, 12, 13, 14, 15, 16, 17, 18, 19, 20, 21, 22, 23, 24, 25, 26, 27, 28, 29, 30, 31, 32, 33, 34, 35, 36, 37, 38, 39, 40, 41, 42, 43, 44, 45, 46, 47, 48, 49, 50, 51, 52] (fun (i, _) => [(8, .int .i64 (i : Nat))]) (fun (i, ys) w' => a + 1 ≤ i ∧ (i ≤ b ∨ i = a + 1) ∧ w'.ownsRow base 43 2 (.slice A n c) n (List.flatMap dV ys) ∧ w.grownBy w' (A.map (·.block)) ∧ SM.PW Dz a b xs ys ∧ SM.Srt Dz ltD a i ys) (fun (i, _) => b - i) ((a + 1, xs)) ⟨rfl, trivial⟩ ?_ ?_
  · exact ⟨Nat.le_refl _, .inr rfl, ho, World.grownBy.refl _ _, .rfl_, (SM.Srt.one ltD_ord (by omega)).2 trivial⟩
  rintro ⟨i, ys⟩ ρ1 w1 ⟨hia, hib, hoy, hG0, hP, hR⟩
  refine cd_seq (cd_seq (cd_region ?_))
  refine mvi rfl ?_
  refine mvi rfl ?_
  refine st_val (ro_lss rfl rfl) ?_
  refine st_nil (nx_then ?_)
  refine cd_cond rfl (fun Q2 => ?_) (fun Q2 => ?_)
  · with_reducible replace Q2 := of_decide_eq_true Q2
    obtain ⟨g, rfl⟩ := own_some ho (by omega)
    refine cd_skip (nx_then (cd_seq (cd_block (cd_seq (cd_region ?_)))))
    refine mvi rfl ?_
    refine asi rfl ?_
    refine st_nil (nx_then (cd_block ?_))
    refine cd_loop (G := Nat × List Dc) [18, 19, 20, 21, 22, 23, 24, 25, 26, 27, 28, 29, 30, 31, 32, 33, 34, 35, 36, 37, 38, 39, 40, 41, 42, 43, 44, 45, 46, 47, 48, 49, 50, 51, 52] (fun (j, _) => [(9, .int .i64 (j : Nat))]) (fun (j, ys) w' => a ≤ j ∧ j ≤ i ∧ w'.ownsRow base 43 2 (.slice (some ⟨g, 0, none⟩) n c) n (List.flatMap dV ys) ∧ w.grownBy w' (some g) ∧ SM.PW Dz a b xs ys ∧ SM.Ins Dz ltD a i j ys) (fun (j, _) => j - a) ((i, ys)) ⟨rfl, trivial⟩ ?_ ?_
    · exact ⟨by omega, Nat.le_refl _, hoy, hG0, hP, SM.Ins.start hR⟩
    rintro ⟨j, ys⟩ ρ3 w3 ⟨hja, hji, hoy, hG0, hP, hR⟩
    refine cd_seq (cd_seq ?_)
    have hsp : j = a ∨ a < j := by omega
    rcases hsp with hj9 | hj9
    · apply cd_drawnD 17 [(18, eqp _), (19, eqp _), (20, eqp _), (21, eqp _), (22, eqp _), (23, eqp _), (24, eqp _), (25, eqp _), (26, eqp _), (27, eqp _), (28, eqp _), (29, eqp _), (30, eqp _), (31, eqp _), (32, eqp _), (33, eqp _), (34, eqp _)] (by repeat first | exact pq_body | refine pq_then ?_ | refine pq_block ?_) (by kernel_rfl) (by kernel_rfl) ⟨eqp_mono _, eqp_mono _, eqp_mono _, eqp_mono _, eqp_mono _, eqp_mono _, eqp_mono _, eqp_mono _, eqp_mono _, eqp_mono _, eqp_mono _, eqp_mono _, eqp_mono _, eqp_mono _, eqp_mono _, eqp_mono _, eqp_mono _, trivial⟩
      case hop =>
       refine ⟨?_, ?_⟩
       · rintro - w5 D5
         show OpOK _ _ _ _ _ _ _
         exact ok_pure (ro_move (v := .int _ _) rfl) rfl
       refine ⟨?_, ?_⟩
       · rintro - w6 D6
         show OpOK _ _ _ _ _ _ _
         exact ok_pure (ro_move (v := .int _ _) rfl) rfl
       refine ⟨?_, ?_⟩
       · rintro - w7 D7
         rintro _ rfl _ rfl
         show OpOK _ _ _ _ _ _ _
         exact ok_pure (ro_bf (ro_gtr rfl rfl) (decide_eq_false (by omega))) rfl
       refine ⟨?_, ?_⟩
       · rintro - w8 D8
         rintro _ rfl
         show OpOK _ _ _ _ _ _ _
         exact ok_pure (ro_move (v := .bool _) rfl) rfl
       refine ⟨?_, ?_⟩
       · rintro - w9 D9
         rintro _ rfl
         show OpOK _ _ _ _ _ _ _
         exact ok_gno rfl rfl rfl
       refine ⟨?_, ?_⟩
       · rintro - w10 D10
         rintro _ rfl
         show OpOK _ _ _ _ _ _ _
         exact ok_gno rfl rfl rfl
       refine ⟨?_, ?_⟩
       · rintro - w11 D11
         rintro _ rfl
         show OpOK _ _ _ _ _ _ _
         exact ok_gno rfl rfl rfl
       refine ⟨?_, ?_⟩
       · rintro - w12 D12
         rintro _ rfl _ rfl _ rfl
         show OpOK _ _ _ _ _ _ _
         exact ok_gno rfl rfl rfl
       refine ⟨?_, ?_⟩
       · rintro - w13 D13
         rintro _ rfl _ rfl
         show OpOK _ _ _ _ _ _ _
         exact ok_gno rfl rfl rfl
       refine ⟨?_, ?_⟩
       · rintro - w14 D14
         rintro _ rfl
         show OpOK _ _ _ _ _ _ _
         exact ok_gno rfl rfl rfl
       refine ⟨?_, ?_⟩
       · rintro - w15 D15
         rintro _ rfl
         show OpOK _ _ _ _ _ _ _
         exact ok_gno rfl rfl rfl
       refine ⟨?_, ?_⟩
       · rintro - w16 D16
         rintro _ rfl _ rfl
         show OpOK _ _ _ _ _ _ _
         exact ok_gno rfl rfl rfl
       refine ⟨?_, ?_⟩
       · rintro - w17 D17
         rintro _ rfl _ rfl _ rfl
         show OpOK _ _ _ _ _ _ _
         exact ok_gno rfl rfl rfl
       refine ⟨?_, ?_⟩
       · rintro - w18 D18
         rintro _ rfl _ rfl
         show OpOK _ _ _ _ _ _ _
         exact ok_gno rfl rfl rfl
       refine ⟨?_, ?_⟩
       · rintro - w19 D19
         rintro _ rfl _ rfl _ rfl _ rfl
         show OpOK _ _ _ _ _ _ _
         exact ok_gno rfl rfl rfl
       refine ⟨?_, ?_⟩
       · rintro - w20 D20
         rintro _ rfl _ rfl
         show OpOK _ _ _ _ _ _ _
         exact ok_gno rfl rfl rfl
       refine ⟨?_, ?_⟩
       · rintro - w21 D21
         rintro _ rfl _ rfl
         show OpOK _ _ _ _ _ _ _
         exact ok_pure (ro_pickF (v := .bool _) rfl rfl) rfl
       exact trivial
      case hend =>
       intro w22 D22
       rintro _ rfl _ rfl _ rfl _ rfl _ rfl _ rfl _ rfl _ rfl _ rfl _ rfl _ rfl _ rfl _ rfl _ rfl _ rfl _ rfl _ rfl
       show St _ _ _ _ _ _ _
       have hM4 := D22
       have hoz := hoy.kept_from hM4
       have hGz := grown_trans hG0 (hM4.grown _)
       subst hj9
       have hRz : SM.Srt Dz ltD j (i + 1) ys := hR.low ltD_ord
       refine st_nil (nx_then ?_)
       refine cd_condF rfl ?_
       refine cd_exit ?_
       refine ex_then (ex_then (ex_block (nx_block (nx_then (cd_region ?_)))))
       refine mvi rfl ?_
       refine st_val (ro_addN (b := 1) rfl rfl (by omega)) ?_
       refine asi rfl ?_
       refine st_nil ?_
       refine nx_cut ((i + 1, ys)) ⟨(by first | rfl | (refine int_eq ?_; omega)), trivial⟩ (by (iterate 104 refine agr_cons rfl ?_); exact agr_rfl) ⟨?_, ?_⟩
       · exact ⟨by omega, .inl (by omega), hoz, hGz, hP, hRz⟩
       · show b - (i + 1) < b - i; omega
    apply cd_drawnD 17 [(18, eqp _), (19, eqp _), (20, eqp _), (21, eqp _), (22, eqp _), (23, eqp _), (24, eqp _), (25, eqp _), (26, eqp (.agg (dV (SM.G Dz ys j)).toArray)), (27, eqp _), (28, eqp _), (29, eqp _), (30, eqp _), (31, eqp (.agg (dV (SM.G Dz ys (j - 1))).toArray)), (32, eqp _), (33, eqp _), (34, eqp _)] (by repeat first | exact pq_body | refine pq_then ?_ | refine pq_block ?_) (by kernel_rfl) (by kernel_rfl) ⟨eqp_mono _, eqp_mono _, eqp_mono _, eqp_mono _, eqp_mono _, eqp_mono _, eqp_mono _, eqp_mono _, eqp_mono _, eqp_mono _, eqp_mono _, eqp_mono _, eqp_mono _, eqp_mono _, eqp_mono _, eqp_mono _, eqp_mono _, trivial⟩
    case hop =>
     refine ⟨?_, ?_⟩
     · rintro - w24 D24
       show OpOK _ _ _ _ _ _ _
       exact ok_pure (ro_move (v := .int _ _) rfl) rfl
     refine ⟨?_, ?_⟩
     · rintro - w25 D25
       show OpOK _ _ _ _ _ _ _
       exact ok_pure (ro_move (v := .int _ _) rfl) rfl
     refine ⟨?_, ?_⟩
     · rintro - w26 D26
       rintro _ rfl _ rfl
       show OpOK _ _ _ _ _ _ _
       exact ok_pure (ro_bt (ro_gtr rfl rfl) (decide_eq_true (by omega))) rfl
     refine ⟨?_, ?_⟩
     · rintro - w27 D27
       rintro _ rfl
       show OpOK _ _ _ _ _ _ _
       exact ok_pure (ro_move (v := .bool _) rfl) rfl
     refine ⟨?_, ?_⟩
     · rintro - w28 D28
       rintro _ rfl
       show OpOK _ _ _ _ _ _ _
       exact ok_gpure rfl (ro_move (v := .func _ _ _) rfl) rfl
     refine ⟨?_, ?_⟩
     · rintro - w29 D29
       rintro _ rfl
       show OpOK _ _ _ _ _ _ _
       exact ok_gpure rfl (ro_move (v := .slice _ _ _) rfl) rfl
     refine ⟨?_, ?_⟩
     · rintro - w30 D30
       rintro _ rfl
       show OpOK _ _ _ _ _ _ _
       exact ok_gpure rfl (ro_move (v := .int _ _) rfl) rfl
     refine ⟨?_, ?_⟩
     · rintro - w31 D31
       rintro _ rfl _ rfl _ rfl
       show OpOK _ _ _ _ _ _ _
       exact ok_gpure rfl (ro_indexAddr TrSort_e27 rfl rfl (by omega)) rfl
     refine ⟨?_, ?_⟩
     · rintro - w32 D32
       rintro _ rfl _ rfl
       show OpOK _ _ _ _ _ _ _
       exact ok_gpure rfl (ro_loadA (cs := dV (SM.G Dz ys j)) TrSort_g43 TrSort_z43 rfl (own_rd dV_len Dz (hoy.kept_from D32) (by omega))) rfl
     refine ⟨?_, ?_⟩
     · rintro - w33 D33
       rintro _ rfl
       show OpOK _ _ _ _ _ _ _
       exact ok_gpure rfl (ro_move (v := .slice _ _ _) rfl) rfl
     refine ⟨?_, ?_⟩
     · rintro - w34 D34
       rintro _ rfl
       show OpOK _ _ _ _ _ _ _
       exact ok_gpure rfl (ro_move (v := .int _ _) rfl) rfl
     refine ⟨?_, ?_⟩
     · rintro - w35 D35
       rintro _ rfl _ rfl
       show OpOK _ _ _ _ _ _ _
       exact ok_gpure rfl (ro_subN (b := 1) rfl rfl (by omega)) rfl
     refine ⟨?_, ?_⟩
     · rintro - w36 D36
       rintro _ rfl _ rfl _ rfl
       show OpOK _ _ _ _ _ _ _
       exact ok_gpure rfl (ro_indexAddr TrSort_e27 rfl rfl (by omega)) rfl
     refine ⟨?_, ?_⟩
     · rintro - w37 D37
       rintro _ rfl _ rfl
       show OpOK _ _ _ _ _ _ _
       exact ok_gpure rfl (ro_loadA (cs := dV (SM.G Dz ys (j - 1))) TrSort_g43 TrSort_z43 rfl (own_rd dV_len Dz (hoy.kept_from D37) (by omega))) rfl
     refine ⟨?_, ?_⟩
     · rintro - w38 D38
       rintro _ rfl _ rfl v38_26 rfl v38_31 rfl
       show OpOK _ _ _ _ _ _ _
       exact ok_gcallF (caps := []) rfl rfl TrSort_kcmp ((cmpD_rt (SM.G Dz ys j) (SM.G Dz ys (j - 1)) _).mono fun v w2 h => ⟨h.2, h.1⟩)
     refine ⟨?_, ?_⟩
     · rintro - w39 D39
       rintro _ rfl _ rfl
       show OpOK _ _ _ _ _ _ _
       exact ok_gpure rfl (ro_lss rfl rfl) rfl
     refine ⟨?_, ?_⟩
     · rintro - w40 D40
       rintro _ rfl _ rfl
       show OpOK _ _ _ _ _ _ _
       exact ok_pure (ro_pickT (v := .bool _) rfl rfl) rfl
     exact trivial
    case hend =>
     intro w41 D41
     rintro _ rfl _ rfl _ rfl _ rfl _ rfl _ rfl _ rfl _ rfl v26 rfl _ rfl _ rfl _ rfl _ rfl v31 rfl _ rfl _ rfl _ rfl
     show St _ _ _ _ _ _ _
     have hM4 := D41
     refine st_nil (nx_then ?_)
     refine cd_cond rfl (fun Q42 => ?_) (fun Q42 => ?_)
     · with_reducible replace Q42 := of_decide_eq_true Q42
       have hyl := own_leng dV_len hoy
       have hoy4 := hoy.kept_from hM4
       refine cd_skip (nx_then (cd_seq (cd_block ?_)))
       have hU43 : UniT [(0, 37, .slice (some ⟨g, 0, none⟩) n c), (1, 38, .int .i64 ((j : Nat) : Int)), (2, 39, .slice (some ⟨g, 0, none⟩) n c), (3, 40, .int .i64 ((j : Nat) : Int)), (4, 41, .int .i64 (((j - 1) : Nat) : Int)), (5, 42, .slice (some ⟨g, 0, none⟩) n c), (6, 43, .int .i64 ((j : Nat) : Int)), (7, 44, .int .i64 (((j - 1) : Nat) : Int)), (8, 45, .pointer (some ⟨g, 0 + (j - 1) * 2, none⟩)), (9, 46, .agg (dV (SM.G Dz ys (j - 1))).toArray), (10, 47, .slice (some ⟨g, 0, none⟩) n c), (11, 48, .int .i64 ((j : Nat) : Int)), (12, 49, .pointer (some ⟨g, 0 + j * 2, none⟩)), (13, 50, .agg (dV (SM.G Dz ys j)).toArray), (14, 51, .pointer (some ⟨g, 0 + j * 2, none⟩)), (16, 52, .pointer (some ⟨g, 0 + (j - 1) * 2, none⟩))] := by simp [UniT]
       refine cd_invT [(0, 37, .slice (some ⟨g, 0, none⟩) n c), (1, 38, .int .i64 ((j : Nat) : Int)), (2, 39, .slice (some ⟨g, 0, none⟩) n c), (3, 40, .int .i64 ((j : Nat) : Int)), (4, 41, .int .i64 (((j - 1) : Nat) : Int)), (5, 42, .slice (some ⟨g, 0, none⟩) n c), (6, 43, .int .i64 ((j : Nat) : Int)), (7, 44, .int .i64 (((j - 1) : Nat) : Int)), (8, 45, .pointer (some ⟨g, 0 + (j - 1) * 2, none⟩)), (9, 46, .agg (dV (SM.G Dz ys (j - 1))).toArray), (10, 47, .slice (some ⟨g, 0, none⟩) n c), (11, 48, .int .i64 ((j : Nat) : Int)), (12, 49, .pointer (some ⟨g, 0 + j * 2, none⟩)), (13, 50, .agg (dV (SM.G Dz ys j)).toArray), (14, 51, .pointer (some ⟨g, 0 + j * 2, none⟩)), (16, 52, .pointer (some ⟨g, 0 + (j - 1) * 2, none⟩))] (fun S w' => World.grownBy w41 w' (some g) ∧ (S 15 = false → w'.ownsRow base 43 2 (.slice (some ⟨g, 0, none⟩) n c) n (List.flatMap dV ys)) ∧ (S 15 = true → S 9 = true ∧ S 13 = true) ∧ (S 15 = true → S 17 = false → w'.ownsRow base 43 2 (.slice (some ⟨g, 0, none⟩) n c) n (List.flatMap dV (ys.set j (SM.G Dz ys (j - 1))))) ∧ (S 15 = true → S 17 = true → w'.ownsRow base 43 2 (.slice (some ⟨g, 0, none⟩) n c) n (List.flatMap dV ((ys.set j (SM.G Dz ys (j - 1))).set (j - 1) (SM.G Dz ys j)))) ∧ (S 15 = false → S 17 = false)) (by kernel_rfl) (by kernel_rfl) hU43 (by simp) (⟨(From.rfl_.d1 (a := w41)).grown _, fun _ => hoy4.kept_from From.rfl_.d1, fun q => Bool.noConfusion q, fun q => Bool.noConfusion q, fun q => Bool.noConfusion q, fun _ => rfl⟩) ?_ ?_
       · refine ⟨?_, ?_⟩
         · rintro S L' wS hI hM hS0 ⟨-⟩
           have e0 := hI.1 0 (by simp)
           have hM' := hM
           obtain ⟨hG, hA, hB1, hC, hD, hE⟩ := hM'
           exact step_ro (ro_move e0) ⟨hI.put hU43 (.head _), hM⟩
         refine ⟨?_, ?_⟩
         · rintro S L' wS hI hM hS0 ⟨-⟩
           have e9 := hI.1 9 (by simp)
           have hM' := hM
           obtain ⟨hG, hA, hB1, hC, hD, hE⟩ := hM'
           exact step_ro (ro_move e9) ⟨hI.put hU43 (.tail _ (.head _)), hM⟩
         refine ⟨?_, ?_⟩
         · rintro S L' wS hI hM hS0 ⟨-, -⟩
           have e0 := hI.1 0 (by simp)
           have hM' := hM
           obtain ⟨hG, hA, hB1, hC, hD, hE⟩ := hM'
           exact step_ro (ro_move e0) ⟨hI.put hU43 (.tail _ (.tail _ (.head _))), hM⟩
         refine ⟨?_, ?_⟩
         · rintro S L' wS hI hM hS0 ⟨-, -⟩
           have e9 := hI.1 9 (by simp)
           have hM' := hM
           obtain ⟨hG, hA, hB1, hC, hD, hE⟩ := hM'
           exact step_ro (ro_move e9) ⟨hI.put hU43 (.tail _ (.tail _ (.tail _ (.head _)))), hM⟩
         refine ⟨?_, ?_⟩
         · rintro S L' wS hI hM hS0 ⟨d3, -, -⟩
           have e40 : look L' 40 = .int .i64 ((j : Nat) : Int) := hI.get (i := 3) (.tail _ (.tail _ (.tail _ (.head _)))) d3
           have hM' := hM
           obtain ⟨hG, hA, hB1, hC, hD, hE⟩ := hM'
           exact step_ro (ro_subN (a := j) (b := 1) e40 rfl (by omega)) ⟨hI.put hU43 (.tail _ (.tail _ (.tail _ (.tail _ (.head _))))), hM⟩
         refine ⟨?_, ?_⟩
         · rintro S L' wS hI hM hS0 ⟨-⟩
           have e0 := hI.1 0 (by simp)
           have hM' := hM
           obtain ⟨hG, hA, hB1, hC, hD, hE⟩ := hM'
           exact step_ro (ro_move e0) ⟨hI.put hU43 (.tail _ (.tail _ (.tail _ (.tail _ (.tail _ (.head _)))))), hM⟩
         refine ⟨?_, ?_⟩
         · rintro S L' wS hI hM hS0 ⟨-⟩
           have e9 := hI.1 9 (by simp)
           have hM' := hM
           obtain ⟨hG, hA, hB1, hC, hD, hE⟩ := hM'
           exact step_ro (ro_move e9) ⟨hI.put hU43 (.tail _ (.tail _ (.tail _ (.tail _ (.tail _ (.tail _ (.head _))))))), hM⟩
         refine ⟨?_, ?_⟩
         · rintro S L' wS hI hM hS0 ⟨d6, -⟩
           have e43 : look L' 43 = .int .i64 ((j : Nat) : Int) := hI.get (i := 6) (.tail _ (.tail _ (.tail _ (.tail _ (.tail _ (.tail _ (.head _))))))) d6
           have hM' := hM
           obtain ⟨hG, hA, hB1, hC, hD, hE⟩ := hM'
           exact step_ro (ro_subN (a := j) (b := 1) e43 rfl (by omega)) ⟨hI.put hU43 (.tail _ (.tail _ (.tail _ (.tail _ (.tail _ (.tail _ (.tail _ (.head _)))))))), hM⟩
         refine ⟨?_, ?_⟩
         · rintro S L' wS hI hM hS0 ⟨d5, d7, -⟩
           have e42 : look L' 42 = .slice (some ⟨g, 0, none⟩) n c := hI.get (i := 5) (.tail _ (.tail _ (.tail _ (.tail _ (.tail _ (.head _)))))) d5
           have e44 : look L' 44 = .int .i64 (((j - 1) : Nat) : Int) := hI.get (i := 7) (.tail _ (.tail _ (.tail _ (.tail _ (.tail _ (.tail _ (.tail _ (.head _)))))))) d7
           have hM' := hM
           obtain ⟨hG, hA, hB1, hC, hD, hE⟩ := hM'
           exact step_ro (ro_indexAddrN (i := (j - 1)) TrSort_e27 e42 e44 (by omega)) ⟨hI.put hU43 (.tail _ (.tail _ (.tail _ (.tail _ (.tail _ (.tail _ (.tail _ (.tail _ (.head _))))))))), hM⟩
         refine ⟨?_, ?_⟩
         · rintro S L' wS hI hM hS0 ⟨d8, -⟩
           have e45 : look L' 45 = .pointer (some ⟨g, 0 + (j - 1) * 2, none⟩) := hI.get (i := 8) (.tail _ (.tail _ (.tail _ (.tail _ (.tail _ (.tail _ (.tail _ (.tail _ (.head _))))))))) d8
           have hM' := hM
           obtain ⟨hG, hA, hB1, hC, hD, hE⟩ := hM'
           exact step_ro (ro_loadA (cs := dV (SM.G Dz ys (j - 1))) TrSort_g43 TrSort_z43 e45 (own_rd dV_len Dz (hA (s_no (fun q => (hB1 q).1) hS0)) (by omega))) ⟨hI.put hU43 (.tail _ (.tail _ (.tail _ (.tail _ (.tail _ (.tail _ (.tail _ (.tail _ (.tail _ (.head _)))))))))), hG, hA, fun q => ⟨rfl, (hB1 q).2⟩, hC, hD, hE⟩
         refine ⟨?_, ?_⟩
         · rintro S L' wS hI hM hS0 ⟨-⟩
           have e0 := hI.1 0 (by simp)
           have hM' := hM
           obtain ⟨hG, hA, hB1, hC, hD, hE⟩ := hM'
           exact step_ro (ro_move e0) ⟨hI.put hU43 (.tail _ (.tail _ (.tail _ (.tail _ (.tail _ (.tail _ (.tail _ (.tail _ (.tail _ (.tail _ (.head _))))))))))), hM⟩
         refine ⟨?_, ?_⟩
         · rintro S L' wS hI hM hS0 ⟨-⟩
           have e9 := hI.1 9 (by simp)
           have hM' := hM
           obtain ⟨hG, hA, hB1, hC, hD, hE⟩ := hM'
           exact step_ro (ro_move e9) ⟨hI.put hU43 (.tail _ (.tail _ (.tail _ (.tail _ (.tail _ (.tail _ (.tail _ (.tail _ (.tail _ (.tail _ (.tail _ (.head _)))))))))))), hM⟩
         refine ⟨?_, ?_⟩
         · rintro S L' wS hI hM hS0 ⟨d10, d11, -⟩
           have e47 : look L' 47 = .slice (some ⟨g, 0, none⟩) n c := hI.get (i := 10) (.tail _ (.tail _ (.tail _ (.tail _ (.tail _ (.tail _ (.tail _ (.tail _ (.tail _ (.tail _ (.head _))))))))))) d10
           have e48 : look L' 48 = .int .i64 ((j : Nat) : Int) := hI.get (i := 11) (.tail _ (.tail _ (.tail _ (.tail _ (.tail _ (.tail _ (.tail _ (.tail _ (.tail _ (.tail _ (.tail _ (.head _)))))))))))) d11
           have hM' := hM
           obtain ⟨hG, hA, hB1, hC, hD, hE⟩ := hM'
           exact step_ro (ro_indexAddrN (i := j) TrSort_e27 e47 e48 (by omega)) ⟨hI.put hU43 (.tail _ (.tail _ (.tail _ (.tail _ (.tail _ (.tail _ (.tail _ (.tail _ (.tail _ (.tail _ (.tail _ (.tail _ (.head _))))))))))))), hM⟩
         refine ⟨?_, ?_⟩
         · rintro S L' wS hI hM hS0 ⟨d12, -⟩
           have e49 : look L' 49 = .pointer (some ⟨g, 0 + j * 2, none⟩) := hI.get (i := 12) (.tail _ (.tail _ (.tail _ (.tail _ (.tail _ (.tail _ (.tail _ (.tail _ (.tail _ (.tail _ (.tail _ (.tail _ (.head _))))))))))))) d12
           have hM' := hM
           obtain ⟨hG, hA, hB1, hC, hD, hE⟩ := hM'
           exact step_ro (ro_loadA (cs := dV (SM.G Dz ys j)) TrSort_g43 TrSort_z43 e49 (own_rd dV_len Dz (hA (s_no (fun q => (hB1 q).2) hS0)) (by omega))) ⟨hI.put hU43 (.tail _ (.tail _ (.tail _ (.tail _ (.tail _ (.tail _ (.tail _ (.tail _ (.tail _ (.tail _ (.tail _ (.tail _ (.tail _ (.head _)))))))))))))), hG, hA, fun q => ⟨(hB1 q).1, rfl⟩, hC, hD, hE⟩
         refine ⟨?_, ?_⟩
         · rintro S L' wS hI hM hS0 ⟨d0, d1, d0, d1, -, -, -, d5, d6, d7, d8, d9, -, -, -, d13, -⟩
           have e37 : look L' 37 = .slice (some ⟨g, 0, none⟩) n c := hI.get (i := 0) (.head _) d0
           have e38 : look L' 38 = .int .i64 ((j : Nat) : Int) := hI.get (i := 1) (.tail _ (.head _)) d1
           have hM' := hM
           obtain ⟨hG, hA, hB1, hC, hD, hE⟩ := hM'
           exact step_ro (ro_indexAddrN (i := j) TrSort_e27 e37 e38 (by omega)) ⟨hI.put hU43 (.tail _ (.tail _ (.tail _ (.tail _ (.tail _ (.tail _ (.tail _ (.tail _ (.tail _ (.tail _ (.tail _ (.tail _ (.tail _ (.tail _ (.head _))))))))))))))), hM⟩
         refine ⟨?_, ?_⟩
         · rintro S L' wS hI hM hS0 ⟨d14, d9, d0, d1, -, -, -, d5, d6, d7, d8, d9, -, -, -, d13, -⟩
           have e46 : look L' 46 = .agg (dV (SM.G Dz ys (j - 1))).toArray := hI.get (i := 9) (.tail _ (.tail _ (.tail _ (.tail _ (.tail _ (.tail _ (.tail _ (.tail _ (.tail _ (.head _)))))))))) d9
           have e51 : look L' 51 = .pointer (some ⟨g, 0 + j * 2, none⟩) := hI.get (i := 14) (.tail _ (.tail _ (.tail _ (.tail _ (.tail _ (.tail _ (.tail _ (.tail _ (.tail _ (.tail _ (.tail _ (.tail _ (.tail _ (.tail _ (.head _))))))))))))))) d14
           have hM' := hM
           obtain ⟨hG, hA, hB1, hC, hD, hE⟩ := hM'
           obtain ⟨w2, hR, hO, hb⟩ := rs_putOwnD (n := 53) (L := L') (x := .tmp 51) (y := .tmp 46) (f := dV) dV_len dV_each (i := j) TrSort_z43 e51 e46 (hA hS0) (by omega)
           exact step_rs hR ⟨hI.skip (by simp), grown_trans hG hO.grown, fun q => Bool.noConfusion q, fun _ => ⟨d9, d13⟩, fun _ _ => hb, fun _ q => Bool.noConfusion (q.symm.trans (hE hS0)), fun q => Bool.noConfusion q⟩
         refine ⟨?_, ?_⟩
         · rintro S L' wS hI hM hS0 ⟨d2, d4, d0, d1, d2, d3, d4, d5, d6, d7, d8, d9, d10, d11, d12, d13, d14, d15, -⟩
           have e39 : look L' 39 = .slice (some ⟨g, 0, none⟩) n c := hI.get (i := 2) (.tail _ (.tail _ (.head _))) d2
           have e41 : look L' 41 = .int .i64 (((j - 1) : Nat) : Int) := hI.get (i := 4) (.tail _ (.tail _ (.tail _ (.tail _ (.head _))))) d4
           have hM' := hM
           obtain ⟨hG, hA, hB1, hC, hD, hE⟩ := hM'
           exact step_ro (ro_indexAddrN (i := (j - 1)) TrSort_e27 e39 e41 (by omega)) ⟨hI.put hU43 (.tail _ (.tail _ (.tail _ (.tail _ (.tail _ (.tail _ (.tail _ (.tail _ (.tail _ (.tail _ (.tail _ (.tail _ (.tail _ (.tail _ (.tail _ (.head _)))))))))))))))), hM⟩
         refine ⟨?_, ?_⟩
         · rintro S L' wS hI hM hS0 ⟨d16, d13, d15, d0, d1, d2, d3, d4, d5, d6, d7, d8, d9, d10, d11, d12, d13, d14, d15, -⟩
           have e50 : look L' 50 = .agg (dV (SM.G Dz ys j)).toArray := hI.get (i := 13) (.tail _ (.tail _ (.tail _ (.tail _ (.tail _ (.tail _ (.tail _ (.tail _ (.tail _ (.tail _ (.tail _ (.tail _ (.tail _ (.head _)))))))))))))) d13
           have e52 : look L' 52 = .pointer (some ⟨g, 0 + (j - 1) * 2, none⟩) := hI.get (i := 16) (.tail _ (.tail _ (.tail _ (.tail _ (.tail _ (.tail _ (.tail _ (.tail _ (.tail _ (.tail _ (.tail _ (.tail _ (.tail _ (.tail _ (.tail _ (.head _)))))))))))))))) d16
           have hM' := hM
           obtain ⟨hG, hA, hB1, hC, hD, hE⟩ := hM'
           obtain ⟨w2, hR, hO, hb⟩ := rs_putOwnD (n := 53) (L := L') (x := .tmp 52) (y := .tmp 50) (f := dV) dV_len dV_each (i := (j - 1)) TrSort_z43 e52 e50 (hC d15 hS0) (by omega)
           exact step_rs hR ⟨hI.skip (by simp), grown_trans hG hO.grown, fun q => Bool.noConfusion (q.symm.trans d15), hB1, fun _ q => Bool.noConfusion q, fun _ _ => hb, fun q => Bool.noConfusion (q.symm.trans d15)⟩
         exact trivial
       · intro w44 hM
         obtain ⟨hG, hA, hB1, hC, hD, hE⟩ := hM
         have hS9 := hD rfl rfl
         change World.ownsRow _ _ _ _ _ _ (List.flatMap dV (SM.swp Dz ys j (j - 1))) at hS9
         
         refine nx_block (nx_then (cd_region ?_))
         refine mvi rfl ?_
         refine st_val (ro_subN (b := 1) rfl rfl (by omega)) ?_
         refine asi rfl ?_
         refine st_nil ?_
         refine nx_cut ((j - 1, SM.swp Dz ys j (j - 1))) ⟨(by first | rfl | (refine int_eq ?_; omega)), trivial⟩ (by (iterate 72 refine agr_cons rfl ?_); exact agr_rfl) ⟨?_, ?_⟩
         · exact ⟨by omega, by omega, hS9, grown_trans (grown_trans hG0 (hM4.grown _)) hG, hP.trans (.swap (by omega) (by omega) (by omega)), hR.step ltD_ord (by omega) hji (by omega) (bc_lt.1 (by omega))⟩
         · show j - 1 - a < j - a; omega
     with_reducible replace Q42 := of_decide_eq_false Q42
     have hoz := hoy.kept_from hM4
     have hGz := grown_trans hG0 (hM4.grown _)
     have hRz : SM.Srt Dz ltD a (i + 1) ys := hR.stop ltD_ord hj9 (fun h9 => by have := bc_lt.2 h9; omega)
     refine cd_exit ?_
     refine ex_then (ex_then (ex_block (nx_block (nx_then (cd_region ?_)))))
     refine mvi rfl ?_
     refine st_val (ro_addN (b := 1) rfl rfl (by omega)) ?_
     refine asi rfl ?_
     refine st_nil ?_
     refine nx_cut ((i + 1, ys)) ⟨(by first | rfl | (refine int_eq ?_; omega)), trivial⟩ (by (iterate 104 refine agr_cons rfl ?_); exact agr_rfl) ⟨?_, ?_⟩
     · exact ⟨by omega, .inl (by omega), hoz, hGz, hP, hRz⟩
     · show b - (i + 1) < b - i; omega
  with_reducible replace Q2 := of_decide_eq_false Q2
  refine cd_exit ?_
  refine ex_then (ex_then (ex_block ?_))
  refine end_ret ?_
  refine res0 rfl ?_
  exact ⟨ys, hoy, hG0, hP, hR.sub (Nat.le_refl _) (by omega)⟩
set_option maxHeartbeats 4000000 in
theorem rotate_rt (base : Nat) (A : Option Addr) (c n : Nat) (xs : List Dc) (w : World) (ho : w.ownsRow base 43 2 (.slice A n c) n (xs.flatMap dV)) (hbs : base ≤ w.heap.size) (hl : n ≤ 100000000) (a m b : Nat) (h1 : a < m) (h2 : m < b) (hbn : b ≤ n) :
    Rt Try.prog 29 [.slice A n c, .int .i64 (a : Nat), .int .i64 (m : Nat), .int .i64 (b : Nat), .func (.func 18) #[] #[]] w (fun _ w' => ∃ ys, w'.ownsRow base 43 2 (.slice A n c) n (List.flatMap dV ys) ∧ w.grownBy w' (A.map (·.block)) ∧ SM.PW Dz a b xs ys ∧ ∀ k, SM.G Dz ys k = SM.rot a m b (SM.G Dz xs) k) := by
  refine enter (n := 58) Try.func29 rfl rfl rfl ?_
  refine cd_seq (cd_region ?_)
  refine mvi rfl ?_
  refine mvi rfl ?_
  refine st_val (ro_subN rfl rfl (by omega)) ?_
  refine asi rfl ?_
  refine st_nil (nx_then (cd_seq (cd_region ?_)))
  refine mvi rfl ?_
  refine mvi rfl ?_
  refine st_val (ro_subN rfl rfl (by omega)) ?_
  refine asi rfl ?_
  refine st_nil (nx_then (cd_seq (cd_block ?_)))
  refine cd_loop (G := Nat × Nat × List Dc) [18, 19, 20, 21, 22, 23, 24, 25, 26, 27, 28, 29, 30, 31, 32, 33, 34, 35, 36, 37, 38, 39, 40, 41, 42, 43, 44, 45, 46, 47, 48, 49] (fun (i, j, _) => [(10, .int .i64 (i : Nat)), (11, .int .i64 (j : Nat))]) (fun (i, j, ys) w' => 0 < i ∧ 0 < j ∧ a ≤ m - i ∧ i ≤ m ∧ m + j ≤ b ∧ w'.ownsRow base 43 2 (.slice A n c) n (List.flatMap dV ys) ∧ w.grownBy w' (A.map (·.block)) ∧ SM.PW Dz a b xs ys ∧ ∀ k, SM.rot (m - i) m (m + j) (SM.G Dz ys) k = SM.rot a m b (SM.G Dz xs) k) (fun (i, j, _) => i + j) ((m - a, b - m, xs)) ⟨rfl, rfl, trivial⟩ ?_ ?_
  · exact ⟨by omega, by omega, by omega, by omega, by omega, ho, World.grownBy.refl _ _, .rfl_, fun k => by rw [show m - (m - a) = a by omega, show m + (b - m) = b by omega]⟩
  rintro ⟨i, j, ys⟩ ρ1 w1 ⟨hi, hj, hia, him, hjb, hoy, hG0, hP, hR⟩
  refine cd_seq (cd_seq (cd_region ?_))
  refine mvi rfl ?_
  refine mvi rfl ?_
  refine st_val (ro_neq rfl rfl) ?_
  refine st_nil (nx_then ?_)
  refine cd_cond rfl (fun Q2 => ?_) (fun Q2 => ?_)
  · with_reducible replace Q2 := bx_t Q2
    refine cd_skip (nx_then (cd_block (cd_seq (cd_region ?_))))
    refine mvi rfl ?_
    refine mvi rfl ?_
    refine st_val (ro_gtr rfl rfl) ?_
    refine st_nil (nx_then ?_)
    refine cd_cond rfl (fun Q3 => ?_) (fun Q3 => ?_)
    · with_reducible replace Q3 := of_decide_eq_true Q3
      refine cd_seq (cd_region ?_)
      refine mvs rfl ?_
      refine mvi rfl ?_
      refine mvi rfl ?_
      refine st_val (ro_subN rfl rfl (by omega)) ?_
      refine mvi rfl ?_
      refine mvi rfl ?_
      refine st_val (ro_move (v := .func _ _ _) rfl) ?_
      refine st_call TrSort_k30 (swapR_rt base A c n ys _ hoy (Nat.le_trans hbs hG0.size) hl (m - i) m j (by omega) (by omega)) ?_
      rintro v31 w4 ⟨zs, hoz, hGz, hPz, hRz⟩
      refine st_nil (nx_then (cd_region ?_))
      refine mvi rfl ?_
      refine mvi rfl ?_
      refine st_val (ro_subN rfl rfl (by omega)) ?_
      refine asi rfl ?_
      refine st_nil (nx_block ?_)
      refine nx_cut ((i - j, j, zs)) ⟨(by first | rfl | (refine int_eq ?_; omega)), (by first | rfl | (refine int_eq ?_; omega)), trivial⟩ (by (iterate 52 refine agr_cons rfl ?_); exact agr_rfl) ⟨?_, ?_⟩
      · exact ⟨by omega, hj, by omega, by omega, hjb, hoz, grown_trans hG0 hGz, hP.trans (hPz.wide (by omega) (by omega)), fun k => (SM.rot_left hj (by omega) him hRz k).trans (hR k)⟩
      · show i - j + j < i + j; omega
    with_reducible replace Q3 := of_decide_eq_false Q3
    refine cd_seq (cd_region ?_)
    refine mvs rfl ?_
    refine mvi rfl ?_
    refine mvi rfl ?_
    refine st_val (ro_subN rfl rfl (by omega)) ?_
    refine mvi rfl ?_
    refine mvi rfl ?_
    refine st_val (ro_addN rfl rfl (by omega)) ?_
    refine mvi rfl ?_
    refine st_val (ro_subN rfl rfl (by omega)) ?_
    refine mvi rfl ?_
    refine st_val (ro_move (v := .func _ _ _) rfl) ?_
    refine st_call TrSort_k30 (swapR_rt base A c n ys _ hoy (Nat.le_trans hbs hG0.size) hl (m - i) (m + j - i) i (by omega) (by omega)) ?_
    rintro v46 w5 ⟨zs, hoz, hGz, hPz, hRz⟩
    refine st_nil (nx_then (cd_region ?_))
    refine mvi rfl ?_
    refine mvi rfl ?_
    refine st_val (ro_subN rfl rfl (by omega)) ?_
    refine asi rfl ?_
    refine st_nil (nx_block ?_)
    refine nx_cut ((i, j - i, zs)) ⟨(by first | rfl | (refine int_eq ?_; omega)), (by first | rfl | (refine int_eq ?_; omega)), trivial⟩ (by (iterate 56 refine agr_cons rfl ?_); exact agr_rfl) ⟨?_, ?_⟩
    · exact ⟨hi, by omega, hia, him, by omega, hoz, grown_trans hG0 hGz, hP.trans (hPz.wide (by omega) (by omega)), fun k => (SM.rot_right hi (by omega) him hRz k).trans (hR k)⟩
    · show i + (j - i) < i + j; omega
  with_reducible replace Q2 := bx_f Q2
  obtain rfl : i = j := by omega
  refine cd_exit ?_
  refine ex_then (ex_then (ex_block (nx_then (cd_region ?_))))
  refine mvs rfl ?_
  refine mvi rfl ?_
  refine mvi rfl ?_
  refine st_val (ro_subN rfl rfl (by omega)) ?_
  refine mvi rfl ?_
  refine mvi rfl ?_
  refine st_val (ro_move (v := .func _ _ _) rfl) ?_
  refine st_call TrSort_k30 (swapR_rt base A c n ys _ hoy (Nat.le_trans hbs hG0.size) hl (m - i) m i (by omega) (by omega)) ?_
  rintro v57 w6 ⟨zs, hoz, hGz, hPz, hRz⟩
  refine st_nil ?_
  refine end_ret ?_
  refine res0 rfl ?_
  exact ⟨zs, hoz, grown_trans hG0 hGz, hP.trans (hPz.wide (by omega) (by omega)), fun k => (SM.rot_same him hRz k).trans (hR k)⟩
end Go.Proofs.Ytllpcjdljgmilaa

namespace Go.Proofs.Ytllpcjdljgmilaa
open Go.RowKit
open Go.ChangeShapes Go.WideShapes Go.ChangeAt
theorem TrSym_kcmp : callable Try.prog 18 = true := by kernel_rfl
theorem TrSym_g43 : aggQ Try.prog 43 = some true := by kernel_rfl
theorem TrSym_z43 : sizeQ Try.prog 43 = some 2 := by kernel_rfl
theorem TrSym_e27 : elemQ Try.prog 27 = some (43, 2) := by kernel_rfl
theorem TrSym_s3 : (Try.prog.underlying 3).isSome = true := by kernel_rfl
theorem TrSym_i49 : Try.prog.underlying 49 = some (.int .u64) := by kernel_rfl
theorem TrSym_s49 : (Try.prog.underlying 49).isSome = true := by kernel_rfl
theorem TrSym_i3 : Try.prog.underlying 3 = some (.int .i64) := by kernel_rfl
theorem TrSym_k29 : callable Try.prog 29 = true := by kernel_rfl
theorem TrSym_k27 : callable Try.prog 27 = true := by kernel_rfl
set_option maxHeartbeats 8000000 in
theorem sym_step (base : Nat) (A : Option Addr) (c n : Nat) (xs : List Dc) (w : World) (ho : w.ownsRow base 43 2 (.slice A n c) n (xs.flatMap dV)) (hbs : base ≤ w.heap.size) (hl : n ≤ 100000000) (a m b : Nat) (h1 : a < m) (h2 : m < b) (hbn : b ≤ n) (s1 : SM.Srt Dz ltD a m xs) (s2 : SM.Srt Dz ltD m b xs) (IH : ∀ (xs : List Dc) (w : World) (a' m' b' : Nat), w.ownsRow base 43 2 (.slice A n c) n (xs.flatMap dV) → base ≤ w.heap.size → a' < m' → m' < b' → b' ≤ n → b' - a' < b - a → SM.Srt Dz ltD a' m' xs → SM.Srt Dz ltD m' b' xs → Rt Try.prog 27 [.slice A n c, .int .i64 (a' : Nat), .int .i64 (m' : Nat), .int .i64 (b' : Nat), .func (.func 18) #[] #[]] w (fun _ w' => ∃ ys, w'.ownsRow base 43 2 (.slice A n c) n (List.flatMap dV ys) ∧ w.grownBy w' (A.map (·.block)) ∧ SM.PW Dz a' b' xs ys ∧ SM.Srt Dz ltD a' b' ys)) :
    Rt Try.prog 27 [.slice A n c, .int .i64 (a : Nat), .int .i64 (m : Nat), .int .i64 (b : Nat), .func (.func 18) #[] #[]] w (fun _ w' => ∃ ys, w'.ownsRow base 43 2 (.slice A n c) n (List.flatMap dV ys) ∧ w.grownBy w' (A.map (·.block)) ∧ SM.PW Dz a b xs ys ∧ SM.Srt Dz ltD a b ys) := by
  have hxl := own_leng dV_len ho
  obtain ⟨g, rfl⟩ := own_some ho (by omega)
  refine enter (n := 220) Try.func27 rfl rfl rfl ?_
  refine cd_seq (cd_seq (cd_region ?_))
  refine mvi rfl ?_
  refine mvi rfl ?_
  refine st_val (ro_subN rfl rfl (by omega)) ?_
  refine st_val (ro_eql rfl rfl) ?_
  refine st_nil (nx_then ?_)
  refine cd_cond rfl (fun Q1 => ?_) (fun Q1 => ?_)
  · with_reducible replace Q1 := of_decide_eq_true Q1
    refine cd_seq (cd_region ?_)
    refine mvi rfl ?_
    refine asi rfl ?_
    refine st_nil (nx_then (cd_seq (cd_region ?_)))
    refine mvi rfl ?_
    refine asi rfl ?_
    refine st_nil (nx_then (cd_seq (cd_block ?_)))
    refine cd_loop (G := Nat × Nat) [12, 31, 32, 33, 34, 35, 36, 37, 38, 39, 40, 41, 42, 43, 44, 45, 46, 47, 48, 49, 50, 51, 52, 53] (fun (i, j) => [(10, .int .i64 (i : Nat)), (11, .int .i64 (j : Nat))]) (fun (i, j) w' => m ≤ i ∧ i ≤ j ∧ j ≤ b ∧ (i = m ∨ ltD (SM.G Dz xs (i - 1)) (SM.G Dz xs a)) ∧ (j = b ∨ ¬ ltD (SM.G Dz xs j) (SM.G Dz xs a)) ∧ w'.ownsRow base 43 2 (.slice (some ⟨g, 0, none⟩) n c) n (List.flatMap dV xs) ∧ w.grownBy w' (some g)) (fun (i, j) => j - i) ((m, b)) ⟨rfl, rfl, trivial⟩ ?_ ?_
    · exact ⟨Nat.le_refl _, by omega, Nat.le_refl _, .inl rfl, .inl rfl, ho, World.grownBy.refl _ _⟩
    rintro ⟨i, j⟩ ρ2 w2 ⟨h3, h4, h5, hlo, hhi, hoy, hG0⟩
    refine cd_seq (cd_seq (cd_region ?_))
    refine mvi rfl ?_
    refine mvi rfl ?_
    refine st_val (ro_lss rfl rfl) ?_
    refine st_nil (nx_then ?_)
    refine cd_cond rfl (fun Q3 => ?_) (fun Q3 => ?_)
    · with_reducible replace Q3 := of_decide_eq_true Q3
      refine cd_skip (nx_then (cd_block (cd_seq (cd_region ?_))))
      refine mvi rfl ?_
      refine mvi rfl ?_
      refine st_val (ro_addN rfl rfl (by omega)) ?_
      obtain ⟨h, hh⟩ : ∃ h, h = (i + j) / 2 ^ 1 := ⟨_, rfl⟩
      refine st_val (ro_conv64 TrSym_s3 TrSym_i49 rfl (by omega)) ?_
      refine st_val (ro_shrN (b := 1) rfl rfl (by decide)) ?_
      refine st_val (ro_convI TrSym_s49 TrSym_i3 rfl (by omega)) ?_
      refine st_spell (t := 39) (v := .int _ _) (v' := .int .i64 (h : Nat)) rfl (by rw [hh]) ?_
      refine asi rfl ?_
      refine st_nil (nx_then (cd_seq ?_))
      apply cd_drawnD 11 [(40, eqp _), (41, eqp _), (42, eqp _), (43, eqp _), (44, eqp (.agg (dV (SM.G Dz xs h)).toArray)), (45, eqp _), (46, eqp _), (47, eqp _), (48, eqp (.agg (dV (SM.G Dz xs a)).toArray)), (49, eqp _), (50, eqp _)] (by repeat first | exact pq_body | refine pq_then ?_ | refine pq_block ?_) (by kernel_rfl) (by kernel_rfl) ⟨eqp_mono _, eqp_mono _, eqp_mono _, eqp_mono _, eqp_mono _, eqp_mono _, eqp_mono _, eqp_mono _, eqp_mono _, eqp_mono _, eqp_mono _, trivial⟩
      case hop =>
       refine ⟨?_, ?_⟩
       · rintro - w5 D5
         show OpOK _ _ _ _ _ _ _
         exact ok_pure (ro_move (v := .func _ _ _) rfl) rfl
       refine ⟨?_, ?_⟩
       · rintro - w6 D6
         show OpOK _ _ _ _ _ _ _
         exact ok_pure (ro_move (v := .slice _ _ _) rfl) rfl
       refine ⟨?_, ?_⟩
       · rintro - w7 D7
         show OpOK _ _ _ _ _ _ _
         exact ok_pure (ro_move (v := .int _ _) rfl) rfl
       refine ⟨?_, ?_⟩
       · rintro - w8 D8
         rintro _ rfl _ rfl
         show OpOK _ _ _ _ _ _ _
         exact ok_pure (ro_indexAddrN TrSym_e27 rfl rfl (by omega)) rfl
       refine ⟨?_, ?_⟩
       · rintro - w9 D9
         rintro _ rfl
         show OpOK _ _ _ _ _ _ _
         exact ok_pure (ro_loadA (cs := dV (SM.G Dz xs h)) TrSym_g43 TrSym_z43 rfl (own_rd dV_len Dz (hoy.kept_from D9) (by omega))) rfl
       refine ⟨?_, ?_⟩
       · rintro - w10 D10
         show OpOK _ _ _ _ _ _ _
         exact ok_pure (ro_move (v := .slice _ _ _) rfl) rfl
       refine ⟨?_, ?_⟩
       · rintro - w11 D11
         show OpOK _ _ _ _ _ _ _
         exact ok_pure (ro_move (v := .int _ _) rfl) rfl
       refine ⟨?_, ?_⟩
       · rintro - w12 D12
         rintro _ rfl _ rfl
         show OpOK _ _ _ _ _ _ _
         exact ok_pure (ro_indexAddrN TrSym_e27 rfl rfl (by omega)) rfl
       refine ⟨?_, ?_⟩
       · rintro - w13 D13
         rintro _ rfl
         show OpOK _ _ _ _ _ _ _
         exact ok_pure (ro_loadA (cs := dV (SM.G Dz xs a)) TrSym_g43 TrSym_z43 rfl (own_rd dV_len Dz (hoy.kept_from D13) (by omega))) rfl
       refine ⟨?_, ?_⟩
       · rintro - w14 D14
         rintro _ rfl v14_44 rfl v14_48 rfl
         show OpOK _ _ _ _ _ _ _
         exact ok_callF (caps := []) rfl TrSym_kcmp ((cmpD_rt (SM.G Dz xs h) (SM.G Dz xs a) _).mono fun v w2 h => ⟨h.2, h.1⟩)
       refine ⟨?_, ?_⟩
       · rintro - w15 D15
         rintro _ rfl
         show OpOK _ _ _ _ _ _ _
         exact ok_pure (ro_lss rfl rfl) rfl
       exact trivial
      case hend =>
       intro w16 D16
       rintro _ rfl _ rfl _ rfl _ rfl v44 rfl _ rfl _ rfl _ rfl v48 rfl _ rfl _ rfl
       show St _ _ _ _ _ _ _
       replace hG0 := grown_trans hG0 (D16.grown _)
       replace hoy := hoy.kept_from D16
       refine st_nil (nx_then ?_)
       refine cd_cond rfl (fun Q17 => ?_) (fun Q17 => ?_)
       · with_reducible replace Q17 := of_decide_eq_true Q17
         have hlt := bc_lt.1 (show cmpS (SM.G Dz xs h).1 (SM.G Dz xs a).1 < 0 by omega)
         refine cd_region ?_
         refine mvi rfl ?_
         refine st_val (ro_addN (b := 1) rfl rfl (by omega)) ?_
         refine asi rfl ?_
         refine st_nil (nx_block ?_)
         refine nx_cut ((h + 1, j)) ⟨(by first | rfl | (refine int_eq ?_; omega)), (by first | rfl | (refine int_eq ?_; omega)), trivial⟩ (by (iterate 51 refine agr_cons rfl ?_); exact agr_rfl) ⟨?_, ?_⟩
         · exact ⟨by omega, by omega, h5, .inr (by rw [show h + 1 - 1 = h by omega]; exact hlt), hhi, hoy, hG0⟩
         · show j - (h + 1) < j - i; omega
       with_reducible replace Q17 := of_decide_eq_false Q17
       have hnl : ¬ ltD (SM.G Dz xs h) (SM.G Dz xs a) := fun h9 => by have := bc_lt.2 h9; omega
       refine cd_region ?_
       refine mvi rfl ?_
       refine asi rfl ?_
       refine st_nil (nx_block ?_)
       refine nx_cut ((i, h)) ⟨(by first | rfl | (refine int_eq ?_; omega)), (by first | rfl | (refine int_eq ?_; omega)), trivial⟩ (by (iterate 50 refine agr_cons rfl ?_); exact agr_rfl) ⟨?_, ?_⟩
       · exact ⟨h3, by omega, by omega, hlo, .inr hnl, hoy, hG0⟩
       · show h - i < j - i; omega
    with_reducible replace Q3 := of_decide_eq_false Q3
    refine cd_exit ?_
    refine ex_then (ex_then (ex_block (nx_then (cd_seq (cd_seq (cd_region ?_))))))
    refine mvi rfl ?_
    refine asi rfl ?_
    refine st_nil (nx_then (cd_block ?_))
    refine cd_loop (G := Nat × List Dc) [55, 56, 57, 58, 59, 60, 61, 62, 63, 64, 65, 66, 67, 68, 69, 70, 71, 72, 73, 74, 75, 76] (fun (k, _) => [(13, .int .i64 (k : Nat))]) (fun (k, ys) w' => a ≤ k ∧ k ≤ i - 1 ∧ w'.ownsRow base 43 2 (.slice (some ⟨g, 0, none⟩) n c) n (List.flatMap dV ys) ∧ w.grownBy w' (some g) ∧ SM.PW Dz a b xs ys ∧ ∀ t, SM.G Dz ys t = SM.mvl a k (SM.G Dz xs) t) (fun (k, _) => i - k) ((a, xs)) ⟨rfl, trivial⟩ ?_ ?_
    · exact ⟨Nat.le_refl _, by omega, hoy, hG0, .rfl_, fun t => (SM.mvl_zero _ t).symm⟩
    rintro ⟨k, ys⟩ ρ18 w18 ⟨hka, hki, hoy, hG0, hP, hR⟩
    have hyl := own_leng dV_len hoy
    refine cd_seq (cd_seq (cd_region ?_))
    refine mvi rfl ?_
    refine mvi rfl ?_
    refine st_val (ro_subN (b := 1) rfl rfl (by omega)) ?_
    refine st_val (ro_lss rfl rfl) ?_
    refine st_nil (nx_then ?_)
    refine cd_cond rfl (fun Q19 => ?_) (fun Q19 => ?_)
    · with_reducible replace Q19 := of_decide_eq_true Q19
      refine cd_skip (nx_then (cd_seq (cd_block ?_)))
      have hU20 : UniT [(0, 61, .slice (some ⟨g, 0, none⟩) n c), (1, 62, .int .i64 ((k : Nat) : Int)), (2, 63, .slice (some ⟨g, 0, none⟩) n c), (3, 64, .int .i64 ((k : Nat) : Int)), (4, 65, .int .i64 (((k + 1) : Nat) : Int)), (5, 66, .slice (some ⟨g, 0, none⟩) n c), (6, 67, .int .i64 ((k : Nat) : Int)), (7, 68, .int .i64 (((k + 1) : Nat) : Int)), (8, 69, .pointer (some ⟨g, 0 + (k + 1) * 2, none⟩)), (9, 70, .agg (dV (SM.G Dz ys (k + 1))).toArray), (10, 71, .slice (some ⟨g, 0, none⟩) n c), (11, 72, .int .i64 ((k : Nat) : Int)), (12, 73, .pointer (some ⟨g, 0 + k * 2, none⟩)), (13, 74, .agg (dV (SM.G Dz ys k)).toArray), (14, 75, .pointer (some ⟨g, 0 + k * 2, none⟩)), (16, 76, .pointer (some ⟨g, 0 + (k + 1) * 2, none⟩))] := by simp [UniT]
      refine cd_invT [(0, 61, .slice (some ⟨g, 0, none⟩) n c), (1, 62, .int .i64 ((k : Nat) : Int)), (2, 63, .slice (some ⟨g, 0, none⟩) n c), (3, 64, .int .i64 ((k : Nat) : Int)), (4, 65, .int .i64 (((k + 1) : Nat) : Int)), (5, 66, .slice (some ⟨g, 0, none⟩) n c), (6, 67, .int .i64 ((k : Nat) : Int)), (7, 68, .int .i64 (((k + 1) : Nat) : Int)), (8, 69, .pointer (some ⟨g, 0 + (k + 1) * 2, none⟩)), (9, 70, .agg (dV (SM.G Dz ys (k + 1))).toArray), (10, 71, .slice (some ⟨g, 0, none⟩) n c), (11, 72, .int .i64 ((k : Nat) : Int)), (12, 73, .pointer (some ⟨g, 0 + k * 2, none⟩)), (13, 74, .agg (dV (SM.G Dz ys k)).toArray), (14, 75, .pointer (some ⟨g, 0 + k * 2, none⟩)), (16, 76, .pointer (some ⟨g, 0 + (k + 1) * 2, none⟩))] (fun S w' => World.grownBy w18 w' (some g) ∧ (S 15 = false → w'.ownsRow base 43 2 (.slice (some ⟨g, 0, none⟩) n c) n (List.flatMap dV ys)) ∧ (S 15 = true → S 9 = true ∧ S 13 = true) ∧ (S 15 = true → S 17 = false → w'.ownsRow base 43 2 (.slice (some ⟨g, 0, none⟩) n c) n (List.flatMap dV (ys.set k (SM.G Dz ys (k + 1))))) ∧ (S 15 = true → S 17 = true → w'.ownsRow base 43 2 (.slice (some ⟨g, 0, none⟩) n c) n (List.flatMap dV ((ys.set k (SM.G Dz ys (k + 1))).set (k + 1) (SM.G Dz ys k)))) ∧ (S 15 = false → S 17 = false)) (by kernel_rfl) (by kernel_rfl) hU20 (by simp) (⟨(From.rfl_.d1 (a := w18)).grown _, fun _ => hoy.kept_from From.rfl_.d1, fun q => Bool.noConfusion q, fun q => Bool.noConfusion q, fun q => Bool.noConfusion q, fun _ => rfl⟩) ?_ ?_
      · refine ⟨?_, ?_⟩
        · rintro S L' wS hI hM hS0 ⟨-⟩
          have e0 := hI.1 0 (by simp)
          have hM' := hM
          obtain ⟨hG, hA, hB1, hC, hD, hE⟩ := hM'
          exact step_ro (ro_move e0) ⟨hI.put hU20 (.head _), hM⟩
        refine ⟨?_, ?_⟩
        · rintro S L' wS hI hM hS0 ⟨-⟩
          have e13 := hI.1 13 (by simp)
          have hM' := hM
          obtain ⟨hG, hA, hB1, hC, hD, hE⟩ := hM'
          exact step_ro (ro_move e13) ⟨hI.put hU20 (.tail _ (.head _)), hM⟩
        refine ⟨?_, ?_⟩
        · rintro S L' wS hI hM hS0 ⟨-, -⟩
          have e0 := hI.1 0 (by simp)
          have hM' := hM
          obtain ⟨hG, hA, hB1, hC, hD, hE⟩ := hM'
          exact step_ro (ro_move e0) ⟨hI.put hU20 (.tail _ (.tail _ (.head _))), hM⟩
        refine ⟨?_, ?_⟩
        · rintro S L' wS hI hM hS0 ⟨-, -⟩
          have e13 := hI.1 13 (by simp)
          have hM' := hM
          obtain ⟨hG, hA, hB1, hC, hD, hE⟩ := hM'
          exact step_ro (ro_move e13) ⟨hI.put hU20 (.tail _ (.tail _ (.tail _ (.head _)))), hM⟩
        refine ⟨?_, ?_⟩
        · rintro S L' wS hI hM hS0 ⟨d3, -, -⟩
          have e64 : look L' 64 = .int .i64 ((k : Nat) : Int) := hI.get (i := 3) (.tail _ (.tail _ (.tail _ (.head _)))) d3
          have hM' := hM
          obtain ⟨hG, hA, hB1, hC, hD, hE⟩ := hM'
          exact step_ro (ro_addN (a := k) (b := 1) e64 rfl (by omega)) ⟨hI.put hU20 (.tail _ (.tail _ (.tail _ (.tail _ (.head _))))), hM⟩
        refine ⟨?_, ?_⟩
        · rintro S L' wS hI hM hS0 ⟨-⟩
          have e0 := hI.1 0 (by simp)
          have hM' := hM
          obtain ⟨hG, hA, hB1, hC, hD, hE⟩ := hM'
          exact step_ro (ro_move e0) ⟨hI.put hU20 (.tail _ (.tail _ (.tail _ (.tail _ (.tail _ (.head _)))))), hM⟩
        refine ⟨?_, ?_⟩
        · rintro S L' wS hI hM hS0 ⟨-⟩
          have e13 := hI.1 13 (by simp)
          have hM' := hM
          obtain ⟨hG, hA, hB1, hC, hD, hE⟩ := hM'
          exact step_ro (ro_move e13) ⟨hI.put hU20 (.tail _ (.tail _ (.tail _ (.tail _ (.tail _ (.tail _ (.head _))))))), hM⟩
        refine ⟨?_, ?_⟩
        · rintro S L' wS hI hM hS0 ⟨d6, -⟩
          have e67 : look L' 67 = .int .i64 ((k : Nat) : Int) := hI.get (i := 6) (.tail _ (.tail _ (.tail _ (.tail _ (.tail _ (.tail _ (.head _))))))) d6
          have hM' := hM
          obtain ⟨hG, hA, hB1, hC, hD, hE⟩ := hM'
          exact step_ro (ro_addN (a := k) (b := 1) e67 rfl (by omega)) ⟨hI.put hU20 (.tail _ (.tail _ (.tail _ (.tail _ (.tail _ (.tail _ (.tail _ (.head _)))))))), hM⟩
        refine ⟨?_, ?_⟩
        · rintro S L' wS hI hM hS0 ⟨d5, d7, -⟩
          have e66 : look L' 66 = .slice (some ⟨g, 0, none⟩) n c := hI.get (i := 5) (.tail _ (.tail _ (.tail _ (.tail _ (.tail _ (.head _)))))) d5
          have e68 : look L' 68 = .int .i64 (((k + 1) : Nat) : Int) := hI.get (i := 7) (.tail _ (.tail _ (.tail _ (.tail _ (.tail _ (.tail _ (.tail _ (.head _)))))))) d7
          have hM' := hM
          obtain ⟨hG, hA, hB1, hC, hD, hE⟩ := hM'
          exact step_ro (ro_indexAddrN (i := (k + 1)) TrSym_e27 e66 e68 (by omega)) ⟨hI.put hU20 (.tail _ (.tail _ (.tail _ (.tail _ (.tail _ (.tail _ (.tail _ (.tail _ (.head _))))))))), hM⟩
        refine ⟨?_, ?_⟩
        · rintro S L' wS hI hM hS0 ⟨d8, -⟩
          have e69 : look L' 69 = .pointer (some ⟨g, 0 + (k + 1) * 2, none⟩) := hI.get (i := 8) (.tail _ (.tail _ (.tail _ (.tail _ (.tail _ (.tail _ (.tail _ (.tail _ (.head _))))))))) d8
          have hM' := hM
          obtain ⟨hG, hA, hB1, hC, hD, hE⟩ := hM'
          exact step_ro (ro_loadA (cs := dV (SM.G Dz ys (k + 1))) TrSym_g43 TrSym_z43 e69 (own_rd dV_len Dz (hA (s_no (fun q => (hB1 q).1) hS0)) (by omega))) ⟨hI.put hU20 (.tail _ (.tail _ (.tail _ (.tail _ (.tail _ (.tail _ (.tail _ (.tail _ (.tail _ (.head _)))))))))), hG, hA, fun q => ⟨rfl, (hB1 q).2⟩, hC, hD, hE⟩
        refine ⟨?_, ?_⟩
        · rintro S L' wS hI hM hS0 ⟨-⟩
          have e0 := hI.1 0 (by simp)
          have hM' := hM
          obtain ⟨hG, hA, hB1, hC, hD, hE⟩ := hM'
          exact step_ro (ro_move e0) ⟨hI.put hU20 (.tail _ (.tail _ (.tail _ (.tail _ (.tail _ (.tail _ (.tail _ (.tail _ (.tail _ (.tail _ (.head _))))))))))), hM⟩
        refine ⟨?_, ?_⟩
        · rintro S L' wS hI hM hS0 ⟨-⟩
          have e13 := hI.1 13 (by simp)
          have hM' := hM
          obtain ⟨hG, hA, hB1, hC, hD, hE⟩ := hM'
          exact step_ro (ro_move e13) ⟨hI.put hU20 (.tail _ (.tail _ (.tail _ (.tail _ (.tail _ (.tail _ (.tail _ (.tail _ (.tail _ (.tail _ (.tail _ (.head _)))))))))))), hM⟩
        refine ⟨?_, ?_⟩
        · rintro S L' wS hI hM hS0 ⟨d10, d11, -⟩
          have e71 : look L' 71 = .slice (some ⟨g, 0, none⟩) n c := hI.get (i := 10) (.tail _ (.tail _ (.tail _ (.tail _ (.tail _ (.tail _ (.tail _ (.tail _ (.tail _ (.tail _ (.head _))))))))))) d10
          have e72 : look L' 72 = .int .i64 ((k : Nat) : Int) := hI.get (i := 11) (.tail _ (.tail _ (.tail _ (.tail _ (.tail _ (.tail _ (.tail _ (.tail _ (.tail _ (.tail _ (.tail _ (.head _)))))))))))) d11
          have hM' := hM
          obtain ⟨hG, hA, hB1, hC, hD, hE⟩ := hM'
          exact step_ro (ro_indexAddrN (i := k) TrSym_e27 e71 e72 (by omega)) ⟨hI.put hU20 (.tail _ (.tail _ (.tail _ (.tail _ (.tail _ (.tail _ (.tail _ (.tail _ (.tail _ (.tail _ (.tail _ (.tail _ (.head _))))))))))))), hM⟩
        refine ⟨?_, ?_⟩
        · rintro S L' wS hI hM hS0 ⟨d12, -⟩
          have e73 : look L' 73 = .pointer (some ⟨g, 0 + k * 2, none⟩) := hI.get (i := 12) (.tail _ (.tail _ (.tail _ (.tail _ (.tail _ (.tail _ (.tail _ (.tail _ (.tail _ (.tail _ (.tail _ (.tail _ (.head _))))))))))))) d12
          have hM' := hM
          obtain ⟨hG, hA, hB1, hC, hD, hE⟩ := hM'
          exact step_ro (ro_loadA (cs := dV (SM.G Dz ys k)) TrSym_g43 TrSym_z43 e73 (own_rd dV_len Dz (hA (s_no (fun q => (hB1 q).2) hS0)) (by omega))) ⟨hI.put hU20 (.tail _ (.tail _ (.tail _ (.tail _ (.tail _ (.tail _ (.tail _ (.tail _ (.tail _ (.tail _ (.tail _ (.tail _ (.tail _ (.head _)))))))))))))), hG, hA, fun q => ⟨(hB1 q).1, rfl⟩, hC, hD, hE⟩
        refine ⟨?_, ?_⟩
        · rintro S L' wS hI hM hS0 ⟨d0, d1, d0, d1, -, -, -, d5, d6, d7, d8, d9, -, -, -, d13, -⟩
          have e61 : look L' 61 = .slice (some ⟨g, 0, none⟩) n c := hI.get (i := 0) (.head _) d0
          have e62 : look L' 62 = .int .i64 ((k : Nat) : Int) := hI.get (i := 1) (.tail _ (.head _)) d1
          have hM' := hM
          obtain ⟨hG, hA, hB1, hC, hD, hE⟩ := hM'
          exact step_ro (ro_indexAddrN (i := k) TrSym_e27 e61 e62 (by omega)) ⟨hI.put hU20 (.tail _ (.tail _ (.tail _ (.tail _ (.tail _ (.tail _ (.tail _ (.tail _ (.tail _ (.tail _ (.tail _ (.tail _ (.tail _ (.tail _ (.head _))))))))))))))), hM⟩
        refine ⟨?_, ?_⟩
        · rintro S L' wS hI hM hS0 ⟨d14, d9, d0, d1, -, -, -, d5, d6, d7, d8, d9, -, -, -, d13, -⟩
          have e70 : look L' 70 = .agg (dV (SM.G Dz ys (k + 1))).toArray := hI.get (i := 9) (.tail _ (.tail _ (.tail _ (.tail _ (.tail _ (.tail _ (.tail _ (.tail _ (.tail _ (.head _)))))))))) d9
          have e75 : look L' 75 = .pointer (some ⟨g, 0 + k * 2, none⟩) := hI.get (i := 14) (.tail _ (.tail _ (.tail _ (.tail _ (.tail _ (.tail _ (.tail _ (.tail _ (.tail _ (.tail _ (.tail _ (.tail _ (.tail _ (.tail _ (.head _))))))))))))))) d14
          have hM' := hM
          obtain ⟨hG, hA, hB1, hC, hD, hE⟩ := hM'
          obtain ⟨w2, hR, hO, hb⟩ := rs_putOwnD (n := 220) (L := L') (x := .tmp 75) (y := .tmp 70) (f := dV) dV_len dV_each (i := k) TrSym_z43 e75 e70 (hA hS0) (by omega)
          exact step_rs hR ⟨hI.skip (by simp), grown_trans hG hO.grown, fun q => Bool.noConfusion q, fun _ => ⟨d9, d13⟩, fun _ _ => hb, fun _ q => Bool.noConfusion (q.symm.trans (hE hS0)), fun q => Bool.noConfusion q⟩
        refine ⟨?_, ?_⟩
        · rintro S L' wS hI hM hS0 ⟨d2, d4, d0, d1, d2, d3, d4, d5, d6, d7, d8, d9, d10, d11, d12, d13, d14, d15, -⟩
          have e63 : look L' 63 = .slice (some ⟨g, 0, none⟩) n c := hI.get (i := 2) (.tail _ (.tail _ (.head _))) d2
          have e65 : look L' 65 = .int .i64 (((k + 1) : Nat) : Int) := hI.get (i := 4) (.tail _ (.tail _ (.tail _ (.tail _ (.head _))))) d4
          have hM' := hM
          obtain ⟨hG, hA, hB1, hC, hD, hE⟩ := hM'
          exact step_ro (ro_indexAddrN (i := (k + 1)) TrSym_e27 e63 e65 (by omega)) ⟨hI.put hU20 (.tail _ (.tail _ (.tail _ (.tail _ (.tail _ (.tail _ (.tail _ (.tail _ (.tail _ (.tail _ (.tail _ (.tail _ (.tail _ (.tail _ (.tail _ (.head _)))))))))))))))), hM⟩
        refine ⟨?_, ?_⟩
        · rintro S L' wS hI hM hS0 ⟨d16, d13, d15, d0, d1, d2, d3, d4, d5, d6, d7, d8, d9, d10, d11, d12, d13, d14, d15, -⟩
          have e74 : look L' 74 = .agg (dV (SM.G Dz ys k)).toArray := hI.get (i := 13) (.tail _ (.tail _ (.tail _ (.tail _ (.tail _ (.tail _ (.tail _ (.tail _ (.tail _ (.tail _ (.tail _ (.tail _ (.tail _ (.head _)))))))))))))) d13
          have e76 : look L' 76 = .pointer (some ⟨g, 0 + (k + 1) * 2, none⟩) := hI.get (i := 16) (.tail _ (.tail _ (.tail _ (.tail _ (.tail _ (.tail _ (.tail _ (.tail _ (.tail _ (.tail _ (.tail _ (.tail _ (.tail _ (.tail _ (.tail _ (.head _)))))))))))))))) d16
          have hM' := hM
          obtain ⟨hG, hA, hB1, hC, hD, hE⟩ := hM'
          obtain ⟨w2, hR, hO, hb⟩ := rs_putOwnD (n := 220) (L := L') (x := .tmp 76) (y := .tmp 74) (f := dV) dV_len dV_each (i := (k + 1)) TrSym_z43 e76 e74 (hC d15 hS0) (by omega)
          exact step_rs hR ⟨hI.skip (by simp), grown_trans hG hO.grown, fun q => Bool.noConfusion (q.symm.trans d15), hB1, fun _ q => Bool.noConfusion q, fun _ _ => hb, fun q => Bool.noConfusion (q.symm.trans d15)⟩
        exact trivial
      · intro w21 hM
        obtain ⟨hG, hA, hB1, hC, hD, hE⟩ := hM
        have hS9 := hD rfl rfl
        change World.ownsRow _ _ _ _ _ _ (List.flatMap dV (SM.swp Dz ys k (k + 1))) at hS9
        
        refine nx_block (nx_then (cd_region ?_))
        refine mvi rfl ?_
        refine st_val (ro_addN (b := 1) rfl rfl (by omega)) ?_
        refine asi rfl ?_
        refine st_nil ?_
        refine nx_cut ((k + 1, SM.swp Dz ys k (k + 1))) ⟨(by first | rfl | (refine int_eq ?_; omega)), trivial⟩ (by (iterate 46 refine agr_cons rfl ?_); exact agr_rfl) ⟨?_, ?_⟩
        · exact ⟨by omega, by omega, hS9, grown_trans hG0 hG, hP.trans (.swap (by omega) (by omega) (by omega)), SM.mvl_succ hR hka (by omega)⟩
        · show i - (k + 1) < i - k; omega
    with_reducible replace Q19 := of_decide_eq_false Q19
    refine cd_exit ?_
    refine ex_then (ex_then (ex_block (nx_then (cd_ret (rt_then ?_)))))
    refine res0 rfl ?_
    obtain rfl : k = i - 1 := by omega
    exact ⟨ys, hoy, hG0, hP, SM.mrg_first ltD_ord (by omega) s2 ⟨h3, by omega⟩ hlo (by rw [show i = j by omega]; exact hhi) hR⟩
  with_reducible replace Q1 := of_decide_eq_false Q1
  refine cd_skip (nx_then (cd_seq (cd_seq (cd_region ?_))))
  refine mvi rfl ?_
  refine mvi rfl ?_
  refine st_val (ro_subN rfl rfl (by omega)) ?_
  refine st_val (ro_eql rfl rfl) ?_
  refine st_nil (nx_then ?_)
  refine cd_cond rfl (fun Q22 => ?_) (fun Q22 => ?_)
  · with_reducible replace Q22 := of_decide_eq_true Q22
    refine cd_seq (cd_region ?_)
    refine mvi rfl ?_
    refine asi rfl ?_
    refine st_nil (nx_then (cd_seq (cd_region ?_)))
    refine mvi rfl ?_
    refine asi rfl ?_
    refine st_nil (nx_then (cd_seq (cd_block ?_)))
    refine cd_loop (G := Nat × Nat) [16, 83, 84, 85, 86, 87, 88, 89, 90, 91, 92, 93, 94, 95, 96, 97, 98, 99, 100, 101, 102, 103, 104, 105, 106] (fun (i, j) => [(14, .int .i64 (i : Nat)), (15, .int .i64 (j : Nat))]) (fun (i, j) w' => a ≤ i ∧ i ≤ j ∧ j ≤ m ∧ (i = a ∨ ¬ ltD (SM.G Dz xs m) (SM.G Dz xs (i - 1))) ∧ (j = m ∨ ltD (SM.G Dz xs m) (SM.G Dz xs j)) ∧ w'.ownsRow base 43 2 (.slice (some ⟨g, 0, none⟩) n c) n (List.flatMap dV xs) ∧ w.grownBy w' (some g)) (fun (i, j) => j - i) ((a, m)) ⟨rfl, rfl, trivial⟩ ?_ ?_
    · exact ⟨Nat.le_refl _, by omega, Nat.le_refl _, .inl rfl, .inl rfl, ho, World.grownBy.refl _ _⟩
    rintro ⟨i, j⟩ ρ23 w23 ⟨h3, h4, h5, hlo, hhi, hoy, hG0⟩
    refine cd_seq (cd_seq (cd_region ?_))
    refine mvi rfl ?_
    refine mvi rfl ?_
    refine st_val (ro_lss rfl rfl) ?_
    refine st_nil (nx_then ?_)
    refine cd_cond rfl (fun Q24 => ?_) (fun Q24 => ?_)
    · with_reducible replace Q24 := of_decide_eq_true Q24
      refine cd_skip (nx_then (cd_block (cd_seq (cd_region ?_))))
      refine mvi rfl ?_
      refine mvi rfl ?_
      refine st_val (ro_addN rfl rfl (by omega)) ?_
      obtain ⟨h, hh⟩ : ∃ h, h = (i + j) / 2 ^ 1 := ⟨_, rfl⟩
      refine st_val (ro_conv64 TrSym_s3 TrSym_i49 rfl (by omega)) ?_
      refine st_val (ro_shrN (b := 1) rfl rfl (by decide)) ?_
      refine st_val (ro_convI TrSym_s49 TrSym_i3 rfl (by omega)) ?_
      refine st_spell (t := 91) (v := .int _ _) (v' := .int .i64 (h : Nat)) rfl (by rw [hh]) ?_
      refine asi rfl ?_
      refine st_nil (nx_then (cd_seq ?_))
      apply cd_drawnD 12 [(92, eqp _), (93, eqp _), (94, eqp _), (95, eqp _), (96, eqp (.agg (dV (SM.G Dz xs m)).toArray)), (97, eqp _), (98, eqp _), (99, eqp _), (100, eqp (.agg (dV (SM.G Dz xs h)).toArray)), (101, eqp _), (102, eqp _), (103, eqp _)] (by repeat first | exact pq_body | refine pq_then ?_ | refine pq_block ?_) (by kernel_rfl) (by kernel_rfl) ⟨eqp_mono _, eqp_mono _, eqp_mono _, eqp_mono _, eqp_mono _, eqp_mono _, eqp_mono _, eqp_mono _, eqp_mono _, eqp_mono _, eqp_mono _, eqp_mono _, trivial⟩
      case hop =>
       refine ⟨?_, ?_⟩
       · rintro - w26 D26
         show OpOK _ _ _ _ _ _ _
         exact ok_pure (ro_move (v := .func _ _ _) rfl) rfl
       refine ⟨?_, ?_⟩
       · rintro - w27 D27
         show OpOK _ _ _ _ _ _ _
         exact ok_pure (ro_move (v := .slice _ _ _) rfl) rfl
       refine ⟨?_, ?_⟩
       · rintro - w28 D28
         show OpOK _ _ _ _ _ _ _
         exact ok_pure (ro_move (v := .int _ _) rfl) rfl
       refine ⟨?_, ?_⟩
       · rintro - w29 D29
         rintro _ rfl _ rfl
         show OpOK _ _ _ _ _ _ _
         exact ok_pure (ro_indexAddrN TrSym_e27 rfl rfl (by omega)) rfl
       refine ⟨?_, ?_⟩
       · rintro - w30 D30
         rintro _ rfl
         show OpOK _ _ _ _ _ _ _
         exact ok_pure (ro_loadA (cs := dV (SM.G Dz xs m)) TrSym_g43 TrSym_z43 rfl (own_rd dV_len Dz (hoy.kept_from D30) (by omega))) rfl
       refine ⟨?_, ?_⟩
       · rintro - w31 D31
         show OpOK _ _ _ _ _ _ _
         exact ok_pure (ro_move (v := .slice _ _ _) rfl) rfl
       refine ⟨?_, ?_⟩
       · rintro - w32 D32
         show OpOK _ _ _ _ _ _ _
         exact ok_pure (ro_move (v := .int _ _) rfl) rfl
       refine ⟨?_, ?_⟩
       · rintro - w33 D33
         rintro _ rfl _ rfl
         show OpOK _ _ _ _ _ _ _
         exact ok_pure (ro_indexAddrN TrSym_e27 rfl rfl (by omega)) rfl
       refine ⟨?_, ?_⟩
       · rintro - w34 D34
         rintro _ rfl
         show OpOK _ _ _ _ _ _ _
         exact ok_pure (ro_loadA (cs := dV (SM.G Dz xs h)) TrSym_g43 TrSym_z43 rfl (own_rd dV_len Dz (hoy.kept_from D34) (by omega))) rfl
       refine ⟨?_, ?_⟩
       · rintro - w35 D35
         rintro _ rfl v35_96 rfl v35_100 rfl
         show OpOK _ _ _ _ _ _ _
         exact ok_callF (caps := []) rfl TrSym_kcmp ((cmpD_rt (SM.G Dz xs m) (SM.G Dz xs h) _).mono fun v w2 h => ⟨h.2, h.1⟩)
       refine ⟨?_, ?_⟩
       · rintro - w36 D36
         rintro _ rfl
         show OpOK _ _ _ _ _ _ _
         exact ok_pure (ro_lss rfl rfl) rfl
       refine ⟨?_, ?_⟩
       · rintro - w37 D37
         rintro _ rfl
         show OpOK _ _ _ _ _ _ _
         exact ok_pure (ro_not rfl) rfl
       exact trivial
      case hend =>
       intro w38 D38
       rintro _ rfl _ rfl _ rfl _ rfl v96 rfl _ rfl _ rfl _ rfl v100 rfl _ rfl _ rfl _ rfl
       show St _ _ _ _ _ _ _
       replace hG0 := grown_trans hG0 (D38.grown _)
       replace hoy := hoy.kept_from D38
       refine st_nil (nx_then ?_)
       refine cd_cond rfl (fun Q39 => ?_) (fun Q39 => ?_)
       · with_reducible (replace Q39 := bn_t Q39; replace Q39 := of_decide_eq_false Q39)
         have hnl : ¬ ltD (SM.G Dz xs m) (SM.G Dz xs h) := fun h9 => by
           have h8 := bc_lt.2 h9
           exact absurd h8 (by omega)
         refine cd_region ?_
         refine mvi rfl ?_
         refine st_val (ro_addN (b := 1) rfl rfl (by omega)) ?_
         refine asi rfl ?_
         refine st_nil (nx_block ?_)
         refine nx_cut ((h + 1, j)) ⟨(by first | rfl | (refine int_eq ?_; omega)), (by first | rfl | (refine int_eq ?_; omega)), trivial⟩ (by (iterate 53 refine agr_cons rfl ?_); exact agr_rfl) ⟨?_, ?_⟩
         · exact ⟨by omega, by omega, h5, .inr (by rw [show h + 1 - 1 = h by omega]; exact hnl), hhi, hoy, hG0⟩
         · show j - (h + 1) < j - i; omega
       with_reducible (replace Q39 := bn_f Q39; replace Q39 := of_decide_eq_true Q39)
       have hlt := bc_lt.1 (show cmpS (SM.G Dz xs m).1 (SM.G Dz xs h).1 < 0 by simpa using Q39)
       refine cd_region ?_
       refine mvi rfl ?_
       refine asi rfl ?_
       refine st_nil (nx_block ?_)
       refine nx_cut ((i, h)) ⟨(by first | rfl | (refine int_eq ?_; omega)), (by first | rfl | (refine int_eq ?_; omega)), trivial⟩ (by (iterate 52 refine agr_cons rfl ?_); exact agr_rfl) ⟨?_, ?_⟩
       · exact ⟨h3, by omega, by omega, hlo, .inr hlt, hoy, hG0⟩
       · show h - i < j - i; omega
    with_reducible replace Q24 := of_decide_eq_false Q24
    refine cd_exit ?_
    refine ex_then (ex_then (ex_block (nx_then (cd_seq (cd_seq (cd_region ?_))))))
    refine mvi rfl ?_
    refine asi rfl ?_
    refine st_nil (nx_then (cd_block ?_))
    refine cd_loop (G := Nat × List Dc) [108, 109, 110, 111, 112, 113, 114, 115, 116, 117, 118, 119, 120, 121, 122, 123, 124, 125, 126, 127, 128] (fun (k, _) => [(17, .int .i64 (k : Nat))]) (fun (k, ys) w' => i ≤ k ∧ k ≤ m ∧ w'.ownsRow base 43 2 (.slice (some ⟨g, 0, none⟩) n c) n (List.flatMap dV ys) ∧ w.grownBy w' (some g) ∧ SM.PW Dz a b xs ys ∧ ∀ t, SM.G Dz ys t = SM.mvr k m (SM.G Dz xs) t) (fun (k, _) => k - i) ((m, xs)) ⟨rfl, trivial⟩ ?_ ?_
    · exact ⟨by omega, Nat.le_refl _, hoy, hG0, .rfl_, fun t => (SM.mvr_zero _ _ t).symm⟩
    rintro ⟨k, ys⟩ ρ40 w40 ⟨hki, hkm, hoy, hG0, hP, hR⟩
    have hyl := own_leng dV_len hoy
    refine cd_seq (cd_seq (cd_region ?_))
    refine mvi rfl ?_
    refine mvi rfl ?_
    refine st_val (ro_gtr rfl rfl) ?_
    refine st_nil (nx_then ?_)
    refine cd_cond rfl (fun Q41 => ?_) (fun Q41 => ?_)
    · with_reducible replace Q41 := of_decide_eq_true Q41
      refine cd_skip (nx_then (cd_seq (cd_block ?_)))
      have hU42 : UniT [(0, 113, .slice (some ⟨g, 0, none⟩) n c), (1, 114, .int .i64 ((k : Nat) : Int)), (2, 115, .slice (some ⟨g, 0, none⟩) n c), (3, 116, .int .i64 ((k : Nat) : Int)), (4, 117, .int .i64 (((k - 1) : Nat) : Int)), (5, 118, .slice (some ⟨g, 0, none⟩) n c), (6, 119, .int .i64 ((k : Nat) : Int)), (7, 120, .int .i64 (((k - 1) : Nat) : Int)), (8, 121, .pointer (some ⟨g, 0 + (k - 1) * 2, none⟩)), (9, 122, .agg (dV (SM.G Dz ys (k - 1))).toArray), (10, 123, .slice (some ⟨g, 0, none⟩) n c), (11, 124, .int .i64 ((k : Nat) : Int)), (12, 125, .pointer (some ⟨g, 0 + k * 2, none⟩)), (13, 126, .agg (dV (SM.G Dz ys k)).toArray), (14, 127, .pointer (some ⟨g, 0 + k * 2, none⟩)), (16, 128, .pointer (some ⟨g, 0 + (k - 1) * 2, none⟩))] := by simp [UniT]
      refine cd_invT [(0, 113, .slice (some ⟨g, 0, none⟩) n c), (1, 114, .int .i64 ((k : Nat) : Int)), (2, 115, .slice (some ⟨g, 0, none⟩) n c), (3, 116, .int .i64 ((k : Nat) : Int)), (4, 117, .int .i64 (((k - 1) : Nat) : Int)), (5, 118, .slice (some ⟨g, 0, none⟩) n c), (6, 119, .int .i64 ((k : Nat) : Int)), (7, 120, .int .i64 (((k - 1) : Nat) : Int)), (8, 121, .pointer (some ⟨g, 0 + (k - 1) * 2, none⟩)), (9, 122, .agg (dV (SM.G Dz ys (k - 1))).toArray), (10, 123, .slice (some ⟨g, 0, none⟩) n c), (11, 124, .int .i64 ((k : Nat) : Int)), (12, 125, .pointer (some ⟨g, 0 + k * 2, none⟩)), (13, 126, .agg (dV (SM.G Dz ys k)).toArray), (14, 127, .pointer (some ⟨g, 0 + k * 2, none⟩)), (16, 128, .pointer (some ⟨g, 0 + (k - 1) * 2, none⟩))] (fun S w' => World.grownBy w40 w' (some g) ∧ (S 15 = false → w'.ownsRow base 43 2 (.slice (some ⟨g, 0, none⟩) n c) n (List.flatMap dV ys)) ∧ (S 15 = true → S 9 = true ∧ S 13 = true) ∧ (S 15 = true → S 17 = false → w'.ownsRow base 43 2 (.slice (some ⟨g, 0, none⟩) n c) n (List.flatMap dV (ys.set k (SM.G Dz ys (k - 1))))) ∧ (S 15 = true → S 17 = true → w'.ownsRow base 43 2 (.slice (some ⟨g, 0, none⟩) n c) n (List.flatMap dV ((ys.set k (SM.G Dz ys (k - 1))).set (k - 1) (SM.G Dz ys k)))) ∧ (S 15 = false → S 17 = false)) (by kernel_rfl) (by kernel_rfl) hU42 (by simp) (⟨(From.rfl_.d1 (a := w40)).grown _, fun _ => hoy.kept_from From.rfl_.d1, fun q => Bool.noConfusion q, fun q => Bool.noConfusion q, fun q => Bool.noConfusion q, fun _ => rfl⟩) ?_ ?_
      · refine ⟨?_, ?_⟩
        · rintro S L' wS hI hM hS0 ⟨-⟩
          have e0 := hI.1 0 (by simp)
          have hM' := hM
          obtain ⟨hG, hA, hB1, hC, hD, hE⟩ := hM'
          exact step_ro (ro_move e0) ⟨hI.put hU42 (.head _), hM⟩
        refine ⟨?_, ?_⟩
        · rintro S L' wS hI hM hS0 ⟨-⟩
          have e17 := hI.1 17 (by simp)
          have hM' := hM
          obtain ⟨hG, hA, hB1, hC, hD, hE⟩ := hM'
          exact step_ro (ro_move e17) ⟨hI.put hU42 (.tail _ (.head _)), hM⟩
        refine ⟨?_, ?_⟩
        · rintro S L' wS hI hM hS0 ⟨-, -⟩
          have e0 := hI.1 0 (by simp)
          have hM' := hM
          obtain ⟨hG, hA, hB1, hC, hD, hE⟩ := hM'
          exact step_ro (ro_move e0) ⟨hI.put hU42 (.tail _ (.tail _ (.head _))), hM⟩
        refine ⟨?_, ?_⟩
        · rintro S L' wS hI hM hS0 ⟨-, -⟩
          have e17 := hI.1 17 (by simp)
          have hM' := hM
          obtain ⟨hG, hA, hB1, hC, hD, hE⟩ := hM'
          exact step_ro (ro_move e17) ⟨hI.put hU42 (.tail _ (.tail _ (.tail _ (.head _)))), hM⟩
        refine ⟨?_, ?_⟩
        · rintro S L' wS hI hM hS0 ⟨d3, -, -⟩
          have e116 : look L' 116 = .int .i64 ((k : Nat) : Int) := hI.get (i := 3) (.tail _ (.tail _ (.tail _ (.head _)))) d3
          have hM' := hM
          obtain ⟨hG, hA, hB1, hC, hD, hE⟩ := hM'
          exact step_ro (ro_subN (a := k) (b := 1) e116 rfl (by omega)) ⟨hI.put hU42 (.tail _ (.tail _ (.tail _ (.tail _ (.head _))))), hM⟩
        refine ⟨?_, ?_⟩
        · rintro S L' wS hI hM hS0 ⟨-⟩
          have e0 := hI.1 0 (by simp)
          have hM' := hM
          obtain ⟨hG, hA, hB1, hC, hD, hE⟩ := hM'
          exact step_ro (ro_move e0) ⟨hI.put hU42 (.tail _ (.tail _ (.tail _ (.tail _ (.tail _ (.head _)))))), hM⟩
        refine ⟨?_, ?_⟩
        · rintro S L' wS hI hM hS0 ⟨-⟩
          have e17 := hI.1 17 (by simp)
          have hM' := hM
          obtain ⟨hG, hA, hB1, hC, hD, hE⟩ := hM'
          exact step_ro (ro_move e17) ⟨hI.put hU42 (.tail _ (.tail _ (.tail _ (.tail _ (.tail _ (.tail _ (.head _))))))), hM⟩
        refine ⟨?_, ?_⟩
        · rintro S L' wS hI hM hS0 ⟨d6, -⟩
          have e119 : look L' 119 = .int .i64 ((k : Nat) : Int) := hI.get (i := 6) (.tail _ (.tail _ (.tail _ (.tail _ (.tail _ (.tail _ (.head _))))))) d6
          have hM' := hM
          obtain ⟨hG, hA, hB1, hC, hD, hE⟩ := hM'
          exact step_ro (ro_subN (a := k) (b := 1) e119 rfl (by omega)) ⟨hI.put hU42 (.tail _ (.tail _ (.tail _ (.tail _ (.tail _ (.tail _ (.tail _ (.head _)))))))), hM⟩
        refine ⟨?_, ?_⟩
        · rintro S L' wS hI hM hS0 ⟨d5, d7, -⟩
          have e118 : look L' 118 = .slice (some ⟨g, 0, none⟩) n c := hI.get (i := 5) (.tail _ (.tail _ (.tail _ (.tail _ (.tail _ (.head _)))))) d5
          have e120 : look L' 120 = .int .i64 (((k - 1) : Nat) : Int) := hI.get (i := 7) (.tail _ (.tail _ (.tail _ (.tail _ (.tail _ (.tail _ (.tail _ (.head _)))))))) d7
          have hM' := hM
          obtain ⟨hG, hA, hB1, hC, hD, hE⟩ := hM'
          exact step_ro (ro_indexAddrN (i := (k - 1)) TrSym_e27 e118 e120 (by omega)) ⟨hI.put hU42 (.tail _ (.tail _ (.tail _ (.tail _ (.tail _ (.tail _ (.tail _ (.tail _ (.head _))))))))), hM⟩
        refine ⟨?_, ?_⟩
        · rintro S L' wS hI hM hS0 ⟨d8, -⟩
          have e121 : look L' 121 = .pointer (some ⟨g, 0 + (k - 1) * 2, none⟩) := hI.get (i := 8) (.tail _ (.tail _ (.tail _ (.tail _ (.tail _ (.tail _ (.tail _ (.tail _ (.head _))))))))) d8
          have hM' := hM
          obtain ⟨hG, hA, hB1, hC, hD, hE⟩ := hM'
          exact step_ro (ro_loadA (cs := dV (SM.G Dz ys (k - 1))) TrSym_g43 TrSym_z43 e121 (own_rd dV_len Dz (hA (s_no (fun q => (hB1 q).1) hS0)) (by omega))) ⟨hI.put hU42 (.tail _ (.tail _ (.tail _ (.tail _ (.tail _ (.tail _ (.tail _ (.tail _ (.tail _ (.head _)))))))))), hG, hA, fun q => ⟨rfl, (hB1 q).2⟩, hC, hD, hE⟩
        refine ⟨?_, ?_⟩
        · rintro S L' wS hI hM hS0 ⟨-⟩
          have e0 := hI.1 0 (by simp)
          have hM' := hM
          obtain ⟨hG, hA, hB1, hC, hD, hE⟩ := hM'
          exact step_ro (ro_move e0) ⟨hI.put hU42 (.tail _ (.tail _ (.tail _ (.tail _ (.tail _ (.tail _ (.tail _ (.tail _ (.tail _ (.tail _ (.head _))))))))))), hM⟩
        refine ⟨?_, ?_⟩
        · rintro S L' wS hI hM hS0 ⟨-⟩
          have e17 := hI.1 17 (by simp)
          have hM' := hM
          obtain ⟨hG, hA, hB1, hC, hD, hE⟩ := hM'
          exact step_ro (ro_move e17) ⟨hI.put hU42 (.tail _ (.tail _ (.tail _ (.tail _ (.tail _ (.tail _ (.tail _ (.tail _ (.tail _ (.tail _ (.tail _ (.head _)))))))))))), hM⟩
        refine ⟨?_, ?_⟩
        · rintro S L' wS hI hM hS0 ⟨d10, d11, -⟩
          have e123 : look L' 123 = .slice (some ⟨g, 0, none⟩) n c := hI.get (i := 10) (.tail _ (.tail _ (.tail _ (.tail _ (.tail _ (.tail _ (.tail _ (.tail _ (.tail _ (.tail _ (.head _))))))))))) d10
          have e124 : look L' 124 = .int .i64 ((k : Nat) : Int) := hI.get (i := 11) (.tail _ (.tail _ (.tail _ (.tail _ (.tail _ (.tail _ (.tail _ (.tail _ (.tail _ (.tail _ (.tail _ (.head _)))))))))))) d11
          have hM' := hM
          obtain ⟨hG, hA, hB1, hC, hD, hE⟩ := hM'
          exact step_ro (ro_indexAddrN (i := k) TrSym_e27 e123 e124 (by omega)) ⟨hI.put hU42 (.tail _ (.tail _ (.tail _ (.tail _ (.tail _ (.tail _ (.tail _ (.tail _ (.tail _ (.tail _ (.tail _ (.tail _ (.head _))))))))))))), hM⟩
        refine ⟨?_, ?_⟩
        · rintro S L' wS hI hM hS0 ⟨d12, -⟩
          have e125 : look L' 125 = .pointer (some ⟨g, 0 + k * 2, none⟩) := hI.get (i := 12) (.tail _ (.tail _ (.tail _ (.tail _ (.tail _ (.tail _ (.tail _ (.tail _ (.tail _ (.tail _ (.tail _ (.tail _ (.head _))))))))))))) d12
          have hM' := hM
          obtain ⟨hG, hA, hB1, hC, hD, hE⟩ := hM'
          exact step_ro (ro_loadA (cs := dV (SM.G Dz ys k)) TrSym_g43 TrSym_z43 e125 (own_rd dV_len Dz (hA (s_no (fun q => (hB1 q).2) hS0)) (by omega))) ⟨hI.put hU42 (.tail _ (.tail _ (.tail _ (.tail _ (.tail _ (.tail _ (.tail _ (.tail _ (.tail _ (.tail _ (.tail _ (.tail _ (.tail _ (.head _)))))))))))))), hG, hA, fun q => ⟨(hB1 q).1, rfl⟩, hC, hD, hE⟩
        refine ⟨?_, ?_⟩
        · rintro S L' wS hI hM hS0 ⟨d0, d1, d0, d1, -, -, -, d5, d6, d7, d8, d9, -, -, -, d13, -⟩
          have e113 : look L' 113 = .slice (some ⟨g, 0, none⟩) n c := hI.get (i := 0) (.head _) d0
          have e114 : look L' 114 = .int .i64 ((k : Nat) : Int) := hI.get (i := 1) (.tail _ (.head _)) d1
          have hM' := hM
          obtain ⟨hG, hA, hB1, hC, hD, hE⟩ := hM'
          exact step_ro (ro_indexAddrN (i := k) TrSym_e27 e113 e114 (by omega)) ⟨hI.put hU42 (.tail _ (.tail _ (.tail _ (.tail _ (.tail _ (.tail _ (.tail _ (.tail _ (.tail _ (.tail _ (.tail _ (.tail _ (.tail _ (.tail _ (.head _))))))))))))))), hM⟩
        refine ⟨?_, ?_⟩
        · rintro S L' wS hI hM hS0 ⟨d14, d9, d0, d1, -, -, -, d5, d6, d7, d8, d9, -, -, -, d13, -⟩
          have e122 : look L' 122 = .agg (dV (SM.G Dz ys (k - 1))).toArray := hI.get (i := 9) (.tail _ (.tail _ (.tail _ (.tail _ (.tail _ (.tail _ (.tail _ (.tail _ (.tail _ (.head _)))))))))) d9
          have e127 : look L' 127 = .pointer (some ⟨g, 0 + k * 2, none⟩) := hI.get (i := 14) (.tail _ (.tail _ (.tail _ (.tail _ (.tail _ (.tail _ (.tail _ (.tail _ (.tail _ (.tail _ (.tail _ (.tail _ (.tail _ (.tail _ (.head _))))))))))))))) d14
          have hM' := hM
          obtain ⟨hG, hA, hB1, hC, hD, hE⟩ := hM'
          obtain ⟨w2, hR, hO, hb⟩ := rs_putOwnD (n := 220) (L := L') (x := .tmp 127) (y := .tmp 122) (f := dV) dV_len dV_each (i := k) TrSym_z43 e127 e122 (hA hS0) (by omega)
          exact step_rs hR ⟨hI.skip (by simp), grown_trans hG hO.grown, fun q => Bool.noConfusion q, fun _ => ⟨d9, d13⟩, fun _ _ => hb, fun _ q => Bool.noConfusion (q.symm.trans (hE hS0)), fun q => Bool.noConfusion q⟩
        refine ⟨?_, ?_⟩
        · rintro S L' wS hI hM hS0 ⟨d2, d4, d0, d1, d2, d3, d4, d5, d6, d7, d8, d9, d10, d11, d12, d13, d14, d15, -⟩
          have e115 : look L' 115 = .slice (some ⟨g, 0, none⟩) n c := hI.get (i := 2) (.tail _ (.tail _ (.head _))) d2
          have e117 : look L' 117 = .int .i64 (((k - 1) : Nat) : Int) := hI.get (i := 4) (.tail _ (.tail _ (.tail _ (.tail _ (.head _))))) d4
          have hM' := hM
          obtain ⟨hG, hA, hB1, hC, hD, hE⟩ := hM'
          exact step_ro (ro_indexAddrN (i := (k - 1)) TrSym_e27 e115 e117 (by omega)) ⟨hI.put hU42 (.tail _ (.tail _ (.tail _ (.tail _ (.tail _ (.tail _ (.tail _ (.tail _ (.tail _ (.tail _ (.tail _ (.tail _ (.tail _ (.tail _ (.tail _ (.head _)))))))))))))))), hM⟩
        refine ⟨?_, ?_⟩
        · rintro S L' wS hI hM hS0 ⟨d16, d13, d15, d0, d1, d2, d3, d4, d5, d6, d7, d8, d9, d10, d11, d12, d13, d14, d15, -⟩
          have e126 : look L' 126 = .agg (dV (SM.G Dz ys k)).toArray := hI.get (i := 13) (.tail _ (.tail _ (.tail _ (.tail _ (.tail _ (.tail _ (.tail _ (.tail _ (.tail _ (.tail _ (.tail _ (.tail _ (.tail _ (.head _)))))))))))))) d13
          have e128 : look L' 128 = .pointer (some ⟨g, 0 + (k - 1) * 2, none⟩) := hI.get (i := 16) (.tail _ (.tail _ (.tail _ (.tail _ (.tail _ (.tail _ (.tail _ (.tail _ (.tail _ (.tail _ (.tail _ (.tail _ (.tail _ (.tail _ (.tail _ (.head _)))))))))))))))) d16
          have hM' := hM
          obtain ⟨hG, hA, hB1, hC, hD, hE⟩ := hM'
          obtain ⟨w2, hR, hO, hb⟩ := rs_putOwnD (n := 220) (L := L') (x := .tmp 128) (y := .tmp 126) (f := dV) dV_len dV_each (i := (k - 1)) TrSym_z43 e128 e126 (hC d15 hS0) (by omega)
          exact step_rs hR ⟨hI.skip (by simp), grown_trans hG hO.grown, fun q => Bool.noConfusion (q.symm.trans d15), hB1, fun _ q => Bool.noConfusion q, fun _ _ => hb, fun q => Bool.noConfusion (q.symm.trans d15)⟩
        exact trivial
      · intro w43 hM
        obtain ⟨hG, hA, hB1, hC, hD, hE⟩ := hM
        have hS9 := hD rfl rfl
        change World.ownsRow _ _ _ _ _ _ (List.flatMap dV (SM.swp Dz ys k (k - 1))) at hS9
        
        refine nx_block (nx_then (cd_region ?_))
        refine mvi rfl ?_
        refine st_val (ro_subN (b := 1) rfl rfl (by omega)) ?_
        refine asi rfl ?_
        refine st_nil ?_
        refine nx_cut ((k - 1, SM.swp Dz ys k (k - 1))) ⟨(by first | rfl | (refine int_eq ?_; omega)), trivial⟩ (by (iterate 44 refine agr_cons rfl ?_); exact agr_rfl) ⟨?_, ?_⟩
        · exact ⟨by omega, by omega, hS9, grown_trans hG0 hG, hP.trans (.swap (by omega) (by omega) (by omega)), SM.mvr_succ hR (by omega) hkm (by omega)⟩
        · show k - 1 - i < k - i; omega
    with_reducible replace Q41 := of_decide_eq_false Q41
    refine cd_exit ?_
    refine ex_then (ex_then (ex_block (nx_then (cd_ret (rt_then ?_)))))
    refine res0 rfl ?_
    obtain rfl : k = i := by omega
    exact ⟨ys, hoy, hG0, hP, SM.mrg_last ltD_ord (by omega) s1 ⟨h3, by omega⟩ hlo (by rw [show k = j by omega]; exact hhi) hR⟩
  with_reducible replace Q22 := of_decide_eq_false Q22
  refine cd_skip (nx_then (cd_seq (cd_region ?_)))
  refine mvi rfl ?_
  refine mvi rfl ?_
  refine st_val (ro_addN rfl rfl (by omega)) ?_
  obtain ⟨mid, hmid⟩ : ∃ mid, mid = (a + b) / 2 ^ 1 := ⟨_, rfl⟩
  refine st_val (ro_conv64 TrSym_s3 TrSym_i49 rfl (by omega)) ?_
  refine st_val (ro_shrN (b := 1) rfl rfl (by decide)) ?_
  refine st_val (ro_convI TrSym_s49 TrSym_i3 rfl (by omega)) ?_
  refine st_spell (t := 134) (v := .int _ _) (v' := .int .i64 (mid : Nat)) rfl (by rw [hmid]) ?_
  refine asi rfl ?_
  refine st_nil (nx_then (cd_seq (cd_region ?_)))
  refine mvi rfl ?_
  refine mvi rfl ?_
  refine st_val (ro_addN rfl rfl (by omega)) ?_
  refine asi rfl ?_
  refine st_nil (nx_then (cd_seq (cd_region ?_)))
  refine asi rfl ?_
  refine asi rfl ?_
  refine st_nil (nx_then ?_)
  refine cd_cut (G := Nat × Nat) [138, 139, 140, 141, 142, 143, 144, 145, 146] (fun (lo, hi) => [(20, .int .i64 (lo : Nat)), (21, .int .i64 (hi : Nat))]) (fun (lo, hi) w' => ((lo = a ∧ hi = m ∧ m ≤ mid) ∨ (lo + b = mid + m ∧ hi = mid ∧ mid < m)) ∧ w = w') ?_ ?_
  · refine cd_seq (cd_region ?_)
    refine mvi rfl ?_
    refine mvi rfl ?_
    refine st_val (ro_gtr rfl rfl) ?_
    refine st_nil (nx_then ?_)
    refine cd_cond rfl (fun Q44 => ?_) (fun Q44 => ?_)
    · with_reducible replace Q44 := of_decide_eq_true Q44
      refine cd_seq (cd_region ?_)
      refine mvi rfl ?_
      refine mvi rfl ?_
      refine st_val (ro_subN rfl rfl (by omega)) ?_
      refine asi rfl ?_
      refine st_nil (nx_then (cd_region ?_))
      refine mvi rfl ?_
      refine asi rfl ?_
      refine st_nil ?_
      refine nx_cut ((mid + m - b, mid)) ⟨(by first | rfl | (refine int_eq ?_; omega)), (by first | rfl | (refine int_eq ?_; omega)), trivial⟩ (by (iterate 9 refine agr_cons rfl ?_); exact agr_rfl) ?_
      exact ⟨.inr ⟨by omega, rfl, by omega⟩, rfl⟩
    with_reducible replace Q44 := of_decide_eq_false Q44
    refine cd_seq (cd_region ?_)
    refine mvi rfl ?_
    refine asi rfl ?_
    refine st_nil (nx_then (cd_region ?_))
    refine mvi rfl ?_
    refine asi rfl ?_
    refine st_nil ?_
    refine nx_cut ((a, m)) ⟨(by first | rfl | (refine int_eq ?_; omega)), (by first | rfl | (refine int_eq ?_; omega)), trivial⟩ (by (iterate 7 refine agr_cons rfl ?_); exact agr_rfl) ?_
    exact ⟨.inl ⟨rfl, rfl, by omega⟩, rfl⟩
  rintro ⟨lo, hi⟩ ρ45 w45 ⟨hlh, rfl⟩
  refine cd_seq (cd_region ?_)
  refine mvi rfl ?_
  refine st_val (ro_subN (b := 1) rfl rfl (by omega)) ?_
  refine asi rfl ?_
  refine st_nil (nx_then (cd_seq (cd_block ?_)))
  refine cd_loop (G := Nat × Nat) [23, 149, 150, 151, 152, 153, 154, 155, 156, 157, 158, 159, 160, 161, 162, 163, 164, 165, 166, 167, 168, 169, 170, 171, 172, 173, 174] (fun (s, r) => [(20, .int .i64 (s : Nat)), (21, .int .i64 (r : Nat))]) (fun (s, r) w' => lo ≤ s ∧ s ≤ r ∧ r ≤ hi ∧ (s = lo ∨ ¬ ltD (SM.G Dz xs (mid + m - 1 - (s - 1))) (SM.G Dz xs (s - 1))) ∧ (r = hi ∨ ltD (SM.G Dz xs (mid + m - 1 - r)) (SM.G Dz xs r)) ∧ w'.ownsRow base 43 2 (.slice (some ⟨g, 0, none⟩) n c) n (List.flatMap dV xs) ∧ w.grownBy w' (some g)) (fun (s, r) => r - s) ((lo, hi)) ⟨rfl, rfl, trivial⟩ ?_ ?_
  · exact ⟨Nat.le_refl _, by omega, Nat.le_refl _, .inl rfl, .inl rfl, ho, World.grownBy.refl _ _⟩
  rintro ⟨s, r⟩ ρ46 w46 ⟨h3, h4, h5, hlo, hhi, hoy, hG0⟩
  refine cd_seq (cd_seq (cd_region ?_))
  refine mvi rfl ?_
  refine mvi rfl ?_
  refine st_val (ro_lss rfl rfl) ?_
  refine st_nil (nx_then ?_)
  refine cd_cond rfl (fun Q47 => ?_) (fun Q47 => ?_)
  · with_reducible replace Q47 := of_decide_eq_true Q47
    refine cd_skip (nx_then (cd_block (cd_seq (cd_region ?_))))
    refine mvi rfl ?_
    refine mvi rfl ?_
    refine st_val (ro_addN rfl rfl (by omega)) ?_
    obtain ⟨h, hh⟩ : ∃ h, h = (s + r) / 2 ^ 1 := ⟨_, rfl⟩
    refine st_val (ro_conv64 TrSym_s3 TrSym_i49 rfl (by omega)) ?_
    refine st_val (ro_shrN (b := 1) rfl rfl (by decide)) ?_
    refine st_val (ro_convI TrSym_s49 TrSym_i3 rfl (by omega)) ?_
    refine st_spell (t := 157) (v := .int _ _) (v' := .int .i64 (h : Nat)) rfl (by rw [hh]) ?_
    refine asi rfl ?_
    refine st_nil (nx_then (cd_seq ?_))
    apply cd_drawnD 14 [(158, eqp _), (159, eqp _), (160, eqp _), (161, eqp _), (162, eqp _), (163, eqp _), (164, eqp (.agg (dV (SM.G Dz xs (mid + m - 1 - h))).toArray)), (165, eqp _), (166, eqp _), (167, eqp _), (168, eqp (.agg (dV (SM.G Dz xs h)).toArray)), (169, eqp _), (170, eqp _), (171, eqp _)] (by repeat first | exact pq_body | refine pq_then ?_ | refine pq_block ?_) (by kernel_rfl) (by kernel_rfl) ⟨eqp_mono _, eqp_mono _, eqp_mono _, eqp_mono _, eqp_mono _, eqp_mono _, eqp_mono _, eqp_mono _, eqp_mono _, eqp_mono _, eqp_mono _, eqp_mono _, eqp_mono _, eqp_mono _, trivial⟩
    case hop =>
     refine ⟨?_, ?_⟩
     · rintro - w49 D49
       show OpOK _ _ _ _ _ _ _
       exact ok_pure (ro_move (v := .func _ _ _) rfl) rfl
     refine ⟨?_, ?_⟩
     · rintro - w50 D50
       show OpOK _ _ _ _ _ _ _
       exact ok_pure (ro_move (v := .slice _ _ _) rfl) rfl
     refine ⟨?_, ?_⟩
     · rintro - w51 D51
       show OpOK _ _ _ _ _ _ _
       exact ok_pure (ro_move (v := .int _ _) rfl) rfl
     refine ⟨?_, ?_⟩
     · rintro - w52 D52
       show OpOK _ _ _ _ _ _ _
       exact ok_pure (ro_move (v := .int _ _) rfl) rfl
     refine ⟨?_, ?_⟩
     · rintro - w53 D53
       rintro _ rfl _ rfl
       show OpOK _ _ _ _ _ _ _
       exact ok_pure (ro_subN rfl rfl (by omega)) rfl
     refine ⟨?_, ?_⟩
     · rintro - w54 D54
       rintro _ rfl _ rfl
       show OpOK _ _ _ _ _ _ _
       exact ok_pure (ro_indexAddrN TrSym_e27 rfl rfl (by omega)) rfl
     refine ⟨?_, ?_⟩
     · rintro - w55 D55
       rintro _ rfl
       show OpOK _ _ _ _ _ _ _
       exact ok_pure (ro_loadA (cs := dV (SM.G Dz xs (mid + m - 1 - h))) TrSym_g43 TrSym_z43 rfl (own_rd dV_len Dz (hoy.kept_from D55) (by omega))) rfl
     refine ⟨?_, ?_⟩
     · rintro - w56 D56
       show OpOK _ _ _ _ _ _ _
       exact ok_pure (ro_move (v := .slice _ _ _) rfl) rfl
     refine ⟨?_, ?_⟩
     · rintro - w57 D57
       show OpOK _ _ _ _ _ _ _
       exact ok_pure (ro_move (v := .int _ _) rfl) rfl
     refine ⟨?_, ?_⟩
     · rintro - w58 D58
       rintro _ rfl _ rfl
       show OpOK _ _ _ _ _ _ _
       exact ok_pure (ro_indexAddrN TrSym_e27 rfl rfl (by omega)) rfl
     refine ⟨?_, ?_⟩
     · rintro - w59 D59
       rintro _ rfl
       show OpOK _ _ _ _ _ _ _
       exact ok_pure (ro_loadA (cs := dV (SM.G Dz xs h)) TrSym_g43 TrSym_z43 rfl (own_rd dV_len Dz (hoy.kept_from D59) (by omega))) rfl
     refine ⟨?_, ?_⟩
     · rintro - w60 D60
       rintro _ rfl v60_164 rfl v60_168 rfl
       show OpOK _ _ _ _ _ _ _
       exact ok_callF (caps := []) rfl TrSym_kcmp ((cmpD_rt (SM.G Dz xs (mid + m - 1 - h)) (SM.G Dz xs h) _).mono fun v w2 h => ⟨h.2, h.1⟩)
     refine ⟨?_, ?_⟩
     · rintro - w61 D61
       rintro _ rfl
       show OpOK _ _ _ _ _ _ _
       exact ok_pure (ro_lss rfl rfl) rfl
     refine ⟨?_, ?_⟩
     · rintro - w62 D62
       rintro _ rfl
       show OpOK _ _ _ _ _ _ _
       exact ok_pure (ro_not rfl) rfl
     exact trivial
    case hend =>
     intro w63 D63
     rintro _ rfl _ rfl _ rfl _ rfl _ rfl _ rfl v164 rfl _ rfl _ rfl _ rfl v168 rfl _ rfl _ rfl _ rfl
     show St _ _ _ _ _ _ _
     replace hG0 := grown_trans hG0 (D63.grown _)
     replace hoy := hoy.kept_from D63
     refine st_nil (nx_then ?_)
     refine cd_cond rfl (fun Q64 => ?_) (fun Q64 => ?_)
     · with_reducible (replace Q64 := bn_t Q64; replace Q64 := of_decide_eq_false Q64)
       have hnl : ¬ ltD (SM.G Dz xs (mid + m - 1 - h)) (SM.G Dz xs h) := fun h9 => by
         have h8 := bc_lt.2 h9
         exact absurd h8 (by omega)
       refine cd_region ?_
       refine mvi rfl ?_
       refine st_val (ro_addN (b := 1) rfl rfl (by omega)) ?_
       refine asi rfl ?_
       refine st_nil (nx_block ?_)
       refine nx_cut ((h + 1, r)) ⟨(by first | rfl | (refine int_eq ?_; omega)), (by first | rfl | (refine int_eq ?_; omega)), trivial⟩ (by (iterate 57 refine agr_cons rfl ?_); exact agr_rfl) ⟨?_, ?_⟩
       · exact ⟨by omega, by omega, h5, .inr (by rw [show h + 1 - 1 = h by omega]; exact hnl), hhi, hoy, hG0⟩
       · show r - (h + 1) < r - s; omega
     with_reducible (replace Q64 := bn_f Q64; replace Q64 := of_decide_eq_true Q64)
     have hlt := bc_lt.1 (show cmpS (SM.G Dz xs (mid + m - 1 - h)).1 (SM.G Dz xs h).1 < 0 by simpa using Q64)
     refine cd_region ?_
     refine mvi rfl ?_
     refine asi rfl ?_
     refine st_nil (nx_block ?_)
     refine nx_cut ((s, h)) ⟨(by first | rfl | (refine int_eq ?_; omega)), (by first | rfl | (refine int_eq ?_; omega)), trivial⟩ (by (iterate 56 refine agr_cons rfl ?_); exact agr_rfl) ⟨?_, ?_⟩
     · exact ⟨h3, by omega, by omega, hlo, .inr hlt, hoy, hG0⟩
     · show h - s < r - s; omega
  with_reducible replace Q47 := of_decide_eq_false Q47
  obtain rfl : s = r := by omega
  have hcut : SM.Cut Dz ltD a m b mid s xs := by
    refine ⟨⟨by omega, by omega, by omega⟩, ⟨by omega, by omega⟩, ?_, ?_⟩
    · rcases hlo with e | e
      · exact .inl (by omega)
      · by_cases e2 : s = a
        · exact .inl (.inl e2)
        · exact .inr ⟨by rw [show mid + m - s = mid + m - 1 - (s - 1) by omega]; exact e, by omega⟩
    · rcases hhi with e | e
      · exact .inl (by omega)
      · by_cases e2 : s = m ∨ s = mid
        · exact .inl e2
        · exact .inr ⟨e, by omega, by omega⟩
  refine cd_exit ?_
  refine ex_then (ex_then (ex_block (nx_then (cd_seq (cd_region ?_)))))
  refine mvi rfl ?_
  refine mvi rfl ?_
  refine st_val (ro_subN rfl rfl (by omega)) ?_
  refine asi rfl ?_
  refine st_nil (nx_then ?_)
  refine cd_cut (G := List Dc) [178, 179, 180, 181, 182, 183, 184, 185, 186, 187, 188, 189, 190, 191] (fun _ => []) (fun ys w' => w'.ownsRow base 43 2 (.slice (some ⟨g, 0, none⟩) n c) n (List.flatMap dV ys) ∧ w.grownBy w' (some g) ∧ SM.PW Dz a b xs ys ∧ ∀ k, SM.G Dz ys k = SM.rot s m (mid + m - s) (SM.G Dz xs) k) ?_ ?_
  · refine cd_seq (cd_region ?_)
    refine mvi rfl ?_
    refine mvi rfl ?_
    refine st_val (ro_lss rfl rfl) ?_
    refine mvb rfl ?_
    refine st_split (t := 181) rfl (fun Q65 => ?_) (fun Q65 => ?_)
    · with_reducible replace Q65 := of_decide_eq_true Q65
      refine st_unguard rfl ?_
      refine mvi rfl ?_
      refine st_unguard rfl ?_
      refine mvi rfl ?_
      refine st_unguard rfl ?_
      refine st_val (ro_lss rfl rfl) ?_
      refine st_val (ro_pickT (v := .bool _) rfl rfl) ?_
      refine st_nil (nx_then ?_)
      refine cd_cond rfl (fun Q66 => ?_) (fun Q66 => ?_)
      · with_reducible replace Q66 := of_decide_eq_true Q66
        refine cd_region ?_
        refine mvs rfl ?_
        refine mvi rfl ?_
        refine mvi rfl ?_
        refine mvi rfl ?_
        refine st_val (ro_move (v := .func _ _ _) rfl) ?_
        refine st_call TrSym_k29 (rotate_rt base _ c n xs _ hoy (Nat.le_trans hbs hG0.size) hl s m (mid + m - s) (by omega) (by omega) (by omega)) ?_
        rintro v191 w67 ⟨zs, hoz, hGz, hPz, hRz⟩
        refine st_nil ?_
        refine nx_cut (zs) trivial (by (iterate 15 refine agr_cons rfl ?_); exact agr_rfl) ?_
        exact ⟨hoz, grown_trans hG0 hGz, hPz.wide (by omega) (by omega), hRz⟩
      with_reducible replace Q66 := of_decide_eq_false Q66
      refine cd_skip ?_
      refine nx_cut (xs) trivial (by (iterate 9 refine agr_cons rfl ?_); exact agr_rfl) ?_
      exact ⟨hoy, hG0, .rfl_, fun k => (SM.rot_none (by omega) k).symm⟩
    with_reducible replace Q65 := of_decide_eq_false Q65
    refine st_gno rfl rfl ?_
    refine st_gno rfl rfl ?_
    refine st_gno rfl rfl ?_
    refine st_val (ro_pickF (v := .bool _) rfl rfl) ?_
    refine st_nil (nx_then ?_)
    refine cd_condF rfl ?_
    refine cd_skip ?_
    refine nx_cut (xs) trivial (by (iterate 9 refine agr_cons rfl ?_); exact agr_rfl) ?_
    exact ⟨hoy, hG0, .rfl_, fun k => (SM.rot_none (by omega) k).symm⟩
  rintro ys ρ68 w68 ⟨hoy, hG0, hP, hR⟩
  obtain ⟨t1, t2, t3, t4, hx⟩ := SM.cut_all ltD_ord s1 s2 hcut ⟨by omega, by omega⟩ ⟨by omega, by omega⟩ hR
  refine cd_cut (G := List Dc) [192, 193, 194, 195, 196, 197, 198, 199, 200, 201, 202, 203, 204, 205] (fun _ => []) (fun zs w' => w'.ownsRow base 43 2 (.slice (some ⟨g, 0, none⟩) n c) n (List.flatMap dV zs) ∧ w.grownBy w' (some g) ∧ SM.PW Dz a mid ys zs ∧ SM.Srt Dz ltD a mid zs) ?_ ?_
  · refine cd_seq (cd_region ?_)
    refine mvi rfl ?_
    refine mvi rfl ?_
    refine st_val (ro_lss rfl rfl) ?_
    refine mvb rfl ?_
    refine st_split (t := 195) rfl (fun Q69 => ?_) (fun Q69 => ?_)
    · with_reducible replace Q69 := of_decide_eq_true Q69
      refine st_unguard rfl ?_
      refine mvi rfl ?_
      refine st_unguard rfl ?_
      refine mvi rfl ?_
      refine st_unguard rfl ?_
      refine st_val (ro_lss rfl rfl) ?_
      refine st_val (ro_pickT (v := .bool _) rfl rfl) ?_
      refine st_nil (nx_then ?_)
      refine cd_cond rfl (fun Q70 => ?_) (fun Q70 => ?_)
      · with_reducible replace Q70 := of_decide_eq_true Q70
        refine cd_region ?_
        refine mvs rfl ?_
        refine mvi rfl ?_
        refine mvi rfl ?_
        refine mvi rfl ?_
        refine st_val (ro_move (v := .func _ _ _) rfl) ?_
        refine st_call TrSym_k27 (IH ys _ a s mid hoy (Nat.le_trans hbs hG0.size) (by omega) (by omega) (by omega) (by omega) t1 t2) ?_
        rintro v205 w71 ⟨vs, hov, hGv, hPv, hSv⟩
        refine st_nil ?_
        refine nx_cut (vs) trivial (by (iterate 15 refine agr_cons rfl ?_); exact agr_rfl) ?_
        exact ⟨hov, grown_trans hG0 hGv, hPv, hSv⟩
      with_reducible replace Q70 := of_decide_eq_false Q70
      refine cd_skip ?_
      refine nx_cut (ys) trivial (by (iterate 9 refine agr_cons rfl ?_); exact agr_rfl) ?_
      exact ⟨hoy, hG0, .rfl_, by
        first
          | exact (show s = a by omega) ▸ t2
          | exact (show s = mid by omega) ▸ t1⟩
    with_reducible replace Q69 := of_decide_eq_false Q69
    refine st_gno rfl rfl ?_
    refine st_gno rfl rfl ?_
    refine st_gno rfl rfl ?_
    refine st_val (ro_pickF (v := .bool _) rfl rfl) ?_
    refine st_nil (nx_then ?_)
    refine cd_condF rfl ?_
    refine cd_skip ?_
    refine nx_cut (ys) trivial (by (iterate 9 refine agr_cons rfl ?_); exact agr_rfl) ?_
    exact ⟨hoy, hG0, .rfl_, by
      first
        | exact (show s = a by omega) ▸ t2
        | exact (show s = mid by omega) ▸ t1⟩
  rintro zs ρ72 w72 ⟨hoz, hGz, hPz, hSz⟩
  refine cd_seq (cd_region ?_)
  refine mvi rfl ?_
  refine mvi rfl ?_
  refine st_val (ro_lss rfl rfl) ?_
  refine mvb rfl ?_
  refine st_split (t := 209) rfl (fun Q73 => ?_) (fun Q73 => ?_)
  · with_reducible replace Q73 := of_decide_eq_true Q73
    refine st_unguard rfl ?_
    refine mvi rfl ?_
    refine st_unguard rfl ?_
    refine mvi rfl ?_
    refine st_unguard rfl ?_
    refine st_val (ro_lss rfl rfl) ?_
    refine st_val (ro_pickT (v := .bool _) rfl rfl) ?_
    refine st_nil (nx_then ?_)
    refine cd_cond rfl (fun Q74 => ?_) (fun Q74 => ?_)
    · with_reducible replace Q74 := of_decide_eq_true Q74
      refine cd_region ?_
      refine mvs rfl ?_
      refine mvi rfl ?_
      refine mvi rfl ?_
      refine mvi rfl ?_
      refine st_val (ro_move (v := .func _ _ _) rfl) ?_
      refine st_call TrSym_k27 (IH zs _ mid (mid + m - s) b hoz (Nat.le_trans hbs hGz.size) (by omega) (by omega) (by omega) (by omega) (t3.off hPz (by omega)) (t4.off hPz (by omega))) ?_
      rintro v219 w75 ⟨vs, hov, hGv, hPv, hSv⟩
      refine st_nil ?_
      refine end_ret ?_
      refine res0 rfl ?_
      exact ⟨vs, hov, grown_trans hGz hGv, hP.trans ((hPz.wide (Nat.le_refl _) (by omega)).trans (hPv.wide (by omega) (Nat.le_refl _))), SM.half_half hx hPz hSz hPv hSv⟩
    with_reducible replace Q74 := of_decide_eq_false Q74
    refine cd_skip ?_
    refine end_ret ?_
    refine res0 rfl ?_
    have hlast : SM.Srt Dz ltD mid b zs := by
      first
        | exact (show mid + m - s = mid by omega) ▸ t4.off hPz (by omega)
        | exact (show mid + m - s = b by omega) ▸ t3.off hPz (by omega)
    exact ⟨zs, hoz, hGz, hP.trans (hPz.wide (Nat.le_refl _) (by omega)), SM.half_half hx hPz hSz .rfl_ hlast⟩
  with_reducible replace Q73 := of_decide_eq_false Q73
  refine st_gno rfl rfl ?_
  refine st_gno rfl rfl ?_
  refine st_gno rfl rfl ?_
  refine st_val (ro_pickF (v := .bool _) rfl rfl) ?_
  refine st_nil (nx_then ?_)
  refine cd_condF rfl ?_
  refine cd_skip ?_
  refine end_ret ?_
  refine res0 rfl ?_
  have hlast : SM.Srt Dz ltD mid b zs := by
    first
      | exact (show mid + m - s = mid by omega) ▸ t4.off hPz (by omega)
      | exact (show mid + m - s = b by omega) ▸ t3.off hPz (by omega)
  exact ⟨zs, hoz, hGz, hP.trans (hPz.wide (Nat.le_refl _) (by omega)), SM.half_half hx hPz hSz .rfl_ hlast⟩
theorem sym_ind (base : Nat) (A : Option Addr) (c n : Nat) (hl : n ≤ 100000000) : ∀ (N : Nat) (xs : List Dc) (w : World) (a m b : Nat), w.ownsRow base 43 2 (.slice A n c) n (xs.flatMap dV) → base ≤ w.heap.size → a < m → m < b → b ≤ n → b - a ≤ N → SM.Srt Dz ltD a m xs → SM.Srt Dz ltD m b xs →
    Rt Try.prog 27 [.slice A n c, .int .i64 (a : Nat), .int .i64 (m : Nat), .int .i64 (b : Nat), .func (.func 18) #[] #[]] w (fun _ w' => ∃ ys, w'.ownsRow base 43 2 (.slice A n c) n (List.flatMap dV ys) ∧ w.grownBy w' (A.map (·.block)) ∧ SM.PW Dz a b xs ys ∧ SM.Srt Dz ltD a b ys)
  | 0, xs, w, a, m, b => fun _ _ h1 h2 _ h3 => by omega
  | N + 1, xs, w, a, m, b => fun ho hbs h1 h2 hbn hN s1 s2 => sym_step base A c n xs w ho hbs hl a m b h1 h2 hbn s1 s2 fun ys w' a' m' b' k1 k2 k3 k4 k5 k6 k7 k8 => sym_ind base A c n hl N ys w' a' m' b' k1 k2 k3 k4 k5 (by omega) k7 k8
theorem sym_rt (base : Nat) (A : Option Addr) (c n : Nat) (xs : List Dc) (w : World) (ho : w.ownsRow base 43 2 (.slice A n c) n (xs.flatMap dV)) (hbs : base ≤ w.heap.size) (hl : n ≤ 100000000) (a m b : Nat) (h1 : a < m) (h2 : m < b) (hbn : b ≤ n) (s1 : SM.Srt Dz ltD a m xs) (s2 : SM.Srt Dz ltD m b xs) :
    Rt Try.prog 27 [.slice A n c, .int .i64 (a : Nat), .int .i64 (m : Nat), .int .i64 (b : Nat), .func (.func 18) #[] #[]] w (fun _ w' => ∃ ys, w'.ownsRow base 43 2 (.slice A n c) n (List.flatMap dV ys) ∧ w.grownBy w' (A.map (·.block)) ∧ SM.PW Dz a b xs ys ∧ SM.Srt Dz ltD a b ys) := sym_ind base A c n hl (b - a) xs w a m b ho hbs h1 h2 hbn (Nat.le_refl _) s1 s2
end Go.Proofs.Ytllpcjdljgmilaa

namespace Go.Proofs.Ytllpcjdljgmilaa
open Go.RowKit
open Go.ChangeShapes Go.WideShapes Go.ChangeAt
theorem TrStable_k26 : callable Try.prog 26 = true := by kernel_rfl
theorem TrStable_k27 : callable Try.prog 27 = true := by kernel_rfl
theorem TrStable_l27 : (elemQ Try.prog 27).isSome = true := by kernel_rfl
theorem TrStable_k22 : callable Try.prog 22 = true := by kernel_rfl
theorem dvd_next {s a : Nat} (h : s ∣ a) : s ∣ a + s := (Nat.dvd_add_iff_right h).1 (Nat.dvd_refl s)
theorem dvd_half {s a : Nat} (h : 2 * s ∣ a) : s ∣ a := Nat.dvd_trans (Nat.dvd_mul_left ..) h
set_option maxHeartbeats 4000000 in
theorem stable_rt (base : Nat) (A : Option Addr) (c n : Nat) (xs : List Dc) (w : World) (ho : w.ownsRow base 43 2 (.slice A n c) n (xs.flatMap dV)) (hbs : base ≤ w.heap.size) (hl : n ≤ 100000000) (hxn : xs.length = n) :
    Rt Try.prog 22 [.slice A n c, .int .i64 (n : Nat), .func (.func 18) #[] #[]] w (fun _ w' => ∃ ys, w'.ownsRow base 43 2 (.slice A n c) n (List.flatMap dV ys) ∧ w.grownBy w' (A.map (·.block)) ∧ SM.PW Dz 0 n xs ys ∧ SM.Srt Dz ltD 0 n ys) := by
  refine enter (n := 63) Try.func22 rfl rfl rfl ?_
  refine cd_seq (cd_region ?_)
  refine asi rfl ?_
  refine st_nil (nx_then (cd_seq (cd_region ?_)))
  refine mvi rfl ?_
  refine asi rfl ?_
  refine asi rfl ?_
  refine st_nil (nx_then (cd_seq (cd_block ?_)))
  refine cd_loop (G := Nat × List Dc) [11, 12, 13, 14, 15, 16, 17, 18, 19, 20, 21, 22] (fun (a, _) => [(7, .int .i64 (a : Nat)), (8, .int .i64 ((a + 20 : Nat) : Int))]) (fun (a, ys) w' => 20 ∣ a ∧ a ≤ n ∧ w'.ownsRow base 43 2 (.slice A n c) n (List.flatMap dV ys) ∧ w.grownBy w' (A.map (·.block)) ∧ SM.PW Dz 0 n xs ys ∧ SM.Blks Dz ltD 20 n a ys) (fun (a, _) => n - a) ((0, xs)) ⟨rfl, rfl, trivial⟩ ?_ ?_
  · exact ⟨Nat.dvd_zero _, Nat.zero_le _, ho, World.grownBy.refl _ _, .rfl_, fun k _ h => absurd h (by omega)⟩
  rintro ⟨a, ys⟩ ρ1 w1 ⟨hd, han, hoy, hG0, hP, hR⟩
  refine cd_seq (cd_seq (cd_region ?_))
  refine mvi rfl ?_
  refine mvi rfl ?_
  refine st_val (ro_leq rfl rfl) ?_
  refine st_nil (nx_then ?_)
  refine cd_cond rfl (fun Q2 => ?_) (fun Q2 => ?_)
  · with_reducible replace Q2 := of_decide_eq_true Q2
    refine cd_skip (nx_then (cd_block (cd_seq (cd_region ?_))))
    refine mvs rfl ?_
    refine mvi rfl ?_
    refine mvi rfl ?_
    refine st_val (ro_move (v := .func _ _ _) rfl) ?_
    refine st_call TrStable_k26 (insert_rt base A c n ys _ hoy (Nat.le_trans hbs hG0.size) hl a (a + 20) (by omega) (by omega)) ?_
    rintro v18 w3 ⟨zs, hoz, hGz, hPz, hSz⟩
    refine st_nil (nx_then (cd_seq (cd_region ?_)))
    refine mvi rfl ?_
    refine asi rfl ?_
    refine st_nil (nx_then (cd_region ?_))
    refine mvi rfl ?_
    refine mvi rfl ?_
    refine st_val (ro_addN (a := a + 20) (b := 20) rfl rfl (by omega)) ?_
    refine asi rfl ?_
    refine st_nil (nx_block ?_)
    refine nx_cut ((a + 20, zs)) ⟨rfl, rfl, trivial⟩ (by (iterate 28 refine agr_cons rfl ?_); exact agr_rfl) ⟨?_, ?_⟩
    · exact ⟨dvd_next hd, by omega, hoz, grown_trans hG0 hGz, hP.trans (hPz.wide (Nat.zero_le _) (by omega)), hR.step (by decide) hd (by omega) hPz hSz⟩
    · show n - (a + 20) < n - a; omega
  with_reducible replace Q2 := of_decide_eq_false Q2
  refine cd_exit ?_
  refine ex_then (ex_then (ex_block (nx_then (cd_seq (cd_region ?_)))))
  refine mvs rfl ?_
  refine mvi rfl ?_
  refine mvi rfl ?_
  refine st_val (ro_move (v := .func _ _ _) rfl) ?_
  refine st_call TrStable_k26 (insert_rt base A c n ys _ hoy (Nat.le_trans hbs hG0.size) hl a n (by omega) (by omega)) ?_
  rintro v27 w4 ⟨zs, hoz, hGz, hPz, hSz⟩
  refine st_nil (nx_then (cd_block ?_))
  refine cd_loop (G := Nat × List Dc) [7, 8, 9, 28, 29, 30, 31, 32, 33, 34, 35, 36, 37, 38, 39, 40, 41, 42, 43, 44, 45, 46, 47, 48, 49, 50, 51, 52, 53, 54, 55, 56, 57, 58, 59, 60, 61, 62] (fun (s, _) => [(6, .int .i64 (s : Nat))]) (fun (s, ys) w' => 0 < s ∧ s ≤ 2 * n + 20 ∧ w'.ownsRow base 43 2 (.slice A n c) n (List.flatMap dV ys) ∧ w.grownBy w' (A.map (·.block)) ∧ SM.PW Dz 0 n xs ys ∧ SM.Runs Dz ltD s n ys) (fun (s, _) => n - s) ((20, zs)) ⟨rfl, trivial⟩ ?_ ?_
  · exact ⟨by decide, by omega, hoz, grown_trans hG0 hGz, hP.trans (hPz.wide (Nat.zero_le _) (Nat.le_refl _)), (hR.step (by decide) hd (by omega) hPz hSz).end_ (by omega)⟩
  rintro ⟨s, ys⟩ ρ5 w5 ⟨hs0, hsn, hoy, hG0, hP, hR⟩
  refine cd_seq (cd_seq (cd_region ?_))
  refine mvi rfl ?_
  refine mvi rfl ?_
  refine st_val (ro_lss rfl rfl) ?_
  refine st_nil (nx_then ?_)
  refine cd_cond rfl (fun Q6 => ?_) (fun Q6 => ?_)
  · with_reducible replace Q6 := of_decide_eq_true Q6
    refine cd_skip (nx_then (cd_block (cd_seq (cd_region ?_))))
    refine mvi rfl ?_
    refine st_val (ro_mulN (a := 2) (b := s) rfl rfl (by omega)) ?_
    refine asi rfl ?_
    refine asi rfl ?_
    refine st_nil (nx_then (cd_seq (cd_block ?_)))
    refine cd_loop (G := Nat × List Dc) [33, 34, 35, 36, 37, 38, 39, 40, 41, 42, 43, 44, 45, 46, 47, 48] (fun (a, _) => [(7, .int .i64 (a : Nat)), (8, .int .i64 ((a + 2 * s : Nat) : Int))]) (fun (a, ys) w' => 2 * s ∣ a ∧ a ≤ n ∧ w'.ownsRow base 43 2 (.slice A n c) n (List.flatMap dV ys) ∧ w.grownBy w' (A.map (·.block)) ∧ SM.PW Dz 0 n xs ys ∧ SM.Runs2 Dz ltD s n a ys) (fun (a, _) => n - a) ((0, ys)) ⟨rfl, (int_eq (by omega)), trivial⟩ ?_ ?_
    · exact ⟨Nat.dvd_zero _, Nat.zero_le _, hoy, hG0, hP, .start hR⟩
    rintro ⟨a, ys⟩ ρ7 w7 ⟨hd, han, hoy, hG0, hP, hR⟩
    have r1 := fun (h : a + 2 * s ≤ n) => hR.2 a (dvd_half hd) (Nat.le_refl _)
    have r2 := hR.2 (a + s) (dvd_next (dvd_half hd)) (by omega)
    have r3 := hR.2 a (dvd_half hd) (Nat.le_refl _)
    refine cd_seq (cd_seq (cd_region ?_))
    refine mvi rfl ?_
    refine mvi rfl ?_
    refine st_val (ro_leq rfl rfl) ?_
    refine st_nil (nx_then ?_)
    refine cd_cond rfl (fun Q8 => ?_) (fun Q8 => ?_)
    · with_reducible replace Q8 := of_decide_eq_true Q8
      refine cd_skip (nx_then (cd_block (cd_seq (cd_region ?_))))
      refine mvs rfl ?_
      refine mvi rfl ?_
      refine mvi rfl ?_
      refine mvi rfl ?_
      refine st_val (ro_addN rfl rfl (by omega)) ?_
      refine mvi rfl ?_
      refine st_val (ro_move (v := .func _ _ _) rfl) ?_
      refine st_call TrStable_k27 (sym_rt base A c n ys _ hoy (Nat.le_trans hbs hG0.size) hl a (a + s) (a + 2 * s) (by omega) (by omega) (by omega) (r3.sub (Nat.le_refl _) (by omega)) (r2.sub (Nat.le_refl _) (by omega))) ?_
      rintro v43 w9 ⟨zs, hoz, hGz, hPz, hSz⟩
      refine st_nil (nx_then (cd_seq (cd_region ?_)))
      refine mvi rfl ?_
      refine asi rfl ?_
      refine st_nil (nx_then (cd_region ?_))
      refine mvi rfl ?_
      refine mvi rfl ?_
      refine st_val (ro_mulN (a := 2) (b := s) rfl rfl (by omega)) ?_
      refine st_val (ro_addN rfl rfl (by omega)) ?_
      refine asi rfl ?_
      refine st_nil (nx_block ?_)
      refine nx_cut ((a + 2 * s, zs)) ⟨rfl, rfl, trivial⟩ (by (iterate 36 refine agr_cons rfl ?_); exact agr_rfl) ⟨?_, ?_⟩
      · exact ⟨dvd_next hd, by omega, hoz, grown_trans hG0 hGz, hP.trans (hPz.wide (Nat.zero_le _) (by omega)), hR.step hs0 hd (by omega) hPz hSz⟩
      · show n - (a + 2 * s) < n - a; omega
    with_reducible replace Q8 := of_decide_eq_false Q8
    refine cd_exit ?_
    refine ex_then (ex_then (ex_block (nx_then ?_)))
    refine cd_cut (G := List Dc) [9, 49, 50, 51, 52, 53, 54, 55, 56, 57, 58, 59, 60] (fun _ => []) (fun ys w' => w'.ownsRow base 43 2 (.slice A n c) n (List.flatMap dV ys) ∧ w.grownBy w' (A.map (·.block)) ∧ SM.PW Dz 0 n xs ys ∧ SM.Runs Dz ltD (2 * s) n ys) ?_ ?_
    · refine cd_seq (cd_region ?_)
      refine mvi rfl ?_
      refine mvi rfl ?_
      refine st_val (ro_addN rfl rfl (by omega)) ?_
      refine asi rfl ?_
      refine st_nil (nx_then (cd_seq (cd_region ?_)))
      refine mvi rfl ?_
      refine mvi rfl ?_
      refine st_val (ro_lss rfl rfl) ?_
      refine st_nil (nx_then ?_)
      refine cd_cond rfl (fun Q10 => ?_) (fun Q10 => ?_)
      · with_reducible replace Q10 := of_decide_eq_true Q10
        refine cd_region ?_
        refine mvs rfl ?_
        refine mvi rfl ?_
        refine mvi rfl ?_
        refine mvi rfl ?_
        refine st_val (ro_move (v := .func _ _ _) rfl) ?_
        refine st_call TrStable_k27 (sym_rt base A c n ys _ hoy (Nat.le_trans hbs hG0.size) hl a (a + s) n (by omega) (by omega) (by omega) (r3.sub (Nat.le_refl _) (by omega)) (r2.sub (Nat.le_refl _) (by omega))) ?_
        rintro v60 w11 ⟨zs, hoz, hGz, hPz, hSz⟩
        refine st_nil ?_
        refine nx_cut (zs) trivial (by (iterate 13 refine agr_cons rfl ?_); exact agr_rfl) ?_
        exact ⟨hoz, grown_trans hG0 hGz, hP.trans (hPz.wide (Nat.zero_le _) (Nat.le_refl _)), (hR.step hs0 hd (by omega) hPz hSz).end_ hs0 (dvd_next hd) (by omega)⟩
      with_reducible replace Q10 := of_decide_eq_false Q10
      refine cd_skip ?_
      refine nx_cut (ys) trivial (by (iterate 7 refine agr_cons rfl ?_); exact agr_rfl) ?_
      exact ⟨hoy, hG0, hP, (hR.last hs0 hd (by omega)).end_ hs0 (dvd_next hd) (by omega)⟩
    rintro ys ρ12 w12 ⟨hoy, hG0, hP, hR⟩
    refine cd_region ?_
    refine mvi rfl ?_
    refine st_val (ro_mulN (a := s) (b := 2) rfl rfl (by omega)) ?_
    refine asi rfl ?_
    refine st_nil (nx_block ?_)
    refine nx_cut ((s * 2, ys)) ⟨rfl, trivial⟩ (by (iterate 83 refine agr_cons rfl ?_); exact agr_rfl) ⟨?_, ?_⟩
    · exact ⟨by omega, by omega, hoy, hG0, hP, by rw [Nat.mul_comm]; exact hR⟩
    · show n - s * 2 < n - s; omega
  with_reducible replace Q6 := of_decide_eq_false Q6
  refine cd_exit ?_
  refine ex_then (ex_then (ex_block ?_))
  refine end_ret ?_
  refine res0 rfl ?_
  exact ⟨ys, hoy, hG0, hP, hR.all (by omega)⟩
set_option maxHeartbeats 400000 in
theorem sortS_rt (base : Nat) (A : Option Addr) (c n : Nat) (xs : List Dc) (w : World) (ho : w.ownsRow base 43 2 (.slice A n c) n (xs.flatMap dV)) (hbs : base ≤ w.heap.size) (hl : n ≤ 100000000) (hxn : xs.length = n) :
    Rt Try.prog 17 [.slice A n c, .func (.func 18) #[] #[]] w (fun _ w' => ∃ ys, w'.ownsRow base 43 2 (.slice A n c) n (List.flatMap dV ys) ∧ w.grownBy w' (A.map (·.block)) ∧ SM.PW Dz 0 n xs ys ∧ SM.Srt Dz ltD 0 n ys) := by
  refine enter (n := 9) Try.func17 rfl rfl rfl ?_
  refine cd_region ?_
  refine mvs rfl ?_
  refine mvs rfl ?_
  refine st_val (ro_len TrStable_l27 rfl) ?_
  refine st_val (ro_move (v := .func _ _ _) rfl) ?_
  refine st_call TrStable_k22 (stable_rt base A c n xs _ ho hbs hl hxn) ?_
  rintro v8 w1 ⟨ys, hoy, hG0, hP, hR⟩
  refine st_nil ?_
  refine end_ret ?_
  refine res0 rfl ?_
  exact ⟨ys, hoy, hG0, hP, hR⟩
end Go.Proofs.Ytllpcjdljgmilaa

namespace Go.Proofs.Ytllpcjdljgmilaa
open Go.RowKit
open Go.ChangeShapes Go.WideShapes Go.ChangeAt
theorem TrMerge_e27 : elemQ Try.prog 27 = some (43, 2) := by kernel_rfl
theorem TrMerge_q27 : litQ Try.prog 27 = some (43, 2, 32, (.agg #[.string ⟨#[]⟩, .string ⟨#[]⟩])) := by kernel_rfl
theorem TrMerge_l27 : (elemQ Try.prog 27).isSome = true := by kernel_rfl
theorem TrMerge_g9 : aggQ Try.prog 9 = some false := by kernel_rfl
theorem TrMerge_l22 : (elemQ Try.prog 22).isSome = true := by kernel_rfl
theorem TrMerge_e22 : elemQ Try.prog 22 = some (27, 1) := by kernel_rfl
theorem TrMerge_g27 : aggQ Try.prog 27 = some false := by kernel_rfl
theorem TrMerge_k21 : callable Try.prog 21 = true := by kernel_rfl
theorem TrMerge_f43_0 : fieldQ Try.prog 43 0 = some 0 := by kernel_rfl
theorem TrMerge_k16 : callable Try.prog 16 = true := by kernel_rfl
theorem TrMerge_k17 : callable Try.prog 17 = true := by kernel_rfl
/-- lists of documents, as they lie -/
def RowLL (w : World) (A : Option Addr) (Ls : List (List Dc)) : Prop := 0 < Ls.length → ∃ b o, A = some ⟨b, o, none⟩ ∧ ∀ i (h : i < Ls.length), ∃ Ai ci, w.cell? ⟨b, o + i, none⟩ = some (.slice Ai Ls[i].length ci) ∧ RowK 2 dV w Ai Ls[i] ∧ (Ai = none → ci = 0)
theorem RowLL.from_ {w w' : World} {A : Option Addr} {Ls : List (List Dc)} (h : RowLL w A Ls) (hF : From w w') : RowLL w' A Ls := fun h0 => by
  obtain ⟨b, o, e, hc⟩ := h h0
  refine ⟨b, o, e, fun i hi => ?_⟩
  obtain ⟨Ai, ci, h1, h2, h3⟩ := hc i hi
  exact ⟨Ai, ci, cellF hF h1, h2.from_ hF, h3⟩
theorem fl_succ {α : Type} {Ls : List (List α)} {i : Nat} (h : i < Ls.length) : (Ls.take (i + 1)).flatten = (Ls.take i).flatten ++ Ls[i] := by
  rw [List.take_succ_eq_append_getElem h, List.flatten_append, List.flatten_cons, List.flatten_nil, List.append_nil]
theorem fl_len {α : Type} {Ls : List (List α)} {i : Nat} (h : i < Ls.length) : (Ls.take (i + 1)).flatten.length = (Ls.take i).flatten.length + Ls[i].length := by rw [fl_succ h, List.length_append]
theorem fl_le {α : Type} {Ls : List (List α)} (i : Nat) : (Ls.take i).flatten.length ≤ Ls.flatten.length := by
  have e : Ls.flatten = (Ls.take i).flatten ++ (Ls.drop i).flatten := by rw [← List.flatten_append, List.take_append_drop]
  rw [e, List.length_append]; omega
set_option maxHeartbeats 1000000 in
theorem grow_rt (m : Nat) (w : World) (hm : m ≤ 100000000) :
    Rt Try.prog 21 [.slice none 0 0, .int .i64 (m : Nat)] w (fun v w' => (∃ A' c', v = .slice A' 0 c' ∧ w'.ownsRow w.heap.size 43 2 (.slice A' 0 c') 0 []) ∧ From w w') := by
  refine enter (n := 27) Try.func21 rfl rfl rfl ?_
  refine cd_seq (cd_region ?_)
  refine ass rfl ?_
  refine st_nil (nx_then (cd_seq (cd_seq (cd_region ?_))))
  refine mvi rfl ?_
  refine st_val (ro_lss rfl rfl) ?_
  refine st_nil (nx_then ?_)
  refine cd_cond rfl (fun Q1 => ?_) (fun Q1 => ?_)
  · with_reducible replace Q1 := of_decide_eq_true Q1
    exfalso; omega
  with_reducible replace Q1 := of_decide_eq_false Q1
  refine cd_skip (nx_then (cd_seq (cd_seq (cd_region ?_))))
  refine mvi rfl ?_
  refine mvs rfl ?_
  refine st_val (ro_cap TrMerge_l27 rfl) ?_
  refine mvs rfl ?_
  refine st_val (ro_len TrMerge_l27 rfl) ?_
  refine st_val (ro_subN (a := 0) (b := 0) rfl rfl (by omega)) ?_
  refine st_val (ro_subN (a := m) (b := 0 - 0) rfl rfl (by omega)) ?_
  refine asi rfl ?_
  refine st_nil (nx_then (cd_seq (cd_region ?_)))
  refine mvi rfl ?_
  refine st_val (ro_gtr rfl rfl) ?_
  refine st_nil (nx_then ?_)
  refine cd_cond rfl (fun Q6 => ?_) (fun Q6 => ?_)
  · with_reducible replace Q6 := of_decide_eq_true Q6
    refine cd_region ?_
    refine mvs rfl ?_
    refine mvs rfl ?_
    refine st_val (ro_cap TrMerge_l27 rfl) ?_
    refine st_val (ro_eq (v' := .slice none 0 0) (ro_sliceO (l := 0) (h := 0) TrMerge_e27 rfl (.inl ⟨rfl, rfl⟩) (.inr ⟨_, _, _, rfl, rfl, rfl⟩) (by omega) (by omega)) (by simp [restOf])) ?_
    refine mvi rfl ?_
    refine st_appendZ (kn := .i64) (olds := []) TrMerge_q27 (by kernel_rfl) rfl (by decide) rfl rfl rfl (fun h => absurd h (by simp)) (by omega) (by omega) (by unfold maxLen; omega) (by omega) (Nat.le_refl _) ?_
    intro g22 c22 w7 cur22 hg22 E22 hb22 hc22 hc22m hcl22 hct22
    have hgw : w.heap.size ≤ g22 := by rw [hg22]; exact (From.rfl_).size
    refine mvs rfl ?_
    refine st_val (ro_len TrMerge_l27 rfl) ?_
    refine st_val (ro_eq (v' := .slice (some ⟨g22, 0, none⟩) 0 c22) (ro_sliceO (l := 0) (h := 0) TrMerge_e27 rfl (.inl ⟨rfl, rfl⟩) (.inr ⟨_, _, _, rfl, rfl, rfl⟩) (by omega) (by omega)) (by rw [restOf_head, Nat.sub_zero, Nat.sub_zero])) ?_
    refine ass rfl ?_
    refine st_nil (nx_then (cd_seq (cd_region ?_)))
    refine mvs rfl ?_
    refine ass rfl ?_
    refine st_nil (nx_then (cd_ret ?_))
    refine res1 (v := .slice _ _ _) rfl rfl ?_
    first
      | exact ⟨⟨some ⟨g22, 0, none⟩, c22, rfl, own_of hgw hb22 (Nat.zero_le _) hc22m hcl22 rfl⟩, (From.rfl_.next E22)⟩
      | exact ⟨⟨none, 0, rfl, World.ownsRow_nil _ _ _ _⟩, (From.rfl_.next E22)⟩
  with_reducible replace Q6 := of_decide_eq_false Q6
  refine cd_skip (nx_then (cd_seq (cd_region ?_)))
  refine mvs rfl ?_
  refine ass rfl ?_
  refine st_nil (nx_then (cd_ret ?_))
  refine res1 (v := .slice _ _ _) rfl rfl ?_
  first
    | exact ⟨⟨some ⟨g22, 0, none⟩, c22, rfl, own_of hgw hb22 (Nat.zero_le _) hc22m hcl22 rfl⟩, From.rfl_⟩
    | exact ⟨⟨none, 0, rfl, World.ownsRow_nil _ _ _ _⟩, From.rfl_⟩
set_option maxHeartbeats 2000000 in
theorem concat_rt (A : Option Addr) (c n : Nat) (Ls : List (List Dc)) (w : World) (hr : RowLL w A Ls) (hn : n = Ls.length) (hl : n ≤ 100000000) (hf : Ls.flatten.length ≤ 100000000) :
    Rt Try.prog 16 [.slice A n c] w (fun v w' => (∃ A' c', v = .slice A' Ls.flatten.length c' ∧ w'.ownsRow w.heap.size 43 2 (.slice A' Ls.flatten.length c') Ls.flatten.length (Ls.flatten.flatMap dV)) ∧ From w w') := by
  refine enter (n := 36) Try.func16 rfl rfl rfl ?_
  refine cd_seq (cd_region ?_)
  refine ass rfl ?_
  refine st_nil (nx_then (cd_seq (cd_region ?_)))
  refine asi rfl ?_
  refine st_nil (nx_then (cd_seq (cd_seq (cd_region ?_))))
  refine mvs rfl ?_
  refine st_val (ro_len TrMerge_l22 rfl) ?_
  refine mvi rfl ?_
  refine st_nil (nx_then (cd_block ?_))
  refine cd_loop (G := Nat) [5, 12, 13, 14, 15, 16, 17, 18, 19, 20, 21, 22] (fun i => [(3, .int .i64 (((Ls.take i).flatten.length : Nat) : Int)), (11, .int .i64 (i : Nat))]) (fun i w' => i ≤ n ∧ From w w') (fun i => n - i) (0) ⟨rfl, rfl, trivial⟩ ?_ ?_
  · exact ⟨Nat.zero_le _, From.rfl_⟩
  rintro i ρ1 w1 ⟨hi, hB⟩
  refine cd_seq (cd_region ?_)
  refine st_val (ro_lss rfl rfl) ?_
  refine st_nil (nx_then (cd_seq ?_))
  refine cd_cond rfl (fun Q2 => ?_) (fun Q2 => ?_)
  · with_reducible replace Q2 := of_decide_eq_true Q2
    obtain ⟨b, o, rfl, hcs⟩ := hr (by omega)
    have hil : i < Ls.length := by omega
    obtain ⟨Ai, ci, hci, hri, hni⟩ := hcs i hil
    have hfl := fl_len hil
    have hfm := fl_le (Ls := Ls) (i + 1)
    refine cd_skip (nx_then (cd_seq (cd_block (cd_seq (cd_region ?_)))))
    refine st_val (ro_indexAddr1 TrMerge_e22 rfl rfl (by omega)) ?_
    refine st_val (ro_load TrMerge_g27 rfl (by exact cellF hB hci)) ?_
    refine ass rfl ?_
    refine st_nil (nx_then (cd_seq (cd_region ?_)))
    refine mvi rfl ?_
    refine mvs rfl ?_
    refine st_val (ro_len TrMerge_l27 rfl) ?_
    refine st_val (ro_addN rfl rfl (by omega)) ?_
    refine asi rfl ?_
    refine st_nil (nx_then (cd_seq (cd_region ?_)))
    refine mvi rfl ?_
    refine st_val (ro_lss rfl rfl) ?_
    refine st_nil (nx_then ?_)
    refine cd_cond rfl (fun Q3 => ?_) (fun Q3 => ?_)
    · with_reducible replace Q3 := of_decide_eq_true Q3
      exfalso; omega
    with_reducible replace Q3 := of_decide_eq_false Q3
    refine cd_skip (nx_block (nx_then (cd_region ?_)))
    refine st_val (ro_addN (b := 1) rfl rfl (by omega)) ?_
    refine mvi rfl ?_
    refine st_nil ?_
    refine nx_cut (i + 1) ⟨(int_eq (by rw [hfl])), rfl, trivial⟩ (by (iterate 27 refine agr_cons rfl ?_); exact agr_rfl) ⟨?_, ?_⟩
    · exact ⟨by omega, hB⟩
    · show n - (i + 1) < n - i; omega
  with_reducible replace Q2 := of_decide_eq_false Q2
  obtain rfl : i = Ls.length := by omega
  rw [List.take_length]
  refine cd_exit ?_
  refine ex_then (ex_then (ex_block (nx_then (cd_seq (cd_region ?_)))))
  refine mvi rfl ?_
  have hz24 := (hB).size
  refine st_call TrMerge_k21 (grow_rt Ls.flatten.length _ (by omega)) ?_
  rintro v24 w6 ⟨⟨A24, c24, rfl, ho24⟩, E24⟩
  refine ass rfl ?_
  refine st_nil (nx_then (cd_seq (cd_seq (cd_region ?_))))
  refine mvs rfl ?_
  refine st_val (ro_len TrMerge_l22 rfl) ?_
  refine mvi rfl ?_
  refine st_nil (nx_then (cd_block ?_))
  refine cd_loop (G := Nat × Option Addr × Nat) [8, 28, 29, 30, 31, 32, 33, 34] (fun (i, A6, c6) => [(6, .slice A6 (Ls.take i).flatten.length c6), (27, .int .i64 (i : Nat))]) (fun (i, A6, c6) w' => i ≤ n ∧ w'.ownsRow w.heap.size 43 2 (.slice A6 (Ls.take i).flatten.length c6) (Ls.take i).flatten.length (List.flatMap dV (Ls.take i).flatten) ∧ From w w') (fun (i, _, _) => n - i) ((0, A24, c24)) ⟨rfl, rfl, trivial⟩ ?_ ?_
  · exact ⟨Nat.zero_le _, own_le ho24 hz24, (hB.next E24)⟩
  rintro ⟨i, A6, c6⟩ ρ7 w7 ⟨hi, ho6, hB⟩
  refine cd_seq (cd_region ?_)
  refine st_val (ro_lss rfl rfl) ?_
  refine st_nil (nx_then (cd_seq ?_))
  refine cd_cond rfl (fun Q8 => ?_) (fun Q8 => ?_)
  · with_reducible replace Q8 := of_decide_eq_true Q8
    obtain ⟨b, o, rfl, hcs⟩ := hr (by omega)
    have hil : i < Ls.length := by omega
    obtain ⟨Ai, ci, hci, hri, hni⟩ := hcs i hil
    have hfl := fl_len hil
    have hfm := fl_le (Ls := Ls) (i + 1)
    refine cd_skip (nx_then (cd_seq (cd_block (cd_seq (cd_region ?_)))))
    refine st_val (ro_indexAddr1 TrMerge_e22 rfl rfl (by omega)) ?_
    refine st_val (ro_load TrMerge_g27 rfl (by exact cellF hB hci)) ?_
    refine ass rfl ?_
    refine st_nil (nx_then (cd_region ?_))
    refine mvs rfl ?_
    refine mvs rfl ?_
    refine st_appendB TrMerge_q27 rfl (by decide) rfl (A := A6) (xs := List.flatMap dV (Ls.take i).flatten) (news := List.flatMap dV Ls[i]) (ho6.kept_from From.rfl_) (hB.size) rfl (flat_len dV_len _) (fun h => (hri.from_ hB).flat dV_len h) hni (dV_one _) (by omega) (by omega) ?_
    intro A33 c33 w9 ho33 hg33
    have HF33 := (hB).grew hg33 (fun k hk => (own_at (ho6.kept_from From.rfl_) k hk).1)
    refine ass rfl ?_
    refine st_nil (nx_block (nx_then (cd_region ?_)))
    refine st_val (ro_addN (b := 1) rfl rfl (by omega)) ?_
    refine mvi rfl ?_
    refine st_nil ?_
    refine nx_cut ((i + 1, A33, c33)) ⟨(by rw [hfl]; rfl), rfl, trivial⟩ (by (iterate 20 refine agr_cons rfl ?_); exact agr_rfl) ⟨?_, ?_⟩
    · exact ⟨by omega, by rw [hfl, fl_succ hil, List.flatMap_append]; exact ho33, HF33⟩
    · show n - (i + 1) < n - i; omega
  with_reducible replace Q8 := of_decide_eq_false Q8
  refine cd_exit ?_
  refine ex_then (ex_then (ex_block (nx_then (cd_seq (cd_region ?_)))))
  refine mvs rfl ?_
  refine ass rfl ?_
  refine st_nil (nx_then (cd_ret ?_))
  refine res1 (v := .slice _ _ _) rfl rfl ?_
  obtain rfl : i = Ls.length := by omega
  rw [List.take_length] at ho6
  rw [List.take_length]
  exact ⟨⟨A6, c6, rfl, ho6⟩, hB⟩
set_option maxHeartbeats 4000000 in
theorem merge_rt (A : Option Addr) (c n : Nat) (Ls : List (List Dc)) (w : World) (hr : RowLL w A Ls) (hn : n = Ls.length) (hl : n ≤ 100000000) (hf : Ls.flatten.length ≤ 100000000) :
    Rt Try.prog 7 [.slice A n c] w (fun v w' => (∃ A' c', v = .tuple #[.slice A' (mD Ls).length c', .int .i64 (mE Ls)] ∧ w'.ownsRow w.heap.size 43 2 (.slice A' (mD Ls).length c') (mD Ls).length (List.flatMap dV (mD Ls))) ∧ From w w') := by
  refine enter (n := 57) Try.func7 rfl rfl rfl ?_
  refine cd_seq (cd_region ?_)
  refine ass rfl ?_
  refine asi rfl ?_
  refine st_nil (nx_then (cd_seq (cd_seq (cd_region ?_))))
  refine mvs rfl ?_
  refine st_val (ro_len TrMerge_l22 rfl) ?_
  refine mvi rfl ?_
  refine st_nil (nx_then (cd_block ?_))
  refine cd_loop (G := Nat) [2, 3, 5, 6, 12, 13, 14, 15, 16, 17, 18, 19, 20, 21, 22, 23, 24, 25, 26, 27, 28, 29, 30, 31, 32, 33] (fun i => [(11, .int .i64 (i : Nat))]) (fun i w' => i ≤ n ∧ (∀ l ∈ Ls.take i, SD l) ∧ From w w') (fun i => n - i) (0) ⟨rfl, trivial⟩ ?_ ?_
  · exact ⟨Nat.zero_le _, fun l h => by simp at h, From.rfl_⟩
  rintro i ρ1 w1 ⟨hi, hsd, hB⟩
  refine cd_seq (cd_region ?_)
  refine st_val (ro_lss rfl rfl) ?_
  refine st_nil (nx_then (cd_seq ?_))
  refine cd_cond rfl (fun Q2 => ?_) (fun Q2 => ?_)
  · with_reducible replace Q2 := of_decide_eq_true Q2
    obtain ⟨b, o, rfl, hcs⟩ := hr (by omega)
    have hil : i < Ls.length := by omega
    obtain ⟨Ai, ci, hci, hri, hni⟩ := hcs i hil
    have hfl := fl_len hil
    have hfm := fl_le (Ls := Ls) (i + 1)
    have hsd0 := hsd
    obtain ⟨ds, hds⟩ : ∃ ds, Ls[i] = ds := ⟨_, rfl⟩
    rw [hds] at hci hri hfl
    refine cd_skip (nx_then (cd_seq (cd_block (cd_seq (cd_region ?_)))))
    refine st_val (ro_indexAddr1 TrMerge_e22 rfl rfl (by omega)) ?_
    refine st_val (ro_load TrMerge_g27 rfl (by exact cellF hB hci)) ?_
    refine ass rfl ?_
    refine st_nil (nx_then (cd_seq (cd_region ?_)))
    refine asi rfl ?_
    refine st_nil (nx_then (cd_block ?_))
    refine cd_loop (G := Nat) [2, 3, 15, 16, 17, 18, 19, 20, 21, 22, 23, 24, 25, 26, 27, 28, 29, 30, 31, 32] (fun k => [(6, .int .i64 (k : Nat))]) (fun k w' => 1 ≤ k ∧ (∀ x, 0 < x → x < k → x < ds.length → sLt (SM.G Dz ds (x - 1)).1 (SM.G Dz ds x).1) ∧ From w w') (fun k => ds.length - k) (1) ⟨rfl, trivial⟩ ?_ ?_
    · exact ⟨Nat.le_refl _, fun x h1 h2 => absurd h1 (by omega), hB⟩
    rintro k ρ3 w3 ⟨hk1, hok, hB⟩
    refine cd_seq (cd_seq (cd_region ?_))
    refine mvi rfl ?_
    refine mvs rfl ?_
    refine st_val (ro_len TrMerge_l27 rfl) ?_
    refine st_val (ro_lss rfl rfl) ?_
    refine st_nil (nx_then ?_)
    refine cd_cond rfl (fun Q4 => ?_) (fun Q4 => ?_)
    · with_reducible replace Q4 := of_decide_eq_true Q4
      obtain ⟨bd, od, rfl, hcd⟩ := hri (by omega)
      have hcG : ∀ x, x < ds.length → w.rangeAt bd (od + x * 2) (dV (SM.G Dz ds x)) := fun x hx => by rw [G_d0 hx]; exact hcd x hx
      refine cd_skip (nx_then (cd_seq (cd_block (cd_seq ?_))))
      apply cd_drawnD 12 [(21, eqp _), (22, eqp _), (23, eqp _), (24, eqp _), (25, eqp _), (26, eqp (.string (SM.G Dz ds (k - 1)).1)), (27, eqp _), (28, eqp _), (29, eqp _), (30, eqp _), (31, eqp (.string (SM.G Dz ds k).1)), (32, eqp _)] (by repeat first | exact pq_body | refine pq_then ?_ | refine pq_block ?_) (by kernel_rfl) (by kernel_rfl) ⟨eqp_mono _, eqp_mono _, eqp_mono _, eqp_mono _, eqp_mono _, eqp_mono _, eqp_mono _, eqp_mono _, eqp_mono _, eqp_mono _, eqp_mono _, eqp_mono _, trivial⟩
      case hop =>
       refine ⟨?_, ?_⟩
       · rintro - w6 D6
         show OpOK _ _ _ _ _ _ _
         exact ok_pure (ro_move (v := .slice _ _ _) rfl) rfl
       refine ⟨?_, ?_⟩
       · rintro - w7 D7
         show OpOK _ _ _ _ _ _ _
         exact ok_pure (ro_move (v := .int _ _) rfl) rfl
       refine ⟨?_, ?_⟩
       · rintro - w8 D8
         rintro _ rfl
         show OpOK _ _ _ _ _ _ _
         exact ok_pure (ro_subN (b := 1) rfl rfl (by omega)) rfl
       refine ⟨?_, ?_⟩
       · rintro - w9 D9
         rintro _ rfl _ rfl
         show OpOK _ _ _ _ _ _ _
         exact ok_pure (ro_indexAddrN TrMerge_e27 rfl rfl (by omega)) rfl
       refine ⟨?_, ?_⟩
       · rintro - w10 D10
         rintro _ rfl
         show OpOK _ _ _ _ _ _ _
         exact ok_pure (ro_fieldAddr TrMerge_f43_0 rfl) rfl
       refine ⟨?_, ?_⟩
       · rintro - w11 D11
         rintro _ rfl
         show OpOK _ _ _ _ _ _ _
         exact ok_pure (ro_load (v := .string (SM.G Dz ds (k - 1)).1) TrMerge_g9 rfl (cellF (hB.next D11) (hcG (k - 1) (by omega) 0 _ rfl))) rfl
       refine ⟨?_, ?_⟩
       · rintro - w12 D12
         show OpOK _ _ _ _ _ _ _
         exact ok_pure (ro_move (v := .slice _ _ _) rfl) rfl
       refine ⟨?_, ?_⟩
       · rintro - w13 D13
         show OpOK _ _ _ _ _ _ _
         exact ok_pure (ro_move (v := .int _ _) rfl) rfl
       refine ⟨?_, ?_⟩
       · rintro - w14 D14
         rintro _ rfl _ rfl
         show OpOK _ _ _ _ _ _ _
         exact ok_pure (ro_indexAddrN TrMerge_e27 rfl rfl (by omega)) rfl
       refine ⟨?_, ?_⟩
       · rintro - w15 D15
         rintro _ rfl
         show OpOK _ _ _ _ _ _ _
         exact ok_pure (ro_fieldAddr TrMerge_f43_0 rfl) rfl
       refine ⟨?_, ?_⟩
       · rintro - w16 D16
         rintro _ rfl
         show OpOK _ _ _ _ _ _ _
         exact ok_pure (ro_load (v := .string (SM.G Dz ds k).1) TrMerge_g9 rfl (cellF (hB.next D16) (hcG k (by omega) 0 _ rfl))) rfl
       refine ⟨?_, ?_⟩
       · rintro - w17 D17
         rintro v17_26 rfl v17_31 rfl
         show OpOK _ _ _ _ _ _ _
         exact ok_pure (ro_geqS rfl rfl) rfl
       exact trivial
      case hend =>
       intro w18 D18
       rintro _ rfl _ rfl _ rfl _ rfl _ rfl v26 rfl _ rfl _ rfl _ rfl _ rfl v31 rfl _ rfl
       show St _ _ _ _ _ _ _
       refine st_nil (nx_then ?_)
       refine cd_cond rfl (fun Q19 => ?_) (fun Q19 => ?_)
       · with_reducible replace Q19 := bn_t Q19
         have hnl : ¬ sLt (SM.G Dz ds (k - 1)).1 (SM.G Dz ds k).1 := fun h => by
           have h9 := (sLt_dec _ _).2 h
           simp_all
         refine cd_seq (cd_region ?_)
         refine ass rfl ?_
         refine asi rfl ?_
         refine st_nil (nx_then (cd_ret (rt_block (rt_then (rt_then (rt_block (rt_block (rt_then (rt_then (rt_block (rt_then ?_)))))))))))
         refine res2 (v := .slice _ _ _) (v' := .int _ _) rfl rfl rfl ?_
         have he : mE Ls = 1 := mE_1 (List.getElem_mem hil) (by rw [hds]; exact fun h => hnl (h.get (i := k - 1) (j := k) (by omega) (by omega)))
         rw [mD_no (by rw [he]; decide), he]
         exact ⟨⟨none, 0, rfl, World.ownsRow_nil _ _ _ _⟩, (hB.next D18)⟩
       with_reducible replace Q19 := bn_f Q19
       have hlt : sLt (SM.G Dz ds (k - 1)).1 (SM.G Dz ds k).1 := (sLt_dec _ _).1 (by simpa using Q19)
       refine cd_skip (nx_block (nx_then (cd_region ?_)))
       refine mvi rfl ?_
       refine st_val (ro_addN (b := 1) rfl rfl (by omega)) ?_
       refine asi rfl ?_
       refine st_nil ?_
       refine nx_cut (k + 1) ⟨(by first | rfl | (refine int_eq ?_; omega)), trivial⟩ (by (iterate 40 refine agr_cons rfl ?_); exact agr_rfl) ⟨?_, ?_⟩
       · exact ⟨by omega, fun x h1 h2 h3 => by
           rcases Nat.eq_or_lt_of_le (Nat.le_of_lt_succ h2) with e | e
           · subst e; exact hlt
           · exact hok x h1 e h3, (hB.next D18)⟩
       · show ds.length - (k + 1) < ds.length - k; omega
    with_reducible replace Q4 := of_decide_eq_false Q4
    have hsd : SD ds := SD.near fun x h1 h2 => hok x h1 (by omega) h2
    refine cd_exit ?_
    refine ex_then (ex_then (ex_block (nx_block (nx_then (cd_region ?_)))))
    refine st_val (ro_addN (b := 1) rfl rfl (by omega)) ?_
    refine mvi rfl ?_
    refine st_nil ?_
    refine nx_cut (i + 1) ⟨(by first | rfl | (refine int_eq ?_; omega)), trivial⟩ (by (iterate 59 refine agr_cons rfl ?_); exact agr_rfl) ⟨?_, ?_⟩
    · exact ⟨by omega, fun l hl => by
        rw [List.take_succ_eq_append_getElem hil, List.mem_append, List.mem_singleton, hds] at hl
        rcases hl with e | e
        · exact hsd0 l e
        · rw [e]; exact hsd, hB⟩
    · show n - (i + 1) < n - i; omega
  with_reducible replace Q2 := of_decide_eq_false Q2
  have hall : ∀ l ∈ Ls, SD l := fun l hl => hsd l (by rw [List.take_of_length_le (by omega)]; exact hl)
  refine cd_exit ?_
  refine ex_then (ex_then (ex_block (nx_then (cd_seq (cd_region ?_)))))
  refine mvs rfl ?_
  have hz35 := (hB).size
  obtain ⟨b5, hb5⟩ : ∃ b, b = (w1).heap.size := ⟨_, rfl⟩
  refine st_call TrMerge_k16 (concat_rt A c n Ls _ (hr.from_ hB) hn hl hf) ?_
  rintro v35 w20 ⟨⟨A35, c35, rfl, ho35⟩, E35⟩
  have hz35b := E35.size
  rw [← hb5] at ho35 hz35 hz35b
  refine ass rfl ?_
  refine st_nil (nx_then (cd_seq (cd_region ?_)))
  refine mvs rfl ?_
  refine st_call TrMerge_k17 (sortS_rt _ A35 c35 Ls.flatten.length Ls.flatten _ ho35 hz35b hf rfl) ?_
  rintro v37 w21 ⟨zs, hoz, hGz, hPz, hSz⟩
  have hzl := hPz.len
  refine st_nil (nx_then (cd_seq (cd_seq (cd_region ?_))))
  refine asi rfl ?_
  refine st_nil (nx_then (cd_block ?_))
  refine cd_loop (G := Nat) [2, 3, 38, 39, 40, 41, 42, 43, 44, 45, 46, 47, 48, 49, 50, 51, 52, 53, 54, 55] (fun k => [(8, .int .i64 (k : Nat))]) (fun k w' => 1 ≤ k ∧ (∀ x, 0 < x → x < k → x < zs.length → (SM.G Dz zs (x - 1)).1 ≠ (SM.G Dz zs x).1) ∧ w'.ownsRow b5 43 2 (.slice A35 Ls.flatten.length c35) Ls.flatten.length (List.flatMap dV zs) ∧ From w w') (fun k => Ls.flatten.length - k) (1) ⟨rfl, trivial⟩ ?_ ?_
  · exact ⟨Nat.le_refl _, fun x h1 h2 => absurd h1 (by omega), hoz, (((hB.next E35)).grew hGz (fun k hk => Nat.le_trans hz35 (own_at ho35 k hk).1))⟩
  rintro k ρ22 w22 ⟨hk1, hok, hoz, hB⟩
  refine cd_seq (cd_seq (cd_region ?_))
  refine mvi rfl ?_
  refine mvs rfl ?_
  refine st_val (ro_len TrMerge_l27 rfl) ?_
  refine st_val (ro_lss rfl rfl) ?_
  refine st_nil (nx_then ?_)
  refine cd_cond rfl (fun Q23 => ?_) (fun Q23 => ?_)
  · with_reducible replace Q23 := of_decide_eq_true Q23
    obtain ⟨g, rfl⟩ := own_some hoz (by omega)
    refine cd_skip (nx_then (cd_seq (cd_block (cd_seq ?_))))
    apply cd_drawnD 12 [(44, eqp _), (45, eqp _), (46, eqp _), (47, eqp _), (48, eqp _), (49, eqp (.string (SM.G Dz zs (k - 1)).1)), (50, eqp _), (51, eqp _), (52, eqp _), (53, eqp _), (54, eqp (.string (SM.G Dz zs k).1)), (55, eqp _)] (by repeat first | exact pq_body | refine pq_then ?_ | refine pq_block ?_) (by kernel_rfl) (by kernel_rfl) ⟨eqp_mono _, eqp_mono _, eqp_mono _, eqp_mono _, eqp_mono _, eqp_mono _, eqp_mono _, eqp_mono _, eqp_mono _, eqp_mono _, eqp_mono _, eqp_mono _, trivial⟩
    case hop =>
     refine ⟨?_, ?_⟩
     · rintro - w25 D25
       show OpOK _ _ _ _ _ _ _
       exact ok_pure (ro_move (v := .slice _ _ _) rfl) rfl
     refine ⟨?_, ?_⟩
     · rintro - w26 D26
       show OpOK _ _ _ _ _ _ _
       exact ok_pure (ro_move (v := .int _ _) rfl) rfl
     refine ⟨?_, ?_⟩
     · rintro - w27 D27
       rintro _ rfl
       show OpOK _ _ _ _ _ _ _
       exact ok_pure (ro_subN (b := 1) rfl rfl (by omega)) rfl
     refine ⟨?_, ?_⟩
     · rintro - w28 D28
       rintro _ rfl _ rfl
       show OpOK _ _ _ _ _ _ _
       exact ok_pure (ro_indexAddrN TrMerge_e27 rfl rfl (by omega)) rfl
     refine ⟨?_, ?_⟩
     · rintro - w29 D29
       rintro _ rfl
       show OpOK _ _ _ _ _ _ _
       exact ok_pure (ro_fieldAddr TrMerge_f43_0 rfl) rfl
     refine ⟨?_, ?_⟩
     · rintro - w30 D30
       rintro _ rfl
       show OpOK _ _ _ _ _ _ _
       exact ok_pure (ro_load (v := .string (SM.G Dz zs (k - 1)).1) TrMerge_g9 rfl (own_rd dV_len Dz (hoz.kept_from D30) (i := k - 1) (by omega) 0 _ rfl)) rfl
     refine ⟨?_, ?_⟩
     · rintro - w31 D31
       show OpOK _ _ _ _ _ _ _
       exact ok_pure (ro_move (v := .slice _ _ _) rfl) rfl
     refine ⟨?_, ?_⟩
     · rintro - w32 D32
       show OpOK _ _ _ _ _ _ _
       exact ok_pure (ro_move (v := .int _ _) rfl) rfl
     refine ⟨?_, ?_⟩
     · rintro - w33 D33
       rintro _ rfl _ rfl
       show OpOK _ _ _ _ _ _ _
       exact ok_pure (ro_indexAddrN TrMerge_e27 rfl rfl (by omega)) rfl
     refine ⟨?_, ?_⟩
     · rintro - w34 D34
       rintro _ rfl
       show OpOK _ _ _ _ _ _ _
       exact ok_pure (ro_fieldAddr TrMerge_f43_0 rfl) rfl
     refine ⟨?_, ?_⟩
     · rintro - w35 D35
       rintro _ rfl
       show OpOK _ _ _ _ _ _ _
       exact ok_pure (ro_load (v := .string (SM.G Dz zs k).1) TrMerge_g9 rfl (own_rd dV_len Dz (hoz.kept_from D35) (i := k) (by omega) 0 _ rfl)) rfl
     refine ⟨?_, ?_⟩
     · rintro - w36 D36
       rintro v36_49 rfl v36_54 rfl
       show OpOK _ _ _ _ _ _ _
       exact ok_pure (ro_eqlS rfl rfl) rfl
     exact trivial
    case hend =>
     intro w37 D37
     rintro _ rfl _ rfl _ rfl _ rfl _ rfl v49 rfl _ rfl _ rfl _ rfl _ rfl v54 rfl _ rfl
     show St _ _ _ _ _ _ _
     replace hoz := hoz.kept_from D37
     refine st_nil (nx_then ?_)
     refine cd_cond rfl (fun Q38 => ?_) (fun Q38 => ?_)
     · with_reducible replace Q38 := be_t Q38
       have heq : (SM.G Dz zs (k - 1)).1 = (SM.G Dz zs k).1 := by first | exact str_inj Q38 | exact str_eq.1 Q38
       refine cd_seq (cd_region ?_)
       refine ass rfl ?_
       refine asi rfl ?_
       refine st_nil (nx_then (cd_ret (rt_block (rt_then (rt_then (rt_block (rt_then ?_)))))))
       refine res2 (v := .slice _ _ _) (v' := .int _ _) rfl rfl rfl ?_
       have he : mE Ls = 4 := mE_4 hall (fun h => Dif.not (i := k - 1) (j := k) (by omega) (by rw [hzl]; omega) heq (h.perm hPz.perm.symm))
       rw [mD_no (by rw [he]; decide), he]
       exact ⟨⟨none, 0, rfl, World.ownsRow_nil _ _ _ _⟩, (hB.next D37)⟩
     with_reducible replace Q38 := be_f Q38
     have hne : (SM.G Dz zs (k - 1)).1 ≠ (SM.G Dz zs k).1 := fun e => by have := str_eq.2 e; simp_all
     refine cd_skip (nx_block (nx_then (cd_region ?_)))
     refine mvi rfl ?_
     refine st_val (ro_addN (b := 1) rfl rfl (by omega)) ?_
     refine asi rfl ?_
     refine st_nil ?_
     refine nx_cut (k + 1) ⟨(by first | rfl | (refine int_eq ?_; omega)), trivial⟩ (by (iterate 40 refine agr_cons rfl ?_); exact agr_rfl) ⟨?_, ?_⟩
     · exact ⟨by omega, fun x h1 h2 h3 => by
         rcases Nat.eq_or_lt_of_le (Nat.le_of_lt_succ h2) with e | e
         · subst e; exact hne
         · exact hok x h1 e h3, hoz, (hB.next D37)⟩
     · show Ls.flatten.length - (k + 1) < Ls.flatten.length - k; omega
  with_reducible replace Q23 := of_decide_eq_false Q23
  refine cd_exit ?_
  refine ex_then (ex_then (ex_block (nx_then (cd_seq (cd_region ?_)))))
  refine mvs rfl ?_
  refine ass rfl ?_
  refine asi rfl ?_
  refine st_nil (nx_then (cd_ret ?_))
  refine res2 (v := .slice _ _ _) (v' := .int _ _) rfl rfl rfl ?_
  obtain ⟨e1, e2⟩ := mD_ok hall (SD.of_srt (by rw [hzl]; exact hSz) (fun x h1 h2 => hok x h1 (by omega) h2)) hPz.perm
  rw [e1, e2]
  exact ⟨⟨A35, c35, by rw [hzl], by rw [hzl]; exact own_le hoz hz35⟩, hB⟩
end Go.Proofs.Ytllpcjdljgmilaa

namespace Go.Proofs.Ytllpcjdljgmilaa
open Go.RowKit
theorem toList_iff {a b : ByteArray} : a.toList = b.toList ↔ a = b := ⟨str_inj, fun h => by rw [h]⟩
theorem eqDc (a b : Dc) (w : World) : (Op.equalIn 10000 43 (.agg (dV a).toArray) (.agg (dV b).toArray)).run Try.prog w = .ok (decide (a = b)) w := by
  have u9 := Try.underlying9
  have a9 := Try.isAgg9
  have z9 := Try.sizeOf9
  have hS : Try.prog.underlying 43 = some (.struct (Try.prog.fieldsOf 43)) := by kernel_rfl
  have hp : Try.prog.stoodInHeld 43 = false := by kernel_rfl
  obtain ⟨a1, a2⟩ := a
  obtain ⟨b1, b2⟩ := b
  show (Op.equalIn 10000 43 (.agg #[.string a1, .string a2]) (.agg #[.string b1, .string b2])).run Try.prog w = _
  rw [show (10000 : Nat) = 9999 + 1 from rfl, run_equalIn_agg w 9999 43 _ _ hS hp]
  simp only [Program.fieldsOf, Try.underlying43 ]
  go_simp
  simp only [toList_iff]
  by_cases h1 : a1 = b1 <;> by_cases h2 : a2 = b2 <;> simp [h1, h2]
section
variable {ρ : Operand → Value} {w : World} {yt : TypeId} {x y : Operand}
theorem ro_neqDc {a b : Dc} (hx : ρ x = .agg (dV a).toArray) (hy : ρ y = .agg (dV b).toArray) : RO Try.prog ρ (.binOp .neq 43 x y yt) w (.bool (!decide (a = b))) w := by
  refine ro_bin hx hy (run_eqGuard_agg w _ _ _ _ _ _ (by kernel_rfl)) ?_
  rw [run_neq_struct, eqDc]
  rfl
end
end Go.Proofs.Ytllpcjdljgmilaa

namespace Go.Proofs.Ytllpcjdljgmilaa
open Go.RowKit Go.ChangeShapes Go.WideShapes Go.ChangeAt
section
variable {P : Program} {ρ : Operand → Value} {x : Operand} {t : TypeId} {s : ByteArray} {w : World}
end
/-- the places in one text, as far as it is looked at -/
def ksTo (t q : List Nat) (k : Nat) : List Nat := (List.range k).filter fun i => q.isPrefixOf (t.drop i)
/-! ### arguments -/
abbrev docT : Ty := .pr .str (.pr .str .unit)
def Small (s : ByteArray) : Prop := s.size ≤ 140737488351232
end Go.Proofs.Ytllpcjdljgmilaa

namespace Go.Proofs.Ytllpcjdljgmilaa
open Go.RowKit

def valI (i : Int) : Value := .int .i64 i

def cls (n : Int) : Nat := if n < 1 then 0 else Lib.bitLen n.toNat
set_option maxHeartbeats 400000 in
theorem class_any (n : Int) (w : World) (h : n ≤ 9223372036854775807) :
    Calls Try.prog 14 #[.int .i64 n] w fun e w' => e = .returned (.int .i64 (cls n : Nat)) ∧ w = w' := by
  by_cases h1 : n < 1
  · go_enter Try.func14, Try.ntmps14
    go_wp2
    go_ret
    exact ⟨by unfold cls; rw [if_pos h1]; rfl, rfl⟩
  · have h0 : 1 ≤ n := by omega
    go_enter Try.func14, Try.ntmps14
    go_wp2_with (go_at_call 20; (with_reducible refine (Go.Proofs.Try.bits_Len _ _ (by omega) (by omega)).mono ?_); rintro e w1 ⟨rfl, rfl⟩)
    go_ret
    exact ⟨by unfold cls; rw [if_neg (by omega)]; rfl, rfl⟩

/-- four of one class from i on -/
def win (cs : List Nat) (i : Nat) : Bool := decide (i + 4 ≤ cs.length) && (cs.getD (i + 1) 0 == cs.getD i 0) && (cs.getD (i + 2) 0 == cs.getD i 0) && (cs.getD (i + 3) 0 == cs.getD i 0)
def planAux (cs : List Nat) : Nat → Nat → Nat × Bool
  | 0, _ => (0, false)
  | f + 1, i => if win cs i then (i, true) else planAux cs f (i + 1)
def plan (cs : List Nat) : Nat × Bool := planAux cs cs.length 0
theorem win_lt {cs : List Nat} {i : Nat} (h : win cs i = true) : i + 4 ≤ cs.length := by
  simp only [win, Bool.and_eq_true, decide_eq_true_eq] at h
  exact h.1.1.1
theorem planAux_yes {cs : List Nat} {k : Nat} (hk : win cs k = true) : ∀ f i, i ≤ k → k < i + f → (∀ j, i ≤ j → j < k → win cs j = false) → planAux cs f i = (k, true)
  | 0, i, h1, h2, _ => by omega
  | f + 1, i, h1, h2, hn => by
    simp only [planAux]
    by_cases e : i = k
    · subst e
      rw [if_pos hk]
    · rw [if_neg (by rw [hn i (Nat.le_refl _) (by omega)]; decide)]
      exact planAux_yes hk f (i + 1) (by omega) (by omega) fun j h3 h4 => hn j (by omega) h4
theorem plan_yes {cs : List Nat} {k : Nat} (hk : win cs k = true) (hn : ∀ j, j < k → win cs j = false) : plan cs = (k, true) :=
  planAux_yes hk _ 0 (Nat.zero_le _) (by have := win_lt hk; omega) fun j _ h => hn j h
theorem planAux_no {cs : List Nat} : ∀ f i, (∀ j, i ≤ j → win cs j = false) → planAux cs f i = (0, false)
  | 0, _, _ => rfl
  | f + 1, i, hn => by
    simp only [planAux]
    rw [if_neg (by rw [hn i (Nat.le_refl _)]; decide)]
    exact planAux_no f (i + 1) fun j h => hn j (by omega)
theorem plan_no {cs : List Nat} (hn : ∀ j, j + 4 ≤ cs.length → win cs j = false) : plan cs = (0, false) :=
  planAux_no _ 0 fun j _ => by
    by_cases h : j + 4 ≤ cs.length
    · exact hn j h
    · simp [win, h]

/-- the run that ends at j (of s sizes), behind j sizes; no four so far -/
def Run (cs : List Nat) (j s : Nat) : Prop :=
  s ≤ 3 ∧ s ≤ j ∧ (0 < j → 0 < s) ∧ (∀ t, t < s → cs.getD (j - 1 - t) 0 = cs.getD (j - 1) 0) ∧ (s < j → cs.getD (j - 1 - s) 0 ≠ cs.getD (j - 1) 0) ∧ ∀ i, i + 4 ≤ j → win cs i = false
theorem run_zero (cs : List Nat) : Run cs 0 0 := ⟨by omega, by omega, by omega, fun t h => by omega, by omega, fun i h => by omega⟩
theorem run_new {cs : List Nat} {j s : Nat} (h : Run cs j s) (hj : 0 < j) (hne : cs.getD j 0 ≠ cs.getD (j - 1) 0) : Run cs (j + 1) 1 := by
  obtain ⟨h1, h2, h3, h4, h5, h6⟩ := h
  refine ⟨by omega, by omega, by omega, fun t ht => ?_, fun _ => ?_, fun i hi => ?_⟩
  · obtain rfl : t = 0 := by omega
    rfl
  · simpa using Ne.symm hne
  · by_cases e : i + 4 ≤ j
    · exact h6 i e
    · obtain rfl : j = i + 3 := by omega
      have : i + 3 - 1 = i + 2 := by omega
      rw [this] at hne
      simp only [win, Bool.and_eq_false_iff, beq_eq_false_iff_ne]
      by_cases e2 : cs.getD (i + 2) 0 = cs.getD i 0
      · right; rw [← e2]; exact hne
      · left; right; exact e2
theorem run_more {cs : List Nat} {j s : Nat} (h : Run cs j s) (hj : j = 0 ∨ cs.getD j 0 = cs.getD (j - 1) 0) (hs : s + 1 ≤ 3) : Run cs (j + 1) (s + 1) := by
  obtain ⟨h1, h2, h3, h4, h5, h6⟩ := h
  have e0 : j + 1 - 1 = j := by omega
  refine ⟨by omega, by omega, by omega, fun t ht => ?_, fun hlt => ?_, fun i hi => ?_⟩
  · rw [e0]
    cases t with
    | zero => rfl
    | succ t =>
      have := h4 t (by omega)
      have e1 : j - (t + 1) = j - 1 - t := by omega
      rw [e1, this]
      rcases hj with rfl | hj
      · omega
      · exact hj.symm
  · rw [e0]
    have e1 : j - (s + 1) = j - 1 - s := by omega
    rw [e1]
    rcases hj with rfl | hj
    · omega
    · rw [hj]; exact h5 (by omega)
  · by_cases e : i + 4 ≤ j
    · exact h6 i e
    · obtain rfl : j = i + 3 := by omega
      have hs' : s < i + 3 := by omega
      have hne := h5 hs'
      rcases hj with hj | hj
      · omega
      · refine Bool.eq_false_iff.2 fun hw => ?_
        simp only [win, Bool.and_eq_true, beq_iff_eq] at hw
        obtain ⟨⟨⟨_, w1⟩, w2⟩, w3⟩ := hw
        have hs2 : s = 0 ∨ s = 1 ∨ s = 2 := by omega
        have f1 : i + 3 - 1 - 0 = i + 2 := by omega
        have f2 : i + 3 - 1 - 1 = i + 1 := by omega
        have f3 : i + 3 - 1 - 2 = i := by omega
        have f4 : i + 3 - 1 = i + 2 := by omega
        rcases hs2 with rfl | rfl | rfl
        · have := h3 (by omega); omega
        · rw [f2, f4] at hne; exact hne (by rw [w1, w2])
        · rw [f3, f4] at hne; exact hne (by rw [w2])
theorem run_full {cs : List Nat} {j : Nat} (h : Run cs j 3) (hj : cs.getD j 0 = cs.getD (j - 1) 0) (hlt : j < cs.length) : plan cs = (j - 3, true) := by
  obtain ⟨h1, h2, h3, h4, h5, h6⟩ := h
  refine plan_yes ?_ fun i hi => h6 i (by omega)
  have a0 := h4 0 (by omega)
  have a1 := h4 1 (by omega)
  have a2 := h4 2 (by omega)
  have e1 : j - 3 + 1 = j - 1 - 1 := by omega
  have e2 : j - 3 + 2 = j - 1 - 0 := by omega
  have e3 : j - 3 + 3 = j := by omega
  have e4 : j - 3 = j - 1 - 2 := by omega
  simp only [win, Bool.and_eq_true, beq_iff_eq, decide_eq_true_eq]
  refine ⟨⟨⟨by omega, ?_⟩, ?_⟩, ?_⟩
  · rw [e1, a1, e4, a2]
  · rw [e2, a0, e4, a2]
  · rw [e3, hj, e4, a2]
theorem run_end {cs : List Nat} {s : Nat} (h : Run cs cs.length s) : plan cs = (0, false) := plan_no h.2.2.2.2.2
end Go.Proofs.Ytllpcjdljgmilaa

namespace Go.Proofs.Ytllpcjdljgmilaa
open Go.RowKit

def Fit (xs : List Int) : Prop := ∀ x ∈ xs, -9223372036854775808 ≤ x ∧ x ≤ 9223372036854775807
theorem getD_map (xs : List Int) (j : Nat) (h : j < xs.length) : (xs.map cls).getD j 0 = cls (xs[j]) := by
  simp [List.getD, List.getElem?_eq_getElem h]

/-- the integers that a slice value reads as, by index -/
theorem row_ints {w : World} {v : Value} {xs : List Int} (hr : Row w v (xs.map valI)) : ∃ A cap, v = .slice A xs.length cap ∧
    (0 < xs.length → ∃ b o, A = some ⟨b, o, none⟩ ∧ b < w.heap.size ∧ ∀ i (h : i < xs.length), w.cell? ⟨b, o + i, none⟩ = some (.int .i64 xs[i])) := by
  obtain ⟨A, cap, rfl, hp⟩ := hr
  rw [List.length_map] at hp ⊢
  refine ⟨A, cap, rfl, fun h0 => ?_⟩
  obtain ⟨b, o, hA, hb, hc⟩ := hp h0
  refine ⟨b, o, hA, hb, fun i hi => hc i _ ?_⟩
  rw [List.getElem?_map, List.getElem?_eq_getElem hi]
  rfl

theorem ret_ib {a b : Int} {c : Bool} (h : a = b) : Ending.returned (.tuple #[.int .i64 a, .bool c]) = .returned (.tuple #[.int .i64 b, .bool c]) := by rw [h]

def PlanRel (w : World) (xs : List Int) (s i : Value) (wr : World) : Prop :=
  ∃ (j m : Nat), j ≤ xs.length ∧ i = .int .i64 j ∧ s = .int .i64 m ∧ Run (xs.map cls) j m ∧ From w wr

set_option maxHeartbeats 1000000 in
theorem plan_any (v : Value) (xs : List Int) (w : World) (hr : Row w v (xs.map valI)) (hf : Fit xs) (hlen : xs.length ≤ 1000000000000) :
    Calls Try.prog 13 #[v] w fun e w' => e = .returned (.tuple #[.int .i64 ((plan (xs.map cls)).1 : Nat), .bool (plan (xs.map cls)).2]) ∧ From w w' := by
  obtain ⟨A, cap, rfl, hrow⟩ := row_ints hr
  go_enter Try.func13, Try.ntmps13
  go_wp2
  go_loopw [4, 9] (PlanRel w xs) (fun _ i _ => xs.length - (intOf i).toNat)
  case atStart => exact ⟨0, 0, by omega, rfl, rfl, run_zero _, From.rfl_⟩
  case round =>
    obtain ⟨j, m, hj, rfl, rfl, hrun, hw⟩ := hrel
    have hm3 := hrun.1
    have hmj := hrun.2.1
    by_cases hlt : j < xs.length
    · obtain ⟨b, o, rfl, hb, hc⟩ := hrow (by omega)
      have d1 : ∀ w', From w w' → w'.cell? ⟨b, o + j, none⟩ = some (.int .i64 xs[j]) := fun w' h => (h.cells b (o + j) hb).trans (hc j hlt)
      have f1 := (hf _ (List.getElem_mem hlt)).2
      have g1 := getD_map xs j hlt
      by_cases hz : j = 0
      · have hm0 : m = 0 := by omega
        have hnew := run_more hrun (.inl hz) (by omega)
        have HN := Lib.hid hnew
        have hd : decide (0 < j) = false := by simp; omega
        have hm1 : (m : Int) + 1 ≤ 3 := by omega
        have i1 : (0 : Int) ≤ (j : Int) := by omega
        have i2 : (j : Int) < (xs.length : Int) := by omega
        have h4 : ((m : Int) + 1 == 4) = false := by simp; omega
        clear hrun hc hrow hnew g1 hr hf hz hm0
        generalize xs[j] = x1 at *
        go_wp2_with fail
        go_quiet (fail)
        go_wp2
        go_roundw
        case rel => exact ⟨j + 1, m + 1, by omega, by go_num, by go_num, HN.out, From.dn (by assumption) _⟩
        case measure => simp [intOf]; omega
      · obtain ⟨q, hq1⟩ : ∃ q, j = q + 1 := ⟨j - 1, by omega⟩
        have hq : q < xs.length := by omega
        have d2 : ∀ w', From w w' → w'.cell? ⟨b, o + q, none⟩ = some (.int .i64 xs[q]) := fun w' h => (h.cells b (o + q) hb).trans (hc q hq)
        have f2 := (hf _ (List.getElem_mem hq)).2
        have g2 := getD_map xs q hq
        have eq1 : j - 1 = q := by omega
        have HQ := Lib.hid hq1
        have hs1 : IntKind.i64.wrap ((j : Int) - 1) = (q : Int) := by rw [IntKind.wrap_i64]; omega
        have i1 : (0 : Int) ≤ (q : Int) := by omega
        have i2 : (q : Int) < (xs.length : Int) := by omega
        have i3 : decide (0 < j) = true := by simp; omega
        clear hz
        by_cases hsame : cls (xs[j]) = cls (xs[q])
        · have hne : ((cls (xs[j]) : Int) != (cls (xs[q]) : Int)) = false := by simp; omega
          by_cases h3 : m = 3
          · subst h3
            have hpl := run_full hrun (by rw [eq1, g1, g2]; exact hsame) (by simpa using hlt)
            have HP := Lib.hid hpl
            clear hrun hc hrow hpl g1 g2 hr hf hsame eq1 hq1
            generalize xs[j] = x1 at *
            generalize xs[q] = x2 at *
            go_wp2_with fail
            go_region_held3 (fun w' => From w w')
              (first | assumption | exact From.d1 (by assumption) | exact From.dn (by assumption) _ | exact From.next (by assumption) (by assumption))
              (first | (go_at_call 14; refine (class_any _ _ (by omega)).mono ?_; rintro e w1 ⟨rfl, rfl⟩))
            go_wp2
            go_ret2
            exact ⟨by rw [HP.out]; exact ret_ib (show (j : Int) + 1 - 4 = ((j - 3 : Nat) : Int) by omega), by assumption⟩
          · have hnew := run_more hrun (.inr (by rw [eq1, g1, g2]; exact hsame)) (by omega)
            have HN := Lib.hid hnew
            have h4 : ((m : Int) + 1 == 4) = false := by simp; omega
            have hm1 : (m : Int) + 1 ≤ 3 := by omega
            clear hrun hc hrow hnew g1 g2 hr hf hsame eq1 hq1
            generalize xs[j] = x1 at *
            generalize xs[q] = x2 at *
            go_wp2_with fail
            go_region_held3 (fun w' => From w w')
              (first | assumption | exact From.d1 (by assumption) | exact From.dn (by assumption) _ | exact From.next (by assumption) (by assumption))
              (first | (go_at_call 14; refine (class_any _ _ (by omega)).mono ?_; rintro e w1 ⟨rfl, rfl⟩))
            go_wp2
            go_roundw
            case rel => exact ⟨j + 1, m + 1, by omega, by go_num, by go_num, HN.out, by assumption⟩
            case measure => simp [intOf]; omega
        · have hnew := run_new hrun (by omega) (by rw [eq1, g1, g2]; exact hsame)
          have HN := Lib.hid hnew
          have hne : ((cls (xs[j]) : Int) != (cls (xs[q]) : Int)) = true := by simp; omega
          clear hrun hc hrow hnew g1 g2 hr hf hsame eq1 hq1
          generalize xs[j] = x1 at *
          generalize xs[q] = x2 at *
          go_wp2_with fail
          go_region_held3 (fun w' => From w w')
            (first | assumption | exact From.d1 (by assumption) | exact From.dn (by assumption) _ | exact From.next (by assumption) (by assumption))
            (first | (go_at_call 14; refine (class_any _ _ (by omega)).mono ?_; rintro e w1 ⟨rfl, rfl⟩))
          go_wp2
          go_roundw
          case rel => exact ⟨j + 1, 1, by omega, by go_num, by go_num, HN.out, by assumption⟩
          case measure => simp [intOf]; omega
    · obtain rfl : j = xs.length := by omega
      have hpl := run_end (cs := xs.map cls) (by simpa using hrun)
      have HP := Lib.hid hpl
      clear hpl hrun
      go_wp2
      go_ret2
      exact ⟨by rw [HP.out]; rfl, hw⟩

/-- the first t behind i are of i's class -/
def sm (cs : List Nat) (i : Nat) : Nat → Bool
  | 0 => true
  | t + 1 => sm cs i t && (cs.getD (i + (t + 1)) 0 == cs.getD i 0)
theorem sm_win {cs : List Nat} {i : Nat} (h : i + 4 ≤ cs.length) : sm cs i 3 = win cs i := by
  simp [sm, win, h]

def RefRel (w : World) (xs : List Int) (i : Value) (wr : World) : Prop :=
  ∃ j : Nat, j ≤ xs.length ∧ i = .int .i64 j ∧ (∀ q, q < j → win (xs.map cls) q = false) ∧ From w wr
def RefRel2 (w : World) (cs : List Nat) (i : Nat) (s k : Value) (wr : World) : Prop :=
  ∃ t : Nat, t ≤ 3 ∧ k = .int .i64 ((t : Int) + 1) ∧ s = .bool (sm cs i t) ∧ From w wr

end Go.Proofs.Ytllpcjdljgmilaa

namespace Go.Proofs.Ytllpcjdljgmilaa
open Go.RowKit
open Go.ChangeShapes Go.WideShapes Go.ChangeAt
theorem TrHelp_e27 : elemQ Try.prog 27 = some (43, 2) := by kernel_rfl
theorem TrHelp_g9 : aggQ Try.prog 9 = some false := by kernel_rfl
theorem TrHelp_l27 : (elemQ Try.prog 27).isSome = true := by kernel_rfl
theorem TrHelp_g43 : aggQ Try.prog 43 = some true := by kernel_rfl
theorem TrHelp_z43 : sizeQ Try.prog 43 = some 2 := by kernel_rfl
theorem TrHelp_f43_0 : fieldQ Try.prog 43 0 = some 0 := by kernel_rfl
theorem TrHelp_f43_1 : fieldQ Try.prog 43 1 = some 1 := by kernel_rfl
theorem TrHelp_f25_1 : fieldQ Try.prog 25 1 = some 1 := by kernel_rfl
theorem TrHelp_g23 : aggQ Try.prog 23 = some false := by kernel_rfl
theorem TrHelp_l23 : (elemQ Try.prog 23).isSome = true := by kernel_rfl
theorem TrHelp_f25_0 : fieldQ Try.prog 25 0 = some 0 := by kernel_rfl
theorem TrHelp_g22 : aggQ Try.prog 22 = some false := by kernel_rfl
theorem TrHelp_l22 : (elemQ Try.prog 22).isSome = true := by kernel_rfl
theorem TrHelp_e22 : elemQ Try.prog 22 = some (27, 1) := by kernel_rfl
theorem TrHelp_g27 : aggQ Try.prog 27 = some false := by kernel_rfl
theorem TrHelp_k15 : callable Try.prog 15 = true := by kernel_rfl
theorem eq_ge {α : Type} {a b : List α} {k : Nat} (hl : a.length = b.length) (hk : ¬ k < a.length) (h : a.take k = b.take k) : a = b := by
  rw [List.take_of_length_le (by omega), List.take_of_length_le (by omega)] at h
  exact h
theorem take_eq {α : Type} {a b : List α} {k : Nat} (ha : k < a.length) (hb : k < b.length) (h : a.take k = b.take k) (he : a[k] = b[k]) : a.take (k + 1) = b.take (k + 1) := by
  rw [List.take_succ_eq_append_getElem ha, List.take_succ_eq_append_getElem hb, h, he]
set_option maxHeartbeats 400000 in
theorem eqDocs_rt (A B : Option Addr) (ca cb n m : Nat) (a b : List Dc) (w : World) (ha : RowK 2 dV w A a) (hb : RowK 2 dV w B b) (hn : n = a.length) (hm : m = b.length) (hl : n ≤ 100000000) :
    Rt Try.prog 10 [.slice A n ca, .slice B m cb] w (fun v w' => v = .bool (decide (a = b)) ∧ From w w') := by
  refine enter (n := 26) Try.func10 rfl rfl rfl ?_
  refine cd_seq (cd_region ?_)
  refine asb rfl ?_
  refine st_nil (nx_then (cd_seq (cd_seq (cd_region ?_))))
  refine mvs rfl ?_
  refine st_val (ro_len TrHelp_l27 rfl) ?_
  refine mvs rfl ?_
  refine st_val (ro_len TrHelp_l27 rfl) ?_
  refine st_val (ro_neq rfl rfl) ?_
  refine st_nil (nx_then ?_)
  refine cd_cond rfl (fun Q1 => ?_) (fun Q1 => ?_)
  · with_reducible replace Q1 := bx_t Q1
    refine cd_seq (cd_region ?_)
    refine asb rfl ?_
    refine st_nil (nx_then (cd_ret (rt_then ?_)))
    refine res1 (v := .bool _) rfl rfl ?_
    exact ⟨by rw [decide_eq_false]; rintro rfl; omega, From.rfl_⟩
  with_reducible replace Q1 := bx_f Q1
  refine cd_skip (nx_then (cd_seq (cd_seq (cd_region ?_))))
  refine asi rfl ?_
  refine st_nil (nx_then (cd_block ?_))
  refine cd_loop (G := Nat) [4, 11, 12, 13, 14, 15, 16, 17, 18, 19, 20, 21, 22, 23, 24, 25] (fun k => [(5, .int .i64 (k : Nat))]) (fun k w' => k ≤ n ∧ a.take k = b.take k ∧ From w w') (fun k => n - k) (0) ⟨rfl, trivial⟩ ?_ ?_
  · exact ⟨Nat.zero_le _, rfl, From.rfl_⟩
  rintro k ρ2 w2 ⟨hk, ht, hB⟩
  refine cd_seq (cd_seq (cd_region ?_))
  refine mvi rfl ?_
  refine mvs rfl ?_
  refine st_val (ro_len TrHelp_l27 rfl) ?_
  refine st_val (ro_lss rfl rfl) ?_
  refine st_nil (nx_then ?_)
  refine cd_cond rfl (fun Q3 => ?_) (fun Q3 => ?_)
  · with_reducible replace Q3 := of_decide_eq_true Q3
    obtain ⟨ba, oa, rfl, hca⟩ := ha (by omega)
    obtain ⟨bb, ob, rfl, hcb⟩ := hb (by omega)
    refine cd_skip (nx_then (cd_seq (cd_block (cd_seq ?_))))
    apply cd_drawnD 9 [(17, eqp _), (18, eqp _), (19, eqp _), (20, eqp (.agg (dV a[k]).toArray)), (21, eqp _), (22, eqp _), (23, eqp _), (24, eqp (.agg (dV b[k]).toArray)), (25, eqp _)] (by repeat first | exact pq_body | refine pq_then ?_ | refine pq_block ?_) (by kernel_rfl) (by kernel_rfl) ⟨eqp_mono _, eqp_mono _, eqp_mono _, eqp_mono _, eqp_mono _, eqp_mono _, eqp_mono _, eqp_mono _, eqp_mono _, trivial⟩
    case hop =>
     refine ⟨?_, ?_⟩
     · rintro - w5 D5
       show OpOK _ _ _ _ _ _ _
       exact ok_pure (ro_move (v := .slice _ _ _) rfl) rfl
     refine ⟨?_, ?_⟩
     · rintro - w6 D6
       show OpOK _ _ _ _ _ _ _
       exact ok_pure (ro_move (v := .int _ _) rfl) rfl
     refine ⟨?_, ?_⟩
     · rintro - w7 D7
       rintro _ rfl _ rfl
       show OpOK _ _ _ _ _ _ _
       exact ok_pure (ro_indexAddrN TrHelp_e27 rfl rfl (by omega)) rfl
     refine ⟨?_, ?_⟩
     · rintro - w8 D8
       rintro _ rfl
       show OpOK _ _ _ _ _ _ _
       exact ok_pure (ro_loadA (cs := dV a[k]) TrHelp_g43 TrHelp_z43 rfl (rangeF (hB.next D8) (hca k (by omega)))) rfl
     refine ⟨?_, ?_⟩
     · rintro - w9 D9
       show OpOK _ _ _ _ _ _ _
       exact ok_pure (ro_move (v := .slice _ _ _) rfl) rfl
     refine ⟨?_, ?_⟩
     · rintro - w10 D10
       show OpOK _ _ _ _ _ _ _
       exact ok_pure (ro_move (v := .int _ _) rfl) rfl
     refine ⟨?_, ?_⟩
     · rintro - w11 D11
       rintro _ rfl _ rfl
       show OpOK _ _ _ _ _ _ _
       exact ok_pure (ro_indexAddrN TrHelp_e27 rfl rfl (by omega)) rfl
     refine ⟨?_, ?_⟩
     · rintro - w12 D12
       rintro _ rfl
       show OpOK _ _ _ _ _ _ _
       exact ok_pure (ro_loadA (cs := dV b[k]) TrHelp_g43 TrHelp_z43 rfl (rangeF (hB.next D12) (hcb k (by omega)))) rfl
     refine ⟨?_, ?_⟩
     · rintro - w13 D13
       rintro v13_20 rfl v13_24 rfl
       show OpOK _ _ _ _ _ _ _
       exact ok_pure (ro_neqDc rfl rfl) rfl
     exact trivial
    case hend =>
     intro w14 D14
     rintro _ rfl _ rfl _ rfl v20 rfl _ rfl _ rfl _ rfl v24 rfl _ rfl
     show St _ _ _ _ _ _ _
     refine st_nil (nx_then ?_)
     refine cd_cond rfl (fun Q15 => ?_) (fun Q15 => ?_)
     · with_reducible (replace Q15 := bn_t Q15; replace Q15 := of_decide_eq_false Q15)
       have hne : ¬ a[k] = b[k] := by simpa using Q15
       refine cd_seq (cd_region ?_)
       refine asb rfl ?_
       refine st_nil (nx_then (cd_ret (rt_block (rt_then (rt_then (rt_block (rt_then ?_)))))))
       refine res1 (v := .bool _) rfl rfl ?_
       exact ⟨by rw [decide_eq_false]; rintro rfl; exact hne rfl, (hB.next D14)⟩
     with_reducible (replace Q15 := bn_f Q15; replace Q15 := of_decide_eq_true Q15)
     have heq : a[k] = b[k] := by simpa using Q15
     refine cd_skip (nx_block (nx_then (cd_region ?_)))
     refine mvi rfl ?_
     refine st_val (ro_addN (b := 1) rfl rfl (by omega)) ?_
     refine asi rfl ?_
     refine st_nil ?_
     refine nx_cut (k + 1) ⟨(by first | rfl | (refine int_eq ?_; omega)), trivial⟩ (by (iterate 33 refine agr_cons rfl ?_); exact agr_rfl) ⟨?_, ?_⟩
     · exact ⟨by omega, take_eq (by omega) (by omega) ht heq, (hB.next D14)⟩
     · show n - (k + 1) < n - k; omega
  with_reducible replace Q3 := of_decide_eq_false Q3
  refine cd_exit ?_
  refine ex_then (ex_then (ex_block (nx_then (cd_seq (cd_region ?_)))))
  refine asb rfl ?_
  refine st_nil (nx_then (cd_ret ?_))
  refine res1 (v := .bool _) rfl rfl ?_
  exact ⟨by rw [decide_eq_true (eq_ge (by omega) (by omega) ht)], hB⟩
theorem eqDocs_same (A B : Option Addr) (ca cb n m : Nat) (a : List Dc) (w : World) (ha : RowK 2 dV w A a) (hb : RowK 2 dV w B a) (hn : n = a.length) (hm : m = a.length) (hl : n ≤ 100000000) : Rt Try.prog 10 [.slice A n ca, .slice B m cb] w fun v w' => v = .bool true ∧ From w w' :=
  (eqDocs_rt A B ca cb n m a a w ha hb hn hm hl).mono fun v w' h => ⟨h.1.trans (congrArg Value.bool (decide_eq_true rfl)), h.2⟩
theorem at_docss {w : World} {c : Nat → Option Value} {xs : List (List (ByteArray × ByteArray × Unit))} (h : (Ty.sl (.sl docT)).At w c xs) : ∃ (A : Option Addr) (cap : Nat) (Ls : List (List Dc)), c 0 = some (.slice A Ls.length cap) ∧ RowLL w A Ls ∧ (∀ l ∈ Ls, ∀ d ∈ l, Small d.1 ∧ Small d.2) ∧ (∀ l ∈ Ls, l.length * 32 ≤ 140737488351232) ∧ Ls.length * 24 ≤ 140737488351232 := by
  obtain ⟨A, cap, h0, h1, h2, h3⟩ := h
  have hl : (List.map (List.map (fun x : ByteArray × ByteArray × Unit => ((x.1, x.2.1) : Dc))) xs).length = List.length xs := List.length_map _
  have key : ∀ i (hi : i < List.length xs), ∃ b o, A = some ⟨b, o, none⟩ ∧ ∃ Ai ci, w.cell? ⟨b, o + i, none⟩ = some (.slice Ai (List.map (fun x : ByteArray × ByteArray × Unit => ((x.1, x.2.1) : Dc)) xs[i]).length ci) ∧ RowK 2 dV w Ai (List.map (fun x : ByteArray × ByteArray × Unit => ((x.1, x.2.1) : Dc)) xs[i]) ∧ (Ai = none → ci = 0) ∧ (∀ d ∈ List.map (fun x : ByteArray × ByteArray × Unit => ((x.1, x.2.1) : Dc)) xs[i], Small d.1 ∧ Small d.2) ∧ (List.map (fun x : ByteArray × ByteArray × Unit => ((x.1, x.2.1) : Dc)) xs[i]).length * 32 ≤ 140737488351232 := by
    intro i hi
    obtain ⟨b, o, hA, _, hh⟩ := h3 (Nat.lt_of_le_of_lt (Nat.zero_le _) hi)
    obtain ⟨Ai, ci, h4, h5, h6, h7⟩ := hh i _ (List.getElem?_eq_getElem hi)
    have h9 : (Ty.sl docT).At w (fun j => w.cell? ⟨b, o + i * (Ty.sl docT).size + j, none⟩) xs[i] := ⟨Ai, ci, h4, h5, h6, h7⟩
    have hm : (List.map (fun x : ByteArray × ByteArray × Unit => ((x.1, x.2.1) : Dc)) xs[i]).length = List.length xs[i] := List.length_map _
    have h4' : w.cell? ⟨b, o + i, none⟩ = some (.slice Ai (List.length xs[i]) ci) := by have h8 := h4; simp only [Ty.size, Nat.mul_one, Nat.add_zero] at h8; exact h8
    refine ⟨b, o, hA, Ai, ci, by rw [hm]; exact h4', fun hp => ?_, h6.2.2, fun d hd => ?_, by rw [hm]; exact h5⟩
    · rw [hm] at hp
      obtain ⟨b2, o2, hA2, _, hi2⟩ := h7 hp
      refine ⟨b2, o2, hA2, fun k hlt => ?_⟩
      have hlt2 : k < List.length xs[i] := by rwa [hm] at hlt
      obtain ⟨⟨c1, _⟩, ⟨c2, _⟩, _⟩ := hi2 k _ (List.getElem?_eq_getElem hlt2)
      rw [List.getElem_map]
      intro j v hv
      match j, hv with
      | 0, hv => simp [dV] at hv; subst hv; simpa [Ty.size] using c1
      | 1, hv => simp [dV] at hv; subst hv; simpa [Ty.size] using c2
      | j + 2, hv => simp [dV] at hv
    · obtain ⟨x, hx, rfl⟩ := List.mem_map.1 hd
      obtain ⟨k, hk, rfl⟩ := List.getElem_of_mem hx
      obtain ⟨b2, o2, hA2, _, hh2⟩ := h7 (Nat.lt_of_le_of_lt (Nat.zero_le _) hk)
      obtain ⟨⟨_, c1⟩, ⟨_, c2⟩, _⟩ := hh2 k _ (List.getElem?_eq_getElem hk)
      exact ⟨c1, c2⟩
  refine ⟨A, cap, _, by rw [hl]; exact h0, fun hp => ?_, fun l hx d hd => ?_, fun l hx => ?_, by rw [hl]; exact h1⟩
  · rw [hl] at hp
    obtain ⟨b, o, hA, _⟩ := h3 hp
    refine ⟨b, o, hA, fun i hlt => ?_⟩
    have hlt2 : i < List.length xs := by rwa [hl] at hlt
    obtain ⟨b', o', hA', Ai, ci, k1, k2, k3, _⟩ := key i hlt2
    rw [hA] at hA'; cases hA'
    rw [List.getElem_map]
    exact ⟨Ai, ci, k1, k2, k3⟩
  · obtain ⟨x, hx2, rfl⟩ := List.mem_map.1 hx
    obtain ⟨i, hi, rfl⟩ := List.getElem_of_mem hx2
    obtain ⟨_, _, _, _, _, _, _, _, k4, _⟩ := key i hi
    exact k4 d hd
  · obtain ⟨x, hx2, rfl⟩ := List.mem_map.1 hx
    obtain ⟨i, hi, rfl⟩ := List.getElem_of_mem hx2
    obtain ⟨_, _, _, _, _, _, _, _, _, k5⟩ := key i hi
    exact k5
structure AskT (w : World) (A B : Option Addr) (Ls : List (List Dc)) (is : List Int) : Prop where
  row : RowLL w A Ls
  sm : ∀ l ∈ Ls, ∀ d ∈ l, Small d.1 ∧ Small d.2
  lens : ∀ l ∈ Ls, l.length * 32 ≤ 140737488351232
  len : Ls.length * 24 ≤ 140737488351232
  rowI : RowOf iV w B is
  fit : Fit is
  lenI : is.length * 8 ≤ 140737488351232
theorem AskT.from_ {w w' : World} {A B : Option Addr} {Ls : List (List Dc)} {is : List Int} (h : AskT w A B Ls is) (hF : From w w') : AskT w' A B Ls is := ⟨h.row.from_ hF, h.sm, h.lens, h.len, h.rowI.from_ hF, h.fit, h.lenI⟩
theorem ask_of12 {w : World} {cs : Array Value} {x : (Ty.pr (Ty.sl (.sl docT)) (.pr (.sl (.int .i64)) .unit)).den} (hs : cs.size = 2) (h : (Ty.pr (Ty.sl (.sl docT)) (.pr (.sl (.int .i64)) .unit)).At w (fun j => cs[j]?) x) :
    ∃ (A B : Option Addr) (ca cb : Nat) (Ls : List (List Dc)) (is : List Int), cs = #[.slice A Ls.length ca, .slice B is.length cb] ∧ AskT w A B Ls is := by
  obtain ⟨h1, h2, _⟩ := h
  obtain ⟨A, ca, Ls, a0, a1, a2, a3, a4⟩ := at_docss h1
  obtain ⟨B, cb, b0, b1, b2, b3, _⟩ := at_nums h2
  have e0 : cs[0]? = some _ := a0
  have e1 : cs[1]? = some _ := b0
  refine ⟨A, B, ca, cb, Ls, x.2.1, ?_, ⟨a1, a2, a3, a4, b1, b2, b3⟩⟩
  obtain ⟨l⟩ := cs
  match l, hs with
  | [a, b], _ =>
    simp only [List.getElem?_toArray, List.getElem?_cons_zero, List.getElem?_cons_succ, Option.some.injEq] at e0 e1
    rw [e0, e1]
theorem row_of_rowOf {w : World} {B : Option Addr} {is : List Int} {c : Nat} (h : RowOf iV w B is) : Row w (.slice B is.length c) (is.map valI) := by
  refine ⟨B, c, by rw [List.length_map], fun h0 => ?_⟩
  rw [List.length_map] at h0
  obtain ⟨b, o, e, hc⟩ := h h0
  refine ⟨b, o, e, World.block_lt_of_cell? w ⟨b, o + 0, none⟩ (hc 0 h0), fun i u hu => ?_⟩
  rw [List.getElem?_map] at hu
  obtain ⟨hi, he⟩ : ∃ hi : i < is.length, valI is[i] = u := by
    rcases Nat.lt_or_ge i is.length with hlt | hge
    · rw [List.getElem?_eq_getElem hlt] at hu
      exact ⟨hlt, by simpa using hu⟩
    · rw [List.getElem?_eq_none hge] at hu; cases hu
  rw [← he]
  exact hc i hi
theorem plan_rt (B : Option Addr) (c n : Nat) (is : List Int) (w : World) (hr : RowOf iV w B is) (hn : n = is.length) (hf : Fit is) (hl : is.length ≤ 1000000000000) : Rt Try.prog 13 [.slice B n c] w fun v w' => v = .tuple #[.int .i64 ((plan (is.map cls)).1 : Nat), .bool (plan (is.map cls)).2] ∧ From w w' := by
  subst hn
  exact Rt.of (plan_any _ is w (row_of_rowOf hr) hf hl)
theorem wakes (w : World) :
    Calls Try.prog 12 #[] w fun e w' => e = .returned (.bool true) ∧ From w w' := by
  have hp : plan ([9, 1, 1, 1, 1].map cls) = (1, true) := by decide +kernel
  have H := Lib.hid hp
  have hfit : Fit [9, 1, 1, 1, 1] := by unfold Fit; decide
  clear hp
  go_enter Try.func12, Try.ntmps12
  go_wp2_with (first
    | (go_at_call 13; refine (plan_any _ [9, 1, 1, 1, 1] _ (Row.blk (cs := #[.int .i64 9, .int .i64 1, .int .i64 1, .int .i64 1, .int .i64 1]) (Blk.new _ _ _) 5) hfit (by simp)).mono ?_; rw [H.out]; rintro e w1 ⟨rfl, hb1⟩))
  go_ret
  exact ⟨rfl, (From.rfl_.new _).next hb1⟩
theorem wakes_rt (w : World) : Rt Try.prog 12 [] w fun v w' => v = .bool true ∧ From w w' := Rt.of (wakes w)
set_option maxHeartbeats 400000 in
theorem docW_rt (A : Option Addr) (c n : Nat) (ds : List Dc) (w : World) (hr : RowK 2 dV w A ds) (hn : n = ds.length) (hl : n ≤ 10000000000000) (hs : ∀ d ∈ ds, Small d.1 ∧ Small d.2) :
    Rt Try.prog 15 [.slice A n c] w (fun v w' => (∃ m : Nat, v = .int .i64 (m : Nat) ∧ n ≤ m ∧ m ≤ 1000000000000000) ∧ From w w') := by
  refine enter (n := 33) Try.func15 rfl rfl rfl ?_
  refine cd_seq (cd_region ?_)
  refine asi rfl ?_
  refine st_nil (nx_then (cd_seq (cd_region ?_)))
  refine mvs rfl ?_
  refine st_val (ro_len TrHelp_l27 rfl) ?_
  refine asi rfl ?_
  refine st_nil (nx_then (cd_seq (cd_seq (cd_region ?_))))
  refine asi rfl ?_
  refine st_nil (nx_then (cd_block ?_))
  refine cd_loop (G := Nat × Nat) [7, 8, 9, 10, 11, 12, 13, 14, 15, 16, 17, 18, 19, 20, 21, 22, 23, 24, 25, 26, 27, 28, 29, 30, 31] (fun (m, i) => [(3, .int .i64 (m : Nat)), (4, .int .i64 (i : Nat))]) (fun (m, i) w' => i ≤ n ∧ n ≤ m ∧ m ≤ 1000000000000000 ∧ From w w') (fun (_, i) => n - i) ((n, 0)) ⟨rfl, rfl, trivial⟩ ?_ ?_
  · exact ⟨Nat.zero_le _, Nat.le_refl _, by omega, From.rfl_⟩
  rintro ⟨m, i⟩ ρ1 w1 ⟨hi, hnm, hmb, hB⟩
  refine cd_seq (cd_seq (cd_region ?_))
  refine mvi rfl ?_
  refine mvs rfl ?_
  refine st_val (ro_len TrHelp_l27 rfl) ?_
  refine st_val (ro_lss rfl rfl) ?_
  refine mvb rfl ?_
  refine st_split (t := 11) rfl (fun Q2 => ?_) (fun Q2 => ?_)
  · with_reducible replace Q2 := of_decide_eq_true Q2
    refine st_unguard rfl ?_
    refine mvi rfl ?_
    refine st_unguard rfl ?_
    refine st_val (ro_lss rfl rfl) ?_
    refine st_val (ro_pickT (v := .bool _) rfl rfl) ?_
    refine st_nil (nx_then ?_)
    refine cd_cond rfl (fun Q3 => ?_) (fun Q3 => ?_)
    · with_reducible replace Q3 := of_decide_eq_true Q3
      obtain ⟨bd, od, rfl, hcd⟩ := hr (by omega)
      have hil : i < ds.length := by omega
      have hce : w.rangeAt bd (od + i * 2) (dV (SM.G Dz ds i)) := by rw [G_d0 hil]; exact hcd i hil
      obtain ⟨hz1, hz2⟩ : (SM.G Dz ds i).1.size ≤ 140737488351232 ∧ (SM.G Dz ds i).2.size ≤ 140737488351232 := by rw [G_d0 hil]; exact hs _ (List.getElem_mem hil)
      refine cd_skip (nx_then (cd_seq (cd_block ?_)))
      apply cd_drawnD 16 [(17, eqp _), (18, eqp _), (19, eqp _), (20, eqp _), (21, eqp _), (22, eqp (.string (SM.G Dz ds i).1)), (23, eqp _), (24, eqp _), (25, eqp _), (26, eqp _), (27, eqp _), (28, eqp _), (29, eqp (.string (SM.G Dz ds i).2)), (30, eqp _), (31, eqp _), (3, eqp _)] (by repeat first | exact pq_body | refine pq_then ?_ | refine pq_block ?_) (by kernel_rfl) (by kernel_rfl) ⟨eqp_mono _, eqp_mono _, eqp_mono _, eqp_mono _, eqp_mono _, eqp_mono _, eqp_mono _, eqp_mono _, eqp_mono _, eqp_mono _, eqp_mono _, eqp_mono _, eqp_mono _, eqp_mono _, eqp_mono _, eqp_mono _, trivial⟩
      case hop =>
       refine ⟨?_, ?_⟩
       · rintro - w5 D5
         show OpOK _ _ _ _ _ _ _
         exact ok_pure (ro_move (v := .int _ _) rfl) rfl
       refine ⟨?_, ?_⟩
       · rintro - w6 D6
         show OpOK _ _ _ _ _ _ _
         exact ok_pure (ro_move (v := .slice _ _ _) rfl) rfl
       refine ⟨?_, ?_⟩
       · rintro - w7 D7
         show OpOK _ _ _ _ _ _ _
         exact ok_pure (ro_move (v := .int _ _) rfl) rfl
       refine ⟨?_, ?_⟩
       · rintro - w8 D8
         rintro _ rfl _ rfl
         show OpOK _ _ _ _ _ _ _
         exact ok_pure (ro_indexAddrN TrHelp_e27 rfl rfl (by omega)) rfl
       refine ⟨?_, ?_⟩
       · rintro - w9 D9
         rintro _ rfl
         show OpOK _ _ _ _ _ _ _
         exact ok_pure (ro_fieldAddr TrHelp_f43_0 rfl) rfl
       refine ⟨?_, ?_⟩
       · rintro - w10 D10
         rintro _ rfl
         show OpOK _ _ _ _ _ _ _
         exact ok_pure (ro_load (v := .string (SM.G Dz ds i).1) TrHelp_g9 rfl (cellF (hB.next D10) (hce 0 _ rfl))) rfl
       refine ⟨?_, ?_⟩
       · rintro - w11 D11
         rintro v11_22 rfl
         show OpOK _ _ _ _ _ _ _
         exact ok_pure (ro_lenS (by kernel_rfl) rfl) rfl
       refine ⟨?_, ?_⟩
       · rintro - w12 D12
         rintro _ rfl _ rfl
         show OpOK _ _ _ _ _ _ _
         exact ok_pure (ro_addN rfl rfl (by omega)) rfl
       refine ⟨?_, ?_⟩
       · rintro - w13 D13
         show OpOK _ _ _ _ _ _ _
         exact ok_pure (ro_move (v := .slice _ _ _) rfl) rfl
       refine ⟨?_, ?_⟩
       · rintro - w14 D14
         show OpOK _ _ _ _ _ _ _
         exact ok_pure (ro_move (v := .int _ _) rfl) rfl
       refine ⟨?_, ?_⟩
       · rintro - w15 D15
         rintro _ rfl _ rfl
         show OpOK _ _ _ _ _ _ _
         exact ok_pure (ro_indexAddrN TrHelp_e27 rfl rfl (by omega)) rfl
       refine ⟨?_, ?_⟩
       · rintro - w16 D16
         rintro _ rfl
         show OpOK _ _ _ _ _ _ _
         exact ok_pure (ro_fieldAddr TrHelp_f43_1 rfl) rfl
       refine ⟨?_, ?_⟩
       · rintro - w17 D17
         rintro _ rfl
         show OpOK _ _ _ _ _ _ _
         exact ok_pure (ro_load (v := .string (SM.G Dz ds i).2) TrHelp_g9 rfl (cellF (hB.next D17) (hce 1 _ rfl))) rfl
       refine ⟨?_, ?_⟩
       · rintro - w18 D18
         rintro v18_29 rfl
         show OpOK _ _ _ _ _ _ _
         exact ok_pure (ro_lenS (by kernel_rfl) rfl) rfl
       refine ⟨?_, ?_⟩
       · rintro - w19 D19
         rintro _ rfl _ rfl
         show OpOK _ _ _ _ _ _ _
         exact ok_pure (ro_addN rfl rfl (by omega)) rfl
       refine ⟨?_, ?_⟩
       · rintro - w20 D20
         rintro _ rfl
         show OpOK _ _ _ _ _ _ _
         exact ok_pure (ro_assign (v := .int _ _) rfl) rfl
       exact trivial
      case hend =>
       intro w21 D21
       rintro _ rfl _ rfl _ rfl _ rfl _ rfl v22 rfl _ rfl _ rfl _ rfl _ rfl _ rfl _ rfl v29 rfl _ rfl _ rfl _ rfl
       show St _ _ _ _ _ _ _
       refine st_nil (nx_block (nx_then (cd_region ?_)))
       refine mvi rfl ?_
       refine st_val (ro_addN (b := 1) rfl rfl (by omega)) ?_
       refine asi rfl ?_
       refine st_nil ?_
       refine nx_cut ((m + (SM.G Dz ds i).1.size + (SM.G Dz ds i).2.size, i + 1)) ⟨(by first | rfl | (refine int_eq ?_; omega)), (by first | rfl | (refine int_eq ?_; omega)), trivial⟩ (by (iterate 55 refine agr_cons rfl ?_); exact agr_rfl) ⟨?_, ?_⟩
       · exact ⟨by omega, by omega, by omega, (hB.next D21)⟩
       · show n - (i + 1) < n - i; omega
    with_reducible replace Q3 := of_decide_eq_false Q3
    refine cd_exit ?_
    refine ex_then (ex_then (ex_block (nx_then (cd_seq (cd_region ?_)))))
    refine mvi rfl ?_
    refine asi rfl ?_
    refine st_nil (nx_then (cd_ret ?_))
    refine res1 (v := .int _ _) rfl rfl ?_
    exact ⟨⟨m, rfl, hnm, hmb⟩, hB⟩
  with_reducible replace Q2 := of_decide_eq_false Q2
  refine st_gno rfl rfl ?_
  refine st_gno rfl rfl ?_
  refine st_val (ro_pickF (v := .bool _) rfl rfl) ?_
  refine st_nil (nx_then ?_)
  refine cd_condF rfl ?_
  refine cd_exit ?_
  refine ex_then (ex_then (ex_block (nx_then (cd_seq (cd_region ?_)))))
  refine mvi rfl ?_
  refine asi rfl ?_
  refine st_nil (nx_then (cd_ret ?_))
  refine res1 (v := .int _ _) rfl rfl ?_
  exact ⟨⟨m, rfl, hnm, hmb⟩, hB⟩
set_option maxHeartbeats 400000 in
theorem num_any (e : Int) (w : World) :
    Rt Try.prog 9 [.int .i64 e] w (fun v w' => v = .int .i64 e ∧ w = w') := by
  refine enter (n := 4) Try.func9 rfl rfl rfl ?_
  refine cd_seq (cd_region ?_)
  refine asi rfl ?_
  refine st_nil (nx_then (cd_seq (cd_region ?_)))
  refine mvi rfl ?_
  refine asi rfl ?_
  refine st_nil (nx_then (cd_ret ?_))
  refine res1 (v := .int _ _) rfl rfl ?_
  exact ⟨rfl, rfl⟩
set_option maxHeartbeats 2000000 in
theorem heavy_rt (A B : Option Addr) (ca cb : Nat) (Ls : List (List Dc)) (is : List Int) (w : World) (ha : AskT w A B Ls is) :
    Rt Try.prog 5 [.agg #[.slice A Ls.length ca, .slice B is.length cb]] w (fun v w' => (∃ h : Bool, v = .bool h ∧ (h = false → Ls.length ≤ 60 ∧ is.length ≤ 5000 ∧ Ls.flatten.length ≤ 5000)) ∧ From w w') := by
  have hl1 := ha.len
  have hl2 := ha.lenI
  refine enter (n := 35) Try.func5 rfl rfl rfl ?_
  refine cd_seq (cd_region ?_)
  refine st_box (v := .agg _) rfl ?_
  intro b1 w1 E1 hb1 hk1
  refine asb rfl ?_
  refine st_nil (nx_then (cd_seq (cd_region ?_)))
  refine st_val (ro_fieldAddr TrHelp_f25_1 rfl) ?_
  refine st_val (ro_load TrHelp_g23 rfl (by exact (hk1.from_ From.rfl_).rd 1 rfl)) ?_
  refine st_val (ro_len TrHelp_l23 rfl) ?_
  refine asi rfl ?_
  refine st_nil (nx_then (cd_seq (cd_seq (cd_region ?_))))
  refine asi rfl ?_
  refine st_nil (nx_then (cd_block ?_))
  refine cd_loop (G := Nat × Nat) [8, 9, 10, 11, 12, 13, 14, 15, 16, 17, 18, 19, 20, 21, 22, 23, 24, 25, 26] (fun (m, i) => [(3, .int .i64 (m : Nat)), (4, .int .i64 (i : Nat))]) (fun (m, i) w' => i ≤ Ls.length ∧ is.length + (Ls.take i).flatten.length ≤ m ∧ m ≤ 10000000000000000 ∧ Blk w' b1 25 #[.slice A Ls.length ca, .slice B is.length cb] ∧ From w w') (fun (_, i) => Ls.length - i) ((is.length, 0)) ⟨rfl, rfl, trivial⟩ ?_ ?_
  · exact ⟨Nat.zero_le _, by simp, by omega, hk1.from_ From.rfl_, (From.rfl_.next E1)⟩
  rintro ⟨m, i⟩ ρ2 w2 ⟨hi, hm, hmb, hP1, hB⟩
  refine cd_seq (cd_seq (cd_region ?_))
  refine mvi rfl ?_
  refine st_val (ro_fieldAddr TrHelp_f25_0 rfl) ?_
  refine st_val (ro_load TrHelp_g22 rfl (by exact (hP1.from_ From.rfl_).rd 0 rfl)) ?_
  refine st_val (ro_len TrHelp_l22 rfl) ?_
  refine st_val (ro_lss rfl rfl) ?_
  refine mvb rfl ?_
  refine st_split (t := 13) rfl (fun Q3 => ?_) (fun Q3 => ?_)
  · with_reducible replace Q3 := of_decide_eq_true Q3
    refine st_unguard rfl ?_
    refine mvi rfl ?_
    refine st_unguard rfl ?_
    refine st_val (ro_lss rfl rfl) ?_
    refine st_val (ro_pickT (v := .bool _) rfl rfl) ?_
    refine st_nil (nx_then ?_)
    refine cd_cond rfl (fun Q4 => ?_) (fun Q4 => ?_)
    · with_reducible replace Q4 := of_decide_eq_true Q4
      obtain ⟨bL, oL, rfl, hcs⟩ := ha.row (by omega)
      have hil : i < Ls.length := by omega
      obtain ⟨Ai, ci, hci, hri, hni⟩ := hcs i hil
      have hfl := fl_len hil
      have hlenS := ha.lens _ (List.getElem_mem hil)
      have hsmS := ha.sm _ (List.getElem_mem hil)
      refine cd_skip (nx_then (cd_seq (cd_block (cd_region ?_))))
      refine mvi rfl ?_
      refine st_val (ro_fieldAddr TrHelp_f25_0 rfl) ?_
      refine st_val (ro_load TrHelp_g22 rfl (by exact (hP1.from_ From.rfl_).rd 0 rfl)) ?_
      refine mvi rfl ?_
      refine st_val (ro_indexAddr1 TrHelp_e22 rfl rfl (by omega)) ?_
      refine st_val (ro_load TrHelp_g27 rfl (by exact cellF hB hci)) ?_
      refine st_call TrHelp_k15 (docW_rt Ai ci Ls[i].length Ls[i] _ (hri.from_ hB) rfl (by omega) hsmS) ?_
      rintro v25 w5 ⟨⟨m25, rfl, hm25, hm25b⟩, E25⟩
      refine st_val (ro_addN rfl rfl (by omega)) ?_
      refine asi rfl ?_
      refine st_nil (nx_block (nx_then (cd_region ?_)))
      refine mvi rfl ?_
      refine st_val (ro_addN (b := 1) rfl rfl (by omega)) ?_
      refine asi rfl ?_
      refine st_nil ?_
      refine nx_cut ((m + m25, i + 1)) ⟨(by first | rfl | (refine int_eq ?_; omega)), (by first | rfl | (refine int_eq ?_; omega)), trivial⟩ (by (iterate 43 refine agr_cons rfl ?_); exact agr_rfl) ⟨?_, ?_⟩
      · exact ⟨by omega, by omega, by omega, hP1.from_ (From.rfl_.next E25), (hB.next E25)⟩
      · show Ls.length - (i + 1) < Ls.length - i; omega
    with_reducible replace Q4 := of_decide_eq_false Q4
    refine cd_exit ?_
    refine ex_then (ex_then (ex_block (nx_then (cd_seq (cd_region ?_)))))
    refine mvi rfl ?_
    refine st_val (ro_gtr rfl rfl) ?_
    refine mvb rfl ?_
    refine st_split (t := 29) rfl (fun Q6 => ?_) (fun Q6 => ?_)
    rotate_left
    · with_reducible replace Q6 := of_decide_eq_false Q6
      exfalso; omega
    with_reducible replace Q6 := of_decide_eq_true Q6
    refine st_gno rfl rfl ?_
    refine st_gno rfl rfl ?_
    refine st_gno rfl rfl ?_
    refine st_gno rfl rfl ?_
    refine st_val (ro_pickT (v := .bool _) rfl rfl) ?_
    refine asb rfl ?_
    refine st_nil (nx_then (cd_ret ?_))
    refine res1 (v := .bool _) rfl rfl ?_
    refine ⟨⟨_, rfl, fun h => ?_⟩, hB⟩
    first
      | (cases h; done)
      | (have hq := of_decide_eq_false h
         have hi9 : i = Ls.length := by omega
         rw [hi9, List.take_length] at hm
         omega)
  with_reducible replace Q3 := of_decide_eq_false Q3
  refine st_gno rfl rfl ?_
  refine st_gno rfl rfl ?_
  refine st_val (ro_pickF (v := .bool _) rfl rfl) ?_
  refine st_nil (nx_then ?_)
  refine cd_condF rfl ?_
  refine cd_exit ?_
  refine ex_then (ex_then (ex_block (nx_then (cd_seq (cd_region ?_)))))
  refine mvi rfl ?_
  refine st_val (ro_gtr rfl rfl) ?_
  refine mvb rfl ?_
  refine st_split (t := 29) rfl (fun Q7 => ?_) (fun Q7 => ?_)
  · with_reducible replace Q7 := of_decide_eq_true Q7
    refine st_gno rfl rfl ?_
    refine st_gno rfl rfl ?_
    refine st_gno rfl rfl ?_
    refine st_gno rfl rfl ?_
    refine st_val (ro_pickT (v := .bool _) rfl rfl) ?_
    refine asb rfl ?_
    refine st_nil (nx_then (cd_ret ?_))
    refine res1 (v := .bool _) rfl rfl ?_
    refine ⟨⟨_, rfl, fun h => ?_⟩, hB⟩
    first
      | (cases h; done)
      | (have hq := of_decide_eq_false h
         have hi9 : i = Ls.length := by omega
         rw [hi9, List.take_length] at hm
         omega)
  with_reducible replace Q7 := of_decide_eq_false Q7
  refine st_unguard rfl ?_
  refine st_val (ro_fieldAddr TrHelp_f25_0 rfl) ?_
  refine st_unguard rfl ?_
  refine st_val (ro_load TrHelp_g22 rfl (by exact (hP1.from_ From.rfl_).rd 0 rfl)) ?_
  refine st_unguard rfl ?_
  refine st_val (ro_len TrHelp_l22 rfl) ?_
  refine st_unguard rfl ?_
  refine st_val (ro_gtr rfl rfl) ?_
  refine st_val (ro_pickF (v := .bool _) rfl rfl) ?_
  refine asb rfl ?_
  refine st_nil (nx_then (cd_ret ?_))
  refine res1 (v := .bool _) rfl rfl ?_
  refine ⟨⟨_, rfl, fun h => ?_⟩, hB⟩
  first
    | (cases h; done)
    | (have hq := of_decide_eq_false h
       have hi9 : i = Ls.length := by omega
       rw [hi9, List.take_length] at hm
       omega)
end Go.Proofs.Ytllpcjdljgmilaa

namespace Go.Proofs.Ytllpcjdljgmilaa
open Go.RowKit

abbrev PT := List (Nat × Nat × ((Nat → Bool) → Value → World → Prop))
def InvP (L : List (Nat × Value)) (T : PT) (S : Nat → Bool) (L' : List (Nat × Value)) (w : World) : Prop :=
  (∀ t, (∀ p ∈ T, p.2.1 ≠ t) → look L' t = look L t) ∧ (∀ p ∈ T, S p.1 = true → p.2.2 S (look L' p.2.1) w) ∧ ∀ p ∈ T, S p.1 = false → look L' p.2.1 = look L p.2.1
def UniP : List (Nat × Nat) → Prop
  | [] => True
  | p :: r => (∀ q ∈ r, q.1 ≠ p.1 ∧ q.2 ≠ p.2) ∧ UniP r
def uniB : List (Nat × Nat) → Bool
  | [] => true
  | p :: r => (r.all fun q => !(Nat.beq q.1 p.1) && !(Nat.beq q.2 p.2)) && uniB r
/-- what is said of the slots stays, by an operation that only adds -/
def MonoP (Mu : List Nat) : PT → Prop
  | [] => True
  | p :: r => (∀ S i v w1 w2, Mu.elem i = false → From w1 w2 → p.2.2 S v w1 → p.2.2 (setB S i) v w2) ∧ MonoP Mu r
/-- what is said of the other slots stays, by this change -/
def ChP (i : Nat) (S : Nat → Bool) (w1 w2 : World) : PT → Prop
  | [] => True
  | p :: r => (Nat.beq p.1 i = false → S p.1 = true → ∀ v, p.2.2 S v w1 → p.2.2 (setB S i) v w2) ∧ ChP i S w1 w2 r
/-- the slots that an operation looks at, with their values -/
def AgrM (L' : List (Nat × Value)) : List (Nat × Value) → Prop
  | [] => True
  | (t, v) :: r => look L' t = v ∧ AgrM L' r
section
variable {P : Program} {Q : Exit → Act → World → Prop} {n : Fr} {L L' M : List (Nat × Value)} {w w' w'' : World} {l : List Oper} {T : PT} {Mem : (Nat → Bool) → World → Prop} {Mu : List Nat} {S : Nat → Bool} {op : Op} {ty : TypeId} {pos : String} {after : Array Edge} {i d : Nat} {v : Value} {R : (Nat → Bool) → Value → World → Prop}
abbrev StepJ (P : Program) (n : Fr) (L : List (Nat × Value)) (T : PT) (Mem : (Nat → Bool) → World → Prop) (S : Nat → Bool) (i : Nat) (o : Oper) (L' : List (Nat × Value)) (w' : World) : Prop := StepI P n o (fun L2 w2 => InvP L T (setB S i) L2 w2 ∧ Mem (setB S i) w2) L' w'
/-- for whatever values of the slots that fit -/
def AllP (S : Nat → Bool) (w : World) : PT → (List (Nat × Value) → Prop) → Prop
  | [], K => K []
  | p :: r, K => ∀ v, p.2.2 S v w → AllP S w r fun M => K ((p.2.1, v) :: M)
/-- what has run has all run that it waits for -/
def ClosedI (l : List Oper) (S : Nat → Bool) : Prop := ∀ j o, l[j]? = some o → S j = true → ∀ e ∈ o.after, Region.binds .any e = true → S e.on = true
def StepsP (P : Program) (n : Fr) (L : List (Nat × Value)) (T : PT) (Mu : List Nat) (Mem : (Nat → Bool) → World → Prop) (l : List Oper) : Nat → List Oper → Prop
  | _, [] => True
  | i, o :: r => (∀ S L' w', UniP (T.map fun p => (p.1, p.2.1)) → MonoP Mu T → (∀ S i w1 w2, Mu.elem i = false → From w1 w2 → Mem S w1 → Mem (setB S i) w2) → InvP L T S L' w' → Mem S w' → ClosedI l S → S i = false → EdgesOn S o.after.toList → StepJ P n L T Mem S i o L' w') ∧ StepsP P n L T Mu Mem l (i + 1) r
end
end Go.Proofs.Ytllpcjdljgmilaa

namespace Go.Proofs.Ytllpcjdljgmilaa
open Go.RowKit
open Go.ChangeShapes Go.WideShapes Go.ChangeAt
end Go.Proofs.Ytllpcjdljgmilaa

namespace Go.Proofs.Ytllpcjdljgmilaa
open Go.RowKit
open Go.ChangeShapes Go.WideShapes Go.ChangeAt
/-- copies of the first i lists lie there -/
def Cps (w : World) (Ls : List (List Dc)) (vs : List Value) : Prop := ∀ j, j < vs.length → ∃ Aj cj, vs[j]? = some (.slice Aj (Ls.getD j []).length cj) ∧ RowK 2 dV w Aj (Ls.getD j []) ∧ (Aj = none → cj = 0)
theorem Cps.from_ {w w' : World} {Ls : List (List Dc)} {vs : List Value} (h : Cps w Ls vs) (hF : From w w') : Cps w' Ls vs := fun j hj => by
  obtain ⟨Aj, cj, h1, h2, h3⟩ := h j hj
  exact ⟨Aj, cj, h1, h2.from_ hF, h3⟩
theorem Cps.snoc {w : World} {Ls : List (List Dc)} {vs : List Value} {i : Nat} {Ai : Option Addr} {ci : Nat} (h : Cps w Ls vs) (hi : vs.length = i) (hil : i < Ls.length) (hr : RowK 2 dV w Ai Ls[i]) (hn : Ai = none → ci = 0) : Cps w Ls (vs ++ [.slice Ai Ls[i].length ci]) := fun j hj => by
  rw [List.length_append, List.length_singleton] at hj
  rcases Nat.lt_or_ge j vs.length with e | e
  · obtain ⟨Aj, cj, h1, h2, h3⟩ := h j e
    exact ⟨Aj, cj, by rw [List.getElem?_append_left e]; exact h1, h2, h3⟩
  · obtain rfl : j = i := by omega
    have e2 : Ls.getD j [] = Ls[j] := by rw [List.getD_eq_getElem?_getD, List.getElem?_eq_getElem hil]; rfl
    rw [e2]
    exact ⟨Ai, ci, by rw [List.getElem?_append_right e, hi, Nat.sub_self]; rfl, hr, hn⟩
/-- copies of the first lists, in rows of their own -/
def CpsO (base : Nat) (w : World) (Ls : List (List Dc)) (vs : List Value) : Prop := ∀ j, j < vs.length → ∃ Aj cj, vs[j]? = some (.slice Aj (Ls.getD j []).length cj) ∧ w.ownsRow base 43 2 (.slice Aj (Ls.getD j []).length cj) (Ls.getD j []).length ((Ls.getD j []).flatMap dV)
theorem Cps.row {w : World} {base e c n : Nat} {A : Option Addr} {Ls : List (List Dc)} {vs : List Value} (h : Cps w Ls vs) (ho : w.ownsRow base e 1 (.slice A n c) n vs) (hn : n = Ls.length) : RowLL w A Ls := fun h0 => by
  have hl : vs.length = n := by have := ho.1; omega
  obtain ⟨g, rfl⟩ := own_some ho (by omega)
  refine ⟨g, 0, rfl, fun i hi => ?_⟩
  obtain ⟨Aj, cj, h1, h2, h3⟩ := h i (by omega)
  have e2 : Ls.getD i [] = Ls[i] := by rw [List.getD_eq_getElem?_getD, List.getElem?_eq_getElem hi]; rfl
  rw [e2] at h1 h2
  refine ⟨Aj, cj, ?_, h2, h3⟩
  rw [Nat.zero_add, ho.cellAt i (by omega)]
  exact h1
end Go.Proofs.Ytllpcjdljgmilaa
