/- suffix: Common, walked. -/
import Derived.Test.YtgihpoggeaanjaaSufComWalk
namespace Go.Proofs.Ytgihpoggeaanjaa
open Go.RowKit
open Go.ChangeShapes Go.WideShapes Go.ChangeAt
open Go.Proofs.Ytgihpoggeaanjaa.SA
theorem SufCom2_k18 : callable Try.prog 18 = true := by kernel_rfl
theorem SufCom2_l24 : (elemQ Try.prog 24).isSome = true := by kernel_rfl
theorem SufCom2_k19 : callable Try.prog 19 = true := by kernel_rfl
theorem SufCom2_k21 : callable Try.prog 21 = true := by kernel_rfl
theorem SufCom2_m24 : makeQ Try.prog 24 = some (3, 8, (.int .i64 0)) := by kernel_rfl
theorem SufCom2_e24 : elemQ Try.prog 24 = some (3, 1) := by kernel_rfl
theorem SufCom2_g3 : aggQ Try.prog 3 = some false := by kernel_rfl
theorem SufCom2_z3 : sizeQ Try.prog 3 = some 1 := by kernel_rfl
theorem agr_zero {L : List Nat} {i j : Nat} (h1 : i ≤ L.length) (h2 : j ≤ L.length) : agr L i j 0 := ⟨h1, h2, fun m h => absurd h (by omega)⟩
theorem rk_lt {L F : List Nat} (hS : IsSA L F) {i : Nat} (hi : i < L.length) : rkF L i - 1 < L.length := by
  have := (isSA_inv hS hi).2.1
  unfold rkF
  omega
theorem rk_lt1 {L F : List Nat} (hS : IsSA L F) {i : Nat} (hi : i < L.length) : rkF L i < L.length := (isSA_inv hS hi).2.1
theorem kasai_rk {L F : List Nat} (hS : IsSA L F) {i h : Nat} (hi : i + 1 < L.length) (h0 : 0 < rkF L i) (hag : agr L i (F.getD (rkF L i - 1) 0) h) (h2 : 0 < rkF L (i + 1)) : agr L (i + 1) (F.getD (rkF L (i + 1) - 1) 0) (h - 1) :=
  kasai_step hS hi (r := rkF L i) (r2 := rkF L (i + 1)) (by unfold rkF at h0 ⊢; omega) h0 hag (by unfold rkF at h2 ⊢; omega) h2
theorem bad_len {n m : Nat} {xs zs : List Int} (hn : n = xs.length) (hm : m = zs.length) (h : m ≠ n) : xs.all (okS 512) = false ∨ ∀ L F, xs = cI L → IsSA L F → zs ≠ cI F := .inr fun L F e1 e2 e3 => h (by
  have a := e2.len
  rw [hm, hn, e1, e3, List.length_map, List.length_map, a])
theorem bad_ne {L F : List Nat} {xs zs : List Int} (hx : xs = cI L) (hS : IsSA L F) (h : zs ≠ cI F) : xs.all (okS 512) = false ∨ ∀ L F, xs = cI L → IsSA L F → zs ≠ cI F := .inr fun L2 F2 e1 e2 e3 => h (by
  obtain rfl := cI_inj (e1.symm.trans hx)
  rw [e3, e2.uniq hS])
set_option maxRecDepth 100000 in
set_option maxHeartbeats 4000000 in
theorem common_rt (A B : Option Addr) (c cb n m : Nat) (xs zs : List Int) (w : World) (hr : RowOf iV w A xs) (hn : n = xs.length) (hb : RowOf iV w B zs) (hm : m = zs.length) (hl : n ≤ 131072) (hm2 : m ≤ 1000000) :
    Rt Try.prog 17 [.slice A n c, .slice B m cb] w (fun v w' => CommonA w' w.heap.size n xs zs v ∧ From w w') := by
  refine enter (n := 102) Try.func17 rfl rfl rfl ?_
  refine cd_seq ?_
  refine cd_region ?_
  refine st_val (ro_assign (v := .slice _ _ _) rfl) ?_
  refine st_val (ro_assign (v := .int _ _) rfl) ?_
  refine st_nil ?_
  refine nx_then ?_
  refine cd_seq ?_
  refine cd_seq ?_
  refine cd_region ?_
  refine st_val (ro_move (v := .slice _ _ _) rfl) ?_
  refine st_call SufCom2_k18 (symbols_rt A c n xs _ (hr.from_ From.rfl_) hn (by omega)) ?_
  rintro v15 w1 ⟨rfl, E15⟩
  refine st_val (ro_not rfl) ?_
  refine st_val (ro_move (v := .bool _) rfl) ?_
  refine st_split (t := 17) rfl (fun Q2 => ?_) (fun Q2 => ?_)
  · (try with_reducible first | replace Q2 := of_decide_eq_true Q2 | replace Q2 := of_decide_eq_false Q2 | replace Q2 := bn_t Q2 | replace Q2 := bn_f Q2)
    (try with_reducible first | replace Q2 := of_decide_eq_true Q2 | replace Q2 := of_decide_eq_false Q2 | replace Q2 := bx_t Q2 | replace Q2 := bx_f Q2 | replace Q2 := be_t Q2 | replace Q2 := be_f Q2)
    have hbad : xs.all (okS 512) = false ∨ ∀ L F, xs = cI L → IsSA L F → zs ≠ cI F := .inl (by simpa using Q2)
    first
     | (exfalso; first | omega | contradiction | (cases Q2; done))
     | skip
       refine st_gno rfl rfl ?_
       refine st_gno rfl rfl ?_
       refine st_gno rfl rfl ?_
       refine st_val (ro_pickT (v := .bool _) rfl rfl) ?_
       refine st_val (ro_move (v := .bool _) rfl) ?_
       refine st_gno rfl rfl ?_
       refine st_gno rfl rfl ?_
       refine st_gno rfl rfl ?_
       refine st_gno rfl rfl ?_
       refine st_gno rfl rfl ?_
       refine st_val (ro_pickT (v := .bool _) rfl rfl) ?_
       refine st_val (ro_move (v := .bool _) rfl) ?_
       refine st_gno rfl rfl ?_
       refine st_gno rfl rfl ?_
       refine st_gno rfl rfl ?_
       refine st_gno rfl rfl ?_
       refine st_gno rfl rfl ?_
       refine st_val (ro_pickT (v := .bool _) rfl rfl) ?_
       refine st_nil ?_
       refine nx_then ?_
       refine cd_condT rfl ?_
       refine cd_seq ?_
       refine cd_region ?_
       refine st_val (ro_assign (v := .slice _ _ _) rfl) ?_
       refine st_val (ro_assign (v := .int _ _) rfl) ?_
       refine st_nil ?_
       refine nx_then ?_
       refine cd_ret ?_
       refine rt_then ?_
       refine res2 (v := .slice _ _ _) (v' := .int _ _) rfl rfl rfl ?_
       exact ⟨.inr ⟨hbad, rfl⟩, (From.rfl_.next E15)⟩
  · (try with_reducible first | replace Q2 := of_decide_eq_true Q2 | replace Q2 := of_decide_eq_false Q2 | replace Q2 := bn_t Q2 | replace Q2 := bn_f Q2)
    (try with_reducible first | replace Q2 := of_decide_eq_true Q2 | replace Q2 := of_decide_eq_false Q2 | replace Q2 := bx_t Q2 | replace Q2 := bx_f Q2 | replace Q2 := be_t Q2 | replace Q2 := be_f Q2)
    obtain ⟨L, hxs, hL⟩ := nat_list (xs := xs) (by simpa using Q2)
    have hLn : n = L.length := by rw [hn, hxs, List.length_map]
    first
     | (exfalso; first | omega | contradiction | (cases Q2; done))
     | skip
       refine st_unguard rfl ?_
       refine st_val (ro_move (v := .slice _ _ _) rfl) ?_
       refine st_unguard rfl ?_
       refine st_val (ro_len SufCom2_l24 rfl) ?_
       refine st_unguard rfl ?_
       refine st_val (ro_gtr rfl rfl) ?_
       refine st_val (ro_pickF (v := .bool _) rfl rfl) ?_
       refine st_val (ro_move (v := .bool _) rfl) ?_
       refine st_split (t := 22) rfl (fun Q3 => ?_) (fun Q3 => ?_)
       · (try with_reducible first | replace Q3 := of_decide_eq_true Q3 | replace Q3 := of_decide_eq_false Q3 | replace Q3 := bn_t Q3 | replace Q3 := bn_f Q3)
         (try with_reducible first | replace Q3 := of_decide_eq_true Q3 | replace Q3 := of_decide_eq_false Q3 | replace Q3 := bx_t Q3 | replace Q3 := bx_f Q3 | replace Q3 := be_t Q3 | replace Q3 := be_f Q3)
         first
          | (exfalso; first | omega | contradiction | (cases Q3; done))
          | skip
            refine st_gno rfl rfl ?_
            refine st_gno rfl rfl ?_
            refine st_gno rfl rfl ?_
            refine st_gno rfl rfl ?_
            refine st_gno rfl rfl ?_
            refine st_val (ro_pickT (v := .bool _) rfl rfl) ?_
            refine st_val (ro_move (v := .bool _) rfl) ?_
            refine st_gno rfl rfl ?_
            refine st_gno rfl rfl ?_
            refine st_gno rfl rfl ?_
            refine st_gno rfl rfl ?_
            refine st_gno rfl rfl ?_
            refine st_val (ro_pickT (v := .bool _) rfl rfl) ?_
            refine st_nil ?_
            refine nx_then ?_
            refine cd_condT rfl ?_
            refine cd_seq ?_
            refine cd_region ?_
            refine st_val (ro_assign (v := .slice _ _ _) rfl) ?_
            refine st_val (ro_assign (v := .int _ _) rfl) ?_
            refine st_nil ?_
            refine nx_then ?_
            refine cd_ret ?_
            refine rt_then ?_
            refine res2 (v := .slice _ _ _) (v' := .int _ _) rfl rfl rfl ?_
            exact ⟨.inr ⟨hbad, rfl⟩, (From.rfl_.next E15)⟩
       · (try with_reducible first | replace Q3 := of_decide_eq_true Q3 | replace Q3 := of_decide_eq_false Q3 | replace Q3 := bn_t Q3 | replace Q3 := bn_f Q3)
         (try with_reducible first | replace Q3 := of_decide_eq_true Q3 | replace Q3 := of_decide_eq_false Q3 | replace Q3 := bx_t Q3 | replace Q3 := bx_f Q3 | replace Q3 := be_t Q3 | replace Q3 := be_f Q3)
         first
          | (exfalso; first | omega | contradiction | (cases Q3; done))
          | skip
            refine st_unguard rfl ?_
            refine st_val (ro_move (v := .slice _ _ _) rfl) ?_
            refine st_unguard rfl ?_
            refine st_val (ro_len SufCom2_l24 rfl) ?_
            refine st_unguard rfl ?_
            refine st_val (ro_move (v := .slice _ _ _) rfl) ?_
            refine st_unguard rfl ?_
            refine st_val (ro_len SufCom2_l24 rfl) ?_
            refine st_unguard rfl ?_
            refine st_val (ro_neq rfl rfl) ?_
            refine st_val (ro_pickF (v := .bool _) rfl rfl) ?_
            refine st_val (ro_move (v := .bool _) rfl) ?_
            refine st_split (t := 29) rfl (fun Q4 => ?_) (fun Q4 => ?_)
            · (try with_reducible first | replace Q4 := of_decide_eq_true Q4 | replace Q4 := of_decide_eq_false Q4 | replace Q4 := bn_t Q4 | replace Q4 := bn_f Q4)
              (try with_reducible first | replace Q4 := of_decide_eq_true Q4 | replace Q4 := of_decide_eq_false Q4 | replace Q4 := bx_t Q4 | replace Q4 := bx_f Q4 | replace Q4 := be_t Q4 | replace Q4 := be_f Q4)
              have hbad := bad_len hn hm (by omega)
              first
               | (exfalso; first | omega | contradiction | (cases Q4; done))
               | skip
                 refine st_gno rfl rfl ?_
                 refine st_gno rfl rfl ?_
                 refine st_gno rfl rfl ?_
                 refine st_gno rfl rfl ?_
                 refine st_gno rfl rfl ?_
                 refine st_val (ro_pickT (v := .bool _) rfl rfl) ?_
                 refine st_nil ?_
                 refine nx_then ?_
                 refine cd_condT rfl ?_
                 refine cd_seq ?_
                 refine cd_region ?_
                 refine st_val (ro_assign (v := .slice _ _ _) rfl) ?_
                 refine st_val (ro_assign (v := .int _ _) rfl) ?_
                 refine st_nil ?_
                 refine nx_then ?_
                 refine cd_ret ?_
                 refine rt_then ?_
                 refine res2 (v := .slice _ _ _) (v' := .int _ _) rfl rfl rfl ?_
                 exact ⟨.inr ⟨hbad, rfl⟩, (From.rfl_.next E15)⟩
            · (try with_reducible first | replace Q4 := of_decide_eq_true Q4 | replace Q4 := of_decide_eq_false Q4 | replace Q4 := bn_t Q4 | replace Q4 := bn_f Q4)
              (try with_reducible first | replace Q4 := of_decide_eq_true Q4 | replace Q4 := of_decide_eq_false Q4 | replace Q4 := bx_t Q4 | replace Q4 := bx_f Q4 | replace Q4 := be_t Q4 | replace Q4 := be_f Q4)
              first
               | (exfalso; first | omega | contradiction | (cases Q4; done))
               | skip
                 refine st_unguard rfl ?_
                 refine st_val (ro_move (v := .slice _ _ _) rfl) ?_
                 refine st_unguard rfl ?_
                 refine st_val (ro_move (v := .slice _ _ _) rfl) ?_
                 refine st_unguard rfl ?_
                 refine st_call SufCom2_k19 (sorted_rt A c n L _ (by rw [← hxs]; exact hr.from_ (From.rfl_.next E15)) (by rw [hn, hxs, List.length_map]) hl hL) ?_
                 rintro v32 w5 ⟨⟨g32, ys, rfl, hg32, hb32, hys⟩, E32⟩
                 obtain ⟨F, hF, hFy⟩ := isSA_ys hLn hys
                 have hFl := hF.len
                 have ho32 := own_tab (Nat.le_refl g32) hb32 (by rw [hFl, hLn]) (by omega) hFy
                 refine st_unguard rfl ?_
                 refine st_call SufCom2_k21 (equalInt_rt B (if n = 0 then none else some ⟨g32, 0, none⟩) cb n m n zs (cI F) _ (hb.from_ ((From.rfl_.next E15).next E32)) (sortA_own ho32).2 hm (by rw [List.length_map]; exact (sortA_own ho32).1) (by omega)) ?_
                 rintro v33 w6 ⟨rfl, E33⟩
                 refine st_unguard rfl ?_
                 refine st_val (ro_not rfl) ?_
                 refine st_val (ro_pickF (v := .bool _) rfl rfl) ?_
                 refine st_nil ?_
                 refine nx_then ?_
                 refine cd_cond rfl (fun Q7 => ?_) (fun Q7 => ?_)
                 · (try with_reducible first | replace Q7 := of_decide_eq_true Q7 | replace Q7 := of_decide_eq_false Q7 | replace Q7 := bn_t Q7 | replace Q7 := bn_f Q7)
                   (try with_reducible first | replace Q7 := of_decide_eq_true Q7 | replace Q7 := of_decide_eq_false Q7 | replace Q7 := bx_t Q7 | replace Q7 := bx_f Q7 | replace Q7 := be_t Q7 | replace Q7 := be_f Q7)
                   have hbad := bad_ne hxs hF (by simpa using Q7)
                   first
                    | (exfalso; first | omega | contradiction | (cases Q7; done))
                    | skip
                      refine cd_seq ?_
                      refine cd_region ?_
                      refine st_val (ro_assign (v := .slice _ _ _) rfl) ?_
                      refine st_val (ro_assign (v := .int _ _) rfl) ?_
                      refine st_nil ?_
                      refine nx_then ?_
                      refine cd_ret ?_
                      refine rt_then ?_
                      refine res2 (v := .slice _ _ _) (v' := .int _ _) rfl rfl rfl ?_
                      exact ⟨.inr ⟨hbad, rfl⟩, (((From.rfl_.next E15).next E32).next E33)⟩
                 · (try with_reducible first | replace Q7 := of_decide_eq_true Q7 | replace Q7 := of_decide_eq_false Q7 | replace Q7 := bn_t Q7 | replace Q7 := bn_f Q7)
                   (try with_reducible first | replace Q7 := of_decide_eq_true Q7 | replace Q7 := of_decide_eq_false Q7 | replace Q7 := bx_t Q7 | replace Q7 := bx_f Q7 | replace Q7 := be_t Q7 | replace Q7 := be_f Q7)
                   have hz : zs = cI F := by simpa using Q7
                   obtain rfl : n = m := by omega
                   have hbF : RowOf iV w B (cI F) := hz ▸ hb
                   have hrL : RowOf iV w A (cI L) := by have h := hr; rw [hxs] at h; exact h
                   first
                    | (exfalso; first | omega | contradiction | (cases Q7; done))
                    | skip
                      refine cd_skip ?_
                      refine nx_then ?_
                      refine cd_seq ?_
                      refine cd_region ?_
                      refine st_val (ro_move (v := .slice _ _ _) rfl) ?_
                      refine st_val (ro_len SufCom2_l24 rfl) ?_
                      refine st_make SufCom2_m24 rfl rfl rfl (by omega) (by omega) ?_
                      intro b38 w8 E38 hb38 hk38
                      have hg38 : w.heap.size ≤ b38 := by rw [hb38]; exact ((((From.rfl_.next E15).next E32).next E33)).size
                      refine st_val (ro_assign (v := .slice _ _ _) rfl) ?_
                      refine st_nil ?_
                      refine nx_then ?_
                      refine cd_seq ?_
                      refine cd_seq ?_
                      refine cd_region ?_
                      refine st_val (ro_move (v := .slice _ _ _) rfl) ?_
                      refine st_val (ro_len SufCom2_l24 rfl) ?_
                      refine st_val (ro_move (v := .int _ _) rfl) ?_
                      refine st_nil ?_
                      refine nx_then ?_
                      refine cd_block ?_
                      refine cd_loop (G := Nat × (Nat → Int)) [7, 8, 42, 43, 44, 45, 46, 47, 48, 49, 50] (fun (k, _) => [(41, .int .i64 (k : Nat))]) (fun (k, rw_) w' => k ≤ n ∧ (∀ j, j < k → rw_ (F.getD j 0) = (j : Nat)) ∧ Blk w' b38 3 (tabI n rw_) ∧ From w w') (fun (k, _) => n - k) ((0, fun _ => 0)) ⟨rfl, trivial⟩ ?_ ?_
                      · exact ⟨Nat.zero_le _, fun j h => absurd h (by omega), by rw [← tabI_zero]; exact hk38, ((((From.rfl_.next E15).next E32).next E33).next E38)⟩
                      rintro ⟨k, rw_⟩ ρ9 w9 ⟨hk, hrw, hT, hB⟩
                      refine cd_seq ?_
                      refine cd_region ?_
                      refine st_val (ro_lss rfl rfl) ?_
                      refine st_nil ?_
                      refine nx_then ?_
                      refine cd_seq ?_
                      refine cd_cond rfl (fun Q10 => ?_) (fun Q10 => ?_)
                      · (try with_reducible first | replace Q10 := of_decide_eq_true Q10 | replace Q10 := of_decide_eq_false Q10 | replace Q10 := bn_t Q10 | replace Q10 := bn_f Q10)
                        (try with_reducible first | replace Q10 := of_decide_eq_true Q10 | replace Q10 := of_decide_eq_false Q10 | replace Q10 := bx_t Q10 | replace Q10 := bx_f Q10 | replace Q10 := be_t Q10 | replace Q10 := be_f Q10)
                        have hkn : k < L.length := by omega
                        obtain ⟨bB, oB, rfl, hcb⟩ := rowD hbF (by omega)
                        have hfk := (isSA_getD hF hkn).1
                        first
                         | (exfalso; first | omega | contradiction | (cases Q10; done))
                         | skip
                           refine cd_skip ?_
                           refine nx_then ?_
                           refine cd_seq ?_
                           refine cd_block ?_
                           refine cd_seq ?_
                           refine cd_region ?_
                           refine st_val (ro_move (v := .int _ _) rfl) ?_
                           refine st_val (ro_indexAddr1 SufCom2_e24 rfl rfl (by omega)) ?_
                           refine st_val (ro_load SufCom2_g3 rfl (by exact cellF hB (hcb k (by omega)))) ?_
                           refine st_val (ro_assign (v := .int _ _) rfl) ?_
                           refine st_val (ro_assign (v := .int _ _) rfl) ?_
                           refine st_nil ?_
                           refine nx_then ?_
                           refine cd_region ?_
                           refine st_val (ro_move (v := .slice _ _ _) rfl) ?_
                           refine st_val (ro_move (v := .int _ _) rfl) ?_
                           refine st_val (ro_move (v := .int _ _) rfl) ?_
                           refine st_val (ro_indexAddr0 SufCom2_e24 rfl rfl (by omega)) ?_
                           refine st_put (v := .int _ _) SufCom2_z3 rfl rfl rfl (hT) (by rw [tabI_size]; omega) ?_
                           intro w11 O7 P7
                           have P7b : Blk w11 b38 3 (tabI n (upd rw_ (F.getD k 0) ((k : Nat) : Int))) := by rw [← tabI_set]; exact P7
                           refine st_nil ?_
                           refine nx_block ?_
                           refine nx_then ?_
                           refine cd_region ?_
                           refine st_val (ro_addN (b := 1) rfl rfl (by omega)) ?_
                           refine st_val (ro_move (v := .int _ _) rfl) ?_
                           refine st_nil ?_
                           refine nx_cut ((k + 1, upd rw_ (F.getD k 0) ((k : Nat) : Int))) ⟨(by first | rfl | (refine int_eq ?_; omega)), trivial⟩ (by (iterate 24 refine agr_cons rfl ?_); exact agr_rfl) ⟨?_, ?_⟩
                           · exact ⟨by omega, rows_put hF hrw (by omega), P7b, (hB.only O7 (hg38))⟩
                           · show n - (k + 1) < n - k; omega
                      · (try with_reducible first | replace Q10 := of_decide_eq_true Q10 | replace Q10 := of_decide_eq_false Q10 | replace Q10 := bn_t Q10 | replace Q10 := bn_f Q10)
                        (try with_reducible first | replace Q10 := of_decide_eq_true Q10 | replace Q10 := of_decide_eq_false Q10 | replace Q10 := bx_t Q10 | replace Q10 := bx_f Q10 | replace Q10 := be_t Q10 | replace Q10 := be_f Q10)
                        first
                         | (exfalso; first | omega | contradiction | (cases Q10; done))
                         | skip
                           refine cd_exit ?_
                           refine ex_then ?_
                           refine ex_then ?_
                           refine ex_block ?_
                           refine nx_then ?_
                           refine cd_seq ?_
                           refine cd_region ?_
                           refine st_val (ro_move (v := .slice _ _ _) rfl) ?_
                           refine st_val (ro_len SufCom2_l24 rfl) ?_
                           refine st_make SufCom2_m24 rfl rfl rfl (by omega) (by omega) ?_
                           intro b53 w12 E53 hb53 hk53
                           have hg53 : w.heap.size ≤ b53 := by rw [hb53]; exact (hB).size
                           have h3853 : b38 < b53 := by rw [hb53]; exact hT.lt
                           obtain rfl : n = k := by omega
                           refine st_val (ro_assign (v := .slice _ _ _) rfl) ?_
                           refine st_nil ?_
                           refine nx_then ?_
                           refine cd_seq ?_
                           refine cd_region ?_
                           refine st_val (ro_assign (v := .int _ _) rfl) ?_
                           refine st_nil ?_
                           refine nx_then ?_
                           refine cd_seq ?_
                           refine cd_seq ?_
                           refine cd_region ?_
                           refine st_val (ro_move (v := .slice _ _ _) rfl) ?_
                           refine st_val (ro_len SufCom2_l24 rfl) ?_
                           refine st_val (ro_move (v := .int _ _) rfl) ?_
                           refine st_nil ?_
                           refine nx_then ?_
                           refine cd_block ?_
                           refine cd_loop (G := Nat × Nat × (Nat → Int)) [11, 12, 13, 57, 58, 59, 60, 61, 62, 63, 64, 65, 66, 67, 68, 69, 70, 71, 72, 73, 74, 75, 76, 77, 78, 79, 80, 81, 82, 83, 84, 85, 86, 87, 88, 89, 90, 91, 92, 93, 94, 95, 96, 97, 98, 99, 100] (fun (i, h, _) => [(56, .int .i64 (i : Nat)), (10, .int .i64 (h : Nat))]) (fun (i, h, cm) w' => i ≤ n ∧ CmI L F (i) cm ∧ (∀ r, (∀ j, j < i → rkF L j ≠ r) → cm r = 0) ∧ (i < n → 0 < rkF L (i) → agr L (i) (F.getD (rkF L (i) - 1) 0) h) ∧ h ≤ n ∧ Blk w' b38 3 (tabI n rw_) ∧ Blk w' b53 3 (tabI n cm) ∧ From w w') (fun (i, _, _) => n - i) ((0, 0, fun _ => 0)) ⟨rfl, rfl, trivial⟩ ?_ ?_
                           · exact ⟨Nat.zero_le _, ⟨fun j h => absurd h (by omega), fun j h => absurd h (by omega)⟩, fun _ _ => rfl, fun h1 h2 => agr_zero (by omega) (Nat.le_of_lt (isSA_getD hF (rk_lt hF (by omega))).1), Nat.zero_le _, hT.from_ (From.rfl_.next E53), by rw [← tabI_zero]; exact hk53, (hB.next E53)⟩
                           rintro ⟨i, h, cm⟩ ρ13 w13 ⟨hi, hcm, hc0, hag, hhn, hT, hC, hB⟩
                           refine cd_seq ?_
                           refine cd_region ?_
                           refine st_val (ro_lss rfl rfl) ?_
                           refine st_nil ?_
                           refine nx_then ?_
                           refine cd_seq ?_
                           refine cd_cond rfl (fun Q14 => ?_) (fun Q14 => ?_)
                           · (try with_reducible first | replace Q14 := of_decide_eq_true Q14 | replace Q14 := of_decide_eq_false Q14 | replace Q14 := bn_t Q14 | replace Q14 := bn_f Q14)
                             (try with_reducible first | replace Q14 := of_decide_eq_true Q14 | replace Q14 := of_decide_eq_false Q14 | replace Q14 := bx_t Q14 | replace Q14 := bx_f Q14 | replace Q14 := be_t Q14 | replace Q14 := be_f Q14)
                             have hiL : i < L.length := by omega
                             have hcr : (w13).cell? ⟨b38, i, none⟩ = some (.int .i64 ((rkF L i : Nat) : Int)) := by rw [hT.rd i (tabI_at (by omega)), rows_end (rw_ := rw_) hF (by rw [← hLn]; exact hrw) hiL]
                             have hrl := rk_lt1 hF hiL
                             obtain ⟨bB, oB, rfl, hcb⟩ := rowD hbF (by omega)
                             obtain ⟨bA, oA, rfl, hca⟩ := rowD hrL (by omega)
                             first
                              | (exfalso; first | omega | contradiction | (cases Q14; done))
                              | skip
                                refine cd_skip ?_
                                refine nx_then ?_
                                refine cd_cut (G := Nat × (Nat → Int)) [11, 12, 13, 58, 59, 60, 61, 62, 63, 64, 65, 66, 67, 68, 69, 70, 71, 72, 73, 74, 75, 76, 77, 78, 79, 80, 81, 82, 83, 84, 85, 86, 87, 88, 89, 90, 91, 92, 93, 94, 95, 96, 97, 98, 99] (fun (h, _) => [(10, .int .i64 (h : Nat))]) (fun (h, cm) w' => CmI L F (i + 1) cm ∧ (∀ r, (∀ j, j < i + 1 → rkF L j ≠ r) → cm r = 0) ∧ (i + 1 < n → 0 < rkF L (i + 1) → agr L (i + 1) (F.getD (rkF L (i + 1) - 1) 0) h) ∧ h ≤ n ∧ Blk w' b38 3 (tabI n rw_) ∧ Blk w' b53 3 (tabI n cm) ∧ From w w') ?_ ?_
                                · refine cd_block ?_
                                  refine cd_seq ?_
                                  refine cd_region ?_
                                  refine st_val (ro_move (v := .int _ _) rfl) ?_
                                  refine st_val (ro_indexAddr0 SufCom2_e24 rfl rfl (by omega)) ?_
                                  refine st_val (ro_load SufCom2_g3 rfl (by exact cellF From.rfl_ hcr)) ?_
                                  refine st_val (ro_assign (v := .int _ _) rfl) ?_
                                  refine st_val (ro_assign (v := .int _ _) rfl) ?_
                                  refine st_nil ?_
                                  refine nx_then ?_
                                  refine cd_seq ?_
                                  refine cd_seq ?_
                                  refine cd_region ?_
                                  refine st_val (ro_move (v := .int _ _) rfl) ?_
                                  refine st_val (ro_eql rfl rfl) ?_
                                  refine st_nil ?_
                                  refine nx_then ?_
                                  refine cd_cond rfl (fun Q15 => ?_) (fun Q15 => ?_)
                                  · (try with_reducible first | replace Q15 := of_decide_eq_true Q15 | replace Q15 := of_decide_eq_false Q15 | replace Q15 := bn_t Q15 | replace Q15 := bn_f Q15)
                                    (try with_reducible first | replace Q15 := of_decide_eq_true Q15 | replace Q15 := of_decide_eq_false Q15 | replace Q15 := bx_t Q15 | replace Q15 := bx_f Q15 | replace Q15 := be_t Q15 | replace Q15 := be_f Q15)
                                    have hr0 : rkF L i = 0 := by omega
                                    first
                                     | (exfalso; first | omega | contradiction | (cases Q15; done))
                                     | skip
                                       refine cd_seq ?_
                                       refine cd_region ?_
                                       refine st_val (ro_assign (v := .int _ _) rfl) ?_
                                       refine st_nil ?_
                                       refine nx_then ?_
                                       refine cd_exit ?_
                                       refine ex_then ?_
                                       refine ex_block ?_
                                       refine nx_cut ((0, cm)) ⟨rfl, trivial⟩ (by (iterate 8 refine agr_cons rfl ?_); exact agr_rfl) ?_
                                       exact ⟨hcm.skip hF (by omega) hr0 (hc0 0 (fun j hj e => by have := rkF_inj hF (by omega) (by omega) (e.trans hr0.symm); omega)), fun r hr2 => hc0 r (fun j hj => hr2 j (by omega)), fun h1 h2 => agr_zero (by omega) (Nat.le_of_lt (isSA_getD hF (rk_lt hF (by omega))).1), Nat.zero_le _, hT.from_ From.rfl_, hC.from_ From.rfl_, hB⟩
                                  · (try with_reducible first | replace Q15 := of_decide_eq_true Q15 | replace Q15 := of_decide_eq_false Q15 | replace Q15 := bn_t Q15 | replace Q15 := bn_f Q15)
                                    (try with_reducible first | replace Q15 := of_decide_eq_true Q15 | replace Q15 := of_decide_eq_false Q15 | replace Q15 := bx_t Q15 | replace Q15 := bx_f Q15 | replace Q15 := be_t Q15 | replace Q15 := be_f Q15)
                                    have hr1 : 0 < rkF L i := by omega
                                    have hj1 := (isSA_getD hF (rk_lt hF hiL)).1
                                    obtain ⟨mx, hmx, hm3, hm4, hm5⟩ : ∃ mx : Nat, max ((i : Nat) : Int) ((F.getD (rkF L i - 1) 0 : Nat) : Int) = (mx : Int) ∧ i ≤ mx ∧ F.getD (rkF L i - 1) 0 ≤ mx ∧ (mx = i ∨ mx = F.getD (rkF L i - 1) 0) := ⟨max i (F.getD (rkF L i - 1) 0), by omega, by omega, by omega, by omega⟩
                                    first
                                     | (exfalso; first | omega | contradiction | (cases Q15; done))
                                     | skip
                                       refine cd_skip ?_
                                       refine nx_then ?_
                                       refine cd_seq ?_
                                       refine cd_region ?_
                                       refine st_val (ro_move (v := .slice _ _ _) rfl) ?_
                                       refine st_val (ro_move (v := .int _ _) rfl) ?_
                                       refine st_val (ro_subN (b := 1) rfl rfl (by omega)) ?_
                                       refine st_val (ro_indexAddr1 SufCom2_e24 rfl rfl (by omega)) ?_
                                       refine st_val (ro_load SufCom2_g3 rfl (by exact cellF hB (hcb (rkF L i - 1) (by omega)))) ?_
                                       refine st_val (ro_assign (v := .int _ _) rfl) ?_
                                       refine st_nil ?_
                                       refine nx_then ?_
                                       refine cd_seq ?_
                                       refine cd_block ?_
                                       refine cd_loop (G := Nat) [68, 69, 70, 71, 72, 73, 74, 75, 76, 77, 78, 79, 80, 81, 82, 83, 84, 85, 86, 87, 88, 89, 90, 91, 92] (fun h => [(10, .int .i64 (h : Nat))]) (fun h2 w' => agr L i (F.getD (rkF L i - 1) 0) h2 ∧ Blk w' b38 3 (tabI n rw_) ∧ Blk w' b53 3 (tabI n cm) ∧ From w w') (fun h2 => n - h2) (h) ⟨rfl, trivial⟩ ?_ ?_
                                       · exact ⟨hag (by omega) (by omega), hT.from_ From.rfl_, hC.from_ From.rfl_, hB⟩
                                       rintro h2 ρ16 w16 ⟨ha2, hT, hC, hB⟩
                                       refine cd_seq ?_
                                       refine cd_seq ?_
                                       have hb1 := ha2.1
                                       have hb2 := ha2.2.1
                                       rcases (show n ≤ mx + h2 ∨ (mx + h2 < n ∧ L.getD (i + h2) 0 = L.getD (F.getD (rkF L i - 1) 0 + h2) 0) ∨ (mx + h2 < n ∧ L.getD (i + h2) 0 ≠ L.getD (F.getD (rkF L i - 1) 0 + h2) 0) by omega) with e1 | ⟨e1, e3⟩ | ⟨e1, e3⟩
                                       · have hst : stop L i (F.getD (rkF L i - 1) 0) h2 := fun x => by have := x.1; have := x.2.1; omega
                                         apply cd_drawn 23 [(68, eqp _), (69, eqp _), (70, eqp _), (71, eqp _), (72, eqp _), (73, eqp _), (74, eqp _), (75, eqp _), (76, eqp _), (77, eqp _), (78, eqp _), (79, eqp _), (80, eqp _), (81, eqp _), (82, eqp _), (83, eqp _), (84, eqp _), (85, eqp _), (86, eqp _), (87, eqp _), (88, eqp _), (89, eqp _), (90, eqp _)] (by kernel_rfl) (by kernel_rfl) ⟨eqp_mono _, eqp_mono _, eqp_mono _, eqp_mono _, eqp_mono _, eqp_mono _, eqp_mono _, eqp_mono _, eqp_mono _, eqp_mono _, eqp_mono _, eqp_mono _, eqp_mono _, eqp_mono _, eqp_mono _, eqp_mono _, eqp_mono _, eqp_mono _, eqp_mono _, eqp_mono _, eqp_mono _, eqp_mono _, eqp_mono _, trivial⟩
                                         case hop =>
                                          refine ⟨?_, ?_⟩
                                          · intro w18 D18
                                            show OpOK _ _ _ _ _ _ _
                                            exact ok_pure (ro_move (v := .int _ _) rfl) rfl
                                          refine ⟨?_, ?_⟩
                                          · intro w19 D19
                                            show OpOK _ _ _ _ _ _ _
                                            exact ok_pure (ro_move (v := .int _ _) rfl) rfl
                                          refine ⟨?_, ?_⟩
                                          · intro w20 D20
                                            rintro _ rfl _ rfl
                                            show OpOK _ _ _ _ _ _ _
                                            exact ok_pure (ro_eq (ro_max rfl rfl) (int_eq hmx)) rfl
                                          refine ⟨?_, ?_⟩
                                          · intro w21 D21
                                            show OpOK _ _ _ _ _ _ _
                                            exact ok_pure (ro_move (v := .int _ _) rfl) rfl
                                          refine ⟨?_, ?_⟩
                                          · intro w22 D22
                                            rintro _ rfl _ rfl
                                            show OpOK _ _ _ _ _ _ _
                                            exact ok_pure (ro_addN (a := mx) (b := h2) rfl rfl (by omega)) rfl
                                          refine ⟨?_, ?_⟩
                                          · intro w23 D23
                                            show OpOK _ _ _ _ _ _ _
                                            exact ok_pure (ro_move (v := .slice _ _ _) rfl) rfl
                                          refine ⟨?_, ?_⟩
                                          · intro w24 D24
                                            rintro _ rfl
                                            show OpOK _ _ _ _ _ _ _
                                            exact ok_pure (ro_len SufCom2_l24 rfl) rfl
                                          refine ⟨?_, ?_⟩
                                          · intro w25 D25
                                            rintro _ rfl _ rfl
                                            show OpOK _ _ _ _ _ _ _
                                            exact ok_pure (ro_bf (ro_lss rfl rfl) (decide_eq_false (by omega))) rfl
                                          refine ⟨?_, ?_⟩
                                          · intro w26 D26
                                            rintro _ rfl
                                            show OpOK _ _ _ _ _ _ _
                                            exact ok_pure (ro_move (v := .bool _) rfl) rfl
                                          refine ⟨?_, ?_⟩
                                          · intro w27 D27
                                            rintro _ rfl
                                            show OpOK _ _ _ _ _ _ _
                                            exact ok_gno rfl rfl rfl
                                          refine ⟨?_, ?_⟩
                                          · intro w28 D28
                                            rintro _ rfl
                                            show OpOK _ _ _ _ _ _ _
                                            exact ok_gno rfl rfl rfl
                                          refine ⟨?_, ?_⟩
                                          · intro w29 D29
                                            rintro _ rfl
                                            show OpOK _ _ _ _ _ _ _
                                            exact ok_gno rfl rfl rfl
                                          refine ⟨?_, ?_⟩
                                          · intro w30 D30
                                            rintro _ rfl _ rfl _ rfl
                                            show OpOK _ _ _ _ _ _ _
                                            exact ok_gno rfl rfl rfl
                                          refine ⟨?_, ?_⟩
                                          · intro w31 D31
                                            rintro _ rfl _ rfl _ rfl
                                            show OpOK _ _ _ _ _ _ _
                                            exact ok_gno rfl rfl rfl
                                          refine ⟨?_, ?_⟩
                                          · intro w32 D32
                                            rintro _ rfl _ rfl
                                            show OpOK _ _ _ _ _ _ _
                                            exact ok_gno rfl rfl rfl
                                          refine ⟨?_, ?_⟩
                                          · intro w33 D33
                                            rintro _ rfl
                                            show OpOK _ _ _ _ _ _ _
                                            exact ok_gno rfl rfl rfl
                                          refine ⟨?_, ?_⟩
                                          · intro w34 D34
                                            rintro _ rfl
                                            show OpOK _ _ _ _ _ _ _
                                            exact ok_gno rfl rfl rfl
                                          refine ⟨?_, ?_⟩
                                          · intro w35 D35
                                            rintro _ rfl
                                            show OpOK _ _ _ _ _ _ _
                                            exact ok_gno rfl rfl rfl
                                          refine ⟨?_, ?_⟩
                                          · intro w36 D36
                                            rintro _ rfl _ rfl _ rfl
                                            show OpOK _ _ _ _ _ _ _
                                            exact ok_gno rfl rfl rfl
                                          refine ⟨?_, ?_⟩
                                          · intro w37 D37
                                            rintro _ rfl _ rfl _ rfl
                                            show OpOK _ _ _ _ _ _ _
                                            exact ok_gno rfl rfl rfl
                                          refine ⟨?_, ?_⟩
                                          · intro w38 D38
                                            rintro _ rfl _ rfl
                                            show OpOK _ _ _ _ _ _ _
                                            exact ok_gno rfl rfl rfl
                                          refine ⟨?_, ?_⟩
                                          · intro w39 D39
                                            rintro _ rfl _ rfl _ rfl
                                            show OpOK _ _ _ _ _ _ _
                                            exact ok_gno rfl rfl rfl
                                          refine ⟨?_, ?_⟩
                                          · intro w40 D40
                                            rintro _ rfl _ rfl
                                            show OpOK _ _ _ _ _ _ _
                                            exact ok_pure (ro_pickF (v := .bool _) rfl rfl) rfl
                                          exact trivial
                                         case hend =>
                                          intro w41 D41
                                          rintro _ rfl _ rfl _ rfl _ rfl _ rfl _ rfl _ rfl _ rfl _ rfl _ rfl _ rfl _ rfl _ rfl _ rfl _ rfl _ rfl _ rfl _ rfl _ rfl _ rfl _ rfl _ rfl _ rfl
                                          show St _ _ _ _ _ _ _
                                          have hTq := hT.from_ D41
                                          have hCq := hC.from_ D41
                                          refine st_nil ?_
                                          refine nx_then ?_
                                          refine cd_condF rfl ?_
                                          refine cd_exit ?_
                                          refine ex_then ?_
                                          refine ex_then ?_
                                          refine ex_block ?_
                                          refine nx_then ?_
                                          refine cd_seq ?_
                                          refine cd_region ?_
                                          refine st_val (ro_move (v := .slice _ _ _) rfl) ?_
                                          refine st_val (ro_move (v := .int _ _) rfl) ?_
                                          refine st_val (ro_move (v := .int _ _) rfl) ?_
                                          refine st_val (ro_indexAddr0 SufCom2_e24 rfl rfl (by omega)) ?_
                                          refine st_put (v := .int _ _) SufCom2_z3 rfl rfl rfl (hCq) (by rw [tabI_size]; omega) ?_
                                          intro w42 O19 P19
                                          have P19b : Blk w42 b53 3 (tabI n (upd cm (rkF L i) ((h2 : Nat) : Int))) := by rw [← tabI_set]; exact P19
                                          have hT19 := hTq.only O19 (by omega)
                                          refine st_nil ?_
                                          refine nx_then ?_
                                          refine cd_region ?_
                                          refine st_val (ro_move (v := .int _ _) rfl) ?_
                                          refine st_val (ro_sub64 rfl rfl (by omega)) ?_
                                          refine st_val (ro_eq (v' := .int .i64 ((h2 - 1 : Nat) : Int)) (ro_max rfl rfl) (int_eq (by omega))) ?_
                                          refine st_val (ro_assign (v := .int _ _) rfl) ?_
                                          refine st_nil ?_
                                          refine nx_block ?_
                                          refine nx_cut ((h2 - 1, upd cm (rkF L i) ((h2 : Nat) : Int))) ⟨(int_eq (by omega)), trivial⟩ (by (iterate 70 refine agr_cons rfl ?_); exact agr_rfl) ?_
                                          exact ⟨hcm.put hF (by omega) (by omega) ha2 hst, fun r hr2 => by rw [upd_ne _ _ (fun e => hr2 i (by omega) e.symm)]; exact hc0 r (fun j hj => hr2 j (by omega)), fun h1 h3 => kasai_rk hF (by omega) (by omega) ha2 h3, by omega, hT19, P19b, ((hB.next D41).only O19 (hg53))⟩
                                       · apply cd_drawn 23 [(68, eqp _), (69, eqp _), (70, eqp _), (71, eqp _), (72, eqp _), (73, eqp _), (74, eqp _), (75, eqp _), (76, eqp _), (77, eqp _), (78, eqp _), (79, eqp _), (80, eqp _), (81, eqp _), (82, eqp _), (83, eqp _), (84, eqp _), (85, eqp _), (86, eqp _), (87, eqp _), (88, eqp _), (89, eqp _), (90, eqp _)] (by kernel_rfl) (by kernel_rfl) ⟨eqp_mono _, eqp_mono _, eqp_mono _, eqp_mono _, eqp_mono _, eqp_mono _, eqp_mono _, eqp_mono _, eqp_mono _, eqp_mono _, eqp_mono _, eqp_mono _, eqp_mono _, eqp_mono _, eqp_mono _, eqp_mono _, eqp_mono _, eqp_mono _, eqp_mono _, eqp_mono _, eqp_mono _, eqp_mono _, eqp_mono _, trivial⟩
                                         case hop =>
                                          refine ⟨?_, ?_⟩
                                          · intro w44 D44
                                            show OpOK _ _ _ _ _ _ _
                                            exact ok_pure (ro_move (v := .int _ _) rfl) rfl
                                          refine ⟨?_, ?_⟩
                                          · intro w45 D45
                                            show OpOK _ _ _ _ _ _ _
                                            exact ok_pure (ro_move (v := .int _ _) rfl) rfl
                                          refine ⟨?_, ?_⟩
                                          · intro w46 D46
                                            rintro _ rfl _ rfl
                                            show OpOK _ _ _ _ _ _ _
                                            exact ok_pure (ro_eq (ro_max rfl rfl) (int_eq hmx)) rfl
                                          refine ⟨?_, ?_⟩
                                          · intro w47 D47
                                            show OpOK _ _ _ _ _ _ _
                                            exact ok_pure (ro_move (v := .int _ _) rfl) rfl
                                          refine ⟨?_, ?_⟩
                                          · intro w48 D48
                                            rintro _ rfl _ rfl
                                            show OpOK _ _ _ _ _ _ _
                                            exact ok_pure (ro_addN (a := mx) (b := h2) rfl rfl (by omega)) rfl
                                          refine ⟨?_, ?_⟩
                                          · intro w49 D49
                                            show OpOK _ _ _ _ _ _ _
                                            exact ok_pure (ro_move (v := .slice _ _ _) rfl) rfl
                                          refine ⟨?_, ?_⟩
                                          · intro w50 D50
                                            rintro _ rfl
                                            show OpOK _ _ _ _ _ _ _
                                            exact ok_pure (ro_len SufCom2_l24 rfl) rfl
                                          refine ⟨?_, ?_⟩
                                          · intro w51 D51
                                            rintro _ rfl _ rfl
                                            show OpOK _ _ _ _ _ _ _
                                            exact ok_pure (ro_bt (ro_lss rfl rfl) (decide_eq_true (by omega))) rfl
                                          refine ⟨?_, ?_⟩
                                          · intro w52 D52
                                            rintro _ rfl
                                            show OpOK _ _ _ _ _ _ _
                                            exact ok_pure (ro_move (v := .bool _) rfl) rfl
                                          refine ⟨?_, ?_⟩
                                          · intro w53 D53
                                            rintro _ rfl
                                            show OpOK _ _ _ _ _ _ _
                                            exact ok_gpure rfl (ro_move (v := .slice _ _ _) rfl) rfl
                                          refine ⟨?_, ?_⟩
                                          · intro w54 D54
                                            rintro _ rfl
                                            show OpOK _ _ _ _ _ _ _
                                            exact ok_gpure rfl (ro_move (v := .int _ _) rfl) rfl
                                          refine ⟨?_, ?_⟩
                                          · intro w55 D55
                                            rintro _ rfl
                                            show OpOK _ _ _ _ _ _ _
                                            exact ok_gpure rfl (ro_move (v := .int _ _) rfl) rfl
                                          refine ⟨?_, ?_⟩
                                          · intro w56 D56
                                            rintro _ rfl _ rfl _ rfl
                                            show OpOK _ _ _ _ _ _ _
                                            exact ok_gpure rfl (ro_addN rfl rfl (by omega)) rfl
                                          refine ⟨?_, ?_⟩
                                          · intro w57 D57
                                            rintro _ rfl _ rfl _ rfl
                                            show OpOK _ _ _ _ _ _ _
                                            exact ok_gpure rfl (ro_indexAddr1 SufCom2_e24 rfl rfl (by omega)) rfl
                                          refine ⟨?_, ?_⟩
                                          · intro w58 D58
                                            rintro _ rfl _ rfl
                                            show OpOK _ _ _ _ _ _ _
                                            exact ok_gpure rfl (ro_load SufCom2_g3 rfl (by exact cellF (hB.next D58) (hca (i + h2) (by omega)))) rfl
                                          refine ⟨?_, ?_⟩
                                          · intro w59 D59
                                            rintro _ rfl
                                            show OpOK _ _ _ _ _ _ _
                                            exact ok_gpure rfl (ro_move (v := .slice _ _ _) rfl) rfl
                                          refine ⟨?_, ?_⟩
                                          · intro w60 D60
                                            rintro _ rfl
                                            show OpOK _ _ _ _ _ _ _
                                            exact ok_gpure rfl (ro_move (v := .int _ _) rfl) rfl
                                          refine ⟨?_, ?_⟩
                                          · intro w61 D61
                                            rintro _ rfl
                                            show OpOK _ _ _ _ _ _ _
                                            exact ok_gpure rfl (ro_move (v := .int _ _) rfl) rfl
                                          refine ⟨?_, ?_⟩
                                          · intro w62 D62
                                            rintro _ rfl _ rfl _ rfl
                                            show OpOK _ _ _ _ _ _ _
                                            exact ok_gpure rfl (ro_addN rfl rfl (by omega)) rfl
                                          refine ⟨?_, ?_⟩
                                          · intro w63 D63
                                            rintro _ rfl _ rfl _ rfl
                                            show OpOK _ _ _ _ _ _ _
                                            exact ok_gpure rfl (ro_indexAddr1 SufCom2_e24 rfl rfl (by omega)) rfl
                                          refine ⟨?_, ?_⟩
                                          · intro w64 D64
                                            rintro _ rfl _ rfl
                                            show OpOK _ _ _ _ _ _ _
                                            exact ok_gpure rfl (ro_load SufCom2_g3 rfl (by exact cellF (hB.next D64) (hca _ (by omega)))) rfl
                                          refine ⟨?_, ?_⟩
                                          · intro w65 D65
                                            rintro _ rfl _ rfl _ rfl
                                            show OpOK _ _ _ _ _ _ _
                                            exact ok_gpure rfl (ro_bt (ro_eql rfl rfl) (by rw [e3]; exact beq_self_eq_true _)) rfl
                                          refine ⟨?_, ?_⟩
                                          · intro w66 D66
                                            rintro _ rfl _ rfl
                                            show OpOK _ _ _ _ _ _ _
                                            exact ok_pure (ro_pickT (v := .bool _) rfl rfl) rfl
                                          exact trivial
                                         case hend =>
                                          intro w67 D67
                                          rintro _ rfl _ rfl _ rfl _ rfl _ rfl _ rfl _ rfl _ rfl _ rfl _ rfl _ rfl _ rfl _ rfl _ rfl _ rfl _ rfl _ rfl _ rfl _ rfl _ rfl _ rfl _ rfl _ rfl
                                          show St _ _ _ _ _ _ _
                                          have hTq := hT.from_ D67
                                          have hCq := hC.from_ D67
                                          refine st_nil ?_
                                          refine nx_then ?_
                                          refine cd_condT rfl ?_
                                          refine cd_skip ?_
                                          refine nx_then ?_
                                          refine cd_block ?_
                                          refine cd_region ?_
                                          refine st_val (ro_move (v := .int _ _) rfl) ?_
                                          refine st_val (ro_addN (b := 1) rfl rfl (by omega)) ?_
                                          refine st_val (ro_assign (v := .int _ _) rfl) ?_
                                          refine st_nil ?_
                                          refine nx_block ?_
                                          refine nx_cut (h2 + 1) ⟨(by first | rfl | (refine int_eq ?_; omega)), trivial⟩ (by (iterate 52 refine agr_cons rfl ?_); exact agr_rfl) ⟨?_, ?_⟩
                                          · exact ⟨agr_succ ha2 (by omega) (by omega) e3, hT.from_ (From.rfl_.next D67), hC.from_ (From.rfl_.next D67), (hB.next D67)⟩
                                          · show n - (h2 + 1) < n - h2; have := ha2.1; omega
                                       · have hst : stop L i (F.getD (rkF L i - 1) 0) h2 := fun x => e3 x.2.2
                                         apply cd_drawn 23 [(68, eqp _), (69, eqp _), (70, eqp _), (71, eqp _), (72, eqp _), (73, eqp _), (74, eqp _), (75, eqp _), (76, eqp _), (77, eqp _), (78, eqp _), (79, eqp _), (80, eqp _), (81, eqp _), (82, eqp _), (83, eqp _), (84, eqp _), (85, eqp _), (86, eqp _), (87, eqp _), (88, eqp _), (89, eqp _), (90, eqp _)] (by kernel_rfl) (by kernel_rfl) ⟨eqp_mono _, eqp_mono _, eqp_mono _, eqp_mono _, eqp_mono _, eqp_mono _, eqp_mono _, eqp_mono _, eqp_mono _, eqp_mono _, eqp_mono _, eqp_mono _, eqp_mono _, eqp_mono _, eqp_mono _, eqp_mono _, eqp_mono _, eqp_mono _, eqp_mono _, eqp_mono _, eqp_mono _, eqp_mono _, eqp_mono _, trivial⟩
                                         case hop =>
                                          refine ⟨?_, ?_⟩
                                          · intro w69 D69
                                            show OpOK _ _ _ _ _ _ _
                                            exact ok_pure (ro_move (v := .int _ _) rfl) rfl
                                          refine ⟨?_, ?_⟩
                                          · intro w70 D70
                                            show OpOK _ _ _ _ _ _ _
                                            exact ok_pure (ro_move (v := .int _ _) rfl) rfl
                                          refine ⟨?_, ?_⟩
                                          · intro w71 D71
                                            rintro _ rfl _ rfl
                                            show OpOK _ _ _ _ _ _ _
                                            exact ok_pure (ro_eq (ro_max rfl rfl) (int_eq hmx)) rfl
                                          refine ⟨?_, ?_⟩
                                          · intro w72 D72
                                            show OpOK _ _ _ _ _ _ _
                                            exact ok_pure (ro_move (v := .int _ _) rfl) rfl
                                          refine ⟨?_, ?_⟩
                                          · intro w73 D73
                                            rintro _ rfl _ rfl
                                            show OpOK _ _ _ _ _ _ _
                                            exact ok_pure (ro_addN (a := mx) (b := h2) rfl rfl (by omega)) rfl
                                          refine ⟨?_, ?_⟩
                                          · intro w74 D74
                                            show OpOK _ _ _ _ _ _ _
                                            exact ok_pure (ro_move (v := .slice _ _ _) rfl) rfl
                                          refine ⟨?_, ?_⟩
                                          · intro w75 D75
                                            rintro _ rfl
                                            show OpOK _ _ _ _ _ _ _
                                            exact ok_pure (ro_len SufCom2_l24 rfl) rfl
                                          refine ⟨?_, ?_⟩
                                          · intro w76 D76
                                            rintro _ rfl _ rfl
                                            show OpOK _ _ _ _ _ _ _
                                            exact ok_pure (ro_bt (ro_lss rfl rfl) (decide_eq_true (by omega))) rfl
                                          refine ⟨?_, ?_⟩
                                          · intro w77 D77
                                            rintro _ rfl
                                            show OpOK _ _ _ _ _ _ _
                                            exact ok_pure (ro_move (v := .bool _) rfl) rfl
                                          refine ⟨?_, ?_⟩
                                          · intro w78 D78
                                            rintro _ rfl
                                            show OpOK _ _ _ _ _ _ _
                                            exact ok_gpure rfl (ro_move (v := .slice _ _ _) rfl) rfl
                                          refine ⟨?_, ?_⟩
                                          · intro w79 D79
                                            rintro _ rfl
                                            show OpOK _ _ _ _ _ _ _
                                            exact ok_gpure rfl (ro_move (v := .int _ _) rfl) rfl
                                          refine ⟨?_, ?_⟩
                                          · intro w80 D80
                                            rintro _ rfl
                                            show OpOK _ _ _ _ _ _ _
                                            exact ok_gpure rfl (ro_move (v := .int _ _) rfl) rfl
                                          refine ⟨?_, ?_⟩
                                          · intro w81 D81
                                            rintro _ rfl _ rfl _ rfl
                                            show OpOK _ _ _ _ _ _ _
                                            exact ok_gpure rfl (ro_addN rfl rfl (by omega)) rfl
                                          refine ⟨?_, ?_⟩
                                          · intro w82 D82
                                            rintro _ rfl _ rfl _ rfl
                                            show OpOK _ _ _ _ _ _ _
                                            exact ok_gpure rfl (ro_indexAddr1 SufCom2_e24 rfl rfl (by omega)) rfl
                                          refine ⟨?_, ?_⟩
                                          · intro w83 D83
                                            rintro _ rfl _ rfl
                                            show OpOK _ _ _ _ _ _ _
                                            exact ok_gpure rfl (ro_load SufCom2_g3 rfl (by exact cellF (hB.next D83) (hca (i + h2) (by omega)))) rfl
                                          refine ⟨?_, ?_⟩
                                          · intro w84 D84
                                            rintro _ rfl
                                            show OpOK _ _ _ _ _ _ _
                                            exact ok_gpure rfl (ro_move (v := .slice _ _ _) rfl) rfl
                                          refine ⟨?_, ?_⟩
                                          · intro w85 D85
                                            rintro _ rfl
                                            show OpOK _ _ _ _ _ _ _
                                            exact ok_gpure rfl (ro_move (v := .int _ _) rfl) rfl
                                          refine ⟨?_, ?_⟩
                                          · intro w86 D86
                                            rintro _ rfl
                                            show OpOK _ _ _ _ _ _ _
                                            exact ok_gpure rfl (ro_move (v := .int _ _) rfl) rfl
                                          refine ⟨?_, ?_⟩
                                          · intro w87 D87
                                            rintro _ rfl _ rfl _ rfl
                                            show OpOK _ _ _ _ _ _ _
                                            exact ok_gpure rfl (ro_addN rfl rfl (by omega)) rfl
                                          refine ⟨?_, ?_⟩
                                          · intro w88 D88
                                            rintro _ rfl _ rfl _ rfl
                                            show OpOK _ _ _ _ _ _ _
                                            exact ok_gpure rfl (ro_indexAddr1 SufCom2_e24 rfl rfl (by omega)) rfl
                                          refine ⟨?_, ?_⟩
                                          · intro w89 D89
                                            rintro _ rfl _ rfl
                                            show OpOK _ _ _ _ _ _ _
                                            exact ok_gpure rfl (ro_load SufCom2_g3 rfl (by exact cellF (hB.next D89) (hca _ (by omega)))) rfl
                                          refine ⟨?_, ?_⟩
                                          · intro w90 D90
                                            rintro _ rfl _ rfl _ rfl
                                            show OpOK _ _ _ _ _ _ _
                                            exact ok_gpure rfl (ro_bf (ro_eql rfl rfl) (beq_false_of_ne (by omega))) rfl
                                          refine ⟨?_, ?_⟩
                                          · intro w91 D91
                                            rintro _ rfl _ rfl
                                            show OpOK _ _ _ _ _ _ _
                                            exact ok_pure (ro_pickT (v := .bool _) rfl rfl) rfl
                                          exact trivial
                                         case hend =>
                                          intro w92 D92
                                          rintro _ rfl _ rfl _ rfl _ rfl _ rfl _ rfl _ rfl _ rfl _ rfl _ rfl _ rfl _ rfl _ rfl _ rfl _ rfl _ rfl _ rfl _ rfl _ rfl _ rfl _ rfl _ rfl _ rfl
                                          show St _ _ _ _ _ _ _
                                          have hTq := hT.from_ D92
                                          have hCq := hC.from_ D92
                                          refine st_nil ?_
                                          refine nx_then ?_
                                          refine cd_condF rfl ?_
                                          refine cd_exit ?_
                                          refine ex_then ?_
                                          refine ex_then ?_
                                          refine ex_block ?_
                                          refine nx_then ?_
                                          refine cd_seq ?_
                                          refine cd_region ?_
                                          refine st_val (ro_move (v := .slice _ _ _) rfl) ?_
                                          refine st_val (ro_move (v := .int _ _) rfl) ?_
                                          refine st_val (ro_move (v := .int _ _) rfl) ?_
                                          refine st_val (ro_indexAddr0 SufCom2_e24 rfl rfl (by omega)) ?_
                                          refine st_put (v := .int _ _) SufCom2_z3 rfl rfl rfl (hCq) (by rw [tabI_size]; omega) ?_
                                          intro w93 O19 P19
                                          have P19b : Blk w93 b53 3 (tabI n (upd cm (rkF L i) ((h2 : Nat) : Int))) := by rw [← tabI_set]; exact P19
                                          have hT19 := hTq.only O19 (by omega)
                                          refine st_nil ?_
                                          refine nx_then ?_
                                          refine cd_region ?_
                                          refine st_val (ro_move (v := .int _ _) rfl) ?_
                                          refine st_val (ro_sub64 rfl rfl (by omega)) ?_
                                          refine st_val (ro_eq (v' := .int .i64 ((h2 - 1 : Nat) : Int)) (ro_max rfl rfl) (int_eq (by omega))) ?_
                                          refine st_val (ro_assign (v := .int _ _) rfl) ?_
                                          refine st_nil ?_
                                          refine nx_block ?_
                                          refine nx_cut ((h2 - 1, upd cm (rkF L i) ((h2 : Nat) : Int))) ⟨(int_eq (by omega)), trivial⟩ (by (iterate 70 refine agr_cons rfl ?_); exact agr_rfl) ?_
                                          exact ⟨hcm.put hF (by omega) (by omega) ha2 hst, fun r hr2 => by rw [upd_ne _ _ (fun e => hr2 i (by omega) e.symm)]; exact hc0 r (fun j hj => hr2 j (by omega)), fun h1 h3 => kasai_rk hF (by omega) (by omega) ha2 h3, by omega, hT19, P19b, ((hB.next D92).only O19 (hg53))⟩
                                · rintro ⟨h', cm'⟩ ρ94 w94 ⟨hcm', hc0', hag', hhn', hT', hC', hB⟩
                                  refine cd_region ?_
                                  refine st_val (ro_addN (b := 1) rfl rfl (by omega)) ?_
                                  refine st_val (ro_move (v := .int _ _) rfl) ?_
                                  refine st_nil ?_
                                  refine nx_cut ((i + 1, h', cm')) ⟨(by first | rfl | (refine int_eq ?_; omega)), (by first | rfl | (refine int_eq ?_; omega)), trivial⟩ (by (iterate 98 refine agr_cons rfl ?_); exact agr_rfl) ⟨?_, ?_⟩
                                  · exact ⟨by omega, hcm', hc0', hag', hhn', hT'.from_ From.rfl_, hC'.from_ From.rfl_, hB⟩
                                  · show n - (i + 1) < n - i; omega
                           · (try with_reducible first | replace Q14 := of_decide_eq_true Q14 | replace Q14 := of_decide_eq_false Q14 | replace Q14 := bn_t Q14 | replace Q14 := bn_f Q14)
                             (try with_reducible first | replace Q14 := of_decide_eq_true Q14 | replace Q14 := of_decide_eq_false Q14 | replace Q14 := bx_t Q14 | replace Q14 := bx_f Q14 | replace Q14 := be_t Q14 | replace Q14 := be_f Q14)
                             first
                              | (exfalso; first | omega | contradiction | (cases Q14; done))
                              | skip
                                refine cd_exit ?_
                                refine ex_then ?_
                                refine ex_then ?_
                                refine ex_block ?_
                                refine nx_then ?_
                                refine cd_seq ?_
                                refine cd_region ?_
                                refine st_val (ro_move (v := .slice _ _ _) rfl) ?_
                                refine st_val (ro_assign (v := .slice _ _ _) rfl) ?_
                                refine st_val (ro_assign (v := .int _ _) rfl) ?_
                                refine st_nil ?_
                                refine nx_then ?_
                                refine cd_ret ?_
                                refine res2 (v := .slice _ _ _) (v' := .int _ _) rfl rfl rfl ?_
                                obtain rfl : n = i := by omega
                                obtain ⟨C, hCm, hCv⟩ := CmI.fin hF (by rw [← hLn]; exact hcm)
                                have hCl := hCm.len
                                refine ⟨.inl ⟨L, F, C, _, hxs, hz, hL, hF, hCm, rfl, ?_⟩, hB⟩
                                refine own_of (cur := (List.range n).map fun i => iV (cm i)) hg53 (hC.from_ From.rfl_) (Nat.le_refl _) (by unfold maxLen; omega) (by simp) ?_
                                rw [Nat.mul_one, List.take_of_length_le (by simp)]
                                apply List.ext_getElem (by simp [hCl, hFl, hLn])
                                intro r h1 h2
                                have hr9 : r < n := by simpa using h1
                                rw [List.getElem_map, List.getElem_range, List.getElem_map, hCv r (by omega), List.getD_eq_getElem?_getD, List.getElem?_eq_getElem (by omega)]
                                rfl
end Go.Proofs.Ytgihpoggeaanjaa
