/- the reference: Back. -/
import Derived.Test.YtpafbgdbjambgaaBwtRef
namespace Go.Proofs.Ytpafbgdbjambgaa
open Go.RowKit
open Go.ChangeShapes Go.WideShapes Go.ChangeAt
open Go.Proofs.Ytpafbgdbjambgaa.SA
theorem BwtRefBack_e24 : elemQ Try.prog 24 = some (3, 1) := by kernel_rfl
theorem BwtRefBack_m24 : makeQ Try.prog 24 = some (3, 8, (.int .i64 0)) := by kernel_rfl
theorem BwtRefBack_q24 : litQ Try.prog 24 = some (3, 1, 8, (.int .i64 0)) := by kernel_rfl
theorem BwtRefBack_a47 : arrQ Try.prog 47 = some (513, 1) := by kernel_rfl
theorem BwtRefBack_za47 : zeroQ Try.prog 47 = some (.agg (List.replicate 513 (Value.int .i64 0)).toArray) := by kernel_rfl
theorem BwtRefBack_zc : (Value.agg (List.replicate 513 (Value.int .i64 0)).toArray).cells = (List.replicate 513 (Value.int .i64 0)).toArray := by kernel_rfl
theorem BwtRefBack_l24 : (elemQ Try.prog 24).isSome = true := by kernel_rfl
theorem BwtRefBack_k10 : callable Try.prog 10 = true := by kernel_rfl
theorem BwtRefBack_g3 : aggQ Try.prog 3 = some false := by kernel_rfl
theorem BwtRefBack_z3 : sizeQ Try.prog 3 = some 1 := by kernel_rfl
theorem BwtRefBack_k12 : callable Try.prog 12 = true := by kernel_rfl
theorem BwtRefBack_k13 : callable Try.prog 13 = true := by kernel_rfl
/-- what the reference's Back tells -/
def BackR (w' : World) (n : Nat) (at_ : Int) (xs : List Int) (v : Value) : Prop :=
  (∃ B a A' c', xs = cI B ∧ (∀ x ∈ B, x < 512) ∧ at_ = (a : Nat) ∧ a ≤ n ∧ Circ n (fun i => B.getD i 0) a ∧ v = .tuple #[.slice A' n c', .bool true] ∧ RowOf iV w' A' (cI (wl n (fun i => B.getD i 0) a))) ∨
  (Bad n at_ xs ∧ v = .tuple #[.slice none 0 0, .bool false])
theorem row_fl {w : World} {g n : Nat} {l : List Nat} {fl : Nat → Int} (h : Blk w g 3 (tabI n fl)) (hl : l.length = n) (hf : ∀ i, i < n → fl i = ((l.getD i 0 : Nat) : Int)) : RowOf iV w (some ⟨g, 0, none⟩) (cI l) := by
  rw [tabI_congr hf] at h
  exact RowOf.blk h fun i hi => by
    have h1 : i < n := by rw [List.length_map] at hi; omega
    rw [tabI_at h1]
    simp [cI, List.getD_eq_getElem?_getD, List.getElem?_eq_getElem (show i < l.length by omega)]
theorem bad_lt {n : Nat} {at_ : Int} {xs : List Int} (h : at_ < 0 ∨ (n : Int) < at_) : Bad n at_ xs := fun B a e1 e2 e3 e4 => by omega
theorem bad_sym {n : Nat} {at_ : Int} {xs : List Int} (h : xs.all (okS 512) = false) : Bad n at_ xs := fun B a e1 e2 e3 e4 => by
  rw [e1, cI, all_nat e2] at h
  cases h
set_option maxRecDepth 100000 in
set_option maxHeartbeats 6000000 in
theorem refBack_rt (at_ : Int) (A : Option Addr) (c n : Nat) (xs : List Int) (w : World) (hr : RowOf iV w A xs) (hn : n = xs.length) (hl : n ≤ 131072) :
    Rt Try.prog 17 [.int .i64 at_, .slice A n c] w (fun v w' => BackR w' n at_ xs v ∧ From w w') := by
  refine enter (n := 143) Try.func17 rfl rfl rfl ?_
  refine cd_seq ?_
  refine cd_region ?_
  refine st_val (ro_assign (v := .slice _ _ _) rfl) ?_
  refine st_val (ro_assign (v := .bool _) rfl) ?_
  refine st_nil ?_
  refine nx_then ?_
  refine cd_seq ?_
  refine cd_region ?_
  refine st_val (ro_move (v := .slice _ _ _) rfl) ?_
  refine st_val (ro_len BwtRefBack_l24 rfl) ?_
  refine st_val (ro_assign (v := .int _ _) rfl) ?_
  refine st_nil ?_
  refine nx_then ?_
  refine cd_seq ?_
  refine cd_seq ?_
  refine cd_region ?_
  refine st_val (ro_move (v := .int _ _) rfl) ?_
  refine st_val (ro_lss rfl rfl) ?_
  refine st_val (ro_move (v := .bool _) rfl) ?_
  refine st_split (t := 23) rfl (fun Q1 => ?_) (fun Q1 => ?_)
  · (try with_reducible first | replace Q1 := of_decide_eq_true Q1 | replace Q1 := of_decide_eq_false Q1 | replace Q1 := bn_t Q1 | replace Q1 := bn_f Q1)
    (try with_reducible first | replace Q1 := of_decide_eq_true Q1 | replace Q1 := of_decide_eq_false Q1 | replace Q1 := bx_t Q1 | replace Q1 := bx_f Q1 | replace Q1 := be_t Q1 | replace Q1 := be_f Q1)
    first
     | (exfalso; first | omega | contradiction | (cases Q1; done))
     | skip
       refine st_gno rfl rfl ?_
       refine st_gno rfl rfl ?_
       refine st_gno rfl rfl ?_
       refine st_val (ro_pickT (v := .bool _) rfl rfl) ?_
       refine st_val (ro_move (v := .bool _) rfl) ?_
       refine st_gno rfl rfl ?_
       refine st_gno rfl rfl ?_
       refine st_gno rfl rfl ?_
       refine st_val (ro_pickT (v := .bool _) rfl rfl) ?_
       refine st_val (ro_move (v := .bool _) rfl) ?_
       refine st_gno rfl rfl ?_
       refine st_gno rfl rfl ?_
       refine st_val (ro_pickT (v := .bool _) rfl rfl) ?_
       refine st_nil ?_
       refine nx_then ?_
       refine cd_condT rfl ?_
       refine cd_seq ?_
       refine cd_region ?_
       refine st_val (ro_assign (v := .slice _ _ _) rfl) ?_
       refine st_val (ro_assign (v := .bool _) rfl) ?_
       refine st_nil ?_
       refine nx_then ?_
       refine cd_ret ?_
       refine rt_then ?_
       refine res2 (v := .slice _ _ _) (v' := .bool _) rfl rfl rfl ?_
       exact ⟨.inr ⟨(by first | exact bad_lt (by omega) | exact bad_sym (by simp_all)), rfl⟩, From.rfl_⟩
  · (try with_reducible first | replace Q1 := of_decide_eq_true Q1 | replace Q1 := of_decide_eq_false Q1 | replace Q1 := bn_t Q1 | replace Q1 := bn_f Q1)
    (try with_reducible first | replace Q1 := of_decide_eq_true Q1 | replace Q1 := of_decide_eq_false Q1 | replace Q1 := bx_t Q1 | replace Q1 := bx_f Q1 | replace Q1 := be_t Q1 | replace Q1 := be_f Q1)
    first
     | (exfalso; first | omega | contradiction | (cases Q1; done))
     | skip
       refine st_unguard rfl ?_
       refine st_val (ro_move (v := .int _ _) rfl) ?_
       refine st_unguard rfl ?_
       refine st_val (ro_move (v := .int _ _) rfl) ?_
       refine st_unguard rfl ?_
       refine st_val (ro_gtr rfl rfl) ?_
       refine st_val (ro_pickF (v := .bool _) rfl rfl) ?_
       refine st_val (ro_move (v := .bool _) rfl) ?_
       refine st_split (t := 28) rfl (fun Q2 => ?_) (fun Q2 => ?_)
       · (try with_reducible first | replace Q2 := of_decide_eq_true Q2 | replace Q2 := of_decide_eq_false Q2 | replace Q2 := bn_t Q2 | replace Q2 := bn_f Q2)
         (try with_reducible first | replace Q2 := of_decide_eq_true Q2 | replace Q2 := of_decide_eq_false Q2 | replace Q2 := bx_t Q2 | replace Q2 := bx_f Q2 | replace Q2 := be_t Q2 | replace Q2 := be_f Q2)
         first
          | (exfalso; first | omega | contradiction | (cases Q2; done))
          | skip
            refine st_gno rfl rfl ?_
            refine st_gno rfl rfl ?_
            refine st_gno rfl rfl ?_
            refine st_val (ro_pickT (v := .bool _) rfl rfl) ?_
            refine st_val (ro_move (v := .bool _) rfl) ?_
            refine st_gno rfl rfl ?_
            refine st_gno rfl rfl ?_
            refine st_val (ro_pickT (v := .bool _) rfl rfl) ?_
            refine st_nil ?_
            refine nx_then ?_
            refine cd_condT rfl ?_
            refine cd_seq ?_
            refine cd_region ?_
            refine st_val (ro_assign (v := .slice _ _ _) rfl) ?_
            refine st_val (ro_assign (v := .bool _) rfl) ?_
            refine st_nil ?_
            refine nx_then ?_
            refine cd_ret ?_
            refine rt_then ?_
            refine res2 (v := .slice _ _ _) (v' := .bool _) rfl rfl rfl ?_
            exact ⟨.inr ⟨(by first | exact bad_lt (by omega) | exact bad_sym (by simp_all)), rfl⟩, From.rfl_⟩
       · (try with_reducible first | replace Q2 := of_decide_eq_true Q2 | replace Q2 := of_decide_eq_false Q2 | replace Q2 := bn_t Q2 | replace Q2 := bn_f Q2)
         (try with_reducible first | replace Q2 := of_decide_eq_true Q2 | replace Q2 := of_decide_eq_false Q2 | replace Q2 := bx_t Q2 | replace Q2 := bx_f Q2 | replace Q2 := be_t Q2 | replace Q2 := be_f Q2)
         first
          | (exfalso; first | omega | contradiction | (cases Q2; done))
          | skip
            refine st_unguard rfl ?_
            refine st_val (ro_move (v := .slice _ _ _) rfl) ?_
            refine st_unguard rfl ?_
            refine st_call BwtRefBack_k10 (may_rt 512 A c n xs _ (hr.from_ From.rfl_) hn (by omega)) ?_
            rintro v30 w3 ⟨rfl, E30⟩
            refine st_unguard rfl ?_
            refine st_val (ro_not rfl) ?_
            refine st_val (ro_pickF (v := .bool _) rfl rfl) ?_
            refine st_val (ro_move (v := .bool _) rfl) ?_
            refine st_split (t := 33) rfl (fun Q4 => ?_) (fun Q4 => ?_)
            · (try with_reducible first | replace Q4 := of_decide_eq_true Q4 | replace Q4 := of_decide_eq_false Q4 | replace Q4 := bn_t Q4 | replace Q4 := bn_f Q4)
              (try with_reducible first | replace Q4 := of_decide_eq_true Q4 | replace Q4 := of_decide_eq_false Q4 | replace Q4 := bx_t Q4 | replace Q4 := bx_f Q4 | replace Q4 := be_t Q4 | replace Q4 := be_f Q4)
              first
               | (exfalso; first | omega | contradiction | (cases Q4; done))
               | skip
                 refine st_gno rfl rfl ?_
                 refine st_gno rfl rfl ?_
                 refine st_val (ro_pickT (v := .bool _) rfl rfl) ?_
                 refine st_nil ?_
                 refine nx_then ?_
                 refine cd_condT rfl ?_
                 refine cd_seq ?_
                 refine cd_region ?_
                 refine st_val (ro_assign (v := .slice _ _ _) rfl) ?_
                 refine st_val (ro_assign (v := .bool _) rfl) ?_
                 refine st_nil ?_
                 refine nx_then ?_
                 refine cd_ret ?_
                 refine rt_then ?_
                 refine res2 (v := .slice _ _ _) (v' := .bool _) rfl rfl rfl ?_
                 exact ⟨.inr ⟨(by first | exact bad_lt (by omega) | exact bad_sym (by simp_all)), rfl⟩, (From.rfl_.next E30)⟩
            · (try with_reducible first | replace Q4 := of_decide_eq_true Q4 | replace Q4 := of_decide_eq_false Q4 | replace Q4 := bn_t Q4 | replace Q4 := bn_f Q4)
              (try with_reducible first | replace Q4 := of_decide_eq_true Q4 | replace Q4 := of_decide_eq_false Q4 | replace Q4 := bx_t Q4 | replace Q4 := bx_f Q4 | replace Q4 := be_t Q4 | replace Q4 := be_f Q4)
              first
               | (exfalso; first | omega | contradiction | (cases Q4; done))
               | skip
                 refine st_unguard rfl ?_
                 refine st_val (ro_move (v := .int _ _) rfl) ?_
                 refine st_unguard rfl ?_
                 refine st_val (ro_gtr rfl rfl) ?_
                 refine st_val (ro_pickF (v := .bool _) rfl rfl) ?_
                 refine st_nil ?_
                 refine nx_then ?_
                 refine cd_cond rfl (fun Q5 => ?_) (fun Q5 => ?_)
                 · (try with_reducible first | replace Q5 := of_decide_eq_true Q5 | replace Q5 := of_decide_eq_false Q5 | replace Q5 := bn_t Q5 | replace Q5 := bn_f Q5)
                   (try with_reducible first | replace Q5 := of_decide_eq_true Q5 | replace Q5 := of_decide_eq_false Q5 | replace Q5 := bx_t Q5 | replace Q5 := bx_f Q5 | replace Q5 := be_t Q5 | replace Q5 := be_f Q5)
                   have hbad : Bad n at_ xs := by
                     first
                       | exact bad_lt (by omega)
                       | exact bad_sym (by simp_all)
                   first
                    | (exfalso; first | omega | contradiction | (cases Q5; done))
                    | skip
                      refine cd_seq ?_
                      refine cd_region ?_
                      refine st_val (ro_assign (v := .slice _ _ _) rfl) ?_
                      refine st_val (ro_assign (v := .bool _) rfl) ?_
                      refine st_nil ?_
                      refine nx_then ?_
                      refine cd_ret ?_
                      refine rt_then ?_
                      refine res2 (v := .slice _ _ _) (v' := .bool _) rfl rfl rfl ?_
                      exact ⟨.inr ⟨(by first | exact bad_lt (by omega) | exact bad_sym (by simp_all)), rfl⟩, (From.rfl_.next E30)⟩
                 (try with_reducible first | replace Q5 := of_decide_eq_true Q5 | replace Q5 := of_decide_eq_false Q5 | replace Q5 := bn_t Q5 | replace Q5 := bn_f Q5)
                 (try with_reducible first | replace Q5 := of_decide_eq_true Q5 | replace Q5 := of_decide_eq_false Q5 | replace Q5 := bx_t Q5 | replace Q5 := bx_f Q5 | replace Q5 := be_t Q5 | replace Q5 := be_f Q5)
                 obtain ⟨B, hxs, hx⟩ := nat_list (xs := xs) (by simp_all)
                 obtain ⟨a, rfl⟩ : ∃ a : Nat, at_ = (a : Nat) := ⟨at_.toNat, by omega⟩
                 have ha : a ≤ n := by omega
                 have hrB : RowOf iV w A (cI B) := by rw [cI, ← hxs]; exact hr
                 have hBl : n = B.length := by rw [hn, hxs, List.length_map]
                 first
                  | (exfalso; first | omega | contradiction | (cases Q5; done))
                  | skip
                    refine cd_skip ?_
                    refine nx_then ?_
                    refine cd_seq ?_
                    refine cd_region ?_
                    refine st_alloc BwtRefBack_za47 ?_
                    intro b7 w6 E7 hb7 hk7
                    rw [BwtRefBack_zc] at hk7
                    have hg7 : w.heap.size ≤ b7 := by rw [hb7]; exact ((From.rfl_.next E30)).size
                    refine st_nil ?_
                    refine nx_then ?_
                    refine cd_seq ?_
                    refine cd_seq ?_
                    refine cd_region ?_
                    refine st_val (ro_assign (v := .int _ _) rfl) ?_
                    refine st_nil ?_
                    refine nx_then ?_
                    refine cd_block ?_
                    refine cd_loop (G := Nat) [37, 38, 39, 40, 41, 42, 43, 44, 45, 46, 47, 48, 49, 50] (fun i => [(8, .int .i64 (i : Nat))]) (fun i w' => i ≤ n ∧ Blk w' b7 47 (tabI 513 fun x => ((ctT (fun i => B.getD i 0) i x : Nat) : Int)) ∧ From w w') (fun i => n - i) (0) ⟨rfl, trivial⟩ ?_ ?_
                    · exact ⟨Nat.zero_le _, by rw [tabI_congr (g := fun _ => 0) (fun x _ => by rw [ct_zero]; rfl), ← tabI_zero]; exact hk7, ((From.rfl_.next E30).next E7)⟩
                    rintro i ρ7 w7 ⟨hi, hT, hB⟩
                    refine cd_seq ?_
                    refine cd_seq ?_
                    refine cd_region ?_
                    refine st_val (ro_move (v := .int _ _) rfl) ?_
                    refine st_val (ro_move (v := .int _ _) rfl) ?_
                    refine st_val (ro_lss rfl rfl) ?_
                    refine st_nil ?_
                    refine nx_then ?_
                    refine cd_cond rfl (fun Q8 => ?_) (fun Q8 => ?_)
                    · (try with_reducible first | replace Q8 := of_decide_eq_true Q8 | replace Q8 := of_decide_eq_false Q8 | replace Q8 := bn_t Q8 | replace Q8 := bn_f Q8)
                      (try with_reducible first | replace Q8 := of_decide_eq_true Q8 | replace Q8 := of_decide_eq_false Q8 | replace Q8 := bx_t Q8 | replace Q8 := bx_f Q8 | replace Q8 := be_t Q8 | replace Q8 := be_f Q8)
                      obtain ⟨b, o, rfl, hc⟩ := rowD hrB (by omega)
                      have hs1 := symb_get hx i
                      have hct := ct_le (b := fun i => B.getD i 0) i (B.getD i 0 + 1)
                      first
                       | (exfalso; first | omega | contradiction | (cases Q8; done))
                       | skip
                         refine cd_skip ?_
                         refine nx_then ?_
                         refine cd_seq ?_
                         refine cd_block ?_
                         refine cd_region ?_
                         refine st_val (ro_move (v := .slice _ _ _) rfl) ?_
                         refine st_val (ro_move (v := .int _ _) rfl) ?_
                         refine st_val (ro_indexAddr1 BwtRefBack_e24 rfl rfl (by omega)) ?_
                         refine st_val (ro_load BwtRefBack_g3 rfl (by exact cellF hB (hc i (by omega)))) ?_
                         refine st_val (ro_addN (b := 1) rfl rfl (by omega)) ?_
                         refine st_val (ro_arr (i := B.getD i 0 + 1) BwtRefBack_a47 rfl rfl (by omega)) ?_
                         refine st_val (ro_load BwtRefBack_g3 rfl (by exact hT.rd _ (tabI_at (by omega)))) ?_
                         refine st_val (ro_addN (b := 1) rfl rfl (by omega)) ?_
                         refine st_val (ro_arr (i := B.getD i 0 + 1) BwtRefBack_a47 rfl rfl (by omega)) ?_
                         refine st_put (v := .int _ _) BwtRefBack_z3 rfl rfl rfl (hT) (by rw [tabI_size]; omega) ?_
                         intro w9 O8 P8
                         have P8b : Blk w9 b7 47 (tabI 513 fun x => ((ctT (fun i => B.getD i 0) (i + 1) x : Nat) : Int)) := by rw [← tabI_congr (fun x _ => ct_step rfl x), ← tabI_set]; exact P8
                         refine st_nil ?_
                         refine nx_block ?_
                         refine nx_then ?_
                         refine cd_region ?_
                         refine st_val (ro_move (v := .int _ _) rfl) ?_
                         refine st_val (ro_addN (b := 1) rfl rfl (by omega)) ?_
                         refine st_val (ro_assign (v := .int _ _) rfl) ?_
                         refine st_nil ?_
                         refine nx_cut (i + 1) ⟨(by first | rfl | (refine int_eq ?_; omega)), trivial⟩ (by (iterate 30 refine agr_cons rfl ?_); exact agr_rfl) ⟨?_, ?_⟩
                         · exact ⟨by omega, P8b.from_ From.rfl_, (hB.only O8 (hg7))⟩
                         · show n - (i + 1) < n - i; omega
                    (try with_reducible first | replace Q8 := of_decide_eq_true Q8 | replace Q8 := of_decide_eq_false Q8 | replace Q8 := bn_t Q8 | replace Q8 := bn_f Q8)
                    (try with_reducible first | replace Q8 := of_decide_eq_true Q8 | replace Q8 := of_decide_eq_false Q8 | replace Q8 := bx_t Q8 | replace Q8 := bx_f Q8 | replace Q8 := be_t Q8 | replace Q8 := be_f Q8)
                    obtain rfl : n = i := by omega
                    first
                     | (exfalso; first | omega | contradiction | (cases Q8; done))
                     | skip
                       refine cd_exit ?_
                       refine ex_then ?_
                       refine ex_then ?_
                       refine ex_block ?_
                       refine nx_then ?_
                       refine cd_seq ?_
                       refine cd_seq ?_
                       refine cd_region ?_
                       refine st_val (ro_assign (v := .int _ _) rfl) ?_
                       refine st_nil ?_
                       refine nx_then ?_
                       refine cd_block ?_
                       refine cd_loop (G := Nat) [51, 52, 53, 54, 55, 56, 57, 58, 59, 60, 61, 62, 63, 64, 65] (fun c => [(9, .int .i64 (c : Nat))]) (fun c w' => c ≤ 512 ∧ Blk w' b7 47 (tabI 513 fun x => ((smT 0 n (fun i => B.getD i 0) c x : Nat) : Int)) ∧ From w w') (fun c => 512 - c) (0) ⟨rfl, trivial⟩ ?_ ?_
                       · exact ⟨Nat.zero_le _, by rw [← tabI_congr (fun x _ => sm_nul x)]; exact hT.from_ From.rfl_, hB⟩
                       rintro k ρ10 w10 ⟨hk, hT, hB⟩
                       refine cd_seq ?_
                       refine cd_seq ?_
                       refine cd_region ?_
                       refine st_val (ro_move (v := .int _ _) rfl) ?_
                       refine st_val (ro_lss rfl rfl) ?_
                       refine st_nil ?_
                       refine nx_then ?_
                       refine cd_cond rfl (fun Q11 => ?_) (fun Q11 => ?_)
                       · (try with_reducible first | replace Q11 := of_decide_eq_true Q11 | replace Q11 := of_decide_eq_false Q11 | replace Q11 := bn_t Q11 | replace Q11 := bn_f Q11)
                         (try with_reducible first | replace Q11 := of_decide_eq_true Q11 | replace Q11 := of_decide_eq_false Q11 | replace Q11 := bx_t Q11 | replace Q11 := bx_f Q11 | replace Q11 := be_t Q11 | replace Q11 := be_f Q11)
                         have ho1 := occ_le (b := fun i => B.getD i 0) n k
                         have hl1 := les_le (n := n) (b := fun i => B.getD i 0) k
                         first
                          | (exfalso; first | omega | contradiction | (cases Q11; done))
                          | skip
                            refine cd_skip ?_
                            refine nx_then ?_
                            refine cd_seq ?_
                            refine cd_block ?_
                            apply cd_drawn 11 [(55, eqp _), (56, eqp _), (57, eqp _), (58, eqp _), (59, eqp _), (60, eqp _), (61, eqp _), (62, eqp _), (63, eqp _), (64, eqp _), (65, eqp _)] (by kernel_rfl) (by kernel_rfl) ⟨eqp_mono _, eqp_mono _, eqp_mono _, eqp_mono _, eqp_mono _, eqp_mono _, eqp_mono _, eqp_mono _, eqp_mono _, eqp_mono _, eqp_mono _, trivial⟩
                            case hop =>
                             refine ⟨?_, ?_⟩
                             · intro w13 D13
                               show OpOK _ _ _ _ _ _ _
                               exact ok_pure (ro_move (v := .int _ _) rfl) rfl
                             refine ⟨?_, ?_⟩
                             · intro w14 D14
                               rintro _ rfl
                               show OpOK _ _ _ _ _ _ _
                               exact ok_pure (ro_addN (b := 1) rfl rfl (by omega)) rfl
                             refine ⟨?_, ?_⟩
                             · intro w15 D15
                               show OpOK _ _ _ _ _ _ _
                               exact ok_pure (ro_move (v := .int _ _) rfl) rfl
                             refine ⟨?_, ?_⟩
                             · intro w16 D16
                               rintro _ rfl
                               show OpOK _ _ _ _ _ _ _
                               exact ok_pure (ro_addN (b := 1) rfl rfl (by omega)) rfl
                             refine ⟨?_, ?_⟩
                             · intro w17 D17
                               rintro _ rfl
                               show OpOK _ _ _ _ _ _ _
                               exact ok_pure (ro_arr (i := k + 1) BwtRefBack_a47 rfl rfl (by omega)) rfl
                             refine ⟨?_, ?_⟩
                             · intro w18 D18
                               rintro _ rfl
                               show OpOK _ _ _ _ _ _ _
                               exact ok_pure (ro_load BwtRefBack_g3 rfl (by exact (hT.from_ (From.rfl_.next D18)).rd _ (by rw [tabI_at (by omega), sm_nx]))) rfl
                             refine ⟨?_, ?_⟩
                             · intro w19 D19
                               show OpOK _ _ _ _ _ _ _
                               exact ok_pure (ro_move (v := .int _ _) rfl) rfl
                             refine ⟨?_, ?_⟩
                             · intro w20 D20
                               rintro _ rfl
                               show OpOK _ _ _ _ _ _ _
                               exact ok_pure (ro_arr (i := k) BwtRefBack_a47 rfl rfl (by omega)) rfl
                             refine ⟨?_, ?_⟩
                             · intro w21 D21
                               rintro _ rfl
                               show OpOK _ _ _ _ _ _ _
                               exact ok_pure (ro_load BwtRefBack_g3 rfl (by exact (hT.from_ (From.rfl_.next D21)).rd _ (by rw [tabI_at (by omega), sm_at]))) rfl
                             refine ⟨?_, ?_⟩
                             · intro w22 D22
                               rintro _ rfl _ rfl
                               show OpOK _ _ _ _ _ _ _
                               exact ok_pure (ro_addN rfl rfl (by omega)) rfl
                             refine ⟨?_, ?_⟩
                             · intro w23 D23
                               rintro _ rfl
                               show OpOK _ _ _ _ _ _ _
                               exact ok_pure (ro_arr (i := k + 1) BwtRefBack_a47 rfl rfl (by omega)) rfl
                             exact trivial
                            case hend =>
                             intro w24 D24
                             rintro _ rfl _ rfl _ rfl _ rfl _ rfl _ rfl _ rfl _ rfl _ rfl _ rfl _ rfl
                             show St _ _ _ _ _ _ _
                             refine st_put (v := .int _ _) BwtRefBack_z3 rfl rfl rfl ((hT.from_ (From.rfl_.next D24))) (by rw [tabI_size]; omega) ?_
                             intro w25 O12 P12
                             have P12b : Blk w25 b7 47 (tabI 513 fun x => ((smT 0 n (fun i => B.getD i 0) (k + 1) x : Nat) : Int)) := by rw [← tabI_congr (fun x _ => sm_step x), ← tabI_set]; exact P12
                             refine st_nil ?_
                             refine nx_block ?_
                             refine nx_then ?_
                             refine cd_region ?_
                             refine st_val (ro_move (v := .int _ _) rfl) ?_
                             refine st_val (ro_addN (b := 1) rfl rfl (by omega)) ?_
                             refine st_val (ro_assign (v := .int _ _) rfl) ?_
                             refine st_nil ?_
                             refine nx_cut (k + 1) ⟨(by first | rfl | (refine int_eq ?_; omega)), trivial⟩ (by (iterate 32 refine agr_cons rfl ?_); exact agr_rfl) ⟨?_, ?_⟩
                             · exact ⟨by omega, P12b.from_ From.rfl_, ((hB.next D24).only O12 (hg7))⟩
                             · show 512 - (k + 1) < 512 - k; omega
                       (try with_reducible first | replace Q11 := of_decide_eq_true Q11 | replace Q11 := of_decide_eq_false Q11 | replace Q11 := bn_t Q11 | replace Q11 := bn_f Q11)
                       (try with_reducible first | replace Q11 := of_decide_eq_true Q11 | replace Q11 := of_decide_eq_false Q11 | replace Q11 := bx_t Q11 | replace Q11 := bx_f Q11 | replace Q11 := be_t Q11 | replace Q11 := be_f Q11)
                       have hT512 : Blk w10 b7 47 (tabI 513 fun x => ((smT 0 n (fun i => B.getD i 0) 512 x : Nat) : Int)) := by rw [show k = 512 by omega] at hT; exact hT
                       first
                        | (exfalso; first | omega | contradiction | (cases Q11; done))
                        | skip
                          refine cd_exit ?_
                          refine ex_then ?_
                          refine ex_then ?_
                          refine ex_block ?_
                          refine nx_then ?_
                          refine cd_seq ?_
                          refine cd_region ?_
                          refine st_val (ro_move (v := .int _ _) rfl) ?_
                          refine st_val (ro_addN (b := 1) rfl rfl (by omega)) ?_
                          refine st_make BwtRefBack_m24 rfl rfl rfl (by omega) (by omega) ?_
                          intro b68 w26 E68 hb68 hk68
                          have hg68 : w.heap.size ≤ b68 := by rw [hb68]; exact (hB).size
                          have h768 : b7 < b68 := by rw [hb68]; exact hT512.lt
                          refine st_val (ro_assign (v := .slice _ _ _) rfl) ?_
                          refine st_nil ?_
                          refine nx_then ?_
                          refine cd_seq ?_
                          refine cd_seq ?_
                          refine cd_region ?_
                          refine st_val (ro_assign (v := .int _ _) rfl) ?_
                          refine st_nil ?_
                          refine nx_then ?_
                          refine cd_block ?_
                          refine cd_loop (G := Nat) [12, 69, 70, 71, 72, 73, 74, 75, 76, 77, 78, 79, 80, 81, 82, 83, 84, 85, 86, 87, 88, 89, 90, 91, 92, 93, 94, 95, 96, 97] (fun i => [(11, .int .i64 (i : Nat))]) (fun i w' => i ≤ n ∧ Blk w' b7 47 (tabI 513 fun x => ((frT 0 n (fun i => B.getD i 0) i x : Nat) : Int)) ∧ Blk w' b68 3 (tabI (n + 1) fun r => ((nxR n (fun i => B.getD i 0) a i r : Nat) : Int)) ∧ From w w') (fun i => n - i) (0) ⟨rfl, trivial⟩ ?_ ?_
                          · exact ⟨Nat.zero_le _, by rw [← tabI_congr (fun x hx => fr_zero hx)]; exact hT512.from_ (From.rfl_.next E68), by rw [tabI_congr (g := fun _ => 0) (fun x _ => by rw [nxR_zero]; rfl), ← tabI_zero]; exact hk68, (hB.next E68)⟩
                          rintro i ρ27 w27 ⟨hi, hT, hN, hB⟩
                          refine cd_seq ?_
                          refine cd_seq ?_
                          refine cd_region ?_
                          refine st_val (ro_move (v := .int _ _) rfl) ?_
                          refine st_val (ro_move (v := .int _ _) rfl) ?_
                          refine st_val (ro_lss rfl rfl) ?_
                          refine st_nil ?_
                          refine nx_then ?_
                          refine cd_cond rfl (fun Q28 => ?_) (fun Q28 => ?_)
                          · (try with_reducible first | replace Q28 := of_decide_eq_true Q28 | replace Q28 := of_decide_eq_false Q28 | replace Q28 := bn_t Q28 | replace Q28 := bn_f Q28)
                            (try with_reducible first | replace Q28 := of_decide_eq_true Q28 | replace Q28 := of_decide_eq_false Q28 | replace Q28 := bx_t Q28 | replace Q28 := bx_f Q28 | replace Q28 := be_t Q28 | replace Q28 := be_f Q28)
                            obtain ⟨b, o, rfl, hc⟩ := rowD hrB (by omega)
                            have hs1 := symb_get hx i
                            first
                             | (exfalso; first | omega | contradiction | (cases Q28; done))
                             | skip
                               refine cd_skip ?_
                               refine nx_then ?_
                               refine cd_seq ?_
                               refine cd_block ?_
                               refine cd_seq ?_
                               refine cd_region ?_
                               refine st_val (ro_move (v := .int _ _) rfl) ?_
                               refine st_val (ro_assign (v := .int _ _) rfl) ?_
                               refine st_nil ?_
                               refine nx_then ?_
                               refine cd_cut (G := Nat) [75, 76, 77, 78, 79] (fun r => [(12, .int .i64 (r : Nat))]) (fun r w' => sy a r = i ∧ r ≠ a ∧ r ≤ n ∧ w27 = w') ?_ ?_
                               · refine cd_seq ?_
                                 refine cd_region ?_
                                 refine st_val (ro_move (v := .int _ _) rfl) ?_
                                 refine st_val (ro_move (v := .int _ _) rfl) ?_
                                 refine st_val (ro_geq rfl rfl) ?_
                                 refine st_nil ?_
                                 refine nx_then ?_
                                 refine cd_cond rfl (fun Q29 => ?_) (fun Q29 => ?_)
                                 · (try with_reducible first | replace Q29 := of_decide_eq_true Q29 | replace Q29 := of_decide_eq_false Q29 | replace Q29 := bn_t Q29 | replace Q29 := bn_f Q29)
                                   (try with_reducible first | replace Q29 := of_decide_eq_true Q29 | replace Q29 := of_decide_eq_false Q29 | replace Q29 := bx_t Q29 | replace Q29 := bx_f Q29 | replace Q29 := be_t Q29 | replace Q29 := be_f Q29)
                                   first
                                    | (exfalso; first | omega | contradiction | (cases Q29; done))
                                    | skip
                                      refine cd_region ?_
                                      refine st_val (ro_move (v := .int _ _) rfl) ?_
                                      refine st_val (ro_addN (b := 1) rfl rfl (by omega)) ?_
                                      refine st_val (ro_assign (v := .int _ _) rfl) ?_
                                      refine st_nil ?_
                                      refine nx_cut (i + 1) ⟨(by first | rfl | (refine int_eq ?_; omega)), trivial⟩ (by (iterate 6 refine agr_cons rfl ?_); exact agr_rfl) ?_
                                      exact ⟨by rw [sy_gt (by omega)]; rfl, by omega, by omega, rfl⟩
                                 (try with_reducible first | replace Q29 := of_decide_eq_true Q29 | replace Q29 := of_decide_eq_false Q29 | replace Q29 := bn_t Q29 | replace Q29 := bn_f Q29)
                                 (try with_reducible first | replace Q29 := of_decide_eq_true Q29 | replace Q29 := of_decide_eq_false Q29 | replace Q29 := bx_t Q29 | replace Q29 := bx_f Q29 | replace Q29 := be_t Q29 | replace Q29 := be_f Q29)
                                 first
                                  | (exfalso; first | omega | contradiction | (cases Q29; done))
                                  | skip
                                    refine cd_skip ?_
                                    refine nx_cut (i) ⟨(by first | rfl | (refine int_eq ?_; omega)), trivial⟩ (by (iterate 3 refine agr_cons rfl ?_); exact agr_rfl) ?_
                                    exact ⟨by rw [sy_le (by omega)], by omega, by omega, rfl⟩
                               rintro r ρ30 w30 ⟨hsy, hra, hrn, rfl⟩
                               have hv : 1 + (0 + les n (fun i => B.getD i 0) (B.getD i 0) + occ (fun i => B.getD i 0) i (B.getD i 0)) = lf n (fun i => B.getD i 0) a r := by
                                 rw [← lf_val ha hrn hra (c := B.getD i 0) (by rw [hsy]), hsy]; omega
                               have ho1 := occ_le (b := fun i => B.getD i 0) i (B.getD i 0)
                               have hl1 := les_le (n := n) (b := fun i => B.getD i 0) (B.getD i 0)
                               refine cd_seq ?_
                               refine cd_region ?_
                               refine st_val (ro_move (v := .slice _ _ _) rfl) ?_
                               refine st_val (ro_move (v := .int _ _) rfl) ?_
                               refine st_val (ro_move (v := .slice _ _ _) rfl) ?_
                               refine st_val (ro_move (v := .int _ _) rfl) ?_
                               refine st_val (ro_indexAddr1 BwtRefBack_e24 rfl rfl (by omega)) ?_
                               refine st_val (ro_load BwtRefBack_g3 rfl (by exact cellF hB (hc i (by omega)))) ?_
                               refine st_val (ro_arr (i := B.getD i 0) BwtRefBack_a47 rfl rfl (by omega)) ?_
                               refine st_val (ro_load BwtRefBack_g3 rfl (by exact (hT.from_ From.rfl_).rd _ (by rw [tabI_at (by omega), fr_at hs1]))) ?_
                               refine st_val (ro_addN (a := 1) rfl rfl (by omega)) ?_
                               refine st_val (ro_indexAddr0 BwtRefBack_e24 rfl rfl (by omega)) ?_
                               refine st_put (v := .int _ _) BwtRefBack_z3 rfl rfl rfl (hN) (by rw [tabI_size]; omega) ?_
                               intro w31 O20 P20
                               have hT20 := hT.only O20 (by omega)
                               have N20 : Blk w31 b68 3 (tabI (n + 1) fun x => ((nxR n (fun i => B.getD i 0) a (i + 1) x : Nat) : Int)) := by rw [← tabI_congr (fun x _ => nxR_step hsy hra hv x), ← tabI_set]; exact P20
                               refine st_nil ?_
                               refine nx_then ?_
                               refine cd_region ?_
                               refine st_val (ro_move (v := .slice _ _ _) rfl) ?_
                               refine st_val (ro_move (v := .int _ _) rfl) ?_
                               refine st_val (ro_indexAddr1 BwtRefBack_e24 rfl rfl (by omega)) ?_
                               refine st_val (ro_load BwtRefBack_g3 rfl (by exact cellF (hB.only O20 (hg68)) (hc i (by omega)))) ?_
                               refine st_val (ro_arr (i := B.getD i 0) BwtRefBack_a47 rfl rfl (by omega)) ?_
                               refine st_val (ro_load BwtRefBack_g3 rfl (by exact (hT20.from_ From.rfl_).rd _ (by rw [tabI_at (by omega), fr_at hs1]))) ?_
                               refine st_val (ro_addN (b := 1) rfl rfl (by omega)) ?_
                               refine st_val (ro_arr (i := B.getD i 0) BwtRefBack_a47 rfl rfl (by omega)) ?_
                               refine st_put (v := .int _ _) BwtRefBack_z3 rfl rfl rfl (hT20) (by rw [tabI_size]; omega) ?_
                               intro w32 O21 P21
                               have P21b : Blk w32 b7 47 (tabI 513 fun x => ((frT 0 n (fun i => B.getD i 0) (i + 1) x : Nat) : Int)) := by rw [← tabI_congr (fun x _ => fr_step (o := 0) (n := n) (b := fun i => B.getD i 0) (i := i) rfl hs1 x), ← tabI_set]; exact P21
                               have N21 := N20.only O21 (by omega)
                               refine st_nil ?_
                               refine nx_block ?_
                               refine nx_then ?_
                               refine cd_region ?_
                               refine st_val (ro_move (v := .int _ _) rfl) ?_
                               refine st_val (ro_addN (b := 1) rfl rfl (by omega)) ?_
                               refine st_val (ro_assign (v := .int _ _) rfl) ?_
                               refine st_nil ?_
                               refine nx_cut (i + 1) ⟨(by first | rfl | (refine int_eq ?_; omega)), trivial⟩ (by (iterate 63 refine agr_cons rfl ?_); exact agr_rfl) ⟨?_, ?_⟩
                               · exact ⟨by omega, P21b.from_ From.rfl_, N21.from_ From.rfl_, ((hB.only O20 (hg68)).only O21 (hg7))⟩
                               · show n - (i + 1) < n - i; omega
                          (try with_reducible first | replace Q28 := of_decide_eq_true Q28 | replace Q28 := of_decide_eq_false Q28 | replace Q28 := bn_t Q28 | replace Q28 := bn_f Q28)
                          (try with_reducible first | replace Q28 := of_decide_eq_true Q28 | replace Q28 := of_decide_eq_false Q28 | replace Q28 := bx_t Q28 | replace Q28 := bx_f Q28 | replace Q28 := be_t Q28 | replace Q28 := be_f Q28)
                          have hNl : Blk w27 b68 3 (tabI (n + 1) fun r => ((lf n (fun i => B.getD i 0) a r : Nat) : Int)) := by
                            rw [show i = n by omega] at hN
                            rw [tabI_congr (g := fun r => ((nxR n (fun i => B.getD i 0) a n r : Nat) : Int)) (fun x hx => by rw [nxR_all ha (by omega)])]
                            exact hN
                          first
                           | (exfalso; first | omega | contradiction | (cases Q28; done))
                           | skip
                             refine cd_exit ?_
                             refine ex_then ?_
                             refine ex_then ?_
                             refine ex_block ?_
                             refine nx_then ?_
                             refine cd_seq ?_
                             refine cd_region ?_
                             refine st_val (ro_move (v := .int _ _) rfl) ?_
                             refine st_make BwtRefBack_m24 rfl rfl rfl (by omega) (by omega) ?_
                             intro b99 w33 E99 hb99 hk99
                             have hg99 : w.heap.size ≤ b99 := by rw [hb99]; exact (hB).size
                             have h6899 : b68 < b99 := by rw [hb99]; exact hNl.lt
                             refine st_val (ro_assign (v := .slice _ _ _) rfl) ?_
                             refine st_nil ?_
                             refine nx_then ?_
                             refine cd_seq ?_
                             refine cd_region ?_
                             refine st_val (ro_assign (v := .int _ _) rfl) ?_
                             refine st_nil ?_
                             refine nx_then ?_
                             refine cd_seq ?_
                             refine cd_seq ?_
                             refine cd_region ?_
                             refine st_val (ro_move (v := .int _ _) rfl) ?_
                             refine st_val (ro_sub64 rfl rfl (by omega)) ?_
                             refine st_val (ro_assign (v := .int _ _) rfl) ?_
                             refine st_nil ?_
                             refine nx_then ?_
                             refine cd_block ?_
                             refine cd_loop (G := Nat × (Nat → Int)) [4, 5, 16, 102, 103, 104, 105, 106, 107, 108, 109, 110, 111, 112, 113, 114, 115, 116, 117, 118, 119, 120, 121, 122, 123, 124, 125] (fun (m, _) => [(14, .int .i64 ((wk n (fun i => B.getD i 0) a (n - m) : Nat) : Int)), (15, .int .i64 (((m : Nat) : Int) - 1))]) (fun (m, fl) w' => m ≤ n ∧ (∀ j, j < n - m → wk n (fun i => B.getD i 0) a j ≠ a) ∧ (∀ i, m ≤ i → i < n → fl i = (((wl n (fun i => B.getD i 0) a).getD i 0 : Nat) : Int)) ∧ Blk w' b99 3 (tabI n fl) ∧ Blk w' b68 3 (tabI (n + 1) fun r => ((lf n (fun i => B.getD i 0) a r : Nat) : Int)) ∧ From w w') (fun (m, _) => m) ((n, fun _ => 0)) ⟨(int_eq (by rw [Nat.sub_self]; rfl)), rfl, trivial⟩ ?_ ?_
                             · exact ⟨Nat.le_refl _, fun j h => absurd h (by omega), fun i h1 h2 => absurd h2 (by omega), by rw [← tabI_zero]; exact hk99, hNl.from_ (From.rfl_.next E99), (hB.next E99)⟩
                             rintro ⟨m, fl⟩ ρ34 w34 ⟨hm, hne, hfl, hT, hN, hB⟩
                             refine cd_seq ?_
                             refine cd_seq ?_
                             refine cd_region ?_
                             refine st_val (ro_move (v := .int _ _) rfl) ?_
                             refine st_val (ro_geq rfl rfl) ?_
                             refine st_nil ?_
                             refine nx_then ?_
                             refine cd_cond rfl (fun Q35 => ?_) (fun Q35 => ?_)
                             · (try with_reducible first | replace Q35 := of_decide_eq_true Q35 | replace Q35 := of_decide_eq_false Q35 | replace Q35 := bn_t Q35 | replace Q35 := bn_f Q35)
                               (try with_reducible first | replace Q35 := of_decide_eq_true Q35 | replace Q35 := of_decide_eq_false Q35 | replace Q35 := bx_t Q35 | replace Q35 := bx_f Q35 | replace Q35 := be_t Q35 | replace Q35 := be_f Q35)
                               have h0m : 0 < m := by omega
                               have hwl := wk_le (n := n) (b := (fun i => B.getD i 0)) ha (n - m)
                               obtain ⟨b, o, rfl, hc⟩ := rowD hrB (by omega)
                               first
                                | (exfalso; first | omega | contradiction | (cases Q35; done))
                                | skip
                                  refine cd_skip ?_
                                  refine nx_then ?_
                                  refine cd_seq ?_
                                  refine cd_block ?_
                                  refine cd_seq ?_
                                  refine cd_seq ?_
                                  refine cd_region ?_
                                  refine st_val (ro_move (v := .int _ _) rfl) ?_
                                  refine st_val (ro_move (v := .int _ _) rfl) ?_
                                  refine st_val (ro_eql rfl rfl) ?_
                                  refine st_nil ?_
                                  refine nx_then ?_
                                  refine cd_cond rfl (fun Q36 => ?_) (fun Q36 => ?_)
                                  · (try with_reducible first | replace Q36 := of_decide_eq_true Q36 | replace Q36 := of_decide_eq_false Q36 | replace Q36 := bn_t Q36 | replace Q36 := bn_f Q36)
                                    (try with_reducible first | replace Q36 := of_decide_eq_true Q36 | replace Q36 := of_decide_eq_false Q36 | replace Q36 := bx_t Q36 | replace Q36 := bx_f Q36 | replace Q36 := be_t Q36 | replace Q36 := be_f Q36)
                                    have hbad : Bad n (a : Int) xs := fun B2 a2 e1 e2 e3 e4 hc => by
                                      obtain rfl := cI_inj (hxs.symm.trans e1)
                                      obtain rfl : a = a2 := by omega
                                      exact hc.1 (n - m) (by omega) (by omega)
                                    first
                                     | (exfalso; first | omega | contradiction | (cases Q36; done))
                                     | skip
                                       refine cd_seq ?_
                                       refine cd_region ?_
                                       refine st_val (ro_assign (v := .slice _ _ _) rfl) ?_
                                       refine st_val (ro_assign (v := .bool _) rfl) ?_
                                       refine st_nil ?_
                                       refine nx_then ?_
                                       refine cd_ret ?_
                                       refine rt_then ?_
                                       refine rt_block ?_
                                       refine rt_then ?_
                                       refine rt_then ?_
                                       refine rt_block ?_
                                       refine rt_then ?_
                                       refine res2 (v := .slice _ _ _) (v' := .bool _) rfl rfl rfl ?_
                                       exact ⟨.inr ⟨hbad, rfl⟩, hB⟩
                                  (try with_reducible first | replace Q36 := of_decide_eq_true Q36 | replace Q36 := of_decide_eq_false Q36 | replace Q36 := bn_t Q36 | replace Q36 := bn_f Q36)
                                  (try with_reducible first | replace Q36 := of_decide_eq_true Q36 | replace Q36 := of_decide_eq_false Q36 | replace Q36 := bx_t Q36 | replace Q36 := bx_f Q36 | replace Q36 := be_t Q36 | replace Q36 := be_f Q36)
                                  have hwa : wk n (fun i => B.getD i 0) a (n - m) ≠ a := by omega
                                  have hsl := sy_lt ha hwl hwa
                                  first
                                   | (exfalso; first | omega | contradiction | (cases Q36; done))
                                   | skip
                                     refine cd_skip ?_
                                     refine nx_then ?_
                                     refine cd_seq ?_
                                     refine cd_region ?_
                                     refine st_val (ro_move (v := .int _ _) rfl) ?_
                                     refine st_val (ro_assign (v := .int _ _) rfl) ?_
                                     refine st_nil ?_
                                     refine nx_then ?_
                                     refine cd_cut (G := Unit) [110, 111, 112, 113, 114] (fun _ => [(16, .int .i64 ((sy a (wk n (fun i => B.getD i 0) a (n - m)) : Nat) : Int))]) (fun _ w' => w34 = w') ?_ ?_
                                     · refine cd_seq ?_
                                       refine cd_region ?_
                                       refine st_val (ro_move (v := .int _ _) rfl) ?_
                                       refine st_val (ro_move (v := .int _ _) rfl) ?_
                                       refine st_val (ro_gtr rfl rfl) ?_
                                       refine st_nil ?_
                                       refine nx_then ?_
                                       refine cd_cond rfl (fun Q37 => ?_) (fun Q37 => ?_)
                                       · (try with_reducible first | replace Q37 := of_decide_eq_true Q37 | replace Q37 := of_decide_eq_false Q37 | replace Q37 := bn_t Q37 | replace Q37 := bn_f Q37)
                                         (try with_reducible first | replace Q37 := of_decide_eq_true Q37 | replace Q37 := of_decide_eq_false Q37 | replace Q37 := bx_t Q37 | replace Q37 := bx_f Q37 | replace Q37 := be_t Q37 | replace Q37 := be_f Q37)
                                         first
                                          | (exfalso; first | omega | contradiction | (cases Q37; done))
                                          | skip
                                            refine cd_region ?_
                                            refine st_val (ro_move (v := .int _ _) rfl) ?_
                                            refine st_val (ro_subN (b := 1) rfl rfl (by omega)) ?_
                                            refine st_val (ro_assign (v := .int _ _) rfl) ?_
                                            refine st_nil ?_
                                            refine nx_cut (()) ⟨(int_eq (by rw [sy_gt (by omega)])), trivial⟩ (by (iterate 6 refine agr_cons rfl ?_); exact agr_rfl) ?_
                                            exact rfl
                                       (try with_reducible first | replace Q37 := of_decide_eq_true Q37 | replace Q37 := of_decide_eq_false Q37 | replace Q37 := bn_t Q37 | replace Q37 := bn_f Q37)
                                       (try with_reducible first | replace Q37 := of_decide_eq_true Q37 | replace Q37 := of_decide_eq_false Q37 | replace Q37 := bx_t Q37 | replace Q37 := bx_f Q37 | replace Q37 := be_t Q37 | replace Q37 := be_f Q37)
                                       first
                                        | (exfalso; first | omega | contradiction | (cases Q37; done))
                                        | skip
                                          refine cd_skip ?_
                                          refine nx_cut (()) ⟨(int_eq (by rw [sy_le (by omega)])), trivial⟩ (by (iterate 3 refine agr_cons rfl ?_); exact agr_rfl) ?_
                                          exact rfl
                                     rintro ⟨⟩ ρ38 w38 rfl
                                     refine cd_seq ?_
                                     refine cd_region ?_
                                     refine st_val (ro_move (v := .slice _ _ _) rfl) ?_
                                     refine st_val (ro_move (v := .int _ _) rfl) ?_
                                     refine st_spell (t := 116) (v := .int _ _) (v' := .int .i64 ((m - 1 : Nat) : Int)) rfl (by exact int_eq (by omega)) ?_
                                     refine st_val (ro_move (v := .slice _ _ _) rfl) ?_
                                     refine st_val (ro_move (v := .int _ _) rfl) ?_
                                     refine st_val (ro_indexAddr1 BwtRefBack_e24 rfl rfl (by omega)) ?_
                                     refine st_val (ro_load BwtRefBack_g3 rfl (by exact cellF hB (hc _ (by omega)))) ?_
                                     refine st_val (ro_indexAddr0 BwtRefBack_e24 rfl rfl (by omega)) ?_
                                     refine st_put (v := .int _ _) BwtRefBack_z3 rfl rfl rfl (hT) (by rw [tabI_size]; omega) ?_
                                     intro w39 O32 P32
                                     have hN32 := hN.only O32 (by omega)
                                     have P32b : Blk w39 b99 3 (tabI n (upd fl (m - 1) ((B.getD (sy a (wk n (fun i => B.getD i 0) a (n - m))) 0 : Nat) : Int))) := by rw [← tabI_set]; exact P32
                                     refine st_nil ?_
                                     refine nx_then ?_
                                     refine cd_region ?_
                                     refine st_val (ro_move (v := .slice _ _ _) rfl) ?_
                                     refine st_val (ro_move (v := .int _ _) rfl) ?_
                                     refine st_val (ro_indexAddr0 BwtRefBack_e24 rfl rfl (by omega)) ?_
                                     refine st_val (ro_load BwtRefBack_g3 rfl (by exact hN32.rd _ (tabI_at (by omega)))) ?_
                                     refine st_val (ro_assign (v := .int _ _) rfl) ?_
                                     refine st_nil ?_
                                     refine nx_block ?_
                                     refine nx_then ?_
                                     refine cd_region ?_
                                     refine st_val (ro_move (v := .int _ _) rfl) ?_
                                     refine st_val (ro_sub64 rfl rfl (by omega)) ?_
                                     refine st_val (ro_assign (v := .int _ _) rfl) ?_
                                     refine st_nil ?_
                                     refine nx_cut ((m - 1, upd fl (m - 1) ((B.getD (sy a (wk n (fun i => B.getD i 0) a (n - m))) 0 : Nat) : Int))) ⟨(int_eq (by rw [wk_pred h0m hm])), (int_eq (by omega)), trivial⟩ (by (iterate 58 refine agr_cons rfl ?_); exact agr_rfl) ⟨?_, ?_⟩
                                     · exact ⟨by omega, fun j hj => by rcases Nat.eq_or_lt_of_le (show j ≤ n - m by omega) with e | e; (rw [e]; exact hwa); exact hne j e, wl_put hfl h0m hm rfl, P32b.from_ From.rfl_, hN32.from_ From.rfl_, (hB.only O32 (hg99))⟩
                                     · show m - 1 < m; omega
                             (try with_reducible first | replace Q35 := of_decide_eq_true Q35 | replace Q35 := of_decide_eq_false Q35 | replace Q35 := bn_t Q35 | replace Q35 := bn_f Q35)
                             (try with_reducible first | replace Q35 := of_decide_eq_true Q35 | replace Q35 := of_decide_eq_false Q35 | replace Q35 := bx_t Q35 | replace Q35 := bx_f Q35 | replace Q35 := be_t Q35 | replace Q35 := be_f Q35)
                             obtain rfl : m = 0 := by omega
                             first
                              | (exfalso; first | omega | contradiction | (cases Q35; done))
                              | skip
                                refine cd_exit ?_
                                refine ex_then ?_
                                refine ex_then ?_
                                refine ex_block ?_
                                refine nx_then ?_
                                refine cd_seq ?_
                                refine cd_seq ?_
                                refine cd_region ?_
                                refine st_val (ro_move (v := .int _ _) rfl) ?_
                                refine st_val (ro_move (v := .int _ _) rfl) ?_
                                refine st_val (ro_neq rfl rfl) ?_
                                refine st_nil ?_
                                refine nx_then ?_
                                refine cd_cond rfl (fun Q40 => ?_) (fun Q40 => ?_)
                                · (try with_reducible first | replace Q40 := of_decide_eq_true Q40 | replace Q40 := of_decide_eq_false Q40 | replace Q40 := bn_t Q40 | replace Q40 := bn_f Q40)
                                  (try with_reducible first | replace Q40 := of_decide_eq_true Q40 | replace Q40 := of_decide_eq_false Q40 | replace Q40 := bx_t Q40 | replace Q40 := bx_f Q40 | replace Q40 := be_t Q40 | replace Q40 := be_f Q40)
                                  have hbad : Bad n (a : Int) xs := fun B2 a2 e1 e2 e3 e4 hc => by
                                    obtain rfl := cI_inj (hxs.symm.trans e1)
                                    obtain rfl : a = a2 := by omega
                                    have := hc.2
                                    simp only [Nat.sub_zero] at *
                                    omega
                                  first
                                   | (exfalso; first | omega | contradiction | (cases Q40; done))
                                   | skip
                                     refine cd_seq ?_
                                     refine cd_region ?_
                                     refine st_val (ro_assign (v := .slice _ _ _) rfl) ?_
                                     refine st_val (ro_assign (v := .bool _) rfl) ?_
                                     refine st_nil ?_
                                     refine nx_then ?_
                                     refine cd_ret ?_
                                     refine rt_then ?_
                                     refine res2 (v := .slice _ _ _) (v' := .bool _) rfl rfl rfl ?_
                                     exact ⟨.inr ⟨hbad, rfl⟩, hB⟩
                                (try with_reducible first | replace Q40 := of_decide_eq_true Q40 | replace Q40 := of_decide_eq_false Q40 | replace Q40 := bn_t Q40 | replace Q40 := bn_f Q40)
                                (try with_reducible first | replace Q40 := of_decide_eq_true Q40 | replace Q40 := of_decide_eq_false Q40 | replace Q40 := bx_t Q40 | replace Q40 := bx_f Q40 | replace Q40 := be_t Q40 | replace Q40 := be_f Q40)
                                have hci : Circ n (fun i => B.getD i 0) a := ⟨fun j hj => hne j (by omega), by simp only [Nat.sub_zero] at *; omega⟩
                                first
                                 | (exfalso; first | omega | contradiction | (cases Q40; done))
                                 | skip
                                   refine cd_skip ?_
                                   refine nx_then ?_
                                   refine cd_seq ?_
                                   refine cd_region ?_
                                   refine st_val (ro_move (v := .slice _ _ _) rfl) ?_
                                   refine st_call BwtRefBack_k12 (refMake_rt (some ⟨b99, 0, none⟩) n n (wl n (fun i => B.getD i 0) a) _ (row_fl (hT.from_ From.rfl_) wl_len (fun i hi => hfl i (Nat.zero_le _) hi)) wl_len.symm (by omega)) ?_
                                   rintro v131 w41 ⟨⟨Bs, a2, A131, c131, rfl, hbw, ho131⟩, E131⟩
                                   obtain ⟨rfl, rfl⟩ := (redo hBl.symm ha hci).uniq hbw
                                   refine st_val (ro_move (v := .tuple _) rfl) ?_
                                   refine st_val (ro_extract rfl rfl) ?_
                                   refine st_val (ro_extract rfl rfl) ?_
                                   refine st_val (ro_assign (v := .slice _ _ _) rfl) ?_
                                   refine st_val (ro_assign (v := .int _ _) rfl) ?_
                                   refine st_nil ?_
                                   refine nx_then ?_
                                   refine cd_seq ?_
                                   refine cd_region ?_
                                   refine st_val (ro_move (v := .slice _ _ _) rfl) ?_
                                   refine st_val (ro_move (v := .int _ _) rfl) ?_
                                   refine st_val (ro_move (v := .int _ _) rfl) ?_
                                   refine st_val (ro_bt (ro_eql rfl rfl) (by simp)) ?_
                                   refine st_val (ro_move (v := .bool _) rfl) ?_
                                   refine st_unguard rfl ?_
                                   refine st_val (ro_move (v := .slice _ _ _) rfl) ?_
                                   refine st_unguard rfl ?_
                                   refine st_val (ro_move (v := .slice _ _ _) rfl) ?_
                                   refine st_unguard rfl ?_
                                   refine st_call BwtRefBack_k13 (eq_same A131 _ c131 c B.length n (cI B) _ (RowOf.own ho131).2 (hrB.from_ (hB.next E131)) (by rw [List.length_map]) (by rw [List.length_map]; exact hBl) (by omega)) ?_
                                   rintro v141 w42 ⟨rfl, E141⟩
                                   refine st_val (ro_pickT (v := .bool _) rfl rfl) ?_
                                   refine st_val (ro_assign (v := .slice _ _ _) rfl) ?_
                                   refine st_val (ro_assign (v := .bool _) rfl) ?_
                                   refine st_nil ?_
                                   refine nx_then ?_
                                   refine cd_ret ?_
                                   refine res2 (v := .slice _ _ _) (v' := .bool _) rfl rfl rfl ?_
                                   exact ⟨.inl ⟨B, a, _, _, hxs, hx, rfl, ha, hci, rfl, (row_fl hT wl_len (fun i hi => hfl i (Nat.zero_le _) hi)).from_ ((From.rfl_.next E131).next E141)⟩, ((hB.next E131).next E141)⟩
end Go.Proofs.Ytpafbgdbjambgaa
