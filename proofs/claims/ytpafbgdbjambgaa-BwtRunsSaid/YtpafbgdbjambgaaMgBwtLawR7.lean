/- A region that draws its order and makes memory: blocks in any order, apart from one another. -/
import Derived.Test.YtpafbgdbjambgaaMgBwtLawR6
import Derived.Test.YtpafbgdbjambgaaMgBwtLawR3
namespace Go.Proofs.Ytpafbgdbjambgaa
open Go.RowKit
open Go.ChangeShapes Go.WideShapes Go.ChangeAt
open Go.Proofs.Ytpafbgdbjambgaa.SA
theorem BwtRefBack_e24 : elemQ Try.prog 24 = some (3, 1) := by kernel_rfl
theorem BwtRefBack_m24 : makeQ Try.prog 24 = some (3, 8, (.int .i64 0)) := by kernel_rfl
theorem BwtRefBack_q24 : litQ Try.prog 24 = some (3, 1, 8, (.int .i64 0)) := by kernel_rfl
theorem BwtRefBack_a47 : arrQ Try.prog 47 = some (513, 1) := by kernel_rfl
theorem BwtRefBack_za47 : zeroQ Try.prog 47 = some (.agg (List.replicate 513 (Value.int .i64 0)).toArray) := by kernel_rfl
theorem BwtRefBack_zc : (Value.agg (List.replicate 513 (Value.int .i64 0)).toArray).cells = (List.replicate 513 (Value.int .i64 0)).toArray := by kernel_rfl
theorem BwtRefBack_l24 : (elemQ Try.prog 24).isSome = true := by kernel_rfl
theorem BwtRefBack_k10 : callable Try.prog 10 = true := by kernel_rfl
theorem BwtRefBack_g3 : aggQ Try.prog 3 = some false := by kernel_rfl
theorem BwtRefBack_z3 : sizeQ Try.prog 3 = some 1 := by kernel_rfl
theorem BwtRefBack_k12 : callable Try.prog 12 = true := by kernel_rfl
theorem BwtRefBack_k13 : callable Try.prog 13 = true := by kernel_rfl
/-- what the reference's Back tells -/
def BackR (w' : World) (n : Nat) (at_ : Int) (xs : List Int) (v : Value) : Prop :=
  (∃ B a A' c', xs = cI B ∧ (∀ x ∈ B, x < 512) ∧ at_ = (a : Nat) ∧ a ≤ n ∧ Circ n (fun i => B.getD i 0) a ∧ v = .tuple #[.slice A' n c', .bool true] ∧ RowOf iV w' A' (cI (wl n (fun i => B.getD i 0) a))) ∨
  (Bad n at_ xs ∧ v = .tuple #[.slice none 0 0, .bool false])
theorem row_fl {w : World} {g n : Nat} {l : List Nat} {fl : Nat → Int} (h : Blk w g 3 (tabI n fl)) (hl : l.length = n) (hf : ∀ i, i < n → fl i = ((l.getD i 0 : Nat) : Int)) : RowOf iV w (some ⟨g, 0, none⟩) (cI l) := by
  rw [tabI_congr hf] at h
  exact RowOf.blk h fun i hi => by
    have h1 : i < n := by rw [List.length_map] at hi; omega
    rw [tabI_at h1]
    simp [cI, List.getD_eq_getElem?_getD, List.getElem?_eq_getElem (show i < l.length by omega)]
theorem bad_lt {n : Nat} {at_ : Int} {xs : List Int} (h : at_ < 0 ∨ (n : Int) < at_) : Bad n at_ xs := fun B a e1 e2 e3 e4 => by omega
theorem bad_sym {n : Nat} {at_ : Int} {xs : List Int} (h : xs.all (okS 512) = false) : Bad n at_ xs := fun B a e1 e2 e3 e4 => by
  rw [e1, cI, all_nat e2] at h
  cases h
set_option maxRecDepth 100000 in
set_option maxHeartbeats 6000000 in
theorem refBack_rt (at_ : Int) (A : Option Addr) (c n : Nat) (xs : List Int) (w : World) (hr : RowOf iV w A xs) (hn : n = xs.length) (hl : n ≤ 131072) :
    Rt Try.prog 17 [.int .i64 at_, .slice A n c] w (fun v w' => BackR w' n at_ xs v ∧ From w w') := by
  refine enter (n := 143) Try.func17 rfl rfl rfl ?_
  refine cd_seq ?_
  refine cd_region ?_
  refine st_val (ro_assign (v := .slice _ _ _) rfl) ?_
  refine st_val (ro_assign (v := .bool _) rfl) ?_
  refine st_nil ?_
  refine nx_then ?_
  refine cd_seq ?_
  refine cd_region ?_
  refine st_val (ro_move (v := .slice _ _ _) rfl) ?_
  refine st_val (ro_len BwtRefBack_l24 rfl) ?_
  refine st_val (ro_assign (v := .int _ _) rfl) ?_
  refine st_nil ?_
  refine nx_then ?_
  refine cd_seq ?_
  refine cd_seq ?_
  refine cd_region ?_
  refine st_val (ro_move (v := .int _ _) rfl) ?_
  refine st_val (ro_lss rfl rfl) ?_
  refine st_val (ro_move (v := .bool _) rfl) ?_
  refine st_split (t := 23) rfl (fun Q1 => ?_) (fun Q1 => ?_)
  · (try with_reducible first | replace Q1 := of_decide_eq_true Q1 | replace Q1 := of_decide_eq_false Q1 | replace Q1 := bn_t Q1 | replace Q1 := bn_f Q1)
    (try with_reducible first | replace Q1 := of_decide_eq_true Q1 | replace Q1 := of_decide_eq_false Q1 | replace Q1 := bx_t Q1 | replace Q1 := bx_f Q1 | replace Q1 := be_t Q1 | replace Q1 := be_f Q1)
    first
     | (exfalso; first | omega | contradiction | (cases Q1; done))
     | skip
       refine st_gno rfl rfl ?_
       refine st_gno rfl rfl ?_
       refine st_gno rfl rfl ?_
       refine st_val (ro_pickT (v := .bool _) rfl rfl) ?_
       refine st_val (ro_move (v := .bool _) rfl) ?_
       refine st_gno rfl rfl ?_
       refine st_gno rfl rfl ?_
       refine st_gno rfl rfl ?_
       refine st_val (ro_pickT (v := .bool _) rfl rfl) ?_
       refine st_val (ro_move (v := .bool _) rfl) ?_
       refine st_gno rfl rfl ?_
       refine st_gno rfl rfl ?_
       refine st_val (ro_pickT (v := .bool _) rfl rfl) ?_
       refine st_nil ?_
       refine nx_then ?_
       refine cd_condT rfl ?_
       refine cd_seq ?_
       refine cd_region ?_
       refine st_val (ro_assign (v := .slice _ _ _) rfl) ?_
       refine st_val (ro_assign (v := .bool _) rfl) ?_
       refine st_nil ?_
       refine nx_then ?_
       refine cd_ret ?_
       refine rt_then ?_
       refine res2 (v := .slice _ _ _) (v' := .bool _) rfl rfl rfl ?_
       exact ⟨.inr ⟨(by first | exact bad_lt (by omega) | exact bad_sym (by simp_all)), rfl⟩, From.rfl_⟩
  · (try with_reducible first | replace Q1 := of_decide_eq_true Q1 | replace Q1 := of_decide_eq_false Q1 | replace Q1 := bn_t Q1 | replace Q1 := bn_f Q1)
    (try with_reducible first | replace Q1 := of_decide_eq_true Q1 | replace Q1 := of_decide_eq_false Q1 | replace Q1 := bx_t Q1 | replace Q1 := bx_f Q1 | replace Q1 := be_t Q1 | replace Q1 := be_f Q1)
    first
     | (exfalso; first | omega | contradiction | (cases Q1; done))
     | skip
       refine st_unguard rfl ?_
       refine st_val (ro_move (v := .int _ _) rfl) ?_
       refine st_unguard rfl ?_
       refine st_val (ro_move (v := .int _ _) rfl) ?_
       refine st_unguard rfl ?_
       refine st_val (ro_gtr rfl rfl) ?_
       refine st_val (ro_pickF (v := .bool _) rfl rfl) ?_
       refine st_val (ro_move (v := .bool _) rfl) ?_
       refine st_split (t := 28) rfl (fun Q2 => ?_) (fun Q2 => ?_)
       · (try with_reducible first | replace Q2 := of_decide_eq_true Q2 | replace Q2 := of_decide_eq_false Q2 | replace Q2 := bn_t Q2 | replace Q2 := bn_f Q2)
         (try with_reducible first | replace Q2 := of_decide_eq_true Q2 | replace Q2 := of_decide_eq_false Q2 | replace Q2 := bx_t Q2 | replace Q2 := bx_f Q2 | replace Q2 := be_t Q2 | replace Q2 := be_f Q2)
         first
          | (exfalso; first | omega | contradiction | (cases Q2; done))
          | skip
            refine st_gno rfl rfl ?_
            refine st_gno rfl rfl ?_
            refine st_gno rfl rfl ?_
            refine st_val (ro_pickT (v := .bool _) rfl rfl) ?_
            refine st_val (ro_move (v := .bool _) rfl) ?_
            refine st_gno rfl rfl ?_
            refine st_gno rfl rfl ?_
            refine st_val (ro_pickT (v := .bool _) rfl rfl) ?_
            refine st_nil ?_
            refine nx_then ?_
            refine cd_condT rfl ?_
            refine cd_seq ?_
            refine cd_region ?_
            refine st_val (ro_assign (v := .slice _ _ _) rfl) ?_
            refine st_val (ro_assign (v := .bool _) rfl) ?_
            refine st_nil ?_
            refine nx_then ?_
            refine cd_ret ?_
            refine rt_then ?_
            refine res2 (v := .slice _ _ _) (v' := .bool _) rfl rfl rfl ?_
            exact ⟨.inr ⟨(by first | exact bad_lt (by omega) | exact bad_sym (by simp_all)), rfl⟩, From.rfl_⟩
       · (try with_reducible first | replace Q2 := of_decide_eq_true Q2 | replace Q2 := of_decide_eq_false Q2 | replace Q2 := bn_t Q2 | replace Q2 := bn_f Q2)
         (try with_reducible first | replace Q2 := of_decide_eq_true Q2 | replace Q2 := of_decide_eq_false Q2 | replace Q2 := bx_t Q2 | replace Q2 := bx_f Q2 | replace Q2 := be_t Q2 | replace Q2 := be_f Q2)
         first
          | (exfalso; first | omega | contradiction | (cases Q2; done))
          | skip
            refine st_unguard rfl ?_
            refine st_val (ro_move (v := .slice _ _ _) rfl) ?_
            refine st_unguard rfl ?_
            refine st_call BwtRefBack_k10 (may_rt 512 A c n xs _ (hr.from_ From.rfl_) hn (by omega)) ?_
            rintro v30 w3 ⟨rfl, E30⟩
            refine st_unguard rfl ?_
            refine st_val (ro_not rfl) ?_
            refine st_val (ro_pickF (v := .bool _) rfl rfl) ?_
            refine st_val (ro_move (v := .bool _) rfl) ?_
            refine st_split (t := 33) rfl (fun Q4 => ?_) (fun Q4 => ?_)
            · (try with_reducible first | replace Q4 := of_decide_eq_true Q4 | replace Q4 := of_decide_eq_false Q4 | replace Q4 := bn_t Q4 | replace Q4 := bn_f Q4)
              (try with_reducible first | replace Q4 := of_decide_eq_true Q4 | replace Q4 := of_decide_eq_false Q4 | replace Q4 := bx_t Q4 | replace Q4 := bx_f Q4 | replace Q4 := be_t Q4 | replace Q4 := be_f Q4)
              first
               | (exfalso; first | omega | contradiction | (cases Q4; done))
               | skip
                 refine st_gno rfl rfl ?_
                 refine st_gno rfl rfl ?_
                 refine st_val (ro_pickT (v := .bool _) rfl rfl) ?_
                 refine st_nil ?_
                 refine nx_then ?_
                 refine cd_condT rfl ?_
                 refine cd_seq ?_
                 refine cd_region ?_
                 refine st_val (ro_assign (v := .slice _ _ _) rfl) ?_
                 refine st_val (ro_assign (v := .bool _) rfl) ?_
                 refine st_nil ?_
                 refine nx_then ?_
                 refine cd_ret ?_
                 refine rt_then ?_
                 refine res2 (v := .slice _ _ _) (v' := .bool _) rfl rfl rfl ?_
                 exact ⟨.inr ⟨(by first | exact bad_lt (by omega) | exact bad_sym (by simp_all)), rfl⟩, (From.rfl_.next E30)⟩
            · (try with_reducible first | replace Q4 := of_decide_eq_true Q4 | replace Q4 := of_decide_eq_false Q4 | replace Q4 := bn_t Q4 | replace Q4 := bn_f Q4)
              (try with_reducible first | replace Q4 := of_decide_eq_true Q4 | replace Q4 := of_decide_eq_false Q4 | replace Q4 := bx_t Q4 | replace Q4 := bx_f Q4 | replace Q4 := be_t Q4 | replace Q4 := be_f Q4)
              first
               | (exfalso; first | omega | contradiction | (cases Q4; done))
               | skip
                 refine st_unguard rfl ?_
                 refine st_val (ro_move (v := .int _ _) rfl) ?_
                 refine st_unguard rfl ?_
                 refine st_val (ro_gtr rfl rfl) ?_
                 refine st_val (ro_pickF (v := .bool _) rfl rfl) ?_
                 refine st_nil ?_
                 refine nx_then ?_
                 refine cd_cond rfl (fun Q5 => ?_) (fun Q5 => ?_)
                 · (try with_reducible first | replace Q5 := of_decide_eq_true Q5 | replace Q5 := of_decide_eq_false Q5 | replace Q5 := bn_t Q5 | replace Q5 := bn_f Q5)
                   (try with_reducible first | replace Q5 := of_decide_eq_true Q5 | replace Q5 := of_decide_eq_false Q5 | replace Q5 := bx_t Q5 | replace Q5 := bx_f Q5 | replace Q5 := be_t Q5 | replace Q5 := be_f Q5)
                   have hbad : Bad n at_ xs := by
                     first
                       | exact bad_lt (by omega)
                       | exact bad_sym (by simp_all)
                   first
                    | (exfalso; first | omega | contradiction | (cases Q5; done))
                    | skip
                      refine cd_seq ?_
                      refine cd_region ?_
                      refine st_val (ro_assign (v := .slice _ _ _) rfl) ?_
                      refine st_val (ro_assign (v := .bool _) rfl) ?_
                      refine st_nil ?_
                      refine nx_then ?_
                      refine cd_ret ?_
                      refine rt_then ?_
                      refine res2 (v := .slice _ _ _) (v' := .bool _) rfl rfl rfl ?_
                      exact ⟨.inr ⟨(by first | exact bad_lt (by omega) | exact bad_sym (by simp_all)), rfl⟩, (From.rfl_.next E30)⟩
                 (try with_reducible first | replace Q5 := of_decide_eq_true Q5 | replace Q5 := of_decide_eq_false Q5 | replace Q5 := bn_t Q5 | replace Q5 := bn_f Q5)
                 (try with_reducible first | replace Q5 := of_decide_eq_true Q5 | replace Q5 := of_decide_eq_false Q5 | replace Q5 := bx_t Q5 | replace Q5 := bx_f Q5 | replace Q5 := be_t Q5 | replace Q5 := be_f Q5)
                 obtain ⟨B, hxs, hx⟩ := nat_list (xs := xs) (by simp_all)
                 obtain ⟨a, rfl⟩ : ∃ a : Nat, at_ = (a : Nat) := ⟨at_.toNat, by omega⟩
                 have ha : a ≤ n := by omega
                 have hrB : RowOf iV w A (cI B) := by rw [cI, ← hxs]; exact hr
                 have hBl : n = B.length := by rw [hn, hxs, List.length_map]
                 first
                  | (exfalso; first | omega | contradiction | (cases Q5; done))
                  | skip
                    refine cd_skip ?_
                    refine nx_then ?_
                    refine cd_seq ?_
                    refine cd_region ?_
                    refine st_alloc BwtRefBack_za47 ?_
                    intro b7 w6 E7 hb7 hk7
                    rw [BwtRefBack_zc] at hk7
                    have hg7 : w.heap.size ≤ b7 := by rw [hb7]; exact ((From.rfl_.next E30)).size
                    refine st_nil ?_
                    refine nx_then ?_
                    refine cd_seq ?_
                    refine cd_seq ?_
                    refine cd_region ?_
                    refine st_val (ro_assign (v := .int _ _) rfl) ?_
                    refine st_nil ?_
                    refine nx_then ?_
                    refine cd_block ?_
                    refine cd_loop (G := Nat) [37, 38, 39, 40, 41, 42, 43, 44, 45, 46, 47, 48, 49, 50] (fun i => [(8, .int .i64 (i : Nat))]) (fun i w' => i ≤ n ∧ Blk w' b7 47 (tabI 513 fun x => ((ctT (fun i => B.getD i 0) i x : Nat) : Int)) ∧ From w w') (fun i => n - i) (0) ⟨rfl, trivial⟩ ?_ ?_
                    · exact ⟨Nat.zero_le _, by rw [tabI_congr (g := fun _ => 0) (fun x _ => by rw [ct_zero]; rfl), ← tabI_zero]; exact hk7, ((From.rfl_.next E30).next E7)⟩
                    rintro i ρ7 w7 ⟨hi, hT, hB⟩
                    refine cd_seq ?_
                    refine cd_seq ?_
                    refine cd_region ?_
                    refine st_val (ro_move (v := .int _ _) rfl) ?_
                    refine st_val (ro_move (v := .int _ _) rfl) ?_
                    refine st_val (ro_lss rfl rfl) ?_
                    refine st_nil ?_
                    refine nx_then ?_
                    refine cd_cond rfl (fun Q8 => ?_) (fun Q8 => ?_)
                    · (try with_reducible first | replace Q8 := of_decide_eq_true Q8 | replace Q8 := of_decide_eq_false Q8 | replace Q8 := bn_t Q8 | replace Q8 := bn_f Q8)
                      (try with_reducible first | replace Q8 := of_decide_eq_true Q8 | replace Q8 := of_decide_eq_false Q8 | replace Q8 := bx_t Q8 | replace Q8 := bx_f Q8 | replace Q8 := be_t Q8 | replace Q8 := be_f Q8)
                      obtain ⟨b, o, rfl, hc⟩ := rowD hrB (by omega)
                      have hs1 := symb_get hx i
                      have hct := ct_le (b := fun i => B.getD i 0) i (B.getD i 0 + 1)
                      first
                       | (exfalso; first | omega | contradiction | (cases Q8; done))
                       | skip
                         refine cd_skip ?_
                         refine nx_then ?_
                         refine cd_seq ?_
                         refine cd_block ?_
                         refine cd_region ?_
                         refine st_val (ro_move (v := .slice _ _ _) rfl) ?_
                         refine st_val (ro_move (v := .int _ _) rfl) ?_
                         refine st_val (ro_indexAddr1 BwtRefBack_e24 rfl rfl (by omega)) ?_
                         refine st_val (ro_load BwtRefBack_g3 rfl (by exact cellF hB (hc i (by omega)))) ?_
                         refine st_val (ro_addN (b := 1) rfl rfl (by omega)) ?_
                         refine st_val (ro_arr (i := B.getD i 0 + 1) BwtRefBack_a47 rfl rfl (by omega)) ?_
                         refine st_val (ro_load BwtRefBack_g3 rfl (by exact hT.rd _ (tabI_at (by omega)))) ?_
                         refine st_val (ro_addN (b := 1) rfl rfl (by omega)) ?_
                         refine st_val (ro_arr (i := B.getD i 0 + 1) BwtRefBack_a47 rfl rfl (by omega)) ?_
                         refine st_put (v := .int _ _) BwtRefBack_z3 rfl rfl rfl (hT) (by rw [tabI_size]; omega) ?_
                         intro w9 O8 P8
                         have P8b : Blk w9 b7 47 (tabI 513 fun x => ((ctT (fun i => B.getD i 0) (i + 1) x : Nat) : Int)) := by rw [← tabI_congr (fun x _ => ct_step rfl x), ← tabI_set]; exact P8
                         refine st_nil ?_
                         refine nx_block ?_
                         refine nx_then ?_
                         refine cd_region ?_
                         refine st_val (ro_move (v := .int _ _) rfl) ?_
                         refine st_val (ro_addN (b := 1) rfl rfl (by omega)) ?_
                         refine st_val (ro_assign (v := .int _ _) rfl) ?_
                         refine st_nil ?_
                         refine nx_cut (i + 1) ⟨(by first | rfl | (refine int_eq ?_; omega)), trivial⟩ (by (iterate 30 refine agr_cons rfl ?_); exact agr_rfl) ⟨?_, ?_⟩
                         · exact ⟨by omega, P8b.from_ From.rfl_, (hB.only O8 (hg7))⟩
                         · show n - (i + 1) < n - i; omega
                    (try with_reducible first | replace Q8 := of_decide_eq_true Q8 | replace Q8 := of_decide_eq_false Q8 | replace Q8 := bn_t Q8 | replace Q8 := bn_f Q8)
                    (try with_reducible first | replace Q8 := of_decide_eq_true Q8 | replace Q8 := of_decide_eq_false Q8 | replace Q8 := bx_t Q8 | replace Q8 := bx_f Q8 | replace Q8 := be_t Q8 | replace Q8 := be_f Q8)
                    obtain rfl : n = i := by omega
                    first
                     | (exfalso; first | omega | contradiction | (cases Q8; done))
                     | skip
                       refine cd_exit ?_
                       refine ex_then ?_
                       refine ex_then ?_
                       refine ex_block ?_
                       refine nx_then ?_
                       refine cd_seq ?_
                       refine cd_seq ?_
                       refine cd_region ?_
                       refine st_val (ro_assign (v := .int _ _) rfl) ?_
                       refine st_nil ?_
                       refine nx_then ?_
                       refine cd_block ?_
                       refine cd_loop (G := Nat) [51, 52, 53, 54, 55, 56, 57, 58, 59, 60, 61, 62, 63, 64, 65] (fun c => [(9, .int .i64 (c : Nat))]) (fun c w' => c ≤ 512 ∧ Blk w' b7 47 (tabI 513 fun x => ((smT 0 n (fun i => B.getD i 0) c x : Nat) : Int)) ∧ From w w') (fun c => 512 - c) (0) ⟨rfl, trivial⟩ ?_ ?_
                       · exact ⟨Nat.zero_le _, by rw [← tabI_congr (fun x _ => sm_nul x)]; exact hT.from_ From.rfl_, hB⟩
                       rintro k ρ10 w10 ⟨hk, hT, hB⟩
                       refine cd_seq ?_
                       refine cd_seq ?_
                       refine cd_region ?_
                       refine st_val (ro_move (v := .int _ _) rfl) ?_
                       refine st_val (ro_lss rfl rfl) ?_
                       refine st_nil ?_
                       refine nx_then ?_
                       refine cd_cond rfl (fun Q11 => ?_) (fun Q11 => ?_)
                       · (try with_reducible first | replace Q11 := of_decide_eq_true Q11 | replace Q11 := of_decide_eq_false Q11 | replace Q11 := bn_t Q11 | replace Q11 := bn_f Q11)
                         (try with_reducible first | replace Q11 := of_decide_eq_true Q11 | replace Q11 := of_decide_eq_false Q11 | replace Q11 := bx_t Q11 | replace Q11 := bx_f Q11 | replace Q11 := be_t Q11 | replace Q11 := be_f Q11)
                         have ho1 := occ_le (b := fun i => B.getD i 0) n k
                         have hl1 := les_le (n := n) (b := fun i => B.getD i 0) k
                         first
                          | (exfalso; first | omega | contradiction | (cases Q11; done))
                          | skip
                            refine cd_skip ?_
                            refine nx_then ?_
                            refine cd_seq ?_
                            refine cd_block ?_
                            apply cd_drawn 11 [(55, eqp _), (56, eqp _), (57, eqp _), (58, eqp _), (59, eqp _), (60, eqp _), (61, eqp _), (62, eqp _), (63, eqp _), (64, eqp _), (65, eqp _)] (by kernel_rfl) (by kernel_rfl) ⟨eqp_mono _, eqp_mono _, eqp_mono _, eqp_mono _, eqp_mono _, eqp_mono _, eqp_mono _, eqp_mono _, eqp_mono _, eqp_mono _, eqp_mono _, trivial⟩
                            case hop =>
                             refine ⟨?_, ?_⟩
                             · intro w13 D13
                               show OpOK _ _ _ _ _ _ _
                               exact ok_pure (ro_move (v := .int _ _) rfl) rfl
                             refine ⟨?_, ?_⟩
                             · intro w14 D14
                               rintro _ rfl
                               show OpOK _ _ _ _ _ _ _
                               exact ok_pure (ro_addN (b := 1) rfl rfl (by omega)) rfl
                             refine ⟨?_, ?_⟩
                             · intro w15 D15
                               show OpOK _ _ _ _ _ _ _
                               exact ok_pure (ro_move (v := .int _ _) rfl) rfl
                             refine ⟨?_, ?_⟩
                             · intro w16 D16
                               rintro _ rfl
                               show OpOK _ _ _ _ _ _ _
                               exact ok_pure (ro_addN (b := 1) rfl rfl (by omega)) rfl
                             refine ⟨?_, ?_⟩
                             · intro w17 D17
                               rintro _ rfl
                               show OpOK _ _ _ _ _ _ _
                               exact ok_pure (ro_arr (i := k + 1) BwtRefBack_a47 rfl rfl (by omega)) rfl
                             refine ⟨?_, ?_⟩
                             · intro w18 D18
                               rintro _ rfl
                               show OpOK _ _ _ _ _ _ _
                               exact ok_pure (ro_load BwtRefBack_g3 rfl (by exact (hT.from_ (From.rfl_.next D18)).rd _ (by rw [tabI_at (by omega), sm_nx]))) rfl
                             refine ⟨?_, ?_⟩
                             · intro w19 D19
                               show OpOK _ _ _ _ _ _ _
                               exact ok_pure (ro_move (v := .int _ _) rfl) rfl
                             refine ⟨?_, ?_⟩
                             · intro w20 D20
                               rintro _ rfl
                               show OpOK _ _ _ _ _ _ _
                               exact ok_pure (ro_arr (i := k) BwtRefBack_a47 rfl rfl (by omega)) rfl
                             refine ⟨?_, ?_⟩
                             · intro w21 D21
                               rintro _ rfl
                               show OpOK _ _ _ _ _ _ _
                               exact ok_pure (ro_load BwtRefBack_g3 rfl (by exact (hT.from_ (From.rfl_.next D21)).rd _ (by rw [tabI_at (by omega), sm_at]))) rfl
                             refine ⟨?_, ?_⟩
                             · intro w22 D22
                               rintro _ rfl _ rfl
                               show OpOK _ _ _ _ _ _ _
                               exact ok_pure (ro_addN rfl rfl (by omega)) rfl
                             refine ⟨?_, ?_⟩
                             · intro w23 D23
                               rintro _ rfl
                               show OpOK _ _ _ _ _ _ _
                               exact ok_pure (ro_arr (i := k + 1) BwtRefBack_a47 rfl rfl (by omega)) rfl
                             exact trivial
                            case hend =>
                             intro w24 D24
                             rintro _ rfl _ rfl _ rfl _ rfl _ rfl _ rfl _ rfl _ rfl _ rfl _ rfl _ rfl
                             show St _ _ _ _ _ _ _
                             refine st_put (v := .int _ _) BwtRefBack_z3 rfl rfl rfl ((hT.from_ (From.rfl_.next D24))) (by rw [tabI_size]; omega) ?_
                             intro w25 O12 P12
                             have P12b : Blk w25 b7 47 (tabI 513 fun x => ((smT 0 n (fun i => B.getD i 0) (k + 1) x : Nat) : Int)) := by rw [← tabI_congr (fun x _ => sm_step x), ← tabI_set]; exact P12
                             refine st_nil ?_
                             refine nx_block ?_
                             refine nx_then ?_
                             refine cd_region ?_
                             refine st_val (ro_move (v := .int _ _) rfl) ?_
                             refine st_val (ro_addN (b := 1) rfl rfl (by omega)) ?_
                             refine st_val (ro_assign (v := .int _ _) rfl) ?_
                             refine st_nil ?_
                             refine nx_cut (k + 1) ⟨(by first | rfl | (refine int_eq ?_; omega)), trivial⟩ (by (iterate 32 refine agr_cons rfl ?_); exact agr_rfl) ⟨?_, ?_⟩
                             · exact ⟨by omega, P12b.from_ From.rfl_, ((hB.next D24).only O12 (hg7))⟩
                             · show 512 - (k + 1) < 512 - k; omega
                       (try with_reducible first | replace Q11 := of_decide_eq_true Q11 | replace Q11 := of_decide_eq_false Q11 | replace Q11 := bn_t Q11 | replace Q11 := bn_f Q11)
                       (try with_reducible first | replace Q11 := of_decide_eq_true Q11 | replace Q11 := of_decide_eq_false Q11 | replace Q11 := bx_t Q11 | replace Q11 := bx_f Q11 | replace Q11 := be_t Q11 | replace Q11 := be_f Q11)
                       have hT512 : Blk w10 b7 47 (tabI 513 fun x => ((smT 0 n (fun i => B.getD i 0) 512 x : Nat) : Int)) := by rw [show k = 512 by omega] at hT; exact hT
                       first
                        | (exfalso; first | omega | contradiction | (cases Q11; done))
                        | skip
                          refine cd_exit ?_
                          refine ex_then ?_
                          refine ex_then ?_
                          refine ex_block ?_
                          refine nx_then ?_
                          refine cd_seq ?_
                          refine cd_region ?_
                          refine st_val (ro_move (v := .int _ _) rfl) ?_
                          refine st_val (ro_addN (b := 1) rfl rfl (by omega)) ?_
                          refine st_make BwtRefBack_m24 rfl rfl rfl (by omega) (by omega) ?_
                          intro b68 w26 E68 hb68 hk68
                          have hg68 : w.heap.size ≤ b68 := by rw [hb68]; exact (hB).size
                          have h768 : b7 < b68 := by rw [hb68]; exact hT512.lt
                          refine st_val (ro_assign (v := .slice _ _ _) rfl) ?_
                          refine st_nil ?_
                          refine nx_then ?_
                          refine cd_seq ?_
                          refine cd_seq ?_
                          refine cd_region ?_
                          refine st_val (ro_assign (v := .int _ _) rfl) ?_
                          refine st_nil ?_
                          refine nx_then ?_
                          refine cd_block ?_
                          refine cd_loop (G := Nat) [12, 69, 70, 71, 72, 73, 74, 75, 76, 77, 78, 79, 80, 81, 82, 83, 84, 85, 86, 87, 88, 89, 90, 91, 92, 93, 94, 95, 96, 97] (fun i => [(11, .int .i64 (i : Nat))]) (fun i w' => i ≤ n ∧ Blk w' b7 47 (tabI 513 fun x => ((frT 0 n (fun i => B.getD i 0) i x : Nat) : Int)) ∧ Blk w' b68 3 (tabI (n + 1) fun r => ((nxR n (fun i => B.getD i 0) a i r : Nat) : Int)) ∧ From w w') (fun i => n - i) (0) ⟨rfl, trivial⟩ ?_ ?_
                          · exact ⟨Nat.zero_le _, by rw [← tabI_congr (fun x hx => fr_zero hx)]; exact hT512.from_ (From.rfl_.next E68), by rw [tabI_congr (g := fun _ => 0) (fun x _ => by rw [nxR_zero]; rfl), ← tabI_zero]; exact hk68, (hB.next E68)⟩
                          rintro i ρ27 w27 ⟨hi, hT, hN, hB⟩
                          refine cd_seq ?_
                          refine cd_seq ?_
                          refine cd_region ?_
                          refine st_val (ro_move (v := .int _ _) rfl) ?_
                          refine st_val (ro_move (v := .int _ _) rfl) ?_
                          refine st_val (ro_lss rfl rfl) ?_
                          refine st_nil ?_
                          refine nx_then ?_
                          refine cd_cond rfl (fun Q28 => ?_) (fun Q28 => ?_)
                          · (try with_reducible first | replace Q28 := of_decide_eq_true Q28 | replace Q28 := of_decide_eq_false Q28 | replace Q28 := bn_t Q28 | replace Q28 := bn_f Q28)
                            (try with_reducible first | replace Q28 := of_decide_eq_true Q28 | replace Q28 := of_decide_eq_false Q28 | replace Q28 := bx_t Q28 | replace Q28 := bx_f Q28 | replace Q28 := be_t Q28 | replace Q28 := be_f Q28)
                            obtain ⟨b, o, rfl, hc⟩ := rowD hrB (by omega)
                            have hs1 := symb_get hx i
                            first
                             | (exfalso; first | omega | contradiction | (cases Q28; done))
                             | skip
                               refine cd_skip ?_
                               refine nx_then ?_
                               refine cd_seq ?_
                               refine cd_block ?_
                               refine cd_seq ?_
                               refine cd_region ?_
                               refine st_val (ro_move (v := .int _ _) rfl) ?_
                               refine st_val (ro_assign (v := .int _ _) rfl) ?_
                               refine st_nil ?_
                               refine nx_then ?_
                               refine cd_cut (G := Nat) [75, 76, 77, 78, 79] (fun r => [(12, .int .i64 (r : Nat))]) (fun r w' => sy a r = i ∧ r ≠ a ∧ r ≤ n ∧ w27 = w') ?_ ?_
                               · refine cd_seq ?_
                                 refine cd_region ?_
                                 refine st_val (ro_move (v := .int _ _) rfl) ?_
                                 refine st_val (ro_move (v := .int _ _) rfl) ?_
                                 refine st_val (ro_geq rfl rfl) ?_
                                 refine st_nil ?_
                                 refine nx_then ?_
                                 refine cd_cond rfl (fun Q29 => ?_) (fun Q29 => ?_)
                                 · (try with_reducible first | replace Q29 := of_decide_eq_true Q29 | replace Q29 := of_decide_eq_false Q29 | replace Q29 := bn_t Q29 | replace Q29 := bn_f Q29)
                                   (try with_reducible first | replace Q29 := of_decide_eq_true Q29 | replace Q29 := of_decide_eq_false Q29 | replace Q29 := bx_t Q29 | replace Q29 := bx_f Q29 | replace Q29 := be_t Q29 | replace Q29 := be_f Q29)
                                   first
                                    | (exfalso; first | omega | contradiction | (cases Q29; done))
                                    | skip
                                      refine cd_region ?_
                                      refine st_val (ro_move (v := .int _ _) rfl) ?_
                                      refine st_val (ro_addN (b := 1) rfl rfl (by omega)) ?_
                                      refine st_val (ro_assign (v := .int _ _) rfl) ?_
                                      refine st_nil ?_
                                      refine nx_cut (i + 1) ⟨(by first | rfl | (refine int_eq ?_; omega)), trivial⟩ (by (iterate 6 refine agr_cons rfl ?_); exact agr_rfl) ?_
                                      exact ⟨by rw [sy_gt (by omega)]; rfl, by omega, by omega, rfl⟩
                                 (try with_reducible first | replace Q29 := of_decide_eq_true Q29 | replace Q29 := of_decide_eq_false Q29 | replace Q29 := bn_t Q29 | replace Q29 := bn_f Q29)
                                 (try with_reducible first | replace Q29 := of_decide_eq_true Q29 | replace Q29 := of_decide_eq_false Q29 | replace Q29 := bx_t Q29 | replace Q29 := bx_f Q29 | replace Q29 := be_t Q29 | replace Q29 := be_f Q29)
                                 first
                                  | (exfalso; first | omega | contradiction | (cases Q29; done))
                                  | skip
                                    refine cd_skip ?_
                                    refine nx_cut (i) ⟨(by first | rfl | (refine int_eq ?_; omega)), trivial⟩ (by (iterate 3 refine agr_cons rfl ?_); exact agr_rfl) ?_
                                    exact ⟨by rw [sy_le (by omega)], by omega, by omega, rfl⟩
                               rintro r ρ30 w30 ⟨hsy, hra, hrn, rfl⟩
                               have hv : 1 + (0 + les n (fun i => B.getD i 0) (B.getD i 0) + occ (fun i => B.getD i 0) i (B.getD i 0)) = lf n (fun i => B.getD i 0) a r := by
                                 rw [← lf_val ha hrn hra (c := B.getD i 0) (by rw [hsy]), hsy]; omega
                               have ho1 := occ_le (b := fun i => B.getD i 0) i (B.getD i 0)
                               have hl1 := les_le (n := n) (b := fun i => B.getD i 0) (B.getD i 0)
                               refine cd_seq ?_
                               refine cd_region ?_
                               refine st_val (ro_move (v := .slice _ _ _) rfl) ?_
                               refine st_val (ro_move (v := .int _ _) rfl) ?_
                               refine st_val (ro_move (v := .slice _ _ _) rfl) ?_
                               refine st_val (ro_move (v := .int _ _) rfl) ?_
                               refine st_val (ro_indexAddr1 BwtRefBack_e24 rfl rfl (by omega)) ?_
                               refine st_val (ro_load BwtRefBack_g3 rfl (by exact cellF hB (hc i (by omega)))) ?_
                               refine st_val (ro_arr (i := B.getD i 0) BwtRefBack_a47 rfl rfl (by omega)) ?_
                               refine st_val (ro_load BwtRefBack_g3 rfl (by exact (hT.from_ From.rfl_).rd _ (by rw [tabI_at (by omega), fr_at hs1]))) ?_
                               refine st_val (ro_addN (a := 1) rfl rfl (by omega)) ?_
                               refine st_val (ro_indexAddr0 BwtRefBack_e24 rfl rfl (by omega)) ?_
                               refine st_put (v := .int _ _) BwtRefBack_z3 rfl rfl rfl (hN) (by rw [tabI_size]; omega) ?_
                               intro w31 O20 P20
                               have hT20 := hT.only O20 (by omega)
                               have N20 : Blk w31 b68 3 (tabI (n + 1) fun x => ((nxR n (fun i => B.getD i 0) a (i + 1) x : Nat) : Int)) := by rw [← tabI_congr (fun x _ => nxR_step hsy hra hv x), ← tabI_set]; exact P20
                               refine st_nil ?_
                               refine nx_then ?_
                               refine cd_region ?_
                               refine st_val (ro_move (v := .slice _ _ _) rfl) ?_
                               refine st_val (ro_move (v := .int _ _) rfl) ?_
                               refine st_val (ro_indexAddr1 BwtRefBack_e24 rfl rfl (by omega)) ?_
                               refine st_val (ro_load BwtRefBack_g3 rfl (by exact cellF (hB.only O20 (hg68)) (hc i (by omega)))) ?_
                               refine st_val (ro_arr (i := B.getD i 0) BwtRefBack_a47 rfl rfl (by omega)) ?_
                               refine st_val (ro_load BwtRefBack_g3 rfl (by exact (hT20.from_ From.rfl_).rd _ (by rw [tabI_at (by omega), fr_at hs1]))) ?_
                               refine st_val (ro_addN (b := 1) rfl rfl (by omega)) ?_
                               refine st_val (ro_arr (i := B.getD i 0) BwtRefBack_a47 rfl rfl (by omega)) ?_
                               refine st_put (v := .int _ _) BwtRefBack_z3 rfl rfl rfl (hT20) (by rw [tabI_size]; omega) ?_
                               intro w32 O21 P21
                               have P21b : Blk w32 b7 47 (tabI 513 fun x => ((frT 0 n (fun i => B.getD i 0) (i + 1) x : Nat) : Int)) := by rw [← tabI_congr (fun x _ => fr_step (o := 0) (n := n) (b := fun i => B.getD i 0) (i := i) rfl hs1 x), ← tabI_set]; exact P21
                               have N21 := N20.only O21 (by omega)
                               refine st_nil ?_
                               refine nx_block ?_
                               refine nx_then ?_
                               refine cd_region ?_
                               refine st_val (ro_move (v := .int _ _) rfl) ?_
                               refine st_val (ro_addN (b := 1) rfl rfl (by omega)) ?_
                               refine st_val (ro_assign (v := .int _ _) rfl) ?_
                               refine st_nil ?_
                               refine nx_cut (i + 1) ⟨(by first | rfl | (refine int_eq ?_; omega)), trivial⟩ (by (iterate 63 refine agr_cons rfl ?_); exact agr_rfl) ⟨?_, ?_⟩
                               · exact ⟨by omega, P21b.from_ From.rfl_, N21.from_ From.rfl_, ((hB.only O20 (hg68)).only O21 (hg7))⟩
                               · show n - (i + 1) < n - i; omega
                          (try with_reducible first | replace Q28 := of_decide_eq_true Q28 | replace Q28 := of_decide_eq_false Q28 | replace Q28 := bn_t Q28 | replace Q28 := bn_f Q28)
                          (try with_reducible first | replace Q28 := of_decide_eq_true Q28 | replace Q28 := of_decide_eq_false Q28 | replace Q28 := bx_t Q28 | replace Q28 := bx_f Q28 | replace Q28 := be_t Q28 | replace Q28 := be_f Q28)
                          have hNl : Blk w27 b68 3 (tabI (n + 1) fun r => ((lf n (fun i => B.getD i 0) a r : Nat) : Int)) := by
                            rw [show i = n by omega] at hN
                            rw [tabI_congr (g := fun r => ((nxR n (fun i => B.getD i 0) a n r : Nat) : Int)) (fun x hx => by rw [nxR_all ha (by omega)])]
                            exact hN
                          first
                           | (exfalso; first | omega | contradiction | (cases Q28; done))
                           | skip
                             refine cd_exit ?_
                             refine ex_then ?_
                             refine ex_then ?_
                             refine ex_block ?_
                             refine nx_then ?_
                             refine cd_seq ?_
                             refine cd_region ?_
                             refine st_val (ro_move (v := .int _ _) rfl) ?_
                             refine st_make BwtRefBack_m24 rfl rfl rfl (by omega) (by omega) ?_
                             intro b99 w33 E99 hb99 hk99
                             have hg99 : w.heap.size ≤ b99 := by rw [hb99]; exact (hB).size
                             have h6899 : b68 < b99 := by rw [hb99]; exact hNl.lt
                             refine st_val (ro_assign (v := .slice _ _ _) rfl) ?_
                             refine st_nil ?_
                             refine nx_then ?_
                             refine cd_seq ?_
                             refine cd_region ?_
                             refine st_val (ro_assign (v := .int _ _) rfl) ?_
                             refine st_nil ?_
                             refine nx_then ?_
                             refine cd_seq ?_
                             refine cd_seq ?_
                             refine cd_region ?_
                             refine st_val (ro_move (v := .int _ _) rfl) ?_
                             refine st_val (ro_sub64 rfl rfl (by omega)) ?_
                             refine st_val (ro_assign (v := .int _ _) rfl) ?_
                             refine st_nil ?_
                             refine nx_then ?_
                             refine cd_block ?_
                             refine cd_loop (G := Nat × (Nat → Int)) [4, 5, 16, 102, 103, 104, 105, 106, 107, 108, 109, 110, 111, 112, 113, 114, 115, 116, 117, 118, 119, 120, 121, 122, 123, 124, 125] (fun (m, _) => [(14, .int .i64 ((wk n (fun i => B.getD i 0) a (n - m) : Nat) : Int)), (15, .int .i64 (((m : Nat) : Int) - 1))]) (fun (m, fl) w' => m ≤ n ∧ (∀ j, j < n - m → wk n (fun i => B.getD i 0) a j ≠ a) ∧ (∀ i, m ≤ i → i < n → fl i = (((wl n (fun i => B.getD i 0) a).getD i 0 : Nat) : Int)) ∧ Blk w' b99 3 (tabI n fl) ∧ Blk w' b68 3 (tabI (n + 1) fun r => ((lf n (fun i => B.getD i 0) a r : Nat) : Int)) ∧ From w w') (fun (m, _) => m) ((n, fun _ => 0)) ⟨(int_eq (by rw [Nat.sub_self]; rfl)), rfl, trivial⟩ ?_ ?_
                             · exact ⟨Nat.le_refl _, fun j h => absurd h (by omega), fun i h1 h2 => absurd h2 (by omega), by rw [← tabI_zero]; exact hk99, hNl.from_ (From.rfl_.next E99), (hB.next E99)⟩
                             rintro ⟨m, fl⟩ ρ34 w34 ⟨hm, hne, hfl, hT, hN, hB⟩
                             refine cd_seq ?_
                             refine cd_seq ?_
                             refine cd_region ?_
                             refine st_val (ro_move (v := .int _ _) rfl) ?_
                             refine st_val (ro_geq rfl rfl) ?_
                             refine st_nil ?_
                             refine nx_then ?_
                             refine cd_cond rfl (fun Q35 => ?_) (fun Q35 => ?_)
                             · (try with_reducible first | replace Q35 := of_decide_eq_true Q35 | replace Q35 := of_decide_eq_false Q35 | replace Q35 := bn_t Q35 | replace Q35 := bn_f Q35)
                               (try with_reducible first | replace Q35 := of_decide_eq_true Q35 | replace Q35 := of_decide_eq_false Q35 | replace Q35 := bx_t Q35 | replace Q35 := bx_f Q35 | replace Q35 := be_t Q35 | replace Q35 := be_f Q35)
                               have h0m : 0 < m := by omega
                               have hwl := wk_le (n := n) (b := (fun i => B.getD i 0)) ha (n - m)
                               obtain ⟨b, o, rfl, hc⟩ := rowD hrB (by omega)
                               first
                                | (exfalso; first | omega | contradiction | (cases Q35; done))
                                | skip
                                  refine cd_skip ?_
                                  refine nx_then ?_
                                  refine cd_seq ?_
                                  refine cd_block ?_
                                  refine cd_seq ?_
                                  refine cd_seq ?_
                                  refine cd_region ?_
                                  refine st_val (ro_move (v := .int _ _) rfl) ?_
                                  refine st_val (ro_move (v := .int _ _) rfl) ?_
                                  refine st_val (ro_eql rfl rfl) ?_
                                  refine st_nil ?_
                                  refine nx_then ?_
                                  refine cd_cond rfl (fun Q36 => ?_) (fun Q36 => ?_)
                                  · (try with_reducible first | replace Q36 := of_decide_eq_true Q36 | replace Q36 := of_decide_eq_false Q36 | replace Q36 := bn_t Q36 | replace Q36 := bn_f Q36)
                                    (try with_reducible first | replace Q36 := of_decide_eq_true Q36 | replace Q36 := of_decide_eq_false Q36 | replace Q36 := bx_t Q36 | replace Q36 := bx_f Q36 | replace Q36 := be_t Q36 | replace Q36 := be_f Q36)
                                    have hbad : Bad n (a : Int) xs := fun B2 a2 e1 e2 e3 e4 hc => by
                                      obtain rfl := cI_inj (hxs.symm.trans e1)
                                      obtain rfl : a = a2 := by omega
                                      exact hc.1 (n - m) (by omega) (by omega)
                                    first
                                     | (exfalso; first | omega | contradiction | (cases Q36; done))
                                     | skip
                                       refine cd_seq ?_
                                       refine cd_region ?_
                                       refine st_val (ro_assign (v := .slice _ _ _) rfl) ?_
                                       refine st_val (ro_assign (v := .bool _) rfl) ?_
                                       refine st_nil ?_
                                       refine nx_then ?_
                                       refine cd_ret ?_
                                       refine rt_then ?_
                                       refine rt_block ?_
                                       refine rt_then ?_
                                       refine rt_then ?_
                                       refine rt_block ?_
                                       refine rt_then ?_
                                       refine res2 (v := .slice _ _ _) (v' := .bool _) rfl rfl rfl ?_
                                       exact ⟨.inr ⟨hbad, rfl⟩, hB⟩
                                  (try with_reducible first | replace Q36 := of_decide_eq_true Q36 | replace Q36 := of_decide_eq_false Q36 | replace Q36 := bn_t Q36 | replace Q36 := bn_f Q36)
                                  (try with_reducible first | replace Q36 := of_decide_eq_true Q36 | replace Q36 := of_decide_eq_false Q36 | replace Q36 := bx_t Q36 | replace Q36 := bx_f Q36 | replace Q36 := be_t Q36 | replace Q36 := be_f Q36)
                                  have hwa : wk n (fun i => B.getD i 0) a (n - m) ≠ a := by omega
                                  have hsl := sy_lt ha hwl hwa
                                  first
                                   | (exfalso; first | omega | contradiction | (cases Q36; done))
                                   | skip
                                     refine cd_skip ?_
                                     refine nx_then ?_
                                     refine cd_seq ?_
                                     refine cd_region ?_
                                     refine st_val (ro_move (v := .int _ _) rfl) ?_
                                     refine st_val (ro_assign (v := .int _ _) rfl) ?_
                                     refine st_nil ?_
                                     refine nx_then ?_
                                     refine cd_cut (G := Unit) [110, 111, 112, 113, 114] (fun _ => [(16, .int .i64 ((sy a (wk n (fun i => B.getD i 0) a (n - m)) : Nat) : Int))]) (fun _ w' => w34 = w') ?_ ?_
                                     · refine cd_seq ?_
                                       refine cd_region ?_
                                       refine st_val (ro_move (v := .int _ _) rfl) ?_
                                       refine st_val (ro_move (v := .int _ _) rfl) ?_
                                       refine st_val (ro_gtr rfl rfl) ?_
                                       refine st_nil ?_
                                       refine nx_then ?_
                                       refine cd_cond rfl (fun Q37 => ?_) (fun Q37 => ?_)
                                       · (try with_reducible first | replace Q37 := of_decide_eq_true Q37 | replace Q37 := of_decide_eq_false Q37 | replace Q37 := bn_t Q37 | replace Q37 := bn_f Q37)
                                         (try with_reducible first | replace Q37 := of_decide_eq_true Q37 | replace Q37 := of_decide_eq_false Q37 | replace Q37 := bx_t Q37 | replace Q37 := bx_f Q37 | replace Q37 := be_t Q37 | replace Q37 := be_f Q37)
                                         first
                                          | (exfalso; first | omega | contradiction | (cases Q37; done))
                                          | skip
                                            refine cd_region ?_
                                            refine st_val (ro_move (v := .int _ _) rfl) ?_
                                            refine st_val (ro_subN (b := 1) rfl rfl (by omega)) ?_
                                            refine st_val (ro_assign (v := .int _ _) rfl) ?_
                                            refine st_nil ?_
                                            refine nx_cut (()) ⟨(int_eq (by rw [sy_gt (by omega)])), trivial⟩ (by (iterate 6 refine agr_cons rfl ?_); exact agr_rfl) ?_
                                            exact rfl
                                       (try with_reducible first | replace Q37 := of_decide_eq_true Q37 | replace Q37 := of_decide_eq_false Q37 | replace Q37 := bn_t Q37 | replace Q37 := bn_f Q37)
                                       (try with_reducible first | replace Q37 := of_decide_eq_true Q37 | replace Q37 := of_decide_eq_false Q37 | replace Q37 := bx_t Q37 | replace Q37 := bx_f Q37 | replace Q37 := be_t Q37 | replace Q37 := be_f Q37)
                                       first
                                        | (exfalso; first | omega | contradiction | (cases Q37; done))
                                        | skip
                                          refine cd_skip ?_
                                          refine nx_cut (()) ⟨(int_eq (by rw [sy_le (by omega)])), trivial⟩ (by (iterate 3 refine agr_cons rfl ?_); exact agr_rfl) ?_
                                          exact rfl
                                     rintro ⟨⟩ ρ38 w38 rfl
                                     refine cd_seq ?_
                                     refine cd_region ?_
                                     refine st_val (ro_move (v := .slice _ _ _) rfl) ?_
                                     refine st_val (ro_move (v := .int _ _) rfl) ?_
                                     refine st_spell (t := 116) (v := .int _ _) (v' := .int .i64 ((m - 1 : Nat) : Int)) rfl (by exact int_eq (by omega)) ?_
                                     refine st_val (ro_move (v := .slice _ _ _) rfl) ?_
                                     refine st_val (ro_move (v := .int _ _) rfl) ?_
                                     refine st_val (ro_indexAddr1 BwtRefBack_e24 rfl rfl (by omega)) ?_
                                     refine st_val (ro_load BwtRefBack_g3 rfl (by exact cellF hB (hc _ (by omega)))) ?_
                                     refine st_val (ro_indexAddr0 BwtRefBack_e24 rfl rfl (by omega)) ?_
                                     refine st_put (v := .int _ _) BwtRefBack_z3 rfl rfl rfl (hT) (by rw [tabI_size]; omega) ?_
                                     intro w39 O32 P32
                                     have hN32 := hN.only O32 (by omega)
                                     have P32b : Blk w39 b99 3 (tabI n (upd fl (m - 1) ((B.getD (sy a (wk n (fun i => B.getD i 0) a (n - m))) 0 : Nat) : Int))) := by rw [← tabI_set]; exact P32
                                     refine st_nil ?_
                                     refine nx_then ?_
                                     refine cd_region ?_
                                     refine st_val (ro_move (v := .slice _ _ _) rfl) ?_
                                     refine st_val (ro_move (v := .int _ _) rfl) ?_
                                     refine st_val (ro_indexAddr0 BwtRefBack_e24 rfl rfl (by omega)) ?_
                                     refine st_val (ro_load BwtRefBack_g3 rfl (by exact hN32.rd _ (tabI_at (by omega)))) ?_
                                     refine st_val (ro_assign (v := .int _ _) rfl) ?_
                                     refine st_nil ?_
                                     refine nx_block ?_
                                     refine nx_then ?_
                                     refine cd_region ?_
                                     refine st_val (ro_move (v := .int _ _) rfl) ?_
                                     refine st_val (ro_sub64 rfl rfl (by omega)) ?_
                                     refine st_val (ro_assign (v := .int _ _) rfl) ?_
                                     refine st_nil ?_
                                     refine nx_cut ((m - 1, upd fl (m - 1) ((B.getD (sy a (wk n (fun i => B.getD i 0) a (n - m))) 0 : Nat) : Int))) ⟨(int_eq (by rw [wk_pred h0m hm])), (int_eq (by omega)), trivial⟩ (by (iterate 58 refine agr_cons rfl ?_); exact agr_rfl) ⟨?_, ?_⟩
                                     · exact ⟨by omega, fun j hj => by rcases Nat.eq_or_lt_of_le (show j ≤ n - m by omega) with e | e; (rw [e]; exact hwa); exact hne j e, wl_put hfl h0m hm rfl, P32b.from_ From.rfl_, hN32.from_ From.rfl_, (hB.only O32 (hg99))⟩
                                     · show m - 1 < m; omega
                             (try with_reducible first | replace Q35 := of_decide_eq_true Q35 | replace Q35 := of_decide_eq_false Q35 | replace Q35 := bn_t Q35 | replace Q35 := bn_f Q35)
                             (try with_reducible first | replace Q35 := of_decide_eq_true Q35 | replace Q35 := of_decide_eq_false Q35 | replace Q35 := bx_t Q35 | replace Q35 := bx_f Q35 | replace Q35 := be_t Q35 | replace Q35 := be_f Q35)
                             obtain rfl : m = 0 := by omega
                             first
                              | (exfalso; first | omega | contradiction | (cases Q35; done))
                              | skip
                                refine cd_exit ?_
                                refine ex_then ?_
                                refine ex_then ?_
                                refine ex_block ?_
                                refine nx_then ?_
                                refine cd_seq ?_
                                refine cd_seq ?_
                                refine cd_region ?_
                                refine st_val (ro_move (v := .int _ _) rfl) ?_
                                refine st_val (ro_move (v := .int _ _) rfl) ?_
                                refine st_val (ro_neq rfl rfl) ?_
                                refine st_nil ?_
                                refine nx_then ?_
                                refine cd_cond rfl (fun Q40 => ?_) (fun Q40 => ?_)
                                · (try with_reducible first | replace Q40 := of_decide_eq_true Q40 | replace Q40 := of_decide_eq_false Q40 | replace Q40 := bn_t Q40 | replace Q40 := bn_f Q40)
                                  (try with_reducible first | replace Q40 := of_decide_eq_true Q40 | replace Q40 := of_decide_eq_false Q40 | replace Q40 := bx_t Q40 | replace Q40 := bx_f Q40 | replace Q40 := be_t Q40 | replace Q40 := be_f Q40)
                                  have hbad : Bad n (a : Int) xs := fun B2 a2 e1 e2 e3 e4 hc => by
                                    obtain rfl := cI_inj (hxs.symm.trans e1)
                                    obtain rfl : a = a2 := by omega
                                    have := hc.2
                                    simp only [Nat.sub_zero] at *
                                    omega
                                  first
                                   | (exfalso; first | omega | contradiction | (cases Q40; done))
                                   | skip
                                     refine cd_seq ?_
                                     refine cd_region ?_
                                     refine st_val (ro_assign (v := .slice _ _ _) rfl) ?_
                                     refine st_val (ro_assign (v := .bool _) rfl) ?_
                                     refine st_nil ?_
                                     refine nx_then ?_
                                     refine cd_ret ?_
                                     refine rt_then ?_
                                     refine res2 (v := .slice _ _ _) (v' := .bool _) rfl rfl rfl ?_
                                     exact ⟨.inr ⟨hbad, rfl⟩, hB⟩
                                (try with_reducible first | replace Q40 := of_decide_eq_true Q40 | replace Q40 := of_decide_eq_false Q40 | replace Q40 := bn_t Q40 | replace Q40 := bn_f Q40)
                                (try with_reducible first | replace Q40 := of_decide_eq_true Q40 | replace Q40 := of_decide_eq_false Q40 | replace Q40 := bx_t Q40 | replace Q40 := bx_f Q40 | replace Q40 := be_t Q40 | replace Q40 := be_f Q40)
                                have hci : Circ n (fun i => B.getD i 0) a := ⟨fun j hj => hne j (by omega), by simp only [Nat.sub_zero] at *; omega⟩
                                first
                                 | (exfalso; first | omega | contradiction | (cases Q40; done))
                                 | skip
                                   refine cd_skip ?_
                                   refine nx_then ?_
                                   refine cd_seq ?_
                                   refine cd_region ?_
                                   refine st_val (ro_move (v := .slice _ _ _) rfl) ?_
                                   refine st_call BwtRefBack_k12 (refMake_rt (some ⟨b99, 0, none⟩) n n (wl n (fun i => B.getD i 0) a) _ (row_fl (hT.from_ From.rfl_) wl_len (fun i hi => hfl i (Nat.zero_le _) hi)) wl_len.symm (by omega)) ?_
                                   rintro v131 w41 ⟨⟨Bs, a2, A131, c131, rfl, hbw, ho131⟩, E131⟩
                                   obtain ⟨rfl, rfl⟩ := (redo hBl.symm ha hci).uniq hbw
                                   refine st_val (ro_move (v := .tuple _) rfl) ?_
                                   refine st_val (ro_extract rfl rfl) ?_
                                   refine st_val (ro_extract rfl rfl) ?_
                                   refine st_val (ro_assign (v := .slice _ _ _) rfl) ?_
                                   refine st_val (ro_assign (v := .int _ _) rfl) ?_
                                   refine st_nil ?_
                                   refine nx_then ?_
                                   refine cd_seq ?_
                                   refine cd_region ?_
                                   refine st_val (ro_move (v := .slice _ _ _) rfl) ?_
                                   refine st_val (ro_move (v := .int _ _) rfl) ?_
                                   refine st_val (ro_move (v := .int _ _) rfl) ?_
                                   refine st_val (ro_bt (ro_eql rfl rfl) (by simp)) ?_
                                   refine st_val (ro_move (v := .bool _) rfl) ?_
                                   refine st_unguard rfl ?_
                                   refine st_val (ro_move (v := .slice _ _ _) rfl) ?_
                                   refine st_unguard rfl ?_
                                   refine st_val (ro_move (v := .slice _ _ _) rfl) ?_
                                   refine st_unguard rfl ?_
                                   refine st_call BwtRefBack_k13 (eq_same A131 _ c131 c B.length n (cI B) _ (RowOf.own ho131).2 (hrB.from_ (hB.next E131)) (by rw [List.length_map]) (by rw [List.length_map]; exact hBl) (by omega)) ?_
                                   rintro v141 w42 ⟨rfl, E141⟩
                                   refine st_val (ro_pickT (v := .bool _) rfl rfl) ?_
                                   refine st_val (ro_assign (v := .slice _ _ _) rfl) ?_
                                   refine st_val (ro_assign (v := .bool _) rfl) ?_
                                   refine st_nil ?_
                                   refine nx_then ?_
                                   refine cd_ret ?_
                                   refine res2 (v := .slice _ _ _) (v' := .bool _) rfl rfl rfl ?_
                                   exact ⟨.inl ⟨B, a, _, _, hxs, hx, rfl, ha, hci, rfl, (row_fl hT wl_len (fun i hi => hfl i (Nat.zero_le _) hi)).from_ ((From.rfl_.next E131).next E141)⟩, ((hB.next E131).next E141)⟩
end Go.Proofs.Ytpafbgdbjambgaa

namespace Go.Proofs.Ytpafbgdbjambgaa
open Go.RowKit
open Go.ChangeShapes Go.WideShapes Go.ChangeAt
open Go.Proofs.Ytpafbgdbjambgaa.SA
theorem BwtHelp_e24 : elemQ Try.prog 24 = some (3, 1) := by kernel_rfl
theorem BwtHelp_m24 : makeQ Try.prog 24 = some (3, 8, (.int .i64 0)) := by kernel_rfl
theorem BwtHelp_q24 : litQ Try.prog 24 = some (3, 1, 8, (.int .i64 0)) := by kernel_rfl
theorem BwtHelp_f26_0 : fieldQ Try.prog 26 0 = some 0 := by kernel_rfl
theorem BwtHelp_g24 : aggQ Try.prog 24 = some false := by kernel_rfl
theorem BwtHelp_l24 : (elemQ Try.prog 24).isSome = true := by kernel_rfl
theorem BwtHelp_k9 : callable Try.prog 9 = true := by kernel_rfl
theorem BwtHelp_k11 : callable Try.prog 11 = true := by kernel_rfl
theorem BwtHelp_k13 : callable Try.prog 13 = true := by kernel_rfl
theorem BwtHelp_g3 : aggQ Try.prog 3 = some false := by kernel_rfl
abbrev askT5 : Ty := .pr (.sl (.int .i64)) (.pr (.int .i64) .unit)
structure AskB (w : World) (b a : Nat) (A : Option Addr) (ca : Nat) (L : List Int) (x : Int) : Prop where
  cells : w.rangeAt b a [.slice A L.length ca, .int .i64 x]
  rowL : RowOf iV w A L
  lenL : L.length * 8 ≤ 140737488351232
theorem ask_at5 {w : World} {b a : Nat} {x : askT5.den} (h : askT5.At w (fun j => w.cell? ⟨b, a + j, none⟩) x) : ∃ A ca L y, AskB w b a A ca L y := by
  obtain ⟨h1, h2, _⟩ := h
  obtain ⟨A, ca, c1, r1, _, l1, _⟩ := at_nums h1
  exact ⟨A, ca, _, _, range2 c1 h2.1, r1, l1⟩
/-- what Back is to tell -/
def BackIs (n : Nat) (at_ : Int) (xs : List Int) (ok : Bool) (l : List Nat) : Prop :=
  (∃ B a, xs = cI B ∧ (∀ x ∈ B, x < 512) ∧ at_ = (a : Nat) ∧ a ≤ n ∧ Circ n (fun i => B.getD i 0) a ∧ ok = true ∧ l = wl n (fun i => B.getD i 0) a) ∨ (Bad n at_ xs ∧ ok = false ∧ l = [])
theorem back_is (at_ : Int) (A : Option Addr) (c n : Nat) (xs : List Int) (w : World) (hr : RowOf iV w A xs) (hn : n = xs.length) (hl : n ≤ 131072) : Rt Try.prog 16 [.int .i64 at_, .slice A n c] w fun v w' => (∃ ok l A' c', BackIs n at_ xs ok l ∧ v = .tuple #[.slice A' l.length c', .int .i64 (bif ok then 0 else 1)] ∧ RowOf iV w' A' (cI l)) ∧ From w w' := by
  refine (back_rt at_ A c n xs w hr hn hl).mono fun v w' h => ?_
  obtain ⟨h, hF⟩ := h
  refine ⟨?_, hF⟩
  rcases h with ⟨B, a, A', h1, h2, h3, h4, h5, rfl, ho⟩ | ⟨h, rfl⟩
  · refine ⟨true, wl n (fun i => B.getD i 0) a, A', n, .inl ⟨B, a, h1, h2, h3, h4, h5, rfl, rfl⟩, by rw [wl_len]; rfl, (sortA_own ho).2⟩
  · exact ⟨false, [], none, 0, .inr ⟨h, rfl, rfl⟩, rfl, RowOf.nil⟩
theorem back_len {n : Nat} {at_ : Int} {xs : List Int} {ok : Bool} {l : List Nat} (h : BackIs n at_ xs ok l) : l.length ≤ n := by
  rcases h with ⟨_, _, _, _, _, _, _, _, rfl⟩ | ⟨_, _, rfl⟩
  · rw [wl_len]; exact Nat.le_refl _
  · exact Nat.zero_le _
theorem back_two (at_ : Int) (A : Option Addr) (c n : Nat) (xs : List Int) (w : World) (hr : RowOf iV w A xs) (hn : n = xs.length) (hl : n ≤ 131072) : Rt Try.prog 16 [.int .i64 at_, .slice A n c] w fun v w' => ((∃ l A' c', BackIs n at_ xs true l ∧ v = .tuple #[.slice A' l.length c', .int .i64 0] ∧ RowOf iV w' A' (cI l) ∧ l.length = n) ∨ (BackIs n at_ xs false [] ∧ v = .tuple #[.slice none 0 0, .int .i64 1])) ∧ From w w' := by
  refine (back_rt at_ A c n xs w hr hn hl).mono fun v w' h => ?_
  obtain ⟨h, hF⟩ := h
  refine ⟨?_, hF⟩
  rcases h with ⟨B, a, A', h1, h2, h3, h4, h5, rfl, ho⟩ | ⟨h, rfl⟩
  · exact .inl ⟨wl n (fun i => B.getD i 0) a, A', n, .inl ⟨B, a, h1, h2, h3, h4, h5, rfl, rfl⟩, by rw [wl_len], (sortA_own ho).2, wl_len⟩
  · exact .inr ⟨.inr ⟨h, rfl, rfl⟩, rfl⟩
theorem refBack_is (ok : Bool) (l : List Nat) (at_ : Int) (A : Option Addr) (c n : Nat) (xs : List Int) (w : World) (hr : RowOf iV w A xs) (hn : n = xs.length) (hl : n ≤ 131072) (hi : BackIs n at_ xs ok l) : Rt Try.prog 17 [.int .i64 at_, .slice A n c] w fun v w' => (∃ A' c', v = .tuple #[.slice A' l.length c', .bool ok] ∧ RowOf iV w' A' (cI l)) ∧ From w w' := by
  refine (refBack_rt at_ A c n xs w hr hn hl).mono fun v w' h => ?_
  obtain ⟨h, hF⟩ := h
  refine ⟨?_, hF⟩
  rcases h with ⟨B, a, A', c', h1, h2, h3, h4, h5, rfl, ho⟩ | ⟨h, rfl⟩
  · rcases hi with ⟨B2, a2, g1, g2, g3, g4, g5, rfl, rfl⟩ | ⟨hb, _⟩
    · obtain rfl := cI_inj (h1.symm.trans g1)
      obtain rfl : a = a2 := by omega
      exact ⟨A', c', by rw [wl_len], ho⟩
    · exact absurd h5 (hb B a h1 h2 h3 h4)
  · rcases hi with ⟨B2, a2, g1, g2, g3, g4, g5, _⟩ | ⟨hb, rfl, rfl⟩
    · exact absurd g5 (h B2 a2 g1 g2 g3 g4)
    · exact ⟨none, 0, rfl, RowOf.nil⟩
/-- Back of what was made -/
theorem back_good (A : Option Addr) (c n a : Nat) (L B : List Nat) (w : World) (hr : RowOf iV w A (cI B)) (hn : n = B.length) (hl : n ≤ 131072) (hx : ∀ x ∈ L, x < 512) (hb : IsBw L B a) : Rt Try.prog 16 [.int .i64 (a : Nat), .slice A n c] w fun v w' => (∃ A' c', v = .tuple #[.slice A' L.length c', .int .i64 0] ∧ RowOf iV w' A' (cI L)) ∧ From w w' := by
  refine (back_is a A c n (cI B) w hr (by rw [List.length_map]; exact hn) hl).mono fun v w' h => ?_
  obtain ⟨⟨ok, l, A', c', hi, rfl, hr'⟩, hF⟩ := h
  refine ⟨?_, hF⟩
  have hu := undo hb
  have hnl : n = L.length := hn.trans hb.len
  rcases hi with ⟨B2, a2, g1, g2, g3, g4, g5, rfl, rfl⟩ | ⟨h, _⟩
  · obtain rfl := cI_inj g1
    obtain rfl : a = a2 := by omega
    rw [hnl, hu.2] at hr' ⊢
    exact ⟨A', c', rfl, hr'⟩
  · rw [← hnl] at hu
    exact absurd hu.1 (h B a rfl (hb.symb hx) rfl (by rw [hnl]; exact hb.le))
/-- Back of another row -/
theorem back_other {L B l : List Nat} {a k n : Nat} {ok : Bool} (hn : n = B.length) (hb : IsBw L B a) (hi : BackIs n (k : Nat) (cI B) ok l) (hok : ok = true) (hk : k ≠ a) : cI l ≠ cI L := fun e => by
  rcases hi with ⟨B2, a2, g1, g2, g3, g4, g5, _, rfl⟩ | ⟨_, h, _⟩
  · obtain rfl := cI_inj g1
    obtain rfl : k = a2 := by omega
    have := redo hn.symm g4 g5
    rw [cI_inj e] at this
    exact hk (hb.uniq this).2.symm
  · rw [hok] at h; cases h
/-- the same symbols stand in both -/
theorem cnt_img {n : Nat} {f : Nat → Nat} {p q : Nat → Prop} (hf : ∀ i, i < n → f i < n) (hi : ∀ i j, i < n → j < n → f i = f j → i = j) (hp : ∀ i, i < n → p i → q (f i)) : cnt n p ≤ cnt n q := by
  have key : ∀ m, m ≤ n → cnt m p ≤ cnt n (fun r => q r ∧ ∃ i, i < m ∧ f i = r) := by
    intro m
    induction m with
    | zero => intro _; exact Nat.zero_le _
    | succ m ih =>
      intro hm
      have h1 := ih (by omega)
      by_cases h : p m
      · rw [cnt_yes h]
        have := cnt_lt (n := n) (x := f m) (p := fun r => q r ∧ ∃ i, i < m ∧ f i = r) (q := fun r => q r ∧ ∃ i, i < m + 1 ∧ f i = r) (fun r _ ⟨a, i, b, c⟩ => ⟨a, i, by omega, c⟩) (hf m (by omega)) (fun ⟨_, i, a, b⟩ => by have := hi i m (by omega) (by omega) b; omega) ⟨hp m (by omega) h, m, by omega, rfl⟩
        omega
      · rw [cnt_no h]
        have := cnt_mono (n := n) (p := fun r => q r ∧ ∃ i, i < m ∧ f i = r) (q := fun r => q r ∧ ∃ i, i < m + 1 ∧ f i = r) (fun r _ ⟨a, i, b, c⟩ => ⟨a, i, by omega, c⟩)
        omega
  exact Nat.le_trans (key n (Nat.le_refl _)) (cnt_mono fun r _ h => h.1)
theorem cnt_split {n : Nat} {p : Nat → Prop} : cnt n p + cnt n (fun i => ¬ p i) = n := by
  rw [← cnt_or (fun i _ a b => b a)]
  have h : cnt n (fun _ => True) = n := by
    induction n with
    | zero => rfl
    | succ n ih => rw [cnt_yes trivial, ih]
  exact (cnt_congr (p := fun i => p i ∨ ¬ p i) (q := fun _ => True) fun i _ => ⟨fun _ => trivial, fun _ => Classical.em _⟩).trans h
theorem bw_occ {L B : List Nat} {a : Nat} (hb : IsBw L B a) (c : Nat) : occ (fun i => B.getD i 0) L.length c = occ (fun i => L.getD i 0) L.length c := by
  have ha := hb.le
  have hne : ∀ i, i < L.length → rank (L.length + 1) (endT L) (i + 1) ≠ a := fun i hi => by rw [hb.at0]; exact rank_ne (by omega) (by omega) (by omega)
  have hf : ∀ i, i < L.length → sy a (rank (L.length + 1) (endT L) (i + 1)) < L.length := fun i hi => sy_lt ha (rank_le (by omega)) (hne i hi)
  have hi : ∀ i j, i < L.length → j < L.length → sy a (rank (L.length + 1) (endT L) (i + 1)) = sy a (rank (L.length + 1) (endT L) (j + 1)) → i = j := fun i j h1 h2 e => by
    have := rank_inj (endT_txt L) (show i + 1 < L.length + 1 by omega) (show j + 1 < L.length + 1 by omega) (sy_inj (hne i h1) (hne j h2) e)
    omega
  have hs : ∀ i, i < L.length → B.getD (sy a (rank (L.length + 1) (endT L) (i + 1))) 0 = L.getD i 0 := fun i h => hb.sym (i + 1) (by omega) (by omega)
  have h1 := cnt_img (p := fun i => L.getD i 0 = c) (q := fun i => B.getD i 0 = c) hf hi (fun i h x => by rw [hs i h]; exact x)
  have h2 := cnt_img (p := fun i => ¬ L.getD i 0 = c) (q := fun i => ¬ B.getD i 0 = c) hf hi (fun i h x => by rw [hs i h]; exact x)
  have h3 := cnt_split (n := L.length) (p := fun i => L.getD i 0 = c)
  have h4 := cnt_split (n := L.length) (p := fun i => B.getD i 0 = c)
  show cnt L.length (fun i => B.getD i 0 = c) = cnt L.length (fun i => L.getD i 0 = c)
  omega
/-- for the walk that shows that all runs -/
theorem bw_1010 {B : List Nat} {a : Nat} (h : IsBw [1, 0, 1, 0] B a) : B = [0, 1, 1, 0] ∧ a = 4 := by
  have e : ∀ i, endT [1, 0, 1, 0] i = if i = 0 then 2 else if i = 1 then 1 else if i = 2 then 2 else if i = 3 then 1 else 0 := fun i => by
    match i with
    | 0 => rfl
    | 1 => rfl
    | 2 => rfl
    | 3 => rfl
    | i + 4 => unfold endT; rw [dif_neg (by simp)]; simp
  have s31 : sl 5 (endT [1, 0, 1, 0]) 3 1 := ⟨1, fun m hm => by rw [Nat.lt_one_iff.1 hm]; rfl, by decide, by decide, by rw [e, e]; decide⟩
  have s12 : sl 5 (endT [1, 0, 1, 0]) 1 2 := ⟨0, fun m hm => absurd hm (by omega), by decide, by decide, by rw [e, e]; decide⟩
  have s20 : sl 5 (endT [1, 0, 1, 0]) 2 0 := ⟨2, fun m hm => by
    rcases (show m = 0 ∨ m = 1 by omega) with rfl | rfl <;> rfl, by decide, by decide, by rw [e, e]; decide⟩
  have hS : IsSA [1, 0, 1, 0] [3, 1, 2, 0] := isSA_of rfl (by simp) (by
    simp only [List.pairwise_cons, List.mem_cons, List.not_mem_nil, or_false, forall_eq_or_imp, forall_eq]
    exact ⟨⟨s31, sl_trans s31 s12, sl_trans s31 (sl_trans s12 s20)⟩, ⟨s12, sl_trans s12 s20⟩, s20, fun _ h => h.elim, List.Pairwise.nil⟩)
  have t := ((((BwT.zero.push hS (by decide) (by decide)).push hS (by decide) (by decide)).push hS (by decide) (by decide)).push hS (by decide) (by decide)).skip hS (by decide) (by decide)
  exact ⟨(h.uniq (t.fin hS)).1, (h.uniq (t.fin hS)).2⟩
theorem row_four {w : World} {g : Nat} {x y z u : Int} (h : Blk w g 3 #[.int .i64 x, .int .i64 y, .int .i64 z, .int .i64 u]) : RowOf iV w (some ⟨g, 0, none⟩) [x, y, z, u] := fun _ => ⟨g, 0, rfl, fun i hi => by
  match i, hi with
  | 0, _ => exact h.rd 0 rfl
  | 1, _ => exact h.rd 1 rfl
  | 2, _ => exact h.rd 2 rfl
  | 3, _ => exact h.rd 3 rfl⟩
theorem make_1010 (g : Nat) (w : World) (h : Blk w g 3 #[.int .i64 1, .int .i64 0, .int .i64 1, .int .i64 0]) : Rt Try.prog 9 [.slice (some ⟨g, 0, none⟩) 4 4] w fun v w' => (∃ A' c', v = .tuple #[.slice A' 4 c', .int .i64 4, .int .i64 0] ∧ RowOf iV w' A' [0, 1, 1, 0]) ∧ From w w' := by
  refine (make_rt (some ⟨g, 0, none⟩) 4 4 [1, 0, 1, 0] w (row_four h) rfl (by omega)).mono fun v w' hv => ?_
  obtain ⟨hs, hF⟩ := hv
  refine ⟨?_, hF⟩
  rcases hs with ⟨h0, _⟩ | ⟨L, B, a, A', c', hL, _, hb, rfl, ho⟩
  · exact absurd h0 (by decide)
  · obtain rfl : L = [1, 0, 1, 0] := cI_inj hL.symm
    obtain ⟨rfl, rfl⟩ := bw_1010 hb
    exact ⟨A', c', rfl, (RowOf.own ho).2⟩
set_option maxRecDepth 100000 in
set_option maxHeartbeats 400000 in
theorem num_any (e : Int) (w : World) :
    Rt Try.prog 11 [.int .i64 e] w (fun v w' => v = .int .i64 e ∧ w = w') := by
  refine enter (n := 4) Try.func11 rfl rfl rfl ?_
  refine cd_seq ?_
  refine cd_region ?_
  refine st_val (ro_assign (v := .int _ _) rfl) ?_
  refine st_nil ?_
  refine nx_then ?_
  refine cd_seq ?_
  refine cd_region ?_
  refine st_val (ro_move (v := .int _ _) rfl) ?_
  refine st_val (ro_assign (v := .int _ _) rfl) ?_
  refine st_nil ?_
  refine nx_then ?_
  refine cd_ret ?_
  refine res1 (v := .int _ _) rfl rfl ?_
  exact ⟨rfl, rfl⟩
set_option maxRecDepth 100000 in
set_option maxHeartbeats 400000 in
theorem heavy_any (A : Option Addr) (n ca : Nat) (x : Int) (w : World) :
    Rt Try.prog 7 [.agg #[.slice A n ca, .int .i64 x]] w (fun v w' => v = .bool (decide (250 < n)) ∧ From w w') := by
  refine enter (n := 7) Try.func7 rfl rfl rfl ?_
  refine cd_seq ?_
  refine cd_region ?_
  refine st_box (v := .agg _) rfl ?_
  intro b1 w1 E1 hb1 hk1
  refine st_val (ro_assign (v := .bool _) rfl) ?_
  refine st_nil ?_
  refine nx_then ?_
  refine cd_seq ?_
  refine cd_region ?_
  refine st_val (ro_fieldAddr BwtHelp_f26_0 rfl) ?_
  refine st_val (ro_load BwtHelp_g24 rfl (by exact hk1.rd 0 rfl)) ?_
  refine st_val (ro_len BwtHelp_l24 rfl) ?_
  refine st_val (ro_gtr rfl rfl) ?_
  refine st_val (ro_assign (v := .bool _) rfl) ?_
  refine st_nil ?_
  refine nx_then ?_
  refine cd_ret ?_
  refine res1 (v := .bool _) rfl rfl ?_
  refine ⟨?_, (From.rfl_.next E1)⟩
  first
    | rw [decide_eq_true (by omega)]
    | exact congrArg Value.bool (decide_eq_decide.2 (by omega))
set_option maxRecDepth 100000 in
set_option maxHeartbeats 400000 in
theorem wakes_rt (w : World) :
    Rt Try.prog 15 [] w (fun v w' => v = .bool true ∧ From w w') := by
  refine enter (n := 22) Try.func15 rfl rfl rfl ?_
  refine cd_seq ?_
  refine cd_region ?_
  refine st_val (ro_assign (v := .bool _) rfl) ?_
  refine st_nil ?_
  refine nx_then ?_
  refine cd_seq ?_
  refine cd_region ?_
  refine st_lits [.const (.int .i64 1), .const (.int .i64 0), .const (.int .i64 1), .const (.int .i64 0)] [.int .i64 1, .int .i64 0, .int .i64 1, .int .i64 0] BwtHelp_q24 rfl rfl rfl rfl (by simp [Value.cells]) ?_
  intro b5 w1 E5 hb5 hk5
  refine st_call BwtHelp_k9 (make_1010 b5 _ hk5) ?_
  rintro v6 w2 ⟨⟨A6, c6, rfl, hr6⟩, E6⟩
  refine st_val (ro_move (v := .tuple _) rfl) ?_
  refine st_val (ro_extract rfl rfl) ?_
  refine st_val (ro_extract rfl rfl) ?_
  refine st_val (ro_extract rfl rfl) ?_
  refine st_val (ro_assign (v := .slice _ _ _) rfl) ?_
  refine st_val (ro_assign (v := .int _ _) rfl) ?_
  refine st_val (ro_assign (v := .int _ _) rfl) ?_
  refine st_nil ?_
  refine nx_then ?_
  refine cd_seq ?_
  refine cd_region ?_
  refine st_val (ro_move (v := .int _ _) rfl) ?_
  refine st_call BwtHelp_k11 (num_any _ _) ?_
  rintro v11 w3 ⟨rfl, rfl⟩
  refine st_val (ro_bt (ro_eql rfl rfl) rfl) ?_
  refine st_val (ro_move (v := .bool _) rfl) ?_
  refine st_unguard rfl ?_
  refine st_val (ro_move (v := .int _ _) rfl) ?_
  refine st_unguard rfl ?_
  refine st_val (ro_bt (ro_eql rfl rfl) rfl) ?_
  refine st_val (ro_pickT (v := .bool _) rfl rfl) ?_
  refine st_val (ro_move (v := .bool _) rfl) ?_
  refine st_unguard rfl ?_
  refine st_val (ro_move (v := .slice _ _ _) rfl) ?_
  refine st_unguard rfl ?_
  refine st_lits [.const (.int .i64 0), .const (.int .i64 1), .const (.int .i64 1), .const (.int .i64 0)] [.int .i64 0, .int .i64 1, .int .i64 1, .int .i64 0] BwtHelp_q24 rfl rfl rfl rfl (by simp [Value.cells]) ?_
  intro b19 w4 E19 hb19 hk19
  refine st_unguard rfl ?_
  refine st_call BwtHelp_k13 (eq_same A6 (some ⟨b19, 0, none⟩) c6 4 4 4 [0, 1, 1, 0] _ (hr6.from_ (From.rfl_.next E19)) (row_four hk19) rfl rfl (by omega)) ?_
  rintro v20 w5 ⟨rfl, E20⟩
  refine st_val (ro_pickT (v := .bool _) rfl rfl) ?_
  refine st_val (ro_assign (v := .bool _) rfl) ?_
  refine st_nil ?_
  refine nx_then ?_
  refine cd_ret ?_
  refine res1 (v := .bool _) rfl rfl ?_
  exact ⟨rfl, ((((From.rfl_.next E5).next E6).next E19).next E20)⟩
set_option maxRecDepth 100000 in
set_option maxHeartbeats 400000 in
theorem rank_rt (A : Option Addr) (ca m n c : Nat) (L : List Nat) (w : World) (hr : RowOf iV w A (cI L)) (hm : m = L.length) (hn : n = L.length) (hl : n ≤ 1000000) :
    Rt Try.prog 18 [.slice A m ca, .int .i64 (c : Nat), .int .i64 (n : Nat)] w (fun v w' => v = .int .i64 ((occ (fun i => L.getD i 0) n c : Nat) : Int) ∧ From w w') := by
  refine enter (n := 23) Try.func18 rfl rfl rfl ?_
  refine cd_seq ?_
  refine cd_region ?_
  refine st_val (ro_assign (v := .int _ _) rfl) ?_
  refine st_nil ?_
  refine nx_then ?_
  refine cd_seq ?_
  refine cd_region ?_
  refine st_val (ro_assign (v := .int _ _) rfl) ?_
  refine st_nil ?_
  refine nx_then ?_
  refine cd_seq ?_
  refine cd_seq ?_
  refine cd_region ?_
  refine st_val (ro_assign (v := .int _ _) rfl) ?_
  refine st_nil ?_
  refine nx_then ?_
  refine cd_block ?_
  refine cd_loop (G := Nat) [9, 10, 11, 12, 13, 14, 15, 16, 17, 18, 19, 20, 21] (fun k => [(7, .int .i64 ((occ (fun i => L.getD i 0) k c : Nat) : Int)), (8, .int .i64 (k : Nat))]) (fun k w' => k ≤ n ∧ From w w') (fun k => n - k) (0) ⟨rfl, rfl, trivial⟩ ?_ ?_
  · exact ⟨Nat.zero_le _, From.rfl_⟩
  rintro k ρ1 w1 ⟨hk, hB⟩
  refine cd_seq ?_
  refine cd_seq ?_
  refine cd_region ?_
  refine st_val (ro_move (v := .int _ _) rfl) ?_
  refine st_val (ro_move (v := .int _ _) rfl) ?_
  refine st_val (ro_lss rfl rfl) ?_
  refine st_nil ?_
  refine nx_then ?_
  refine cd_cond rfl (fun Q2 => ?_) (fun Q2 => ?_)
  · (try with_reducible first | replace Q2 := of_decide_eq_true Q2 | replace Q2 := of_decide_eq_false Q2 | replace Q2 := bn_t Q2 | replace Q2 := bn_f Q2)
    (try with_reducible first | replace Q2 := of_decide_eq_true Q2 | replace Q2 := of_decide_eq_false Q2 | replace Q2 := bx_t Q2 | replace Q2 := bx_f Q2 | replace Q2 := be_t Q2 | replace Q2 := be_f Q2)
    obtain ⟨b, o, rfl, hc⟩ := rowD hr (by omega)
    have hol := occ_le (b := fun i => L.getD i 0) k c
    first
     | (exfalso; first | omega | contradiction | (cases Q2; done))
     | skip
       refine cd_skip ?_
       refine nx_then ?_
       refine cd_cut (G := Nat) [14, 15, 16, 17, 18, 19, 20, 21] (fun q => [(7, .int .i64 (q : Nat))]) (fun q w' => q = occ (fun i => L.getD i 0) (k + 1) c ∧ w1 = w') ?_ ?_
       · refine cd_block ?_
         refine cd_seq ?_
         refine cd_region ?_
         refine st_val (ro_move (v := .slice _ _ _) rfl) ?_
         refine st_val (ro_move (v := .int _ _) rfl) ?_
         refine st_val (ro_indexAddr1 BwtHelp_e24 rfl rfl (by omega)) ?_
         refine st_val (ro_load BwtHelp_g3 rfl (by exact cellF hB (hc k (by omega)))) ?_
         refine st_val (ro_move (v := .int _ _) rfl) ?_
         refine st_val (ro_eql rfl rfl) ?_
         refine st_nil ?_
         refine nx_then ?_
         refine cd_cond rfl (fun Q3 => ?_) (fun Q3 => ?_)
         · (try with_reducible first | replace Q3 := of_decide_eq_true Q3 | replace Q3 := of_decide_eq_false Q3 | replace Q3 := bn_t Q3 | replace Q3 := bn_f Q3)
           (try with_reducible first | replace Q3 := of_decide_eq_true Q3 | replace Q3 := of_decide_eq_false Q3 | replace Q3 := bx_t Q3 | replace Q3 := bx_f Q3 | replace Q3 := be_t Q3 | replace Q3 := be_f Q3)
           first
            | (exfalso; first | omega | contradiction | (cases Q3; done))
            | skip
              refine cd_region ?_
              refine st_val (ro_move (v := .int _ _) rfl) ?_
              refine st_val (ro_addN (b := 1) rfl rfl (by omega)) ?_
              refine st_val (ro_assign (v := .int _ _) rfl) ?_
              refine st_nil ?_
              refine nx_block ?_
              refine nx_cut (occ (fun i => L.getD i 0) k c + 1) ⟨(by first | rfl | (refine int_eq ?_; omega)), trivial⟩ (by (iterate 9 refine agr_cons rfl ?_); exact agr_rfl) ?_
              exact ⟨(occ_yes (by show L.getD k 0 = c; omega)).symm, rfl⟩
         (try with_reducible first | replace Q3 := of_decide_eq_true Q3 | replace Q3 := of_decide_eq_false Q3 | replace Q3 := bn_t Q3 | replace Q3 := bn_f Q3)
         (try with_reducible first | replace Q3 := of_decide_eq_true Q3 | replace Q3 := of_decide_eq_false Q3 | replace Q3 := bx_t Q3 | replace Q3 := bx_f Q3 | replace Q3 := be_t Q3 | replace Q3 := be_f Q3)
         first
          | (exfalso; first | omega | contradiction | (cases Q3; done))
          | skip
            refine cd_skip ?_
            refine nx_block ?_
            refine nx_cut (occ (fun i => L.getD i 0) k c) ⟨(by first | rfl | (refine int_eq ?_; omega)), trivial⟩ (by (iterate 6 refine agr_cons rfl ?_); exact agr_rfl) ?_
            exact ⟨(occ_no (by show L.getD k 0 ≠ c; omega)).symm, rfl⟩
       rintro q ρ4 w4 ⟨hq, rfl⟩
       refine cd_region ?_
       refine st_val (ro_move (v := .int _ _) rfl) ?_
       refine st_val (ro_addN (b := 1) rfl rfl (by omega)) ?_
       refine st_val (ro_assign (v := .int _ _) rfl) ?_
       refine st_nil ?_
       refine nx_cut (k + 1) ⟨(int_eq (by rw [hq])), rfl, trivial⟩ (by (iterate 30 refine agr_cons rfl ?_); exact agr_rfl) ⟨?_, ?_⟩
       · exact ⟨by omega, hB⟩
       · show n - (k + 1) < n - k; omega
  (try with_reducible first | replace Q2 := of_decide_eq_true Q2 | replace Q2 := of_decide_eq_false Q2 | replace Q2 := bn_t Q2 | replace Q2 := bn_f Q2)
  (try with_reducible first | replace Q2 := of_decide_eq_true Q2 | replace Q2 := of_decide_eq_false Q2 | replace Q2 := bx_t Q2 | replace Q2 := bx_f Q2 | replace Q2 := be_t Q2 | replace Q2 := be_f Q2)
  first
   | (exfalso; first | omega | contradiction | (cases Q2; done))
   | skip
     refine cd_exit ?_
     refine ex_then ?_
     refine ex_then ?_
     refine ex_block ?_
     refine nx_then ?_
     refine cd_seq ?_
     refine cd_region ?_
     refine st_val (ro_move (v := .int _ _) rfl) ?_
     refine st_val (ro_assign (v := .int _ _) rfl) ?_
     refine st_nil ?_
     refine nx_then ?_
     refine cd_ret ?_
     refine res1 (v := .int _ _) rfl rfl ?_
     obtain rfl : n = k := by omega
     exact ⟨rfl, hB⟩
end Go.Proofs.Ytpafbgdbjambgaa

namespace Go.Proofs.Ytpafbgdbjambgaa
open Go.RowKit

abbrev Gh := Nat → Nat
def updG (g : Gh) (i h : Nat) : Gh := fun j => bif Nat.beq j i then h else g j
theorem updG_same (g : Gh) (i h : Nat) : updG g i h i = h := by unfold updG; rw [Nat.beq_refl]; rfl
theorem updG_ne (g : Gh) {i j : Nat} (h : Nat) (e : j ≠ i) : updG g i h j = g j := by unfold updG; rw [nbeq_f.2 e]; rfl
abbrev GT := List (Nat × Nat × (Gh → Value))
abbrev tabG (T : GT) (g : Gh) : List (Nat × Nat × Value) := T.map fun p => (p.1, p.2.1, p.2.2 g)
abbrev MT := List (Nat × TypeId × Array Value)
/-- the blocks that have been made -/
structure MemG (w0 : World) (MK : MT) (S : Nat → Bool) (g : Gh) (w' : World) : Prop where
  from_ : From w0 w'
  blk : ∀ p ∈ MK, S p.1 = true → Blk w' (g p.1) p.2.1 p.2.2
  ge : ∀ p ∈ MK, S p.1 = true → w0.heap.size ≤ g p.1
  ne : ∀ p ∈ MK, ∀ q ∈ MK, p.1 ≠ q.1 → S p.1 = true → S q.1 = true → g p.1 ≠ g q.1
theorem uniT_of : ∀ {T : GT} {g : Gh}, UniP (T.map fun p => (p.1, p.2.1)) → UniT (tabG T g)
  | [], _, _ => trivial
  | p :: r, g, h => ⟨fun q hq => by
      obtain ⟨y, hy, rfl⟩ := List.mem_map.1 hq
      exact h.1 (y.1, y.2.1) (List.mem_map.2 ⟨y, hy, rfl⟩), uniT_of h.2⟩
def IndG (S : Nat → Bool) (g g' : Gh) : GT → Prop
  | [] => True
  | p :: r => (S p.1 = true → p.2.2 g' = p.2.2 g) ∧ IndG S g g' r
theorem indG_at {S : Nat → Bool} {g g' : Gh} : ∀ {T : GT}, IndG S g g' T → ∀ p ∈ T, S p.1 = true → p.2.2 g' = p.2.2 g
  | _ :: _, ⟨h1, h2⟩, p, hp => by
    rcases List.mem_cons.1 hp with rfl | hp
    · exact h1
    · exact indG_at h2 p hp
section
variable {P : Program} {Q : Exit → Act → World → Prop} {n : Fr} {L L' M : List (Nat × Value)} {w w' w'' w0 : World} {l : List Oper} {T : GT} {MK : MT} {S : Nat → Bool} {op : Op} {ty : TypeId} {pos : String} {after : Array Edge} {i d : Nat} {f : Gh → Value} {g : Gh}
theorem InvG.get (h : InvL L (tabG T g) S L') (hp : (i, d, f) ∈ T) (hs : S i = true) : look L' d = f g := h.get (i := i) (d := d) (List.mem_map.2 ⟨_, hp, rfl⟩) hs
theorem InvG.old (h : InvL L (tabG T g) S L') (hp : (i, d, f) ∈ T) (hs : S i = false) : look L' d = look L d := h.old (i := i) (d := d) (v := f g) (List.mem_map.2 ⟨_, hp, rfl⟩) hs
theorem InvG.out {t : Nat} (h : InvL L (tabG T g) S L') (ht : (T.map fun p => p.2.1).elem t = false) : look L' t = look L t := h.1 t fun p hp e => by
  obtain ⟨y, hy, rfl⟩ := List.mem_map.1 hp
  have : t ∈ T.map fun p => p.2.1 := List.mem_map.2 ⟨y, hy, e⟩
  rw [List.elem_eq_mem, decide_eq_false_iff_not] at ht
  exact ht this
theorem InvG.chg {g' : Gh} (h : InvL L (tabG T g) S L') (hc : ∀ p ∈ T, S p.1 = true → p.2.2 g' = p.2.2 g) : InvL L (tabG T g') S L' := by
  refine ⟨fun t ht => h.1 t fun p hp => ?_, fun p hp hs => ?_, fun p hp hs => ?_⟩
  · obtain ⟨y, hy, rfl⟩ := List.mem_map.1 hp
    exact ht (y.1, y.2.1, y.2.2 g') (List.mem_map.2 ⟨y, hy, rfl⟩)
  · obtain ⟨y, hy, rfl⟩ := List.mem_map.1 hp
    have := h.2.1 (y.1, y.2.1, y.2.2 g) (List.mem_map.2 ⟨y, hy, rfl⟩) hs
    rw [this]
    exact (hc y hy hs).symm
  · obtain ⟨y, hy, rfl⟩ := List.mem_map.1 hp
    exact h.2.2 (y.1, y.2.1, y.2.2 g) (List.mem_map.2 ⟨y, hy, rfl⟩) hs
abbrev StepG (P : Program) (n : Fr) (L : List (Nat × Value)) (T : GT) (MK : MT) (w0 : World) (S : Nat → Bool) (i : Nat) (o : Oper) (L' : List (Nat × Value)) (w' : World) : Prop := StepI P n o (fun L2 w2 => ∃ g, InvL L (tabG T g) (setB S i) L2 ∧ MemG w0 MK (setB S i) g w2) L' w'
theorem mk_uniq : ∀ {MK : MT}, UniP (MK.map fun p => (p.1, p.1)) → ∀ {p q}, p ∈ MK → q ∈ MK → p.1 = q.1 → p = q
  | _ :: _, ⟨h1, h2⟩, p, q, hp, hq, he => by
    rcases List.mem_cons.1 hp with rfl | hp' <;> rcases List.mem_cons.1 hq with rfl | hq'
    · rfl
    · exact absurd he.symm (h1 _ (List.mem_map_of_mem (f := fun p : Nat × TypeId × Array Value => (p.1, p.1)) hq')).1
    · exact absurd he (h1 _ (List.mem_map_of_mem (f := fun p : Nat × TypeId × Array Value => (p.1, p.1)) hp')).1
    · exact mk_uniq h2 hp' hq' he
theorem stepG_ro (M : List (Nat × Value)) (hU : UniP (T.map fun p => (p.1, p.2.1))) (hI : InvL L (tabG T g) S L') (hM : MemG w0 MK S g w') (hp : (i, d, f) ∈ T) (hmk : (MK.map fun p => p.1).elem i = false)
    (hs : isSelect op = false) (hk : (((⟨some d, op, ty, pos, after, none⟩ : Oper).looksAt #[]).all fun t => (M.map Prod.fst).elem t) = true) (hag : AgrM L' M) (hr : RO P (ev n M) op w' (f g) w') : StepG P n L T MK w0 S i ⟨some d, op, ty, pos, after, none⟩ L' w' := by
  have hi : ∀ p ∈ MK, p.1 ≠ i := fun p hp e => by
    have : i ∈ MK.map fun p => p.1 := List.mem_map.2 ⟨p, hp, e⟩
    rw [List.elem_eq_mem, decide_eq_false_iff_not] at hmk
    exact hmk this
  exact .inl ⟨d, f g, w', rfl, by rw [exec_agr hs hk hag]; exact hr _ _ _ _ _, g, hI.put (uniT_of hU) (List.mem_map.2 ⟨_, hp, rfl⟩),
    ⟨hM.from_, fun p hp h => hM.blk p hp (setT (hi p hp) h), fun p hp h => hM.ge p hp (setT (hi p hp) h), fun p hp q hq hn h1 h2 => hM.ne p hp q hq hn (setT (hi p hp) h1) (setT (hi q hq) h2)⟩⟩
theorem stepG_make (M : List (Nat × Value)) {e : TypeId} {cs : Array Value} (hU : UniP (T.map fun p => (p.1, p.2.1))) (hV : UniP (MK.map fun p => (p.1, p.1))) (hI : InvL L (tabG T g) S L') (hM : MemG w0 MK S g w') (hS : S i = false) (hp : (i, d, f) ∈ T) (hq : (i, e, cs) ∈ MK)
    (hs : isSelect op = false) (hk : (((⟨some d, op, ty, pos, after, none⟩ : Oper).looksAt #[]).all fun t => (M.map Prod.fst).elem t) = true) (hag : AgrM L' M) (hr : RO P (ev n M) op w' (f (updG g i w'.heap.size)) w'') (hF : From w' w'') (hb : Blk w'' w'.heap.size e cs)
    (hc : IndG S g (updG g i w'.heap.size) T) : StepG P n L T MK w0 S i ⟨some d, op, ty, pos, after, none⟩ L' w' := by
  have hlt : ∀ p ∈ MK, S p.1 = true → g p.1 < w'.heap.size := fun p hp h => (hM.blk p hp h).lt
  have hne : ∀ p ∈ MK, p.1 ≠ i → updG g i w'.heap.size p.1 = g p.1 := fun p _ e => updG_ne g _ e
  refine .inl ⟨d, f (updG g i w'.heap.size), w'', rfl, by rw [exec_agr hs hk hag]; exact hr _ _ _ _ _, updG g i w'.heap.size, (InvG.chg hI (indG_at hc)).put (uniT_of hU) (List.mem_map.2 ⟨_, hp, rfl⟩), ⟨hM.from_.next hF, fun p hp h => ?_, fun p hp h => ?_, fun p hp q hq hn h1 h2 => ?_⟩⟩
  · by_cases e1 : p.1 = i
    · rw [mk_uniq hV hp hq e1, updG_same]
      exact hb
    · rw [hne p hp e1]
      exact (hM.blk p hp (setT e1 h)).from_ hF
  · by_cases e1 : p.1 = i
    · rw [e1, updG_same]
      exact hM.from_.size
    · rw [hne p hp e1]
      exact hM.ge p hp (setT e1 h)
  · by_cases e1 : p.1 = i
    · have e2 : q.1 ≠ i := fun e2 => hn (by rw [e1, e2])
      rw [e1, updG_same, hne q hq e2]
      have := hlt q hq (setT e2 h2)
      omega
    · rw [hne p hp e1]
      have := hlt p hp (setT e1 h1)
      by_cases e2 : q.1 = i
      · rw [e2, updG_same]
        omega
      · rw [hne q hq e2]
        exact hM.ne p hp q hq hn (setT e1 h1) (setT e2 h2)
def StepsG (P : Program) (n : Fr) (L : List (Nat × Value)) (T : GT) (MK : MT) (w0 : World) (l : List Oper) : Nat → List Oper → Prop
  | _, [] => True
  | i, o :: r => (∀ S L' w' g, UniP (T.map fun p => (p.1, p.2.1)) → UniP (MK.map fun p => (p.1, p.1)) → InvL L (tabG T g) S L' → MemG w0 MK S g w' → ClosedI l S → S i = false → EdgesOn S o.after.toList → StepG P n L T MK w0 S i o L' w') ∧ StepsG P n L T MK w0 l (i + 1) r
theorem stepsG_at {L0 : List (Nat × Value)} {l0 : List Oper} : ∀ {r : List Oper} {k : Nat}, StepsG P n L0 T MK w0 l0 k r → UniP (T.map fun p => (p.1, p.2.1)) → UniP (MK.map fun p => (p.1, p.1)) → ∀ (i : Nat) (o : Oper), r[i]? = some o → ∀ S L' w' g, InvL L0 (tabG T g) S L' → MemG w0 MK S g w' → ClosedI l0 S → S (k + i) = false → EdgesOn S o.after.toList → StepG P n L0 T MK w0 S (k + i) o L' w'
  | [], _, _, _, _, i, o, h => by simp at h
  | x :: r, k, ⟨h1, h2⟩, a, b, 0, o, h => by
    simp only [List.getElem?_cons_zero, Option.some.injEq] at h
    subst h
    exact fun S L' w' g => h1 S L' w' g a b
  | x :: r, k, ⟨h1, h2⟩, a, b, i + 1, o, h => by
    have := stepsG_at h2 a b i o (by simpa using h)
    rwa [show k + 1 + i = k + (i + 1) by omega] at this
theorem cd_makes {id : Nat} (T : GT) (MK : MT) (hm : P.follows .mixedOrders = true) (hwf : edgesB l = true) (hlt : (T.all fun p => Nat.blt p.1 l.length) = true) (hU : uniB (T.map fun p => (p.1, p.2.1)) = true) (hV : uniB (MK.map fun p => (p.1, p.1)) = true)
    (hstep : StepsG P n L T MK w l 0 l) (hend : ∀ g w', MemG w MK (fun i => decide (i < l.length)) g w' → Q .normal (mkA n ((tabG T g).map (fun p => (p.2.1, p.2.2)) ++ L)) w') : Cd P (.region id l.toArray true) Q n L w :=
  cd_inv (fun S L' w' => (∃ g, InvL L (tabG T g) S L' ∧ MemG w MK S g w') ∧ ClosedI l S) hm hwf ⟨⟨fun _ => 0, ⟨fun _ _ => rfl, fun _ _ h => (by cases h), fun _ _ _ => rfl⟩, ⟨From.rfl_.d1, fun _ _ h => (by cases h), fun _ _ h => (by cases h), fun _ _ _ _ _ h => (by cases h)⟩⟩, fun _ _ _ h => by cases h⟩ (fun i o S L' w' ho ⟨⟨g, hI, hM⟩, hC⟩ hS hE => by
    have := stepsG_at hstep (uniP_of hU) (uniP_of hV) i o ho S L' w' g hI hM hC (by rw [Nat.zero_add]; exact hS) (edges_on fun e he => hE e (by simpa using he))
    rw [Nat.zero_add] at this
    exact StepI.mono (fun L2 w2 h => ⟨h, closedI_set hC ho hE⟩) this) fun L' w' ⟨⟨g, hI, hM⟩, _⟩ => by
    have h := hend g w' hM
    have hlt' : ∀ p ∈ tabG T g, decide (p.1 < l.length) = true := fun p hp => by
      obtain ⟨y, hy, rfl⟩ := List.mem_map.1 hp
      exact decide_eq_true (Nat.le_of_ble_eq_true (List.all_eq_true.1 hlt y hy))
    rw [inv_mkA (uniT_of (uniP_of hU)) hlt' hI]
    exact h
end
end Go.Proofs.Ytpafbgdbjambgaa
