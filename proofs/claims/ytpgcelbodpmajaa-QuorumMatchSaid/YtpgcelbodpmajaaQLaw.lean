/- The laws QuorumExact, QuorumMatch. -/
import Derived.Test.YtpgcelbodpmajaaQHelp
namespace Go.Proofs.Ytpgcelbodpmajaa
open Go.RowKit
open Go.ChangeShapes Go.WideShapes Go.ChangeAt
theorem QLaw_l22 : (elemQ Try.prog 22).isSome = true := by kernel_rfl
theorem QLaw_e22 : elemQ Try.prog 22 = some (25, 3) := by kernel_rfl
theorem QLaw_g25 : aggQ Try.prog 25 = some true := by kernel_rfl
theorem QLaw_z25 : sizeQ Try.prog 25 = some 3 := by kernel_rfl
theorem QLaw_o25 : zeroQ Try.prog 25 = some (.agg #[.int .i64 0, .slice none 0 0, .slice none 0 0]) := by kernel_rfl
theorem QLaw_k6 : callable Try.prog 6 = true := by kernel_rfl
theorem QLaw_f25_1 : fieldQ Try.prog 25 1 = some 1 := by kernel_rfl
theorem QLaw_g23 : aggQ Try.prog 23 = some false := by kernel_rfl
theorem QLaw_k7 : callable Try.prog 7 = true := by kernel_rfl
theorem QLaw_f25_0 : fieldQ Try.prog 25 0 = some 0 := by kernel_rfl
theorem QLaw_g3 : aggQ Try.prog 3 = some false := by kernel_rfl
theorem QLaw_k8 : callable Try.prog 8 = true := by kernel_rfl
theorem QLaw_k9 : callable Try.prog 9 = true := by kernel_rfl
theorem QLaw_k10 : callable Try.prog 10 = true := by kernel_rfl
theorem QLaw_k11 : callable Try.prog 11 = true := by kernel_rfl
theorem QLaw_f25_2 : fieldQ Try.prog 25 2 = some 2 := by kernel_rfl
theorem QLaw_l23 : (elemQ Try.prog 23).isSome = true := by kernel_rfl
theorem QLaw_e23 : elemQ Try.prog 23 = some (3, 1) := by kernel_rfl
theorem QLaw_k12 : callable Try.prog 12 = true := by kernel_rfl
theorem QLaw_k13 : callable Try.prog 13 = true := by kernel_rfl
theorem QLaw_k14 : callable Try.prog 14 = true := by kernel_rfl
abbrev askT : Ty := .pr (.int .i64) (.pr (.sl (.int .i64)) (.pr (.sl (.int .i64)) .unit))
structure AskAt (w : World) (b a : Nat) (N : Int) (A : Option Addr) (ca : Nat) (L : List Int) (B : Option Addr) (cb : Nat) (M : List Int) : Prop where
  cells : w.rangeAt b a [.int .i64 N, .slice A L.length ca, .slice B M.length cb]
  rowL : RowOf iV w A L
  rowM : RowOf iV w B M
  lenL : L.length * 8 ≤ 140737488351232
  lenM : M.length * 8 ≤ 140737488351232
theorem range3 {w : World} {b a : Nat} {v0 v1 v2 : Value} (h0 : w.cell? ⟨b, a, none⟩ = some v0) (h1 : w.cell? ⟨b, a + 1, none⟩ = some v1) (h2 : w.cell? ⟨b, a + 2, none⟩ = some v2) : w.rangeAt b a [v0, v1, v2] := fun j v hv => by
  match j, hv with
  | 0, hv => simp at hv; subst hv; exact h0
  | 1, hv => simp at hv; subst hv; exact h1
  | 2, hv => simp at hv; subst hv; exact h2
  | j + 3, hv => simp at hv
theorem ask_at {w : World} {b a : Nat} {x : askT.den} (h : askT.At w (fun j => w.cell? ⟨b, a + j, none⟩) x) : ∃ N A ca L B cb M, AskAt w b a N A ca L B cb M := by
  obtain ⟨h0, h1, h2, _⟩ := h
  obtain ⟨A, ca, c1, r1, _, l1, _⟩ := at_nums h1
  obtain ⟨B, cb, c2, r2, _, l2, _⟩ := at_nums h2
  exact ⟨_, A, ca, _, B, cb, _, range3 h0.1 c1 c2, r1, r2, l1, l2⟩
instance (L : List Int) : Decidable (Fit L) := by unfold Fit; infer_instance
def idV (L : List Int) : Int := if Fit L then med L else 0
def ieV (L : List Int) : Int := if Fit L then 0 else 1
def FitK (M : List Int) (k : Nat) : Prop := 1 ≤ M.length ∧ M.length ≤ 7 ∧ ∀ i (h : i < M.length), i < k → 0 ≤ M[i]
theorem fitk_zero (M : List Int) : decide (1 ≤ M.length ∧ M.length ≤ 7) = true ↔ FitK M 0 := by
  rw [decide_eq_true_eq]
  exact ⟨fun h => ⟨h.1, h.2, fun i _ h0 => absurd h0 (by omega)⟩, fun h => ⟨h.1, h.2.1⟩⟩
theorem fitk_succ {M : List Int} {k : Nat} (h : FitK M k) (hk : k < M.length) : decide (M[k] ≥ 0) = true ↔ FitK M (k + 1) := by
  rw [decide_eq_true_eq]
  refine ⟨fun h0 => ⟨h.1, h.2.1, fun i hi h1 => ?_⟩, fun h0 => h0.2.2 k hk (by omega)⟩
  rcases Nat.lt_or_ge i k with a | a
  · exact h.2.2 i hi a
  · obtain rfl : i = k := by omega
    exact h0
theorem fit_k {M : List Int} (h : Fit M) (k : Nat) : FitK M k := ⟨h.1, h.2.1, fun _ _ _ => h.2.2 _ (List.getElem_mem _)⟩
theorem fitk_end {M : List Int} {fb : Bool} {k : Nat} (hk : k = M.length) (h : fb = true ↔ FitK M k) : Value.bool fb = .bool (decide (Fit M)) := by
  congr 1
  rw [Bool.eq_iff_iff, decide_eq_true_eq, h]
  refine ⟨fun h0 => ⟨h0.1, h0.2.1, fun x hx => ?_⟩, fun h0 => fit_k h0 k⟩
  obtain ⟨i, hi, rfl⟩ := List.getElem_of_mem hx
  exact h0.2.2 i hi (by omega)
theorem fitk_no {M : List Int} {fb : Bool} {k : Nat} (h0 : fb = false) (h : fb = true ↔ FitK M k) : Value.bool fb = .bool (decide (Fit M)) := by
  subst h0
  rw [decide_eq_false]
  intro hf
  exact absurd (h.2 (fit_k hf k)) (by simp)
theorem index_n (n : Nat) (A : Option Addr) (c : Nat) (L : List Int) (w : World) (hr : RowOf iV w A L) (hn : L.length = n) : Rt Try.prog 13 [.slice A n c] w fun v w' => v = .tuple #[.int .i64 (idV L), .int .i64 (ieV L)] ∧ From w w' := by
  subst hn
  refine Rt.mono (index_rt A c L w hr) fun v w' h => ⟨?_, h.2⟩
  unfold idV ieV
  rcases h.1 with ⟨h1, h2⟩ | ⟨h1, h2⟩
  · rw [if_pos h1, if_pos h1]; exact h2
  · rw [if_neg h1, if_neg h1]; exact h2
theorem refEnough_int (A : Option Addr) (c : Nat) (n : Int) (L : List Int) (w : World) (hr : RowOf iV w A L) (hl : L.length ≤ 1000000) (h : 1 ≤ n ∧ n ≤ 7) : Rt Try.prog 10 [.int .i64 n, .slice A L.length c] w fun v w' => v = .bool (okV n L) ∧ w = w' := by
  obtain ⟨N, rfl⟩ : ∃ N : Nat, n = N := ⟨n.toNat, by omega⟩
  rw [okV_in h]
  exact refEnough_rt A c N L w hr hl (by omega)
theorem eqN_same (A B : Option Addr) (ca cb : Nat) (L : List Int) (w : World) (ha : RowOf iV w A L) (hb : RowOf iV w B L) (hl : L.length * 8 ≤ 140737488351232) : Rt Try.prog 11 [.slice A L.length ca, .slice B L.length cb] w fun v w' => v = .bool true ∧ From w w' :=
  Rt.mono (eqNums_any A B ca cb L L w ha hb hl) fun v w' h => ⟨by rw [h.1, decide_eq_true rfl], h.2⟩
theorem nb53 (n : Int) : (!(decide (1 ≤ n ∧ n ≤ 7) == (eV n == 0))) = false := by
  unfold eV
  by_cases h : 1 ≤ n ∧ n ≤ 7 <;> simp [h]
theorem nb124 (M : List Int) : (!(decide (Fit M) == (ieV M == 0))) = false := by
  unfold ieV
  by_cases h : Fit M <;> simp [h]
theorem nb_self (b : Bool) : (!(b == b)) = false := by cases b <;> rfl
set_option maxRecDepth 100000 in
set_option maxHeartbeats 4000000 in
theorem exact_law (A : Option Addr) (c : Nat) (xs : List askT.den) (w : World) (hl : xs.length * askT.bytes ≤ 140737488351232) (hel : 0 < xs.length → ∃ b o, A = some ⟨b, o, none⟩ ∧ ∀ (i : Nat) (hi : i < xs.length), askT.At w (fun j => w.cell? ⟨b, o + i * askT.size + j, none⟩) xs[i]) :
    Rt Try.prog 3 [.slice A xs.length c] w (fun v w' => v = .bool true ∧ From w w') := by
  have hlen : xs.length * 56 ≤ 140737488351232 := hl
  refine enter (n := 147) Try.func3 rfl rfl rfl ?_
  refine cd_seq ?_
  refine cd_region ?_
  refine st_val (ro_assign (v := .bool _) rfl) ?_
  refine st_nil ?_
  refine nx_then ?_
  refine cd_seq ?_
  refine cd_seq ?_
  refine cd_region ?_
  refine st_val (ro_assign (v := .int _ _) rfl) ?_
  refine st_nil ?_
  refine nx_then ?_
  refine cd_block ?_
  refine cd_loop (G := Nat) [2, 4, 5, 6, 7, 8, 9, 10, 11, 12, 13, 14, 15, 16, 17, 18, 19, 20, 21, 22, 23, 24, 25, 26, 27, 28, 29, 30, 31, 32, 33, 34, 35, 36, 37, 38, 39, 40, 41, 42, 43, 44, 45, 46, 47, 48, 49, 50, 51, 52, 53, 54, 55, 56, 57, 58, 59, 60, 61, 62, 63, 64, 65, 66, 67, 68, 69, 70, 71, 72, 73, 74, 75, 76, 77, 78, 79, 80, 81, 82, 83, 84, 85, 86, 87, 88, 89, 90, 91, 92, 93, 94, 95, 96, 97, 98, 99, 100, 101, 102, 103, 104, 105, 106, 107, 108, 109, 110, 111, 112, 113, 114, 115, 116, 117, 118, 119, 120, 121, 122, 123, 124, 125, 126, 127, 128, 129, 130, 131, 132, 133, 134, 135, 136, 137, 138, 139, 140, 141, 142, 143, 144, 145] (fun k => [(3, .int .i64 (k : Nat))]) (fun k w' => k ≤ xs.length ∧ From w w') (fun k => xs.length - k) (0) ⟨rfl, trivial⟩ ?_ ?_
  · exact ⟨Nat.zero_le _, From.rfl_⟩
  rintro k ρ1 w1 ⟨hk, hB⟩
  refine cd_seq ?_
  refine cd_seq ?_
  refine cd_region ?_
  refine st_val (ro_move (v := .int _ _) rfl) ?_
  refine st_val (ro_move (v := .slice _ _ _) rfl) ?_
  refine st_val (ro_len QLaw_l22 rfl) ?_
  refine st_val (ro_lss rfl rfl) ?_
  refine st_val (ro_move (v := .bool _) rfl) ?_
  refine st_split (t := 19) rfl (fun Q2 => ?_) (fun Q2 => ?_)
  · (try first | replace Q2 := bn_t Q2 | replace Q2 := bn_f Q2)
    (try first | replace Q2 := bx_t Q2 | replace Q2 := bx_f Q2 | replace Q2 := be_t Q2 | replace Q2 := be_f Q2 | replace Q2 := of_decide_eq_true Q2 | replace Q2 := of_decide_eq_false Q2)
    first
     | (exfalso; first | omega | contradiction | (cases Q2; done))
     | skip
       refine st_unguard rfl ?_
       refine st_val (ro_move (v := .int _ _) rfl) ?_
       refine st_unguard rfl ?_
       refine st_val (ro_lss rfl rfl) ?_
       refine st_val (ro_pickT (v := .bool _) rfl rfl) ?_
       refine st_nil ?_
       refine nx_then ?_
       refine cd_cond rfl (fun Q3 => ?_) (fun Q3 => ?_)
       · (try first | replace Q3 := bn_t Q3 | replace Q3 := bn_f Q3)
         (try first | replace Q3 := bx_t Q3 | replace Q3 := bx_f Q3 | replace Q3 := be_t Q3 | replace Q3 := be_f Q3 | replace Q3 := of_decide_eq_true Q3 | replace Q3 := of_decide_eq_false Q3)
         obtain ⟨b, o, rfl, hel2⟩ := hel (by omega)
         obtain ⟨N, A1, ca, L, A2, cb, M, hask⟩ := ask_at (hel2 k (by omega))
         have hlL := hask.lenL
         have hlM := hask.lenM
         first
          | (exfalso; first | omega | contradiction | (cases Q3; done))
          | skip
            refine cd_skip ?_
            refine nx_then ?_
            refine cd_seq ?_
            refine cd_block ?_
            refine cd_seq ?_
            refine cd_region ?_
            refine st_val (ro_move (v := .slice _ _ _) rfl) ?_
            refine st_val (ro_move (v := .int _ _) rfl) ?_
            refine st_val (ro_indexAddr QLaw_e22 rfl rfl (by omega)) ?_
            refine st_val (ro_loadA (cs := [_, _, _]) QLaw_g25 QLaw_z25 rfl (by exact rangeF hB hask.cells)) ?_
            refine st_alloc QLaw_o25 ?_
            intro b4 w4 E4 hb4 hk4
            refine st_putW (vs := [_, _, _]) QLaw_z25 rfl rfl (by simp [Value.oneCell']) (hk4) rfl ?_
            intro w5 O4 P4
            refine st_nil ?_
            refine nx_then ?_
            refine cd_seq ?_
            refine cd_seq ?_
            refine cd_region ?_
            refine st_val (ro_loadA (cs := [_, _, _]) QLaw_g25 QLaw_z25 rfl (by exact P4.whole)) ?_
            refine st_call QLaw_k6 (heavy_any N A1 A2 L.length ca M.length cb _ ⟨by omega, by omega⟩) ?_
            rintro v30 w6 ⟨rfl, E30⟩
            refine st_nil ?_
            refine nx_then ?_
            refine cd_cond rfl (fun Q7 => ?_) (fun Q7 => ?_)
            · (try first | replace Q7 := bn_t Q7 | replace Q7 := bn_f Q7)
              (try first | replace Q7 := bx_t Q7 | replace Q7 := bx_f Q7 | replace Q7 := be_t Q7 | replace Q7 := be_f Q7 | replace Q7 := of_decide_eq_true Q7 | replace Q7 := of_decide_eq_false Q7)
              first
               | (exfalso; first | omega | contradiction | (cases Q7; done))
               | skip
                 refine cd_seq ?_
                 refine cd_region ?_
                 refine st_val (ro_assign (v := .bool _) rfl) ?_
                 refine st_nil ?_
                 refine nx_then ?_
                 refine cd_ret ?_
                 refine rt_then ?_
                 refine rt_block ?_
                 refine rt_then ?_
                 refine rt_then ?_
                 refine rt_block ?_
                 refine rt_then ?_
                 refine res1 (v := .bool _) rfl rfl ?_
                 exact ⟨rfl, (((hB.next E4).only O4 (by rw [hb4]; exact hB.size)).next E30)⟩
            · (try first | replace Q7 := bn_t Q7 | replace Q7 := bn_f Q7)
              (try first | replace Q7 := bx_t Q7 | replace Q7 := bx_f Q7 | replace Q7 := be_t Q7 | replace Q7 := be_f Q7 | replace Q7 := of_decide_eq_true Q7 | replace Q7 := of_decide_eq_false Q7)
              first
               | (exfalso; first | omega | contradiction | (cases Q7; done))
               | skip
                 refine cd_skip ?_
                 refine nx_then ?_
                 refine cd_seq ?_
                 refine cd_region ?_
                 refine st_val (ro_fieldAddr QLaw_f25_1 rfl) ?_
                 refine st_val (ro_load QLaw_g23 rfl (by first | (first | exact (P4.from_ (From.rfl_.next E30)).rd 0 rfl | exact (P4.from_ (From.rfl_.next E30)).rd 1 rfl | exact (P4.from_ (From.rfl_.next E30)).rd 2 rfl))) ?_
                 refine st_call QLaw_k7 (copyNums_any A1 ca L _ (hask.rowL.from_ (((hB.next E4).only O4 (by rw [hb4]; exact hB.size)).next E30)) (by omega)) ?_
                 rintro v33 w8 ⟨A33, c33, rfl, ho33, E33⟩
                 replace P4 := P4.from_ ((From.rfl_.next E30).next E33)
                 refine st_val (ro_assign (v := .slice _ _ _) rfl) ?_
                 refine st_nil ?_
                 refine nx_then ?_
                 refine cd_seq ?_
                 refine cd_region ?_
                 refine st_val (ro_fieldAddr QLaw_f25_0 rfl) ?_
                 refine st_val (ro_load QLaw_g3 rfl (by first | (first | exact (P4.from_ From.rfl_).rd 0 rfl | exact (P4.from_ From.rfl_).rd 1 rfl | exact (P4.from_ From.rfl_).rd 2 rfl))) ?_
                 refine st_val (ro_move (v := .slice _ _ _) rfl) ?_
                 refine st_call QLaw_k8 (enough_rt A33 c33 N L _ (RowOf.own (ho33.kept_from From.rfl_)).2 (by omega)) ?_
                 rintro v38 w9 ⟨rfl, E38⟩
                 refine st_val (ro_move (v := .tuple _) rfl) ?_
                 refine st_val (ro_extract rfl rfl) ?_
                 refine st_val (ro_extract rfl rfl) ?_
                 refine st_val (ro_assign (v := .bool _) rfl) ?_
                 refine st_val (ro_assign (v := .int _ _) rfl) ?_
                 refine st_nil ?_
                 refine nx_then ?_
                 refine cd_cut (G := Unit) [41, 42, 43, 44, 45, 46, 47, 48] (fun _ => [(8, .bool (decide (1 ≤ N ∧ N ≤ 7)))]) (fun _ w' => w9 = w') ?_ ?_
                 · refine cd_region ?_
                   refine st_val (ro_fieldAddr QLaw_f25_0 rfl) ?_
                   refine st_val (ro_load QLaw_g3 rfl (by first | (first | exact (P4.from_ (From.rfl_.next E38)).rd 0 rfl | exact (P4.from_ (From.rfl_.next E38)).rd 1 rfl | exact (P4.from_ (From.rfl_.next E38)).rd 2 rfl))) ?_
                   refine st_val (ro_geq rfl rfl) ?_
                   refine st_val (ro_move (v := .bool _) rfl) ?_
                   refine st_split (t := 44) rfl (fun Q10 => ?_) (fun Q10 => ?_)
                   · (try first | replace Q10 := bn_t Q10 | replace Q10 := bn_f Q10)
                     (try first | replace Q10 := bx_t Q10 | replace Q10 := bx_f Q10 | replace Q10 := be_t Q10 | replace Q10 := be_f Q10 | replace Q10 := of_decide_eq_true Q10 | replace Q10 := of_decide_eq_false Q10)
                     have h8 : Value.bool (decide (N ≤ 7)) = .bool (decide (1 ≤ N ∧ N ≤ 7)) := congrArg Value.bool (decide_eq_decide.2 (by omega))
                     first
                      | (exfalso; first | omega | contradiction | (cases Q10; done))
                      | skip
                        refine st_unguard rfl ?_
                        refine st_val (ro_fieldAddr QLaw_f25_0 rfl) ?_
                        refine st_unguard rfl ?_
                        refine st_val (ro_load QLaw_g3 rfl (by first | (first | exact (P4.from_ (From.rfl_.next E38)).rd 0 rfl | exact (P4.from_ (From.rfl_.next E38)).rd 1 rfl | exact (P4.from_ (From.rfl_.next E38)).rd 2 rfl))) ?_
                        refine st_unguard rfl ?_
                        refine st_val (ro_leq rfl rfl) ?_
                        refine st_val (ro_pickT (v := .bool _) rfl rfl) ?_
                        refine st_val (ro_assign (v := .bool _) rfl) ?_
                        refine st_nil ?_
                        refine nx_cut (()) ⟨h8, trivial⟩ (by (iterate 10 refine agr_cons rfl ?_); exact agr_rfl) ?_
                        rfl
                   · (try first | replace Q10 := bn_t Q10 | replace Q10 := bn_f Q10)
                     (try first | replace Q10 := bx_t Q10 | replace Q10 := bx_f Q10 | replace Q10 := be_t Q10 | replace Q10 := be_f Q10 | replace Q10 := of_decide_eq_true Q10 | replace Q10 := of_decide_eq_false Q10)
                     have h8 : Value.bool false = .bool (decide (1 ≤ N ∧ N ≤ 7)) := by rw [decide_eq_false (by omega)]
                     first
                      | (exfalso; first | omega | contradiction | (cases Q10; done))
                      | skip
                        refine st_gno rfl rfl ?_
                        refine st_gno rfl rfl ?_
                        refine st_gno rfl rfl ?_
                        refine st_val (ro_pickF (v := .bool _) rfl rfl) ?_
                        refine st_val (ro_assign (v := .bool _) rfl) ?_
                        refine st_nil ?_
                        refine nx_cut (()) ⟨h8, trivial⟩ (by (iterate 10 refine agr_cons rfl ?_); exact agr_rfl) ?_
                        rfl
                 · rintro - ρ11 w11 rfl
                   refine cd_cut (G := Unit) [2, 49, 50, 51, 52, 53, 54, 55, 56, 57, 58, 59, 60, 61, 62, 63, 64, 65, 66, 67, 68, 69, 70, 71, 72, 73, 74, 75, 76, 77, 78, 79, 80, 81] (fun _ => []) (fun _ w' => From w w' ∧ Blk w' b4 25 #[.int .i64 N, .slice A1 L.length ca, .slice A2 M.length cb]) ?_ ?_
                   · refine cd_seq ?_
                     refine cd_region ?_
                     refine st_val (ro_move (v := .bool _) rfl) ?_
                     refine st_val (ro_move (v := .int _ _) rfl) ?_
                     refine st_call QLaw_k9 (num_any _ _) ?_
                     rintro v51 w12 ⟨rfl, rfl⟩
                     refine st_val (ro_eql rfl rfl) ?_
                     refine st_val (ro_bf (ro_neqB (by kernel_rfl) rfl rfl) (nb53 N)) ?_
                     refine st_val (ro_move (v := .bool _) rfl) ?_
                     refine st_unguard rfl ?_
                     refine st_val (ro_move (v := .bool _) rfl) ?_
                     refine st_unguard rfl ?_
                     refine st_val (ro_not rfl) ?_
                     refine st_unguard rfl ?_
                     refine st_val (ro_move (v := .bool _) rfl) ?_
                     refine st_split (t := 57) rfl (fun Q13 => ?_) (fun Q13 => ?_)
                     · (try first | replace Q13 := bn_t Q13 | replace Q13 := bn_f Q13)
                       (try first | replace Q13 := bx_t Q13 | replace Q13 := bx_f Q13 | replace Q13 := be_t Q13 | replace Q13 := be_f Q13 | replace Q13 := of_decide_eq_true Q13 | replace Q13 := of_decide_eq_false Q13)
                       have hb60 : (eV N != 1) = false := by rw [eV_out (by omega)]; rfl
                       first
                        | (exfalso; first | omega | contradiction | (cases Q13; done))
                        | skip
                          refine st_unguard rfl ?_
                          refine st_val (ro_move (v := .int _ _) rfl) ?_
                          refine st_unguard rfl ?_
                          refine st_call QLaw_k9 (num_any _ _) ?_
                          rintro v59 w14 ⟨rfl, rfl⟩
                          refine st_unguard rfl ?_
                          refine st_val (ro_bf (ro_neq rfl rfl) hb60) ?_
                          refine st_unguard rfl ?_
                          refine st_val (ro_pickT (v := .bool _) rfl rfl) ?_
                          refine st_val (ro_pickF (v := .bool _) rfl rfl) ?_
                          refine st_val (ro_move (v := .bool _) rfl) ?_
                          refine st_unguard rfl ?_
                          refine st_val (ro_move (v := .bool _) rfl) ?_
                          refine st_unguard rfl ?_
                          refine st_val (ro_move (v := .bool _) rfl) ?_
                          refine st_unguard rfl ?_
                          refine st_val (ro_move (v := .bool _) rfl) ?_
                          refine st_split (t := 66) rfl (fun Q15 => ?_) (fun Q15 => ?_)
                          · (try first | replace Q15 := bn_t Q15 | replace Q15 := bn_f Q15)
                            (try first | replace Q15 := bx_t Q15 | replace Q15 := bx_f Q15 | replace Q15 := be_t Q15 | replace Q15 := be_f Q15 | replace Q15 := of_decide_eq_true Q15 | replace Q15 := of_decide_eq_false Q15)
                            have h66 : 1 ≤ N ∧ N ≤ 7 := by omega
                            have hb73 := nb_self (okV N L)
                            first
                             | (exfalso; first | omega | contradiction | (cases Q15; done))
                             | skip
                               refine st_unguard rfl ?_
                               refine st_val (ro_fieldAddr QLaw_f25_0 rfl) ?_
                               refine st_unguard rfl ?_
                               refine st_val (ro_load QLaw_g3 rfl (by first | (first | exact (P4.from_ (From.rfl_.next E38)).rd 0 rfl | exact (P4.from_ (From.rfl_.next E38)).rd 1 rfl | exact (P4.from_ (From.rfl_.next E38)).rd 2 rfl))) ?_
                               refine st_unguard rfl ?_
                               refine st_val (ro_fieldAddr QLaw_f25_1 rfl) ?_
                               refine st_unguard rfl ?_
                               refine st_val (ro_load QLaw_g23 rfl (by first | (first | exact (P4.from_ (From.rfl_.next E38)).rd 0 rfl | exact (P4.from_ (From.rfl_.next E38)).rd 1 rfl | exact (P4.from_ (From.rfl_.next E38)).rd 2 rfl))) ?_
                               refine st_unguard rfl ?_
                               refine st_call QLaw_k10 (refEnough_int A1 ca N L _ (hask.rowL.from_ (((((hB.next E4).only O4 (by rw [hb4]; exact hB.size)).next E30).next E33).next E38)) (by omega) h66) ?_
                               rintro v71 w16 ⟨rfl, rfl⟩
                               refine st_unguard rfl ?_
                               refine st_val (ro_pickT (v := .bool _) rfl rfl) ?_
                               refine st_unguard rfl ?_
                               refine st_val (ro_bf (ro_neqB (by kernel_rfl) rfl rfl) hb73) ?_
                               refine st_val (ro_pickF (v := .bool _) rfl rfl) ?_
                               refine st_val (ro_move (v := .bool _) rfl) ?_
                               refine st_unguard rfl ?_
                               refine st_val (ro_move (v := .slice _ _ _) rfl) ?_
                               refine st_unguard rfl ?_
                               refine st_val (ro_fieldAddr QLaw_f25_1 rfl) ?_
                               refine st_unguard rfl ?_
                               refine st_val (ro_load QLaw_g23 rfl (by first | (first | exact (P4.from_ (From.rfl_.next E38)).rd 0 rfl | exact (P4.from_ (From.rfl_.next E38)).rd 1 rfl | exact (P4.from_ (From.rfl_.next E38)).rd 2 rfl))) ?_
                               refine st_unguard rfl ?_
                               refine st_call QLaw_k11 (eqN_same A33 A1 c33 ca L _ (RowOf.own (ho33.kept_from (From.rfl_.next E38))).2 (hask.rowL.from_ (((((hB.next E4).only O4 (by rw [hb4]; exact hB.size)).next E30).next E33).next E38)) (by omega)) ?_
                               rintro v79 w17 ⟨rfl, E79⟩
                               refine st_unguard rfl ?_
                               refine st_val (ro_not rfl) ?_
                               refine st_val (ro_pickF (v := .bool _) rfl rfl) ?_
                               refine st_nil ?_
                               refine nx_then ?_
                               refine cd_condF rfl ?_
                               refine cd_skip ?_
                               refine nx_cut (()) trivial (by (iterate 35 refine agr_cons rfl ?_); exact agr_rfl) ?_
                               exact ⟨((((((hB.next E4).only O4 (by rw [hb4]; exact hB.size)).next E30).next E33).next E38).next E79), P4.from_ ((From.rfl_.next E38).next E79)⟩
                          · (try first | replace Q15 := bn_t Q15 | replace Q15 := bn_f Q15)
                            (try first | replace Q15 := bx_t Q15 | replace Q15 := bx_f Q15 | replace Q15 := be_t Q15 | replace Q15 := be_f Q15 | replace Q15 := of_decide_eq_true Q15 | replace Q15 := of_decide_eq_false Q15)
                            have hb73 : (!(okV N L == false)) = false := by rw [okV_out (by omega)]; rfl
                            first
                             | (exfalso; first | omega | contradiction | (cases Q15; done))
                             | skip
                               refine st_gno rfl rfl ?_
                               refine st_gno rfl rfl ?_
                               refine st_gno rfl rfl ?_
                               refine st_gno rfl rfl ?_
                               refine st_gno rfl rfl ?_
                               refine st_unguard rfl ?_
                               refine st_val (ro_pickF (v := .bool _) rfl rfl) ?_
                               refine st_unguard rfl ?_
                               refine st_val (ro_bf (ro_neqB (by kernel_rfl) rfl rfl) hb73) ?_
                               refine st_val (ro_pickF (v := .bool _) rfl rfl) ?_
                               refine st_val (ro_move (v := .bool _) rfl) ?_
                               refine st_unguard rfl ?_
                               refine st_val (ro_move (v := .slice _ _ _) rfl) ?_
                               refine st_unguard rfl ?_
                               refine st_val (ro_fieldAddr QLaw_f25_1 rfl) ?_
                               refine st_unguard rfl ?_
                               refine st_val (ro_load QLaw_g23 rfl (by first | (first | exact (P4.from_ (From.rfl_.next E38)).rd 0 rfl | exact (P4.from_ (From.rfl_.next E38)).rd 1 rfl | exact (P4.from_ (From.rfl_.next E38)).rd 2 rfl))) ?_
                               refine st_unguard rfl ?_
                               refine st_call QLaw_k11 (eqN_same A33 A1 c33 ca L _ (RowOf.own (ho33.kept_from (From.rfl_.next E38))).2 (hask.rowL.from_ (((((hB.next E4).only O4 (by rw [hb4]; exact hB.size)).next E30).next E33).next E38)) (by omega)) ?_
                               rintro v79 w18 ⟨rfl, E79⟩
                               refine st_unguard rfl ?_
                               refine st_val (ro_not rfl) ?_
                               refine st_val (ro_pickF (v := .bool _) rfl rfl) ?_
                               refine st_nil ?_
                               refine nx_then ?_
                               refine cd_condF rfl ?_
                               refine cd_skip ?_
                               refine nx_cut (()) trivial (by (iterate 35 refine agr_cons rfl ?_); exact agr_rfl) ?_
                               exact ⟨((((((hB.next E4).only O4 (by rw [hb4]; exact hB.size)).next E30).next E33).next E38).next E79), P4.from_ ((From.rfl_.next E38).next E79)⟩
                     · (try first | replace Q13 := bn_t Q13 | replace Q13 := bn_f Q13)
                       (try first | replace Q13 := bx_t Q13 | replace Q13 := bx_f Q13 | replace Q13 := be_t Q13 | replace Q13 := be_f Q13 | replace Q13 := of_decide_eq_true Q13 | replace Q13 := of_decide_eq_false Q13)
                       first
                        | (exfalso; first | omega | contradiction | (cases Q13; done))
                        | skip
                          refine st_gno rfl rfl ?_
                          refine st_gno rfl rfl ?_
                          refine st_gno rfl rfl ?_
                          refine st_unguard rfl ?_
                          refine st_val (ro_pickF (v := .bool _) rfl rfl) ?_
                          refine st_val (ro_pickF (v := .bool _) rfl rfl) ?_
                          refine st_val (ro_move (v := .bool _) rfl) ?_
                          refine st_unguard rfl ?_
                          refine st_val (ro_move (v := .bool _) rfl) ?_
                          refine st_unguard rfl ?_
                          refine st_val (ro_move (v := .bool _) rfl) ?_
                          refine st_unguard rfl ?_
                          refine st_val (ro_move (v := .bool _) rfl) ?_
                          refine st_split (t := 66) rfl (fun Q19 => ?_) (fun Q19 => ?_)
                          · (try first | replace Q19 := bn_t Q19 | replace Q19 := bn_f Q19)
                            (try first | replace Q19 := bx_t Q19 | replace Q19 := bx_f Q19 | replace Q19 := be_t Q19 | replace Q19 := be_f Q19 | replace Q19 := of_decide_eq_true Q19 | replace Q19 := of_decide_eq_false Q19)
                            have h66 : 1 ≤ N ∧ N ≤ 7 := by omega
                            have hb73 := nb_self (okV N L)
                            first
                             | (exfalso; first | omega | contradiction | (cases Q19; done))
                             | skip
                               refine st_unguard rfl ?_
                               refine st_val (ro_fieldAddr QLaw_f25_0 rfl) ?_
                               refine st_unguard rfl ?_
                               refine st_val (ro_load QLaw_g3 rfl (by first | (first | exact (P4.from_ (From.rfl_.next E38)).rd 0 rfl | exact (P4.from_ (From.rfl_.next E38)).rd 1 rfl | exact (P4.from_ (From.rfl_.next E38)).rd 2 rfl))) ?_
                               refine st_unguard rfl ?_
                               refine st_val (ro_fieldAddr QLaw_f25_1 rfl) ?_
                               refine st_unguard rfl ?_
                               refine st_val (ro_load QLaw_g23 rfl (by first | (first | exact (P4.from_ (From.rfl_.next E38)).rd 0 rfl | exact (P4.from_ (From.rfl_.next E38)).rd 1 rfl | exact (P4.from_ (From.rfl_.next E38)).rd 2 rfl))) ?_
                               refine st_unguard rfl ?_
                               refine st_call QLaw_k10 (refEnough_int A1 ca N L _ (hask.rowL.from_ (((((hB.next E4).only O4 (by rw [hb4]; exact hB.size)).next E30).next E33).next E38)) (by omega) h66) ?_
                               rintro v71 w20 ⟨rfl, rfl⟩
                               refine st_unguard rfl ?_
                               refine st_val (ro_pickT (v := .bool _) rfl rfl) ?_
                               refine st_unguard rfl ?_
                               refine st_val (ro_bf (ro_neqB (by kernel_rfl) rfl rfl) hb73) ?_
                               refine st_val (ro_pickF (v := .bool _) rfl rfl) ?_
                               refine st_val (ro_move (v := .bool _) rfl) ?_
                               refine st_unguard rfl ?_
                               refine st_val (ro_move (v := .slice _ _ _) rfl) ?_
                               refine st_unguard rfl ?_
                               refine st_val (ro_fieldAddr QLaw_f25_1 rfl) ?_
                               refine st_unguard rfl ?_
                               refine st_val (ro_load QLaw_g23 rfl (by first | (first | exact (P4.from_ (From.rfl_.next E38)).rd 0 rfl | exact (P4.from_ (From.rfl_.next E38)).rd 1 rfl | exact (P4.from_ (From.rfl_.next E38)).rd 2 rfl))) ?_
                               refine st_unguard rfl ?_
                               refine st_call QLaw_k11 (eqN_same A33 A1 c33 ca L _ (RowOf.own (ho33.kept_from (From.rfl_.next E38))).2 (hask.rowL.from_ (((((hB.next E4).only O4 (by rw [hb4]; exact hB.size)).next E30).next E33).next E38)) (by omega)) ?_
                               rintro v79 w21 ⟨rfl, E79⟩
                               refine st_unguard rfl ?_
                               refine st_val (ro_not rfl) ?_
                               refine st_val (ro_pickF (v := .bool _) rfl rfl) ?_
                               refine st_nil ?_
                               refine nx_then ?_
                               refine cd_condF rfl ?_
                               refine cd_skip ?_
                               refine nx_cut (()) trivial (by (iterate 35 refine agr_cons rfl ?_); exact agr_rfl) ?_
                               exact ⟨((((((hB.next E4).only O4 (by rw [hb4]; exact hB.size)).next E30).next E33).next E38).next E79), P4.from_ ((From.rfl_.next E38).next E79)⟩
                          · (try first | replace Q19 := bn_t Q19 | replace Q19 := bn_f Q19)
                            (try first | replace Q19 := bx_t Q19 | replace Q19 := bx_f Q19 | replace Q19 := be_t Q19 | replace Q19 := be_f Q19 | replace Q19 := of_decide_eq_true Q19 | replace Q19 := of_decide_eq_false Q19)
                            have hb73 : (!(okV N L == false)) = false := by rw [okV_out (by omega)]; rfl
                            first
                             | (exfalso; first | omega | contradiction | (cases Q19; done))
                             | skip
                               refine st_gno rfl rfl ?_
                               refine st_gno rfl rfl ?_
                               refine st_gno rfl rfl ?_
                               refine st_gno rfl rfl ?_
                               refine st_gno rfl rfl ?_
                               refine st_unguard rfl ?_
                               refine st_val (ro_pickF (v := .bool _) rfl rfl) ?_
                               refine st_unguard rfl ?_
                               refine st_val (ro_bf (ro_neqB (by kernel_rfl) rfl rfl) hb73) ?_
                               refine st_val (ro_pickF (v := .bool _) rfl rfl) ?_
                               refine st_val (ro_move (v := .bool _) rfl) ?_
                               refine st_unguard rfl ?_
                               refine st_val (ro_move (v := .slice _ _ _) rfl) ?_
                               refine st_unguard rfl ?_
                               refine st_val (ro_fieldAddr QLaw_f25_1 rfl) ?_
                               refine st_unguard rfl ?_
                               refine st_val (ro_load QLaw_g23 rfl (by first | (first | exact (P4.from_ (From.rfl_.next E38)).rd 0 rfl | exact (P4.from_ (From.rfl_.next E38)).rd 1 rfl | exact (P4.from_ (From.rfl_.next E38)).rd 2 rfl))) ?_
                               refine st_unguard rfl ?_
                               refine st_call QLaw_k11 (eqN_same A33 A1 c33 ca L _ (RowOf.own (ho33.kept_from (From.rfl_.next E38))).2 (hask.rowL.from_ (((((hB.next E4).only O4 (by rw [hb4]; exact hB.size)).next E30).next E33).next E38)) (by omega)) ?_
                               rintro v79 w22 ⟨rfl, E79⟩
                               refine st_unguard rfl ?_
                               refine st_val (ro_not rfl) ?_
                               refine st_val (ro_pickF (v := .bool _) rfl rfl) ?_
                               refine st_nil ?_
                               refine nx_then ?_
                               refine cd_condF rfl ?_
                               refine cd_skip ?_
                               refine nx_cut (()) trivial (by (iterate 35 refine agr_cons rfl ?_); exact agr_rfl) ?_
                               exact ⟨((((((hB.next E4).only O4 (by rw [hb4]; exact hB.size)).next E30).next E33).next E38).next E79), P4.from_ ((From.rfl_.next E38).next E79)⟩
                   · rintro - ρ23 w23 ⟨hB12, P4⟩
                     refine cd_cut (G := Unit) [82, 83, 84, 85, 86, 87, 88, 89, 90, 91] (fun _ => [(9, .bool (decide (1 ≤ M.length ∧ M.length ≤ 7)))]) (fun _ w' => w23 = w') ?_ ?_
                     · refine cd_region ?_
                       refine st_val (ro_fieldAddr QLaw_f25_2 rfl) ?_
                       refine st_val (ro_load QLaw_g23 rfl (by first | (first | exact (P4.from_ From.rfl_).rd 0 rfl | exact (P4.from_ From.rfl_).rd 1 rfl | exact (P4.from_ From.rfl_).rd 2 rfl))) ?_
                       refine st_val (ro_len QLaw_l23 rfl) ?_
                       refine st_val (ro_geq rfl rfl) ?_
                       refine st_val (ro_move (v := .bool _) rfl) ?_
                       refine st_split (t := 86) rfl (fun Q24 => ?_) (fun Q24 => ?_)
                       · (try first | replace Q24 := bn_t Q24 | replace Q24 := bn_f Q24)
                         (try first | replace Q24 := bx_t Q24 | replace Q24 := bx_f Q24 | replace Q24 := be_t Q24 | replace Q24 := be_f Q24 | replace Q24 := of_decide_eq_true Q24 | replace Q24 := of_decide_eq_false Q24)
                         have h9 : Value.bool (decide ((M.length : Int) ≤ 7)) = .bool (decide (1 ≤ M.length ∧ M.length ≤ 7)) := congrArg Value.bool (decide_eq_decide.2 (by omega))
                         first
                          | (exfalso; first | omega | contradiction | (cases Q24; done))
                          | skip
                            refine st_unguard rfl ?_
                            refine st_val (ro_fieldAddr QLaw_f25_2 rfl) ?_
                            refine st_unguard rfl ?_
                            refine st_val (ro_load QLaw_g23 rfl (by first | (first | exact (P4.from_ From.rfl_).rd 0 rfl | exact (P4.from_ From.rfl_).rd 1 rfl | exact (P4.from_ From.rfl_).rd 2 rfl))) ?_
                            refine st_unguard rfl ?_
                            refine st_val (ro_len QLaw_l23 rfl) ?_
                            refine st_unguard rfl ?_
                            refine st_val (ro_leq rfl rfl) ?_
                            refine st_val (ro_pickT (v := .bool _) rfl rfl) ?_
                            refine st_val (ro_assign (v := .bool _) rfl) ?_
                            refine st_nil ?_
                            refine nx_cut (()) ⟨h9, trivial⟩ (by (iterate 12 refine agr_cons rfl ?_); exact agr_rfl) ?_
                            rfl
                       · (try first | replace Q24 := bn_t Q24 | replace Q24 := bn_f Q24)
                         (try first | replace Q24 := bx_t Q24 | replace Q24 := bx_f Q24 | replace Q24 := be_t Q24 | replace Q24 := be_f Q24 | replace Q24 := of_decide_eq_true Q24 | replace Q24 := of_decide_eq_false Q24)
                         have h9 : Value.bool false = .bool (decide (1 ≤ M.length ∧ M.length ≤ 7)) := by rw [decide_eq_false (by omega)]
                         first
                          | (exfalso; first | omega | contradiction | (cases Q24; done))
                          | skip
                            refine st_gno rfl rfl ?_
                            refine st_gno rfl rfl ?_
                            refine st_gno rfl rfl ?_
                            refine st_gno rfl rfl ?_
                            refine st_val (ro_pickF (v := .bool _) rfl rfl) ?_
                            refine st_val (ro_assign (v := .bool _) rfl) ?_
                            refine st_nil ?_
                            refine nx_cut (()) ⟨h9, trivial⟩ (by (iterate 12 refine agr_cons rfl ?_); exact agr_rfl) ?_
                            rfl
                     · rintro - ρ25 w25 rfl
                       refine cd_cut (G := Unit) [10, 92, 93, 94, 95, 96, 97, 98, 99, 100, 101, 102, 103, 104, 105, 106, 107] (fun _ => [(9, .bool (decide (Fit M)))]) (fun _ w' => w23 = w') ?_ ?_
                       · refine cd_seq ?_
                         refine cd_region ?_
                         refine st_val (ro_assign (v := .int _ _) rfl) ?_
                         refine st_nil ?_
                         refine nx_then ?_
                         refine cd_block ?_
                         refine cd_loop (G := Nat × Bool) [92, 93, 94, 95, 96, 97, 98, 99, 100, 101, 102, 103, 104, 105, 106, 107] (fun (j, fb) => [(9, .bool fb), (10, .int .i64 (j : Nat))]) (fun (j, fb) w' => j ≤ M.length ∧ (fb = true ↔ FitK M j) ∧ w23 = w') (fun (j, _) => M.length - j) ((0, decide (1 ≤ M.length ∧ M.length ≤ 7))) ⟨rfl, rfl, trivial⟩ ?_ ?_
                         · exact ⟨Nat.zero_le _, fitk_zero M, rfl⟩
                         rintro ⟨j, fb⟩ ρ26 w26 ⟨hj, hfb, rfl⟩
                         refine cd_seq ?_
                         refine cd_seq ?_
                         refine cd_region ?_
                         refine st_val (ro_move (v := .int _ _) rfl) ?_
                         refine st_val (ro_fieldAddr QLaw_f25_2 rfl) ?_
                         refine st_val (ro_load QLaw_g23 rfl (by first | (first | exact (P4.from_ From.rfl_).rd 0 rfl | exact (P4.from_ From.rfl_).rd 1 rfl | exact (P4.from_ From.rfl_).rd 2 rfl))) ?_
                         refine st_val (ro_len QLaw_l23 rfl) ?_
                         refine st_val (ro_lss rfl rfl) ?_
                         refine st_val (ro_move (v := .bool _) rfl) ?_
                         refine st_split (t := 97) rfl (fun Q27 => ?_) (fun Q27 => ?_)
                         · (try first | replace Q27 := bn_t Q27 | replace Q27 := bn_f Q27)
                           (try first | replace Q27 := bx_t Q27 | replace Q27 := bx_f Q27 | replace Q27 := be_t Q27 | replace Q27 := be_f Q27 | replace Q27 := of_decide_eq_true Q27 | replace Q27 := of_decide_eq_false Q27)
                           first
                            | (exfalso; first | omega | contradiction | (cases Q27; done))
                            | skip
                              refine st_unguard rfl ?_
                              refine st_val (ro_move (v := .bool _) rfl) ?_
                              refine st_val (ro_pickT (v := .bool _) rfl rfl) ?_
                              refine st_nil ?_
                              refine nx_then ?_
                              refine cd_cond rfl (fun Q28 => ?_) (fun Q28 => ?_)
                              · (try first | replace Q28 := bn_t Q28 | replace Q28 := bn_f Q28)
                                (try first | replace Q28 := bx_t Q28 | replace Q28 := bx_f Q28 | replace Q28 := be_t Q28 | replace Q28 := be_f Q28 | replace Q28 := of_decide_eq_true Q28 | replace Q28 := of_decide_eq_false Q28)
                                obtain ⟨bm, om, rfl, hcm⟩ := hask.rowM (by omega)
                                first
                                 | (exfalso; first | omega | contradiction | (cases Q28; done))
                                 | skip
                                   refine cd_skip ?_
                                   refine nx_then ?_
                                   refine cd_seq ?_
                                   refine cd_block ?_
                                   refine cd_region ?_
                                   refine st_val (ro_fieldAddr QLaw_f25_2 rfl) ?_
                                   refine st_val (ro_load QLaw_g23 rfl (by first | (first | exact (P4.from_ From.rfl_).rd 0 rfl | exact (P4.from_ From.rfl_).rd 1 rfl | exact (P4.from_ From.rfl_).rd 2 rfl))) ?_
                                   refine st_val (ro_move (v := .int _ _) rfl) ?_
                                   refine st_val (ro_indexAddr1 QLaw_e23 rfl rfl (by omega)) ?_
                                   refine st_val (ro_load QLaw_g3 rfl (by exact cellF hB12 (hcm j (by omega)))) ?_
                                   refine st_val (ro_geq rfl rfl) ?_
                                   refine st_val (ro_assign (v := .bool _) rfl) ?_
                                   refine st_nil ?_
                                   refine nx_block ?_
                                   refine nx_then ?_
                                   refine cd_region ?_
                                   refine st_val (ro_move (v := .int _ _) rfl) ?_
                                   refine st_val (ro_addN (b := 1) rfl rfl (by omega)) ?_
                                   refine st_val (ro_assign (v := .int _ _) rfl) ?_
                                   refine st_nil ?_
                                   refine nx_cut ((j + 1, decide (M[j] ≥ 0))) ⟨(by first | rfl | (refine int_eq ?_; omega)), (by first | rfl | (refine int_eq ?_; omega)), trivial⟩ (by (iterate 37 refine agr_cons rfl ?_); exact agr_rfl) ⟨?_, ?_⟩
                                   · exact ⟨by omega, fitk_succ (hfb.1 (by assumption)) (by omega), rfl⟩
                                   · show _ - _ < _ - _; omega
                              · (try first | replace Q28 := bn_t Q28 | replace Q28 := bn_f Q28)
                                (try first | replace Q28 := bx_t Q28 | replace Q28 := bx_f Q28 | replace Q28 := be_t Q28 | replace Q28 := be_f Q28 | replace Q28 := of_decide_eq_true Q28 | replace Q28 := of_decide_eq_false Q28)
                                have hfx := fitk_no Q28 hfb
                                first
                                 | (exfalso; first | omega | contradiction | (cases Q28; done))
                                 | skip
                                   refine cd_exit ?_
                                   refine ex_then ?_
                                   refine ex_then ?_
                                   refine ex_block ?_
                                   refine nx_cut (()) ⟨hfx, trivial⟩ (by (iterate 28 refine agr_cons rfl ?_); exact agr_rfl) ?_
                                   rfl
                         · (try first | replace Q27 := bn_t Q27 | replace Q27 := bn_f Q27)
                           (try first | replace Q27 := bx_t Q27 | replace Q27 := bx_f Q27 | replace Q27 := be_t Q27 | replace Q27 := be_f Q27 | replace Q27 := of_decide_eq_true Q27 | replace Q27 := of_decide_eq_false Q27)
                           have hfx := fitk_end (by omega) hfb
                           first
                            | (exfalso; first | omega | contradiction | (cases Q27; done))
                            | skip
                              refine st_gno rfl rfl ?_
                              refine st_val (ro_pickF (v := .bool _) rfl rfl) ?_
                              refine st_nil ?_
                              refine nx_then ?_
                              refine cd_condF rfl ?_
                              refine cd_exit ?_
                              refine ex_then ?_
                              refine ex_then ?_
                              refine ex_block ?_
                              refine nx_cut (()) ⟨hfx, trivial⟩ (by (iterate 28 refine agr_cons rfl ?_); exact agr_rfl) ?_
                              rfl
                       · rintro - ρ29 w29 rfl
                         refine cd_seq ?_
                         refine cd_region ?_
                         refine st_val (ro_assign (v := .int _ _) rfl) ?_
                         refine st_nil ?_
                         refine nx_then ?_
                         refine cd_cut (G := Unit) [108, 109, 110, 111] (fun _ => [(11, .int .i64 (idV M))]) (fun _ w' => From w w' ∧ Blk w' b4 25 #[.int .i64 N, .slice A1 L.length ca, .slice A2 M.length cb]) ?_ ?_
                         · refine cd_seq ?_
                           refine cd_region ?_
                           refine st_val (ro_move (v := .bool _) rfl) ?_
                           refine st_nil ?_
                           refine nx_then ?_
                           refine cd_cond rfl (fun Q30 => ?_) (fun Q30 => ?_)
                           · (try first | replace Q30 := bn_t Q30 | replace Q30 := bn_f Q30)
                             (try first | replace Q30 := bx_t Q30 | replace Q30 := bx_f Q30 | replace Q30 := be_t Q30 | replace Q30 := be_f Q30 | replace Q30 := of_decide_eq_true Q30 | replace Q30 := of_decide_eq_false Q30)
                             have h108 : Fit M := Q30
                             have hi : idV M = med M := if_pos h108
                             first
                              | (exfalso; first | omega | contradiction | (cases Q30; done))
                              | skip
                                refine cd_region ?_
                                refine st_val (ro_fieldAddr QLaw_f25_2 rfl) ?_
                                refine st_val (ro_load QLaw_g23 rfl (by first | (first | exact (P4.from_ From.rfl_).rd 0 rfl | exact (P4.from_ From.rfl_).rd 1 rfl | exact (P4.from_ From.rfl_).rd 2 rfl))) ?_
                                refine st_call QLaw_k12 (refIndex_rt A2 cb M _ (hask.rowM.from_ hB12) h108) ?_
                                rintro v111 w31 ⟨rfl, E111⟩
                                refine st_val (ro_assign (v := .int _ _) rfl) ?_
                                refine st_nil ?_
                                refine nx_cut (()) ⟨(int_eq hi.symm), trivial⟩ (by (iterate 5 refine agr_cons rfl ?_); exact agr_rfl) ?_
                                exact ⟨(hB12.next E111), P4.from_ (From.rfl_.next E111)⟩
                           · (try first | replace Q30 := bn_t Q30 | replace Q30 := bn_f Q30)
                             (try first | replace Q30 := bx_t Q30 | replace Q30 := bx_f Q30 | replace Q30 := be_t Q30 | replace Q30 := be_f Q30 | replace Q30 := of_decide_eq_true Q30 | replace Q30 := of_decide_eq_false Q30)
                             have hi : idV M = 0 := if_neg Q30
                             first
                              | (exfalso; first | omega | contradiction | (cases Q30; done))
                              | skip
                                refine cd_skip ?_
                                refine nx_cut (()) ⟨(int_eq hi.symm), trivial⟩ (by (iterate 1 refine agr_cons rfl ?_); exact agr_rfl) ?_
                                exact ⟨hB12, P4.from_ From.rfl_⟩
                         · rintro - ρ32 w32 ⟨hB20, P4⟩
                           refine cd_seq ?_
                           refine cd_region ?_
                           refine st_val (ro_fieldAddr QLaw_f25_2 rfl) ?_
                           refine st_val (ro_load QLaw_g23 rfl (by first | (first | exact (P4.from_ From.rfl_).rd 0 rfl | exact (P4.from_ From.rfl_).rd 1 rfl | exact (P4.from_ From.rfl_).rd 2 rfl))) ?_
                           refine st_call QLaw_k7 (copyNums_any A2 cb M _ (hask.rowM.from_ hB20) (by omega)) ?_
                           rintro v114 w33 ⟨A114, c114, rfl, ho114, E114⟩
                           replace P4 := P4.from_ (From.rfl_.next E114)
                           refine st_val (ro_assign (v := .slice _ _ _) rfl) ?_
                           refine st_nil ?_
                           refine nx_then ?_
                           refine cd_seq ?_
                           refine cd_region ?_
                           refine st_val (ro_move (v := .slice _ _ _) rfl) ?_
                           refine st_call QLaw_k13 (index_n M.length A114 c114 M _ (RowOf.own (ho114.kept_from From.rfl_)).2 rfl) ?_
                           rintro v117 w34 ⟨rfl, E117⟩
                           refine st_val (ro_move (v := .tuple _) rfl) ?_
                           refine st_val (ro_extract rfl rfl) ?_
                           refine st_val (ro_extract rfl rfl) ?_
                           refine st_val (ro_assign (v := .int _ _) rfl) ?_
                           refine st_val (ro_assign (v := .int _ _) rfl) ?_
                           refine st_nil ?_
                           refine nx_then ?_
                           refine cd_seq ?_
                           refine cd_region ?_
                           refine st_val (ro_move (v := .bool _) rfl) ?_
                           refine st_val (ro_move (v := .int _ _) rfl) ?_
                           refine st_call QLaw_k9 (num_any _ _) ?_
                           rintro v122 w35 ⟨rfl, rfl⟩
                           refine st_val (ro_eql rfl rfl) ?_
                           refine st_val (ro_bf (ro_neqB (by kernel_rfl) rfl rfl) (nb124 M)) ?_
                           refine st_val (ro_move (v := .bool _) rfl) ?_
                           refine st_unguard rfl ?_
                           refine st_val (ro_move (v := .bool _) rfl) ?_
                           refine st_unguard rfl ?_
                           refine st_val (ro_not rfl) ?_
                           refine st_unguard rfl ?_
                           refine st_val (ro_move (v := .bool _) rfl) ?_
                           refine st_split (t := 128) rfl (fun Q36 => ?_) (fun Q36 => ?_)
                           · (try first | replace Q36 := bn_t Q36 | replace Q36 := bn_f Q36)
                             (try first | replace Q36 := bx_t Q36 | replace Q36 := bx_f Q36 | replace Q36 := be_t Q36 | replace Q36 := be_f Q36 | replace Q36 := of_decide_eq_true Q36 | replace Q36 := of_decide_eq_false Q36)
                             have hb131 : (ieV M != 1) = false := by unfold ieV; rw [if_neg Q36]; rfl
                             first
                              | (exfalso; first | omega | contradiction | (cases Q36; done))
                              | skip
                                refine st_unguard rfl ?_
                                refine st_val (ro_move (v := .int _ _) rfl) ?_
                                refine st_unguard rfl ?_
                                refine st_call QLaw_k9 (num_any _ _) ?_
                                rintro v130 w37 ⟨rfl, rfl⟩
                                refine st_unguard rfl ?_
                                refine st_val (ro_bf (ro_neq rfl rfl) hb131) ?_
                                refine st_unguard rfl ?_
                                refine st_val (ro_pickT (v := .bool _) rfl rfl) ?_
                                refine st_val (ro_pickF (v := .bool _) rfl rfl) ?_
                                refine st_val (ro_move (v := .bool _) rfl) ?_
                                refine st_unguard rfl ?_
                                refine st_val (ro_move (v := .int _ _) rfl) ?_
                                refine st_unguard rfl ?_
                                refine st_val (ro_move (v := .int _ _) rfl) ?_
                                refine st_unguard rfl ?_
                                refine st_val (ro_bf (ro_neq rfl rfl) (bne_self_eq_false _)) ?_
                                refine st_val (ro_pickF (v := .bool _) rfl rfl) ?_
                                refine st_val (ro_move (v := .bool _) rfl) ?_
                                refine st_unguard rfl ?_
                                refine st_val (ro_move (v := .slice _ _ _) rfl) ?_
                                refine st_unguard rfl ?_
                                refine st_val (ro_fieldAddr QLaw_f25_2 rfl) ?_
                                refine st_unguard rfl ?_
                                refine st_val (ro_load QLaw_g23 rfl (by first | (first | exact (P4.from_ (From.rfl_.next E117)).rd 0 rfl | exact (P4.from_ (From.rfl_.next E117)).rd 1 rfl | exact (P4.from_ (From.rfl_.next E117)).rd 2 rfl))) ?_
                                refine st_unguard rfl ?_
                                refine st_call QLaw_k11 (eqN_same A114 A2 c114 cb M _ (RowOf.own (ho114.kept_from (From.rfl_.next E117))).2 (hask.rowM.from_ ((hB20.next E114).next E117)) (by omega)) ?_
                                rintro v143 w38 ⟨rfl, E143⟩
                                refine st_unguard rfl ?_
                                refine st_val (ro_not rfl) ?_
                                refine st_val (ro_pickF (v := .bool _) rfl rfl) ?_
                                refine st_nil ?_
                                refine nx_then ?_
                                refine cd_condF rfl ?_
                                refine cd_skip ?_
                                refine nx_block ?_
                                refine nx_then ?_
                                refine cd_region ?_
                                refine st_val (ro_move (v := .int _ _) rfl) ?_
                                refine st_val (ro_addN (b := 1) rfl rfl (by omega)) ?_
                                refine st_val (ro_assign (v := .int _ _) rfl) ?_
                                refine st_nil ?_
                                refine nx_cut (k + 1) ⟨(by first | rfl | (refine int_eq ?_; omega)), trivial⟩ (by (iterate 292 refine agr_cons rfl ?_); exact agr_rfl) ⟨?_, ?_⟩
                                · exact ⟨by omega, (((hB20.next E114).next E117).next E143)⟩
                                · omega
                           · (try first | replace Q36 := bn_t Q36 | replace Q36 := bn_f Q36)
                             (try first | replace Q36 := bx_t Q36 | replace Q36 := bx_f Q36 | replace Q36 := be_t Q36 | replace Q36 := be_f Q36 | replace Q36 := of_decide_eq_true Q36 | replace Q36 := of_decide_eq_false Q36)
                             first
                              | (exfalso; first | omega | contradiction | (cases Q36; done))
                              | skip
                                refine st_gno rfl rfl ?_
                                refine st_gno rfl rfl ?_
                                refine st_gno rfl rfl ?_
                                refine st_unguard rfl ?_
                                refine st_val (ro_pickF (v := .bool _) rfl rfl) ?_
                                refine st_val (ro_pickF (v := .bool _) rfl rfl) ?_
                                refine st_val (ro_move (v := .bool _) rfl) ?_
                                refine st_unguard rfl ?_
                                refine st_val (ro_move (v := .int _ _) rfl) ?_
                                refine st_unguard rfl ?_
                                refine st_val (ro_move (v := .int _ _) rfl) ?_
                                refine st_unguard rfl ?_
                                refine st_val (ro_bf (ro_neq rfl rfl) (bne_self_eq_false _)) ?_
                                refine st_val (ro_pickF (v := .bool _) rfl rfl) ?_
                                refine st_val (ro_move (v := .bool _) rfl) ?_
                                refine st_unguard rfl ?_
                                refine st_val (ro_move (v := .slice _ _ _) rfl) ?_
                                refine st_unguard rfl ?_
                                refine st_val (ro_fieldAddr QLaw_f25_2 rfl) ?_
                                refine st_unguard rfl ?_
                                refine st_val (ro_load QLaw_g23 rfl (by first | (first | exact (P4.from_ (From.rfl_.next E117)).rd 0 rfl | exact (P4.from_ (From.rfl_.next E117)).rd 1 rfl | exact (P4.from_ (From.rfl_.next E117)).rd 2 rfl))) ?_
                                refine st_unguard rfl ?_
                                refine st_call QLaw_k11 (eqN_same A114 A2 c114 cb M _ (RowOf.own (ho114.kept_from (From.rfl_.next E117))).2 (hask.rowM.from_ ((hB20.next E114).next E117)) (by omega)) ?_
                                rintro v143 w39 ⟨rfl, E143⟩
                                refine st_unguard rfl ?_
                                refine st_val (ro_not rfl) ?_
                                refine st_val (ro_pickF (v := .bool _) rfl rfl) ?_
                                refine st_nil ?_
                                refine nx_then ?_
                                refine cd_condF rfl ?_
                                refine cd_skip ?_
                                refine nx_block ?_
                                refine nx_then ?_
                                refine cd_region ?_
                                refine st_val (ro_move (v := .int _ _) rfl) ?_
                                refine st_val (ro_addN (b := 1) rfl rfl (by omega)) ?_
                                refine st_val (ro_assign (v := .int _ _) rfl) ?_
                                refine st_nil ?_
                                refine nx_cut (k + 1) ⟨(by first | rfl | (refine int_eq ?_; omega)), trivial⟩ (by (iterate 292 refine agr_cons rfl ?_); exact agr_rfl) ⟨?_, ?_⟩
                                · exact ⟨by omega, (((hB20.next E114).next E117).next E143)⟩
                                · omega
       · (try first | replace Q3 := bn_t Q3 | replace Q3 := bn_f Q3)
         (try first | replace Q3 := bx_t Q3 | replace Q3 := bx_f Q3 | replace Q3 := be_t Q3 | replace Q3 := be_f Q3 | replace Q3 := of_decide_eq_true Q3 | replace Q3 := of_decide_eq_false Q3)
         first
          | (exfalso; first | omega | contradiction | (cases Q3; done))
          | skip
            refine cd_exit ?_
            refine ex_then ?_
            refine ex_then ?_
            refine ex_block ?_
            refine nx_then ?_
            refine cd_seq ?_
            refine cd_region ?_
            refine st_call QLaw_k14 (wakes_any _) ?_
            rintro v146 w40 ⟨rfl, E146⟩
            refine st_val (ro_assign (v := .bool _) rfl) ?_
            refine st_nil ?_
            refine nx_then ?_
            refine cd_ret ?_
            refine res1 (v := .bool _) rfl rfl ?_
            exact ⟨rfl, (hB.next E146)⟩
  · (try first | replace Q2 := bn_t Q2 | replace Q2 := bn_f Q2)
    (try first | replace Q2 := bx_t Q2 | replace Q2 := bx_f Q2 | replace Q2 := be_t Q2 | replace Q2 := be_f Q2 | replace Q2 := of_decide_eq_true Q2 | replace Q2 := of_decide_eq_false Q2)
    first
     | (exfalso; first | omega | contradiction | (cases Q2; done))
     | skip
       refine st_gno rfl rfl ?_
       refine st_gno rfl rfl ?_
       refine st_val (ro_pickF (v := .bool _) rfl rfl) ?_
       refine st_nil ?_
       refine nx_then ?_
       refine cd_condF rfl ?_
       refine cd_exit ?_
       refine ex_then ?_
       refine ex_then ?_
       refine ex_block ?_
       refine nx_then ?_
       refine cd_seq ?_
       refine cd_region ?_
       refine st_call QLaw_k14 (wakes_any _) ?_
       rintro v146 w41 ⟨rfl, E146⟩
       refine st_val (ro_assign (v := .bool _) rfl) ?_
       refine st_nil ?_
       refine nx_then ?_
       refine cd_ret ?_
       refine res1 (v := .bool _) rfl rfl ?_
       exact ⟨rfl, (hB.next E146)⟩
set_option maxRecDepth 100000 in
theorem QuorumExact_lifted (os : Os) (started : os.Started) (H : Type) (enc : TypeId × Value → H) :
    ReturnsInHanded {} Try.checked os 3 .any (Rows.quorumExactSpec.pre6 enc Try.prog Try.f3 Rows.quorumExactRow.domain false) (Rows.quorumExactSpec.post enc Try.prog Try.f3 false true false false) := by
  refine returnsInHanded_of_change_sized (C := Try.checked) Try.own started (by kernel_rfl) Try.func3
    (ChangeSpec.witness6 (enc := enc) (C := Try.checked) false ⟨#[], #[.slice none 0 0], []⟩ 8 (by kernel_rfl) (by kernel_rfl) (by kernel_rfl) (by kernel_rfl)) ?_
  intro W base args ds gs before hval hW _ hsz _
  exact law_step 3 Try.f3 22 4 Rows.quorumExactSpec Try.params3 (by kernel_rfl) Try.underlying4 rfl (fun _ => rfl) (by kernel_rfl) (of_decide_eq_true (by kernel_rfl)) (walk_sl askT (by kernel_rfl) exact_law) W base args ds gs before hval hW hsz

theorem QuorumExact_holds : Rows.QuorumExactSaid :=
  OpenClaim.holds_of_wide 3 Try.f3 rfl rfl rfl rfl rfl rfl rfl ⟨rfl, rfl, rfl, rfl, rfl⟩ rfl rfl rfl rfl rfl (by kernel_rfl) Try.func3 (by kernel_rfl)
    (of_decide_eq_true (by kernel_rfl)) (by unfold Func.isWrapper; first | (rw [if_pos (by decide +kernel)]; kernel_rfl) | (rw [if_neg (by decide +kernel)]; exact ⟨rfl, rfl⟩))
    (fun os started H enc _ => QuorumExact_lifted os started H enc)
#print axioms QuorumExact_holds

end Go.Proofs.Ytpgcelbodpmajaa
