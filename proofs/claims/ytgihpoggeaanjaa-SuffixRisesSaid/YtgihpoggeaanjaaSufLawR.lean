/- The law SuffixRises. -/
import Derived.Test.YtgihpoggeaanjaaSufCom2
namespace Go.Proofs.Ytgihpoggeaanjaa
open Go.RowKit
open Go.ChangeShapes Go.WideShapes Go.ChangeAt
open Go.Proofs.Ytgihpoggeaanjaa.SA
theorem SufLawR_e24 : elemQ Try.prog 24 = some (3, 1) := by kernel_rfl
theorem SufLawR_l22 : (elemQ Try.prog 22).isSome = true := by kernel_rfl
theorem SufLawR_e22 : elemQ Try.prog 22 = some (26, 2) := by kernel_rfl
theorem SufLawR_f26_0 : fieldQ Try.prog 26 0 = some 0 := by kernel_rfl
theorem SufLawR_g24 : aggQ Try.prog 24 = some false := by kernel_rfl
theorem SufLawR_g26 : aggQ Try.prog 26 = some true := by kernel_rfl
theorem SufLawR_z26 : sizeQ Try.prog 26 = some 2 := by kernel_rfl
theorem SufLawR_k7 : callable Try.prog 7 = true := by kernel_rfl
theorem SufLawR_k9 : callable Try.prog 9 = true := by kernel_rfl
theorem SufLawR_k11 : callable Try.prog 11 = true := by kernel_rfl
theorem SufLawR_k17 : callable Try.prog 17 = true := by kernel_rfl
theorem SufLawR_l24 : (elemQ Try.prog 24).isSome = true := by kernel_rfl
theorem SufLawR_m39 : makeQ Try.prog 39 = some (4, 1, (.bool false)) := by kernel_rfl
theorem SufLawR_g3 : aggQ Try.prog 3 = some false := by kernel_rfl
theorem SufLawR_e39 : elemQ Try.prog 39 = some (4, 1) := by kernel_rfl
theorem SufLawR_g4 : aggQ Try.prog 4 = some false := by kernel_rfl
theorem SufLawR_z4 : sizeQ Try.prog 4 = some 1 := by kernel_rfl
theorem SufLawR_k15 : callable Try.prog 15 = true := by kernel_rfl
theorem common_good (A B : Option Addr) (c cb n m : Nat) (xs zs : List Int) (L F : List Nat) (w : World) (hr : RowOf iV w A xs) (hn : n = xs.length) (hb : RowOf iV w B zs) (hm : m = zs.length) (hl : n ≤ 131072) (hm2 : m ≤ 1000000) (hx : xs = cI L) (hlt : ∀ x ∈ L, x < 512) (hS : IsSA L F) (hz : zs = cI F) : Rt Try.prog 17 [.slice A n c, .slice B m cb] w fun v w' => (∃ A' C, v = .tuple #[.slice A' n n, .int .i64 0] ∧ RowOf iV w' A' (cI C) ∧ n = C.length ∧ IsCm L F C) ∧ From w w' := by
  refine (common_rt A B c cb n m xs zs w hr hn hb hm hl hm2).mono fun v w' h => ?_
  obtain ⟨h, hF⟩ := h
  refine ⟨?_, hF⟩
  rcases h with ⟨L2, F2, C, A', a1, a2, _, a4, a5, rfl, ho⟩ | ⟨a, _⟩
  · obtain rfl := cI_inj (a1.symm.trans hx)
    obtain rfl := cI_inj (a2.symm.trans hz)
    exact ⟨A', C, rfl, (sortA_own ho).2, (sortA_own ho).1, a5⟩
  · rcases a with a | a
    · rw [hx, cI, all_nat hlt] at a; cases a
    · exact absurd hz (a _ _ hx hS)
theorem rises {L F : List Nat} (hS : IsSA L F) {k h : Nat} (h0 : 0 < k) (hk : k < L.length) (ha : agr L (F.getD k 0) (F.getD (k - 1) 0) h) (hs : stop L (F.getD k 0) (F.getD (k - 1) 0) h) : F.getD k 0 + h < L.length ∧ (F.getD (k - 1) 0 + h < L.length → L.getD (F.getD (k - 1) 0 + h) 0 < L.getD (F.getD k 0 + h) 0) := by
  have ht := endT_txt L
  obtain ⟨a1, a2⟩ := isSA_getD hS hk
  obtain ⟨b1, b2⟩ := isSA_getD hS (show k - 1 < L.length by omega)
  obtain ⟨m, m1, m2, m3, m4⟩ := (rank_iff ht (show F.getD (k - 1) 0 < L.length + 1 by omega) (show F.getD k 0 < L.length + 1 by omega)).1 (by omega)
  have he := agr_endT ha
  rcases Nat.lt_trichotomy m h with x | x | x
  · have := he m x; omega
  · subst x
    have u : F.getD k 0 + m < L.length := by
      rcases Nat.lt_or_ge (F.getD k 0 + m) L.length with y | y
      · exact y
      · rw [show F.getD k 0 + m = L.length by omega, endT_end] at m4; omega
    refine ⟨u, fun v => ?_⟩
    rw [endT_getD u, endT_getD v] at m4
    omega
  · have e := m1 h x
    rw [endT_getD (show F.getD (k - 1) 0 + h < L.length by omega), endT_getD (show F.getD k 0 + h < L.length by omega)] at e
    exact absurd ⟨by omega, by omega, by omega⟩ hs
theorem sa_inj {L F : List Nat} (hS : IsSA L F) {k q : Nat} (hk : k < L.length) (hq : q < k) (h : F.getD q 0 = F.getD k 0) : False := by
  have a := (isSA_getD hS hk).2
  have b := (isSA_getD hS (show q < L.length by omega)).2
  rw [h] at b
  omega
theorem rowC {w : World} {b o : Nat} {L : List Nat} (h : RowOf iV w (some ⟨b, o, none⟩) (cI L)) {k : Nat} (hk : k < L.length) : w.cell? ⟨b, o + k, none⟩ = some (.int .i64 ((L.getD k 0 : Nat) : Int)) := by
  obtain ⟨b2, o2, e, hc⟩ := rowD h (by omega)
  cases e
  exact hc k hk
theorem row_lt {w : World} {A : Option Addr} {L : List Nat} {n g : Nat} (h : RowOf iV w A (cI L)) (hn : n = L.length) (hg : g = w.heap.size) : 0 < n → ∀ a, A = some a → a.block < g := fun h0 a e => by
  obtain ⟨b, o, rfl, hc⟩ := rowD h (by omega)
  cases e
  rw [hg]
  exact lt_of_cell (hc 0 (by omega))
theorem rowOnly {w w' : World} {b o g : Nat} {l : List Int} (h : RowOf iV w (some ⟨b, o, none⟩) l) (hO : Only g w w') (hne : b ≠ g) : RowOf iV w' (some ⟨b, o, none⟩) l := fun h0 => by
  obtain ⟨b2, o2, e, hc⟩ := h h0
  cases e
  refine ⟨b, o, rfl, fun i hi => ?_⟩
  rw [← hc i hi]
  unfold World.cell?
  rw [hO.block b hne]
theorem seen_put {F : List Nat} {k : Nat} {sn : Nat → Bool} (h : ∀ j, sn j = true → ∃ q, q < k ∧ F.getD q 0 = j) : ∀ j, updB sn (F.getD k 0) true j = true → ∃ q, q < k + 1 ∧ F.getD q 0 = j := fun j hj => by
  unfold updB at hj
  split at hj
  · rename_i e; exact ⟨k, by omega, e.symm⟩
  · obtain ⟨q, q1, q2⟩ := h j hj
    exact ⟨q, by omega, q2⟩
theorem seen_no {L F : List Nat} (hS : IsSA L F) {k : Nat} {sn : Nat → Bool} (h : ∀ j, sn j = true → ∃ q, q < k ∧ F.getD q 0 = j) (hk : k < L.length) : sn (F.getD k 0) = false := by
  cases e : sn (F.getD k 0) with
  | false => rfl
  | true =>
    obtain ⟨q, q1, q2⟩ := h _ e
    exact (sa_inj hS hk q1 q2).elim
set_option maxRecDepth 100000 in
set_option maxHeartbeats 4000000 in
theorem rises_law (A : Option Addr) (c : Nat) (xs : List askT.den) (w : World) (hl : xs.length * askT.bytes ≤ 140737488351232) (hel : 0 < xs.length → ∃ b o, A = some ⟨b, o, none⟩ ∧ ∀ (i : Nat) (hi : i < xs.length), askT.At w (fun j => w.cell? ⟨b, o + i * askT.size + j, none⟩) xs[i]) :
    Rt Try.prog 5 [.slice A xs.length c] w (fun v w' => v = .bool true ∧ From w w') := by
  have hlen : xs.length * 48 ≤ 140737488351232 := hl
  refine enter (n := 188) Try.func5 rfl rfl rfl ?_
  refine cd_seq ?_
  refine cd_region ?_
  refine st_val (ro_assign (v := .bool _) rfl) ?_
  refine st_nil ?_
  refine nx_then ?_
  refine cd_seq ?_
  refine cd_seq ?_
  refine cd_region ?_
  refine st_val (ro_assign (v := .int _ _) rfl) ?_
  refine st_nil ?_
  refine nx_then ?_
  refine cd_block ?_
  refine cd_loop (G := Nat) [2, 4, 5, 6, 7, 8, 9, 10, 11, 12, 13, 14, 15, 16, 17, 18, 19, 20, 21, 22, 23, 24, 25, 26, 27, 28, 29, 30, 31, 32, 33, 34, 35, 36, 37, 38, 39, 40, 41, 42, 43, 44, 45, 46, 47, 48, 49, 50, 51, 52, 53, 54, 55, 56, 57, 58, 59, 60, 61, 62, 63, 64, 65, 66, 67, 68, 69, 70, 71, 72, 73, 74, 75, 76, 77, 78, 79, 80, 81, 82, 83, 84, 85, 86, 87, 88, 89, 90, 91, 92, 93, 94, 95, 96, 97, 98, 99, 100, 101, 102, 103, 104, 105, 106, 107, 108, 109, 110, 111, 112, 113, 114, 115, 116, 117, 118, 119, 120, 121, 122, 123, 124, 125, 126, 127, 128, 129, 130, 131, 132, 133, 134, 135, 136, 137, 138, 139, 140, 141, 142, 143, 144, 145, 146, 147, 148, 149, 150, 151, 152, 153, 154, 155, 156, 157, 158, 159, 160, 161, 162, 163, 164, 165, 166, 167, 168, 169, 170, 171, 172, 173, 174, 175, 176, 177, 178, 179, 180, 181, 182, 183, 184, 185, 186] (fun k => [(3, .int .i64 (k : Nat))]) (fun k w' => k ≤ xs.length ∧ From w w') (fun k => xs.length - k) (0) ⟨rfl, trivial⟩ ?_ ?_
  · exact ⟨Nat.zero_le _, From.rfl_⟩
  rintro k ρ1 w1 ⟨hk, hB⟩
  refine cd_seq ?_
  refine cd_seq ?_
  refine cd_region ?_
  refine st_val (ro_move (v := .int _ _) rfl) ?_
  refine st_val (ro_move (v := .slice _ _ _) rfl) ?_
  refine st_val (ro_len SufLawR_l22 rfl) ?_
  refine st_val (ro_lss rfl rfl) ?_
  refine st_val (ro_move (v := .bool _) rfl) ?_
  refine st_split (t := 18) rfl (fun Q2 => ?_) (fun Q2 => ?_)
  · (try first | replace Q2 := bn_t Q2 | replace Q2 := bn_f Q2)
    (try first | replace Q2 := bx_t Q2 | replace Q2 := bx_f Q2 | replace Q2 := be_t Q2 | replace Q2 := be_f Q2 | replace Q2 := of_decide_eq_true Q2 | replace Q2 := of_decide_eq_false Q2)
    first
     | (exfalso; first | omega | contradiction | (cases Q2; done))
     | skip
       refine st_unguard rfl ?_
       refine st_val (ro_move (v := .int _ _) rfl) ?_
       refine st_unguard rfl ?_
       refine st_val (ro_lss rfl rfl) ?_
       refine st_val (ro_pickT (v := .bool _) rfl rfl) ?_
       refine st_nil ?_
       refine nx_then ?_
       refine cd_cond rfl (fun Q3 => ?_) (fun Q3 => ?_)
       · (try first | replace Q3 := bn_t Q3 | replace Q3 := bn_f Q3)
         (try first | replace Q3 := bx_t Q3 | replace Q3 := bx_f Q3 | replace Q3 := be_t Q3 | replace Q3 := be_f Q3 | replace Q3 := of_decide_eq_true Q3 | replace Q3 := of_decide_eq_false Q3)
         obtain ⟨b, o, rfl, hel2⟩ := hel (by omega)
         obtain ⟨A1, ca, L, A2, cb, M, hask⟩ := ask_at (hel2 k (by omega))
         have hlL := hask.lenL
         have hlM := hask.lenM
         refine cd_skip ?_
         refine nx_then ?_
         refine cd_seq ?_
         refine cd_block ?_
         refine cd_seq ?_
         refine cd_region ?_
         refine st_val (ro_move (v := .slice _ _ _) rfl) ?_
         refine st_val (ro_move (v := .int _ _) rfl) ?_
         refine st_val (ro_indexAddr SufLawR_e22 rfl rfl (by omega)) ?_
         refine st_val (ro_fieldAddr SufLawR_f26_0 rfl) ?_
         refine st_val (ro_load SufLawR_g24 rfl (by exact cellF hB (hask.cells 0 _ rfl))) ?_
         refine st_val (ro_assign (v := .slice _ _ _) rfl) ?_
         refine st_nil ?_
         refine nx_then ?_
         refine cd_seq ?_
         refine cd_seq ?_
         refine cd_region ?_
         refine st_val (ro_move (v := .slice _ _ _) rfl) ?_
         refine st_val (ro_move (v := .int _ _) rfl) ?_
         refine st_val (ro_indexAddr SufLawR_e22 rfl rfl (by omega)) ?_
         refine st_val (ro_loadA (cs := [_, _]) SufLawR_g26 SufLawR_z26 rfl (by exact rangeF hB hask.cells)) ?_
         refine st_call SufLawR_k7 (heavy_any A1 A2 L.length ca M.length cb _) ?_
         rintro v33 w4 ⟨rfl, E33⟩
         refine st_nil ?_
         refine nx_then ?_
         refine cd_cond rfl (fun Q5 => ?_) (fun Q5 => ?_)
         · (try first | replace Q5 := bn_t Q5 | replace Q5 := bn_f Q5)
           (try first | replace Q5 := bx_t Q5 | replace Q5 := bx_f Q5 | replace Q5 := be_t Q5 | replace Q5 := be_f Q5 | replace Q5 := of_decide_eq_true Q5 | replace Q5 := of_decide_eq_false Q5)
           refine cd_seq ?_
           refine cd_region ?_
           refine st_val (ro_assign (v := .bool _) rfl) ?_
           refine st_nil ?_
           refine nx_then ?_
           refine cd_ret ?_
           refine rt_then ?_
           refine rt_block ?_
           refine rt_then ?_
           refine rt_then ?_
           refine rt_block ?_
           refine rt_then ?_
           refine res1 (v := .bool _) rfl rfl ?_
           exact ⟨rfl, (hB.next E33)⟩
         (try first | replace Q5 := bn_t Q5 | replace Q5 := bn_f Q5)
         (try first | replace Q5 := bx_t Q5 | replace Q5 := bx_f Q5 | replace Q5 := be_t Q5 | replace Q5 := be_f Q5 | replace Q5 := of_decide_eq_true Q5 | replace Q5 := of_decide_eq_false Q5)
         refine cd_skip ?_
         refine nx_then ?_
         refine cd_seq ?_
         refine cd_region ?_
         refine st_val (ro_move (v := .slice _ _ _) rfl) ?_
         refine st_call SufLawR_k9 (sort_rt A1 ca L.length L _ (hask.rowL.from_ (hB.next E33)) rfl (by omega)) ?_
         rintro v36 w6 ⟨hs36, E36⟩
         rcases hs36 with ⟨hmay, rfl⟩ | ⟨Ln, F, A', hLn, hlt, hSA, rfl, ho36⟩
         · refine st_val (ro_move (v := .tuple _) rfl) ?_
           refine st_val (ro_extract rfl rfl) ?_
           refine st_val (ro_extract rfl rfl) ?_
           refine st_val (ro_assign (v := .slice _ _ _) rfl) ?_
           refine st_val (ro_assign (v := .int _ _) rfl) ?_
           refine st_nil ?_
           refine nx_then ?_
           refine cd_seq ?_
           refine cd_seq ?_
           refine cd_region ?_
           refine st_val (ro_move (v := .int _ _) rfl) ?_
           refine st_call SufLawR_k11 (num_any _ _) ?_
           rintro v40 w7 ⟨rfl, rfl⟩
           refine st_val (ro_neq rfl rfl) ?_
           refine st_nil ?_
           refine nx_then ?_
           refine cd_cond rfl (fun Q8 => ?_) (fun Q8 => ?_)
           · (try first | replace Q8 := bn_t Q8 | replace Q8 := bn_f Q8)
             (try first | replace Q8 := bx_t Q8 | replace Q8 := bx_f Q8 | replace Q8 := be_t Q8 | replace Q8 := be_f Q8 | replace Q8 := of_decide_eq_true Q8 | replace Q8 := of_decide_eq_false Q8)
             first
              | (exfalso; first | omega | contradiction | (cases Q8; done))
              | skip
                refine cd_exit ?_
                refine ex_then ?_
                refine ex_block ?_
                refine nx_then ?_
                refine cd_region ?_
                refine st_val (ro_move (v := .int _ _) rfl) ?_
                refine st_val (ro_add64 rfl rfl (by omega)) ?_
                refine st_val (ro_assign (v := .int _ _) rfl) ?_
                refine st_nil ?_
                refine nx_cut (k + 1) ⟨(by first | rfl | (refine int_eq ?_; omega)), trivial⟩ (by (iterate 218 refine agr_cons rfl ?_); exact agr_rfl) ⟨?_, ?_⟩
                · exact ⟨by omega, ((hB.next E33).next E36)⟩
                · show xs.length - (k + 1) < xs.length - k; omega
           (try first | replace Q8 := bn_t Q8 | replace Q8 := bn_f Q8)
           (try first | replace Q8 := bx_t Q8 | replace Q8 := bx_f Q8 | replace Q8 := be_t Q8 | replace Q8 := be_f Q8 | replace Q8 := of_decide_eq_true Q8 | replace Q8 := of_decide_eq_false Q8)
           first
            | (exfalso; first | omega | contradiction | (cases Q8; done))
            | skip
              refine cd_skip ?_
              refine nx_then ?_
              refine cd_seq ?_
              refine cd_region ?_
              refine st_val (ro_move (v := .slice _ _ _) rfl) ?_
              refine st_val (ro_move (v := .slice _ _ _) rfl) ?_
              have hrF0 := (sortA_own ho36).2.from_ From.rfl_
              refine st_call SufLawR_k17 (common_good A1 A' ca L.length L.length L.length L (cI F) Ln F _ (hask.rowL.from_ ((hB.next E33).next E36)) rfl hrF0 (by rw [List.length_map]; exact (sortA_own ho36).1) (by omega) (by omega) hLn hlt hSA rfl) ?_
              rintro v45 w9 ⟨⟨A45, C, rfl, hrC, hCl, hCm⟩, E45⟩
              have hrF := hrF0.from_ E45
              refine st_val (ro_move (v := .tuple _) rfl) ?_
              refine st_val (ro_extract rfl rfl) ?_
              refine st_val (ro_extract rfl rfl) ?_
              refine st_val (ro_assign (v := .slice _ _ _) rfl) ?_
              refine st_val (ro_assign (v := .int _ _) rfl) ?_
              refine st_nil ?_
              refine nx_then ?_
              refine cd_seq ?_
              refine cd_seq ?_
              refine cd_region ?_
              refine st_val (ro_move (v := .slice _ _ _) rfl) ?_
              refine st_val (ro_len SufLawR_l24 rfl) ?_
              refine st_val (ro_move (v := .slice _ _ _) rfl) ?_
              refine st_val (ro_len SufLawR_l24 rfl) ?_
              refine st_val (ro_neq rfl rfl) ?_
              refine st_val (ro_move (v := .bool _) rfl) ?_
              refine st_split (t := 53) rfl (fun Q10 => ?_) (fun Q10 => ?_)
              · (try first | replace Q10 := bn_t Q10 | replace Q10 := bn_f Q10)
                (try first | replace Q10 := bx_t Q10 | replace Q10 := bx_f Q10 | replace Q10 := be_t Q10 | replace Q10 := be_f Q10 | replace Q10 := of_decide_eq_true Q10 | replace Q10 := of_decide_eq_false Q10)
                first
                 | (exfalso; first | omega | contradiction | (cases Q10; done))
                 | skip
                   refine st_gno rfl rfl ?_
                   refine st_gno rfl rfl ?_
                   refine st_gno rfl rfl ?_
                   refine st_val (ro_pickT (v := .bool _) rfl rfl) ?_
                   refine st_val (ro_move (v := .bool _) rfl) ?_
                   refine st_gno rfl rfl ?_
                   refine st_gno rfl rfl ?_
                   refine st_gno rfl rfl ?_
                   refine st_gno rfl rfl ?_
                   refine st_gno rfl rfl ?_
                   refine st_val (ro_pickT (v := .bool _) rfl rfl) ?_
                   refine st_nil ?_
                   refine nx_then ?_
                   refine cd_condT rfl ?_
                   refine cd_seq ?_
                   refine cd_region ?_
                   refine st_val (ro_assign (v := .bool _) rfl) ?_
                   refine st_nil ?_
                   refine nx_then ?_
                   refine cd_ret ?_
                   refine rt_then ?_
                   refine rt_block ?_
                   refine rt_then ?_
                   refine rt_then ?_
                   refine rt_block ?_
                   refine rt_then ?_
                   refine res1 (v := .bool _) rfl rfl ?_
                   exact ⟨rfl, (((hB.next E33).next E36).next E45)⟩
              · (try first | replace Q10 := bn_t Q10 | replace Q10 := bn_f Q10)
                (try first | replace Q10 := bx_t Q10 | replace Q10 := bx_f Q10 | replace Q10 := be_t Q10 | replace Q10 := be_f Q10 | replace Q10 := of_decide_eq_true Q10 | replace Q10 := of_decide_eq_false Q10)
                first
                 | (exfalso; first | omega | contradiction | (cases Q10; done))
                 | skip
                   refine st_unguard rfl ?_
                   refine st_val (ro_move (v := .int _ _) rfl) ?_
                   refine st_unguard rfl ?_
                   refine st_call SufLawR_k11 (num_any _ _) ?_
                   rintro v55 w11 ⟨rfl, rfl⟩
                   refine st_unguard rfl ?_
                   refine st_val (ro_neq rfl rfl) ?_
                   refine st_val (ro_pickF (v := .bool _) rfl rfl) ?_
                   refine st_val (ro_move (v := .bool _) rfl) ?_
                   refine st_split (t := 58) rfl (fun Q12 => ?_) (fun Q12 => ?_)
                   · (try first | replace Q12 := bn_t Q12 | replace Q12 := bn_f Q12)
                     (try first | replace Q12 := bx_t Q12 | replace Q12 := bx_f Q12 | replace Q12 := be_t Q12 | replace Q12 := be_f Q12 | replace Q12 := of_decide_eq_true Q12 | replace Q12 := of_decide_eq_false Q12)
                     first
                      | (exfalso; first | omega | contradiction | (cases Q12; done))
                      | skip
                        refine st_gno rfl rfl ?_
                        refine st_gno rfl rfl ?_
                        refine st_gno rfl rfl ?_
                        refine st_gno rfl rfl ?_
                        refine st_gno rfl rfl ?_
                        refine st_val (ro_pickT (v := .bool _) rfl rfl) ?_
                        refine st_nil ?_
                        refine nx_then ?_
                        refine cd_condT rfl ?_
                        refine cd_seq ?_
                        refine cd_region ?_
                        refine st_val (ro_assign (v := .bool _) rfl) ?_
                        refine st_nil ?_
                        refine nx_then ?_
                        refine cd_ret ?_
                        refine rt_then ?_
                        refine rt_block ?_
                        refine rt_then ?_
                        refine rt_then ?_
                        refine rt_block ?_
                        refine rt_then ?_
                        refine res1 (v := .bool _) rfl rfl ?_
                        exact ⟨rfl, (((hB.next E33).next E36).next E45)⟩
                   · (try first | replace Q12 := bn_t Q12 | replace Q12 := bn_f Q12)
                     (try first | replace Q12 := bx_t Q12 | replace Q12 := bx_f Q12 | replace Q12 := be_t Q12 | replace Q12 := be_f Q12 | replace Q12 := of_decide_eq_true Q12 | replace Q12 := of_decide_eq_false Q12)
                     first
                      | (exfalso; first | omega | contradiction | (cases Q12; done))
                      | skip
                        refine st_unguard rfl ?_
                        refine st_val (ro_move (v := .slice _ _ _) rfl) ?_
                        refine st_unguard rfl ?_
                        refine st_val (ro_len SufLawR_l24 rfl) ?_
                        refine st_unguard rfl ?_
                        refine st_val (ro_move (v := .slice _ _ _) rfl) ?_
                        refine st_unguard rfl ?_
                        refine st_val (ro_len SufLawR_l24 rfl) ?_
                        refine st_unguard rfl ?_
                        refine st_val (ro_neq rfl rfl) ?_
                        refine st_val (ro_pickF (v := .bool _) rfl rfl) ?_
                        refine st_nil ?_
                        refine nx_then ?_
                        refine cd_cond rfl (fun Q13 => ?_) (fun Q13 => ?_)
                        · (try first | replace Q13 := bn_t Q13 | replace Q13 := bn_f Q13)
                          (try first | replace Q13 := bx_t Q13 | replace Q13 := bx_f Q13 | replace Q13 := be_t Q13 | replace Q13 := be_f Q13 | replace Q13 := of_decide_eq_true Q13 | replace Q13 := of_decide_eq_false Q13)
                          first
                           | (exfalso; first | omega | contradiction | (cases Q13; done))
                           | skip
                             refine cd_seq ?_
                             refine cd_region ?_
                             refine st_val (ro_assign (v := .bool _) rfl) ?_
                             refine st_nil ?_
                             refine nx_then ?_
                             refine cd_ret ?_
                             refine rt_then ?_
                             refine rt_block ?_
                             refine rt_then ?_
                             refine rt_then ?_
                             refine rt_block ?_
                             refine rt_then ?_
                             refine res1 (v := .bool _) rfl rfl ?_
                             exact ⟨rfl, (((hB.next E33).next E36).next E45)⟩
                        (try first | replace Q13 := bn_t Q13 | replace Q13 := bn_f Q13)
                        (try first | replace Q13 := bx_t Q13 | replace Q13 := bx_f Q13 | replace Q13 := be_t Q13 | replace Q13 := be_f Q13 | replace Q13 := of_decide_eq_true Q13 | replace Q13 := of_decide_eq_false Q13)
                        first
                         | (exfalso; first | omega | contradiction | (cases Q13; done))
                         | skip
                           refine cd_skip ?_
                           refine nx_then ?_
                           refine cd_seq ?_
                           refine cd_region ?_
                           refine st_val (ro_move (v := .slice _ _ _) rfl) ?_
                           refine st_val (ro_len SufLawR_l24 rfl) ?_
                           have hrF67 := hrF.from_ From.rfl_
                           have hrC67 := hrC.from_ From.rfl_
                           refine st_make SufLawR_m39 rfl rfl rfl (by omega) (by omega) ?_
                           intro b67 w14 E67 hb67 hk67
                           have hg67 : w.heap.size ≤ b67 := by rw [hb67]; exact ((((hB.next E33).next E36).next E45)).size
                           have hpF := row_lt (n := L.length) hrF67 (by omega) hb67
                           have hpC := row_lt (n := L.length) hrC67 (by omega) hb67
                           refine st_val (ro_assign (v := .slice _ _ _) rfl) ?_
                           refine st_nil ?_
                           refine nx_then ?_
                           refine cd_seq ?_
                           refine cd_region ?_
                           refine st_val (ro_assign (v := .int _ _) rfl) ?_
                           refine st_nil ?_
                           refine nx_then ?_
                           refine cd_block ?_
                           refine cd_loop (G := Nat × (Nat → Bool)) [2, 11, 12, 13, 68, 69, 70, 71, 72, 73, 74, 75, 76, 77, 78, 79, 80, 81, 82, 83, 84, 85, 86, 87, 88, 89, 90, 91, 92, 93, 94, 95, 96, 97, 98, 99, 100, 101, 102, 103, 104, 105, 106, 107, 108, 109, 110, 111, 112, 113, 114, 115, 116, 117, 118, 119, 120, 121, 122, 123, 124, 125, 126, 127, 128, 129, 130, 131, 132, 133, 134, 135, 136, 137, 138, 139, 140, 141, 142, 143, 144, 145, 146, 147, 148, 149, 150, 151, 152, 153, 154, 155, 156, 157, 158, 159, 160, 161, 162, 163, 164, 165, 166, 167, 168, 169, 170, 171, 172, 173, 174, 175, 176, 177, 178, 179, 180, 181, 182, 183, 184, 185, 186] (fun (q, _) => [(10, .int .i64 (q : Nat))]) (fun (q, sn) w' => q ≤ L.length ∧ (∀ j, sn j = true → ∃ p, p < q ∧ F.getD p 0 = j) ∧ Blk w' b67 4 (tabB L.length sn) ∧ RowOf iV w' A' (cI F) ∧ RowOf iV w' A45 (cI C) ∧ From w w') (fun (q, _) => L.length - q) ((0, fun _ => false)) ⟨rfl, trivial⟩ ?_ ?_
                           · exact ⟨Nat.zero_le _, fun j h => (by cases h), by rw [← tabB_zero]; exact hk67, hrF.from_ (From.rfl_.next E67), hrC.from_ (From.rfl_.next E67), ((((hB.next E33).next E36).next E45).next E67)⟩
                           rintro ⟨q, sn⟩ ρ15 w15 ⟨hq, hsn, hT, hrF, hrC, hB⟩
                           refine cd_seq ?_
                           refine cd_seq ?_
                           refine cd_region ?_
                           refine st_val (ro_move (v := .int _ _) rfl) ?_
                           refine st_val (ro_move (v := .slice _ _ _) rfl) ?_
                           refine st_val (ro_len SufLawR_l24 rfl) ?_
                           refine st_val (ro_lss rfl rfl) ?_
                           refine st_nil ?_
                           refine nx_then ?_
                           refine cd_cond rfl (fun Q16 => ?_) (fun Q16 => ?_)
                           · (try first | replace Q16 := bn_t Q16 | replace Q16 := bn_f Q16)
                             (try first | replace Q16 := bx_t Q16 | replace Q16 := bx_f Q16 | replace Q16 := be_t Q16 | replace Q16 := be_f Q16 | replace Q16 := of_decide_eq_true Q16 | replace Q16 := of_decide_eq_false Q16)
                             obtain ⟨bF, oF, rfl, hcF⟩ := rowD hrF (by omega)
                             obtain ⟨bC, oC, rfl, hcC⟩ := rowD hrC (by omega)
                             obtain ⟨bL, oL, rfl, hcL⟩ := rowD (show RowOf iV w A1 (cI Ln) by rw [cI, ← hLn]; exact hask.rowL) (by omega)
                             have hf1 := (isSA_getD hSA (show q < Ln.length by omega)).1
                             have hf2 := (isSA_getD hSA (show q - 1 < Ln.length by omega)).1
                             have hcs : (w15).cell? ⟨b67, F.getD q 0, none⟩ = some (.bool false) := by rw [hT.rd _ (tabB_at (by omega)), seen_no hSA hsn (by omega)]
                             refine cd_skip ?_
                             refine nx_then ?_
                             refine cd_seq ?_
                             refine cd_block ?_
                             refine cd_seq ?_
                             refine cd_seq ?_
                             refine cd_region ?_
                             refine st_val (ro_move (v := .slice _ _ _) rfl) ?_
                             refine st_val (ro_move (v := .int _ _) rfl) ?_
                             refine st_val (ro_indexAddr1 SufLawR_e24 rfl rfl (by omega)) ?_
                             refine st_val (ro_load SufLawR_g3 rfl (by exact cellF From.rfl_ (hcF q (by omega)))) ?_
                             refine st_val (ro_lss rfl rfl) ?_
                             refine st_val (ro_move (v := .bool _) rfl) ?_
                             refine st_split (t := 79) rfl (fun Q17 => ?_) (fun Q17 => ?_)
                             · (try first | replace Q17 := bn_t Q17 | replace Q17 := bn_f Q17)
                               (try first | replace Q17 := bx_t Q17 | replace Q17 := bx_f Q17 | replace Q17 := be_t Q17 | replace Q17 := be_f Q17 | replace Q17 := of_decide_eq_true Q17 | replace Q17 := of_decide_eq_false Q17)
                               first
                                | (exfalso; first | omega | contradiction | (cases Q17; done))
                                | skip
                                  refine st_gno rfl rfl ?_
                                  refine st_gno rfl rfl ?_
                                  refine st_gno rfl rfl ?_
                                  refine st_gno rfl rfl ?_
                                  refine st_gno rfl rfl ?_
                                  refine st_gno rfl rfl ?_
                                  refine st_gno rfl rfl ?_
                                  refine st_val (ro_pickT (v := .bool _) rfl rfl) ?_
                                  refine st_val (ro_move (v := .bool _) rfl) ?_
                                  refine st_gno rfl rfl ?_
                                  refine st_gno rfl rfl ?_
                                  refine st_gno rfl rfl ?_
                                  refine st_gno rfl rfl ?_
                                  refine st_gno rfl rfl ?_
                                  refine st_gno rfl rfl ?_
                                  refine st_gno rfl rfl ?_
                                  refine st_val (ro_pickT (v := .bool _) rfl rfl) ?_
                                  refine st_nil ?_
                                  refine nx_then ?_
                                  refine cd_condT rfl ?_
                                  refine cd_seq ?_
                                  refine cd_region ?_
                                  refine st_val (ro_assign (v := .bool _) rfl) ?_
                                  refine st_nil ?_
                                  refine nx_then ?_
                                  refine cd_ret ?_
                                  refine rt_then ?_
                                  refine rt_block ?_
                                  refine rt_then ?_
                                  refine rt_then ?_
                                  refine rt_block ?_
                                  refine rt_block ?_
                                  refine rt_then ?_
                                  refine rt_then ?_
                                  refine rt_block ?_
                                  refine rt_then ?_
                                  refine res1 (v := .bool _) rfl rfl ?_
                                  exact ⟨rfl, hB⟩
                             · (try first | replace Q17 := bn_t Q17 | replace Q17 := bn_f Q17)
                               (try first | replace Q17 := bx_t Q17 | replace Q17 := bx_f Q17 | replace Q17 := be_t Q17 | replace Q17 := be_f Q17 | replace Q17 := of_decide_eq_true Q17 | replace Q17 := of_decide_eq_false Q17)
                               first
                                | (exfalso; first | omega | contradiction | (cases Q17; done))
                                | skip
                                  refine st_unguard rfl ?_
                                  refine st_val (ro_move (v := .slice _ _ _) rfl) ?_
                                  refine st_unguard rfl ?_
                                  refine st_val (ro_move (v := .int _ _) rfl) ?_
                                  refine st_unguard rfl ?_
                                  refine st_val (ro_indexAddr1 SufLawR_e24 rfl rfl (by omega)) ?_
                                  refine st_unguard rfl ?_
                                  refine st_val (ro_load SufLawR_g3 rfl (by exact cellF From.rfl_ (hcF q (by omega)))) ?_
                                  refine st_unguard rfl ?_
                                  refine st_val (ro_move (v := .slice _ _ _) rfl) ?_
                                  refine st_unguard rfl ?_
                                  refine st_val (ro_len SufLawR_l24 rfl) ?_
                                  refine st_unguard rfl ?_
                                  refine st_val (ro_geq rfl rfl) ?_
                                  refine st_val (ro_pickF (v := .bool _) rfl rfl) ?_
                                  refine st_val (ro_move (v := .bool _) rfl) ?_
                                  refine st_split (t := 88) rfl (fun Q18 => ?_) (fun Q18 => ?_)
                                  · (try first | replace Q18 := bn_t Q18 | replace Q18 := bn_f Q18)
                                    (try first | replace Q18 := bx_t Q18 | replace Q18 := bx_f Q18 | replace Q18 := be_t Q18 | replace Q18 := be_f Q18 | replace Q18 := of_decide_eq_true Q18 | replace Q18 := of_decide_eq_false Q18)
                                    first
                                     | (exfalso; first | omega | contradiction | (cases Q18; done))
                                     | skip
                                       refine st_gno rfl rfl ?_
                                       refine st_gno rfl rfl ?_
                                       refine st_gno rfl rfl ?_
                                       refine st_gno rfl rfl ?_
                                       refine st_gno rfl rfl ?_
                                       refine st_gno rfl rfl ?_
                                       refine st_gno rfl rfl ?_
                                       refine st_val (ro_pickT (v := .bool _) rfl rfl) ?_
                                       refine st_nil ?_
                                       refine nx_then ?_
                                       refine cd_condT rfl ?_
                                       refine cd_seq ?_
                                       refine cd_region ?_
                                       refine st_val (ro_assign (v := .bool _) rfl) ?_
                                       refine st_nil ?_
                                       refine nx_then ?_
                                       refine cd_ret ?_
                                       refine rt_then ?_
                                       refine rt_block ?_
                                       refine rt_then ?_
                                       refine rt_then ?_
                                       refine rt_block ?_
                                       refine rt_block ?_
                                       refine rt_then ?_
                                       refine rt_then ?_
                                       refine rt_block ?_
                                       refine rt_then ?_
                                       refine res1 (v := .bool _) rfl rfl ?_
                                       exact ⟨rfl, hB⟩
                                  · (try first | replace Q18 := bn_t Q18 | replace Q18 := bn_f Q18)
                                    (try first | replace Q18 := bx_t Q18 | replace Q18 := bx_f Q18 | replace Q18 := be_t Q18 | replace Q18 := be_f Q18 | replace Q18 := of_decide_eq_true Q18 | replace Q18 := of_decide_eq_false Q18)
                                    first
                                     | (exfalso; first | omega | contradiction | (cases Q18; done))
                                     | skip
                                       refine st_unguard rfl ?_
                                       refine st_val (ro_move (v := .slice _ _ _) rfl) ?_
                                       refine st_unguard rfl ?_
                                       refine st_val (ro_move (v := .slice _ _ _) rfl) ?_
                                       refine st_unguard rfl ?_
                                       refine st_val (ro_move (v := .int _ _) rfl) ?_
                                       refine st_unguard rfl ?_
                                       refine st_val (ro_indexAddr1 SufLawR_e24 rfl rfl (by omega)) ?_
                                       refine st_unguard rfl ?_
                                       refine st_val (ro_load SufLawR_g3 rfl (by exact cellF From.rfl_ (hcF q (by omega)))) ?_
                                       refine st_unguard rfl ?_
                                       refine st_val (ro_indexAddr0 SufLawR_e39 rfl rfl (by omega)) ?_
                                       refine st_unguard rfl ?_
                                       refine st_val (ro_load SufLawR_g4 rfl (by exact cellF From.rfl_ hcs)) ?_
                                       refine st_val (ro_pickF (v := .bool _) rfl rfl) ?_
                                       refine st_nil ?_
                                       refine nx_then ?_
                                       refine cd_cond rfl (fun Q19 => ?_) (fun Q19 => ?_)
                                       · (try first | replace Q19 := bn_t Q19 | replace Q19 := bn_f Q19)
                                         (try first | replace Q19 := bx_t Q19 | replace Q19 := bx_f Q19 | replace Q19 := be_t Q19 | replace Q19 := be_f Q19 | replace Q19 := of_decide_eq_true Q19 | replace Q19 := of_decide_eq_false Q19)
                                         first
                                          | (exfalso; first | omega | contradiction | (cases Q19; done))
                                          | skip
                                            refine cd_seq ?_
                                            refine cd_region ?_
                                            refine st_val (ro_assign (v := .bool _) rfl) ?_
                                            refine st_nil ?_
                                            refine nx_then ?_
                                            refine cd_ret ?_
                                            refine rt_then ?_
                                            refine rt_block ?_
                                            refine rt_then ?_
                                            refine rt_then ?_
                                            refine rt_block ?_
                                            refine rt_block ?_
                                            refine rt_then ?_
                                            refine rt_then ?_
                                            refine rt_block ?_
                                            refine rt_then ?_
                                            refine res1 (v := .bool _) rfl rfl ?_
                                            exact ⟨rfl, hB⟩
                                       (try first | replace Q19 := bn_t Q19 | replace Q19 := bn_f Q19)
                                       (try first | replace Q19 := bx_t Q19 | replace Q19 := bx_f Q19 | replace Q19 := be_t Q19 | replace Q19 := be_f Q19 | replace Q19 := of_decide_eq_true Q19 | replace Q19 := of_decide_eq_false Q19)
                                       first
                                        | (exfalso; first | omega | contradiction | (cases Q19; done))
                                        | skip
                                          refine cd_skip ?_
                                          refine nx_then ?_
                                          refine cd_seq ?_
                                          refine cd_region ?_
                                          refine st_val (ro_move (v := .slice _ _ _) rfl) ?_
                                          refine st_val (ro_move (v := .slice _ _ _) rfl) ?_
                                          refine st_val (ro_move (v := .int _ _) rfl) ?_
                                          refine st_val (ro_indexAddr1 SufLawR_e24 rfl rfl (by omega)) ?_
                                          refine st_val (ro_load SufLawR_g3 rfl (by exact cellF From.rfl_ (hcF q (by omega)))) ?_
                                          refine st_val (ro_indexAddr0 SufLawR_e39 rfl rfl (by omega)) ?_
                                          refine st_put (v := .bool _) SufLawR_z4 rfl rfl rfl (hT) (by rw [tabB_size]; omega) ?_
                                          intro w20 O18 P18
                                          have hnF := hpF (by omega) _ rfl
                                          have hnC := hpC (by omega) _ rfl
                                          have hrF2 := rowOnly hrF O18 (by simp only at hnF; omega)
                                          have hrC2 := rowOnly hrC O18 (by simp only at hnC; omega)
                                          have hcc := rowC hrC2 (k := q) (by omega)
                                          have hcf1 := rowC hrF2 (k := q - 1) (by omega)
                                          have hcf2 := rowC hrF2 (k := q) (by omega)
                                          have P18b : Blk w20 b67 4 (tabB L.length (updB sn (F.getD q 0) true)) := by rw [← tabB_set]; exact P18
                                          refine st_nil ?_
                                          refine nx_then ?_
                                          refine cd_seq ?_
                                          refine cd_seq ?_
                                          refine cd_region ?_
                                          refine st_val (ro_move (v := .int _ _) rfl) ?_
                                          refine st_val (ro_eql rfl rfl) ?_
                                          refine st_nil ?_
                                          refine nx_then ?_
                                          refine cd_cond rfl (fun Q21 => ?_) (fun Q21 => ?_)
                                          · (try first | replace Q21 := bn_t Q21 | replace Q21 := bn_f Q21)
                                            (try first | replace Q21 := bx_t Q21 | replace Q21 := bx_f Q21 | replace Q21 := be_t Q21 | replace Q21 := be_f Q21 | replace Q21 := of_decide_eq_true Q21 | replace Q21 := of_decide_eq_false Q21)
                                            have hc0 : C.getD q 0 = 0 := by rw [show q = 0 by omega]; exact hCm.at0 (by omega)
                                            refine cd_seq ?_
                                            refine cd_seq ?_
                                            refine cd_region ?_
                                            refine st_val (ro_move (v := .slice _ _ _) rfl) ?_
                                            refine st_val (ro_move (v := .int _ _) rfl) ?_
                                            refine st_val (ro_indexAddr1 SufLawR_e24 rfl rfl (by omega)) ?_
                                            refine st_val (ro_load SufLawR_g3 rfl (by exact cellF From.rfl_ hcc)) ?_
                                            refine st_val (ro_neq rfl rfl) ?_
                                            refine st_nil ?_
                                            refine nx_then ?_
                                            refine cd_cond rfl (fun Q22 => ?_) (fun Q22 => ?_)
                                            · (try first | replace Q22 := bn_t Q22 | replace Q22 := bn_f Q22)
                                              (try first | replace Q22 := bx_t Q22 | replace Q22 := bx_f Q22 | replace Q22 := be_t Q22 | replace Q22 := be_f Q22 | replace Q22 := of_decide_eq_true Q22 | replace Q22 := of_decide_eq_false Q22)
                                              first
                                               | (exfalso; first | omega | contradiction | (cases Q22; done))
                                               | skip
                                                 refine cd_seq ?_
                                                 refine cd_region ?_
                                                 refine st_val (ro_assign (v := .bool _) rfl) ?_
                                                 refine st_nil ?_
                                                 refine nx_then ?_
                                                 refine cd_ret ?_
                                                 refine rt_then ?_
                                                 refine rt_then ?_
                                                 refine rt_block ?_
                                                 refine rt_then ?_
                                                 refine rt_then ?_
                                                 refine rt_block ?_
                                                 refine rt_block ?_
                                                 refine rt_then ?_
                                                 refine rt_then ?_
                                                 refine rt_block ?_
                                                 refine rt_then ?_
                                                 refine res1 (v := .bool _) rfl rfl ?_
                                                 exact ⟨rfl, (hB.only O18 (hg67))⟩
                                            (try first | replace Q22 := bn_t Q22 | replace Q22 := bn_f Q22)
                                            (try first | replace Q22 := bx_t Q22 | replace Q22 := bx_f Q22 | replace Q22 := be_t Q22 | replace Q22 := be_f Q22 | replace Q22 := of_decide_eq_true Q22 | replace Q22 := of_decide_eq_false Q22)
                                            first
                                             | (exfalso; first | omega | contradiction | (cases Q22; done))
                                             | skip
                                               refine cd_skip ?_
                                               refine nx_then ?_
                                               refine cd_exit ?_
                                               refine ex_then ?_
                                               refine ex_block ?_
                                               refine nx_then ?_
                                               refine cd_region ?_
                                               refine st_val (ro_move (v := .int _ _) rfl) ?_
                                               refine st_val (ro_add64 rfl rfl (by omega)) ?_
                                               refine st_val (ro_assign (v := .int _ _) rfl) ?_
                                               refine st_nil ?_
                                               refine nx_cut ((q + 1, updB sn (F.getD q 0) true)) ⟨(by first | rfl | (refine int_eq ?_; omega)), trivial⟩ (by (iterate 169 refine agr_cons rfl ?_); exact agr_rfl) ⟨?_, ?_⟩
                                               · exact ⟨by omega, seen_put hsn, P18b.from_ From.rfl_, hrF2.from_ From.rfl_, hrC2.from_ From.rfl_, (hB.only O18 (hg67))⟩
                                               · show L.length - (q + 1) < L.length - q; omega
                                          (try first | replace Q21 := bn_t Q21 | replace Q21 := bn_f Q21)
                                          (try first | replace Q21 := bx_t Q21 | replace Q21 := bx_f Q21 | replace Q21 := be_t Q21 | replace Q21 := be_f Q21 | replace Q21 := of_decide_eq_true Q21 | replace Q21 := of_decide_eq_false Q21)
                                          obtain ⟨hca, hcst⟩ := hCm.at_ q (by omega) (by omega)
                                          refine cd_skip ?_
                                          refine nx_then ?_
                                          refine cd_seq ?_
                                          apply cd_drawn 11 [(110, eqp _), (111, eqp _), (112, eqp _), (113, eqp _), (114, eqp _), (115, eqp _), (116, eqp _), (117, eqp _), (118, eqp _), (11, eqp _), (12, eqp _)] (by kernel_rfl) (by kernel_rfl) ⟨eqp_mono _, eqp_mono _, eqp_mono _, eqp_mono _, eqp_mono _, eqp_mono _, eqp_mono _, eqp_mono _, eqp_mono _, eqp_mono _, eqp_mono _, trivial⟩
                                          case hop =>
                                           refine ⟨?_, ?_⟩
                                           · intro w24 D24
                                             show OpOK _ _ _ _ _ _ _
                                             exact ok_pure (ro_move (v := .slice _ _ _) rfl) rfl
                                           refine ⟨?_, ?_⟩
                                           · intro w25 D25
                                             show OpOK _ _ _ _ _ _ _
                                             exact ok_pure (ro_move (v := .int _ _) rfl) rfl
                                           refine ⟨?_, ?_⟩
                                           · intro w26 D26
                                             rintro _ rfl
                                             show OpOK _ _ _ _ _ _ _
                                             exact ok_pure (ro_subN (b := 1) rfl rfl (by omega)) rfl
                                           refine ⟨?_, ?_⟩
                                           · intro w27 D27
                                             rintro _ rfl _ rfl
                                             show OpOK _ _ _ _ _ _ _
                                             exact ok_pure (ro_indexAddr1 SufLawR_e24 rfl rfl (by omega)) rfl
                                           refine ⟨?_, ?_⟩
                                           · intro w28 D28
                                             rintro _ rfl
                                             show OpOK _ _ _ _ _ _ _
                                             exact ok_pure (ro_load SufLawR_g3 rfl (by exact cellF (From.rfl_.next D28) hcf1)) rfl
                                           refine ⟨?_, ?_⟩
                                           · intro w29 D29
                                             show OpOK _ _ _ _ _ _ _
                                             exact ok_pure (ro_move (v := .slice _ _ _) rfl) rfl
                                           refine ⟨?_, ?_⟩
                                           · intro w30 D30
                                             show OpOK _ _ _ _ _ _ _
                                             exact ok_pure (ro_move (v := .int _ _) rfl) rfl
                                           refine ⟨?_, ?_⟩
                                           · intro w31 D31
                                             rintro _ rfl _ rfl
                                             show OpOK _ _ _ _ _ _ _
                                             exact ok_pure (ro_indexAddr1 SufLawR_e24 rfl rfl (by omega)) rfl
                                           refine ⟨?_, ?_⟩
                                           · intro w32 D32
                                             rintro _ rfl
                                             show OpOK _ _ _ _ _ _ _
                                             exact ok_pure (ro_load SufLawR_g3 rfl (by exact cellF (From.rfl_.next D32) hcf2)) rfl
                                           refine ⟨?_, ?_⟩
                                           · intro w33 D33
                                             rintro _ rfl
                                             show OpOK _ _ _ _ _ _ _
                                             exact ok_pure (ro_assign (v := .int _ _) rfl) rfl
                                           refine ⟨?_, ?_⟩
                                           · intro w34 D34
                                             rintro _ rfl
                                             show OpOK _ _ _ _ _ _ _
                                             exact ok_pure (ro_assign (v := .int _ _) rfl) rfl
                                           exact trivial
                                          case hend =>
                                           intro w35 D35
                                           rintro _ rfl _ rfl _ rfl _ rfl _ rfl _ rfl _ rfl _ rfl _ rfl _ rfl _ rfl
                                           show St _ _ _ _ _ _ _
                                           refine st_nil ?_
                                           refine nx_then ?_
                                           refine cd_seq ?_
                                           refine cd_region ?_
                                           refine st_val (ro_assign (v := .int _ _) rfl) ?_
                                           refine st_nil ?_
                                           refine nx_then ?_
                                           refine cd_cut (G := Nat) [119, 120, 121, 122, 123, 124, 125, 126, 127, 128, 129, 130, 131, 132, 133, 134, 135, 136, 137, 138, 139, 140, 141, 142, 143, 144, 145, 146, 147, 148, 149] (fun h => [(13, .int .i64 (h : Nat))]) (fun h w' => agr Ln (F.getD q 0) (F.getD (q - 1) 0) h ∧ stop Ln (F.getD q 0) (F.getD (q - 1) 0) h ∧ Blk w' b67 4 (tabB L.length (updB sn (F.getD q 0) true)) ∧ RowOf iV w' (some ⟨bF, oF, none⟩) (cI F) ∧ RowOf iV w' (some ⟨bC, oC, none⟩) (cI C) ∧ w'.cell? ⟨bC, oC + q, none⟩ = some (.int .i64 ((C.getD q 0 : Nat) : Int)) ∧ From w w') ?_ ?_
                                           · refine cd_block ?_
                                             refine cd_loop (G := Nat) [119, 120, 121, 122, 123, 124, 125, 126, 127, 128, 129, 130, 131, 132, 133, 134, 135, 136, 137, 138, 139, 140, 141, 142, 143, 144, 145, 146, 147, 148, 149] (fun h => [(13, .int .i64 (h : Nat))]) (fun h w' => agr Ln (F.getD q 0) (F.getD (q - 1) 0) h ∧ Blk w' b67 4 (tabB L.length (updB sn (F.getD q 0) true)) ∧ RowOf iV w' (some ⟨bF, oF, none⟩) (cI F) ∧ RowOf iV w' (some ⟨bC, oC, none⟩) (cI C) ∧ w'.cell? ⟨bC, oC + q, none⟩ = some (.int .i64 ((C.getD q 0 : Nat) : Int)) ∧ From w w') (fun h => L.length - h) (0) ⟨rfl, trivial⟩ ?_ ?_
                                             · exact ⟨agr_zero (by omega) (by omega), P18b.from_ (From.rfl_.next D35), hrF2.from_ (From.rfl_.next D35), hrC2.from_ (From.rfl_.next D35), cellF (From.rfl_.next D35) hcc, ((hB.only O18 (hg67)).next D35)⟩
                                             rintro h ρ36 w36 ⟨hag, P18b, hrF2, hrC2, hcc, hB⟩
                                             refine cd_seq ?_
                                             refine cd_seq ?_
                                             have hb1 := hag.1
                                             have hb2 := hag.2.1
                                             rcases (show L.length ≤ F.getD (q - 1) 0 + h ∨ (F.getD (q - 1) 0 + h < L.length ∧ L.length ≤ F.getD q 0 + h) ∨ (F.getD (q - 1) 0 + h < L.length ∧ F.getD q 0 + h < L.length ∧ Ln.getD (F.getD q 0 + h) 0 = Ln.getD (F.getD (q - 1) 0 + h) 0) ∨ (F.getD (q - 1) 0 + h < L.length ∧ F.getD q 0 + h < L.length ∧ Ln.getD (F.getD q 0 + h) 0 ≠ Ln.getD (F.getD (q - 1) 0 + h) 0) by omega) with e1 | ⟨e1, e2⟩ | ⟨e1, e2, e3⟩ | ⟨e1, e2, e3⟩
                                             · have hst : stop Ln (F.getD q 0) (F.getD (q - 1) 0) h := fun x => by have := x.1; have := x.2.1; have := x.2.2; omega
                                               apply cd_drawn 29 [(119, eqp _), (120, eqp _), (121, eqp _), (122, eqp _), (123, eqp _), (124, eqp _), (125, eqp _), (126, eqp _), (127, eqp _), (128, eqp _), (129, eqp _), (130, eqp _), (131, eqp _), (132, eqp _), (133, eqp _), (134, eqp _), (135, eqp _), (136, eqp _), (137, eqp _), (138, eqp _), (139, eqp _), (140, eqp _), (141, eqp _), (142, eqp _), (143, eqp _), (144, eqp _), (145, eqp _), (146, eqp _), (147, eqp _)] (by kernel_rfl) (by kernel_rfl) ⟨eqp_mono _, eqp_mono _, eqp_mono _, eqp_mono _, eqp_mono _, eqp_mono _, eqp_mono _, eqp_mono _, eqp_mono _, eqp_mono _, eqp_mono _, eqp_mono _, eqp_mono _, eqp_mono _, eqp_mono _, eqp_mono _, eqp_mono _, eqp_mono _, eqp_mono _, eqp_mono _, eqp_mono _, eqp_mono _, eqp_mono _, eqp_mono _, eqp_mono _, eqp_mono _, eqp_mono _, eqp_mono _, eqp_mono _, trivial⟩
                                               case hop =>
                                                refine ⟨?_, ?_⟩
                                                · intro w38 D38
                                                  show OpOK _ _ _ _ _ _ _
                                                  exact ok_pure (ro_move (v := .int _ _) rfl) rfl
                                                refine ⟨?_, ?_⟩
                                                · intro w39 D39
                                                  show OpOK _ _ _ _ _ _ _
                                                  exact ok_pure (ro_move (v := .int _ _) rfl) rfl
                                                refine ⟨?_, ?_⟩
                                                · intro w40 D40
                                                  rintro _ rfl _ rfl
                                                  show OpOK _ _ _ _ _ _ _
                                                  exact ok_pure (ro_addN rfl rfl (by omega)) rfl
                                                refine ⟨?_, ?_⟩
                                                · intro w41 D41
                                                  show OpOK _ _ _ _ _ _ _
                                                  exact ok_pure (ro_move (v := .slice _ _ _) rfl) rfl
                                                refine ⟨?_, ?_⟩
                                                · intro w42 D42
                                                  rintro _ rfl
                                                  show OpOK _ _ _ _ _ _ _
                                                  exact ok_pure (ro_len SufLawR_l24 rfl) rfl
                                                refine ⟨?_, ?_⟩
                                                · intro w43 D43
                                                  rintro _ rfl _ rfl
                                                  show OpOK _ _ _ _ _ _ _
                                                  exact ok_pure (ro_bf (ro_lss rfl rfl) (decide_eq_false (by omega))) rfl
                                                refine ⟨?_, ?_⟩
                                                · intro w44 D44
                                                  rintro _ rfl
                                                  show OpOK _ _ _ _ _ _ _
                                                  exact ok_pure (ro_move (v := .bool _) rfl) rfl
                                                refine ⟨?_, ?_⟩
                                                · intro w45 D45
                                                  rintro _ rfl
                                                  show OpOK _ _ _ _ _ _ _
                                                  exact ok_gno rfl rfl rfl
                                                refine ⟨?_, ?_⟩
                                                · intro w46 D46
                                                  rintro _ rfl
                                                  show OpOK _ _ _ _ _ _ _
                                                  exact ok_gno rfl rfl rfl
                                                refine ⟨?_, ?_⟩
                                                · intro w47 D47
                                                  rintro _ rfl _ rfl _ rfl
                                                  show OpOK _ _ _ _ _ _ _
                                                  exact ok_gno rfl rfl rfl
                                                refine ⟨?_, ?_⟩
                                                · intro w48 D48
                                                  rintro _ rfl
                                                  show OpOK _ _ _ _ _ _ _
                                                  exact ok_gno rfl rfl rfl
                                                refine ⟨?_, ?_⟩
                                                · intro w49 D49
                                                  rintro _ rfl _ rfl
                                                  show OpOK _ _ _ _ _ _ _
                                                  exact ok_gno rfl rfl rfl
                                                refine ⟨?_, ?_⟩
                                                · intro w50 D50
                                                  rintro _ rfl _ rfl _ rfl
                                                  show OpOK _ _ _ _ _ _ _
                                                  exact ok_gno rfl rfl rfl
                                                refine ⟨?_, ?_⟩
                                                · intro w51 D51
                                                  rintro _ rfl _ rfl
                                                  show OpOK _ _ _ _ _ _ _
                                                  exact ok_pure (ro_pickF (v := .bool _) rfl rfl) rfl
                                                refine ⟨?_, ?_⟩
                                                · intro w52 D52
                                                  rintro _ rfl
                                                  show OpOK _ _ _ _ _ _ _
                                                  exact ok_pure (ro_move (v := .bool _) rfl) rfl
                                                refine ⟨?_, ?_⟩
                                                · intro w53 D53
                                                  rintro _ rfl
                                                  show OpOK _ _ _ _ _ _ _
                                                  exact ok_gno rfl rfl rfl
                                                refine ⟨?_, ?_⟩
                                                · intro w54 D54
                                                  rintro _ rfl
                                                  show OpOK _ _ _ _ _ _ _
                                                  exact ok_gno rfl rfl rfl
                                                refine ⟨?_, ?_⟩
                                                · intro w55 D55
                                                  rintro _ rfl
                                                  show OpOK _ _ _ _ _ _ _
                                                  exact ok_gno rfl rfl rfl
                                                refine ⟨?_, ?_⟩
                                                · intro w56 D56
                                                  rintro _ rfl _ rfl _ rfl
                                                  show OpOK _ _ _ _ _ _ _
                                                  exact ok_gno rfl rfl rfl
                                                refine ⟨?_, ?_⟩
                                                · intro w57 D57
                                                  rintro _ rfl _ rfl _ rfl
                                                  show OpOK _ _ _ _ _ _ _
                                                  exact ok_gno rfl rfl rfl
                                                refine ⟨?_, ?_⟩
                                                · intro w58 D58
                                                  rintro _ rfl _ rfl
                                                  show OpOK _ _ _ _ _ _ _
                                                  exact ok_gno rfl rfl rfl
                                                refine ⟨?_, ?_⟩
                                                · intro w59 D59
                                                  rintro _ rfl
                                                  show OpOK _ _ _ _ _ _ _
                                                  exact ok_gno rfl rfl rfl
                                                refine ⟨?_, ?_⟩
                                                · intro w60 D60
                                                  rintro _ rfl
                                                  show OpOK _ _ _ _ _ _ _
                                                  exact ok_gno rfl rfl rfl
                                                refine ⟨?_, ?_⟩
                                                · intro w61 D61
                                                  rintro _ rfl
                                                  show OpOK _ _ _ _ _ _ _
                                                  exact ok_gno rfl rfl rfl
                                                refine ⟨?_, ?_⟩
                                                · intro w62 D62
                                                  rintro _ rfl _ rfl _ rfl
                                                  show OpOK _ _ _ _ _ _ _
                                                  exact ok_gno rfl rfl rfl
                                                refine ⟨?_, ?_⟩
                                                · intro w63 D63
                                                  rintro _ rfl _ rfl _ rfl
                                                  show OpOK _ _ _ _ _ _ _
                                                  exact ok_gno rfl rfl rfl
                                                refine ⟨?_, ?_⟩
                                                · intro w64 D64
                                                  rintro _ rfl _ rfl
                                                  show OpOK _ _ _ _ _ _ _
                                                  exact ok_gno rfl rfl rfl
                                                refine ⟨?_, ?_⟩
                                                · intro w65 D65
                                                  rintro _ rfl _ rfl _ rfl
                                                  show OpOK _ _ _ _ _ _ _
                                                  exact ok_gno rfl rfl rfl
                                                refine ⟨?_, ?_⟩
                                                · intro w66 D66
                                                  rintro _ rfl _ rfl
                                                  show OpOK _ _ _ _ _ _ _
                                                  exact ok_pure (ro_pickF (v := .bool _) rfl rfl) rfl
                                                exact trivial
                                               case hend =>
                                                intro w67 D67
                                                rintro _ rfl _ rfl _ rfl _ rfl _ rfl _ rfl _ rfl _ rfl _ rfl _ rfl _ rfl _ rfl _ rfl _ rfl _ rfl _ rfl _ rfl _ rfl _ rfl _ rfl _ rfl _ rfl _ rfl _ rfl _ rfl _ rfl _ rfl _ rfl _ rfl
                                                show St _ _ _ _ _ _ _
                                                refine st_nil ?_
                                                refine nx_then ?_
                                                refine cd_condF rfl ?_
                                                refine cd_exit ?_
                                                refine ex_then ?_
                                                refine ex_then ?_
                                                refine ex_block ?_
                                                refine nx_cut (h) ⟨(by first | rfl | (refine int_eq ?_; omega)), trivial⟩ (by (iterate 61 refine agr_cons rfl ?_); exact agr_rfl) ?_
                                                exact ⟨hag, hst, P18b.from_ (From.rfl_.next D67), hrF2.from_ (From.rfl_.next D67), hrC2.from_ (From.rfl_.next D67), cellF (From.rfl_.next D67) hcc, (hB.next D67)⟩
                                             · have hst : stop Ln (F.getD q 0) (F.getD (q - 1) 0) h := fun x => by have := x.1; have := x.2.1; have := x.2.2; omega
                                               apply cd_drawn 29 [(119, eqp _), (120, eqp _), (121, eqp _), (122, eqp _), (123, eqp _), (124, eqp _), (125, eqp _), (126, eqp _), (127, eqp _), (128, eqp _), (129, eqp _), (130, eqp _), (131, eqp _), (132, eqp _), (133, eqp _), (134, eqp _), (135, eqp _), (136, eqp _), (137, eqp _), (138, eqp _), (139, eqp _), (140, eqp _), (141, eqp _), (142, eqp _), (143, eqp _), (144, eqp _), (145, eqp _), (146, eqp _), (147, eqp _)] (by kernel_rfl) (by kernel_rfl) ⟨eqp_mono _, eqp_mono _, eqp_mono _, eqp_mono _, eqp_mono _, eqp_mono _, eqp_mono _, eqp_mono _, eqp_mono _, eqp_mono _, eqp_mono _, eqp_mono _, eqp_mono _, eqp_mono _, eqp_mono _, eqp_mono _, eqp_mono _, eqp_mono _, eqp_mono _, eqp_mono _, eqp_mono _, eqp_mono _, eqp_mono _, eqp_mono _, eqp_mono _, eqp_mono _, eqp_mono _, eqp_mono _, eqp_mono _, trivial⟩
                                               case hop =>
                                                refine ⟨?_, ?_⟩
                                                · intro w69 D69
                                                  show OpOK _ _ _ _ _ _ _
                                                  exact ok_pure (ro_move (v := .int _ _) rfl) rfl
                                                refine ⟨?_, ?_⟩
                                                · intro w70 D70
                                                  show OpOK _ _ _ _ _ _ _
                                                  exact ok_pure (ro_move (v := .int _ _) rfl) rfl
                                                refine ⟨?_, ?_⟩
                                                · intro w71 D71
                                                  rintro _ rfl _ rfl
                                                  show OpOK _ _ _ _ _ _ _
                                                  exact ok_pure (ro_addN rfl rfl (by omega)) rfl
                                                refine ⟨?_, ?_⟩
                                                · intro w72 D72
                                                  show OpOK _ _ _ _ _ _ _
                                                  exact ok_pure (ro_move (v := .slice _ _ _) rfl) rfl
                                                refine ⟨?_, ?_⟩
                                                · intro w73 D73
                                                  rintro _ rfl
                                                  show OpOK _ _ _ _ _ _ _
                                                  exact ok_pure (ro_len SufLawR_l24 rfl) rfl
                                                refine ⟨?_, ?_⟩
                                                · intro w74 D74
                                                  rintro _ rfl _ rfl
                                                  show OpOK _ _ _ _ _ _ _
                                                  exact ok_pure (ro_bt (ro_lss rfl rfl) (decide_eq_true (by omega))) rfl
                                                refine ⟨?_, ?_⟩
                                                · intro w75 D75
                                                  rintro _ rfl
                                                  show OpOK _ _ _ _ _ _ _
                                                  exact ok_pure (ro_move (v := .bool _) rfl) rfl
                                                refine ⟨?_, ?_⟩
                                                · intro w76 D76
                                                  rintro _ rfl
                                                  show OpOK _ _ _ _ _ _ _
                                                  exact ok_gpure rfl (ro_move (v := .int _ _) rfl) rfl
                                                refine ⟨?_, ?_⟩
                                                · intro w77 D77
                                                  rintro _ rfl
                                                  show OpOK _ _ _ _ _ _ _
                                                  exact ok_gpure rfl (ro_move (v := .int _ _) rfl) rfl
                                                refine ⟨?_, ?_⟩
                                                · intro w78 D78
                                                  rintro _ rfl _ rfl _ rfl
                                                  show OpOK _ _ _ _ _ _ _
                                                  exact ok_gpure rfl (ro_addN rfl rfl (by omega)) rfl
                                                refine ⟨?_, ?_⟩
                                                · intro w79 D79
                                                  rintro _ rfl
                                                  show OpOK _ _ _ _ _ _ _
                                                  exact ok_gpure rfl (ro_move (v := .slice _ _ _) rfl) rfl
                                                refine ⟨?_, ?_⟩
                                                · intro w80 D80
                                                  rintro _ rfl _ rfl
                                                  show OpOK _ _ _ _ _ _ _
                                                  exact ok_gpure rfl (ro_len SufLawR_l24 rfl) rfl
                                                refine ⟨?_, ?_⟩
                                                · intro w81 D81
                                                  rintro _ rfl _ rfl _ rfl
                                                  show OpOK _ _ _ _ _ _ _
                                                  exact ok_gpure rfl (ro_bf (ro_lss rfl rfl) (decide_eq_false (by omega))) rfl
                                                refine ⟨?_, ?_⟩
                                                · intro w82 D82
                                                  rintro _ rfl _ rfl
                                                  show OpOK _ _ _ _ _ _ _
                                                  exact ok_pure (ro_pickT (v := .bool _) rfl rfl) rfl
                                                refine ⟨?_, ?_⟩
                                                · intro w83 D83
                                                  rintro _ rfl
                                                  show OpOK _ _ _ _ _ _ _
                                                  exact ok_pure (ro_move (v := .bool _) rfl) rfl
                                                refine ⟨?_, ?_⟩
                                                · intro w84 D84
                                                  rintro _ rfl
                                                  show OpOK _ _ _ _ _ _ _
                                                  exact ok_gno rfl rfl rfl
                                                refine ⟨?_, ?_⟩
                                                · intro w85 D85
                                                  rintro _ rfl
                                                  show OpOK _ _ _ _ _ _ _
                                                  exact ok_gno rfl rfl rfl
                                                refine ⟨?_, ?_⟩
                                                · intro w86 D86
                                                  rintro _ rfl
                                                  show OpOK _ _ _ _ _ _ _
                                                  exact ok_gno rfl rfl rfl
                                                refine ⟨?_, ?_⟩
                                                · intro w87 D87
                                                  rintro _ rfl _ rfl _ rfl
                                                  show OpOK _ _ _ _ _ _ _
                                                  exact ok_gno rfl rfl rfl
                                                refine ⟨?_, ?_⟩
                                                · intro w88 D88
                                                  rintro _ rfl _ rfl _ rfl
                                                  show OpOK _ _ _ _ _ _ _
                                                  exact ok_gno rfl rfl rfl
                                                refine ⟨?_, ?_⟩
                                                · intro w89 D89
                                                  rintro _ rfl _ rfl
                                                  show OpOK _ _ _ _ _ _ _
                                                  exact ok_gno rfl rfl rfl
                                                refine ⟨?_, ?_⟩
                                                · intro w90 D90
                                                  rintro _ rfl
                                                  show OpOK _ _ _ _ _ _ _
                                                  exact ok_gno rfl rfl rfl
                                                refine ⟨?_, ?_⟩
                                                · intro w91 D91
                                                  rintro _ rfl
                                                  show OpOK _ _ _ _ _ _ _
                                                  exact ok_gno rfl rfl rfl
                                                refine ⟨?_, ?_⟩
                                                · intro w92 D92
                                                  rintro _ rfl
                                                  show OpOK _ _ _ _ _ _ _
                                                  exact ok_gno rfl rfl rfl
                                                refine ⟨?_, ?_⟩
                                                · intro w93 D93
                                                  rintro _ rfl _ rfl _ rfl
                                                  show OpOK _ _ _ _ _ _ _
                                                  exact ok_gno rfl rfl rfl
                                                refine ⟨?_, ?_⟩
                                                · intro w94 D94
                                                  rintro _ rfl _ rfl _ rfl
                                                  show OpOK _ _ _ _ _ _ _
                                                  exact ok_gno rfl rfl rfl
                                                refine ⟨?_, ?_⟩
                                                · intro w95 D95
                                                  rintro _ rfl _ rfl
                                                  show OpOK _ _ _ _ _ _ _
                                                  exact ok_gno rfl rfl rfl
                                                refine ⟨?_, ?_⟩
                                                · intro w96 D96
                                                  rintro _ rfl _ rfl _ rfl
                                                  show OpOK _ _ _ _ _ _ _
                                                  exact ok_gno rfl rfl rfl
                                                refine ⟨?_, ?_⟩
                                                · intro w97 D97
                                                  rintro _ rfl _ rfl
                                                  show OpOK _ _ _ _ _ _ _
                                                  exact ok_pure (ro_pickF (v := .bool _) rfl rfl) rfl
                                                exact trivial
                                               case hend =>
                                                intro w98 D98
                                                rintro _ rfl _ rfl _ rfl _ rfl _ rfl _ rfl _ rfl _ rfl _ rfl _ rfl _ rfl _ rfl _ rfl _ rfl _ rfl _ rfl _ rfl _ rfl _ rfl _ rfl _ rfl _ rfl _ rfl _ rfl _ rfl _ rfl _ rfl _ rfl _ rfl
                                                show St _ _ _ _ _ _ _
                                                refine st_nil ?_
                                                refine nx_then ?_
                                                refine cd_condF rfl ?_
                                                refine cd_exit ?_
                                                refine ex_then ?_
                                                refine ex_then ?_
                                                refine ex_block ?_
                                                refine nx_cut (h) ⟨(by first | rfl | (refine int_eq ?_; omega)), trivial⟩ (by (iterate 61 refine agr_cons rfl ?_); exact agr_rfl) ?_
                                                exact ⟨hag, hst, P18b.from_ (From.rfl_.next D98), hrF2.from_ (From.rfl_.next D98), hrC2.from_ (From.rfl_.next D98), cellF (From.rfl_.next D98) hcc, (hB.next D98)⟩
                                             · apply cd_drawn 29 [(119, eqp _), (120, eqp _), (121, eqp _), (122, eqp _), (123, eqp _), (124, eqp _), (125, eqp _), (126, eqp _), (127, eqp _), (128, eqp _), (129, eqp _), (130, eqp _), (131, eqp _), (132, eqp _), (133, eqp _), (134, eqp _), (135, eqp _), (136, eqp _), (137, eqp _), (138, eqp _), (139, eqp _), (140, eqp _), (141, eqp _), (142, eqp _), (143, eqp _), (144, eqp _), (145, eqp _), (146, eqp _), (147, eqp _)] (by kernel_rfl) (by kernel_rfl) ⟨eqp_mono _, eqp_mono _, eqp_mono _, eqp_mono _, eqp_mono _, eqp_mono _, eqp_mono _, eqp_mono _, eqp_mono _, eqp_mono _, eqp_mono _, eqp_mono _, eqp_mono _, eqp_mono _, eqp_mono _, eqp_mono _, eqp_mono _, eqp_mono _, eqp_mono _, eqp_mono _, eqp_mono _, eqp_mono _, eqp_mono _, eqp_mono _, eqp_mono _, eqp_mono _, eqp_mono _, eqp_mono _, eqp_mono _, trivial⟩
                                               case hop =>
                                                refine ⟨?_, ?_⟩
                                                · intro w100 D100
                                                  show OpOK _ _ _ _ _ _ _
                                                  exact ok_pure (ro_move (v := .int _ _) rfl) rfl
                                                refine ⟨?_, ?_⟩
                                                · intro w101 D101
                                                  show OpOK _ _ _ _ _ _ _
                                                  exact ok_pure (ro_move (v := .int _ _) rfl) rfl
                                                refine ⟨?_, ?_⟩
                                                · intro w102 D102
                                                  rintro _ rfl _ rfl
                                                  show OpOK _ _ _ _ _ _ _
                                                  exact ok_pure (ro_addN rfl rfl (by omega)) rfl
                                                refine ⟨?_, ?_⟩
                                                · intro w103 D103
                                                  show OpOK _ _ _ _ _ _ _
                                                  exact ok_pure (ro_move (v := .slice _ _ _) rfl) rfl
                                                refine ⟨?_, ?_⟩
                                                · intro w104 D104
                                                  rintro _ rfl
                                                  show OpOK _ _ _ _ _ _ _
                                                  exact ok_pure (ro_len SufLawR_l24 rfl) rfl
                                                refine ⟨?_, ?_⟩
                                                · intro w105 D105
                                                  rintro _ rfl _ rfl
                                                  show OpOK _ _ _ _ _ _ _
                                                  exact ok_pure (ro_bt (ro_lss rfl rfl) (decide_eq_true (by omega))) rfl
                                                refine ⟨?_, ?_⟩
                                                · intro w106 D106
                                                  rintro _ rfl
                                                  show OpOK _ _ _ _ _ _ _
                                                  exact ok_pure (ro_move (v := .bool _) rfl) rfl
                                                refine ⟨?_, ?_⟩
                                                · intro w107 D107
                                                  rintro _ rfl
                                                  show OpOK _ _ _ _ _ _ _
                                                  exact ok_gpure rfl (ro_move (v := .int _ _) rfl) rfl
                                                refine ⟨?_, ?_⟩
                                                · intro w108 D108
                                                  rintro _ rfl
                                                  show OpOK _ _ _ _ _ _ _
                                                  exact ok_gpure rfl (ro_move (v := .int _ _) rfl) rfl
                                                refine ⟨?_, ?_⟩
                                                · intro w109 D109
                                                  rintro _ rfl _ rfl _ rfl
                                                  show OpOK _ _ _ _ _ _ _
                                                  exact ok_gpure rfl (ro_addN rfl rfl (by omega)) rfl
                                                refine ⟨?_, ?_⟩
                                                · intro w110 D110
                                                  rintro _ rfl
                                                  show OpOK _ _ _ _ _ _ _
                                                  exact ok_gpure rfl (ro_move (v := .slice _ _ _) rfl) rfl
                                                refine ⟨?_, ?_⟩
                                                · intro w111 D111
                                                  rintro _ rfl _ rfl
                                                  show OpOK _ _ _ _ _ _ _
                                                  exact ok_gpure rfl (ro_len SufLawR_l24 rfl) rfl
                                                refine ⟨?_, ?_⟩
                                                · intro w112 D112
                                                  rintro _ rfl _ rfl _ rfl
                                                  show OpOK _ _ _ _ _ _ _
                                                  exact ok_gpure rfl (ro_bt (ro_lss rfl rfl) (decide_eq_true (by omega))) rfl
                                                refine ⟨?_, ?_⟩
                                                · intro w113 D113
                                                  rintro _ rfl _ rfl
                                                  show OpOK _ _ _ _ _ _ _
                                                  exact ok_pure (ro_pickT (v := .bool _) rfl rfl) rfl
                                                refine ⟨?_, ?_⟩
                                                · intro w114 D114
                                                  rintro _ rfl
                                                  show OpOK _ _ _ _ _ _ _
                                                  exact ok_pure (ro_move (v := .bool _) rfl) rfl
                                                refine ⟨?_, ?_⟩
                                                · intro w115 D115
                                                  rintro _ rfl
                                                  show OpOK _ _ _ _ _ _ _
                                                  exact ok_gpure rfl (ro_move (v := .slice _ _ _) rfl) rfl
                                                refine ⟨?_, ?_⟩
                                                · intro w116 D116
                                                  rintro _ rfl
                                                  show OpOK _ _ _ _ _ _ _
                                                  exact ok_gpure rfl (ro_move (v := .int _ _) rfl) rfl
                                                refine ⟨?_, ?_⟩
                                                · intro w117 D117
                                                  rintro _ rfl
                                                  show OpOK _ _ _ _ _ _ _
                                                  exact ok_gpure rfl (ro_move (v := .int _ _) rfl) rfl
                                                refine ⟨?_, ?_⟩
                                                · intro w118 D118
                                                  rintro _ rfl _ rfl _ rfl
                                                  show OpOK _ _ _ _ _ _ _
                                                  exact ok_gpure rfl (ro_addN rfl rfl (by omega)) rfl
                                                refine ⟨?_, ?_⟩
                                                · intro w119 D119
                                                  rintro _ rfl _ rfl _ rfl
                                                  show OpOK _ _ _ _ _ _ _
                                                  exact ok_gpure rfl (ro_indexAddr1 SufLawR_e24 rfl rfl (by omega)) rfl
                                                refine ⟨?_, ?_⟩
                                                · intro w120 D120
                                                  rintro _ rfl _ rfl
                                                  show OpOK _ _ _ _ _ _ _
                                                  exact ok_gpure rfl (ro_load SufLawR_g3 rfl (by exact cellF (hB.next D120) (hcL _ (by omega)))) rfl
                                                refine ⟨?_, ?_⟩
                                                · intro w121 D121
                                                  rintro _ rfl
                                                  show OpOK _ _ _ _ _ _ _
                                                  exact ok_gpure rfl (ro_move (v := .slice _ _ _) rfl) rfl
                                                refine ⟨?_, ?_⟩
                                                · intro w122 D122
                                                  rintro _ rfl
                                                  show OpOK _ _ _ _ _ _ _
                                                  exact ok_gpure rfl (ro_move (v := .int _ _) rfl) rfl
                                                refine ⟨?_, ?_⟩
                                                · intro w123 D123
                                                  rintro _ rfl
                                                  show OpOK _ _ _ _ _ _ _
                                                  exact ok_gpure rfl (ro_move (v := .int _ _) rfl) rfl
                                                refine ⟨?_, ?_⟩
                                                · intro w124 D124
                                                  rintro _ rfl _ rfl _ rfl
                                                  show OpOK _ _ _ _ _ _ _
                                                  exact ok_gpure rfl (ro_addN rfl rfl (by omega)) rfl
                                                refine ⟨?_, ?_⟩
                                                · intro w125 D125
                                                  rintro _ rfl _ rfl _ rfl
                                                  show OpOK _ _ _ _ _ _ _
                                                  exact ok_gpure rfl (ro_indexAddr1 SufLawR_e24 rfl rfl (by omega)) rfl
                                                refine ⟨?_, ?_⟩
                                                · intro w126 D126
                                                  rintro _ rfl _ rfl
                                                  show OpOK _ _ _ _ _ _ _
                                                  exact ok_gpure rfl (ro_load SufLawR_g3 rfl (by exact cellF (hB.next D126) (hcL _ (by omega)))) rfl
                                                refine ⟨?_, ?_⟩
                                                · intro w127 D127
                                                  rintro _ rfl _ rfl _ rfl
                                                  show OpOK _ _ _ _ _ _ _
                                                  exact ok_gpure rfl (ro_bt (ro_eql rfl rfl) (by rw [e3]; exact beq_self_eq_true _)) rfl
                                                refine ⟨?_, ?_⟩
                                                · intro w128 D128
                                                  rintro _ rfl _ rfl
                                                  show OpOK _ _ _ _ _ _ _
                                                  exact ok_pure (ro_pickT (v := .bool _) rfl rfl) rfl
                                                exact trivial
                                               case hend =>
                                                intro w129 D129
                                                rintro _ rfl _ rfl _ rfl _ rfl _ rfl _ rfl _ rfl _ rfl _ rfl _ rfl _ rfl _ rfl _ rfl _ rfl _ rfl _ rfl _ rfl _ rfl _ rfl _ rfl _ rfl _ rfl _ rfl _ rfl _ rfl _ rfl _ rfl _ rfl _ rfl
                                                show St _ _ _ _ _ _ _
                                                refine st_nil ?_
                                                refine nx_then ?_
                                                refine cd_condT rfl ?_
                                                refine cd_skip ?_
                                                refine nx_then ?_
                                                refine cd_block ?_
                                                refine cd_region ?_
                                                refine st_val (ro_move (v := .int _ _) rfl) ?_
                                                refine st_val (ro_add64 rfl rfl (by omega)) ?_
                                                refine st_val (ro_assign (v := .int _ _) rfl) ?_
                                                refine st_nil ?_
                                                refine nx_block ?_
                                                refine nx_cut (h + 1) ⟨(by first | rfl | (refine int_eq ?_; omega)), trivial⟩ (by (iterate 64 refine agr_cons rfl ?_); exact agr_rfl) ⟨?_, ?_⟩
                                                · exact ⟨agr_succ hag (by omega) (by omega) e3, P18b.from_ (From.rfl_.next D129), hrF2.from_ (From.rfl_.next D129), hrC2.from_ (From.rfl_.next D129), cellF (From.rfl_.next D129) hcc, (hB.next D129)⟩
                                                · show L.length - (h + 1) < L.length - h; have := hag.1; omega
                                             · have hst : stop Ln (F.getD q 0) (F.getD (q - 1) 0) h := fun x => by have := x.1; have := x.2.1; have := x.2.2; omega
                                               apply cd_drawn 29 [(119, eqp _), (120, eqp _), (121, eqp _), (122, eqp _), (123, eqp _), (124, eqp _), (125, eqp _), (126, eqp _), (127, eqp _), (128, eqp _), (129, eqp _), (130, eqp _), (131, eqp _), (132, eqp _), (133, eqp _), (134, eqp _), (135, eqp _), (136, eqp _), (137, eqp _), (138, eqp _), (139, eqp _), (140, eqp _), (141, eqp _), (142, eqp _), (143, eqp _), (144, eqp _), (145, eqp _), (146, eqp _), (147, eqp _)] (by kernel_rfl) (by kernel_rfl) ⟨eqp_mono _, eqp_mono _, eqp_mono _, eqp_mono _, eqp_mono _, eqp_mono _, eqp_mono _, eqp_mono _, eqp_mono _, eqp_mono _, eqp_mono _, eqp_mono _, eqp_mono _, eqp_mono _, eqp_mono _, eqp_mono _, eqp_mono _, eqp_mono _, eqp_mono _, eqp_mono _, eqp_mono _, eqp_mono _, eqp_mono _, eqp_mono _, eqp_mono _, eqp_mono _, eqp_mono _, eqp_mono _, eqp_mono _, trivial⟩
                                               case hop =>
                                                refine ⟨?_, ?_⟩
                                                · intro w131 D131
                                                  show OpOK _ _ _ _ _ _ _
                                                  exact ok_pure (ro_move (v := .int _ _) rfl) rfl
                                                refine ⟨?_, ?_⟩
                                                · intro w132 D132
                                                  show OpOK _ _ _ _ _ _ _
                                                  exact ok_pure (ro_move (v := .int _ _) rfl) rfl
                                                refine ⟨?_, ?_⟩
                                                · intro w133 D133
                                                  rintro _ rfl _ rfl
                                                  show OpOK _ _ _ _ _ _ _
                                                  exact ok_pure (ro_addN rfl rfl (by omega)) rfl
                                                refine ⟨?_, ?_⟩
                                                · intro w134 D134
                                                  show OpOK _ _ _ _ _ _ _
                                                  exact ok_pure (ro_move (v := .slice _ _ _) rfl) rfl
                                                refine ⟨?_, ?_⟩
                                                · intro w135 D135
                                                  rintro _ rfl
                                                  show OpOK _ _ _ _ _ _ _
                                                  exact ok_pure (ro_len SufLawR_l24 rfl) rfl
                                                refine ⟨?_, ?_⟩
                                                · intro w136 D136
                                                  rintro _ rfl _ rfl
                                                  show OpOK _ _ _ _ _ _ _
                                                  exact ok_pure (ro_bt (ro_lss rfl rfl) (decide_eq_true (by omega))) rfl
                                                refine ⟨?_, ?_⟩
                                                · intro w137 D137
                                                  rintro _ rfl
                                                  show OpOK _ _ _ _ _ _ _
                                                  exact ok_pure (ro_move (v := .bool _) rfl) rfl
                                                refine ⟨?_, ?_⟩
                                                · intro w138 D138
                                                  rintro _ rfl
                                                  show OpOK _ _ _ _ _ _ _
                                                  exact ok_gpure rfl (ro_move (v := .int _ _) rfl) rfl
                                                refine ⟨?_, ?_⟩
                                                · intro w139 D139
                                                  rintro _ rfl
                                                  show OpOK _ _ _ _ _ _ _
                                                  exact ok_gpure rfl (ro_move (v := .int _ _) rfl) rfl
                                                refine ⟨?_, ?_⟩
                                                · intro w140 D140
                                                  rintro _ rfl _ rfl _ rfl
                                                  show OpOK _ _ _ _ _ _ _
                                                  exact ok_gpure rfl (ro_addN rfl rfl (by omega)) rfl
                                                refine ⟨?_, ?_⟩
                                                · intro w141 D141
                                                  rintro _ rfl
                                                  show OpOK _ _ _ _ _ _ _
                                                  exact ok_gpure rfl (ro_move (v := .slice _ _ _) rfl) rfl
                                                refine ⟨?_, ?_⟩
                                                · intro w142 D142
                                                  rintro _ rfl _ rfl
                                                  show OpOK _ _ _ _ _ _ _
                                                  exact ok_gpure rfl (ro_len SufLawR_l24 rfl) rfl
                                                refine ⟨?_, ?_⟩
                                                · intro w143 D143
                                                  rintro _ rfl _ rfl _ rfl
                                                  show OpOK _ _ _ _ _ _ _
                                                  exact ok_gpure rfl (ro_bt (ro_lss rfl rfl) (decide_eq_true (by omega))) rfl
                                                refine ⟨?_, ?_⟩
                                                · intro w144 D144
                                                  rintro _ rfl _ rfl
                                                  show OpOK _ _ _ _ _ _ _
                                                  exact ok_pure (ro_pickT (v := .bool _) rfl rfl) rfl
                                                refine ⟨?_, ?_⟩
                                                · intro w145 D145
                                                  rintro _ rfl
                                                  show OpOK _ _ _ _ _ _ _
                                                  exact ok_pure (ro_move (v := .bool _) rfl) rfl
                                                refine ⟨?_, ?_⟩
                                                · intro w146 D146
                                                  rintro _ rfl
                                                  show OpOK _ _ _ _ _ _ _
                                                  exact ok_gpure rfl (ro_move (v := .slice _ _ _) rfl) rfl
                                                refine ⟨?_, ?_⟩
                                                · intro w147 D147
                                                  rintro _ rfl
                                                  show OpOK _ _ _ _ _ _ _
                                                  exact ok_gpure rfl (ro_move (v := .int _ _) rfl) rfl
                                                refine ⟨?_, ?_⟩
                                                · intro w148 D148
                                                  rintro _ rfl
                                                  show OpOK _ _ _ _ _ _ _
                                                  exact ok_gpure rfl (ro_move (v := .int _ _) rfl) rfl
                                                refine ⟨?_, ?_⟩
                                                · intro w149 D149
                                                  rintro _ rfl _ rfl _ rfl
                                                  show OpOK _ _ _ _ _ _ _
                                                  exact ok_gpure rfl (ro_addN rfl rfl (by omega)) rfl
                                                refine ⟨?_, ?_⟩
                                                · intro w150 D150
                                                  rintro _ rfl _ rfl _ rfl
                                                  show OpOK _ _ _ _ _ _ _
                                                  exact ok_gpure rfl (ro_indexAddr1 SufLawR_e24 rfl rfl (by omega)) rfl
                                                refine ⟨?_, ?_⟩
                                                · intro w151 D151
                                                  rintro _ rfl _ rfl
                                                  show OpOK _ _ _ _ _ _ _
                                                  exact ok_gpure rfl (ro_load SufLawR_g3 rfl (by exact cellF (hB.next D151) (hcL _ (by omega)))) rfl
                                                refine ⟨?_, ?_⟩
                                                · intro w152 D152
                                                  rintro _ rfl
                                                  show OpOK _ _ _ _ _ _ _
                                                  exact ok_gpure rfl (ro_move (v := .slice _ _ _) rfl) rfl
                                                refine ⟨?_, ?_⟩
                                                · intro w153 D153
                                                  rintro _ rfl
                                                  show OpOK _ _ _ _ _ _ _
                                                  exact ok_gpure rfl (ro_move (v := .int _ _) rfl) rfl
                                                refine ⟨?_, ?_⟩
                                                · intro w154 D154
                                                  rintro _ rfl
                                                  show OpOK _ _ _ _ _ _ _
                                                  exact ok_gpure rfl (ro_move (v := .int _ _) rfl) rfl
                                                refine ⟨?_, ?_⟩
                                                · intro w155 D155
                                                  rintro _ rfl _ rfl _ rfl
                                                  show OpOK _ _ _ _ _ _ _
                                                  exact ok_gpure rfl (ro_addN rfl rfl (by omega)) rfl
                                                refine ⟨?_, ?_⟩
                                                · intro w156 D156
                                                  rintro _ rfl _ rfl _ rfl
                                                  show OpOK _ _ _ _ _ _ _
                                                  exact ok_gpure rfl (ro_indexAddr1 SufLawR_e24 rfl rfl (by omega)) rfl
                                                refine ⟨?_, ?_⟩
                                                · intro w157 D157
                                                  rintro _ rfl _ rfl
                                                  show OpOK _ _ _ _ _ _ _
                                                  exact ok_gpure rfl (ro_load SufLawR_g3 rfl (by exact cellF (hB.next D157) (hcL _ (by omega)))) rfl
                                                refine ⟨?_, ?_⟩
                                                · intro w158 D158
                                                  rintro _ rfl _ rfl _ rfl
                                                  show OpOK _ _ _ _ _ _ _
                                                  exact ok_gpure rfl (ro_bf (ro_eql rfl rfl) (beq_false_of_ne (by omega))) rfl
                                                refine ⟨?_, ?_⟩
                                                · intro w159 D159
                                                  rintro _ rfl _ rfl
                                                  show OpOK _ _ _ _ _ _ _
                                                  exact ok_pure (ro_pickT (v := .bool _) rfl rfl) rfl
                                                exact trivial
                                               case hend =>
                                                intro w160 D160
                                                rintro _ rfl _ rfl _ rfl _ rfl _ rfl _ rfl _ rfl _ rfl _ rfl _ rfl _ rfl _ rfl _ rfl _ rfl _ rfl _ rfl _ rfl _ rfl _ rfl _ rfl _ rfl _ rfl _ rfl _ rfl _ rfl _ rfl _ rfl _ rfl _ rfl
                                                show St _ _ _ _ _ _ _
                                                refine st_nil ?_
                                                refine nx_then ?_
                                                refine cd_condF rfl ?_
                                                refine cd_exit ?_
                                                refine ex_then ?_
                                                refine ex_then ?_
                                                refine ex_block ?_
                                                refine nx_cut (h) ⟨(by first | rfl | (refine int_eq ?_; omega)), trivial⟩ (by (iterate 61 refine agr_cons rfl ?_); exact agr_rfl) ?_
                                                exact ⟨hag, hst, P18b.from_ (From.rfl_.next D160), hrF2.from_ (From.rfl_.next D160), hrC2.from_ (From.rfl_.next D160), cellF (From.rfl_.next D160) hcc, (hB.next D160)⟩
                                           rintro h ρ161 w161 ⟨hag, hst, P18b, hrF2, hrC2, hcc, hB⟩
                                           refine cd_seq ?_
                                           have hcv := lcp_uniq hca hcst hag hst
                                           obtain ⟨hr1, hr2⟩ := rises hSA (by omega) (by omega) hag hst
                                           rcases (show L.length ≤ F.getD (q - 1) 0 + h ∨ F.getD (q - 1) 0 + h < L.length by omega) with e1 | e1
                                           · apply cd_drawn 37 [(150, eqp _), (151, eqp _), (152, eqp _), (153, eqp _), (154, eqp _), (155, eqp _), (156, eqp _), (157, eqp _), (158, eqp _), (159, eqp _), (160, eqp _), (161, eqp _), (162, eqp _), (163, eqp _), (164, eqp _), (165, eqp _), (166, eqp _), (167, eqp _), (168, eqp _), (169, eqp _), (170, eqp _), (171, eqp _), (172, eqp _), (173, eqp _), (174, eqp _), (175, eqp _), (176, eqp _), (177, eqp _), (178, eqp _), (179, eqp _), (180, eqp _), (181, eqp _), (182, eqp _), (183, eqp _), (184, eqp _), (185, eqp _), (186, eqp _)] (by kernel_rfl) (by kernel_rfl) ⟨eqp_mono _, eqp_mono _, eqp_mono _, eqp_mono _, eqp_mono _, eqp_mono _, eqp_mono _, eqp_mono _, eqp_mono _, eqp_mono _, eqp_mono _, eqp_mono _, eqp_mono _, eqp_mono _, eqp_mono _, eqp_mono _, eqp_mono _, eqp_mono _, eqp_mono _, eqp_mono _, eqp_mono _, eqp_mono _, eqp_mono _, eqp_mono _, eqp_mono _, eqp_mono _, eqp_mono _, eqp_mono _, eqp_mono _, eqp_mono _, eqp_mono _, eqp_mono _, eqp_mono _, eqp_mono _, eqp_mono _, eqp_mono _, eqp_mono _, trivial⟩
                                             case hop =>
                                              refine ⟨?_, ?_⟩
                                              · intro w163 D163
                                                show OpOK _ _ _ _ _ _ _
                                                exact ok_pure (ro_move (v := .slice _ _ _) rfl) rfl
                                              refine ⟨?_, ?_⟩
                                              · intro w164 D164
                                                show OpOK _ _ _ _ _ _ _
                                                exact ok_pure (ro_move (v := .int _ _) rfl) rfl
                                              refine ⟨?_, ?_⟩
                                              · intro w165 D165
                                                rintro _ rfl _ rfl
                                                show OpOK _ _ _ _ _ _ _
                                                exact ok_pure (ro_indexAddr1 SufLawR_e24 rfl rfl (by omega)) rfl
                                              refine ⟨?_, ?_⟩
                                              · intro w166 D166
                                                rintro _ rfl
                                                show OpOK _ _ _ _ _ _ _
                                                exact ok_pure (ro_load SufLawR_g3 rfl (by exact cellF (From.rfl_.next D166) hcc)) rfl
                                              refine ⟨?_, ?_⟩
                                              · intro w167 D167
                                                show OpOK _ _ _ _ _ _ _
                                                exact ok_pure (ro_move (v := .int _ _) rfl) rfl
                                              refine ⟨?_, ?_⟩
                                              · intro w168 D168
                                                rintro _ rfl _ rfl
                                                show OpOK _ _ _ _ _ _ _
                                                exact ok_pure (ro_bf (ro_neq rfl rfl) (by rw [hcv]; simp)) rfl
                                              refine ⟨?_, ?_⟩
                                              · intro w169 D169
                                                rintro _ rfl
                                                show OpOK _ _ _ _ _ _ _
                                                exact ok_pure (ro_move (v := .bool _) rfl) rfl
                                              refine ⟨?_, ?_⟩
                                              · intro w170 D170
                                                rintro _ rfl
                                                show OpOK _ _ _ _ _ _ _
                                                exact ok_gpure rfl (ro_move (v := .int _ _) rfl) rfl
                                              refine ⟨?_, ?_⟩
                                              · intro w171 D171
                                                rintro _ rfl
                                                show OpOK _ _ _ _ _ _ _
                                                exact ok_gpure rfl (ro_move (v := .int _ _) rfl) rfl
                                              refine ⟨?_, ?_⟩
                                              · intro w172 D172
                                                rintro _ rfl _ rfl _ rfl
                                                show OpOK _ _ _ _ _ _ _
                                                exact ok_gpure rfl (ro_addN rfl rfl (by omega)) rfl
                                              refine ⟨?_, ?_⟩
                                              · intro w173 D173
                                                rintro _ rfl
                                                show OpOK _ _ _ _ _ _ _
                                                exact ok_gpure rfl (ro_move (v := .slice _ _ _) rfl) rfl
                                              refine ⟨?_, ?_⟩
                                              · intro w174 D174
                                                rintro _ rfl _ rfl
                                                show OpOK _ _ _ _ _ _ _
                                                exact ok_gpure rfl (ro_len SufLawR_l24 rfl) rfl
                                              refine ⟨?_, ?_⟩
                                              · intro w175 D175
                                                rintro _ rfl _ rfl _ rfl
                                                show OpOK _ _ _ _ _ _ _
                                                exact ok_gpure rfl (ro_bf (ro_geq rfl rfl) (decide_eq_false (by omega))) rfl
                                              refine ⟨?_, ?_⟩
                                              · intro w176 D176
                                                rintro _ rfl _ rfl
                                                show OpOK _ _ _ _ _ _ _
                                                exact ok_pure (ro_pickF (v := .bool _) rfl rfl) rfl
                                              refine ⟨?_, ?_⟩
                                              · intro w177 D177
                                                rintro _ rfl
                                                show OpOK _ _ _ _ _ _ _
                                                exact ok_pure (ro_move (v := .bool _) rfl) rfl
                                              refine ⟨?_, ?_⟩
                                              · intro w178 D178
                                                rintro _ rfl
                                                show OpOK _ _ _ _ _ _ _
                                                exact ok_gpure rfl (ro_move (v := .int _ _) rfl) rfl
                                              refine ⟨?_, ?_⟩
                                              · intro w179 D179
                                                rintro _ rfl
                                                show OpOK _ _ _ _ _ _ _
                                                exact ok_gpure rfl (ro_move (v := .int _ _) rfl) rfl
                                              refine ⟨?_, ?_⟩
                                              · intro w180 D180
                                                rintro _ rfl _ rfl _ rfl
                                                show OpOK _ _ _ _ _ _ _
                                                exact ok_gpure rfl (ro_addN rfl rfl (by omega)) rfl
                                              refine ⟨?_, ?_⟩
                                              · intro w181 D181
                                                rintro _ rfl
                                                show OpOK _ _ _ _ _ _ _
                                                exact ok_gpure rfl (ro_move (v := .slice _ _ _) rfl) rfl
                                              refine ⟨?_, ?_⟩
                                              · intro w182 D182
                                                rintro _ rfl _ rfl
                                                show OpOK _ _ _ _ _ _ _
                                                exact ok_gpure rfl (ro_len SufLawR_l24 rfl) rfl
                                              refine ⟨?_, ?_⟩
                                              · intro w183 D183
                                                rintro _ rfl _ rfl _ rfl
                                                show OpOK _ _ _ _ _ _ _
                                                exact ok_gpure rfl (ro_bf (ro_lss rfl rfl) (decide_eq_false (by omega))) rfl
                                              refine ⟨?_, ?_⟩
                                              · intro w184 D184
                                                rintro _ rfl _ rfl
                                                show OpOK _ _ _ _ _ _ _
                                                exact ok_gpure rfl (ro_move (v := .bool _) rfl) rfl
                                              refine ⟨?_, ?_⟩
                                              · intro w185 D185
                                                rintro _ rfl
                                                show OpOK _ _ _ _ _ _ _
                                                exact ok_gno rfl rfl rfl
                                              refine ⟨?_, ?_⟩
                                              · intro w186 D186
                                                rintro _ rfl
                                                show OpOK _ _ _ _ _ _ _
                                                exact ok_gno rfl rfl rfl
                                              refine ⟨?_, ?_⟩
                                              · intro w187 D187
                                                rintro _ rfl
                                                show OpOK _ _ _ _ _ _ _
                                                exact ok_gno rfl rfl rfl
                                              refine ⟨?_, ?_⟩
                                              · intro w188 D188
                                                rintro _ rfl _ rfl _ rfl
                                                show OpOK _ _ _ _ _ _ _
                                                exact ok_gno rfl rfl rfl
                                              refine ⟨?_, ?_⟩
                                              · intro w189 D189
                                                rintro _ rfl _ rfl _ rfl
                                                show OpOK _ _ _ _ _ _ _
                                                exact ok_gno rfl rfl rfl
                                              refine ⟨?_, ?_⟩
                                              · intro w190 D190
                                                rintro _ rfl _ rfl
                                                show OpOK _ _ _ _ _ _ _
                                                exact ok_gno rfl rfl rfl
                                              refine ⟨?_, ?_⟩
                                              · intro w191 D191
                                                rintro _ rfl
                                                show OpOK _ _ _ _ _ _ _
                                                exact ok_gno rfl rfl rfl
                                              refine ⟨?_, ?_⟩
                                              · intro w192 D192
                                                rintro _ rfl
                                                show OpOK _ _ _ _ _ _ _
                                                exact ok_gno rfl rfl rfl
                                              refine ⟨?_, ?_⟩
                                              · intro w193 D193
                                                rintro _ rfl
                                                show OpOK _ _ _ _ _ _ _
                                                exact ok_gno rfl rfl rfl
                                              refine ⟨?_, ?_⟩
                                              · intro w194 D194
                                                rintro _ rfl _ rfl _ rfl
                                                show OpOK _ _ _ _ _ _ _
                                                exact ok_gno rfl rfl rfl
                                              refine ⟨?_, ?_⟩
                                              · intro w195 D195
                                                rintro _ rfl _ rfl _ rfl
                                                show OpOK _ _ _ _ _ _ _
                                                exact ok_gno rfl rfl rfl
                                              refine ⟨?_, ?_⟩
                                              · intro w196 D196
                                                rintro _ rfl _ rfl
                                                show OpOK _ _ _ _ _ _ _
                                                exact ok_gno rfl rfl rfl
                                              refine ⟨?_, ?_⟩
                                              · intro w197 D197
                                                rintro _ rfl _ rfl _ rfl
                                                show OpOK _ _ _ _ _ _ _
                                                exact ok_gno rfl rfl rfl
                                              refine ⟨?_, ?_⟩
                                              · intro w198 D198
                                                rintro _ rfl _ rfl _ rfl
                                                show OpOK _ _ _ _ _ _ _
                                                exact ok_gpure rfl (ro_pickF (v := .bool _) rfl rfl) rfl
                                              refine ⟨?_, ?_⟩
                                              · intro w199 D199
                                                rintro _ rfl _ rfl
                                                show OpOK _ _ _ _ _ _ _
                                                exact ok_pure (ro_pickF (v := .bool _) rfl rfl) rfl
                                              exact trivial
                                             case hend =>
                                              intro w200 D200
                                              rintro _ rfl _ rfl _ rfl _ rfl _ rfl _ rfl _ rfl _ rfl _ rfl _ rfl _ rfl _ rfl _ rfl _ rfl _ rfl _ rfl _ rfl _ rfl _ rfl _ rfl _ rfl _ rfl _ rfl _ rfl _ rfl _ rfl _ rfl _ rfl _ rfl _ rfl _ rfl _ rfl _ rfl _ rfl _ rfl _ rfl _ rfl
                                              show St _ _ _ _ _ _ _
                                              refine st_nil ?_
                                              refine nx_then ?_
                                              refine cd_condF rfl ?_
                                              refine cd_skip ?_
                                              refine nx_block ?_
                                              refine nx_then ?_
                                              refine cd_region ?_
                                              refine st_val (ro_move (v := .int _ _) rfl) ?_
                                              refine st_val (ro_add64 rfl rfl (by omega)) ?_
                                              refine st_val (ro_assign (v := .int _ _) rfl) ?_
                                              refine st_nil ?_
                                              refine nx_cut ((q + 1, updB sn (F.getD q 0) true)) ⟨(by first | rfl | (refine int_eq ?_; omega)), trivial⟩ (by (iterate 245 refine agr_cons rfl ?_); exact agr_rfl) ⟨?_, ?_⟩
                                              · exact ⟨by omega, seen_put hsn, P18b.from_ (From.rfl_.next D200), hrF2.from_ (From.rfl_.next D200), hrC2.from_ (From.rfl_.next D200), (hB.next D200)⟩
                                              · show L.length - (q + 1) < L.length - q; omega
                                           · have hr3 := hr2 (by omega)
                                             apply cd_drawn 37 [(150, eqp _), (151, eqp _), (152, eqp _), (153, eqp _), (154, eqp _), (155, eqp _), (156, eqp _), (157, eqp _), (158, eqp _), (159, eqp _), (160, eqp _), (161, eqp _), (162, eqp _), (163, eqp _), (164, eqp _), (165, eqp _), (166, eqp _), (167, eqp _), (168, eqp _), (169, eqp _), (170, eqp _), (171, eqp _), (172, eqp _), (173, eqp _), (174, eqp _), (175, eqp _), (176, eqp _), (177, eqp _), (178, eqp _), (179, eqp _), (180, eqp _), (181, eqp _), (182, eqp _), (183, eqp _), (184, eqp _), (185, eqp _), (186, eqp _)] (by kernel_rfl) (by kernel_rfl) ⟨eqp_mono _, eqp_mono _, eqp_mono _, eqp_mono _, eqp_mono _, eqp_mono _, eqp_mono _, eqp_mono _, eqp_mono _, eqp_mono _, eqp_mono _, eqp_mono _, eqp_mono _, eqp_mono _, eqp_mono _, eqp_mono _, eqp_mono _, eqp_mono _, eqp_mono _, eqp_mono _, eqp_mono _, eqp_mono _, eqp_mono _, eqp_mono _, eqp_mono _, eqp_mono _, eqp_mono _, eqp_mono _, eqp_mono _, eqp_mono _, eqp_mono _, eqp_mono _, eqp_mono _, eqp_mono _, eqp_mono _, eqp_mono _, eqp_mono _, trivial⟩
                                             case hop =>
                                              refine ⟨?_, ?_⟩
                                              · intro w202 D202
                                                show OpOK _ _ _ _ _ _ _
                                                exact ok_pure (ro_move (v := .slice _ _ _) rfl) rfl
                                              refine ⟨?_, ?_⟩
                                              · intro w203 D203
                                                show OpOK _ _ _ _ _ _ _
                                                exact ok_pure (ro_move (v := .int _ _) rfl) rfl
                                              refine ⟨?_, ?_⟩
                                              · intro w204 D204
                                                rintro _ rfl _ rfl
                                                show OpOK _ _ _ _ _ _ _
                                                exact ok_pure (ro_indexAddr1 SufLawR_e24 rfl rfl (by omega)) rfl
                                              refine ⟨?_, ?_⟩
                                              · intro w205 D205
                                                rintro _ rfl
                                                show OpOK _ _ _ _ _ _ _
                                                exact ok_pure (ro_load SufLawR_g3 rfl (by exact cellF (From.rfl_.next D205) hcc)) rfl
                                              refine ⟨?_, ?_⟩
                                              · intro w206 D206
                                                show OpOK _ _ _ _ _ _ _
                                                exact ok_pure (ro_move (v := .int _ _) rfl) rfl
                                              refine ⟨?_, ?_⟩
                                              · intro w207 D207
                                                rintro _ rfl _ rfl
                                                show OpOK _ _ _ _ _ _ _
                                                exact ok_pure (ro_bf (ro_neq rfl rfl) (by rw [hcv]; simp)) rfl
                                              refine ⟨?_, ?_⟩
                                              · intro w208 D208
                                                rintro _ rfl
                                                show OpOK _ _ _ _ _ _ _
                                                exact ok_pure (ro_move (v := .bool _) rfl) rfl
                                              refine ⟨?_, ?_⟩
                                              · intro w209 D209
                                                rintro _ rfl
                                                show OpOK _ _ _ _ _ _ _
                                                exact ok_gpure rfl (ro_move (v := .int _ _) rfl) rfl
                                              refine ⟨?_, ?_⟩
                                              · intro w210 D210
                                                rintro _ rfl
                                                show OpOK _ _ _ _ _ _ _
                                                exact ok_gpure rfl (ro_move (v := .int _ _) rfl) rfl
                                              refine ⟨?_, ?_⟩
                                              · intro w211 D211
                                                rintro _ rfl _ rfl _ rfl
                                                show OpOK _ _ _ _ _ _ _
                                                exact ok_gpure rfl (ro_addN rfl rfl (by omega)) rfl
                                              refine ⟨?_, ?_⟩
                                              · intro w212 D212
                                                rintro _ rfl
                                                show OpOK _ _ _ _ _ _ _
                                                exact ok_gpure rfl (ro_move (v := .slice _ _ _) rfl) rfl
                                              refine ⟨?_, ?_⟩
                                              · intro w213 D213
                                                rintro _ rfl _ rfl
                                                show OpOK _ _ _ _ _ _ _
                                                exact ok_gpure rfl (ro_len SufLawR_l24 rfl) rfl
                                              refine ⟨?_, ?_⟩
                                              · intro w214 D214
                                                rintro _ rfl _ rfl _ rfl
                                                show OpOK _ _ _ _ _ _ _
                                                exact ok_gpure rfl (ro_bf (ro_geq rfl rfl) (decide_eq_false (by omega))) rfl
                                              refine ⟨?_, ?_⟩
                                              · intro w215 D215
                                                rintro _ rfl _ rfl
                                                show OpOK _ _ _ _ _ _ _
                                                exact ok_pure (ro_pickF (v := .bool _) rfl rfl) rfl
                                              refine ⟨?_, ?_⟩
                                              · intro w216 D216
                                                rintro _ rfl
                                                show OpOK _ _ _ _ _ _ _
                                                exact ok_pure (ro_move (v := .bool _) rfl) rfl
                                              refine ⟨?_, ?_⟩
                                              · intro w217 D217
                                                rintro _ rfl
                                                show OpOK _ _ _ _ _ _ _
                                                exact ok_gpure rfl (ro_move (v := .int _ _) rfl) rfl
                                              refine ⟨?_, ?_⟩
                                              · intro w218 D218
                                                rintro _ rfl
                                                show OpOK _ _ _ _ _ _ _
                                                exact ok_gpure rfl (ro_move (v := .int _ _) rfl) rfl
                                              refine ⟨?_, ?_⟩
                                              · intro w219 D219
                                                rintro _ rfl _ rfl _ rfl
                                                show OpOK _ _ _ _ _ _ _
                                                exact ok_gpure rfl (ro_addN rfl rfl (by omega)) rfl
                                              refine ⟨?_, ?_⟩
                                              · intro w220 D220
                                                rintro _ rfl
                                                show OpOK _ _ _ _ _ _ _
                                                exact ok_gpure rfl (ro_move (v := .slice _ _ _) rfl) rfl
                                              refine ⟨?_, ?_⟩
                                              · intro w221 D221
                                                rintro _ rfl _ rfl
                                                show OpOK _ _ _ _ _ _ _
                                                exact ok_gpure rfl (ro_len SufLawR_l24 rfl) rfl
                                              refine ⟨?_, ?_⟩
                                              · intro w222 D222
                                                rintro _ rfl _ rfl _ rfl
                                                show OpOK _ _ _ _ _ _ _
                                                exact ok_gpure rfl (ro_bt (ro_lss rfl rfl) (decide_eq_true (by omega))) rfl
                                              refine ⟨?_, ?_⟩
                                              · intro w223 D223
                                                rintro _ rfl _ rfl
                                                show OpOK _ _ _ _ _ _ _
                                                exact ok_gpure rfl (ro_move (v := .bool _) rfl) rfl
                                              refine ⟨?_, ?_⟩
                                              · intro w224 D224
                                                rintro _ rfl
                                                show OpOK _ _ _ _ _ _ _
                                                exact ok_gpure rfl (ro_move (v := .slice _ _ _) rfl) rfl
                                              refine ⟨?_, ?_⟩
                                              · intro w225 D225
                                                rintro _ rfl
                                                show OpOK _ _ _ _ _ _ _
                                                exact ok_gpure rfl (ro_move (v := .int _ _) rfl) rfl
                                              refine ⟨?_, ?_⟩
                                              · intro w226 D226
                                                rintro _ rfl
                                                show OpOK _ _ _ _ _ _ _
                                                exact ok_gpure rfl (ro_move (v := .int _ _) rfl) rfl
                                              refine ⟨?_, ?_⟩
                                              · intro w227 D227
                                                rintro _ rfl _ rfl _ rfl
                                                show OpOK _ _ _ _ _ _ _
                                                exact ok_gpure rfl (ro_addN rfl rfl (by omega)) rfl
                                              refine ⟨?_, ?_⟩
                                              · intro w228 D228
                                                rintro _ rfl _ rfl _ rfl
                                                show OpOK _ _ _ _ _ _ _
                                                exact ok_gpure rfl (ro_indexAddr1 SufLawR_e24 rfl rfl (by omega)) rfl
                                              refine ⟨?_, ?_⟩
                                              · intro w229 D229
                                                rintro _ rfl _ rfl
                                                show OpOK _ _ _ _ _ _ _
                                                exact ok_gpure rfl (ro_load SufLawR_g3 rfl (by exact cellF (hB.next D229) (hcL _ (by omega)))) rfl
                                              refine ⟨?_, ?_⟩
                                              · intro w230 D230
                                                rintro _ rfl
                                                show OpOK _ _ _ _ _ _ _
                                                exact ok_gpure rfl (ro_move (v := .slice _ _ _) rfl) rfl
                                              refine ⟨?_, ?_⟩
                                              · intro w231 D231
                                                rintro _ rfl
                                                show OpOK _ _ _ _ _ _ _
                                                exact ok_gpure rfl (ro_move (v := .int _ _) rfl) rfl
                                              refine ⟨?_, ?_⟩
                                              · intro w232 D232
                                                rintro _ rfl
                                                show OpOK _ _ _ _ _ _ _
                                                exact ok_gpure rfl (ro_move (v := .int _ _) rfl) rfl
                                              refine ⟨?_, ?_⟩
                                              · intro w233 D233
                                                rintro _ rfl _ rfl _ rfl
                                                show OpOK _ _ _ _ _ _ _
                                                exact ok_gpure rfl (ro_addN rfl rfl (by omega)) rfl
                                              refine ⟨?_, ?_⟩
                                              · intro w234 D234
                                                rintro _ rfl _ rfl _ rfl
                                                show OpOK _ _ _ _ _ _ _
                                                exact ok_gpure rfl (ro_indexAddr1 SufLawR_e24 rfl rfl (by omega)) rfl
                                              refine ⟨?_, ?_⟩
                                              · intro w235 D235
                                                rintro _ rfl _ rfl
                                                show OpOK _ _ _ _ _ _ _
                                                exact ok_gpure rfl (ro_load SufLawR_g3 rfl (by exact cellF (hB.next D235) (hcL _ (by omega)))) rfl
                                              refine ⟨?_, ?_⟩
                                              · intro w236 D236
                                                rintro _ rfl _ rfl _ rfl
                                                show OpOK _ _ _ _ _ _ _
                                                exact ok_gpure rfl (ro_bf (ro_geq rfl rfl) (decide_eq_false (by omega))) rfl
                                              refine ⟨?_, ?_⟩
                                              · intro w237 D237
                                                rintro _ rfl _ rfl _ rfl
                                                show OpOK _ _ _ _ _ _ _
                                                exact ok_gpure rfl (ro_pickT (v := .bool _) rfl rfl) rfl
                                              refine ⟨?_, ?_⟩
                                              · intro w238 D238
                                                rintro _ rfl _ rfl
                                                show OpOK _ _ _ _ _ _ _
                                                exact ok_pure (ro_pickF (v := .bool _) rfl rfl) rfl
                                              exact trivial
                                             case hend =>
                                              intro w239 D239
                                              rintro _ rfl _ rfl _ rfl _ rfl _ rfl _ rfl _ rfl _ rfl _ rfl _ rfl _ rfl _ rfl _ rfl _ rfl _ rfl _ rfl _ rfl _ rfl _ rfl _ rfl _ rfl _ rfl _ rfl _ rfl _ rfl _ rfl _ rfl _ rfl _ rfl _ rfl _ rfl _ rfl _ rfl _ rfl _ rfl _ rfl _ rfl
                                              show St _ _ _ _ _ _ _
                                              refine st_nil ?_
                                              refine nx_then ?_
                                              refine cd_condF rfl ?_
                                              refine cd_skip ?_
                                              refine nx_block ?_
                                              refine nx_then ?_
                                              refine cd_region ?_
                                              refine st_val (ro_move (v := .int _ _) rfl) ?_
                                              refine st_val (ro_add64 rfl rfl (by omega)) ?_
                                              refine st_val (ro_assign (v := .int _ _) rfl) ?_
                                              refine st_nil ?_
                                              refine nx_cut ((q + 1, updB sn (F.getD q 0) true)) ⟨(by first | rfl | (refine int_eq ?_; omega)), trivial⟩ (by (iterate 245 refine agr_cons rfl ?_); exact agr_rfl) ⟨?_, ?_⟩
                                              · exact ⟨by omega, seen_put hsn, P18b.from_ (From.rfl_.next D239), hrF2.from_ (From.rfl_.next D239), hrC2.from_ (From.rfl_.next D239), (hB.next D239)⟩
                                              · show L.length - (q + 1) < L.length - q; omega
                           (try first | replace Q16 := bn_t Q16 | replace Q16 := bn_f Q16)
                           (try first | replace Q16 := bx_t Q16 | replace Q16 := bx_f Q16 | replace Q16 := be_t Q16 | replace Q16 := be_f Q16 | replace Q16 := of_decide_eq_true Q16 | replace Q16 := of_decide_eq_false Q16)
                           refine cd_exit ?_
                           refine ex_then ?_
                           refine ex_then ?_
                           refine ex_block ?_
                           refine nx_block ?_
                           refine nx_then ?_
                           refine cd_region ?_
                           refine st_val (ro_move (v := .int _ _) rfl) ?_
                           refine st_val (ro_add64 rfl rfl (by omega)) ?_
                           refine st_val (ro_assign (v := .int _ _) rfl) ?_
                           refine st_nil ?_
                           refine nx_cut (k + 1) ⟨(by first | rfl | (refine int_eq ?_; omega)), trivial⟩ (by (iterate 378 refine agr_cons rfl ?_); exact agr_rfl) ⟨?_, ?_⟩
                           · exact ⟨by omega, hB⟩
                           · show xs.length - (k + 1) < xs.length - k; omega
         · have hLl : Ln.length = L.length := by rw [hLn, List.length_map]
           have hFl := hSA.len
           refine st_val (ro_move (v := .tuple _) rfl) ?_
           refine st_val (ro_extract rfl rfl) ?_
           refine st_val (ro_extract rfl rfl) ?_
           refine st_val (ro_assign (v := .slice _ _ _) rfl) ?_
           refine st_val (ro_assign (v := .int _ _) rfl) ?_
           refine st_nil ?_
           refine nx_then ?_
           refine cd_seq ?_
           refine cd_seq ?_
           refine cd_region ?_
           refine st_val (ro_move (v := .int _ _) rfl) ?_
           refine st_call SufLawR_k11 (num_any _ _) ?_
           rintro v40 w240 ⟨rfl, rfl⟩
           refine st_val (ro_neq rfl rfl) ?_
           refine st_nil ?_
           refine nx_then ?_
           refine cd_cond rfl (fun Q241 => ?_) (fun Q241 => ?_)
           · (try first | replace Q241 := bn_t Q241 | replace Q241 := bn_f Q241)
             (try first | replace Q241 := bx_t Q241 | replace Q241 := bx_f Q241 | replace Q241 := be_t Q241 | replace Q241 := be_f Q241 | replace Q241 := of_decide_eq_true Q241 | replace Q241 := of_decide_eq_false Q241)
             first
              | (exfalso; first | omega | contradiction | (cases Q241; done))
              | skip
                refine cd_exit ?_
                refine ex_then ?_
                refine ex_block ?_
                refine nx_then ?_
                refine cd_region ?_
                refine st_val (ro_move (v := .int _ _) rfl) ?_
                refine st_val (ro_add64 rfl rfl (by omega)) ?_
                refine st_val (ro_assign (v := .int _ _) rfl) ?_
                refine st_nil ?_
                refine nx_cut (k + 1) ⟨(by first | rfl | (refine int_eq ?_; omega)), trivial⟩ (by (iterate 218 refine agr_cons rfl ?_); exact agr_rfl) ⟨?_, ?_⟩
                · exact ⟨by omega, ((hB.next E33).next E36)⟩
                · show xs.length - (k + 1) < xs.length - k; omega
           (try first | replace Q241 := bn_t Q241 | replace Q241 := bn_f Q241)
           (try first | replace Q241 := bx_t Q241 | replace Q241 := bx_f Q241 | replace Q241 := be_t Q241 | replace Q241 := be_f Q241 | replace Q241 := of_decide_eq_true Q241 | replace Q241 := of_decide_eq_false Q241)
           first
            | (exfalso; first | omega | contradiction | (cases Q241; done))
            | skip
              refine cd_skip ?_
              refine nx_then ?_
              refine cd_seq ?_
              refine cd_region ?_
              refine st_val (ro_move (v := .slice _ _ _) rfl) ?_
              refine st_val (ro_move (v := .slice _ _ _) rfl) ?_
              have hrF0 := (sortA_own ho36).2.from_ From.rfl_
              refine st_call SufLawR_k17 (common_good A1 A' ca L.length L.length L.length L (cI F) Ln F _ (hask.rowL.from_ ((hB.next E33).next E36)) rfl hrF0 (by rw [List.length_map]; exact (sortA_own ho36).1) (by omega) (by omega) hLn hlt hSA rfl) ?_
              rintro v45 w242 ⟨⟨A45, C, rfl, hrC, hCl, hCm⟩, E45⟩
              have hrF := hrF0.from_ E45
              refine st_val (ro_move (v := .tuple _) rfl) ?_
              refine st_val (ro_extract rfl rfl) ?_
              refine st_val (ro_extract rfl rfl) ?_
              refine st_val (ro_assign (v := .slice _ _ _) rfl) ?_
              refine st_val (ro_assign (v := .int _ _) rfl) ?_
              refine st_nil ?_
              refine nx_then ?_
              refine cd_seq ?_
              refine cd_seq ?_
              refine cd_region ?_
              refine st_val (ro_move (v := .slice _ _ _) rfl) ?_
              refine st_val (ro_len SufLawR_l24 rfl) ?_
              refine st_val (ro_move (v := .slice _ _ _) rfl) ?_
              refine st_val (ro_len SufLawR_l24 rfl) ?_
              refine st_val (ro_neq rfl rfl) ?_
              refine st_val (ro_move (v := .bool _) rfl) ?_
              refine st_split (t := 53) rfl (fun Q243 => ?_) (fun Q243 => ?_)
              · (try first | replace Q243 := bn_t Q243 | replace Q243 := bn_f Q243)
                (try first | replace Q243 := bx_t Q243 | replace Q243 := bx_f Q243 | replace Q243 := be_t Q243 | replace Q243 := be_f Q243 | replace Q243 := of_decide_eq_true Q243 | replace Q243 := of_decide_eq_false Q243)
                first
                 | (exfalso; first | omega | contradiction | (cases Q243; done))
                 | skip
                   refine st_gno rfl rfl ?_
                   refine st_gno rfl rfl ?_
                   refine st_gno rfl rfl ?_
                   refine st_val (ro_pickT (v := .bool _) rfl rfl) ?_
                   refine st_val (ro_move (v := .bool _) rfl) ?_
                   refine st_gno rfl rfl ?_
                   refine st_gno rfl rfl ?_
                   refine st_gno rfl rfl ?_
                   refine st_gno rfl rfl ?_
                   refine st_gno rfl rfl ?_
                   refine st_val (ro_pickT (v := .bool _) rfl rfl) ?_
                   refine st_nil ?_
                   refine nx_then ?_
                   refine cd_condT rfl ?_
                   refine cd_seq ?_
                   refine cd_region ?_
                   refine st_val (ro_assign (v := .bool _) rfl) ?_
                   refine st_nil ?_
                   refine nx_then ?_
                   refine cd_ret ?_
                   refine rt_then ?_
                   refine rt_block ?_
                   refine rt_then ?_
                   refine rt_then ?_
                   refine rt_block ?_
                   refine rt_then ?_
                   refine res1 (v := .bool _) rfl rfl ?_
                   exact ⟨rfl, (((hB.next E33).next E36).next E45)⟩
              · (try first | replace Q243 := bn_t Q243 | replace Q243 := bn_f Q243)
                (try first | replace Q243 := bx_t Q243 | replace Q243 := bx_f Q243 | replace Q243 := be_t Q243 | replace Q243 := be_f Q243 | replace Q243 := of_decide_eq_true Q243 | replace Q243 := of_decide_eq_false Q243)
                first
                 | (exfalso; first | omega | contradiction | (cases Q243; done))
                 | skip
                   refine st_unguard rfl ?_
                   refine st_val (ro_move (v := .int _ _) rfl) ?_
                   refine st_unguard rfl ?_
                   refine st_call SufLawR_k11 (num_any _ _) ?_
                   rintro v55 w244 ⟨rfl, rfl⟩
                   refine st_unguard rfl ?_
                   refine st_val (ro_neq rfl rfl) ?_
                   refine st_val (ro_pickF (v := .bool _) rfl rfl) ?_
                   refine st_val (ro_move (v := .bool _) rfl) ?_
                   refine st_split (t := 58) rfl (fun Q245 => ?_) (fun Q245 => ?_)
                   · (try first | replace Q245 := bn_t Q245 | replace Q245 := bn_f Q245)
                     (try first | replace Q245 := bx_t Q245 | replace Q245 := bx_f Q245 | replace Q245 := be_t Q245 | replace Q245 := be_f Q245 | replace Q245 := of_decide_eq_true Q245 | replace Q245 := of_decide_eq_false Q245)
                     first
                      | (exfalso; first | omega | contradiction | (cases Q245; done))
                      | skip
                        refine st_gno rfl rfl ?_
                        refine st_gno rfl rfl ?_
                        refine st_gno rfl rfl ?_
                        refine st_gno rfl rfl ?_
                        refine st_gno rfl rfl ?_
                        refine st_val (ro_pickT (v := .bool _) rfl rfl) ?_
                        refine st_nil ?_
                        refine nx_then ?_
                        refine cd_condT rfl ?_
                        refine cd_seq ?_
                        refine cd_region ?_
                        refine st_val (ro_assign (v := .bool _) rfl) ?_
                        refine st_nil ?_
                        refine nx_then ?_
                        refine cd_ret ?_
                        refine rt_then ?_
                        refine rt_block ?_
                        refine rt_then ?_
                        refine rt_then ?_
                        refine rt_block ?_
                        refine rt_then ?_
                        refine res1 (v := .bool _) rfl rfl ?_
                        exact ⟨rfl, (((hB.next E33).next E36).next E45)⟩
                   · (try first | replace Q245 := bn_t Q245 | replace Q245 := bn_f Q245)
                     (try first | replace Q245 := bx_t Q245 | replace Q245 := bx_f Q245 | replace Q245 := be_t Q245 | replace Q245 := be_f Q245 | replace Q245 := of_decide_eq_true Q245 | replace Q245 := of_decide_eq_false Q245)
                     first
                      | (exfalso; first | omega | contradiction | (cases Q245; done))
                      | skip
                        refine st_unguard rfl ?_
                        refine st_val (ro_move (v := .slice _ _ _) rfl) ?_
                        refine st_unguard rfl ?_
                        refine st_val (ro_len SufLawR_l24 rfl) ?_
                        refine st_unguard rfl ?_
                        refine st_val (ro_move (v := .slice _ _ _) rfl) ?_
                        refine st_unguard rfl ?_
                        refine st_val (ro_len SufLawR_l24 rfl) ?_
                        refine st_unguard rfl ?_
                        refine st_val (ro_neq rfl rfl) ?_
                        refine st_val (ro_pickF (v := .bool _) rfl rfl) ?_
                        refine st_nil ?_
                        refine nx_then ?_
                        refine cd_cond rfl (fun Q246 => ?_) (fun Q246 => ?_)
                        · (try first | replace Q246 := bn_t Q246 | replace Q246 := bn_f Q246)
                          (try first | replace Q246 := bx_t Q246 | replace Q246 := bx_f Q246 | replace Q246 := be_t Q246 | replace Q246 := be_f Q246 | replace Q246 := of_decide_eq_true Q246 | replace Q246 := of_decide_eq_false Q246)
                          first
                           | (exfalso; first | omega | contradiction | (cases Q246; done))
                           | skip
                             refine cd_seq ?_
                             refine cd_region ?_
                             refine st_val (ro_assign (v := .bool _) rfl) ?_
                             refine st_nil ?_
                             refine nx_then ?_
                             refine cd_ret ?_
                             refine rt_then ?_
                             refine rt_block ?_
                             refine rt_then ?_
                             refine rt_then ?_
                             refine rt_block ?_
                             refine rt_then ?_
                             refine res1 (v := .bool _) rfl rfl ?_
                             exact ⟨rfl, (((hB.next E33).next E36).next E45)⟩
                        (try first | replace Q246 := bn_t Q246 | replace Q246 := bn_f Q246)
                        (try first | replace Q246 := bx_t Q246 | replace Q246 := bx_f Q246 | replace Q246 := be_t Q246 | replace Q246 := be_f Q246 | replace Q246 := of_decide_eq_true Q246 | replace Q246 := of_decide_eq_false Q246)
                        first
                         | (exfalso; first | omega | contradiction | (cases Q246; done))
                         | skip
                           refine cd_skip ?_
                           refine nx_then ?_
                           refine cd_seq ?_
                           refine cd_region ?_
                           refine st_val (ro_move (v := .slice _ _ _) rfl) ?_
                           refine st_val (ro_len SufLawR_l24 rfl) ?_
                           have hrF67 := hrF.from_ From.rfl_
                           have hrC67 := hrC.from_ From.rfl_
                           refine st_make SufLawR_m39 rfl rfl rfl (by omega) (by omega) ?_
                           intro b67 w247 E67 hb67 hk67
                           have hg67 : w.heap.size ≤ b67 := by rw [hb67]; exact ((((hB.next E33).next E36).next E45)).size
                           have hpF := row_lt (n := L.length) hrF67 (by omega) hb67
                           have hpC := row_lt (n := L.length) hrC67 (by omega) hb67
                           refine st_val (ro_assign (v := .slice _ _ _) rfl) ?_
                           refine st_nil ?_
                           refine nx_then ?_
                           refine cd_seq ?_
                           refine cd_region ?_
                           refine st_val (ro_assign (v := .int _ _) rfl) ?_
                           refine st_nil ?_
                           refine nx_then ?_
                           refine cd_block ?_
                           refine cd_loop (G := Nat × (Nat → Bool)) [2, 11, 12, 13, 68, 69, 70, 71, 72, 73, 74, 75, 76, 77, 78, 79, 80, 81, 82, 83, 84, 85, 86, 87, 88, 89, 90, 91, 92, 93, 94, 95, 96, 97, 98, 99, 100, 101, 102, 103, 104, 105, 106, 107, 108, 109, 110, 111, 112, 113, 114, 115, 116, 117, 118, 119, 120, 121, 122, 123, 124, 125, 126, 127, 128, 129, 130, 131, 132, 133, 134, 135, 136, 137, 138, 139, 140, 141, 142, 143, 144, 145, 146, 147, 148, 149, 150, 151, 152, 153, 154, 155, 156, 157, 158, 159, 160, 161, 162, 163, 164, 165, 166, 167, 168, 169, 170, 171, 172, 173, 174, 175, 176, 177, 178, 179, 180, 181, 182, 183, 184, 185, 186] (fun (q, _) => [(10, .int .i64 (q : Nat))]) (fun (q, sn) w' => q ≤ L.length ∧ (∀ j, sn j = true → ∃ p, p < q ∧ F.getD p 0 = j) ∧ Blk w' b67 4 (tabB L.length sn) ∧ RowOf iV w' A' (cI F) ∧ RowOf iV w' A45 (cI C) ∧ From w w') (fun (q, _) => L.length - q) ((0, fun _ => false)) ⟨rfl, trivial⟩ ?_ ?_
                           · exact ⟨Nat.zero_le _, fun j h => (by cases h), by rw [← tabB_zero]; exact hk67, hrF.from_ (From.rfl_.next E67), hrC.from_ (From.rfl_.next E67), ((((hB.next E33).next E36).next E45).next E67)⟩
                           rintro ⟨q, sn⟩ ρ248 w248 ⟨hq, hsn, hT, hrF, hrC, hB⟩
                           refine cd_seq ?_
                           refine cd_seq ?_
                           refine cd_region ?_
                           refine st_val (ro_move (v := .int _ _) rfl) ?_
                           refine st_val (ro_move (v := .slice _ _ _) rfl) ?_
                           refine st_val (ro_len SufLawR_l24 rfl) ?_
                           refine st_val (ro_lss rfl rfl) ?_
                           refine st_nil ?_
                           refine nx_then ?_
                           refine cd_cond rfl (fun Q249 => ?_) (fun Q249 => ?_)
                           · (try first | replace Q249 := bn_t Q249 | replace Q249 := bn_f Q249)
                             (try first | replace Q249 := bx_t Q249 | replace Q249 := bx_f Q249 | replace Q249 := be_t Q249 | replace Q249 := be_f Q249 | replace Q249 := of_decide_eq_true Q249 | replace Q249 := of_decide_eq_false Q249)
                             obtain ⟨bF, oF, rfl, hcF⟩ := rowD hrF (by omega)
                             obtain ⟨bC, oC, rfl, hcC⟩ := rowD hrC (by omega)
                             obtain ⟨bL, oL, rfl, hcL⟩ := rowD (show RowOf iV w A1 (cI Ln) by rw [cI, ← hLn]; exact hask.rowL) (by omega)
                             have hf1 := (isSA_getD hSA (show q < Ln.length by omega)).1
                             have hf2 := (isSA_getD hSA (show q - 1 < Ln.length by omega)).1
                             have hcs : (w248).cell? ⟨b67, F.getD q 0, none⟩ = some (.bool false) := by rw [hT.rd _ (tabB_at (by omega)), seen_no hSA hsn (by omega)]
                             refine cd_skip ?_
                             refine nx_then ?_
                             refine cd_seq ?_
                             refine cd_block ?_
                             refine cd_seq ?_
                             refine cd_seq ?_
                             refine cd_region ?_
                             refine st_val (ro_move (v := .slice _ _ _) rfl) ?_
                             refine st_val (ro_move (v := .int _ _) rfl) ?_
                             refine st_val (ro_indexAddr1 SufLawR_e24 rfl rfl (by omega)) ?_
                             refine st_val (ro_load SufLawR_g3 rfl (by exact cellF From.rfl_ (hcF q (by omega)))) ?_
                             refine st_val (ro_lss rfl rfl) ?_
                             refine st_val (ro_move (v := .bool _) rfl) ?_
                             refine st_split (t := 79) rfl (fun Q250 => ?_) (fun Q250 => ?_)
                             · (try first | replace Q250 := bn_t Q250 | replace Q250 := bn_f Q250)
                               (try first | replace Q250 := bx_t Q250 | replace Q250 := bx_f Q250 | replace Q250 := be_t Q250 | replace Q250 := be_f Q250 | replace Q250 := of_decide_eq_true Q250 | replace Q250 := of_decide_eq_false Q250)
                               first
                                | (exfalso; first | omega | contradiction | (cases Q250; done))
                                | skip
                                  refine st_gno rfl rfl ?_
                                  refine st_gno rfl rfl ?_
                                  refine st_gno rfl rfl ?_
                                  refine st_gno rfl rfl ?_
                                  refine st_gno rfl rfl ?_
                                  refine st_gno rfl rfl ?_
                                  refine st_gno rfl rfl ?_
                                  refine st_val (ro_pickT (v := .bool _) rfl rfl) ?_
                                  refine st_val (ro_move (v := .bool _) rfl) ?_
                                  refine st_gno rfl rfl ?_
                                  refine st_gno rfl rfl ?_
                                  refine st_gno rfl rfl ?_
                                  refine st_gno rfl rfl ?_
                                  refine st_gno rfl rfl ?_
                                  refine st_gno rfl rfl ?_
                                  refine st_gno rfl rfl ?_
                                  refine st_val (ro_pickT (v := .bool _) rfl rfl) ?_
                                  refine st_nil ?_
                                  refine nx_then ?_
                                  refine cd_condT rfl ?_
                                  refine cd_seq ?_
                                  refine cd_region ?_
                                  refine st_val (ro_assign (v := .bool _) rfl) ?_
                                  refine st_nil ?_
                                  refine nx_then ?_
                                  refine cd_ret ?_
                                  refine rt_then ?_
                                  refine rt_block ?_
                                  refine rt_then ?_
                                  refine rt_then ?_
                                  refine rt_block ?_
                                  refine rt_block ?_
                                  refine rt_then ?_
                                  refine rt_then ?_
                                  refine rt_block ?_
                                  refine rt_then ?_
                                  refine res1 (v := .bool _) rfl rfl ?_
                                  exact ⟨rfl, hB⟩
                             · (try first | replace Q250 := bn_t Q250 | replace Q250 := bn_f Q250)
                               (try first | replace Q250 := bx_t Q250 | replace Q250 := bx_f Q250 | replace Q250 := be_t Q250 | replace Q250 := be_f Q250 | replace Q250 := of_decide_eq_true Q250 | replace Q250 := of_decide_eq_false Q250)
                               first
                                | (exfalso; first | omega | contradiction | (cases Q250; done))
                                | skip
                                  refine st_unguard rfl ?_
                                  refine st_val (ro_move (v := .slice _ _ _) rfl) ?_
                                  refine st_unguard rfl ?_
                                  refine st_val (ro_move (v := .int _ _) rfl) ?_
                                  refine st_unguard rfl ?_
                                  refine st_val (ro_indexAddr1 SufLawR_e24 rfl rfl (by omega)) ?_
                                  refine st_unguard rfl ?_
                                  refine st_val (ro_load SufLawR_g3 rfl (by exact cellF From.rfl_ (hcF q (by omega)))) ?_
                                  refine st_unguard rfl ?_
                                  refine st_val (ro_move (v := .slice _ _ _) rfl) ?_
                                  refine st_unguard rfl ?_
                                  refine st_val (ro_len SufLawR_l24 rfl) ?_
                                  refine st_unguard rfl ?_
                                  refine st_val (ro_geq rfl rfl) ?_
                                  refine st_val (ro_pickF (v := .bool _) rfl rfl) ?_
                                  refine st_val (ro_move (v := .bool _) rfl) ?_
                                  refine st_split (t := 88) rfl (fun Q251 => ?_) (fun Q251 => ?_)
                                  · (try first | replace Q251 := bn_t Q251 | replace Q251 := bn_f Q251)
                                    (try first | replace Q251 := bx_t Q251 | replace Q251 := bx_f Q251 | replace Q251 := be_t Q251 | replace Q251 := be_f Q251 | replace Q251 := of_decide_eq_true Q251 | replace Q251 := of_decide_eq_false Q251)
                                    first
                                     | (exfalso; first | omega | contradiction | (cases Q251; done))
                                     | skip
                                       refine st_gno rfl rfl ?_
                                       refine st_gno rfl rfl ?_
                                       refine st_gno rfl rfl ?_
                                       refine st_gno rfl rfl ?_
                                       refine st_gno rfl rfl ?_
                                       refine st_gno rfl rfl ?_
                                       refine st_gno rfl rfl ?_
                                       refine st_val (ro_pickT (v := .bool _) rfl rfl) ?_
                                       refine st_nil ?_
                                       refine nx_then ?_
                                       refine cd_condT rfl ?_
                                       refine cd_seq ?_
                                       refine cd_region ?_
                                       refine st_val (ro_assign (v := .bool _) rfl) ?_
                                       refine st_nil ?_
                                       refine nx_then ?_
                                       refine cd_ret ?_
                                       refine rt_then ?_
                                       refine rt_block ?_
                                       refine rt_then ?_
                                       refine rt_then ?_
                                       refine rt_block ?_
                                       refine rt_block ?_
                                       refine rt_then ?_
                                       refine rt_then ?_
                                       refine rt_block ?_
                                       refine rt_then ?_
                                       refine res1 (v := .bool _) rfl rfl ?_
                                       exact ⟨rfl, hB⟩
                                  · (try first | replace Q251 := bn_t Q251 | replace Q251 := bn_f Q251)
                                    (try first | replace Q251 := bx_t Q251 | replace Q251 := bx_f Q251 | replace Q251 := be_t Q251 | replace Q251 := be_f Q251 | replace Q251 := of_decide_eq_true Q251 | replace Q251 := of_decide_eq_false Q251)
                                    first
                                     | (exfalso; first | omega | contradiction | (cases Q251; done))
                                     | skip
                                       refine st_unguard rfl ?_
                                       refine st_val (ro_move (v := .slice _ _ _) rfl) ?_
                                       refine st_unguard rfl ?_
                                       refine st_val (ro_move (v := .slice _ _ _) rfl) ?_
                                       refine st_unguard rfl ?_
                                       refine st_val (ro_move (v := .int _ _) rfl) ?_
                                       refine st_unguard rfl ?_
                                       refine st_val (ro_indexAddr1 SufLawR_e24 rfl rfl (by omega)) ?_
                                       refine st_unguard rfl ?_
                                       refine st_val (ro_load SufLawR_g3 rfl (by exact cellF From.rfl_ (hcF q (by omega)))) ?_
                                       refine st_unguard rfl ?_
                                       refine st_val (ro_indexAddr0 SufLawR_e39 rfl rfl (by omega)) ?_
                                       refine st_unguard rfl ?_
                                       refine st_val (ro_load SufLawR_g4 rfl (by exact cellF From.rfl_ hcs)) ?_
                                       refine st_val (ro_pickF (v := .bool _) rfl rfl) ?_
                                       refine st_nil ?_
                                       refine nx_then ?_
                                       refine cd_cond rfl (fun Q252 => ?_) (fun Q252 => ?_)
                                       · (try first | replace Q252 := bn_t Q252 | replace Q252 := bn_f Q252)
                                         (try first | replace Q252 := bx_t Q252 | replace Q252 := bx_f Q252 | replace Q252 := be_t Q252 | replace Q252 := be_f Q252 | replace Q252 := of_decide_eq_true Q252 | replace Q252 := of_decide_eq_false Q252)
                                         first
                                          | (exfalso; first | omega | contradiction | (cases Q252; done))
                                          | skip
                                            refine cd_seq ?_
                                            refine cd_region ?_
                                            refine st_val (ro_assign (v := .bool _) rfl) ?_
                                            refine st_nil ?_
                                            refine nx_then ?_
                                            refine cd_ret ?_
                                            refine rt_then ?_
                                            refine rt_block ?_
                                            refine rt_then ?_
                                            refine rt_then ?_
                                            refine rt_block ?_
                                            refine rt_block ?_
                                            refine rt_then ?_
                                            refine rt_then ?_
                                            refine rt_block ?_
                                            refine rt_then ?_
                                            refine res1 (v := .bool _) rfl rfl ?_
                                            exact ⟨rfl, hB⟩
                                       (try first | replace Q252 := bn_t Q252 | replace Q252 := bn_f Q252)
                                       (try first | replace Q252 := bx_t Q252 | replace Q252 := bx_f Q252 | replace Q252 := be_t Q252 | replace Q252 := be_f Q252 | replace Q252 := of_decide_eq_true Q252 | replace Q252 := of_decide_eq_false Q252)
                                       first
                                        | (exfalso; first | omega | contradiction | (cases Q252; done))
                                        | skip
                                          refine cd_skip ?_
                                          refine nx_then ?_
                                          refine cd_seq ?_
                                          refine cd_region ?_
                                          refine st_val (ro_move (v := .slice _ _ _) rfl) ?_
                                          refine st_val (ro_move (v := .slice _ _ _) rfl) ?_
                                          refine st_val (ro_move (v := .int _ _) rfl) ?_
                                          refine st_val (ro_indexAddr1 SufLawR_e24 rfl rfl (by omega)) ?_
                                          refine st_val (ro_load SufLawR_g3 rfl (by exact cellF From.rfl_ (hcF q (by omega)))) ?_
                                          refine st_val (ro_indexAddr0 SufLawR_e39 rfl rfl (by omega)) ?_
                                          refine st_put (v := .bool _) SufLawR_z4 rfl rfl rfl (hT) (by rw [tabB_size]; omega) ?_
                                          intro w253 O18 P18
                                          have hnF := hpF (by omega) _ rfl
                                          have hnC := hpC (by omega) _ rfl
                                          have hrF2 := rowOnly hrF O18 (by simp only at hnF; omega)
                                          have hrC2 := rowOnly hrC O18 (by simp only at hnC; omega)
                                          have hcc := rowC hrC2 (k := q) (by omega)
                                          have hcf1 := rowC hrF2 (k := q - 1) (by omega)
                                          have hcf2 := rowC hrF2 (k := q) (by omega)
                                          have P18b : Blk w253 b67 4 (tabB L.length (updB sn (F.getD q 0) true)) := by rw [← tabB_set]; exact P18
                                          refine st_nil ?_
                                          refine nx_then ?_
                                          refine cd_seq ?_
                                          refine cd_seq ?_
                                          refine cd_region ?_
                                          refine st_val (ro_move (v := .int _ _) rfl) ?_
                                          refine st_val (ro_eql rfl rfl) ?_
                                          refine st_nil ?_
                                          refine nx_then ?_
                                          refine cd_cond rfl (fun Q254 => ?_) (fun Q254 => ?_)
                                          · (try first | replace Q254 := bn_t Q254 | replace Q254 := bn_f Q254)
                                            (try first | replace Q254 := bx_t Q254 | replace Q254 := bx_f Q254 | replace Q254 := be_t Q254 | replace Q254 := be_f Q254 | replace Q254 := of_decide_eq_true Q254 | replace Q254 := of_decide_eq_false Q254)
                                            have hc0 : C.getD q 0 = 0 := by rw [show q = 0 by omega]; exact hCm.at0 (by omega)
                                            refine cd_seq ?_
                                            refine cd_seq ?_
                                            refine cd_region ?_
                                            refine st_val (ro_move (v := .slice _ _ _) rfl) ?_
                                            refine st_val (ro_move (v := .int _ _) rfl) ?_
                                            refine st_val (ro_indexAddr1 SufLawR_e24 rfl rfl (by omega)) ?_
                                            refine st_val (ro_load SufLawR_g3 rfl (by exact cellF From.rfl_ hcc)) ?_
                                            refine st_val (ro_neq rfl rfl) ?_
                                            refine st_nil ?_
                                            refine nx_then ?_
                                            refine cd_cond rfl (fun Q255 => ?_) (fun Q255 => ?_)
                                            · (try first | replace Q255 := bn_t Q255 | replace Q255 := bn_f Q255)
                                              (try first | replace Q255 := bx_t Q255 | replace Q255 := bx_f Q255 | replace Q255 := be_t Q255 | replace Q255 := be_f Q255 | replace Q255 := of_decide_eq_true Q255 | replace Q255 := of_decide_eq_false Q255)
                                              first
                                               | (exfalso; first | omega | contradiction | (cases Q255; done))
                                               | skip
                                                 refine cd_seq ?_
                                                 refine cd_region ?_
                                                 refine st_val (ro_assign (v := .bool _) rfl) ?_
                                                 refine st_nil ?_
                                                 refine nx_then ?_
                                                 refine cd_ret ?_
                                                 refine rt_then ?_
                                                 refine rt_then ?_
                                                 refine rt_block ?_
                                                 refine rt_then ?_
                                                 refine rt_then ?_
                                                 refine rt_block ?_
                                                 refine rt_block ?_
                                                 refine rt_then ?_
                                                 refine rt_then ?_
                                                 refine rt_block ?_
                                                 refine rt_then ?_
                                                 refine res1 (v := .bool _) rfl rfl ?_
                                                 exact ⟨rfl, (hB.only O18 (hg67))⟩
                                            (try first | replace Q255 := bn_t Q255 | replace Q255 := bn_f Q255)
                                            (try first | replace Q255 := bx_t Q255 | replace Q255 := bx_f Q255 | replace Q255 := be_t Q255 | replace Q255 := be_f Q255 | replace Q255 := of_decide_eq_true Q255 | replace Q255 := of_decide_eq_false Q255)
                                            first
                                             | (exfalso; first | omega | contradiction | (cases Q255; done))
                                             | skip
                                               refine cd_skip ?_
                                               refine nx_then ?_
                                               refine cd_exit ?_
                                               refine ex_then ?_
                                               refine ex_block ?_
                                               refine nx_then ?_
                                               refine cd_region ?_
                                               refine st_val (ro_move (v := .int _ _) rfl) ?_
                                               refine st_val (ro_add64 rfl rfl (by omega)) ?_
                                               refine st_val (ro_assign (v := .int _ _) rfl) ?_
                                               refine st_nil ?_
                                               refine nx_cut ((q + 1, updB sn (F.getD q 0) true)) ⟨(by first | rfl | (refine int_eq ?_; omega)), trivial⟩ (by (iterate 169 refine agr_cons rfl ?_); exact agr_rfl) ⟨?_, ?_⟩
                                               · exact ⟨by omega, seen_put hsn, P18b.from_ From.rfl_, hrF2.from_ From.rfl_, hrC2.from_ From.rfl_, (hB.only O18 (hg67))⟩
                                               · show L.length - (q + 1) < L.length - q; omega
                                          (try first | replace Q254 := bn_t Q254 | replace Q254 := bn_f Q254)
                                          (try first | replace Q254 := bx_t Q254 | replace Q254 := bx_f Q254 | replace Q254 := be_t Q254 | replace Q254 := be_f Q254 | replace Q254 := of_decide_eq_true Q254 | replace Q254 := of_decide_eq_false Q254)
                                          obtain ⟨hca, hcst⟩ := hCm.at_ q (by omega) (by omega)
                                          refine cd_skip ?_
                                          refine nx_then ?_
                                          refine cd_seq ?_
                                          apply cd_drawn 11 [(110, eqp _), (111, eqp _), (112, eqp _), (113, eqp _), (114, eqp _), (115, eqp _), (116, eqp _), (117, eqp _), (118, eqp _), (11, eqp _), (12, eqp _)] (by kernel_rfl) (by kernel_rfl) ⟨eqp_mono _, eqp_mono _, eqp_mono _, eqp_mono _, eqp_mono _, eqp_mono _, eqp_mono _, eqp_mono _, eqp_mono _, eqp_mono _, eqp_mono _, trivial⟩
                                          case hop =>
                                           refine ⟨?_, ?_⟩
                                           · intro w257 D257
                                             show OpOK _ _ _ _ _ _ _
                                             exact ok_pure (ro_move (v := .slice _ _ _) rfl) rfl
                                           refine ⟨?_, ?_⟩
                                           · intro w258 D258
                                             show OpOK _ _ _ _ _ _ _
                                             exact ok_pure (ro_move (v := .int _ _) rfl) rfl
                                           refine ⟨?_, ?_⟩
                                           · intro w259 D259
                                             rintro _ rfl
                                             show OpOK _ _ _ _ _ _ _
                                             exact ok_pure (ro_subN (b := 1) rfl rfl (by omega)) rfl
                                           refine ⟨?_, ?_⟩
                                           · intro w260 D260
                                             rintro _ rfl _ rfl
                                             show OpOK _ _ _ _ _ _ _
                                             exact ok_pure (ro_indexAddr1 SufLawR_e24 rfl rfl (by omega)) rfl
                                           refine ⟨?_, ?_⟩
                                           · intro w261 D261
                                             rintro _ rfl
                                             show OpOK _ _ _ _ _ _ _
                                             exact ok_pure (ro_load SufLawR_g3 rfl (by exact cellF (From.rfl_.next D261) hcf1)) rfl
                                           refine ⟨?_, ?_⟩
                                           · intro w262 D262
                                             show OpOK _ _ _ _ _ _ _
                                             exact ok_pure (ro_move (v := .slice _ _ _) rfl) rfl
                                           refine ⟨?_, ?_⟩
                                           · intro w263 D263
                                             show OpOK _ _ _ _ _ _ _
                                             exact ok_pure (ro_move (v := .int _ _) rfl) rfl
                                           refine ⟨?_, ?_⟩
                                           · intro w264 D264
                                             rintro _ rfl _ rfl
                                             show OpOK _ _ _ _ _ _ _
                                             exact ok_pure (ro_indexAddr1 SufLawR_e24 rfl rfl (by omega)) rfl
                                           refine ⟨?_, ?_⟩
                                           · intro w265 D265
                                             rintro _ rfl
                                             show OpOK _ _ _ _ _ _ _
                                             exact ok_pure (ro_load SufLawR_g3 rfl (by exact cellF (From.rfl_.next D265) hcf2)) rfl
                                           refine ⟨?_, ?_⟩
                                           · intro w266 D266
                                             rintro _ rfl
                                             show OpOK _ _ _ _ _ _ _
                                             exact ok_pure (ro_assign (v := .int _ _) rfl) rfl
                                           refine ⟨?_, ?_⟩
                                           · intro w267 D267
                                             rintro _ rfl
                                             show OpOK _ _ _ _ _ _ _
                                             exact ok_pure (ro_assign (v := .int _ _) rfl) rfl
                                           exact trivial
                                          case hend =>
                                           intro w268 D268
                                           rintro _ rfl _ rfl _ rfl _ rfl _ rfl _ rfl _ rfl _ rfl _ rfl _ rfl _ rfl
                                           show St _ _ _ _ _ _ _
                                           refine st_nil ?_
                                           refine nx_then ?_
                                           refine cd_seq ?_
                                           refine cd_region ?_
                                           refine st_val (ro_assign (v := .int _ _) rfl) ?_
                                           refine st_nil ?_
                                           refine nx_then ?_
                                           refine cd_cut (G := Nat) [119, 120, 121, 122, 123, 124, 125, 126, 127, 128, 129, 130, 131, 132, 133, 134, 135, 136, 137, 138, 139, 140, 141, 142, 143, 144, 145, 146, 147, 148, 149] (fun h => [(13, .int .i64 (h : Nat))]) (fun h w' => agr Ln (F.getD q 0) (F.getD (q - 1) 0) h ∧ stop Ln (F.getD q 0) (F.getD (q - 1) 0) h ∧ Blk w' b67 4 (tabB L.length (updB sn (F.getD q 0) true)) ∧ RowOf iV w' (some ⟨bF, oF, none⟩) (cI F) ∧ RowOf iV w' (some ⟨bC, oC, none⟩) (cI C) ∧ w'.cell? ⟨bC, oC + q, none⟩ = some (.int .i64 ((C.getD q 0 : Nat) : Int)) ∧ From w w') ?_ ?_
                                           · refine cd_block ?_
                                             refine cd_loop (G := Nat) [119, 120, 121, 122, 123, 124, 125, 126, 127, 128, 129, 130, 131, 132, 133, 134, 135, 136, 137, 138, 139, 140, 141, 142, 143, 144, 145, 146, 147, 148, 149] (fun h => [(13, .int .i64 (h : Nat))]) (fun h w' => agr Ln (F.getD q 0) (F.getD (q - 1) 0) h ∧ Blk w' b67 4 (tabB L.length (updB sn (F.getD q 0) true)) ∧ RowOf iV w' (some ⟨bF, oF, none⟩) (cI F) ∧ RowOf iV w' (some ⟨bC, oC, none⟩) (cI C) ∧ w'.cell? ⟨bC, oC + q, none⟩ = some (.int .i64 ((C.getD q 0 : Nat) : Int)) ∧ From w w') (fun h => L.length - h) (0) ⟨rfl, trivial⟩ ?_ ?_
                                             · exact ⟨agr_zero (by omega) (by omega), P18b.from_ (From.rfl_.next D268), hrF2.from_ (From.rfl_.next D268), hrC2.from_ (From.rfl_.next D268), cellF (From.rfl_.next D268) hcc, ((hB.only O18 (hg67)).next D268)⟩
                                             rintro h ρ269 w269 ⟨hag, P18b, hrF2, hrC2, hcc, hB⟩
                                             refine cd_seq ?_
                                             refine cd_seq ?_
                                             have hb1 := hag.1
                                             have hb2 := hag.2.1
                                             rcases (show L.length ≤ F.getD (q - 1) 0 + h ∨ (F.getD (q - 1) 0 + h < L.length ∧ L.length ≤ F.getD q 0 + h) ∨ (F.getD (q - 1) 0 + h < L.length ∧ F.getD q 0 + h < L.length ∧ Ln.getD (F.getD q 0 + h) 0 = Ln.getD (F.getD (q - 1) 0 + h) 0) ∨ (F.getD (q - 1) 0 + h < L.length ∧ F.getD q 0 + h < L.length ∧ Ln.getD (F.getD q 0 + h) 0 ≠ Ln.getD (F.getD (q - 1) 0 + h) 0) by omega) with e1 | ⟨e1, e2⟩ | ⟨e1, e2, e3⟩ | ⟨e1, e2, e3⟩
                                             · have hst : stop Ln (F.getD q 0) (F.getD (q - 1) 0) h := fun x => by have := x.1; have := x.2.1; have := x.2.2; omega
                                               apply cd_drawn 29 [(119, eqp _), (120, eqp _), (121, eqp _), (122, eqp _), (123, eqp _), (124, eqp _), (125, eqp _), (126, eqp _), (127, eqp _), (128, eqp _), (129, eqp _), (130, eqp _), (131, eqp _), (132, eqp _), (133, eqp _), (134, eqp _), (135, eqp _), (136, eqp _), (137, eqp _), (138, eqp _), (139, eqp _), (140, eqp _), (141, eqp _), (142, eqp _), (143, eqp _), (144, eqp _), (145, eqp _), (146, eqp _), (147, eqp _)] (by kernel_rfl) (by kernel_rfl) ⟨eqp_mono _, eqp_mono _, eqp_mono _, eqp_mono _, eqp_mono _, eqp_mono _, eqp_mono _, eqp_mono _, eqp_mono _, eqp_mono _, eqp_mono _, eqp_mono _, eqp_mono _, eqp_mono _, eqp_mono _, eqp_mono _, eqp_mono _, eqp_mono _, eqp_mono _, eqp_mono _, eqp_mono _, eqp_mono _, eqp_mono _, eqp_mono _, eqp_mono _, eqp_mono _, eqp_mono _, eqp_mono _, eqp_mono _, trivial⟩
                                               case hop =>
                                                refine ⟨?_, ?_⟩
                                                · intro w271 D271
                                                  show OpOK _ _ _ _ _ _ _
                                                  exact ok_pure (ro_move (v := .int _ _) rfl) rfl
                                                refine ⟨?_, ?_⟩
                                                · intro w272 D272
                                                  show OpOK _ _ _ _ _ _ _
                                                  exact ok_pure (ro_move (v := .int _ _) rfl) rfl
                                                refine ⟨?_, ?_⟩
                                                · intro w273 D273
                                                  rintro _ rfl _ rfl
                                                  show OpOK _ _ _ _ _ _ _
                                                  exact ok_pure (ro_addN rfl rfl (by omega)) rfl
                                                refine ⟨?_, ?_⟩
                                                · intro w274 D274
                                                  show OpOK _ _ _ _ _ _ _
                                                  exact ok_pure (ro_move (v := .slice _ _ _) rfl) rfl
                                                refine ⟨?_, ?_⟩
                                                · intro w275 D275
                                                  rintro _ rfl
                                                  show OpOK _ _ _ _ _ _ _
                                                  exact ok_pure (ro_len SufLawR_l24 rfl) rfl
                                                refine ⟨?_, ?_⟩
                                                · intro w276 D276
                                                  rintro _ rfl _ rfl
                                                  show OpOK _ _ _ _ _ _ _
                                                  exact ok_pure (ro_bf (ro_lss rfl rfl) (decide_eq_false (by omega))) rfl
                                                refine ⟨?_, ?_⟩
                                                · intro w277 D277
                                                  rintro _ rfl
                                                  show OpOK _ _ _ _ _ _ _
                                                  exact ok_pure (ro_move (v := .bool _) rfl) rfl
                                                refine ⟨?_, ?_⟩
                                                · intro w278 D278
                                                  rintro _ rfl
                                                  show OpOK _ _ _ _ _ _ _
                                                  exact ok_gno rfl rfl rfl
                                                refine ⟨?_, ?_⟩
                                                · intro w279 D279
                                                  rintro _ rfl
                                                  show OpOK _ _ _ _ _ _ _
                                                  exact ok_gno rfl rfl rfl
                                                refine ⟨?_, ?_⟩
                                                · intro w280 D280
                                                  rintro _ rfl _ rfl _ rfl
                                                  show OpOK _ _ _ _ _ _ _
                                                  exact ok_gno rfl rfl rfl
                                                refine ⟨?_, ?_⟩
                                                · intro w281 D281
                                                  rintro _ rfl
                                                  show OpOK _ _ _ _ _ _ _
                                                  exact ok_gno rfl rfl rfl
                                                refine ⟨?_, ?_⟩
                                                · intro w282 D282
                                                  rintro _ rfl _ rfl
                                                  show OpOK _ _ _ _ _ _ _
                                                  exact ok_gno rfl rfl rfl
                                                refine ⟨?_, ?_⟩
                                                · intro w283 D283
                                                  rintro _ rfl _ rfl _ rfl
                                                  show OpOK _ _ _ _ _ _ _
                                                  exact ok_gno rfl rfl rfl
                                                refine ⟨?_, ?_⟩
                                                · intro w284 D284
                                                  rintro _ rfl _ rfl
                                                  show OpOK _ _ _ _ _ _ _
                                                  exact ok_pure (ro_pickF (v := .bool _) rfl rfl) rfl
                                                refine ⟨?_, ?_⟩
                                                · intro w285 D285
                                                  rintro _ rfl
                                                  show OpOK _ _ _ _ _ _ _
                                                  exact ok_pure (ro_move (v := .bool _) rfl) rfl
                                                refine ⟨?_, ?_⟩
                                                · intro w286 D286
                                                  rintro _ rfl
                                                  show OpOK _ _ _ _ _ _ _
                                                  exact ok_gno rfl rfl rfl
                                                refine ⟨?_, ?_⟩
                                                · intro w287 D287
                                                  rintro _ rfl
                                                  show OpOK _ _ _ _ _ _ _
                                                  exact ok_gno rfl rfl rfl
                                                refine ⟨?_, ?_⟩
                                                · intro w288 D288
                                                  rintro _ rfl
                                                  show OpOK _ _ _ _ _ _ _
                                                  exact ok_gno rfl rfl rfl
                                                refine ⟨?_, ?_⟩
                                                · intro w289 D289
                                                  rintro _ rfl _ rfl _ rfl
                                                  show OpOK _ _ _ _ _ _ _
                                                  exact ok_gno rfl rfl rfl
                                                refine ⟨?_, ?_⟩
                                                · intro w290 D290
                                                  rintro _ rfl _ rfl _ rfl
                                                  show OpOK _ _ _ _ _ _ _
                                                  exact ok_gno rfl rfl rfl
                                                refine ⟨?_, ?_⟩
                                                · intro w291 D291
                                                  rintro _ rfl _ rfl
                                                  show OpOK _ _ _ _ _ _ _
                                                  exact ok_gno rfl rfl rfl
                                                refine ⟨?_, ?_⟩
                                                · intro w292 D292
                                                  rintro _ rfl
                                                  show OpOK _ _ _ _ _ _ _
                                                  exact ok_gno rfl rfl rfl
                                                refine ⟨?_, ?_⟩
                                                · intro w293 D293
                                                  rintro _ rfl
                                                  show OpOK _ _ _ _ _ _ _
                                                  exact ok_gno rfl rfl rfl
                                                refine ⟨?_, ?_⟩
                                                · intro w294 D294
                                                  rintro _ rfl
                                                  show OpOK _ _ _ _ _ _ _
                                                  exact ok_gno rfl rfl rfl
                                                refine ⟨?_, ?_⟩
                                                · intro w295 D295
                                                  rintro _ rfl _ rfl _ rfl
                                                  show OpOK _ _ _ _ _ _ _
                                                  exact ok_gno rfl rfl rfl
                                                refine ⟨?_, ?_⟩
                                                · intro w296 D296
                                                  rintro _ rfl _ rfl _ rfl
                                                  show OpOK _ _ _ _ _ _ _
                                                  exact ok_gno rfl rfl rfl
                                                refine ⟨?_, ?_⟩
                                                · intro w297 D297
                                                  rintro _ rfl _ rfl
                                                  show OpOK _ _ _ _ _ _ _
                                                  exact ok_gno rfl rfl rfl
                                                refine ⟨?_, ?_⟩
                                                · intro w298 D298
                                                  rintro _ rfl _ rfl _ rfl
                                                  show OpOK _ _ _ _ _ _ _
                                                  exact ok_gno rfl rfl rfl
                                                refine ⟨?_, ?_⟩
                                                · intro w299 D299
                                                  rintro _ rfl _ rfl
                                                  show OpOK _ _ _ _ _ _ _
                                                  exact ok_pure (ro_pickF (v := .bool _) rfl rfl) rfl
                                                exact trivial
                                               case hend =>
                                                intro w300 D300
                                                rintro _ rfl _ rfl _ rfl _ rfl _ rfl _ rfl _ rfl _ rfl _ rfl _ rfl _ rfl _ rfl _ rfl _ rfl _ rfl _ rfl _ rfl _ rfl _ rfl _ rfl _ rfl _ rfl _ rfl _ rfl _ rfl _ rfl _ rfl _ rfl _ rfl
                                                show St _ _ _ _ _ _ _
                                                refine st_nil ?_
                                                refine nx_then ?_
                                                refine cd_condF rfl ?_
                                                refine cd_exit ?_
                                                refine ex_then ?_
                                                refine ex_then ?_
                                                refine ex_block ?_
                                                refine nx_cut (h) ⟨(by first | rfl | (refine int_eq ?_; omega)), trivial⟩ (by (iterate 61 refine agr_cons rfl ?_); exact agr_rfl) ?_
                                                exact ⟨hag, hst, P18b.from_ (From.rfl_.next D300), hrF2.from_ (From.rfl_.next D300), hrC2.from_ (From.rfl_.next D300), cellF (From.rfl_.next D300) hcc, (hB.next D300)⟩
                                             · have hst : stop Ln (F.getD q 0) (F.getD (q - 1) 0) h := fun x => by have := x.1; have := x.2.1; have := x.2.2; omega
                                               apply cd_drawn 29 [(119, eqp _), (120, eqp _), (121, eqp _), (122, eqp _), (123, eqp _), (124, eqp _), (125, eqp _), (126, eqp _), (127, eqp _), (128, eqp _), (129, eqp _), (130, eqp _), (131, eqp _), (132, eqp _), (133, eqp _), (134, eqp _), (135, eqp _), (136, eqp _), (137, eqp _), (138, eqp _), (139, eqp _), (140, eqp _), (141, eqp _), (142, eqp _), (143, eqp _), (144, eqp _), (145, eqp _), (146, eqp _), (147, eqp _)] (by kernel_rfl) (by kernel_rfl) ⟨eqp_mono _, eqp_mono _, eqp_mono _, eqp_mono _, eqp_mono _, eqp_mono _, eqp_mono _, eqp_mono _, eqp_mono _, eqp_mono _, eqp_mono _, eqp_mono _, eqp_mono _, eqp_mono _, eqp_mono _, eqp_mono _, eqp_mono _, eqp_mono _, eqp_mono _, eqp_mono _, eqp_mono _, eqp_mono _, eqp_mono _, eqp_mono _, eqp_mono _, eqp_mono _, eqp_mono _, eqp_mono _, eqp_mono _, trivial⟩
                                               case hop =>
                                                refine ⟨?_, ?_⟩
                                                · intro w302 D302
                                                  show OpOK _ _ _ _ _ _ _
                                                  exact ok_pure (ro_move (v := .int _ _) rfl) rfl
                                                refine ⟨?_, ?_⟩
                                                · intro w303 D303
                                                  show OpOK _ _ _ _ _ _ _
                                                  exact ok_pure (ro_move (v := .int _ _) rfl) rfl
                                                refine ⟨?_, ?_⟩
                                                · intro w304 D304
                                                  rintro _ rfl _ rfl
                                                  show OpOK _ _ _ _ _ _ _
                                                  exact ok_pure (ro_addN rfl rfl (by omega)) rfl
                                                refine ⟨?_, ?_⟩
                                                · intro w305 D305
                                                  show OpOK _ _ _ _ _ _ _
                                                  exact ok_pure (ro_move (v := .slice _ _ _) rfl) rfl
                                                refine ⟨?_, ?_⟩
                                                · intro w306 D306
                                                  rintro _ rfl
                                                  show OpOK _ _ _ _ _ _ _
                                                  exact ok_pure (ro_len SufLawR_l24 rfl) rfl
                                                refine ⟨?_, ?_⟩
                                                · intro w307 D307
                                                  rintro _ rfl _ rfl
                                                  show OpOK _ _ _ _ _ _ _
                                                  exact ok_pure (ro_bt (ro_lss rfl rfl) (decide_eq_true (by omega))) rfl
                                                refine ⟨?_, ?_⟩
                                                · intro w308 D308
                                                  rintro _ rfl
                                                  show OpOK _ _ _ _ _ _ _
                                                  exact ok_pure (ro_move (v := .bool _) rfl) rfl
                                                refine ⟨?_, ?_⟩
                                                · intro w309 D309
                                                  rintro _ rfl
                                                  show OpOK _ _ _ _ _ _ _
                                                  exact ok_gpure rfl (ro_move (v := .int _ _) rfl) rfl
                                                refine ⟨?_, ?_⟩
                                                · intro w310 D310
                                                  rintro _ rfl
                                                  show OpOK _ _ _ _ _ _ _
                                                  exact ok_gpure rfl (ro_move (v := .int _ _) rfl) rfl
                                                refine ⟨?_, ?_⟩
                                                · intro w311 D311
                                                  rintro _ rfl _ rfl _ rfl
                                                  show OpOK _ _ _ _ _ _ _
                                                  exact ok_gpure rfl (ro_addN rfl rfl (by omega)) rfl
                                                refine ⟨?_, ?_⟩
                                                · intro w312 D312
                                                  rintro _ rfl
                                                  show OpOK _ _ _ _ _ _ _
                                                  exact ok_gpure rfl (ro_move (v := .slice _ _ _) rfl) rfl
                                                refine ⟨?_, ?_⟩
                                                · intro w313 D313
                                                  rintro _ rfl _ rfl
                                                  show OpOK _ _ _ _ _ _ _
                                                  exact ok_gpure rfl (ro_len SufLawR_l24 rfl) rfl
                                                refine ⟨?_, ?_⟩
                                                · intro w314 D314
                                                  rintro _ rfl _ rfl _ rfl
                                                  show OpOK _ _ _ _ _ _ _
                                                  exact ok_gpure rfl (ro_bf (ro_lss rfl rfl) (decide_eq_false (by omega))) rfl
                                                refine ⟨?_, ?_⟩
                                                · intro w315 D315
                                                  rintro _ rfl _ rfl
                                                  show OpOK _ _ _ _ _ _ _
                                                  exact ok_pure (ro_pickT (v := .bool _) rfl rfl) rfl
                                                refine ⟨?_, ?_⟩
                                                · intro w316 D316
                                                  rintro _ rfl
                                                  show OpOK _ _ _ _ _ _ _
                                                  exact ok_pure (ro_move (v := .bool _) rfl) rfl
                                                refine ⟨?_, ?_⟩
                                                · intro w317 D317
                                                  rintro _ rfl
                                                  show OpOK _ _ _ _ _ _ _
                                                  exact ok_gno rfl rfl rfl
                                                refine ⟨?_, ?_⟩
                                                · intro w318 D318
                                                  rintro _ rfl
                                                  show OpOK _ _ _ _ _ _ _
                                                  exact ok_gno rfl rfl rfl
                                                refine ⟨?_, ?_⟩
                                                · intro w319 D319
                                                  rintro _ rfl
                                                  show OpOK _ _ _ _ _ _ _
                                                  exact ok_gno rfl rfl rfl
                                                refine ⟨?_, ?_⟩
                                                · intro w320 D320
                                                  rintro _ rfl _ rfl _ rfl
                                                  show OpOK _ _ _ _ _ _ _
                                                  exact ok_gno rfl rfl rfl
                                                refine ⟨?_, ?_⟩
                                                · intro w321 D321
                                                  rintro _ rfl _ rfl _ rfl
                                                  show OpOK _ _ _ _ _ _ _
                                                  exact ok_gno rfl rfl rfl
                                                refine ⟨?_, ?_⟩
                                                · intro w322 D322
                                                  rintro _ rfl _ rfl
                                                  show OpOK _ _ _ _ _ _ _
                                                  exact ok_gno rfl rfl rfl
                                                refine ⟨?_, ?_⟩
                                                · intro w323 D323
                                                  rintro _ rfl
                                                  show OpOK _ _ _ _ _ _ _
                                                  exact ok_gno rfl rfl rfl
                                                refine ⟨?_, ?_⟩
                                                · intro w324 D324
                                                  rintro _ rfl
                                                  show OpOK _ _ _ _ _ _ _
                                                  exact ok_gno rfl rfl rfl
                                                refine ⟨?_, ?_⟩
                                                · intro w325 D325
                                                  rintro _ rfl
                                                  show OpOK _ _ _ _ _ _ _
                                                  exact ok_gno rfl rfl rfl
                                                refine ⟨?_, ?_⟩
                                                · intro w326 D326
                                                  rintro _ rfl _ rfl _ rfl
                                                  show OpOK _ _ _ _ _ _ _
                                                  exact ok_gno rfl rfl rfl
                                                refine ⟨?_, ?_⟩
                                                · intro w327 D327
                                                  rintro _ rfl _ rfl _ rfl
                                                  show OpOK _ _ _ _ _ _ _
                                                  exact ok_gno rfl rfl rfl
                                                refine ⟨?_, ?_⟩
                                                · intro w328 D328
                                                  rintro _ rfl _ rfl
                                                  show OpOK _ _ _ _ _ _ _
                                                  exact ok_gno rfl rfl rfl
                                                refine ⟨?_, ?_⟩
                                                · intro w329 D329
                                                  rintro _ rfl _ rfl _ rfl
                                                  show OpOK _ _ _ _ _ _ _
                                                  exact ok_gno rfl rfl rfl
                                                refine ⟨?_, ?_⟩
                                                · intro w330 D330
                                                  rintro _ rfl _ rfl
                                                  show OpOK _ _ _ _ _ _ _
                                                  exact ok_pure (ro_pickF (v := .bool _) rfl rfl) rfl
                                                exact trivial
                                               case hend =>
                                                intro w331 D331
                                                rintro _ rfl _ rfl _ rfl _ rfl _ rfl _ rfl _ rfl _ rfl _ rfl _ rfl _ rfl _ rfl _ rfl _ rfl _ rfl _ rfl _ rfl _ rfl _ rfl _ rfl _ rfl _ rfl _ rfl _ rfl _ rfl _ rfl _ rfl _ rfl _ rfl
                                                show St _ _ _ _ _ _ _
                                                refine st_nil ?_
                                                refine nx_then ?_
                                                refine cd_condF rfl ?_
                                                refine cd_exit ?_
                                                refine ex_then ?_
                                                refine ex_then ?_
                                                refine ex_block ?_
                                                refine nx_cut (h) ⟨(by first | rfl | (refine int_eq ?_; omega)), trivial⟩ (by (iterate 61 refine agr_cons rfl ?_); exact agr_rfl) ?_
                                                exact ⟨hag, hst, P18b.from_ (From.rfl_.next D331), hrF2.from_ (From.rfl_.next D331), hrC2.from_ (From.rfl_.next D331), cellF (From.rfl_.next D331) hcc, (hB.next D331)⟩
                                             · apply cd_drawn 29 [(119, eqp _), (120, eqp _), (121, eqp _), (122, eqp _), (123, eqp _), (124, eqp _), (125, eqp _), (126, eqp _), (127, eqp _), (128, eqp _), (129, eqp _), (130, eqp _), (131, eqp _), (132, eqp _), (133, eqp _), (134, eqp _), (135, eqp _), (136, eqp _), (137, eqp _), (138, eqp _), (139, eqp _), (140, eqp _), (141, eqp _), (142, eqp _), (143, eqp _), (144, eqp _), (145, eqp _), (146, eqp _), (147, eqp _)] (by kernel_rfl) (by kernel_rfl) ⟨eqp_mono _, eqp_mono _, eqp_mono _, eqp_mono _, eqp_mono _, eqp_mono _, eqp_mono _, eqp_mono _, eqp_mono _, eqp_mono _, eqp_mono _, eqp_mono _, eqp_mono _, eqp_mono _, eqp_mono _, eqp_mono _, eqp_mono _, eqp_mono _, eqp_mono _, eqp_mono _, eqp_mono _, eqp_mono _, eqp_mono _, eqp_mono _, eqp_mono _, eqp_mono _, eqp_mono _, eqp_mono _, eqp_mono _, trivial⟩
                                               case hop =>
                                                refine ⟨?_, ?_⟩
                                                · intro w333 D333
                                                  show OpOK _ _ _ _ _ _ _
                                                  exact ok_pure (ro_move (v := .int _ _) rfl) rfl
                                                refine ⟨?_, ?_⟩
                                                · intro w334 D334
                                                  show OpOK _ _ _ _ _ _ _
                                                  exact ok_pure (ro_move (v := .int _ _) rfl) rfl
                                                refine ⟨?_, ?_⟩
                                                · intro w335 D335
                                                  rintro _ rfl _ rfl
                                                  show OpOK _ _ _ _ _ _ _
                                                  exact ok_pure (ro_addN rfl rfl (by omega)) rfl
                                                refine ⟨?_, ?_⟩
                                                · intro w336 D336
                                                  show OpOK _ _ _ _ _ _ _
                                                  exact ok_pure (ro_move (v := .slice _ _ _) rfl) rfl
                                                refine ⟨?_, ?_⟩
                                                · intro w337 D337
                                                  rintro _ rfl
                                                  show OpOK _ _ _ _ _ _ _
                                                  exact ok_pure (ro_len SufLawR_l24 rfl) rfl
                                                refine ⟨?_, ?_⟩
                                                · intro w338 D338
                                                  rintro _ rfl _ rfl
                                                  show OpOK _ _ _ _ _ _ _
                                                  exact ok_pure (ro_bt (ro_lss rfl rfl) (decide_eq_true (by omega))) rfl
                                                refine ⟨?_, ?_⟩
                                                · intro w339 D339
                                                  rintro _ rfl
                                                  show OpOK _ _ _ _ _ _ _
                                                  exact ok_pure (ro_move (v := .bool _) rfl) rfl
                                                refine ⟨?_, ?_⟩
                                                · intro w340 D340
                                                  rintro _ rfl
                                                  show OpOK _ _ _ _ _ _ _
                                                  exact ok_gpure rfl (ro_move (v := .int _ _) rfl) rfl
                                                refine ⟨?_, ?_⟩
                                                · intro w341 D341
                                                  rintro _ rfl
                                                  show OpOK _ _ _ _ _ _ _
                                                  exact ok_gpure rfl (ro_move (v := .int _ _) rfl) rfl
                                                refine ⟨?_, ?_⟩
                                                · intro w342 D342
                                                  rintro _ rfl _ rfl _ rfl
                                                  show OpOK _ _ _ _ _ _ _
                                                  exact ok_gpure rfl (ro_addN rfl rfl (by omega)) rfl
                                                refine ⟨?_, ?_⟩
                                                · intro w343 D343
                                                  rintro _ rfl
                                                  show OpOK _ _ _ _ _ _ _
                                                  exact ok_gpure rfl (ro_move (v := .slice _ _ _) rfl) rfl
                                                refine ⟨?_, ?_⟩
                                                · intro w344 D344
                                                  rintro _ rfl _ rfl
                                                  show OpOK _ _ _ _ _ _ _
                                                  exact ok_gpure rfl (ro_len SufLawR_l24 rfl) rfl
                                                refine ⟨?_, ?_⟩
                                                · intro w345 D345
                                                  rintro _ rfl _ rfl _ rfl
                                                  show OpOK _ _ _ _ _ _ _
                                                  exact ok_gpure rfl (ro_bt (ro_lss rfl rfl) (decide_eq_true (by omega))) rfl
                                                refine ⟨?_, ?_⟩
                                                · intro w346 D346
                                                  rintro _ rfl _ rfl
                                                  show OpOK _ _ _ _ _ _ _
                                                  exact ok_pure (ro_pickT (v := .bool _) rfl rfl) rfl
                                                refine ⟨?_, ?_⟩
                                                · intro w347 D347
                                                  rintro _ rfl
                                                  show OpOK _ _ _ _ _ _ _
                                                  exact ok_pure (ro_move (v := .bool _) rfl) rfl
                                                refine ⟨?_, ?_⟩
                                                · intro w348 D348
                                                  rintro _ rfl
                                                  show OpOK _ _ _ _ _ _ _
                                                  exact ok_gpure rfl (ro_move (v := .slice _ _ _) rfl) rfl
                                                refine ⟨?_, ?_⟩
                                                · intro w349 D349
                                                  rintro _ rfl
                                                  show OpOK _ _ _ _ _ _ _
                                                  exact ok_gpure rfl (ro_move (v := .int _ _) rfl) rfl
                                                refine ⟨?_, ?_⟩
                                                · intro w350 D350
                                                  rintro _ rfl
                                                  show OpOK _ _ _ _ _ _ _
                                                  exact ok_gpure rfl (ro_move (v := .int _ _) rfl) rfl
                                                refine ⟨?_, ?_⟩
                                                · intro w351 D351
                                                  rintro _ rfl _ rfl _ rfl
                                                  show OpOK _ _ _ _ _ _ _
                                                  exact ok_gpure rfl (ro_addN rfl rfl (by omega)) rfl
                                                refine ⟨?_, ?_⟩
                                                · intro w352 D352
                                                  rintro _ rfl _ rfl _ rfl
                                                  show OpOK _ _ _ _ _ _ _
                                                  exact ok_gpure rfl (ro_indexAddr1 SufLawR_e24 rfl rfl (by omega)) rfl
                                                refine ⟨?_, ?_⟩
                                                · intro w353 D353
                                                  rintro _ rfl _ rfl
                                                  show OpOK _ _ _ _ _ _ _
                                                  exact ok_gpure rfl (ro_load SufLawR_g3 rfl (by exact cellF (hB.next D353) (hcL _ (by omega)))) rfl
                                                refine ⟨?_, ?_⟩
                                                · intro w354 D354
                                                  rintro _ rfl
                                                  show OpOK _ _ _ _ _ _ _
                                                  exact ok_gpure rfl (ro_move (v := .slice _ _ _) rfl) rfl
                                                refine ⟨?_, ?_⟩
                                                · intro w355 D355
                                                  rintro _ rfl
                                                  show OpOK _ _ _ _ _ _ _
                                                  exact ok_gpure rfl (ro_move (v := .int _ _) rfl) rfl
                                                refine ⟨?_, ?_⟩
                                                · intro w356 D356
                                                  rintro _ rfl
                                                  show OpOK _ _ _ _ _ _ _
                                                  exact ok_gpure rfl (ro_move (v := .int _ _) rfl) rfl
                                                refine ⟨?_, ?_⟩
                                                · intro w357 D357
                                                  rintro _ rfl _ rfl _ rfl
                                                  show OpOK _ _ _ _ _ _ _
                                                  exact ok_gpure rfl (ro_addN rfl rfl (by omega)) rfl
                                                refine ⟨?_, ?_⟩
                                                · intro w358 D358
                                                  rintro _ rfl _ rfl _ rfl
                                                  show OpOK _ _ _ _ _ _ _
                                                  exact ok_gpure rfl (ro_indexAddr1 SufLawR_e24 rfl rfl (by omega)) rfl
                                                refine ⟨?_, ?_⟩
                                                · intro w359 D359
                                                  rintro _ rfl _ rfl
                                                  show OpOK _ _ _ _ _ _ _
                                                  exact ok_gpure rfl (ro_load SufLawR_g3 rfl (by exact cellF (hB.next D359) (hcL _ (by omega)))) rfl
                                                refine ⟨?_, ?_⟩
                                                · intro w360 D360
                                                  rintro _ rfl _ rfl _ rfl
                                                  show OpOK _ _ _ _ _ _ _
                                                  exact ok_gpure rfl (ro_bt (ro_eql rfl rfl) (by rw [e3]; exact beq_self_eq_true _)) rfl
                                                refine ⟨?_, ?_⟩
                                                · intro w361 D361
                                                  rintro _ rfl _ rfl
                                                  show OpOK _ _ _ _ _ _ _
                                                  exact ok_pure (ro_pickT (v := .bool _) rfl rfl) rfl
                                                exact trivial
                                               case hend =>
                                                intro w362 D362
                                                rintro _ rfl _ rfl _ rfl _ rfl _ rfl _ rfl _ rfl _ rfl _ rfl _ rfl _ rfl _ rfl _ rfl _ rfl _ rfl _ rfl _ rfl _ rfl _ rfl _ rfl _ rfl _ rfl _ rfl _ rfl _ rfl _ rfl _ rfl _ rfl _ rfl
                                                show St _ _ _ _ _ _ _
                                                refine st_nil ?_
                                                refine nx_then ?_
                                                refine cd_condT rfl ?_
                                                refine cd_skip ?_
                                                refine nx_then ?_
                                                refine cd_block ?_
                                                refine cd_region ?_
                                                refine st_val (ro_move (v := .int _ _) rfl) ?_
                                                refine st_val (ro_add64 rfl rfl (by omega)) ?_
                                                refine st_val (ro_assign (v := .int _ _) rfl) ?_
                                                refine st_nil ?_
                                                refine nx_block ?_
                                                refine nx_cut (h + 1) ⟨(by first | rfl | (refine int_eq ?_; omega)), trivial⟩ (by (iterate 64 refine agr_cons rfl ?_); exact agr_rfl) ⟨?_, ?_⟩
                                                · exact ⟨agr_succ hag (by omega) (by omega) e3, P18b.from_ (From.rfl_.next D362), hrF2.from_ (From.rfl_.next D362), hrC2.from_ (From.rfl_.next D362), cellF (From.rfl_.next D362) hcc, (hB.next D362)⟩
                                                · show L.length - (h + 1) < L.length - h; have := hag.1; omega
                                             · have hst : stop Ln (F.getD q 0) (F.getD (q - 1) 0) h := fun x => by have := x.1; have := x.2.1; have := x.2.2; omega
                                               apply cd_drawn 29 [(119, eqp _), (120, eqp _), (121, eqp _), (122, eqp _), (123, eqp _), (124, eqp _), (125, eqp _), (126, eqp _), (127, eqp _), (128, eqp _), (129, eqp _), (130, eqp _), (131, eqp _), (132, eqp _), (133, eqp _), (134, eqp _), (135, eqp _), (136, eqp _), (137, eqp _), (138, eqp _), (139, eqp _), (140, eqp _), (141, eqp _), (142, eqp _), (143, eqp _), (144, eqp _), (145, eqp _), (146, eqp _), (147, eqp _)] (by kernel_rfl) (by kernel_rfl) ⟨eqp_mono _, eqp_mono _, eqp_mono _, eqp_mono _, eqp_mono _, eqp_mono _, eqp_mono _, eqp_mono _, eqp_mono _, eqp_mono _, eqp_mono _, eqp_mono _, eqp_mono _, eqp_mono _, eqp_mono _, eqp_mono _, eqp_mono _, eqp_mono _, eqp_mono _, eqp_mono _, eqp_mono _, eqp_mono _, eqp_mono _, eqp_mono _, eqp_mono _, eqp_mono _, eqp_mono _, eqp_mono _, eqp_mono _, trivial⟩
                                               case hop =>
                                                refine ⟨?_, ?_⟩
                                                · intro w364 D364
                                                  show OpOK _ _ _ _ _ _ _
                                                  exact ok_pure (ro_move (v := .int _ _) rfl) rfl
                                                refine ⟨?_, ?_⟩
                                                · intro w365 D365
                                                  show OpOK _ _ _ _ _ _ _
                                                  exact ok_pure (ro_move (v := .int _ _) rfl) rfl
                                                refine ⟨?_, ?_⟩
                                                · intro w366 D366
                                                  rintro _ rfl _ rfl
                                                  show OpOK _ _ _ _ _ _ _
                                                  exact ok_pure (ro_addN rfl rfl (by omega)) rfl
                                                refine ⟨?_, ?_⟩
                                                · intro w367 D367
                                                  show OpOK _ _ _ _ _ _ _
                                                  exact ok_pure (ro_move (v := .slice _ _ _) rfl) rfl
                                                refine ⟨?_, ?_⟩
                                                · intro w368 D368
                                                  rintro _ rfl
                                                  show OpOK _ _ _ _ _ _ _
                                                  exact ok_pure (ro_len SufLawR_l24 rfl) rfl
                                                refine ⟨?_, ?_⟩
                                                · intro w369 D369
                                                  rintro _ rfl _ rfl
                                                  show OpOK _ _ _ _ _ _ _
                                                  exact ok_pure (ro_bt (ro_lss rfl rfl) (decide_eq_true (by omega))) rfl
                                                refine ⟨?_, ?_⟩
                                                · intro w370 D370
                                                  rintro _ rfl
                                                  show OpOK _ _ _ _ _ _ _
                                                  exact ok_pure (ro_move (v := .bool _) rfl) rfl
                                                refine ⟨?_, ?_⟩
                                                · intro w371 D371
                                                  rintro _ rfl
                                                  show OpOK _ _ _ _ _ _ _
                                                  exact ok_gpure rfl (ro_move (v := .int _ _) rfl) rfl
                                                refine ⟨?_, ?_⟩
                                                · intro w372 D372
                                                  rintro _ rfl
                                                  show OpOK _ _ _ _ _ _ _
                                                  exact ok_gpure rfl (ro_move (v := .int _ _) rfl) rfl
                                                refine ⟨?_, ?_⟩
                                                · intro w373 D373
                                                  rintro _ rfl _ rfl _ rfl
                                                  show OpOK _ _ _ _ _ _ _
                                                  exact ok_gpure rfl (ro_addN rfl rfl (by omega)) rfl
                                                refine ⟨?_, ?_⟩
                                                · intro w374 D374
                                                  rintro _ rfl
                                                  show OpOK _ _ _ _ _ _ _
                                                  exact ok_gpure rfl (ro_move (v := .slice _ _ _) rfl) rfl
                                                refine ⟨?_, ?_⟩
                                                · intro w375 D375
                                                  rintro _ rfl _ rfl
                                                  show OpOK _ _ _ _ _ _ _
                                                  exact ok_gpure rfl (ro_len SufLawR_l24 rfl) rfl
                                                refine ⟨?_, ?_⟩
                                                · intro w376 D376
                                                  rintro _ rfl _ rfl _ rfl
                                                  show OpOK _ _ _ _ _ _ _
                                                  exact ok_gpure rfl (ro_bt (ro_lss rfl rfl) (decide_eq_true (by omega))) rfl
                                                refine ⟨?_, ?_⟩
                                                · intro w377 D377
                                                  rintro _ rfl _ rfl
                                                  show OpOK _ _ _ _ _ _ _
                                                  exact ok_pure (ro_pickT (v := .bool _) rfl rfl) rfl
                                                refine ⟨?_, ?_⟩
                                                · intro w378 D378
                                                  rintro _ rfl
                                                  show OpOK _ _ _ _ _ _ _
                                                  exact ok_pure (ro_move (v := .bool _) rfl) rfl
                                                refine ⟨?_, ?_⟩
                                                · intro w379 D379
                                                  rintro _ rfl
                                                  show OpOK _ _ _ _ _ _ _
                                                  exact ok_gpure rfl (ro_move (v := .slice _ _ _) rfl) rfl
                                                refine ⟨?_, ?_⟩
                                                · intro w380 D380
                                                  rintro _ rfl
                                                  show OpOK _ _ _ _ _ _ _
                                                  exact ok_gpure rfl (ro_move (v := .int _ _) rfl) rfl
                                                refine ⟨?_, ?_⟩
                                                · intro w381 D381
                                                  rintro _ rfl
                                                  show OpOK _ _ _ _ _ _ _
                                                  exact ok_gpure rfl (ro_move (v := .int _ _) rfl) rfl
                                                refine ⟨?_, ?_⟩
                                                · intro w382 D382
                                                  rintro _ rfl _ rfl _ rfl
                                                  show OpOK _ _ _ _ _ _ _
                                                  exact ok_gpure rfl (ro_addN rfl rfl (by omega)) rfl
                                                refine ⟨?_, ?_⟩
                                                · intro w383 D383
                                                  rintro _ rfl _ rfl _ rfl
                                                  show OpOK _ _ _ _ _ _ _
                                                  exact ok_gpure rfl (ro_indexAddr1 SufLawR_e24 rfl rfl (by omega)) rfl
                                                refine ⟨?_, ?_⟩
                                                · intro w384 D384
                                                  rintro _ rfl _ rfl
                                                  show OpOK _ _ _ _ _ _ _
                                                  exact ok_gpure rfl (ro_load SufLawR_g3 rfl (by exact cellF (hB.next D384) (hcL _ (by omega)))) rfl
                                                refine ⟨?_, ?_⟩
                                                · intro w385 D385
                                                  rintro _ rfl
                                                  show OpOK _ _ _ _ _ _ _
                                                  exact ok_gpure rfl (ro_move (v := .slice _ _ _) rfl) rfl
                                                refine ⟨?_, ?_⟩
                                                · intro w386 D386
                                                  rintro _ rfl
                                                  show OpOK _ _ _ _ _ _ _
                                                  exact ok_gpure rfl (ro_move (v := .int _ _) rfl) rfl
                                                refine ⟨?_, ?_⟩
                                                · intro w387 D387
                                                  rintro _ rfl
                                                  show OpOK _ _ _ _ _ _ _
                                                  exact ok_gpure rfl (ro_move (v := .int _ _) rfl) rfl
                                                refine ⟨?_, ?_⟩
                                                · intro w388 D388
                                                  rintro _ rfl _ rfl _ rfl
                                                  show OpOK _ _ _ _ _ _ _
                                                  exact ok_gpure rfl (ro_addN rfl rfl (by omega)) rfl
                                                refine ⟨?_, ?_⟩
                                                · intro w389 D389
                                                  rintro _ rfl _ rfl _ rfl
                                                  show OpOK _ _ _ _ _ _ _
                                                  exact ok_gpure rfl (ro_indexAddr1 SufLawR_e24 rfl rfl (by omega)) rfl
                                                refine ⟨?_, ?_⟩
                                                · intro w390 D390
                                                  rintro _ rfl _ rfl
                                                  show OpOK _ _ _ _ _ _ _
                                                  exact ok_gpure rfl (ro_load SufLawR_g3 rfl (by exact cellF (hB.next D390) (hcL _ (by omega)))) rfl
                                                refine ⟨?_, ?_⟩
                                                · intro w391 D391
                                                  rintro _ rfl _ rfl _ rfl
                                                  show OpOK _ _ _ _ _ _ _
                                                  exact ok_gpure rfl (ro_bf (ro_eql rfl rfl) (beq_false_of_ne (by omega))) rfl
                                                refine ⟨?_, ?_⟩
                                                · intro w392 D392
                                                  rintro _ rfl _ rfl
                                                  show OpOK _ _ _ _ _ _ _
                                                  exact ok_pure (ro_pickT (v := .bool _) rfl rfl) rfl
                                                exact trivial
                                               case hend =>
                                                intro w393 D393
                                                rintro _ rfl _ rfl _ rfl _ rfl _ rfl _ rfl _ rfl _ rfl _ rfl _ rfl _ rfl _ rfl _ rfl _ rfl _ rfl _ rfl _ rfl _ rfl _ rfl _ rfl _ rfl _ rfl _ rfl _ rfl _ rfl _ rfl _ rfl _ rfl _ rfl
                                                show St _ _ _ _ _ _ _
                                                refine st_nil ?_
                                                refine nx_then ?_
                                                refine cd_condF rfl ?_
                                                refine cd_exit ?_
                                                refine ex_then ?_
                                                refine ex_then ?_
                                                refine ex_block ?_
                                                refine nx_cut (h) ⟨(by first | rfl | (refine int_eq ?_; omega)), trivial⟩ (by (iterate 61 refine agr_cons rfl ?_); exact agr_rfl) ?_
                                                exact ⟨hag, hst, P18b.from_ (From.rfl_.next D393), hrF2.from_ (From.rfl_.next D393), hrC2.from_ (From.rfl_.next D393), cellF (From.rfl_.next D393) hcc, (hB.next D393)⟩
                                           rintro h ρ394 w394 ⟨hag, hst, P18b, hrF2, hrC2, hcc, hB⟩
                                           refine cd_seq ?_
                                           have hcv := lcp_uniq hca hcst hag hst
                                           obtain ⟨hr1, hr2⟩ := rises hSA (by omega) (by omega) hag hst
                                           rcases (show L.length ≤ F.getD (q - 1) 0 + h ∨ F.getD (q - 1) 0 + h < L.length by omega) with e1 | e1
                                           · apply cd_drawn 37 [(150, eqp _), (151, eqp _), (152, eqp _), (153, eqp _), (154, eqp _), (155, eqp _), (156, eqp _), (157, eqp _), (158, eqp _), (159, eqp _), (160, eqp _), (161, eqp _), (162, eqp _), (163, eqp _), (164, eqp _), (165, eqp _), (166, eqp _), (167, eqp _), (168, eqp _), (169, eqp _), (170, eqp _), (171, eqp _), (172, eqp _), (173, eqp _), (174, eqp _), (175, eqp _), (176, eqp _), (177, eqp _), (178, eqp _), (179, eqp _), (180, eqp _), (181, eqp _), (182, eqp _), (183, eqp _), (184, eqp _), (185, eqp _), (186, eqp _)] (by kernel_rfl) (by kernel_rfl) ⟨eqp_mono _, eqp_mono _, eqp_mono _, eqp_mono _, eqp_mono _, eqp_mono _, eqp_mono _, eqp_mono _, eqp_mono _, eqp_mono _, eqp_mono _, eqp_mono _, eqp_mono _, eqp_mono _, eqp_mono _, eqp_mono _, eqp_mono _, eqp_mono _, eqp_mono _, eqp_mono _, eqp_mono _, eqp_mono _, eqp_mono _, eqp_mono _, eqp_mono _, eqp_mono _, eqp_mono _, eqp_mono _, eqp_mono _, eqp_mono _, eqp_mono _, eqp_mono _, eqp_mono _, eqp_mono _, eqp_mono _, eqp_mono _, eqp_mono _, trivial⟩
                                             case hop =>
                                              refine ⟨?_, ?_⟩
                                              · intro w396 D396
                                                show OpOK _ _ _ _ _ _ _
                                                exact ok_pure (ro_move (v := .slice _ _ _) rfl) rfl
                                              refine ⟨?_, ?_⟩
                                              · intro w397 D397
                                                show OpOK _ _ _ _ _ _ _
                                                exact ok_pure (ro_move (v := .int _ _) rfl) rfl
                                              refine ⟨?_, ?_⟩
                                              · intro w398 D398
                                                rintro _ rfl _ rfl
                                                show OpOK _ _ _ _ _ _ _
                                                exact ok_pure (ro_indexAddr1 SufLawR_e24 rfl rfl (by omega)) rfl
                                              refine ⟨?_, ?_⟩
                                              · intro w399 D399
                                                rintro _ rfl
                                                show OpOK _ _ _ _ _ _ _
                                                exact ok_pure (ro_load SufLawR_g3 rfl (by exact cellF (From.rfl_.next D399) hcc)) rfl
                                              refine ⟨?_, ?_⟩
                                              · intro w400 D400
                                                show OpOK _ _ _ _ _ _ _
                                                exact ok_pure (ro_move (v := .int _ _) rfl) rfl
                                              refine ⟨?_, ?_⟩
                                              · intro w401 D401
                                                rintro _ rfl _ rfl
                                                show OpOK _ _ _ _ _ _ _
                                                exact ok_pure (ro_bf (ro_neq rfl rfl) (by rw [hcv]; simp)) rfl
                                              refine ⟨?_, ?_⟩
                                              · intro w402 D402
                                                rintro _ rfl
                                                show OpOK _ _ _ _ _ _ _
                                                exact ok_pure (ro_move (v := .bool _) rfl) rfl
                                              refine ⟨?_, ?_⟩
                                              · intro w403 D403
                                                rintro _ rfl
                                                show OpOK _ _ _ _ _ _ _
                                                exact ok_gpure rfl (ro_move (v := .int _ _) rfl) rfl
                                              refine ⟨?_, ?_⟩
                                              · intro w404 D404
                                                rintro _ rfl
                                                show OpOK _ _ _ _ _ _ _
                                                exact ok_gpure rfl (ro_move (v := .int _ _) rfl) rfl
                                              refine ⟨?_, ?_⟩
                                              · intro w405 D405
                                                rintro _ rfl _ rfl _ rfl
                                                show OpOK _ _ _ _ _ _ _
                                                exact ok_gpure rfl (ro_addN rfl rfl (by omega)) rfl
                                              refine ⟨?_, ?_⟩
                                              · intro w406 D406
                                                rintro _ rfl
                                                show OpOK _ _ _ _ _ _ _
                                                exact ok_gpure rfl (ro_move (v := .slice _ _ _) rfl) rfl
                                              refine ⟨?_, ?_⟩
                                              · intro w407 D407
                                                rintro _ rfl _ rfl
                                                show OpOK _ _ _ _ _ _ _
                                                exact ok_gpure rfl (ro_len SufLawR_l24 rfl) rfl
                                              refine ⟨?_, ?_⟩
                                              · intro w408 D408
                                                rintro _ rfl _ rfl _ rfl
                                                show OpOK _ _ _ _ _ _ _
                                                exact ok_gpure rfl (ro_bf (ro_geq rfl rfl) (decide_eq_false (by omega))) rfl
                                              refine ⟨?_, ?_⟩
                                              · intro w409 D409
                                                rintro _ rfl _ rfl
                                                show OpOK _ _ _ _ _ _ _
                                                exact ok_pure (ro_pickF (v := .bool _) rfl rfl) rfl
                                              refine ⟨?_, ?_⟩
                                              · intro w410 D410
                                                rintro _ rfl
                                                show OpOK _ _ _ _ _ _ _
                                                exact ok_pure (ro_move (v := .bool _) rfl) rfl
                                              refine ⟨?_, ?_⟩
                                              · intro w411 D411
                                                rintro _ rfl
                                                show OpOK _ _ _ _ _ _ _
                                                exact ok_gpure rfl (ro_move (v := .int _ _) rfl) rfl
                                              refine ⟨?_, ?_⟩
                                              · intro w412 D412
                                                rintro _ rfl
                                                show OpOK _ _ _ _ _ _ _
                                                exact ok_gpure rfl (ro_move (v := .int _ _) rfl) rfl
                                              refine ⟨?_, ?_⟩
                                              · intro w413 D413
                                                rintro _ rfl _ rfl _ rfl
                                                show OpOK _ _ _ _ _ _ _
                                                exact ok_gpure rfl (ro_addN rfl rfl (by omega)) rfl
                                              refine ⟨?_, ?_⟩
                                              · intro w414 D414
                                                rintro _ rfl
                                                show OpOK _ _ _ _ _ _ _
                                                exact ok_gpure rfl (ro_move (v := .slice _ _ _) rfl) rfl
                                              refine ⟨?_, ?_⟩
                                              · intro w415 D415
                                                rintro _ rfl _ rfl
                                                show OpOK _ _ _ _ _ _ _
                                                exact ok_gpure rfl (ro_len SufLawR_l24 rfl) rfl
                                              refine ⟨?_, ?_⟩
                                              · intro w416 D416
                                                rintro _ rfl _ rfl _ rfl
                                                show OpOK _ _ _ _ _ _ _
                                                exact ok_gpure rfl (ro_bf (ro_lss rfl rfl) (decide_eq_false (by omega))) rfl
                                              refine ⟨?_, ?_⟩
                                              · intro w417 D417
                                                rintro _ rfl _ rfl
                                                show OpOK _ _ _ _ _ _ _
                                                exact ok_gpure rfl (ro_move (v := .bool _) rfl) rfl
                                              refine ⟨?_, ?_⟩
                                              · intro w418 D418
                                                rintro _ rfl
                                                show OpOK _ _ _ _ _ _ _
                                                exact ok_gno rfl rfl rfl
                                              refine ⟨?_, ?_⟩
                                              · intro w419 D419
                                                rintro _ rfl
                                                show OpOK _ _ _ _ _ _ _
                                                exact ok_gno rfl rfl rfl
                                              refine ⟨?_, ?_⟩
                                              · intro w420 D420
                                                rintro _ rfl
                                                show OpOK _ _ _ _ _ _ _
                                                exact ok_gno rfl rfl rfl
                                              refine ⟨?_, ?_⟩
                                              · intro w421 D421
                                                rintro _ rfl _ rfl _ rfl
                                                show OpOK _ _ _ _ _ _ _
                                                exact ok_gno rfl rfl rfl
                                              refine ⟨?_, ?_⟩
                                              · intro w422 D422
                                                rintro _ rfl _ rfl _ rfl
                                                show OpOK _ _ _ _ _ _ _
                                                exact ok_gno rfl rfl rfl
                                              refine ⟨?_, ?_⟩
                                              · intro w423 D423
                                                rintro _ rfl _ rfl
                                                show OpOK _ _ _ _ _ _ _
                                                exact ok_gno rfl rfl rfl
                                              refine ⟨?_, ?_⟩
                                              · intro w424 D424
                                                rintro _ rfl
                                                show OpOK _ _ _ _ _ _ _
                                                exact ok_gno rfl rfl rfl
                                              refine ⟨?_, ?_⟩
                                              · intro w425 D425
                                                rintro _ rfl
                                                show OpOK _ _ _ _ _ _ _
                                                exact ok_gno rfl rfl rfl
                                              refine ⟨?_, ?_⟩
                                              · intro w426 D426
                                                rintro _ rfl
                                                show OpOK _ _ _ _ _ _ _
                                                exact ok_gno rfl rfl rfl
                                              refine ⟨?_, ?_⟩
                                              · intro w427 D427
                                                rintro _ rfl _ rfl _ rfl
                                                show OpOK _ _ _ _ _ _ _
                                                exact ok_gno rfl rfl rfl
                                              refine ⟨?_, ?_⟩
                                              · intro w428 D428
                                                rintro _ rfl _ rfl _ rfl
                                                show OpOK _ _ _ _ _ _ _
                                                exact ok_gno rfl rfl rfl
                                              refine ⟨?_, ?_⟩
                                              · intro w429 D429
                                                rintro _ rfl _ rfl
                                                show OpOK _ _ _ _ _ _ _
                                                exact ok_gno rfl rfl rfl
                                              refine ⟨?_, ?_⟩
                                              · intro w430 D430
                                                rintro _ rfl _ rfl _ rfl
                                                show OpOK _ _ _ _ _ _ _
                                                exact ok_gno rfl rfl rfl
                                              refine ⟨?_, ?_⟩
                                              · intro w431 D431
                                                rintro _ rfl _ rfl _ rfl
                                                show OpOK _ _ _ _ _ _ _
                                                exact ok_gpure rfl (ro_pickF (v := .bool _) rfl rfl) rfl
                                              refine ⟨?_, ?_⟩
                                              · intro w432 D432
                                                rintro _ rfl _ rfl
                                                show OpOK _ _ _ _ _ _ _
                                                exact ok_pure (ro_pickF (v := .bool _) rfl rfl) rfl
                                              exact trivial
                                             case hend =>
                                              intro w433 D433
                                              rintro _ rfl _ rfl _ rfl _ rfl _ rfl _ rfl _ rfl _ rfl _ rfl _ rfl _ rfl _ rfl _ rfl _ rfl _ rfl _ rfl _ rfl _ rfl _ rfl _ rfl _ rfl _ rfl _ rfl _ rfl _ rfl _ rfl _ rfl _ rfl _ rfl _ rfl _ rfl _ rfl _ rfl _ rfl _ rfl _ rfl _ rfl
                                              show St _ _ _ _ _ _ _
                                              refine st_nil ?_
                                              refine nx_then ?_
                                              refine cd_condF rfl ?_
                                              refine cd_skip ?_
                                              refine nx_block ?_
                                              refine nx_then ?_
                                              refine cd_region ?_
                                              refine st_val (ro_move (v := .int _ _) rfl) ?_
                                              refine st_val (ro_add64 rfl rfl (by omega)) ?_
                                              refine st_val (ro_assign (v := .int _ _) rfl) ?_
                                              refine st_nil ?_
                                              refine nx_cut ((q + 1, updB sn (F.getD q 0) true)) ⟨(by first | rfl | (refine int_eq ?_; omega)), trivial⟩ (by (iterate 245 refine agr_cons rfl ?_); exact agr_rfl) ⟨?_, ?_⟩
                                              · exact ⟨by omega, seen_put hsn, P18b.from_ (From.rfl_.next D433), hrF2.from_ (From.rfl_.next D433), hrC2.from_ (From.rfl_.next D433), (hB.next D433)⟩
                                              · show L.length - (q + 1) < L.length - q; omega
                                           · have hr3 := hr2 (by omega)
                                             apply cd_drawn 37 [(150, eqp _), (151, eqp _), (152, eqp _), (153, eqp _), (154, eqp _), (155, eqp _), (156, eqp _), (157, eqp _), (158, eqp _), (159, eqp _), (160, eqp _), (161, eqp _), (162, eqp _), (163, eqp _), (164, eqp _), (165, eqp _), (166, eqp _), (167, eqp _), (168, eqp _), (169, eqp _), (170, eqp _), (171, eqp _), (172, eqp _), (173, eqp _), (174, eqp _), (175, eqp _), (176, eqp _), (177, eqp _), (178, eqp _), (179, eqp _), (180, eqp _), (181, eqp _), (182, eqp _), (183, eqp _), (184, eqp _), (185, eqp _), (186, eqp _)] (by kernel_rfl) (by kernel_rfl) ⟨eqp_mono _, eqp_mono _, eqp_mono _, eqp_mono _, eqp_mono _, eqp_mono _, eqp_mono _, eqp_mono _, eqp_mono _, eqp_mono _, eqp_mono _, eqp_mono _, eqp_mono _, eqp_mono _, eqp_mono _, eqp_mono _, eqp_mono _, eqp_mono _, eqp_mono _, eqp_mono _, eqp_mono _, eqp_mono _, eqp_mono _, eqp_mono _, eqp_mono _, eqp_mono _, eqp_mono _, eqp_mono _, eqp_mono _, eqp_mono _, eqp_mono _, eqp_mono _, eqp_mono _, eqp_mono _, eqp_mono _, eqp_mono _, eqp_mono _, trivial⟩
                                             case hop =>
                                              refine ⟨?_, ?_⟩
                                              · intro w435 D435
                                                show OpOK _ _ _ _ _ _ _
                                                exact ok_pure (ro_move (v := .slice _ _ _) rfl) rfl
                                              refine ⟨?_, ?_⟩
                                              · intro w436 D436
                                                show OpOK _ _ _ _ _ _ _
                                                exact ok_pure (ro_move (v := .int _ _) rfl) rfl
                                              refine ⟨?_, ?_⟩
                                              · intro w437 D437
                                                rintro _ rfl _ rfl
                                                show OpOK _ _ _ _ _ _ _
                                                exact ok_pure (ro_indexAddr1 SufLawR_e24 rfl rfl (by omega)) rfl
                                              refine ⟨?_, ?_⟩
                                              · intro w438 D438
                                                rintro _ rfl
                                                show OpOK _ _ _ _ _ _ _
                                                exact ok_pure (ro_load SufLawR_g3 rfl (by exact cellF (From.rfl_.next D438) hcc)) rfl
                                              refine ⟨?_, ?_⟩
                                              · intro w439 D439
                                                show OpOK _ _ _ _ _ _ _
                                                exact ok_pure (ro_move (v := .int _ _) rfl) rfl
                                              refine ⟨?_, ?_⟩
                                              · intro w440 D440
                                                rintro _ rfl _ rfl
                                                show OpOK _ _ _ _ _ _ _
                                                exact ok_pure (ro_bf (ro_neq rfl rfl) (by rw [hcv]; simp)) rfl
                                              refine ⟨?_, ?_⟩
                                              · intro w441 D441
                                                rintro _ rfl
                                                show OpOK _ _ _ _ _ _ _
                                                exact ok_pure (ro_move (v := .bool _) rfl) rfl
                                              refine ⟨?_, ?_⟩
                                              · intro w442 D442
                                                rintro _ rfl
                                                show OpOK _ _ _ _ _ _ _
                                                exact ok_gpure rfl (ro_move (v := .int _ _) rfl) rfl
                                              refine ⟨?_, ?_⟩
                                              · intro w443 D443
                                                rintro _ rfl
                                                show OpOK _ _ _ _ _ _ _
                                                exact ok_gpure rfl (ro_move (v := .int _ _) rfl) rfl
                                              refine ⟨?_, ?_⟩
                                              · intro w444 D444
                                                rintro _ rfl _ rfl _ rfl
                                                show OpOK _ _ _ _ _ _ _
                                                exact ok_gpure rfl (ro_addN rfl rfl (by omega)) rfl
                                              refine ⟨?_, ?_⟩
                                              · intro w445 D445
                                                rintro _ rfl
                                                show OpOK _ _ _ _ _ _ _
                                                exact ok_gpure rfl (ro_move (v := .slice _ _ _) rfl) rfl
                                              refine ⟨?_, ?_⟩
                                              · intro w446 D446
                                                rintro _ rfl _ rfl
                                                show OpOK _ _ _ _ _ _ _
                                                exact ok_gpure rfl (ro_len SufLawR_l24 rfl) rfl
                                              refine ⟨?_, ?_⟩
                                              · intro w447 D447
                                                rintro _ rfl _ rfl _ rfl
                                                show OpOK _ _ _ _ _ _ _
                                                exact ok_gpure rfl (ro_bf (ro_geq rfl rfl) (decide_eq_false (by omega))) rfl
                                              refine ⟨?_, ?_⟩
                                              · intro w448 D448
                                                rintro _ rfl _ rfl
                                                show OpOK _ _ _ _ _ _ _
                                                exact ok_pure (ro_pickF (v := .bool _) rfl rfl) rfl
                                              refine ⟨?_, ?_⟩
                                              · intro w449 D449
                                                rintro _ rfl
                                                show OpOK _ _ _ _ _ _ _
                                                exact ok_pure (ro_move (v := .bool _) rfl) rfl
                                              refine ⟨?_, ?_⟩
                                              · intro w450 D450
                                                rintro _ rfl
                                                show OpOK _ _ _ _ _ _ _
                                                exact ok_gpure rfl (ro_move (v := .int _ _) rfl) rfl
                                              refine ⟨?_, ?_⟩
                                              · intro w451 D451
                                                rintro _ rfl
                                                show OpOK _ _ _ _ _ _ _
                                                exact ok_gpure rfl (ro_move (v := .int _ _) rfl) rfl
                                              refine ⟨?_, ?_⟩
                                              · intro w452 D452
                                                rintro _ rfl _ rfl _ rfl
                                                show OpOK _ _ _ _ _ _ _
                                                exact ok_gpure rfl (ro_addN rfl rfl (by omega)) rfl
                                              refine ⟨?_, ?_⟩
                                              · intro w453 D453
                                                rintro _ rfl
                                                show OpOK _ _ _ _ _ _ _
                                                exact ok_gpure rfl (ro_move (v := .slice _ _ _) rfl) rfl
                                              refine ⟨?_, ?_⟩
                                              · intro w454 D454
                                                rintro _ rfl _ rfl
                                                show OpOK _ _ _ _ _ _ _
                                                exact ok_gpure rfl (ro_len SufLawR_l24 rfl) rfl
                                              refine ⟨?_, ?_⟩
                                              · intro w455 D455
                                                rintro _ rfl _ rfl _ rfl
                                                show OpOK _ _ _ _ _ _ _
                                                exact ok_gpure rfl (ro_bt (ro_lss rfl rfl) (decide_eq_true (by omega))) rfl
                                              refine ⟨?_, ?_⟩
                                              · intro w456 D456
                                                rintro _ rfl _ rfl
                                                show OpOK _ _ _ _ _ _ _
                                                exact ok_gpure rfl (ro_move (v := .bool _) rfl) rfl
                                              refine ⟨?_, ?_⟩
                                              · intro w457 D457
                                                rintro _ rfl
                                                show OpOK _ _ _ _ _ _ _
                                                exact ok_gpure rfl (ro_move (v := .slice _ _ _) rfl) rfl
                                              refine ⟨?_, ?_⟩
                                              · intro w458 D458
                                                rintro _ rfl
                                                show OpOK _ _ _ _ _ _ _
                                                exact ok_gpure rfl (ro_move (v := .int _ _) rfl) rfl
                                              refine ⟨?_, ?_⟩
                                              · intro w459 D459
                                                rintro _ rfl
                                                show OpOK _ _ _ _ _ _ _
                                                exact ok_gpure rfl (ro_move (v := .int _ _) rfl) rfl
                                              refine ⟨?_, ?_⟩
                                              · intro w460 D460
                                                rintro _ rfl _ rfl _ rfl
                                                show OpOK _ _ _ _ _ _ _
                                                exact ok_gpure rfl (ro_addN rfl rfl (by omega)) rfl
                                              refine ⟨?_, ?_⟩
                                              · intro w461 D461
                                                rintro _ rfl _ rfl _ rfl
                                                show OpOK _ _ _ _ _ _ _
                                                exact ok_gpure rfl (ro_indexAddr1 SufLawR_e24 rfl rfl (by omega)) rfl
                                              refine ⟨?_, ?_⟩
                                              · intro w462 D462
                                                rintro _ rfl _ rfl
                                                show OpOK _ _ _ _ _ _ _
                                                exact ok_gpure rfl (ro_load SufLawR_g3 rfl (by exact cellF (hB.next D462) (hcL _ (by omega)))) rfl
                                              refine ⟨?_, ?_⟩
                                              · intro w463 D463
                                                rintro _ rfl
                                                show OpOK _ _ _ _ _ _ _
                                                exact ok_gpure rfl (ro_move (v := .slice _ _ _) rfl) rfl
                                              refine ⟨?_, ?_⟩
                                              · intro w464 D464
                                                rintro _ rfl
                                                show OpOK _ _ _ _ _ _ _
                                                exact ok_gpure rfl (ro_move (v := .int _ _) rfl) rfl
                                              refine ⟨?_, ?_⟩
                                              · intro w465 D465
                                                rintro _ rfl
                                                show OpOK _ _ _ _ _ _ _
                                                exact ok_gpure rfl (ro_move (v := .int _ _) rfl) rfl
                                              refine ⟨?_, ?_⟩
                                              · intro w466 D466
                                                rintro _ rfl _ rfl _ rfl
                                                show OpOK _ _ _ _ _ _ _
                                                exact ok_gpure rfl (ro_addN rfl rfl (by omega)) rfl
                                              refine ⟨?_, ?_⟩
                                              · intro w467 D467
                                                rintro _ rfl _ rfl _ rfl
                                                show OpOK _ _ _ _ _ _ _
                                                exact ok_gpure rfl (ro_indexAddr1 SufLawR_e24 rfl rfl (by omega)) rfl
                                              refine ⟨?_, ?_⟩
                                              · intro w468 D468
                                                rintro _ rfl _ rfl
                                                show OpOK _ _ _ _ _ _ _
                                                exact ok_gpure rfl (ro_load SufLawR_g3 rfl (by exact cellF (hB.next D468) (hcL _ (by omega)))) rfl
                                              refine ⟨?_, ?_⟩
                                              · intro w469 D469
                                                rintro _ rfl _ rfl _ rfl
                                                show OpOK _ _ _ _ _ _ _
                                                exact ok_gpure rfl (ro_bf (ro_geq rfl rfl) (decide_eq_false (by omega))) rfl
                                              refine ⟨?_, ?_⟩
                                              · intro w470 D470
                                                rintro _ rfl _ rfl _ rfl
                                                show OpOK _ _ _ _ _ _ _
                                                exact ok_gpure rfl (ro_pickT (v := .bool _) rfl rfl) rfl
                                              refine ⟨?_, ?_⟩
                                              · intro w471 D471
                                                rintro _ rfl _ rfl
                                                show OpOK _ _ _ _ _ _ _
                                                exact ok_pure (ro_pickF (v := .bool _) rfl rfl) rfl
                                              exact trivial
                                             case hend =>
                                              intro w472 D472
                                              rintro _ rfl _ rfl _ rfl _ rfl _ rfl _ rfl _ rfl _ rfl _ rfl _ rfl _ rfl _ rfl _ rfl _ rfl _ rfl _ rfl _ rfl _ rfl _ rfl _ rfl _ rfl _ rfl _ rfl _ rfl _ rfl _ rfl _ rfl _ rfl _ rfl _ rfl _ rfl _ rfl _ rfl _ rfl _ rfl _ rfl _ rfl
                                              show St _ _ _ _ _ _ _
                                              refine st_nil ?_
                                              refine nx_then ?_
                                              refine cd_condF rfl ?_
                                              refine cd_skip ?_
                                              refine nx_block ?_
                                              refine nx_then ?_
                                              refine cd_region ?_
                                              refine st_val (ro_move (v := .int _ _) rfl) ?_
                                              refine st_val (ro_add64 rfl rfl (by omega)) ?_
                                              refine st_val (ro_assign (v := .int _ _) rfl) ?_
                                              refine st_nil ?_
                                              refine nx_cut ((q + 1, updB sn (F.getD q 0) true)) ⟨(by first | rfl | (refine int_eq ?_; omega)), trivial⟩ (by (iterate 245 refine agr_cons rfl ?_); exact agr_rfl) ⟨?_, ?_⟩
                                              · exact ⟨by omega, seen_put hsn, P18b.from_ (From.rfl_.next D472), hrF2.from_ (From.rfl_.next D472), hrC2.from_ (From.rfl_.next D472), (hB.next D472)⟩
                                              · show L.length - (q + 1) < L.length - q; omega
                           (try first | replace Q249 := bn_t Q249 | replace Q249 := bn_f Q249)
                           (try first | replace Q249 := bx_t Q249 | replace Q249 := bx_f Q249 | replace Q249 := be_t Q249 | replace Q249 := be_f Q249 | replace Q249 := of_decide_eq_true Q249 | replace Q249 := of_decide_eq_false Q249)
                           refine cd_exit ?_
                           refine ex_then ?_
                           refine ex_then ?_
                           refine ex_block ?_
                           refine nx_block ?_
                           refine nx_then ?_
                           refine cd_region ?_
                           refine st_val (ro_move (v := .int _ _) rfl) ?_
                           refine st_val (ro_add64 rfl rfl (by omega)) ?_
                           refine st_val (ro_assign (v := .int _ _) rfl) ?_
                           refine st_nil ?_
                           refine nx_cut (k + 1) ⟨(by first | rfl | (refine int_eq ?_; omega)), trivial⟩ (by (iterate 378 refine agr_cons rfl ?_); exact agr_rfl) ⟨?_, ?_⟩
                           · exact ⟨by omega, hB⟩
                           · show xs.length - (k + 1) < xs.length - k; omega
       (try first | replace Q3 := bn_t Q3 | replace Q3 := bn_f Q3)
       (try first | replace Q3 := bx_t Q3 | replace Q3 := bx_f Q3 | replace Q3 := be_t Q3 | replace Q3 := be_f Q3 | replace Q3 := of_decide_eq_true Q3 | replace Q3 := of_decide_eq_false Q3)
       refine cd_exit ?_
       refine ex_then ?_
       refine ex_then ?_
       refine ex_block ?_
       refine nx_then ?_
       refine cd_seq ?_
       refine cd_region ?_
       refine st_call SufLawR_k15 (wakes_rt _) ?_
       rintro v187 w473 ⟨rfl, E187⟩
       refine st_val (ro_assign (v := .bool _) rfl) ?_
       refine st_nil ?_
       refine nx_then ?_
       refine cd_ret ?_
       refine res1 (v := .bool _) rfl rfl ?_
       exact ⟨rfl, (hB.next E187)⟩
  · (try first | replace Q2 := bn_t Q2 | replace Q2 := bn_f Q2)
    (try first | replace Q2 := bx_t Q2 | replace Q2 := bx_f Q2 | replace Q2 := be_t Q2 | replace Q2 := be_f Q2 | replace Q2 := of_decide_eq_true Q2 | replace Q2 := of_decide_eq_false Q2)
    first
     | (exfalso; first | omega | contradiction | (cases Q2; done))
     | skip
       refine st_gno rfl rfl ?_
       refine st_gno rfl rfl ?_
       refine st_val (ro_pickF (v := .bool _) rfl rfl) ?_
       refine st_nil ?_
       refine nx_then ?_
       refine cd_condF rfl ?_
       refine cd_exit ?_
       refine ex_then ?_
       refine ex_then ?_
       refine ex_block ?_
       refine nx_then ?_
       refine cd_seq ?_
       refine cd_region ?_
       refine st_call SufLawR_k15 (wakes_rt _) ?_
       rintro v187 w474 ⟨rfl, E187⟩
       refine st_val (ro_assign (v := .bool _) rfl) ?_
       refine st_nil ?_
       refine nx_then ?_
       refine cd_ret ?_
       refine res1 (v := .bool _) rfl rfl ?_
       exact ⟨rfl, (hB.next E187)⟩
set_option maxRecDepth 100000 in
theorem SuffixRises_lifted (os : Os) (started : os.Started) (H : Type) (enc : TypeId × Value → H) :
    ReturnsInHanded {} Try.checked os 5 .any (Rows.suffixRisesSpec.pre6 enc Try.prog Try.f5 Rows.suffixRisesRow.domain false) (Rows.suffixRisesSpec.post enc Try.prog Try.f5 false true false false) := by
  refine returnsInHanded_of_change_sized (C := Try.checked) Try.own started (by kernel_rfl) Try.func5
    (ChangeSpec.witness6 (enc := enc) (C := Try.checked) false ⟨#[], #[.slice none 0 0], []⟩ 8 (by kernel_rfl) (by kernel_rfl) (by kernel_rfl) (by kernel_rfl)) ?_
  intro W base args ds gs before hval hW _ hsz _
  exact law_step 5 Try.f5 22 4 Rows.suffixRisesSpec Try.params5 (by kernel_rfl) Try.underlying4 rfl (fun _ => rfl) (by kernel_rfl) (of_decide_eq_true (by kernel_rfl)) (walk_sl askT (by kernel_rfl) rises_law) W base args ds gs before hval hW hsz

theorem SuffixRises_holds : Rows.SuffixRisesSaid :=
  OpenClaim.holds_of_wide 5 Try.f5 rfl rfl rfl rfl rfl rfl rfl ⟨rfl, rfl, rfl, rfl, rfl⟩ rfl rfl rfl rfl rfl (by kernel_rfl) Try.func5 (by kernel_rfl)
    (of_decide_eq_true (by kernel_rfl)) (by unfold Func.isWrapper; first | (rw [if_pos (by decide +kernel)]; kernel_rfl) | (rw [if_neg (by decide +kernel)]; exact ⟨rfl, rfl⟩))
    (fun os started H enc _ => SuffixRises_lifted os started H enc)
#print axioms SuffixRises_holds

end Go.Proofs.Ytgihpoggeaanjaa
