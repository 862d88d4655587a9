/- the reference: Rows, Make. -/
import Derived.Test.YtpafbgdbjambgaaBwtMake
import Derived.Test.YtpafbgdbjambgaaBwtBack
namespace Go.Proofs.Ytpafbgdbjambgaa
open Go.RowKit
open Go.ChangeShapes Go.WideShapes Go.ChangeAt
open Go.Proofs.Ytpafbgdbjambgaa.SA
theorem BwtRef_e24 : elemQ Try.prog 24 = some (3, 1) := by kernel_rfl
theorem BwtRef_m24 : makeQ Try.prog 24 = some (3, 8, (.int .i64 0)) := by kernel_rfl
theorem BwtRef_q24 : litQ Try.prog 24 = some (3, 1, 8, (.int .i64 0)) := by kernel_rfl
theorem BwtRef_l24 : (elemQ Try.prog 24).isSome = true := by kernel_rfl
theorem BwtRef_k26 : callable Try.prog 26 = true := by kernel_rfl
theorem BwtRef_k20 : callable Try.prog 20 = true := by kernel_rfl
theorem BwtRef_g3 : aggQ Try.prog 3 = some false := by kernel_rfl
set_option maxRecDepth 100000 in
set_option maxHeartbeats 400000 in
theorem rows_rt (A : Option Addr) (c n : Nat) (L : List Nat) (w : World) (hr : RowOf iV w A (cI L)) (hn : n = L.length) (hl : n ≤ 131072) :
    Rt Try.prog 20 [.slice A n c] w (fun v w' => (∃ A' c' F, v = .slice A' (n + 1) c' ∧ RowOf iV w' A' (cI (L.length :: F)) ∧ IsSA L F) ∧ From w w') := by
  refine enter (n := 9) Try.func20 rfl rfl rfl ?_
  refine cd_seq ?_
  refine cd_region ?_
  refine st_val (ro_assign (v := .slice _ _ _) rfl) ?_
  refine st_nil ?_
  refine nx_then ?_
  refine cd_seq ?_
  refine cd_region ?_
  refine st_val (ro_move (v := .slice _ _ _) rfl) ?_
  refine st_val (ro_len BwtRef_l24 rfl) ?_
  refine st_lit1 (v := .int _ _) BwtRef_q24 rfl rfl rfl ?_
  intro b5 w1 E5 hb5 hk5
  have ho5 : (w1).ownsRow w.heap.size 3 1 (.slice (some ⟨b5, 0, none⟩) 1 1) 1 [iV ((n : Nat) : Int)] := own_of (cur := [iV ((n : Nat) : Int)]) (Nat.le_of_eq hb5.symm) hk5 (Nat.le_refl _) (by unfold maxLen; omega) rfl rfl
  have hF5 : From w w1 := (From.rfl_.next E5)
  refine st_val (ro_move (v := .slice _ _ _) rfl) ?_
  refine st_call BwtRef_k26 (refSort_rt L A c n _ (hr.from_ (From.rfl_.next E5)) hn hl) ?_
  rintro v7 w2 ⟨⟨B7, c7, F, rfl, hg7, hSA⟩, E7⟩
  have hln := hg7.len
  have hsl := hSA.len
  refine st_appendB BwtRef_q24 rfl (by decide) rfl (A := some ⟨b5, 0, none⟩) (xs := [iV ((n : Nat) : Int)]) (news := (cI F).map iV) (ho5.kept_from E7) ((((From.rfl_.next E5).next E7)).size) rfl (by simpa using hln.symm) (fun h0 => hg7.src h0) hg7.nil (by simp [Value.oneCell']) (by omega) (by omega) ?_
  intro A8 c8 w3 ho8 hg8
  have HF8 := (((From.rfl_.next E5).next E7)).grew hg8 (fun k hk => (own_at (ho5.kept_from E7) k hk).1)
  refine st_val (ro_assign (v := .slice _ _ _) rfl) ?_
  refine st_nil ?_
  refine nx_then ?_
  refine cd_ret ?_
  refine res1 (v := .slice _ _ _) rfl rfl ?_
  refine ⟨⟨A8, c8, F, by rw [Nat.add_comm], ?_, hSA⟩, HF8⟩
  have e8 : [iV ((n : Nat) : Int)] ++ (cI F).map iV = (cI (L.length :: F)).map iV := by rw [hn]; simp [cI]
  rw [e8] at ho8
  exact (RowOf.own ho8).2
set_option maxRecDepth 100000 in
set_option maxHeartbeats 4000000 in
theorem refMake_rt (A : Option Addr) (c n : Nat) (L : List Nat) (w : World) (hr : RowOf iV w A (cI L)) (hn : n = L.length) (hl : n ≤ 131072) :
    Rt Try.prog 12 [.slice A n c] w (fun v w' => (∃ Bs a A' c', v = .tuple #[.slice A' Bs.length c', .int .i64 (a : Nat)] ∧ IsBw L Bs a ∧ w'.ownsRow w.heap.size 3 1 (.slice A' Bs.length c') Bs.length ((cI Bs).map iV)) ∧ From w w') := by
  refine enter (n := 35) Try.func12 rfl rfl rfl ?_
  refine cd_seq ?_
  refine cd_region ?_
  refine st_val (ro_assign (v := .slice _ _ _) rfl) ?_
  refine st_val (ro_assign (v := .int _ _) rfl) ?_
  refine st_nil ?_
  refine nx_then ?_
  refine cd_seq ?_
  refine cd_region ?_
  refine st_val (ro_move (v := .slice _ _ _) rfl) ?_
  refine st_call BwtRef_k20 (rows_rt A c n L _ (hr.from_ From.rfl_) hn hl) ?_
  rintro v9 w1 ⟨⟨A9, c9, F, rfl, hr9, hSA⟩, E9⟩
  have hBz : From w w1 := E9
  have hFl := hSA.len
  obtain ⟨b9, o9, rfl, hc9⟩ := rowD hr9 (by simp)
  refine st_val (ro_assign (v := .slice _ _ _) rfl) ?_
  refine st_nil ?_
  refine nx_then ?_
  refine cd_seq ?_
  refine cd_region ?_
  refine st_val (ro_assign (v := .slice _ _ _) rfl) ?_
  refine st_nil ?_
  refine nx_then ?_
  refine cd_seq ?_
  refine cd_region ?_
  refine st_val (ro_assign (v := .int _ _) rfl) ?_
  refine st_nil ?_
  refine nx_then ?_
  refine cd_seq ?_
  refine cd_seq ?_
  refine cd_region ?_
  refine st_val (ro_assign (v := .int _ _) rfl) ?_
  refine st_nil ?_
  refine nx_then ?_
  refine cd_block ?_
  refine cd_loop (G := Nat × List Nat × Option Addr × Nat × Nat) [10, 11, 12, 13, 14, 15, 16, 17, 18, 19, 20, 21, 22, 23, 24, 25, 26, 27, 28, 29, 30, 31, 32] (fun (k, Bs, A2, c2, a) => [(5, .slice A2 Bs.length c2), (6, .int .i64 (a : Nat)), (7, .int .i64 (k : Nat))]) (fun (k, Bs, A2, c2, a) w' => k ≤ n + 1 ∧ BwT L F k Bs a ∧ w'.ownsRow w1.heap.size 3 1 (.slice A2 Bs.length c2) Bs.length ((cI Bs).map iV) ∧ From w1 w') (fun (k, _) => n + 1 - k) ((0, [], none, 0, 0)) ⟨rfl, rfl, rfl, trivial⟩ ?_ ?_
  · exact ⟨Nat.zero_le _, BwT.zero, World.ownsRow_nil _ _ _ _, From.rfl_⟩
  rintro ⟨k, Bs, A2, c2, a⟩ ρ2 w2 ⟨hk, hT, ho, hFz⟩
  refine cd_seq ?_
  refine cd_seq ?_
  refine cd_region ?_
  refine st_val (ro_move (v := .int _ _) rfl) ?_
  refine st_val (ro_move (v := .slice _ _ _) rfl) ?_
  refine st_val (ro_len BwtRef_l24 rfl) ?_
  refine st_val (ro_lss rfl rfl) ?_
  refine st_nil ?_
  refine nx_then ?_
  refine cd_cond rfl (fun Q3 => ?_) (fun Q3 => ?_)
  · (try with_reducible first | replace Q3 := of_decide_eq_true Q3 | replace Q3 := of_decide_eq_false Q3 | replace Q3 := bn_t Q3 | replace Q3 := bn_f Q3)
    (try with_reducible first | replace Q3 := of_decide_eq_true Q3 | replace Q3 := of_decide_eq_false Q3 | replace Q3 := bx_t Q3 | replace Q3 := bx_f Q3 | replace Q3 := be_t Q3 | replace Q3 := be_f Q3)
    have hsk := hc9 k (by simp only [List.length_cons]; omega)
    rw [rowS_cons] at hsk
    have hrk := (rank_rowS hSA (show k ≤ L.length by omega)).1
    first
     | (exfalso; first | omega | contradiction | (cases Q3; done))
     | skip
       refine cd_skip ?_
       refine nx_then ?_
       refine cd_cut (G := List Nat × Option Addr × Nat × Nat) [16, 17, 18, 19, 20, 21, 22, 23, 24, 25, 26, 27, 28, 29, 30, 31, 32] (fun (Bs', A2', c2', a') => [(5, .slice A2' Bs'.length c2'), (6, .int .i64 (a' : Nat))]) (fun (Bs', A2', c2', a') w' => BwT L F (k + 1) Bs' a' ∧ w'.ownsRow w1.heap.size 3 1 (.slice A2' Bs'.length c2') Bs'.length ((cI Bs').map iV) ∧ From w1 w') ?_ ?_
       · refine cd_block ?_
         refine cd_seq ?_
         refine cd_region ?_
         refine st_val (ro_move (v := .slice _ _ _) rfl) ?_
         refine st_val (ro_move (v := .int _ _) rfl) ?_
         refine st_val (ro_indexAddr1 BwtRef_e24 rfl rfl (by omega)) ?_
         refine st_val (ro_load BwtRef_g3 rfl (by exact cellF (hFz.next From.rfl_) hsk)) ?_
         refine st_val (ro_eql rfl rfl) ?_
         refine st_nil ?_
         refine nx_then ?_
         refine cd_cond rfl (fun Q4 => ?_) (fun Q4 => ?_)
         · (try with_reducible first | replace Q4 := of_decide_eq_true Q4 | replace Q4 := of_decide_eq_false Q4 | replace Q4 := bn_t Q4 | replace Q4 := bn_f Q4)
           (try with_reducible first | replace Q4 := of_decide_eq_true Q4 | replace Q4 := of_decide_eq_false Q4 | replace Q4 := bx_t Q4 | replace Q4 := bx_f Q4 | replace Q4 := be_t Q4 | replace Q4 := be_f Q4)
           first
            | (exfalso; first | omega | contradiction | (cases Q4; done))
            | skip
              refine cd_region ?_
              refine st_val (ro_move (v := .int _ _) rfl) ?_
              refine st_val (ro_assign (v := .int _ _) rfl) ?_
              refine st_nil ?_
              refine nx_block ?_
              refine nx_cut ((Bs, A2, c2, k)) ⟨rfl, rfl, trivial⟩ (by (iterate 7 refine agr_cons rfl ?_); exact agr_rfl) ?_
              exact ⟨hT.skip hSA (by omega) (by omega), ho.kept_from From.rfl_, hFz.next From.rfl_⟩
         (try with_reducible first | replace Q4 := of_decide_eq_true Q4 | replace Q4 := of_decide_eq_false Q4 | replace Q4 := bn_t Q4 | replace Q4 := bn_f Q4)
         (try with_reducible first | replace Q4 := of_decide_eq_true Q4 | replace Q4 := of_decide_eq_false Q4 | replace Q4 := bx_t Q4 | replace Q4 := bx_f Q4 | replace Q4 := be_t Q4 | replace Q4 := be_f Q4)
         obtain ⟨bl, ol, rfl, hcl⟩ := rowD hr (by omega)
         first
          | (exfalso; first | omega | contradiction | (cases Q4; done))
          | skip
            refine cd_region ?_
            refine st_val (ro_move (v := .slice _ _ _) rfl) ?_
            refine st_val (ro_move (v := .slice _ _ _) rfl) ?_
            refine st_val (ro_move (v := .slice _ _ _) rfl) ?_
            refine st_val (ro_move (v := .int _ _) rfl) ?_
            refine st_val (ro_indexAddr1 BwtRef_e24 rfl rfl (by omega)) ?_
            refine st_val (ro_load BwtRef_g3 rfl (by exact cellF (hFz.next From.rfl_) hsk)) ?_
            refine st_val (ro_subN (b := 1) rfl rfl (by omega)) ?_
            refine st_val (ro_indexAddr1 BwtRef_e24 rfl rfl (by omega)) ?_
            refine st_val (ro_load BwtRef_g3 rfl (by exact cellF (hBz.next hFz) (hcl (rowS L F k - 1) (by omega)))) ?_
            refine st_lit1 (v := .int _ _) BwtRef_q24 rfl rfl rfl ?_
            intro b31 w5 E31 hb31 hk31
            have hap32 := hT.len_le
            refine st_appendB BwtRef_q24 rfl (by decide) rfl (A := A2) (xs := (cI Bs).map iV) (news := [iV ((L.getD (rowS L F k - 1) 0 : Nat) : Int)]) (ho.kept_from (From.rfl_.next E31)) ((hFz.next (From.rfl_.next E31)).size) rfl rfl (fun _ => ⟨b31, 0, rfl, hk31.whole⟩) (fun h => by cases h) (by simp [Value.oneCell']) (by omega) (by omega) ?_
            intro A32 c32 w6 ho32 hg32
            have HF32 := (hFz.next (From.rfl_.next E31)).grew hg32 (fun k hk => (own_at (ho.kept_from (From.rfl_.next E31)) k hk).1)
            refine st_val (ro_assign (v := .slice _ _ _) rfl) ?_
            refine st_nil ?_
            refine nx_block ?_
            refine nx_cut ((Bs ++ [L.getD (rowS L F k - 1) 0], A32, c32, a)) ⟨(by rw [List.length_append]; rfl), rfl, trivial⟩ (by (iterate 17 refine agr_cons rfl ?_); exact agr_rfl) ?_
            exact ⟨hT.push hSA (by omega) (by omega), by rw [List.length_append, cI_push]; exact ho32.kept_from From.rfl_, HF32.next From.rfl_⟩
       rintro ⟨Bs', A2', c2', a'⟩ ρ7 w7 ⟨hT', ho', hFz'⟩
       refine cd_region ?_
       refine st_val (ro_move (v := .int _ _) rfl) ?_
       refine st_val (ro_addN (b := 1) rfl rfl (by omega)) ?_
       refine st_val (ro_assign (v := .int _ _) rfl) ?_
       refine st_nil ?_
       refine nx_cut ((k + 1, Bs', A2', c2', a')) ⟨(by first | rfl | (refine int_eq ?_; omega)), (by first | rfl | (refine int_eq ?_; omega)), (by first | rfl | (refine int_eq ?_; omega)), trivial⟩ (by (iterate 52 refine agr_cons rfl ?_); exact agr_rfl) ⟨?_, ?_⟩
       · exact ⟨by omega, hT', ho'.kept_from From.rfl_, hFz'.next From.rfl_⟩
       · show n + 1 - (k + 1) < n + 1 - k; omega
  (try with_reducible first | replace Q3 := of_decide_eq_true Q3 | replace Q3 := of_decide_eq_false Q3 | replace Q3 := bn_t Q3 | replace Q3 := bn_f Q3)
  (try with_reducible first | replace Q3 := of_decide_eq_true Q3 | replace Q3 := of_decide_eq_false Q3 | replace Q3 := bx_t Q3 | replace Q3 := bx_f Q3 | replace Q3 := be_t Q3 | replace Q3 := be_f Q3)
  first
   | (exfalso; first | omega | contradiction | (cases Q3; done))
   | skip
     refine cd_exit ?_
     refine ex_then ?_
     refine ex_then ?_
     refine ex_block ?_
     refine nx_then ?_
     refine cd_seq ?_
     refine cd_region ?_
     refine st_val (ro_move (v := .slice _ _ _) rfl) ?_
     refine st_val (ro_move (v := .int _ _) rfl) ?_
     refine st_val (ro_assign (v := .slice _ _ _) rfl) ?_
     refine st_val (ro_assign (v := .int _ _) rfl) ?_
     refine st_nil ?_
     refine nx_then ?_
     refine cd_ret ?_
     refine res2 (v := .slice _ _ _) (v' := .int _ _) rfl rfl rfl ?_
     obtain rfl : k = n + 1 := by omega
     have hb := (show BwT L F (L.length + 1) Bs a by rw [← hn]; exact hT).fin hSA
     exact ⟨⟨Bs, a, A2, c2, rfl, hb, own_le (ho.kept_from From.rfl_) hBz.size⟩, (hBz.next hFz)⟩
end Go.Proofs.Ytpafbgdbjambgaa
