/- session: the spoils. -/
import Derived.Test.YtbikemhokgcboaaSesJudge
namespace Go.Proofs.Ytbikemhokgcboaa
open Go.RowKit
open Go.ChangeShapes Go.WideShapes Go.ChangeAt
theorem SesSpoil_q29 : litQ Try.prog 29 = some (80, 2, 24, (.agg #[.string ⟨#[]⟩, .int .i64 0])) := by kernel_rfl
theorem SesSpoil_q22 : litQ Try.prog 22 = some (60, 6, 64, (.agg #[.int .i64 0, .int .i64 0, .int .i64 0, .int .i64 0, .slice none 0 0, .int .i64 0])) := by kernel_rfl
theorem SesSpoil_e22 : elemQ Try.prog 22 = some (60, 6) := by kernel_rfl
theorem SesSpoil_z60 : sizeQ Try.prog 60 = some 6 := by kernel_rfl
theorem SesSpoil_l29 : (elemQ Try.prog 29).isSome = true := by kernel_rfl
theorem SesSpoil_b80_ : Try.prog.built 80 [] = some #[.string ⟨#[]⟩, .int .i64 0] := by kernel_rfl
theorem SesSpoil_l22 : (elemQ Try.prog 22).isSome = true := by kernel_rfl
theorem SesSpoil_f60_2 : fieldQ Try.prog 60 2 = some 2 := by kernel_rfl
theorem SesSpoil_f31_2 : fieldQ Try.prog 31 2 = some 2 := by kernel_rfl
theorem SesSpoil_g29 : aggQ Try.prog 29 = some false := by kernel_rfl
theorem SesSpoil_k48 : callable Try.prog 48 = true := by kernel_rfl
theorem SesSpoil_b60_0cinti649 : Try.prog.built 60 [(0, .int .i64 (-9))] = some #[.int .i64 (-9), .int .i64 0, .int .i64 0, .int .i64 0, .slice none 0 0, .int .i64 0] := by kernel_rfl
theorem SesSpoil_b60_ : Try.prog.built 60 [] = some #[.int .i64 0, .int .i64 0, .int .i64 0, .int .i64 0, .slice none 0 0, .int .i64 0] := by kernel_rfl
set_option maxRecDepth 100000 in
set_option maxHeartbeats 400000 in
theorem spoilHits_nil (w : World) :
    Rt Try.prog 48 [.slice none 0 0] w (fun _ w' => From w w') := by
  refine enter (n := 17) Try.func48 rfl rfl rfl ?_
  refine cd_seq ?_
  refine cd_seq ?_
  refine cd_region ?_
  refine st_val (ro_assign (v := .int _ _) rfl) ?_
  refine st_nil ?_
  refine nx_then ?_
  refine cd_block ?_
  refine cd_loop (G := Unit) [3, 4, 5, 6, 7, 8, 9, 10, 11, 12] (fun _ => [(2, .int .i64 0)]) (fun _ w' => From w w') (fun _ => 0) (()) ⟨rfl, trivial⟩ ?_ ?_
  · exact From.rfl_
  rintro ⟨⟩ ρ1 w1 hB
  refine cd_seq ?_
  refine cd_seq ?_
  refine cd_region ?_
  refine st_val (ro_move (v := .int _ _) rfl) ?_
  refine st_val (ro_move (v := .slice _ _ _) rfl) ?_
  refine st_val (ro_len SesSpoil_l29 rfl) ?_
  refine st_val (ro_bf (ro_lss rfl rfl) rfl) ?_
  refine st_nil ?_
  refine nx_then ?_
  refine cd_condF rfl ?_
  refine cd_exit ?_
  refine ex_then ?_
  refine ex_then ?_
  refine ex_block ?_
  refine nx_then ?_
  refine cd_region ?_
  refine st_val (ro_move (v := .slice _ _ _) rfl) ?_
  refine st_val (ro_build (l := []) (SesSpoil_b80_)) ?_
  refine st_lit (cells := (hitV ⟨⟨#[]⟩, 0⟩).toArray) SesSpoil_q29 rfl rfl (fillH ⟨⟨#[]⟩, 0⟩) ?_
  intro b15 w2 E15 hb15 hk15
  refine st_append (a0 := w) (news := hitV ⟨⟨#[]⟩, 0⟩) SesSpoil_q29 rfl (by decide) rfl (World.ownsRow_nil _ _ _ _) (hB.next E15) rfl rfl (fun _ => ⟨b15, 0, rfl, hk15.whole⟩) (fun h => by cases h) (by simp [hitV, Value.oneCell']) (by omega) (by omega) ?_
  intro A16 c16 w3 ho16 B16 hg16
  refine st_val (ro_assign (v := .slice _ _ _) rfl) ?_
  refine st_nil ?_
  refine end_ret ?_
  refine res0 rfl ?_
  exact B16
def spS : Ses := ⟨-9, 0, 0, 0, none, 0, 0, 0⟩
def zeS : Ses := ⟨0, 0, 0, 0, none, 0, 0, 0⟩
set_option maxRecDepth 100000 in
set_option maxHeartbeats 1000000 in
theorem spoilSessions (base : Nat) (A : Option Addr) (c : Nat) (K : List Ses) (w : World) (ho : w.ownsRow base 60 6 (.slice A K.length c) K.length (K.flatMap sesV)) (hn : ∀ i (h : i < K.length), K[i].H = none ∧ K[i].hl = 0 ∧ K[i].hc = 0) (hbs : base ≤ w.heap.size) (hl : K.length ≤ 1000) :
    Rt Try.prog 27 [.slice A K.length c] w (fun _ w' => w.grownBy w' (A.map (·.block))) := by
  refine enter (n := 24) Try.func27 rfl rfl rfl ?_
  refine cd_seq ?_
  refine cd_seq ?_
  refine cd_region ?_
  refine st_val (ro_assign (v := .int _ _) rfl) ?_
  refine st_nil ?_
  refine nx_then ?_
  refine cd_block ?_
  refine cd_loop (G := Nat × List Ses) [3, 4, 5, 6, 7, 8, 9, 10, 11, 12, 13, 14, 15, 16, 17, 18, 19] (fun (k, _) => [(2, .int .i64 (k : Nat))]) (fun (k, K1) w' => k ≤ K.length ∧ K1.length = K.length ∧ (∀ i (h : i < K1.length) (h2 : i < K.length), k ≤ i → K1[i] = K[i]) ∧ w'.ownsRow base 60 6 (.slice A K1.length c) K1.length (K1.flatMap sesV) ∧ w.grownBy w' (A.map (·.block))) (fun (k, _) => K.length - k) ((0, K)) ⟨rfl, trivial⟩ ?_ ?_
  · exact ⟨Nat.zero_le _, rfl, fun _ _ _ _ => rfl, ho, (From.rfl_ (a := w)).grown _⟩
  rintro ⟨k, K1⟩ ρ1 w1 ⟨hk, hKl, hsm, ho1, hG⟩
  refine cd_seq ?_
  refine cd_seq ?_
  refine cd_region ?_
  refine st_val (ro_move (v := .int _ _) rfl) ?_
  refine st_val (ro_move (v := .slice _ _ _) rfl) ?_
  refine st_val (ro_len SesSpoil_l22 rfl) ?_
  refine st_val (ro_lss rfl rfl) ?_
  refine st_nil ?_
  refine nx_then ?_
  refine cd_cond rfl (fun Q2 => ?_) (fun Q2 => ?_)
  · (try first | replace Q2 := bn_t Q2 | replace Q2 := bn_f Q2)
    (try first | replace Q2 := bx_t Q2 | replace Q2 := bx_f Q2 | replace Q2 := be_t Q2 | replace Q2 := be_f Q2 | replace Q2 := of_decide_eq_true Q2 | replace Q2 := of_decide_eq_false Q2)
    have hkK : k < K1.length := by omega
    obtain ⟨g, rfl⟩ := own_some ho1 (by omega)
    obtain ⟨b9, o9, hA9, hc9⟩ := (rowS_own ho1).2 (by omega)
    cases hA9
    obtain ⟨n1, n2, n3⟩ := hn k (by omega)
    have hcell : w1.cell? ⟨g, 0 + k * 6 + 2 + 2, none⟩ = some (.slice none 0 0) := by
      have h4 := hc9 k hkK 4 (.slice none 0 0) (by rw [hsm k hkK (by omega) (Nat.le_refl k)]; simp [sesV, n1, n2, n3])
      exact h4
    first
     | (exfalso; first | omega | contradiction | (cases Q2; done))
     | skip
       refine cd_skip ?_
       refine nx_then ?_
       refine cd_seq ?_
       refine cd_block ?_
       refine cd_seq ?_
       refine cd_region ?_
       refine st_val (ro_move (v := .slice _ _ _) rfl) ?_
       refine st_val (ro_move (v := .int _ _) rfl) ?_
       refine st_val (ro_indexAddrN SesSpoil_e22 rfl rfl (by omega)) ?_
       refine st_val (ro_fieldAddr SesSpoil_f60_2 rfl) ?_
       refine st_val (ro_fieldAddr SesSpoil_f31_2 rfl) ?_
       refine st_val (ro_load SesSpoil_g29 rfl (by exact hcell)) ?_
       refine st_call SesSpoil_k48 (spoilHits_nil _) ?_
       rintro v15 w3 E15
       refine st_nil ?_
       refine nx_then ?_
       refine cd_region ?_
       refine st_val (ro_move (v := .slice _ _ _) rfl) ?_
       refine st_val (ro_move (v := .int _ _) rfl) ?_
       refine st_val (ro_build (l := [(0, .const (.int .i64 (-9)))]) (SesSpoil_b60_0cinti649)) ?_
       refine st_val (ro_indexAddrN SesSpoil_e22 rfl rfl (by omega)) ?_
       refine st_putOwnK (size := 6) (o := k * 6) (vs := sesV spS) SesSpoil_z60 (by show Value.pointer (some ⟨g, 0 + k * 6, none⟩) = _; rw [Nat.zero_add]) rfl (by simp [sesV, spS, Value.oneCell']) (ho1.kept_from E15) (by omega) (by show k * 6 + 6 ≤ K1.length * 6; omega) ?_
       intro w4 O4 P4
       rw [ses_over _ hkK] at P4
       refine st_nil ?_
       refine nx_block ?_
       refine nx_then ?_
       refine cd_region ?_
       refine st_val (ro_move (v := .int _ _) rfl) ?_
       refine st_val (ro_addN (b := 1) rfl rfl (by omega)) ?_
       refine st_val (ro_assign (v := .int _ _) rfl) ?_
       refine st_nil ?_
       refine nx_cut ((k + 1, K1.set k spS)) ⟨(by first | rfl | (refine int_eq ?_; omega)), trivial⟩ (by (iterate 36 refine agr_cons rfl ?_); exact agr_rfl) ⟨?_, ?_⟩
       · exact ⟨by omega, by rw [List.length_set]; exact hKl, fun i h h2 hi => by rw [List.getElem_set_ne (by omega)]; exact hsm i (by rw [List.length_set] at h; exact h) h2 (by omega), by rw [List.length_set]; exact P4, grown_trans (grown_trans hG (E15.grown _)) O4.grown⟩
       · show _ - _ < _ - _; omega
  · (try first | replace Q2 := bn_t Q2 | replace Q2 := bn_f Q2)
    (try first | replace Q2 := bx_t Q2 | replace Q2 := bx_f Q2 | replace Q2 := be_t Q2 | replace Q2 := be_f Q2 | replace Q2 := of_decide_eq_true Q2 | replace Q2 := of_decide_eq_false Q2)
    first
     | (exfalso; first | omega | contradiction | (cases Q2; done))
     | skip
       refine cd_exit ?_
       refine ex_then ?_
       refine ex_then ?_
       refine ex_block ?_
       refine nx_then ?_
       refine cd_region ?_
       refine st_val (ro_move (v := .slice _ _ _) rfl) ?_
       refine st_val (ro_build (l := []) (SesSpoil_b60_)) ?_
       refine st_lit (cells := (sesV zeS).toArray) SesSpoil_q22 rfl rfl (fillS zeS) ?_
       intro b22 w5 E22 hb22 hk22
       refine st_appendB (base := base) SesSpoil_q22 rfl (by decide) (m := K1.length) (by rw [hKl]; rfl) (ho1.kept_from E22) (by have := hG.size; have := E22.size; omega) rfl (ses_len zeS) (fun _ => ⟨b22, 0, rfl, hk22.whole⟩) (fun h => by cases h) (by simp [sesV, zeS, Value.oneCell']) (by omega) (by omega) ?_
       intro A23 c23 w6 ho23 hg23
       refine st_val (ro_assign (v := .slice _ _ _) rfl) ?_
       refine st_nil ?_
       refine end_ret ?_
       refine res0 rfl ?_
       exact grown_trans hG (grown_trans (E22.grown _) hg23)
end Go.Proofs.Ytbikemhokgcboaa
