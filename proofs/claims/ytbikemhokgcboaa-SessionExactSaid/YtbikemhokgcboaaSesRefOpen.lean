/- The reference: Open, MayOpen. -/
import Derived.Test.YtbikemhokgcboaaSesOpen
namespace Go.Proofs.Ytbikemhokgcboaa
open Go.RowKit
open Go.ChangeShapes Go.WideShapes Go.ChangeAt
theorem SesRefOpen_q22 : litQ Try.prog 22 = some (60, 6, 64, (.agg #[.int .i64 0, .int .i64 0, .int .i64 0, .int .i64 0, .slice none 0 0, .int .i64 0])) := by kernel_rfl
theorem SesRefOpen_e22 : elemQ Try.prog 22 = some (60, 6) := by kernel_rfl
theorem SesRefOpen_g3 : aggQ Try.prog 3 = some false := by kernel_rfl
theorem SesRefOpen_k10 : callable Try.prog 10 = true := by kernel_rfl
theorem SesRefOpen_l22 : (elemQ Try.prog 22).isSome = true := by kernel_rfl
theorem SesRefOpen_f60_3 : fieldQ Try.prog 60 3 = some 5 := by kernel_rfl
theorem SesRefOpen_k44 : callable Try.prog 44 = true := by kernel_rfl
theorem SesRefOpen_f60_0 : fieldQ Try.prog 60 0 = some 0 := by kernel_rfl
theorem SesRefOpen_b60_0_3 : ∀ (a0 : Int) (a1 : Int), Try.prog.built 60 [(0, .int .i64 a0), (3, .int .i64 a1)] = some #[.int .i64 a0, .int .i64 0, .int .i64 0, .int .i64 0, .slice none 0 0, .int .i64 a1] := by intros; kernel_rfl
theorem SesRefOpen_k32 : callable Try.prog 32 = true := by kernel_rfl
theorem SesRefOpen_k36 : callable Try.prog 36 = true := by kernel_rfl
theorem own_capM {w : World} {base e s n c m : Nat} {A : Option Addr} {xs : List Value} (h : w.ownsRow base e s (.slice A n c) m xs) : c ≤ 9223372036854775807 ∧ (A = none → c = 0) := by
  rcases h.2 with ⟨h0, _⟩ | ⟨g, cap, cur, hv, _, _, _, h4, _⟩
  · simp only [Value.slice.injEq] at h0
    exact ⟨by omega, fun _ => h0.2.2⟩
  · simp only [Value.slice.injEq] at hv
    exact ⟨by unfold maxLen at h4; omega, fun h => by rw [hv.1] at h; cases h⟩
theorem stand_end {M : List Ses} {t : Int} {i : Nat} (hr : ∀ i j (hi : i < M.length) (hj : j < M.length), i < j → M[i].c < M[j].c) (hne : ∀ j (h : j < M.length), M[j].c ≠ t) (hi : i ≤ M.length) (h1 : ∀ j (h : j < M.length), j < i → M[j].c < t) (h2 : ∀ h : i < M.length, ¬ M[i].c < t) : StandAt M t i := by
  refine ⟨hi, h1, fun j hj hij => ?_⟩
  have hil : i < M.length := by omega
  have a := h2 hil
  have b := hne i hil
  rcases Nat.lt_or_ge i j with x | x
  · have := hr i j hil hj x; omega
  · obtain rfl : i = j := by omega
    omega
theorem evict_take {L M : List Ses} (h : EvictGot (L.map norm) M) (i : Nat) : (M.take i).map norm = M.take i := by
  rw [List.map_take, evict_norm h]
theorem map_norm2 (L : List Ses) : (L.map norm).map norm = L.map norm := by rw [List.map_map]; rfl
set_option maxRecDepth 100000 in
set_option maxHeartbeats 3000000 in
theorem refOpen_rt (A : Option Addr) (c : Nat) (L : List Ses) (w : World) (hr : RowS w A L) (t : Int) (hv : ValidL L) (hmo : mayO L t) :
    Rt Try.prog 25 [.slice A L.length c, .int .i64 t] w (fun v w' => (∃ (K : List Ses) (A' : Option Addr) (c' : Nat), v = .slice A' K.length c' ∧ OpenGot L t K 0 ∧ RowS w' A' K) ∧ From w w') := by
  have hv8 := hv.1
  refine enter (n := 64) Try.func25 rfl rfl rfl ?_
  refine cd_seq ?_
  refine cd_region ?_
  refine st_val (ro_assign (v := .slice _ _ _) rfl) ?_
  refine st_nil ?_
  refine nx_then ?_
  refine cd_seq ?_
  refine cd_region ?_
  refine st_val (ro_move (v := .slice _ _ _) rfl) ?_
  refine st_call SesRefOpen_k10 (copySessions0 A c L _ (hr.from_ From.rfl_) (by omega) (valid_hl hv)) ?_
  rintro v10 w1 ⟨⟨A10, c10, rfl, ho10⟩, E10⟩
  obtain ⟨M, hM⟩ : ∃ M, M = L.map norm := ⟨_, rfl⟩
  rw [← hM] at ho10
  have hMl : M.length = L.length := by rw [hM, List.length_map]
  have hrm := (rowS_own ho10).2
  rw [← hMl] at ho10 ⊢
  refine st_val (ro_assign (v := .slice _ _ _) rfl) ?_
  refine st_nil ?_
  refine nx_then ?_
  refine cd_cut (G := Option Addr × Nat × List Ses × Nat) [5, 6, 11, 12, 13, 14, 15, 16, 17, 18, 19, 20, 21, 22, 23, 24, 25, 26, 27, 28, 29, 30, 31, 32, 33, 34] (fun (A8, c8, M, m) => [(0, .slice A8 m c8)]) (fun (A8, c8, M, m) w' => m = M.length ∧ w'.ownsRow w.heap.size 60 6 (.slice A8 m c8) m (M.flatMap sesV) ∧ EvictGot (L.map norm) M ∧ From w w') ?_ ?_
  · refine cd_seq ?_
    refine cd_region ?_
    refine st_val (ro_move (v := .slice _ _ _) rfl) ?_
    refine st_val (ro_len SesRefOpen_l22 rfl) ?_
    refine st_val (ro_eql rfl rfl) ?_
    refine st_nil ?_
    refine nx_then ?_
    refine cd_cond rfl (fun Q2 => ?_) (fun Q2 => ?_)
    · (try first | replace Q2 := bn_t Q2 | replace Q2 := bn_f Q2)
      (try first | replace Q2 := bx_t Q2 | replace Q2 := bx_f Q2 | replace Q2 := be_t Q2 | replace Q2 := be_f Q2 | replace Q2 := of_decide_eq_true Q2 | replace Q2 := of_decide_eq_false Q2)
      have hM8 : M.length = 8 := by omega
      first
       | (exfalso; first | omega | contradiction | (cases Q2; done))
       | skip
         refine cd_seq ?_
         refine cd_region ?_
         refine st_val (ro_assign (v := .int _ _) rfl) ?_
         refine st_nil ?_
         refine nx_then ?_
         refine cd_seq ?_
         refine cd_seq ?_
         refine cd_region ?_
         refine st_val (ro_assign (v := .int _ _) rfl) ?_
         refine st_nil ?_
         refine nx_then ?_
         refine cd_block ?_
         refine cd_loop (G := Nat × Nat) [14, 15, 16, 17, 18, 19, 20, 21, 22, 23, 24, 25, 26, 27, 28, 29, 30, 31] (fun (l, k) => [(5, .int .i64 (l : Nat)), (6, .int .i64 (k : Nat))]) (fun (l, k) w' => k ≤ M.length ∧ l < M.length ∧ 0 < k ∧ (l < k ∨ l = 0) ∧ (∀ (hl : l < M.length) j (hj : j < M.length), j < l → M[l].u < M[j].u) ∧ (∀ (hl : l < M.length) j (hj : j < M.length), j < k → M[l].u ≤ M[j].u) ∧ From w w' ∧ From w1 w') (fun (_, k) => M.length - k) ((0, 1)) ⟨rfl, rfl, trivial⟩ ?_ ?_
         · refine ⟨by omega, by omega, by omega, .inr rfl, fun _ j _ h => absurd h (by omega), fun _ j hj h => ?_, (From.rfl_.next E10), From.rfl_⟩
           obtain rfl : j = 0 := by omega
           omega
         rintro ⟨l, k⟩ ρ3 w3 ⟨hk, hlL, hk0, hlk, hlo, hle, hB, hC⟩
         refine cd_seq ?_
         refine cd_seq ?_
         refine cd_region ?_
         refine st_val (ro_move (v := .int _ _) rfl) ?_
         refine st_val (ro_move (v := .slice _ _ _) rfl) ?_
         refine st_val (ro_len SesRefOpen_l22 rfl) ?_
         refine st_val (ro_lss rfl rfl) ?_
         refine st_nil ?_
         refine nx_then ?_
         refine cd_cond rfl (fun Q4 => ?_) (fun Q4 => ?_)
         · (try first | replace Q4 := bn_t Q4 | replace Q4 := bn_f Q4)
           (try first | replace Q4 := bx_t Q4 | replace Q4 := bx_f Q4 | replace Q4 := be_t Q4 | replace Q4 := be_f Q4 | replace Q4 := of_decide_eq_true Q4 | replace Q4 := of_decide_eq_false Q4)
           have hkK : k < M.length := by omega
           obtain ⟨bm, om, rfl, hcm⟩ := hrm (by omega)
           first
            | (exfalso; first | omega | contradiction | (cases Q4; done))
            | skip
              refine cd_skip ?_
              refine nx_then ?_
              refine cd_cut (G := Nat) [20, 21, 22, 23, 24, 25, 26, 27, 28, 29, 30, 31] (fun l2 => [(5, .int .i64 (l2 : Nat))]) (fun l w' => l < M.length ∧ (l < k + 1 ∨ l = 0) ∧ (∀ (hl : l < M.length) j (hj : j < M.length), j < l → M[l].u < M[j].u) ∧ (∀ (hl : l < M.length) j (hj : j < M.length), j < k + 1 → M[l].u ≤ M[j].u) ∧ From w w' ∧ From w3 w') ?_ ?_
              · refine cd_block ?_
                refine cd_seq ?_
                apply cd_drawnD 11 [(20, eqp _), (21, eqp _), (22, eqp _), (23, eqp _), (24, eqp (.int .i64 (M[k]'hkK).u)), (25, eqp _), (26, eqp _), (27, eqp _), (28, eqp _), (29, eqp (.int .i64 (M[l]'hlL).u)), (30, eqp _)] (by repeat first | exact pq_body | refine pq_then ?_ | refine pq_block ?_) (by kernel_rfl) (by kernel_rfl) ⟨eqp_mono _, eqp_mono _, eqp_mono _, eqp_mono _, eqp_mono _, eqp_mono _, eqp_mono _, eqp_mono _, eqp_mono _, eqp_mono _, eqp_mono _, trivial⟩
                case hop =>
                 refine ⟨?_, ?_⟩
                 · rintro - w6 D6
                   show OpOK _ _ _ _ _ _ _
                   exact ok_pure (ro_move (v := .slice _ _ _) rfl) rfl
                 refine ⟨?_, ?_⟩
                 · rintro - w7 D7
                   show OpOK _ _ _ _ _ _ _
                   exact ok_pure (ro_move (v := .int _ _) rfl) rfl
                 refine ⟨?_, ?_⟩
                 · rintro - w8 D8
                   rintro _ rfl _ rfl
                   show OpOK _ _ _ _ _ _ _
                   exact ok_pure (ro_indexAddrN SesRefOpen_e22 rfl rfl (by omega)) rfl
                 refine ⟨?_, ?_⟩
                 · rintro - w9 D9
                   rintro _ rfl
                   show OpOK _ _ _ _ _ _ _
                   exact ok_pure (ro_fieldAddr SesRefOpen_f60_3 rfl) rfl
                 refine ⟨?_, ?_⟩
                 · rintro - w10 D10
                   rintro _ rfl
                   show OpOK _ _ _ _ _ _ _
                   exact ok_pure (ro_load SesRefOpen_g3 rfl (cellF (hC.next D10) (hcm k hkK 5 _ rfl))) rfl
                 refine ⟨?_, ?_⟩
                 · rintro - w11 D11
                   show OpOK _ _ _ _ _ _ _
                   exact ok_pure (ro_move (v := .slice _ _ _) rfl) rfl
                 refine ⟨?_, ?_⟩
                 · rintro - w12 D12
                   show OpOK _ _ _ _ _ _ _
                   exact ok_pure (ro_move (v := .int _ _) rfl) rfl
                 refine ⟨?_, ?_⟩
                 · rintro - w13 D13
                   rintro _ rfl _ rfl
                   show OpOK _ _ _ _ _ _ _
                   exact ok_pure (ro_indexAddrN SesRefOpen_e22 rfl rfl (by omega)) rfl
                 refine ⟨?_, ?_⟩
                 · rintro - w14 D14
                   rintro _ rfl
                   show OpOK _ _ _ _ _ _ _
                   exact ok_pure (ro_fieldAddr SesRefOpen_f60_3 rfl) rfl
                 refine ⟨?_, ?_⟩
                 · rintro - w15 D15
                   rintro _ rfl
                   show OpOK _ _ _ _ _ _ _
                   exact ok_pure (ro_load SesRefOpen_g3 rfl (cellF (hC.next D15) (hcm l hlL 5 _ rfl))) rfl
                 refine ⟨?_, ?_⟩
                 · rintro - w16 D16
                   rintro v16_24 rfl v16_29 rfl
                   show OpOK _ _ _ _ _ _ _
                   exact ok_pure (ro_lss rfl rfl) rfl
                 exact trivial
                case hend =>
                 intro w17 D17
                 rintro _ rfl _ rfl _ rfl _ rfl v24 rfl _ rfl _ rfl _ rfl _ rfl v29 rfl _ rfl
                 show St _ _ _ _ _ _ _
                 refine st_nil ?_
                 refine nx_then ?_
                 refine cd_cond rfl (fun Q18 => ?_) (fun Q18 => ?_)
                 · (try first | replace Q18 := bn_t Q18 | replace Q18 := bn_f Q18)
                   (try first | replace Q18 := bx_t Q18 | replace Q18 := bx_f Q18 | replace Q18 := be_t Q18 | replace Q18 := be_f Q18 | replace Q18 := of_decide_eq_true Q18 | replace Q18 := of_decide_eq_false Q18)
                   have hlt : (M[k]'hkK).u < (M[l]'hlL).u := Q18
                   first
                    | (exfalso; first | omega | contradiction | (cases Q18; done))
                    | skip
                      refine cd_region ?_
                      refine st_val (ro_move (v := .int _ _) rfl) ?_
                      refine st_val (ro_assign (v := .int _ _) rfl) ?_
                      refine st_nil ?_
                      refine nx_block ?_
                      refine nx_cut (k) ⟨(by first | rfl | (refine int_eq ?_; omega)), trivial⟩ (by (iterate 13 refine agr_cons rfl ?_); exact agr_rfl) ?_
                      refine ⟨hkK, by omega, fun _ j hj hjk => ?_, fun _ j hj hjk => ?_, (hB.next D17), (From.rfl_.next D17)⟩
                      · have := hle hlL j hj hjk; omega
                      · rcases Nat.lt_or_ge j k with a | a
                        · have := hle hlL j hj a; omega
                        · obtain rfl : j = k := by omega
                          omega
                 · (try first | replace Q18 := bn_t Q18 | replace Q18 := bn_f Q18)
                   (try first | replace Q18 := bx_t Q18 | replace Q18 := bx_f Q18 | replace Q18 := be_t Q18 | replace Q18 := be_f Q18 | replace Q18 := of_decide_eq_true Q18 | replace Q18 := of_decide_eq_false Q18)
                   have hlt : ¬ (M[k]'hkK).u < (M[l]'hlL).u := Q18
                   first
                    | (exfalso; first | omega | contradiction | (cases Q18; done))
                    | skip
                      refine cd_skip ?_
                      refine nx_block ?_
                      refine nx_cut (l) ⟨(by first | rfl | (refine int_eq ?_; omega)), trivial⟩ (by (iterate 11 refine agr_cons rfl ?_); exact agr_rfl) ?_
                      refine ⟨hlL, by omega, hlo, fun _ j hj hjk => ?_, (hB.next D17), (From.rfl_.next D17)⟩
                      rcases Nat.lt_or_ge j k with a | a
                      · exact hle hlL j hj a
                      · obtain rfl : j = k := by omega
                        omega
              · rintro l2 ρ19 w19 ⟨hl2, hlk2, hlo2, hle2, hB, hC2⟩
                replace hC := hC.next hC2
                refine cd_region ?_
                refine st_val (ro_move (v := .int _ _) rfl) ?_
                refine st_val (ro_addN (b := 1) rfl rfl (by omega)) ?_
                refine st_val (ro_assign (v := .int _ _) rfl) ?_
                refine st_nil ?_
                refine nx_cut ((l2, k + 1)) ⟨(by first | rfl | (refine int_eq ?_; omega)), (by first | rfl | (refine int_eq ?_; omega)), trivial⟩ (by (iterate 40 refine agr_cons rfl ?_); exact agr_rfl) ⟨?_, ?_⟩
                · exact ⟨by omega, hl2, by omega, by omega, hlo2, hle2, hB, hC.next From.rfl_⟩
                · show M.length - (k + 1) < M.length - k; omega
         · (try first | replace Q4 := bn_t Q4 | replace Q4 := bn_f Q4)
           (try first | replace Q4 := bx_t Q4 | replace Q4 := bx_f Q4 | replace Q4 := be_t Q4 | replace Q4 := be_f Q4 | replace Q4 := of_decide_eq_true Q4 | replace Q4 := of_decide_eq_false Q4)
           first
            | (exfalso; first | omega | contradiction | (cases Q4; done))
            | skip
              refine cd_exit ?_
              refine ex_then ?_
              refine ex_then ?_
              refine ex_block ?_
              refine nx_then ?_
              refine cd_region ?_
              refine st_val (ro_move (v := .slice _ _ _) rfl) ?_
              refine st_val (ro_move (v := .int _ _) rfl) ?_
              have hB34 : From w w3 := hB
              refine st_call SesRefOpen_k44 (drop_rt A10 c10 M _ (hrm.from_ hC) (by omega) (by have := own_cap ho10; omega) (own_capM ho10).1 l hlL (by subst hM; exact fun i h => norm_hl L _ (List.getElem_mem h))) ?_
              rintro v34 w20 ⟨⟨A34, c34, rfl, ho34⟩, E34⟩
              refine st_val (ro_assign (v := .slice _ _ _) rfl) ?_
              refine st_nil ?_
              refine nx_cut ((A34, c34, (L.map norm).take l ++ (L.map norm).drop (l + 1), _)) ⟨(by first | rfl | (refine int_eq ?_; omega)), trivial⟩ (by (iterate 33 refine agr_cons rfl ?_); exact agr_rfl) ?_
              have hlL2 : l < L.length := by omega
              have hmm : M.map norm = M := by rw [hM, map_norm2]
              refine ⟨by rw [close_len hlL2]; omega, ?_, .inr ⟨by rw [List.length_map]; omega, l, ⟨by rw [← hM]; exact hlL, fun j hj hjl => ?_, fun j hj => ?_⟩, rfl⟩, (hB.next E34)⟩
              · rw [hmm] at ho34; rw [← hM]; exact own_le ho34 hB34.size
              · subst hM; exact hlo hlL j hj hjl
              · subst hM; exact hle hlL j hj (by omega)
    · (try first | replace Q2 := bn_t Q2 | replace Q2 := bn_f Q2)
      (try first | replace Q2 := bx_t Q2 | replace Q2 := bx_f Q2 | replace Q2 := be_t Q2 | replace Q2 := be_f Q2 | replace Q2 := of_decide_eq_true Q2 | replace Q2 := of_decide_eq_false Q2)
      first
       | (exfalso; first | omega | contradiction | (cases Q2; done))
       | skip
         refine cd_skip ?_
         refine nx_cut ((A10, c10, L.map norm, _)) ⟨(by first | rfl | (refine int_eq ?_; omega)), trivial⟩ (by (iterate 3 refine agr_cons rfl ?_); exact agr_rfl) ?_
         exact ⟨by rw [hM], hM ▸ ho10, .inl ⟨by rw [List.length_map]; omega, rfl⟩, (From.rfl_.next E10)⟩
  · rintro ⟨A8, c8, M2, m⟩ ρ21 w21 ⟨hm, ho8, hE8, hB⟩
    subst hm
    have hMl2 : M2.length ≤ 8 := by have := (evict_mem hE8).2; rw [List.length_map] at this; omega
    have hr8 := (rowS_own ho8).2
    have hcp8 := own_cap ho8
    have hcm8 := own_capM ho8
    refine cd_seq ?_
    refine cd_region ?_
    refine st_val (ro_assign (v := .int _ _) rfl) ?_
    refine st_nil ?_
    refine nx_then ?_
    refine cd_cut (G := Nat) [35, 36, 37, 38, 39, 40, 41, 42, 43, 44, 45, 46, 47, 48, 49] (fun i => [(7, .int .i64 (i : Nat))]) (fun i w' => StandAt M2 t i ∧ w21 = w') ?_ ?_
    · refine cd_block ?_
      refine cd_loop (G := Nat) [35, 36, 37, 38, 39, 40, 41, 42, 43, 44, 45, 46, 47, 48, 49] (fun i => [(7, .int .i64 (i : Nat))]) (fun i w' => i ≤ M2.length ∧ (∀ j (h : j < M2.length), j < i → M2[j].c < t) ∧ w21 = w') (fun i => M2.length - i) (0) ⟨rfl, trivial⟩ ?_ ?_
      · exact ⟨Nat.zero_le _, fun j _ h => absurd h (by omega), rfl⟩
      rintro i ρ22 w22 ⟨hi, hlow, rfl⟩
      refine cd_seq ?_
      refine cd_seq ?_
      refine cd_region ?_
      refine st_val (ro_move (v := .int _ _) rfl) ?_
      refine st_val (ro_move (v := .slice _ _ _) rfl) ?_
      refine st_val (ro_len SesRefOpen_l22 rfl) ?_
      refine st_val (ro_lss rfl rfl) ?_
      refine st_val (ro_move (v := .bool _) rfl) ?_
      refine st_split (t := 39) rfl (fun Q23 => ?_) (fun Q23 => ?_)
      · (try first | replace Q23 := bn_t Q23 | replace Q23 := bn_f Q23)
        (try first | replace Q23 := bx_t Q23 | replace Q23 := bx_f Q23 | replace Q23 := be_t Q23 | replace Q23 := be_f Q23 | replace Q23 := of_decide_eq_true Q23 | replace Q23 := of_decide_eq_false Q23)
        obtain ⟨b8, o8, hA8, hcs8⟩ := hr8 (by omega)
        subst hA8
        first
         | (exfalso; first | omega | contradiction | (cases Q23; done))
         | skip
           refine st_unguard rfl ?_
           refine st_val (ro_move (v := .slice _ _ _) rfl) ?_
           refine st_unguard rfl ?_
           refine st_val (ro_move (v := .int _ _) rfl) ?_
           refine st_unguard rfl ?_
           refine st_val (ro_indexAddrN SesRefOpen_e22 rfl rfl (by omega)) ?_
           refine st_unguard rfl ?_
           refine st_val (ro_fieldAddr SesRefOpen_f60_0 rfl) ?_
           refine st_unguard rfl ?_
           refine st_val (ro_load SesRefOpen_g3 rfl (by exact hcs8 i (by omega) 0 _ rfl)) ?_
           refine st_unguard rfl ?_
           refine st_val (ro_move (v := .int _ _) rfl) ?_
           refine st_unguard rfl ?_
           refine st_val (ro_lss rfl rfl) ?_
           refine st_val (ro_pickT (v := .bool _) rfl rfl) ?_
           refine st_nil ?_
           refine nx_then ?_
           refine cd_cond rfl (fun Q24 => ?_) (fun Q24 => ?_)
           · (try first | replace Q24 := bn_t Q24 | replace Q24 := bn_f Q24)
             (try first | replace Q24 := bx_t Q24 | replace Q24 := bx_f Q24 | replace Q24 := be_t Q24 | replace Q24 := be_f Q24 | replace Q24 := of_decide_eq_true Q24 | replace Q24 := of_decide_eq_false Q24)
             first
              | (exfalso; first | omega | contradiction | (cases Q24; done))
              | skip
                refine cd_skip ?_
                refine nx_then ?_
                refine cd_block ?_
                refine cd_region ?_
                refine st_val (ro_move (v := .int _ _) rfl) ?_
                refine st_val (ro_addN (b := 1) rfl rfl (by omega)) ?_
                refine st_val (ro_assign (v := .int _ _) rfl) ?_
                refine st_nil ?_
                refine nx_block ?_
                refine nx_cut (i + 1) ⟨(by first | rfl | (refine int_eq ?_; omega)), trivial⟩ (by (iterate 33 refine agr_cons rfl ?_); exact agr_rfl) ⟨?_, ?_⟩
                · refine ⟨by omega, fun j hj hji => ?_, rfl⟩
                  rcases Nat.lt_or_ge j i with a | a
                  · exact hlow j hj a
                  · obtain rfl : j = i := by omega
                    assumption
                · omega
           · (try first | replace Q24 := bn_t Q24 | replace Q24 := bn_f Q24)
             (try first | replace Q24 := bx_t Q24 | replace Q24 := bx_f Q24 | replace Q24 := be_t Q24 | replace Q24 := be_f Q24 | replace Q24 := of_decide_eq_true Q24 | replace Q24 := of_decide_eq_false Q24)
             first
              | (exfalso; first | omega | contradiction | (cases Q24; done))
              | skip
                refine cd_exit ?_
                refine ex_then ?_
                refine ex_then ?_
                refine ex_block ?_
                refine nx_cut (i) ⟨(by first | rfl | (refine int_eq ?_; omega)), trivial⟩ (by (iterate 30 refine agr_cons rfl ?_); exact agr_rfl) ?_
                exact ⟨stand_end (evict_rise hv hE8) (evict_ne hE8 hmo.2) hi hlow (fun h => by first | omega | assumption), rfl⟩
      · (try first | replace Q23 := bn_t Q23 | replace Q23 := bn_f Q23)
        (try first | replace Q23 := bx_t Q23 | replace Q23 := bx_f Q23 | replace Q23 := be_t Q23 | replace Q23 := be_f Q23 | replace Q23 := of_decide_eq_true Q23 | replace Q23 := of_decide_eq_false Q23)
        first
         | (exfalso; first | omega | contradiction | (cases Q23; done))
         | skip
           refine st_gno rfl rfl ?_
           refine st_gno rfl rfl ?_
           refine st_gno rfl rfl ?_
           refine st_gno rfl rfl ?_
           refine st_gno rfl rfl ?_
           refine st_gno rfl rfl ?_
           refine st_gno rfl rfl ?_
           refine st_val (ro_pickF (v := .bool _) rfl rfl) ?_
           refine st_nil ?_
           refine nx_then ?_
           refine cd_condF rfl ?_
           refine cd_exit ?_
           refine ex_then ?_
           refine ex_then ?_
           refine ex_block ?_
           refine nx_cut (i) ⟨(by first | rfl | (refine int_eq ?_; omega)), trivial⟩ (by (iterate 30 refine agr_cons rfl ?_); exact agr_rfl) ?_
           exact ⟨stand_end (evict_rise hv hE8) (evict_ne hE8 hmo.2) hi hlow (fun h => by first | omega | assumption), rfl⟩
    · rintro i2 ρ25 w25 ⟨hst, rfl⟩
      have hi2 := hst.1
      refine cd_seq ?_
      refine cd_region ?_
      refine st_val (ro_move (v := .slice _ _ _) rfl) ?_
      refine st_val (ro_move (v := .int _ _) rfl) ?_
      refine st_val (ro_eq (v' := .slice A8 (M2.take i2).length c8) (ro_sliceO (l := 0) (h := i2) SesRefOpen_e22 rfl (.inl ⟨rfl, rfl⟩) (.inr ⟨_, _, _, rfl, rfl, rfl⟩) (by omega) (by omega)) (by rw [restOf_head, List.length_take, Nat.min_eq_left (by omega)]; rfl)) ?_
      have hB53 : From w w21 := hB
      refine st_call SesRefOpen_k10 (copySessions0 A8 c8 (M2.take i2) _ ((rowS_take hr8 i2).from_ From.rfl_) (by rw [List.length_take]; omega) (fun i hi => by rw [List.getElem_take]; exact evict_hl hE8 i _)) ?_
      rintro v53 w26 ⟨⟨A53, c53, rfl, ho53⟩, E53⟩
      refine st_val (ro_move (v := .int _ _) rfl) ?_
      refine st_val (ro_move (v := .int _ _) rfl) ?_
      refine st_val (ro_build (l := [(0, .tmp 54), (3, .tmp 55)]) (SesRefOpen_b60_0_3 _ _)) ?_
      refine st_lit (cells := (sesV (newS t)).toArray) SesRefOpen_q22 rfl rfl (fill6 t) ?_
      intro b57 w27 E57 hb57 hk57
      refine st_append (a0 := w) (news := sesV (newS t)) SesRefOpen_q22 rfl (by decide) rfl ((own_le ho53 hB53.size).kept_from E57) ((hB.next E53).next E57) rfl rfl (fun _ => ⟨b57, 0, rfl, hk57.whole⟩) (fun h => by cases h) (by simp [sesV, newS, Value.oneCell']) (by rw [List.length_take]; omega) (by rw [List.length_take]; omega) ?_
      intro A58 c58 w28 ho58 B58 hg58
      refine st_val (ro_assign (v := .slice _ _ _) rfl) ?_
      refine st_nil ?_
      refine nx_then ?_
      refine cd_seq ?_
      refine cd_region ?_
      refine st_val (ro_move (v := .slice _ _ _) rfl) ?_
      refine st_val (ro_move (v := .slice _ _ _) rfl) ?_
      refine st_val (ro_move (v := .int _ _) rfl) ?_
      refine st_val (ro_sliceO (l := i2) (h := M2.length) SesRefOpen_e22 rfl (.inr ⟨_, _, _, rfl, rfl, rfl⟩) (.inl ⟨rfl, rfl⟩) (by omega) (by omega)) ?_
      refine st_append (a0 := w) (news := (M2.drop i2).flatMap sesV) SesRefOpen_q22 rfl (by decide) rfl ho58 B58 rfl (by rw [flat_len ses_len, List.length_drop]) (fun h => (rowS_flat ((rowS_rest (hr8.from_ ((E53.next E57).grew hg58 (fun k hk => (own_at ho53 k hk).1))) i2 hi2 hcp8)) (by rw [List.length_drop]; omega))) (fun h => by have := hcm8.2 (restOf_none h); omega) (ses_one _) (by rw [List.length_take]; omega) (by rw [List.length_take]; omega) ?_
      intro A63 c63 w29 ho63 B63 hg63
      refine st_val (ro_assign (v := .slice _ _ _) rfl) ?_
      refine st_nil ?_
      refine nx_then ?_
      refine cd_ret ?_
      refine res1 (v := .slice _ _ _) rfl rfl ?_
      have hn : (M2.take i2).length + 1 + (M2.length - i2) = (M2.take i2 ++ [newS t] ++ M2.drop i2).length := by simp; omega
      rw [hn] at ho63 ⊢
      rw [evict_take hE8] at ho63
      exact ⟨⟨M2.take i2 ++ [newS t] ++ M2.drop i2, A63, c63, rfl, .inr ⟨hmo, rfl, M2, i2, hE8, hst, rfl⟩, (rowS_own (by rw [List.flatMap_append, List.flatMap_append]; simpa using ho63)).2⟩, B63⟩
set_option maxRecDepth 100000 in
set_option maxHeartbeats 400000 in
theorem mayOpen_rt (A : Option Addr) (c : Nat) (L : List Ses) (w : World) (hr : RowS w A L) (hl : L.length ≤ 1000) (t : Int) :
    Rt Try.prog 24 [.slice A L.length c, .int .i64 t] w (fun v w' => (∃ b, v = .bool b ∧ (b = true ↔ mayO L t)) ∧ w = w') := by
  refine enter (n := 13) Try.func24 rfl rfl rfl ?_
  refine cd_seq ?_
  refine cd_region ?_
  refine st_val (ro_assign (v := .bool _) rfl) ?_
  refine st_nil ?_
  refine nx_then ?_
  refine cd_seq ?_
  refine cd_region ?_
  refine st_val (ro_move (v := .int _ _) rfl) ?_
  refine st_call SesRefOpen_k32 (id_rt t _) ?_
  rintro v6 w1 ⟨rfl, rfl⟩
  refine st_val (ro_move (v := .bool _) rfl) ?_
  refine st_split (t := 7) rfl (fun Q2 => ?_) (fun Q2 => ?_)
  · (try first | replace Q2 := bn_t Q2 | replace Q2 := bn_f Q2)
    (try first | replace Q2 := bx_t Q2 | replace Q2 := bx_f Q2 | replace Q2 := be_t Q2 | replace Q2 := be_f Q2 | replace Q2 := of_decide_eq_true Q2 | replace Q2 := of_decide_eq_false Q2)
    have hq : inE 1 t = true := decide_eq_true Q2
    first
     | (exfalso; first | omega | contradiction | (cases Q2; done))
     | skip
       refine st_unguard rfl ?_
       refine st_val (ro_move (v := .slice _ _ _) rfl) ?_
       refine st_unguard rfl ?_
       refine st_val (ro_move (v := .int _ _) rfl) ?_
       refine st_unguard rfl ?_
       refine st_call SesRefOpen_k36 (refFind_rt A c L _ hr (by omega) t) ?_
       rintro v10 w3 ⟨hg10, rfl⟩
       rcases hg10 with ⟨i, hi, he, rfl⟩ | ⟨hno, rfl⟩
       · refine st_unguard rfl ?_
         refine st_val (ro_lss rfl rfl) ?_
         refine st_val (ro_pickT (v := .bool _) rfl rfl) ?_
         refine st_val (ro_assign (v := .bool _) rfl) ?_
         refine st_nil ?_
         refine nx_then ?_
         refine cd_ret ?_
         refine res1 (v := .bool _) rfl rfl ?_
         first
           | exact ⟨⟨_, rfl, ⟨fun h => absurd h (by simp), fun h => (nob hq h.1).elim⟩⟩, rfl⟩
           | exact ⟨⟨_, rfl, ⟨fun h => absurd (of_decide_eq_true h) (by omega), fun h => absurd he (h.2 i hi)⟩⟩, rfl⟩
           | exact ⟨⟨_, rfl, ⟨fun h => ⟨hq, hno⟩, fun h => rfl⟩⟩, rfl⟩
       · refine st_unguard rfl ?_
         refine st_val (ro_lss rfl rfl) ?_
         refine st_val (ro_pickT (v := .bool _) rfl rfl) ?_
         refine st_val (ro_assign (v := .bool _) rfl) ?_
         refine st_nil ?_
         refine nx_then ?_
         refine cd_ret ?_
         refine res1 (v := .bool _) rfl rfl ?_
         first
           | exact ⟨⟨_, rfl, ⟨fun h => absurd h (by simp), fun h => (nob hq h.1).elim⟩⟩, rfl⟩
           | exact ⟨⟨_, rfl, ⟨fun h => absurd (of_decide_eq_true h) (by omega), fun h => absurd he (h.2 i hi)⟩⟩, rfl⟩
           | exact ⟨⟨_, rfl, ⟨fun h => ⟨hq, hno⟩, fun h => rfl⟩⟩, rfl⟩
  · (try first | replace Q2 := bn_t Q2 | replace Q2 := bn_f Q2)
    (try first | replace Q2 := bx_t Q2 | replace Q2 := bx_f Q2 | replace Q2 := be_t Q2 | replace Q2 := be_f Q2 | replace Q2 := of_decide_eq_true Q2 | replace Q2 := of_decide_eq_false Q2)
    have hq : inE 1 t = false := decide_eq_false Q2
    first
     | (exfalso; first | omega | contradiction | (cases Q2; done))
     | skip
       refine st_gno rfl rfl ?_
       refine st_gno rfl rfl ?_
       refine st_gno rfl rfl ?_
       refine st_gno rfl rfl ?_
       refine st_val (ro_pickF (v := .bool _) rfl rfl) ?_
       refine st_val (ro_assign (v := .bool _) rfl) ?_
       refine st_nil ?_
       refine nx_then ?_
       refine cd_ret ?_
       refine res1 (v := .bool _) rfl rfl ?_
       first
         | exact ⟨⟨_, rfl, ⟨fun h => absurd h (by simp), fun h => (nob hq h.1).elim⟩⟩, rfl⟩
         | exact ⟨⟨_, rfl, ⟨fun h => absurd (of_decide_eq_true h) (by omega), fun h => absurd he (h.2 i hi)⟩⟩, rfl⟩
         | exact ⟨⟨_, rfl, ⟨fun h => ⟨hq, hno⟩, fun h => rfl⟩⟩, rfl⟩
end Go.Proofs.Ytbikemhokgcboaa
