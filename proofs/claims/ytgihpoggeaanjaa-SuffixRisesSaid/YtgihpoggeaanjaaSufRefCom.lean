/- the reference: Common. -/
import Derived.Test.YtgihpoggeaanjaaSufHelp
namespace Go.Proofs.Ytgihpoggeaanjaa
open Go.RowKit
open Go.ChangeShapes Go.WideShapes Go.ChangeAt
open Go.Proofs.Ytgihpoggeaanjaa.SA
theorem SufRefCom_e24 : elemQ Try.prog 24 = some (3, 1) := by kernel_rfl
theorem SufRefCom_q24 : litQ Try.prog 24 = some (3, 1, 8, (.int .i64 0)) := by kernel_rfl
theorem SufRefCom_l24 : (elemQ Try.prog 24).isSome = true := by kernel_rfl
theorem SufRefCom_g3 : aggQ Try.prog 3 = some false := by kernel_rfl
/-- h symbols in common -/
def agr (L : List Nat) (i j h : Nat) : Prop := i + h ≤ L.length ∧ j + h ≤ L.length ∧ ∀ m, m < h → L.getD (i + m) 0 = L.getD (j + m) 0
/-- and no more -/
def stop (L : List Nat) (i j h : Nat) : Prop := ¬ (i + h < L.length ∧ j + h < L.length ∧ L.getD (i + h) 0 = L.getD (j + h) 0)
theorem lcp_uniq {L : List Nat} {i j h h2 : Nat} (a : agr L i j h) (b : stop L i j h) (c : agr L i j h2) (d : stop L i j h2) : h = h2 := by
  rcases Nat.lt_trichotomy h h2 with x | x | x
  · exact absurd ⟨by have := c.1; omega, by have := c.2.1; omega, c.2.2 h x⟩ b
  · exact x
  · exact absurd ⟨by have := a.1; omega, by have := a.2.1; omega, a.2.2 h2 x⟩ d
theorem agr_succ {L : List Nat} {i j h : Nat} (a : agr L i j h) (h1 : i + h < L.length) (h2 : j + h < L.length) (h3 : L.getD (i + h) 0 = L.getD (j + h) 0) : agr L i j (h + 1) :=
  ⟨by omega, by omega, fun m hm => by
    rcases Nat.eq_or_lt_of_le (Nat.le_of_lt_succ hm) with e | e
    · subst e; exact h3
    · exact a.2.2 m e⟩
/-- what neighbours have in common -/
structure IsCm (L F C : List Nat) : Prop where
  len : C.length = F.length
  at0 : 0 < C.length → C.getD 0 0 = 0
  at_ : ∀ k, 0 < k → k < C.length → agr L (F.getD k 0) (F.getD (k - 1) 0) (C.getD k 0) ∧ stop L (F.getD k 0) (F.getD (k - 1) 0) (C.getD k 0)
theorem IsCm.uniq {L F C D : List Nat} (h : IsCm L F C) (k : IsCm L F D) : C = D := by
  apply List.ext_getElem (by rw [h.len, k.len])
  intro r h1 h2
  have e : C.getD r 0 = D.getD r 0 := by
    rcases Nat.eq_zero_or_pos r with e | e
    · subst e; rw [h.at0 h1, k.at0 h2]
    · exact lcp_uniq (h.at_ r e h1).1 (h.at_ r e h1).2 (k.at_ r e h2).1 (k.at_ r e h2).2
  rw [List.getD_eq_getElem?_getD, List.getD_eq_getElem?_getD, List.getElem?_eq_getElem h1, List.getElem?_eq_getElem h2] at e
  exact e
theorem rowD {w : World} {A : Option Addr} {L : List Nat} (h : RowOf iV w A (cI L)) (h0 : 0 < L.length) : ∃ b o, A = some ⟨b, o, none⟩ ∧ ∀ i, i < L.length → w.cell? ⟨b, o + i, none⟩ = some (.int .i64 ((L.getD i 0 : Nat) : Int)) := by
  obtain ⟨b, o, rfl, hc⟩ := rowL h h0
  refine ⟨b, o, rfl, fun i hi => ?_⟩
  rw [hc i hi, List.getD_eq_getElem?_getD, List.getElem?_eq_getElem hi]
  rfl
theorem getD_app {C : List Nat} {x k : Nat} : (C ++ [x]).getD k 0 = if k < C.length then C.getD k 0 else if k = C.length then x else 0 := by
  rw [List.getD_eq_getElem?_getD, List.getD_eq_getElem?_getD, List.getElem?_append]
  split
  · rfl
  · split
    · rename_i e; subst e; simp
    · rw [List.getElem?_eq_none (by simp; omega)]; rfl
/-- as far as it is told -/
structure CmTo (L F C : List Nat) (k : Nat) : Prop where
  len : C.length = k
  at0 : 0 < k → C.getD 0 0 = 0
  at_ : ∀ q, 0 < q → q < k → agr L (F.getD q 0) (F.getD (q - 1) 0) (C.getD q 0) ∧ stop L (F.getD q 0) (F.getD (q - 1) 0) (C.getD q 0)
theorem CmTo.push {L F C : List Nat} {k h : Nat} (a : CmTo L F C k) (h0 : k = 0 → h = 0) (h1 : 0 < k → agr L (F.getD k 0) (F.getD (k - 1) 0) h ∧ stop L (F.getD k 0) (F.getD (k - 1) 0) h) : CmTo L F (C ++ [h]) (k + 1) := by
  have hl := a.len
  refine ⟨by simp [hl], fun _ => ?_, fun q hq hk => ?_⟩
  · rw [getD_app, hl]
    split
    · exact a.at0 (by omega)
    · rw [if_pos (by omega)]; exact h0 (by omega)
  · rw [getD_app, hl]
    by_cases e : q < k
    · rw [if_pos e]; exact a.at_ q hq e
    · obtain rfl : q = k := by omega
      rw [if_neg e, if_pos rfl]
      exact h1 hq
set_option maxRecDepth 100000 in
set_option maxHeartbeats 2000000 in
theorem refCommon_rt (A B : Option Addr) (c cb n m : Nat) (L F : List Nat) (w : World) (hr : RowOf iV w A (cI L)) (hn : n = L.length) (hb : RowOf iV w B (cI F)) (hm : m = F.length) (hmn : m = n) (hl : n ≤ 131072) (hF : ∀ k, k < m → F.getD k 0 < n) :
    Rt Try.prog 16 [.slice A n c, .slice B m cb] w (fun v w' => (∃ A' c' C, v = .slice A' m c' ∧ w'.ownsRow w.heap.size 3 1 (.slice A' m c') m ((cI C).map iV) ∧ IsCm L F C) ∧ From w w') := by
  have hFk := hF
  refine enter (n := 68) Try.func16 rfl rfl rfl ?_
  refine cd_seq ?_
  refine cd_region ?_
  refine st_val (ro_assign (v := .slice _ _ _) rfl) ?_
  refine st_nil ?_
  refine nx_then ?_
  refine cd_seq ?_
  refine cd_region ?_
  refine st_val (ro_assign (v := .slice _ _ _) rfl) ?_
  refine st_nil ?_
  refine nx_then ?_
  refine cd_seq ?_
  refine cd_seq ?_
  refine cd_region ?_
  refine st_val (ro_assign (v := .int _ _) rfl) ?_
  refine st_nil ?_
  refine nx_then ?_
  refine cd_block ?_
  refine cd_loop (G := Nat × List Nat × Option Addr × Nat) [7, 8, 9, 10, 11, 12, 13, 14, 15, 16, 17, 18, 19, 20, 21, 22, 23, 24, 25, 26, 27, 28, 29, 30, 31, 32, 33, 34, 35, 36, 37, 38, 39, 40, 41, 42, 43, 44, 45, 46, 47, 48, 49, 50, 51, 52, 53, 54, 55, 56, 57, 58, 59, 60, 61, 62, 63, 64, 65, 66] (fun (k, C, A5, c5) => [(5, .slice A5 k c5), (6, .int .i64 (k : Nat))]) (fun (k, C, A5, c5) w' => k ≤ m ∧ CmTo L F C k ∧ w'.ownsRow w.heap.size 3 1 (.slice A5 k c5) k ((cI C).map iV) ∧ From w w') (fun (k, _) => m - k) ((0, [], none, 0)) ⟨rfl, rfl, trivial⟩ ?_ ?_
  · exact ⟨Nat.zero_le _, ⟨rfl, fun h => absurd h (by omega), fun q _ h => absurd h (by omega)⟩, World.ownsRow_nil _ _ _ _, From.rfl_⟩
  rintro ⟨k, C, A5, c5⟩ ρ1 w1 ⟨hk, hC, ho, hB⟩
  refine cd_seq ?_
  refine cd_seq ?_
  refine cd_region ?_
  refine st_val (ro_move (v := .int _ _) rfl) ?_
  refine st_val (ro_move (v := .slice _ _ _) rfl) ?_
  refine st_val (ro_len SufRefCom_l24 rfl) ?_
  refine st_val (ro_lss rfl rfl) ?_
  refine st_nil ?_
  refine nx_then ?_
  refine cd_cond rfl (fun Q2 => ?_) (fun Q2 => ?_)
  · (try with_reducible first | replace Q2 := of_decide_eq_true Q2 | replace Q2 := of_decide_eq_false Q2 | replace Q2 := bn_t Q2 | replace Q2 := bn_f Q2)
    (try with_reducible first | replace Q2 := of_decide_eq_true Q2 | replace Q2 := of_decide_eq_false Q2 | replace Q2 := bx_t Q2 | replace Q2 := bx_f Q2 | replace Q2 := be_t Q2 | replace Q2 := be_f Q2)
    have hkm : k < m := by omega
    obtain ⟨bB, oB, rfl, hcb⟩ := rowD hb (by omega)
    obtain ⟨bA, oA, rfl, hca⟩ := rowD hr (by have := hF k hkm; omega)
    have hf1 := hF k hkm
    have hf2 := hF (k - 1) (by omega)
    refine cd_skip ?_
    refine nx_then ?_
    refine cd_seq ?_
    refine cd_block ?_
    refine cd_seq ?_
    refine cd_region ?_
    refine st_val (ro_assign (v := .int _ _) rfl) ?_
    refine st_nil ?_
    refine nx_then ?_
    refine cd_seq ?_
    refine cd_block ?_
    refine cd_loop (G := Nat) [14, 15, 16, 17, 18, 19, 20, 21, 22, 23, 24, 25, 26, 27, 28, 29, 30, 31, 32, 33, 34, 35, 36, 37, 38, 39, 40, 41, 42, 43, 44, 45, 46, 47, 48, 49, 50, 51, 52, 53, 54, 55, 56, 57, 58, 59, 60, 61, 62] (fun h => [(7, .int .i64 (h : Nat))]) (fun h w' => (k = 0 → h = 0) ∧ (0 < k → agr L (F.getD k 0) (F.getD (k - 1) 0) h) ∧ h ≤ n ∧ w'.ownsRow w.heap.size 3 1 (.slice A5 k c5) k ((cI C).map iV) ∧ From w w') (fun h => n - h) (0) ⟨rfl, trivial⟩ ?_ ?_
    · exact ⟨fun _ => rfl, fun _ => ⟨by rw [Nat.add_zero, ← hn]; exact Nat.le_of_lt (hFk k hkm), by rw [Nat.add_zero, ← hn]; exact Nat.le_of_lt (hFk (k - 1) (by omega)), fun q h => absurd h (by omega)⟩, Nat.zero_le _, ho.kept_from From.rfl_, hB⟩
    rintro h ρ3 w3 ⟨hz0, hag, hhn, ho, hB⟩
    refine cd_seq ?_
    refine cd_seq ?_
    rcases (show k = 0 ∨ (0 < k ∧ n ≤ F.getD k 0 + h) ∨ (0 < k ∧ F.getD k 0 + h < n ∧ n ≤ F.getD (k - 1) 0 + h) ∨ (0 < k ∧ F.getD k 0 + h < n ∧ F.getD (k - 1) 0 + h < n ∧ L.getD (F.getD k 0 + h) 0 = L.getD (F.getD (k - 1) 0 + h) 0) ∨ (0 < k ∧ F.getD k 0 + h < n ∧ F.getD (k - 1) 0 + h < n ∧ L.getD (F.getD k 0 + h) 0 ≠ L.getD (F.getD (k - 1) 0 + h) 0) by omega) with h1 | ⟨h1, h2⟩ | ⟨h1, h2, h3⟩ | ⟨h1, h2, h3, h4⟩ | ⟨h1, h2, h3, h4⟩
    · have hst : 0 < k → stop L (F.getD k 0) (F.getD (k - 1) 0) h := fun h0 => absurd h0 (by omega)
      apply cd_drawn 47 [(14, eqp _), (15, eqp _), (16, eqp _), (17, eqp _), (18, eqp _), (19, eqp _), (20, eqp _), (21, eqp _), (22, eqp _), (23, eqp _), (24, eqp _), (25, eqp _), (26, eqp _), (27, eqp _), (28, eqp _), (29, eqp _), (30, eqp _), (31, eqp _), (32, eqp _), (33, eqp _), (34, eqp _), (35, eqp _), (36, eqp _), (37, eqp _), (38, eqp _), (39, eqp _), (40, eqp _), (41, eqp _), (42, eqp _), (43, eqp _), (44, eqp _), (45, eqp _), (46, eqp _), (47, eqp _), (48, eqp _), (49, eqp _), (50, eqp _), (51, eqp _), (52, eqp _), (53, eqp _), (54, eqp _), (55, eqp _), (56, eqp _), (57, eqp _), (58, eqp _), (59, eqp _), (60, eqp _)] (by kernel_rfl) (by kernel_rfl) ⟨eqp_mono _, eqp_mono _, eqp_mono _, eqp_mono _, eqp_mono _, eqp_mono _, eqp_mono _, eqp_mono _, eqp_mono _, eqp_mono _, eqp_mono _, eqp_mono _, eqp_mono _, eqp_mono _, eqp_mono _, eqp_mono _, eqp_mono _, eqp_mono _, eqp_mono _, eqp_mono _, eqp_mono _, eqp_mono _, eqp_mono _, eqp_mono _, eqp_mono _, eqp_mono _, eqp_mono _, eqp_mono _, eqp_mono _, eqp_mono _, eqp_mono _, eqp_mono _, eqp_mono _, eqp_mono _, eqp_mono _, eqp_mono _, eqp_mono _, eqp_mono _, eqp_mono _, eqp_mono _, eqp_mono _, eqp_mono _, eqp_mono _, eqp_mono _, eqp_mono _, eqp_mono _, eqp_mono _, trivial⟩
      case hop =>
       refine ⟨?_, ?_⟩
       · intro w5 D5
         show OpOK _ _ _ _ _ _ _
         exact ok_pure (ro_move (v := .int _ _) rfl) rfl
       refine ⟨?_, ?_⟩
       · intro w6 D6
         rintro _ rfl
         show OpOK _ _ _ _ _ _ _
         exact ok_pure (ro_bf (ro_gtr rfl rfl) (decide_eq_false (by omega))) rfl
       refine ⟨?_, ?_⟩
       · intro w7 D7
         rintro _ rfl
         show OpOK _ _ _ _ _ _ _
         exact ok_pure (ro_move (v := .bool _) rfl) rfl
       refine ⟨?_, ?_⟩
       · intro w8 D8
         rintro _ rfl
         show OpOK _ _ _ _ _ _ _
         exact ok_gno rfl rfl rfl
       refine ⟨?_, ?_⟩
       · intro w9 D9
         rintro _ rfl
         show OpOK _ _ _ _ _ _ _
         exact ok_gno rfl rfl rfl
       refine ⟨?_, ?_⟩
       · intro w10 D10
         rintro _ rfl _ rfl _ rfl
         show OpOK _ _ _ _ _ _ _
         exact ok_gno rfl rfl rfl
       refine ⟨?_, ?_⟩
       · intro w11 D11
         rintro _ rfl _ rfl
         show OpOK _ _ _ _ _ _ _
         exact ok_gno rfl rfl rfl
       refine ⟨?_, ?_⟩
       · intro w12 D12
         rintro _ rfl
         show OpOK _ _ _ _ _ _ _
         exact ok_gno rfl rfl rfl
       refine ⟨?_, ?_⟩
       · intro w13 D13
         rintro _ rfl _ rfl _ rfl
         show OpOK _ _ _ _ _ _ _
         exact ok_gno rfl rfl rfl
       refine ⟨?_, ?_⟩
       · intro w14 D14
         rintro _ rfl
         show OpOK _ _ _ _ _ _ _
         exact ok_gno rfl rfl rfl
       refine ⟨?_, ?_⟩
       · intro w15 D15
         rintro _ rfl _ rfl
         show OpOK _ _ _ _ _ _ _
         exact ok_gno rfl rfl rfl
       refine ⟨?_, ?_⟩
       · intro w16 D16
         rintro _ rfl _ rfl _ rfl
         show OpOK _ _ _ _ _ _ _
         exact ok_gno rfl rfl rfl
       refine ⟨?_, ?_⟩
       · intro w17 D17
         rintro _ rfl _ rfl
         show OpOK _ _ _ _ _ _ _
         exact ok_pure (ro_pickF (v := .bool _) rfl rfl) rfl
       refine ⟨?_, ?_⟩
       · intro w18 D18
         rintro _ rfl
         show OpOK _ _ _ _ _ _ _
         exact ok_pure (ro_move (v := .bool _) rfl) rfl
       refine ⟨?_, ?_⟩
       · intro w19 D19
         rintro _ rfl
         show OpOK _ _ _ _ _ _ _
         exact ok_gno rfl rfl rfl
       refine ⟨?_, ?_⟩
       · intro w20 D20
         rintro _ rfl
         show OpOK _ _ _ _ _ _ _
         exact ok_gno rfl rfl rfl
       refine ⟨?_, ?_⟩
       · intro w21 D21
         rintro _ rfl _ rfl
         show OpOK _ _ _ _ _ _ _
         exact ok_gno rfl rfl rfl
       refine ⟨?_, ?_⟩
       · intro w22 D22
         rintro _ rfl _ rfl _ rfl
         show OpOK _ _ _ _ _ _ _
         exact ok_gno rfl rfl rfl
       refine ⟨?_, ?_⟩
       · intro w23 D23
         rintro _ rfl _ rfl
         show OpOK _ _ _ _ _ _ _
         exact ok_gno rfl rfl rfl
       refine ⟨?_, ?_⟩
       · intro w24 D24
         rintro _ rfl
         show OpOK _ _ _ _ _ _ _
         exact ok_gno rfl rfl rfl
       refine ⟨?_, ?_⟩
       · intro w25 D25
         rintro _ rfl _ rfl _ rfl
         show OpOK _ _ _ _ _ _ _
         exact ok_gno rfl rfl rfl
       refine ⟨?_, ?_⟩
       · intro w26 D26
         rintro _ rfl
         show OpOK _ _ _ _ _ _ _
         exact ok_gno rfl rfl rfl
       refine ⟨?_, ?_⟩
       · intro w27 D27
         rintro _ rfl _ rfl
         show OpOK _ _ _ _ _ _ _
         exact ok_gno rfl rfl rfl
       refine ⟨?_, ?_⟩
       · intro w28 D28
         rintro _ rfl _ rfl _ rfl
         show OpOK _ _ _ _ _ _ _
         exact ok_gno rfl rfl rfl
       refine ⟨?_, ?_⟩
       · intro w29 D29
         rintro _ rfl _ rfl
         show OpOK _ _ _ _ _ _ _
         exact ok_pure (ro_pickF (v := .bool _) rfl rfl) rfl
       refine ⟨?_, ?_⟩
       · intro w30 D30
         rintro _ rfl
         show OpOK _ _ _ _ _ _ _
         exact ok_pure (ro_move (v := .bool _) rfl) rfl
       refine ⟨?_, ?_⟩
       · intro w31 D31
         rintro _ rfl
         show OpOK _ _ _ _ _ _ _
         exact ok_gno rfl rfl rfl
       refine ⟨?_, ?_⟩
       · intro w32 D32
         rintro _ rfl
         show OpOK _ _ _ _ _ _ _
         exact ok_gno rfl rfl rfl
       refine ⟨?_, ?_⟩
       · intro w33 D33
         rintro _ rfl
         show OpOK _ _ _ _ _ _ _
         exact ok_gno rfl rfl rfl
       refine ⟨?_, ?_⟩
       · intro w34 D34
         rintro _ rfl _ rfl _ rfl
         show OpOK _ _ _ _ _ _ _
         exact ok_gno rfl rfl rfl
       refine ⟨?_, ?_⟩
       · intro w35 D35
         rintro _ rfl _ rfl
         show OpOK _ _ _ _ _ _ _
         exact ok_gno rfl rfl rfl
       refine ⟨?_, ?_⟩
       · intro w36 D36
         rintro _ rfl
         show OpOK _ _ _ _ _ _ _
         exact ok_gno rfl rfl rfl
       refine ⟨?_, ?_⟩
       · intro w37 D37
         rintro _ rfl _ rfl _ rfl
         show OpOK _ _ _ _ _ _ _
         exact ok_gno rfl rfl rfl
       refine ⟨?_, ?_⟩
       · intro w38 D38
         rintro _ rfl _ rfl _ rfl
         show OpOK _ _ _ _ _ _ _
         exact ok_gno rfl rfl rfl
       refine ⟨?_, ?_⟩
       · intro w39 D39
         rintro _ rfl _ rfl
         show OpOK _ _ _ _ _ _ _
         exact ok_gno rfl rfl rfl
       refine ⟨?_, ?_⟩
       · intro w40 D40
         rintro _ rfl
         show OpOK _ _ _ _ _ _ _
         exact ok_gno rfl rfl rfl
       refine ⟨?_, ?_⟩
       · intro w41 D41
         rintro _ rfl
         show OpOK _ _ _ _ _ _ _
         exact ok_gno rfl rfl rfl
       refine ⟨?_, ?_⟩
       · intro w42 D42
         rintro _ rfl
         show OpOK _ _ _ _ _ _ _
         exact ok_gno rfl rfl rfl
       refine ⟨?_, ?_⟩
       · intro w43 D43
         rintro _ rfl _ rfl
         show OpOK _ _ _ _ _ _ _
         exact ok_gno rfl rfl rfl
       refine ⟨?_, ?_⟩
       · intro w44 D44
         rintro _ rfl _ rfl _ rfl
         show OpOK _ _ _ _ _ _ _
         exact ok_gno rfl rfl rfl
       refine ⟨?_, ?_⟩
       · intro w45 D45
         rintro _ rfl _ rfl
         show OpOK _ _ _ _ _ _ _
         exact ok_gno rfl rfl rfl
       refine ⟨?_, ?_⟩
       · intro w46 D46
         rintro _ rfl
         show OpOK _ _ _ _ _ _ _
         exact ok_gno rfl rfl rfl
       refine ⟨?_, ?_⟩
       · intro w47 D47
         rintro _ rfl _ rfl _ rfl
         show OpOK _ _ _ _ _ _ _
         exact ok_gno rfl rfl rfl
       refine ⟨?_, ?_⟩
       · intro w48 D48
         rintro _ rfl _ rfl _ rfl
         show OpOK _ _ _ _ _ _ _
         exact ok_gno rfl rfl rfl
       refine ⟨?_, ?_⟩
       · intro w49 D49
         rintro _ rfl _ rfl
         show OpOK _ _ _ _ _ _ _
         exact ok_gno rfl rfl rfl
       refine ⟨?_, ?_⟩
       · intro w50 D50
         rintro _ rfl _ rfl _ rfl
         show OpOK _ _ _ _ _ _ _
         exact ok_gno rfl rfl rfl
       refine ⟨?_, ?_⟩
       · intro w51 D51
         rintro _ rfl _ rfl
         show OpOK _ _ _ _ _ _ _
         exact ok_pure (ro_pickF (v := .bool _) rfl rfl) rfl
       exact trivial
      case hend =>
       intro w52 D52
       rintro _ rfl _ rfl _ rfl _ rfl _ rfl _ rfl _ rfl _ rfl _ rfl _ rfl _ rfl _ rfl _ rfl _ rfl _ rfl _ rfl _ rfl _ rfl _ rfl _ rfl _ rfl _ rfl _ rfl _ rfl _ rfl _ rfl _ rfl _ rfl _ rfl _ rfl _ rfl _ rfl _ rfl _ rfl _ rfl _ rfl _ rfl _ rfl _ rfl _ rfl _ rfl _ rfl _ rfl _ rfl _ rfl _ rfl _ rfl
       show St _ _ _ _ _ _ _
       refine st_nil ?_
       refine nx_then ?_
       refine cd_condF rfl ?_
       refine cd_exit ?_
       refine ex_then ?_
       refine ex_then ?_
       refine ex_block ?_
       refine nx_then ?_
       refine cd_region ?_
       refine st_val (ro_move (v := .slice _ _ _) rfl) ?_
       refine st_val (ro_move (v := .int _ _) rfl) ?_
       refine st_lit1 (v := .int _ _) SufRefCom_q24 rfl rfl rfl ?_
       intro b65 w53 E65 hb65 hk65
       refine st_push1 (a0 := w) SufRefCom_q24 rfl rfl (ho.kept_from ((From.rfl_.next D52).next E65)) ((hB.next D52).next E65) rfl hk65 rfl (by omega) (by omega) ?_
       intro A66 c66 w54 ho66 B66 hg66
       refine st_val (ro_assign (v := .slice _ _ _) rfl) ?_
       refine st_nil ?_
       refine nx_block ?_
       refine nx_then ?_
       refine cd_region ?_
       refine st_val (ro_move (v := .int _ _) rfl) ?_
       refine st_val (ro_addN (b := 1) rfl rfl (by omega)) ?_
       refine st_val (ro_assign (v := .int _ _) rfl) ?_
       refine st_nil ?_
       refine nx_cut ((k + 1, C ++ [h], A66, c66)) ⟨(by first | rfl | (refine int_eq ?_; omega)), (by first | rfl | (refine int_eq ?_; omega)), trivial⟩ (by (iterate 172 refine agr_cons rfl ?_); exact agr_rfl) ⟨?_, ?_⟩
       · exact ⟨by omega, hC.push hz0 (fun h0 => ⟨(hag h0), hst h0⟩), by simpa [cI] using ho66, B66⟩
       · show m - (k + 1) < m - k; omega
    · have hst : 0 < k → stop L (F.getD k 0) (F.getD (k - 1) 0) h := fun _ x => absurd x.1 (by omega)
      apply cd_drawn 47 [(14, eqp _), (15, eqp _), (16, eqp _), (17, eqp _), (18, eqp _), (19, eqp _), (20, eqp _), (21, eqp _), (22, eqp _), (23, eqp _), (24, eqp _), (25, eqp _), (26, eqp _), (27, eqp _), (28, eqp _), (29, eqp _), (30, eqp _), (31, eqp _), (32, eqp _), (33, eqp _), (34, eqp _), (35, eqp _), (36, eqp _), (37, eqp _), (38, eqp _), (39, eqp _), (40, eqp _), (41, eqp _), (42, eqp _), (43, eqp _), (44, eqp _), (45, eqp _), (46, eqp _), (47, eqp _), (48, eqp _), (49, eqp _), (50, eqp _), (51, eqp _), (52, eqp _), (53, eqp _), (54, eqp _), (55, eqp _), (56, eqp _), (57, eqp _), (58, eqp _), (59, eqp _), (60, eqp _)] (by kernel_rfl) (by kernel_rfl) ⟨eqp_mono _, eqp_mono _, eqp_mono _, eqp_mono _, eqp_mono _, eqp_mono _, eqp_mono _, eqp_mono _, eqp_mono _, eqp_mono _, eqp_mono _, eqp_mono _, eqp_mono _, eqp_mono _, eqp_mono _, eqp_mono _, eqp_mono _, eqp_mono _, eqp_mono _, eqp_mono _, eqp_mono _, eqp_mono _, eqp_mono _, eqp_mono _, eqp_mono _, eqp_mono _, eqp_mono _, eqp_mono _, eqp_mono _, eqp_mono _, eqp_mono _, eqp_mono _, eqp_mono _, eqp_mono _, eqp_mono _, eqp_mono _, eqp_mono _, eqp_mono _, eqp_mono _, eqp_mono _, eqp_mono _, eqp_mono _, eqp_mono _, eqp_mono _, eqp_mono _, eqp_mono _, eqp_mono _, trivial⟩
      case hop =>
       refine ⟨?_, ?_⟩
       · intro w56 D56
         show OpOK _ _ _ _ _ _ _
         exact ok_pure (ro_move (v := .int _ _) rfl) rfl
       refine ⟨?_, ?_⟩
       · intro w57 D57
         rintro _ rfl
         show OpOK _ _ _ _ _ _ _
         exact ok_pure (ro_bt (ro_gtr rfl rfl) (decide_eq_true (by omega))) rfl
       refine ⟨?_, ?_⟩
       · intro w58 D58
         rintro _ rfl
         show OpOK _ _ _ _ _ _ _
         exact ok_pure (ro_move (v := .bool _) rfl) rfl
       refine ⟨?_, ?_⟩
       · intro w59 D59
         rintro _ rfl
         show OpOK _ _ _ _ _ _ _
         exact ok_gpure rfl (ro_move (v := .slice _ _ _) rfl) rfl
       refine ⟨?_, ?_⟩
       · intro w60 D60
         rintro _ rfl
         show OpOK _ _ _ _ _ _ _
         exact ok_gpure rfl (ro_move (v := .int _ _) rfl) rfl
       refine ⟨?_, ?_⟩
       · intro w61 D61
         rintro _ rfl _ rfl _ rfl
         show OpOK _ _ _ _ _ _ _
         exact ok_gpure rfl (ro_indexAddr1 SufRefCom_e24 rfl rfl (by omega)) rfl
       refine ⟨?_, ?_⟩
       · intro w62 D62
         rintro _ rfl _ rfl
         show OpOK _ _ _ _ _ _ _
         exact ok_gpure rfl (ro_load SufRefCom_g3 rfl (by exact cellF (hB.next D62) (hcb k (by omega)))) rfl
       refine ⟨?_, ?_⟩
       · intro w63 D63
         rintro _ rfl
         show OpOK _ _ _ _ _ _ _
         exact ok_gpure rfl (ro_move (v := .int _ _) rfl) rfl
       refine ⟨?_, ?_⟩
       · intro w64 D64
         rintro _ rfl _ rfl _ rfl
         show OpOK _ _ _ _ _ _ _
         exact ok_gpure rfl (ro_addN rfl rfl (by omega)) rfl
       refine ⟨?_, ?_⟩
       · intro w65 D65
         rintro _ rfl
         show OpOK _ _ _ _ _ _ _
         exact ok_gpure rfl (ro_move (v := .slice _ _ _) rfl) rfl
       refine ⟨?_, ?_⟩
       · intro w66 D66
         rintro _ rfl _ rfl
         show OpOK _ _ _ _ _ _ _
         exact ok_gpure rfl (ro_len SufRefCom_l24 rfl) rfl
       refine ⟨?_, ?_⟩
       · intro w67 D67
         rintro _ rfl _ rfl _ rfl
         show OpOK _ _ _ _ _ _ _
         exact ok_gpure rfl (ro_bf (ro_lss rfl rfl) (decide_eq_false (by omega))) rfl
       refine ⟨?_, ?_⟩
       · intro w68 D68
         rintro _ rfl _ rfl
         show OpOK _ _ _ _ _ _ _
         exact ok_pure (ro_pickT (v := .bool _) rfl rfl) rfl
       refine ⟨?_, ?_⟩
       · intro w69 D69
         rintro _ rfl
         show OpOK _ _ _ _ _ _ _
         exact ok_pure (ro_move (v := .bool _) rfl) rfl
       refine ⟨?_, ?_⟩
       · intro w70 D70
         rintro _ rfl
         show OpOK _ _ _ _ _ _ _
         exact ok_gno rfl rfl rfl
       refine ⟨?_, ?_⟩
       · intro w71 D71
         rintro _ rfl
         show OpOK _ _ _ _ _ _ _
         exact ok_gno rfl rfl rfl
       refine ⟨?_, ?_⟩
       · intro w72 D72
         rintro _ rfl _ rfl
         show OpOK _ _ _ _ _ _ _
         exact ok_gno rfl rfl rfl
       refine ⟨?_, ?_⟩
       · intro w73 D73
         rintro _ rfl _ rfl _ rfl
         show OpOK _ _ _ _ _ _ _
         exact ok_gno rfl rfl rfl
       refine ⟨?_, ?_⟩
       · intro w74 D74
         rintro _ rfl _ rfl
         show OpOK _ _ _ _ _ _ _
         exact ok_gno rfl rfl rfl
       refine ⟨?_, ?_⟩
       · intro w75 D75
         rintro _ rfl
         show OpOK _ _ _ _ _ _ _
         exact ok_gno rfl rfl rfl
       refine ⟨?_, ?_⟩
       · intro w76 D76
         rintro _ rfl _ rfl _ rfl
         show OpOK _ _ _ _ _ _ _
         exact ok_gno rfl rfl rfl
       refine ⟨?_, ?_⟩
       · intro w77 D77
         rintro _ rfl
         show OpOK _ _ _ _ _ _ _
         exact ok_gno rfl rfl rfl
       refine ⟨?_, ?_⟩
       · intro w78 D78
         rintro _ rfl _ rfl
         show OpOK _ _ _ _ _ _ _
         exact ok_gno rfl rfl rfl
       refine ⟨?_, ?_⟩
       · intro w79 D79
         rintro _ rfl _ rfl _ rfl
         show OpOK _ _ _ _ _ _ _
         exact ok_gno rfl rfl rfl
       refine ⟨?_, ?_⟩
       · intro w80 D80
         rintro _ rfl _ rfl
         show OpOK _ _ _ _ _ _ _
         exact ok_pure (ro_pickF (v := .bool _) rfl rfl) rfl
       refine ⟨?_, ?_⟩
       · intro w81 D81
         rintro _ rfl
         show OpOK _ _ _ _ _ _ _
         exact ok_pure (ro_move (v := .bool _) rfl) rfl
       refine ⟨?_, ?_⟩
       · intro w82 D82
         rintro _ rfl
         show OpOK _ _ _ _ _ _ _
         exact ok_gno rfl rfl rfl
       refine ⟨?_, ?_⟩
       · intro w83 D83
         rintro _ rfl
         show OpOK _ _ _ _ _ _ _
         exact ok_gno rfl rfl rfl
       refine ⟨?_, ?_⟩
       · intro w84 D84
         rintro _ rfl
         show OpOK _ _ _ _ _ _ _
         exact ok_gno rfl rfl rfl
       refine ⟨?_, ?_⟩
       · intro w85 D85
         rintro _ rfl _ rfl _ rfl
         show OpOK _ _ _ _ _ _ _
         exact ok_gno rfl rfl rfl
       refine ⟨?_, ?_⟩
       · intro w86 D86
         rintro _ rfl _ rfl
         show OpOK _ _ _ _ _ _ _
         exact ok_gno rfl rfl rfl
       refine ⟨?_, ?_⟩
       · intro w87 D87
         rintro _ rfl
         show OpOK _ _ _ _ _ _ _
         exact ok_gno rfl rfl rfl
       refine ⟨?_, ?_⟩
       · intro w88 D88
         rintro _ rfl _ rfl _ rfl
         show OpOK _ _ _ _ _ _ _
         exact ok_gno rfl rfl rfl
       refine ⟨?_, ?_⟩
       · intro w89 D89
         rintro _ rfl _ rfl _ rfl
         show OpOK _ _ _ _ _ _ _
         exact ok_gno rfl rfl rfl
       refine ⟨?_, ?_⟩
       · intro w90 D90
         rintro _ rfl _ rfl
         show OpOK _ _ _ _ _ _ _
         exact ok_gno rfl rfl rfl
       refine ⟨?_, ?_⟩
       · intro w91 D91
         rintro _ rfl
         show OpOK _ _ _ _ _ _ _
         exact ok_gno rfl rfl rfl
       refine ⟨?_, ?_⟩
       · intro w92 D92
         rintro _ rfl
         show OpOK _ _ _ _ _ _ _
         exact ok_gno rfl rfl rfl
       refine ⟨?_, ?_⟩
       · intro w93 D93
         rintro _ rfl
         show OpOK _ _ _ _ _ _ _
         exact ok_gno rfl rfl rfl
       refine ⟨?_, ?_⟩
       · intro w94 D94
         rintro _ rfl _ rfl
         show OpOK _ _ _ _ _ _ _
         exact ok_gno rfl rfl rfl
       refine ⟨?_, ?_⟩
       · intro w95 D95
         rintro _ rfl _ rfl _ rfl
         show OpOK _ _ _ _ _ _ _
         exact ok_gno rfl rfl rfl
       refine ⟨?_, ?_⟩
       · intro w96 D96
         rintro _ rfl _ rfl
         show OpOK _ _ _ _ _ _ _
         exact ok_gno rfl rfl rfl
       refine ⟨?_, ?_⟩
       · intro w97 D97
         rintro _ rfl
         show OpOK _ _ _ _ _ _ _
         exact ok_gno rfl rfl rfl
       refine ⟨?_, ?_⟩
       · intro w98 D98
         rintro _ rfl _ rfl _ rfl
         show OpOK _ _ _ _ _ _ _
         exact ok_gno rfl rfl rfl
       refine ⟨?_, ?_⟩
       · intro w99 D99
         rintro _ rfl _ rfl _ rfl
         show OpOK _ _ _ _ _ _ _
         exact ok_gno rfl rfl rfl
       refine ⟨?_, ?_⟩
       · intro w100 D100
         rintro _ rfl _ rfl
         show OpOK _ _ _ _ _ _ _
         exact ok_gno rfl rfl rfl
       refine ⟨?_, ?_⟩
       · intro w101 D101
         rintro _ rfl _ rfl _ rfl
         show OpOK _ _ _ _ _ _ _
         exact ok_gno rfl rfl rfl
       refine ⟨?_, ?_⟩
       · intro w102 D102
         rintro _ rfl _ rfl
         show OpOK _ _ _ _ _ _ _
         exact ok_pure (ro_pickF (v := .bool _) rfl rfl) rfl
       exact trivial
      case hend =>
       intro w103 D103
       rintro _ rfl _ rfl _ rfl _ rfl _ rfl _ rfl _ rfl _ rfl _ rfl _ rfl _ rfl _ rfl _ rfl _ rfl _ rfl _ rfl _ rfl _ rfl _ rfl _ rfl _ rfl _ rfl _ rfl _ rfl _ rfl _ rfl _ rfl _ rfl _ rfl _ rfl _ rfl _ rfl _ rfl _ rfl _ rfl _ rfl _ rfl _ rfl _ rfl _ rfl _ rfl _ rfl _ rfl _ rfl _ rfl _ rfl _ rfl
       show St _ _ _ _ _ _ _
       refine st_nil ?_
       refine nx_then ?_
       refine cd_condF rfl ?_
       refine cd_exit ?_
       refine ex_then ?_
       refine ex_then ?_
       refine ex_block ?_
       refine nx_then ?_
       refine cd_region ?_
       refine st_val (ro_move (v := .slice _ _ _) rfl) ?_
       refine st_val (ro_move (v := .int _ _) rfl) ?_
       refine st_lit1 (v := .int _ _) SufRefCom_q24 rfl rfl rfl ?_
       intro b65 w104 E65 hb65 hk65
       refine st_push1 (a0 := w) SufRefCom_q24 rfl rfl (ho.kept_from ((From.rfl_.next D103).next E65)) ((hB.next D103).next E65) rfl hk65 rfl (by omega) (by omega) ?_
       intro A66 c66 w105 ho66 B66 hg66
       refine st_val (ro_assign (v := .slice _ _ _) rfl) ?_
       refine st_nil ?_
       refine nx_block ?_
       refine nx_then ?_
       refine cd_region ?_
       refine st_val (ro_move (v := .int _ _) rfl) ?_
       refine st_val (ro_addN (b := 1) rfl rfl (by omega)) ?_
       refine st_val (ro_assign (v := .int _ _) rfl) ?_
       refine st_nil ?_
       refine nx_cut ((k + 1, C ++ [h], A66, c66)) ⟨(by first | rfl | (refine int_eq ?_; omega)), (by first | rfl | (refine int_eq ?_; omega)), trivial⟩ (by (iterate 172 refine agr_cons rfl ?_); exact agr_rfl) ⟨?_, ?_⟩
       · exact ⟨by omega, hC.push hz0 (fun h0 => ⟨(hag h0), hst h0⟩), by simpa [cI] using ho66, B66⟩
       · show m - (k + 1) < m - k; omega
    · have hst : 0 < k → stop L (F.getD k 0) (F.getD (k - 1) 0) h := fun _ x => absurd x.2.1 (by omega)
      apply cd_drawn 47 [(14, eqp _), (15, eqp _), (16, eqp _), (17, eqp _), (18, eqp _), (19, eqp _), (20, eqp _), (21, eqp _), (22, eqp _), (23, eqp _), (24, eqp _), (25, eqp _), (26, eqp _), (27, eqp _), (28, eqp _), (29, eqp _), (30, eqp _), (31, eqp _), (32, eqp _), (33, eqp _), (34, eqp _), (35, eqp _), (36, eqp _), (37, eqp _), (38, eqp _), (39, eqp _), (40, eqp _), (41, eqp _), (42, eqp _), (43, eqp _), (44, eqp _), (45, eqp _), (46, eqp _), (47, eqp _), (48, eqp _), (49, eqp _), (50, eqp _), (51, eqp _), (52, eqp _), (53, eqp _), (54, eqp _), (55, eqp _), (56, eqp _), (57, eqp _), (58, eqp _), (59, eqp _), (60, eqp _)] (by kernel_rfl) (by kernel_rfl) ⟨eqp_mono _, eqp_mono _, eqp_mono _, eqp_mono _, eqp_mono _, eqp_mono _, eqp_mono _, eqp_mono _, eqp_mono _, eqp_mono _, eqp_mono _, eqp_mono _, eqp_mono _, eqp_mono _, eqp_mono _, eqp_mono _, eqp_mono _, eqp_mono _, eqp_mono _, eqp_mono _, eqp_mono _, eqp_mono _, eqp_mono _, eqp_mono _, eqp_mono _, eqp_mono _, eqp_mono _, eqp_mono _, eqp_mono _, eqp_mono _, eqp_mono _, eqp_mono _, eqp_mono _, eqp_mono _, eqp_mono _, eqp_mono _, eqp_mono _, eqp_mono _, eqp_mono _, eqp_mono _, eqp_mono _, eqp_mono _, eqp_mono _, eqp_mono _, eqp_mono _, eqp_mono _, eqp_mono _, trivial⟩
      case hop =>
       refine ⟨?_, ?_⟩
       · intro w107 D107
         show OpOK _ _ _ _ _ _ _
         exact ok_pure (ro_move (v := .int _ _) rfl) rfl
       refine ⟨?_, ?_⟩
       · intro w108 D108
         rintro _ rfl
         show OpOK _ _ _ _ _ _ _
         exact ok_pure (ro_bt (ro_gtr rfl rfl) (decide_eq_true (by omega))) rfl
       refine ⟨?_, ?_⟩
       · intro w109 D109
         rintro _ rfl
         show OpOK _ _ _ _ _ _ _
         exact ok_pure (ro_move (v := .bool _) rfl) rfl
       refine ⟨?_, ?_⟩
       · intro w110 D110
         rintro _ rfl
         show OpOK _ _ _ _ _ _ _
         exact ok_gpure rfl (ro_move (v := .slice _ _ _) rfl) rfl
       refine ⟨?_, ?_⟩
       · intro w111 D111
         rintro _ rfl
         show OpOK _ _ _ _ _ _ _
         exact ok_gpure rfl (ro_move (v := .int _ _) rfl) rfl
       refine ⟨?_, ?_⟩
       · intro w112 D112
         rintro _ rfl _ rfl _ rfl
         show OpOK _ _ _ _ _ _ _
         exact ok_gpure rfl (ro_indexAddr1 SufRefCom_e24 rfl rfl (by omega)) rfl
       refine ⟨?_, ?_⟩
       · intro w113 D113
         rintro _ rfl _ rfl
         show OpOK _ _ _ _ _ _ _
         exact ok_gpure rfl (ro_load SufRefCom_g3 rfl (by exact cellF (hB.next D113) (hcb k (by omega)))) rfl
       refine ⟨?_, ?_⟩
       · intro w114 D114
         rintro _ rfl
         show OpOK _ _ _ _ _ _ _
         exact ok_gpure rfl (ro_move (v := .int _ _) rfl) rfl
       refine ⟨?_, ?_⟩
       · intro w115 D115
         rintro _ rfl _ rfl _ rfl
         show OpOK _ _ _ _ _ _ _
         exact ok_gpure rfl (ro_addN rfl rfl (by omega)) rfl
       refine ⟨?_, ?_⟩
       · intro w116 D116
         rintro _ rfl
         show OpOK _ _ _ _ _ _ _
         exact ok_gpure rfl (ro_move (v := .slice _ _ _) rfl) rfl
       refine ⟨?_, ?_⟩
       · intro w117 D117
         rintro _ rfl _ rfl
         show OpOK _ _ _ _ _ _ _
         exact ok_gpure rfl (ro_len SufRefCom_l24 rfl) rfl
       refine ⟨?_, ?_⟩
       · intro w118 D118
         rintro _ rfl _ rfl _ rfl
         show OpOK _ _ _ _ _ _ _
         exact ok_gpure rfl (ro_bt (ro_lss rfl rfl) (decide_eq_true (by omega))) rfl
       refine ⟨?_, ?_⟩
       · intro w119 D119
         rintro _ rfl _ rfl
         show OpOK _ _ _ _ _ _ _
         exact ok_pure (ro_pickT (v := .bool _) rfl rfl) rfl
       refine ⟨?_, ?_⟩
       · intro w120 D120
         rintro _ rfl
         show OpOK _ _ _ _ _ _ _
         exact ok_pure (ro_move (v := .bool _) rfl) rfl
       refine ⟨?_, ?_⟩
       · intro w121 D121
         rintro _ rfl
         show OpOK _ _ _ _ _ _ _
         exact ok_gpure rfl (ro_move (v := .slice _ _ _) rfl) rfl
       refine ⟨?_, ?_⟩
       · intro w122 D122
         rintro _ rfl
         show OpOK _ _ _ _ _ _ _
         exact ok_gpure rfl (ro_move (v := .int _ _) rfl) rfl
       refine ⟨?_, ?_⟩
       · intro w123 D123
         rintro _ rfl _ rfl
         show OpOK _ _ _ _ _ _ _
         exact ok_gpure rfl (ro_subN (b := 1) rfl rfl (by omega)) rfl
       refine ⟨?_, ?_⟩
       · intro w124 D124
         rintro _ rfl _ rfl _ rfl
         show OpOK _ _ _ _ _ _ _
         exact ok_gpure rfl (ro_indexAddr1 SufRefCom_e24 rfl rfl (by omega)) rfl
       refine ⟨?_, ?_⟩
       · intro w125 D125
         rintro _ rfl _ rfl
         show OpOK _ _ _ _ _ _ _
         exact ok_gpure rfl (ro_load SufRefCom_g3 rfl (by exact cellF (hB.next D125) (hcb (k - 1) (by omega)))) rfl
       refine ⟨?_, ?_⟩
       · intro w126 D126
         rintro _ rfl
         show OpOK _ _ _ _ _ _ _
         exact ok_gpure rfl (ro_move (v := .int _ _) rfl) rfl
       refine ⟨?_, ?_⟩
       · intro w127 D127
         rintro _ rfl _ rfl _ rfl
         show OpOK _ _ _ _ _ _ _
         exact ok_gpure rfl (ro_addN rfl rfl (by omega)) rfl
       refine ⟨?_, ?_⟩
       · intro w128 D128
         rintro _ rfl
         show OpOK _ _ _ _ _ _ _
         exact ok_gpure rfl (ro_move (v := .slice _ _ _) rfl) rfl
       refine ⟨?_, ?_⟩
       · intro w129 D129
         rintro _ rfl _ rfl
         show OpOK _ _ _ _ _ _ _
         exact ok_gpure rfl (ro_len SufRefCom_l24 rfl) rfl
       refine ⟨?_, ?_⟩
       · intro w130 D130
         rintro _ rfl _ rfl _ rfl
         show OpOK _ _ _ _ _ _ _
         exact ok_gpure rfl (ro_bf (ro_lss rfl rfl) (decide_eq_false (by omega))) rfl
       refine ⟨?_, ?_⟩
       · intro w131 D131
         rintro _ rfl _ rfl
         show OpOK _ _ _ _ _ _ _
         exact ok_pure (ro_pickT (v := .bool _) rfl rfl) rfl
       refine ⟨?_, ?_⟩
       · intro w132 D132
         rintro _ rfl
         show OpOK _ _ _ _ _ _ _
         exact ok_pure (ro_move (v := .bool _) rfl) rfl
       refine ⟨?_, ?_⟩
       · intro w133 D133
         rintro _ rfl
         show OpOK _ _ _ _ _ _ _
         exact ok_gno rfl rfl rfl
       refine ⟨?_, ?_⟩
       · intro w134 D134
         rintro _ rfl
         show OpOK _ _ _ _ _ _ _
         exact ok_gno rfl rfl rfl
       refine ⟨?_, ?_⟩
       · intro w135 D135
         rintro _ rfl
         show OpOK _ _ _ _ _ _ _
         exact ok_gno rfl rfl rfl
       refine ⟨?_, ?_⟩
       · intro w136 D136
         rintro _ rfl _ rfl _ rfl
         show OpOK _ _ _ _ _ _ _
         exact ok_gno rfl rfl rfl
       refine ⟨?_, ?_⟩
       · intro w137 D137
         rintro _ rfl _ rfl
         show OpOK _ _ _ _ _ _ _
         exact ok_gno rfl rfl rfl
       refine ⟨?_, ?_⟩
       · intro w138 D138
         rintro _ rfl
         show OpOK _ _ _ _ _ _ _
         exact ok_gno rfl rfl rfl
       refine ⟨?_, ?_⟩
       · intro w139 D139
         rintro _ rfl _ rfl _ rfl
         show OpOK _ _ _ _ _ _ _
         exact ok_gno rfl rfl rfl
       refine ⟨?_, ?_⟩
       · intro w140 D140
         rintro _ rfl _ rfl _ rfl
         show OpOK _ _ _ _ _ _ _
         exact ok_gno rfl rfl rfl
       refine ⟨?_, ?_⟩
       · intro w141 D141
         rintro _ rfl _ rfl
         show OpOK _ _ _ _ _ _ _
         exact ok_gno rfl rfl rfl
       refine ⟨?_, ?_⟩
       · intro w142 D142
         rintro _ rfl
         show OpOK _ _ _ _ _ _ _
         exact ok_gno rfl rfl rfl
       refine ⟨?_, ?_⟩
       · intro w143 D143
         rintro _ rfl
         show OpOK _ _ _ _ _ _ _
         exact ok_gno rfl rfl rfl
       refine ⟨?_, ?_⟩
       · intro w144 D144
         rintro _ rfl
         show OpOK _ _ _ _ _ _ _
         exact ok_gno rfl rfl rfl
       refine ⟨?_, ?_⟩
       · intro w145 D145
         rintro _ rfl _ rfl
         show OpOK _ _ _ _ _ _ _
         exact ok_gno rfl rfl rfl
       refine ⟨?_, ?_⟩
       · intro w146 D146
         rintro _ rfl _ rfl _ rfl
         show OpOK _ _ _ _ _ _ _
         exact ok_gno rfl rfl rfl
       refine ⟨?_, ?_⟩
       · intro w147 D147
         rintro _ rfl _ rfl
         show OpOK _ _ _ _ _ _ _
         exact ok_gno rfl rfl rfl
       refine ⟨?_, ?_⟩
       · intro w148 D148
         rintro _ rfl
         show OpOK _ _ _ _ _ _ _
         exact ok_gno rfl rfl rfl
       refine ⟨?_, ?_⟩
       · intro w149 D149
         rintro _ rfl _ rfl _ rfl
         show OpOK _ _ _ _ _ _ _
         exact ok_gno rfl rfl rfl
       refine ⟨?_, ?_⟩
       · intro w150 D150
         rintro _ rfl _ rfl _ rfl
         show OpOK _ _ _ _ _ _ _
         exact ok_gno rfl rfl rfl
       refine ⟨?_, ?_⟩
       · intro w151 D151
         rintro _ rfl _ rfl
         show OpOK _ _ _ _ _ _ _
         exact ok_gno rfl rfl rfl
       refine ⟨?_, ?_⟩
       · intro w152 D152
         rintro _ rfl _ rfl _ rfl
         show OpOK _ _ _ _ _ _ _
         exact ok_gno rfl rfl rfl
       refine ⟨?_, ?_⟩
       · intro w153 D153
         rintro _ rfl _ rfl
         show OpOK _ _ _ _ _ _ _
         exact ok_pure (ro_pickF (v := .bool _) rfl rfl) rfl
       exact trivial
      case hend =>
       intro w154 D154
       rintro _ rfl _ rfl _ rfl _ rfl _ rfl _ rfl _ rfl _ rfl _ rfl _ rfl _ rfl _ rfl _ rfl _ rfl _ rfl _ rfl _ rfl _ rfl _ rfl _ rfl _ rfl _ rfl _ rfl _ rfl _ rfl _ rfl _ rfl _ rfl _ rfl _ rfl _ rfl _ rfl _ rfl _ rfl _ rfl _ rfl _ rfl _ rfl _ rfl _ rfl _ rfl _ rfl _ rfl _ rfl _ rfl _ rfl _ rfl
       show St _ _ _ _ _ _ _
       refine st_nil ?_
       refine nx_then ?_
       refine cd_condF rfl ?_
       refine cd_exit ?_
       refine ex_then ?_
       refine ex_then ?_
       refine ex_block ?_
       refine nx_then ?_
       refine cd_region ?_
       refine st_val (ro_move (v := .slice _ _ _) rfl) ?_
       refine st_val (ro_move (v := .int _ _) rfl) ?_
       refine st_lit1 (v := .int _ _) SufRefCom_q24 rfl rfl rfl ?_
       intro b65 w155 E65 hb65 hk65
       refine st_push1 (a0 := w) SufRefCom_q24 rfl rfl (ho.kept_from ((From.rfl_.next D154).next E65)) ((hB.next D154).next E65) rfl hk65 rfl (by omega) (by omega) ?_
       intro A66 c66 w156 ho66 B66 hg66
       refine st_val (ro_assign (v := .slice _ _ _) rfl) ?_
       refine st_nil ?_
       refine nx_block ?_
       refine nx_then ?_
       refine cd_region ?_
       refine st_val (ro_move (v := .int _ _) rfl) ?_
       refine st_val (ro_addN (b := 1) rfl rfl (by omega)) ?_
       refine st_val (ro_assign (v := .int _ _) rfl) ?_
       refine st_nil ?_
       refine nx_cut ((k + 1, C ++ [h], A66, c66)) ⟨(by first | rfl | (refine int_eq ?_; omega)), (by first | rfl | (refine int_eq ?_; omega)), trivial⟩ (by (iterate 172 refine agr_cons rfl ?_); exact agr_rfl) ⟨?_, ?_⟩
       · exact ⟨by omega, hC.push hz0 (fun h0 => ⟨(hag h0), hst h0⟩), by simpa [cI] using ho66, B66⟩
       · show m - (k + 1) < m - k; omega
    · apply cd_drawn 47 [(14, eqp _), (15, eqp _), (16, eqp _), (17, eqp _), (18, eqp _), (19, eqp _), (20, eqp _), (21, eqp _), (22, eqp _), (23, eqp _), (24, eqp _), (25, eqp _), (26, eqp _), (27, eqp _), (28, eqp _), (29, eqp _), (30, eqp _), (31, eqp _), (32, eqp _), (33, eqp _), (34, eqp _), (35, eqp _), (36, eqp _), (37, eqp _), (38, eqp _), (39, eqp _), (40, eqp _), (41, eqp _), (42, eqp _), (43, eqp _), (44, eqp _), (45, eqp _), (46, eqp _), (47, eqp _), (48, eqp _), (49, eqp _), (50, eqp _), (51, eqp _), (52, eqp _), (53, eqp _), (54, eqp _), (55, eqp _), (56, eqp _), (57, eqp _), (58, eqp _), (59, eqp _), (60, eqp _)] (by kernel_rfl) (by kernel_rfl) ⟨eqp_mono _, eqp_mono _, eqp_mono _, eqp_mono _, eqp_mono _, eqp_mono _, eqp_mono _, eqp_mono _, eqp_mono _, eqp_mono _, eqp_mono _, eqp_mono _, eqp_mono _, eqp_mono _, eqp_mono _, eqp_mono _, eqp_mono _, eqp_mono _, eqp_mono _, eqp_mono _, eqp_mono _, eqp_mono _, eqp_mono _, eqp_mono _, eqp_mono _, eqp_mono _, eqp_mono _, eqp_mono _, eqp_mono _, eqp_mono _, eqp_mono _, eqp_mono _, eqp_mono _, eqp_mono _, eqp_mono _, eqp_mono _, eqp_mono _, eqp_mono _, eqp_mono _, eqp_mono _, eqp_mono _, eqp_mono _, eqp_mono _, eqp_mono _, eqp_mono _, eqp_mono _, eqp_mono _, trivial⟩
      case hop =>
       refine ⟨?_, ?_⟩
       · intro w158 D158
         show OpOK _ _ _ _ _ _ _
         exact ok_pure (ro_move (v := .int _ _) rfl) rfl
       refine ⟨?_, ?_⟩
       · intro w159 D159
         rintro _ rfl
         show OpOK _ _ _ _ _ _ _
         exact ok_pure (ro_bt (ro_gtr rfl rfl) (decide_eq_true (by omega))) rfl
       refine ⟨?_, ?_⟩
       · intro w160 D160
         rintro _ rfl
         show OpOK _ _ _ _ _ _ _
         exact ok_pure (ro_move (v := .bool _) rfl) rfl
       refine ⟨?_, ?_⟩
       · intro w161 D161
         rintro _ rfl
         show OpOK _ _ _ _ _ _ _
         exact ok_gpure rfl (ro_move (v := .slice _ _ _) rfl) rfl
       refine ⟨?_, ?_⟩
       · intro w162 D162
         rintro _ rfl
         show OpOK _ _ _ _ _ _ _
         exact ok_gpure rfl (ro_move (v := .int _ _) rfl) rfl
       refine ⟨?_, ?_⟩
       · intro w163 D163
         rintro _ rfl _ rfl _ rfl
         show OpOK _ _ _ _ _ _ _
         exact ok_gpure rfl (ro_indexAddr1 SufRefCom_e24 rfl rfl (by omega)) rfl
       refine ⟨?_, ?_⟩
       · intro w164 D164
         rintro _ rfl _ rfl
         show OpOK _ _ _ _ _ _ _
         exact ok_gpure rfl (ro_load SufRefCom_g3 rfl (by exact cellF (hB.next D164) (hcb k (by omega)))) rfl
       refine ⟨?_, ?_⟩
       · intro w165 D165
         rintro _ rfl
         show OpOK _ _ _ _ _ _ _
         exact ok_gpure rfl (ro_move (v := .int _ _) rfl) rfl
       refine ⟨?_, ?_⟩
       · intro w166 D166
         rintro _ rfl _ rfl _ rfl
         show OpOK _ _ _ _ _ _ _
         exact ok_gpure rfl (ro_addN rfl rfl (by omega)) rfl
       refine ⟨?_, ?_⟩
       · intro w167 D167
         rintro _ rfl
         show OpOK _ _ _ _ _ _ _
         exact ok_gpure rfl (ro_move (v := .slice _ _ _) rfl) rfl
       refine ⟨?_, ?_⟩
       · intro w168 D168
         rintro _ rfl _ rfl
         show OpOK _ _ _ _ _ _ _
         exact ok_gpure rfl (ro_len SufRefCom_l24 rfl) rfl
       refine ⟨?_, ?_⟩
       · intro w169 D169
         rintro _ rfl _ rfl _ rfl
         show OpOK _ _ _ _ _ _ _
         exact ok_gpure rfl (ro_bt (ro_lss rfl rfl) (decide_eq_true (by omega))) rfl
       refine ⟨?_, ?_⟩
       · intro w170 D170
         rintro _ rfl _ rfl
         show OpOK _ _ _ _ _ _ _
         exact ok_pure (ro_pickT (v := .bool _) rfl rfl) rfl
       refine ⟨?_, ?_⟩
       · intro w171 D171
         rintro _ rfl
         show OpOK _ _ _ _ _ _ _
         exact ok_pure (ro_move (v := .bool _) rfl) rfl
       refine ⟨?_, ?_⟩
       · intro w172 D172
         rintro _ rfl
         show OpOK _ _ _ _ _ _ _
         exact ok_gpure rfl (ro_move (v := .slice _ _ _) rfl) rfl
       refine ⟨?_, ?_⟩
       · intro w173 D173
         rintro _ rfl
         show OpOK _ _ _ _ _ _ _
         exact ok_gpure rfl (ro_move (v := .int _ _) rfl) rfl
       refine ⟨?_, ?_⟩
       · intro w174 D174
         rintro _ rfl _ rfl
         show OpOK _ _ _ _ _ _ _
         exact ok_gpure rfl (ro_subN (b := 1) rfl rfl (by omega)) rfl
       refine ⟨?_, ?_⟩
       · intro w175 D175
         rintro _ rfl _ rfl _ rfl
         show OpOK _ _ _ _ _ _ _
         exact ok_gpure rfl (ro_indexAddr1 SufRefCom_e24 rfl rfl (by omega)) rfl
       refine ⟨?_, ?_⟩
       · intro w176 D176
         rintro _ rfl _ rfl
         show OpOK _ _ _ _ _ _ _
         exact ok_gpure rfl (ro_load SufRefCom_g3 rfl (by exact cellF (hB.next D176) (hcb (k - 1) (by omega)))) rfl
       refine ⟨?_, ?_⟩
       · intro w177 D177
         rintro _ rfl
         show OpOK _ _ _ _ _ _ _
         exact ok_gpure rfl (ro_move (v := .int _ _) rfl) rfl
       refine ⟨?_, ?_⟩
       · intro w178 D178
         rintro _ rfl _ rfl _ rfl
         show OpOK _ _ _ _ _ _ _
         exact ok_gpure rfl (ro_addN rfl rfl (by omega)) rfl
       refine ⟨?_, ?_⟩
       · intro w179 D179
         rintro _ rfl
         show OpOK _ _ _ _ _ _ _
         exact ok_gpure rfl (ro_move (v := .slice _ _ _) rfl) rfl
       refine ⟨?_, ?_⟩
       · intro w180 D180
         rintro _ rfl _ rfl
         show OpOK _ _ _ _ _ _ _
         exact ok_gpure rfl (ro_len SufRefCom_l24 rfl) rfl
       refine ⟨?_, ?_⟩
       · intro w181 D181
         rintro _ rfl _ rfl _ rfl
         show OpOK _ _ _ _ _ _ _
         exact ok_gpure rfl (ro_bt (ro_lss rfl rfl) (decide_eq_true (by omega))) rfl
       refine ⟨?_, ?_⟩
       · intro w182 D182
         rintro _ rfl _ rfl
         show OpOK _ _ _ _ _ _ _
         exact ok_pure (ro_pickT (v := .bool _) rfl rfl) rfl
       refine ⟨?_, ?_⟩
       · intro w183 D183
         rintro _ rfl
         show OpOK _ _ _ _ _ _ _
         exact ok_pure (ro_move (v := .bool _) rfl) rfl
       refine ⟨?_, ?_⟩
       · intro w184 D184
         rintro _ rfl
         show OpOK _ _ _ _ _ _ _
         exact ok_gpure rfl (ro_move (v := .slice _ _ _) rfl) rfl
       refine ⟨?_, ?_⟩
       · intro w185 D185
         rintro _ rfl
         show OpOK _ _ _ _ _ _ _
         exact ok_gpure rfl (ro_move (v := .slice _ _ _) rfl) rfl
       refine ⟨?_, ?_⟩
       · intro w186 D186
         rintro _ rfl
         show OpOK _ _ _ _ _ _ _
         exact ok_gpure rfl (ro_move (v := .int _ _) rfl) rfl
       refine ⟨?_, ?_⟩
       · intro w187 D187
         rintro _ rfl _ rfl _ rfl
         show OpOK _ _ _ _ _ _ _
         exact ok_gpure rfl (ro_indexAddr1 SufRefCom_e24 rfl rfl (by omega)) rfl
       refine ⟨?_, ?_⟩
       · intro w188 D188
         rintro _ rfl _ rfl
         show OpOK _ _ _ _ _ _ _
         exact ok_gpure rfl (ro_load SufRefCom_g3 rfl (by exact cellF (hB.next D188) (hcb k (by omega)))) rfl
       refine ⟨?_, ?_⟩
       · intro w189 D189
         rintro _ rfl
         show OpOK _ _ _ _ _ _ _
         exact ok_gpure rfl (ro_move (v := .int _ _) rfl) rfl
       refine ⟨?_, ?_⟩
       · intro w190 D190
         rintro _ rfl _ rfl _ rfl
         show OpOK _ _ _ _ _ _ _
         exact ok_gpure rfl (ro_addN rfl rfl (by omega)) rfl
       refine ⟨?_, ?_⟩
       · intro w191 D191
         rintro _ rfl _ rfl _ rfl
         show OpOK _ _ _ _ _ _ _
         exact ok_gpure rfl (ro_indexAddr1 SufRefCom_e24 rfl rfl (by omega)) rfl
       refine ⟨?_, ?_⟩
       · intro w192 D192
         rintro _ rfl _ rfl
         show OpOK _ _ _ _ _ _ _
         exact ok_gpure rfl (ro_load SufRefCom_g3 rfl (by exact cellF (hB.next D192) (hca _ (by omega)))) rfl
       refine ⟨?_, ?_⟩
       · intro w193 D193
         rintro _ rfl
         show OpOK _ _ _ _ _ _ _
         exact ok_gpure rfl (ro_move (v := .slice _ _ _) rfl) rfl
       refine ⟨?_, ?_⟩
       · intro w194 D194
         rintro _ rfl
         show OpOK _ _ _ _ _ _ _
         exact ok_gpure rfl (ro_move (v := .slice _ _ _) rfl) rfl
       refine ⟨?_, ?_⟩
       · intro w195 D195
         rintro _ rfl
         show OpOK _ _ _ _ _ _ _
         exact ok_gpure rfl (ro_move (v := .int _ _) rfl) rfl
       refine ⟨?_, ?_⟩
       · intro w196 D196
         rintro _ rfl _ rfl
         show OpOK _ _ _ _ _ _ _
         exact ok_gpure rfl (ro_subN (b := 1) rfl rfl (by omega)) rfl
       refine ⟨?_, ?_⟩
       · intro w197 D197
         rintro _ rfl _ rfl _ rfl
         show OpOK _ _ _ _ _ _ _
         exact ok_gpure rfl (ro_indexAddr1 SufRefCom_e24 rfl rfl (by omega)) rfl
       refine ⟨?_, ?_⟩
       · intro w198 D198
         rintro _ rfl _ rfl
         show OpOK _ _ _ _ _ _ _
         exact ok_gpure rfl (ro_load SufRefCom_g3 rfl (by exact cellF (hB.next D198) (hcb (k - 1) (by omega)))) rfl
       refine ⟨?_, ?_⟩
       · intro w199 D199
         rintro _ rfl
         show OpOK _ _ _ _ _ _ _
         exact ok_gpure rfl (ro_move (v := .int _ _) rfl) rfl
       refine ⟨?_, ?_⟩
       · intro w200 D200
         rintro _ rfl _ rfl _ rfl
         show OpOK _ _ _ _ _ _ _
         exact ok_gpure rfl (ro_addN rfl rfl (by omega)) rfl
       refine ⟨?_, ?_⟩
       · intro w201 D201
         rintro _ rfl _ rfl _ rfl
         show OpOK _ _ _ _ _ _ _
         exact ok_gpure rfl (ro_indexAddr1 SufRefCom_e24 rfl rfl (by omega)) rfl
       refine ⟨?_, ?_⟩
       · intro w202 D202
         rintro _ rfl _ rfl
         show OpOK _ _ _ _ _ _ _
         exact ok_gpure rfl (ro_load SufRefCom_g3 rfl (by exact cellF (hB.next D202) (hca _ (by omega)))) rfl
       refine ⟨?_, ?_⟩
       · intro w203 D203
         rintro _ rfl _ rfl _ rfl
         show OpOK _ _ _ _ _ _ _
         exact ok_gpure rfl (ro_bt (ro_eql rfl rfl) (by rw [h4]; exact beq_self_eq_true _)) rfl
       refine ⟨?_, ?_⟩
       · intro w204 D204
         rintro _ rfl _ rfl
         show OpOK _ _ _ _ _ _ _
         exact ok_pure (ro_pickT (v := .bool _) rfl rfl) rfl
       exact trivial
      case hend =>
       intro w205 D205
       rintro _ rfl _ rfl _ rfl _ rfl _ rfl _ rfl _ rfl _ rfl _ rfl _ rfl _ rfl _ rfl _ rfl _ rfl _ rfl _ rfl _ rfl _ rfl _ rfl _ rfl _ rfl _ rfl _ rfl _ rfl _ rfl _ rfl _ rfl _ rfl _ rfl _ rfl _ rfl _ rfl _ rfl _ rfl _ rfl _ rfl _ rfl _ rfl _ rfl _ rfl _ rfl _ rfl _ rfl _ rfl _ rfl _ rfl _ rfl
       show St _ _ _ _ _ _ _
       refine st_nil ?_
       refine nx_then ?_
       refine cd_condT rfl ?_
       refine cd_skip ?_
       refine nx_then ?_
       refine cd_block ?_
       refine cd_region ?_
       refine st_val (ro_move (v := .int _ _) rfl) ?_
       refine st_val (ro_addN (b := 1) rfl rfl (by omega)) ?_
       refine st_val (ro_assign (v := .int _ _) rfl) ?_
       refine st_nil ?_
       refine nx_block ?_
       refine nx_cut (h + 1) ⟨(by first | rfl | (refine int_eq ?_; omega)), trivial⟩ (by (iterate 100 refine agr_cons rfl ?_); exact agr_rfl) ⟨?_, ?_⟩
       · exact ⟨fun e => absurd e (by omega), fun h0 => agr_succ (hag h0) (by omega) (by omega) h4, by omega, ho.kept_from (From.rfl_.next D205), (hB.next D205)⟩
       · show n - (h + 1) < n - h; omega
    · have hst : 0 < k → stop L (F.getD k 0) (F.getD (k - 1) 0) h := fun _ x => h4 x.2.2
      apply cd_drawn 47 [(14, eqp _), (15, eqp _), (16, eqp _), (17, eqp _), (18, eqp _), (19, eqp _), (20, eqp _), (21, eqp _), (22, eqp _), (23, eqp _), (24, eqp _), (25, eqp _), (26, eqp _), (27, eqp _), (28, eqp _), (29, eqp _), (30, eqp _), (31, eqp _), (32, eqp _), (33, eqp _), (34, eqp _), (35, eqp _), (36, eqp _), (37, eqp _), (38, eqp _), (39, eqp _), (40, eqp _), (41, eqp _), (42, eqp _), (43, eqp _), (44, eqp _), (45, eqp _), (46, eqp _), (47, eqp _), (48, eqp _), (49, eqp _), (50, eqp _), (51, eqp _), (52, eqp _), (53, eqp _), (54, eqp _), (55, eqp _), (56, eqp _), (57, eqp _), (58, eqp _), (59, eqp _), (60, eqp _)] (by kernel_rfl) (by kernel_rfl) ⟨eqp_mono _, eqp_mono _, eqp_mono _, eqp_mono _, eqp_mono _, eqp_mono _, eqp_mono _, eqp_mono _, eqp_mono _, eqp_mono _, eqp_mono _, eqp_mono _, eqp_mono _, eqp_mono _, eqp_mono _, eqp_mono _, eqp_mono _, eqp_mono _, eqp_mono _, eqp_mono _, eqp_mono _, eqp_mono _, eqp_mono _, eqp_mono _, eqp_mono _, eqp_mono _, eqp_mono _, eqp_mono _, eqp_mono _, eqp_mono _, eqp_mono _, eqp_mono _, eqp_mono _, eqp_mono _, eqp_mono _, eqp_mono _, eqp_mono _, eqp_mono _, eqp_mono _, eqp_mono _, eqp_mono _, eqp_mono _, eqp_mono _, eqp_mono _, eqp_mono _, eqp_mono _, eqp_mono _, trivial⟩
      case hop =>
       refine ⟨?_, ?_⟩
       · intro w207 D207
         show OpOK _ _ _ _ _ _ _
         exact ok_pure (ro_move (v := .int _ _) rfl) rfl
       refine ⟨?_, ?_⟩
       · intro w208 D208
         rintro _ rfl
         show OpOK _ _ _ _ _ _ _
         exact ok_pure (ro_bt (ro_gtr rfl rfl) (decide_eq_true (by omega))) rfl
       refine ⟨?_, ?_⟩
       · intro w209 D209
         rintro _ rfl
         show OpOK _ _ _ _ _ _ _
         exact ok_pure (ro_move (v := .bool _) rfl) rfl
       refine ⟨?_, ?_⟩
       · intro w210 D210
         rintro _ rfl
         show OpOK _ _ _ _ _ _ _
         exact ok_gpure rfl (ro_move (v := .slice _ _ _) rfl) rfl
       refine ⟨?_, ?_⟩
       · intro w211 D211
         rintro _ rfl
         show OpOK _ _ _ _ _ _ _
         exact ok_gpure rfl (ro_move (v := .int _ _) rfl) rfl
       refine ⟨?_, ?_⟩
       · intro w212 D212
         rintro _ rfl _ rfl _ rfl
         show OpOK _ _ _ _ _ _ _
         exact ok_gpure rfl (ro_indexAddr1 SufRefCom_e24 rfl rfl (by omega)) rfl
       refine ⟨?_, ?_⟩
       · intro w213 D213
         rintro _ rfl _ rfl
         show OpOK _ _ _ _ _ _ _
         exact ok_gpure rfl (ro_load SufRefCom_g3 rfl (by exact cellF (hB.next D213) (hcb k (by omega)))) rfl
       refine ⟨?_, ?_⟩
       · intro w214 D214
         rintro _ rfl
         show OpOK _ _ _ _ _ _ _
         exact ok_gpure rfl (ro_move (v := .int _ _) rfl) rfl
       refine ⟨?_, ?_⟩
       · intro w215 D215
         rintro _ rfl _ rfl _ rfl
         show OpOK _ _ _ _ _ _ _
         exact ok_gpure rfl (ro_addN rfl rfl (by omega)) rfl
       refine ⟨?_, ?_⟩
       · intro w216 D216
         rintro _ rfl
         show OpOK _ _ _ _ _ _ _
         exact ok_gpure rfl (ro_move (v := .slice _ _ _) rfl) rfl
       refine ⟨?_, ?_⟩
       · intro w217 D217
         rintro _ rfl _ rfl
         show OpOK _ _ _ _ _ _ _
         exact ok_gpure rfl (ro_len SufRefCom_l24 rfl) rfl
       refine ⟨?_, ?_⟩
       · intro w218 D218
         rintro _ rfl _ rfl _ rfl
         show OpOK _ _ _ _ _ _ _
         exact ok_gpure rfl (ro_bt (ro_lss rfl rfl) (decide_eq_true (by omega))) rfl
       refine ⟨?_, ?_⟩
       · intro w219 D219
         rintro _ rfl _ rfl
         show OpOK _ _ _ _ _ _ _
         exact ok_pure (ro_pickT (v := .bool _) rfl rfl) rfl
       refine ⟨?_, ?_⟩
       · intro w220 D220
         rintro _ rfl
         show OpOK _ _ _ _ _ _ _
         exact ok_pure (ro_move (v := .bool _) rfl) rfl
       refine ⟨?_, ?_⟩
       · intro w221 D221
         rintro _ rfl
         show OpOK _ _ _ _ _ _ _
         exact ok_gpure rfl (ro_move (v := .slice _ _ _) rfl) rfl
       refine ⟨?_, ?_⟩
       · intro w222 D222
         rintro _ rfl
         show OpOK _ _ _ _ _ _ _
         exact ok_gpure rfl (ro_move (v := .int _ _) rfl) rfl
       refine ⟨?_, ?_⟩
       · intro w223 D223
         rintro _ rfl _ rfl
         show OpOK _ _ _ _ _ _ _
         exact ok_gpure rfl (ro_subN (b := 1) rfl rfl (by omega)) rfl
       refine ⟨?_, ?_⟩
       · intro w224 D224
         rintro _ rfl _ rfl _ rfl
         show OpOK _ _ _ _ _ _ _
         exact ok_gpure rfl (ro_indexAddr1 SufRefCom_e24 rfl rfl (by omega)) rfl
       refine ⟨?_, ?_⟩
       · intro w225 D225
         rintro _ rfl _ rfl
         show OpOK _ _ _ _ _ _ _
         exact ok_gpure rfl (ro_load SufRefCom_g3 rfl (by exact cellF (hB.next D225) (hcb (k - 1) (by omega)))) rfl
       refine ⟨?_, ?_⟩
       · intro w226 D226
         rintro _ rfl
         show OpOK _ _ _ _ _ _ _
         exact ok_gpure rfl (ro_move (v := .int _ _) rfl) rfl
       refine ⟨?_, ?_⟩
       · intro w227 D227
         rintro _ rfl _ rfl _ rfl
         show OpOK _ _ _ _ _ _ _
         exact ok_gpure rfl (ro_addN rfl rfl (by omega)) rfl
       refine ⟨?_, ?_⟩
       · intro w228 D228
         rintro _ rfl
         show OpOK _ _ _ _ _ _ _
         exact ok_gpure rfl (ro_move (v := .slice _ _ _) rfl) rfl
       refine ⟨?_, ?_⟩
       · intro w229 D229
         rintro _ rfl _ rfl
         show OpOK _ _ _ _ _ _ _
         exact ok_gpure rfl (ro_len SufRefCom_l24 rfl) rfl
       refine ⟨?_, ?_⟩
       · intro w230 D230
         rintro _ rfl _ rfl _ rfl
         show OpOK _ _ _ _ _ _ _
         exact ok_gpure rfl (ro_bt (ro_lss rfl rfl) (decide_eq_true (by omega))) rfl
       refine ⟨?_, ?_⟩
       · intro w231 D231
         rintro _ rfl _ rfl
         show OpOK _ _ _ _ _ _ _
         exact ok_pure (ro_pickT (v := .bool _) rfl rfl) rfl
       refine ⟨?_, ?_⟩
       · intro w232 D232
         rintro _ rfl
         show OpOK _ _ _ _ _ _ _
         exact ok_pure (ro_move (v := .bool _) rfl) rfl
       refine ⟨?_, ?_⟩
       · intro w233 D233
         rintro _ rfl
         show OpOK _ _ _ _ _ _ _
         exact ok_gpure rfl (ro_move (v := .slice _ _ _) rfl) rfl
       refine ⟨?_, ?_⟩
       · intro w234 D234
         rintro _ rfl
         show OpOK _ _ _ _ _ _ _
         exact ok_gpure rfl (ro_move (v := .slice _ _ _) rfl) rfl
       refine ⟨?_, ?_⟩
       · intro w235 D235
         rintro _ rfl
         show OpOK _ _ _ _ _ _ _
         exact ok_gpure rfl (ro_move (v := .int _ _) rfl) rfl
       refine ⟨?_, ?_⟩
       · intro w236 D236
         rintro _ rfl _ rfl _ rfl
         show OpOK _ _ _ _ _ _ _
         exact ok_gpure rfl (ro_indexAddr1 SufRefCom_e24 rfl rfl (by omega)) rfl
       refine ⟨?_, ?_⟩
       · intro w237 D237
         rintro _ rfl _ rfl
         show OpOK _ _ _ _ _ _ _
         exact ok_gpure rfl (ro_load SufRefCom_g3 rfl (by exact cellF (hB.next D237) (hcb k (by omega)))) rfl
       refine ⟨?_, ?_⟩
       · intro w238 D238
         rintro _ rfl
         show OpOK _ _ _ _ _ _ _
         exact ok_gpure rfl (ro_move (v := .int _ _) rfl) rfl
       refine ⟨?_, ?_⟩
       · intro w239 D239
         rintro _ rfl _ rfl _ rfl
         show OpOK _ _ _ _ _ _ _
         exact ok_gpure rfl (ro_addN rfl rfl (by omega)) rfl
       refine ⟨?_, ?_⟩
       · intro w240 D240
         rintro _ rfl _ rfl _ rfl
         show OpOK _ _ _ _ _ _ _
         exact ok_gpure rfl (ro_indexAddr1 SufRefCom_e24 rfl rfl (by omega)) rfl
       refine ⟨?_, ?_⟩
       · intro w241 D241
         rintro _ rfl _ rfl
         show OpOK _ _ _ _ _ _ _
         exact ok_gpure rfl (ro_load SufRefCom_g3 rfl (by exact cellF (hB.next D241) (hca _ (by omega)))) rfl
       refine ⟨?_, ?_⟩
       · intro w242 D242
         rintro _ rfl
         show OpOK _ _ _ _ _ _ _
         exact ok_gpure rfl (ro_move (v := .slice _ _ _) rfl) rfl
       refine ⟨?_, ?_⟩
       · intro w243 D243
         rintro _ rfl
         show OpOK _ _ _ _ _ _ _
         exact ok_gpure rfl (ro_move (v := .slice _ _ _) rfl) rfl
       refine ⟨?_, ?_⟩
       · intro w244 D244
         rintro _ rfl
         show OpOK _ _ _ _ _ _ _
         exact ok_gpure rfl (ro_move (v := .int _ _) rfl) rfl
       refine ⟨?_, ?_⟩
       · intro w245 D245
         rintro _ rfl _ rfl
         show OpOK _ _ _ _ _ _ _
         exact ok_gpure rfl (ro_subN (b := 1) rfl rfl (by omega)) rfl
       refine ⟨?_, ?_⟩
       · intro w246 D246
         rintro _ rfl _ rfl _ rfl
         show OpOK _ _ _ _ _ _ _
         exact ok_gpure rfl (ro_indexAddr1 SufRefCom_e24 rfl rfl (by omega)) rfl
       refine ⟨?_, ?_⟩
       · intro w247 D247
         rintro _ rfl _ rfl
         show OpOK _ _ _ _ _ _ _
         exact ok_gpure rfl (ro_load SufRefCom_g3 rfl (by exact cellF (hB.next D247) (hcb (k - 1) (by omega)))) rfl
       refine ⟨?_, ?_⟩
       · intro w248 D248
         rintro _ rfl
         show OpOK _ _ _ _ _ _ _
         exact ok_gpure rfl (ro_move (v := .int _ _) rfl) rfl
       refine ⟨?_, ?_⟩
       · intro w249 D249
         rintro _ rfl _ rfl _ rfl
         show OpOK _ _ _ _ _ _ _
         exact ok_gpure rfl (ro_addN rfl rfl (by omega)) rfl
       refine ⟨?_, ?_⟩
       · intro w250 D250
         rintro _ rfl _ rfl _ rfl
         show OpOK _ _ _ _ _ _ _
         exact ok_gpure rfl (ro_indexAddr1 SufRefCom_e24 rfl rfl (by omega)) rfl
       refine ⟨?_, ?_⟩
       · intro w251 D251
         rintro _ rfl _ rfl
         show OpOK _ _ _ _ _ _ _
         exact ok_gpure rfl (ro_load SufRefCom_g3 rfl (by exact cellF (hB.next D251) (hca _ (by omega)))) rfl
       refine ⟨?_, ?_⟩
       · intro w252 D252
         rintro _ rfl _ rfl _ rfl
         show OpOK _ _ _ _ _ _ _
         exact ok_gpure rfl (ro_bf (ro_eql rfl rfl) (beq_false_of_ne (by omega))) rfl
       refine ⟨?_, ?_⟩
       · intro w253 D253
         rintro _ rfl _ rfl
         show OpOK _ _ _ _ _ _ _
         exact ok_pure (ro_pickT (v := .bool _) rfl rfl) rfl
       exact trivial
      case hend =>
       intro w254 D254
       rintro _ rfl _ rfl _ rfl _ rfl _ rfl _ rfl _ rfl _ rfl _ rfl _ rfl _ rfl _ rfl _ rfl _ rfl _ rfl _ rfl _ rfl _ rfl _ rfl _ rfl _ rfl _ rfl _ rfl _ rfl _ rfl _ rfl _ rfl _ rfl _ rfl _ rfl _ rfl _ rfl _ rfl _ rfl _ rfl _ rfl _ rfl _ rfl _ rfl _ rfl _ rfl _ rfl _ rfl _ rfl _ rfl _ rfl _ rfl
       show St _ _ _ _ _ _ _
       refine st_nil ?_
       refine nx_then ?_
       refine cd_condF rfl ?_
       refine cd_exit ?_
       refine ex_then ?_
       refine ex_then ?_
       refine ex_block ?_
       refine nx_then ?_
       refine cd_region ?_
       refine st_val (ro_move (v := .slice _ _ _) rfl) ?_
       refine st_val (ro_move (v := .int _ _) rfl) ?_
       refine st_lit1 (v := .int _ _) SufRefCom_q24 rfl rfl rfl ?_
       intro b65 w255 E65 hb65 hk65
       refine st_push1 (a0 := w) SufRefCom_q24 rfl rfl (ho.kept_from ((From.rfl_.next D254).next E65)) ((hB.next D254).next E65) rfl hk65 rfl (by omega) (by omega) ?_
       intro A66 c66 w256 ho66 B66 hg66
       refine st_val (ro_assign (v := .slice _ _ _) rfl) ?_
       refine st_nil ?_
       refine nx_block ?_
       refine nx_then ?_
       refine cd_region ?_
       refine st_val (ro_move (v := .int _ _) rfl) ?_
       refine st_val (ro_addN (b := 1) rfl rfl (by omega)) ?_
       refine st_val (ro_assign (v := .int _ _) rfl) ?_
       refine st_nil ?_
       refine nx_cut ((k + 1, C ++ [h], A66, c66)) ⟨(by first | rfl | (refine int_eq ?_; omega)), (by first | rfl | (refine int_eq ?_; omega)), trivial⟩ (by (iterate 172 refine agr_cons rfl ?_); exact agr_rfl) ⟨?_, ?_⟩
       · exact ⟨by omega, hC.push hz0 (fun h0 => ⟨(hag h0), hst h0⟩), by simpa [cI] using ho66, B66⟩
       · show m - (k + 1) < m - k; omega
  · (try with_reducible first | replace Q2 := of_decide_eq_true Q2 | replace Q2 := of_decide_eq_false Q2 | replace Q2 := bn_t Q2 | replace Q2 := bn_f Q2)
    (try with_reducible first | replace Q2 := of_decide_eq_true Q2 | replace Q2 := of_decide_eq_false Q2 | replace Q2 := bx_t Q2 | replace Q2 := bx_f Q2 | replace Q2 := be_t Q2 | replace Q2 := be_f Q2)
    refine cd_exit ?_
    refine ex_then ?_
    refine ex_then ?_
    refine ex_block ?_
    refine nx_then ?_
    refine cd_seq ?_
    refine cd_region ?_
    refine st_val (ro_move (v := .slice _ _ _) rfl) ?_
    refine st_val (ro_assign (v := .slice _ _ _) rfl) ?_
    refine st_nil ?_
    refine nx_then ?_
    refine cd_ret ?_
    refine res1 (v := .slice _ _ _) rfl rfl ?_
    obtain rfl : m = k := by omega
    exact ⟨⟨A5, c5, C, rfl, ho, ⟨by rw [hC.len, hm], fun h0 => hC.at0 (by rw [hC.len] at h0; exact h0), fun q hq h1 => hC.at_ q hq (by rw [hC.len] at h1; exact h1)⟩⟩, hB⟩
end Go.Proofs.Ytgihpoggeaanjaa
