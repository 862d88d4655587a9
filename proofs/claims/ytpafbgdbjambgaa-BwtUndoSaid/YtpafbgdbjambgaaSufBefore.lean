/- the reference: Before. -/
import Derived.Test.YtpafbgdbjambgaaSufSort
namespace Go.Proofs.Ytpafbgdbjambgaa
open Go.RowKit
open Go.ChangeShapes Go.WideShapes Go.ChangeAt
open Go.Proofs.Ytpafbgdbjambgaa.SA
theorem SufBefore_l24 : (elemQ Try.prog 24).isSome = true := by kernel_rfl
theorem SufBefore_e24 : elemQ Try.prog 24 = some (3, 1) := by kernel_rfl
theorem SufBefore_g3 : aggQ Try.prog 3 = some false := by kernel_rfl
theorem endT_at {L : List Nat} {i : Nat} (h : i < L.length) : endT L i = L[i] + 1 := by unfold endT; rw [dif_pos h]
theorem endT_end {L : List Nat} : endT L L.length = 0 := by unfold endT; rw [dif_neg (Nat.lt_irrefl _)]
theorem bf_mid {L : List Nat} {a b d : Nat} (heq : ∀ k, k < d → endT L (a + k) = endT L (b + k)) (h1 : a + d < L.length) (h2 : b + d < L.length) (hne : L[a + d] ≠ L[b + d]) : L[a + d] < L[b + d] ↔ sl (L.length + 1) (endT L) a b := by
  have e1 := endT_at h1
  have e2 := endT_at h2
  constructor
  · intro h
    exact ⟨d, heq, by omega, by omega, by omega⟩
  · rintro ⟨k, k1, k2, k3, k4⟩
    rcases Nat.lt_trichotomy k d with c | c | c
    · have := heq k c; omega
    · subst c; omega
    · have := k1 d c; omega
theorem bf_end {L : List Nat} {a b d : Nat} (heq : ∀ k, k < d → endT L (a + k) = endT L (b + k)) (ha : a + d ≤ L.length) (hb : b + d ≤ L.length) (h : a + d = L.length ∨ b + d = L.length) : a + d > b + d ↔ sl (L.length + 1) (endT L) a b := by
  constructor
  · intro hg
    have e : a + d = L.length := by omega
    have h2 : b + d < L.length := by omega
    refine ⟨d, heq, by omega, by omega, ?_⟩
    rw [e, endT_end, endT_at h2]
    omega
  · rintro ⟨k, k1, k2, k3, k4⟩
    rcases Nat.lt_trichotomy k d with c | c | c
    · have := heq k c; omega
    · subst c
      rcases Nat.eq_or_lt_of_le hb with e | e
      · rw [e, endT_end] at k4; omega
      · omega
    · omega
theorem rowL {w : World} {A : Option Addr} {L : List Nat} (h : RowOf iV w A (L.map fun x : Nat => (x : Int))) (h0 : 0 < L.length) : ∃ b o, A = some ⟨b, o, none⟩ ∧ ∀ i (hi : i < L.length), w.cell? ⟨b, o + i, none⟩ = some (.int .i64 ((L[i] : Nat) : Int)) := by
  obtain ⟨b, o, rfl, hc⟩ := h (by simpa using h0)
  refine ⟨b, o, rfl, fun i hi => ?_⟩
  have := hc i (by simpa using hi)
  rwa [List.getElem_map] at this
set_option maxRecDepth 100000 in
set_option maxHeartbeats 400000 in
theorem before_rt (A : Option Addr) (c n a b : Nat) (L : List Nat) (w : World) (hr : RowOf iV w A (L.map fun x : Nat => (x : Int))) (hn : n = L.length) (hl : n ≤ 131072) (ha : a < n) (hb : b < n) :
    Rt Try.prog 37 [.slice A n c, .int .i64 (a : Nat), .int .i64 (b : Nat)] w (fun v w' => (∃ r, v = .bool r ∧ (r = true ↔ sl (L.length + 1) (endT L) a b)) ∧ From w w') := by
  obtain ⟨bA, oA, rfl, hca⟩ := rowL hr (by omega)
  refine enter (n := 54) Try.func37 rfl rfl rfl ?_
  refine cd_seq ?_
  refine cd_region ?_
  refine st_val (ro_assign (v := .bool _) rfl) ?_
  refine st_nil ?_
  refine nx_then ?_
  refine cd_seq ?_
  refine cd_block ?_
  refine cd_loop (G := Nat) [7, 8, 9, 10, 11, 12, 13, 14, 15, 16, 17, 18, 19, 20, 21, 22, 23, 24, 25, 26, 27, 28, 29, 30, 31] (fun d => [(1, .int .i64 ((a + d : Nat) : Int)), (2, .int .i64 ((b + d : Nat) : Int))]) (fun d w' => a + d ≤ n ∧ b + d ≤ n ∧ (∀ k, k < d → endT L (a + k) = endT L (b + k)) ∧ From w w') (fun d => n - (a + d)) (0) ⟨rfl, rfl, trivial⟩ ?_ ?_
  · exact ⟨by omega, by omega, fun k h => absurd h (by omega), From.rfl_⟩
  rintro d ρ1 w1 ⟨had, hbd, heq, hB⟩
  refine cd_seq ?_
  refine cd_seq ?_
  have h2L : a + d < n → b + d < n → a + d < L.length ∧ b + d < L.length := fun x y => ⟨by omega, by omega⟩
  rcases (show n ≤ a + d ∨ (a + d < n ∧ n ≤ b + d) ∨ (∃ (x : a + d < L.length) (y : b + d < L.length), L[a + d] = L[b + d]) ∨ (∃ (x : a + d < L.length) (y : b + d < L.length), L[a + d] ≠ L[b + d]) by
    rcases Nat.lt_or_ge (a + d) n with x | x
    · rcases Nat.lt_or_ge (b + d) n with y | y
      · by_cases e : L[a + d]'(by omega) = L[b + d]'(by omega)
        · exact .inr (.inr (.inl ⟨by omega, by omega, e⟩))
        · exact .inr (.inr (.inr ⟨by omega, by omega, e⟩))
      · exact .inr (.inl ⟨x, y⟩)
    · exact .inl x) with h1 | ⟨h1, h2⟩ | ⟨h1, h2, h3⟩ | ⟨h1, h2, h3⟩
  · apply cd_drawn 21 [(7, eqp _), (8, eqp _), (9, eqp _), (10, eqp _), (11, eqp _), (12, eqp _), (13, eqp _), (14, eqp _), (15, eqp _), (16, eqp _), (17, eqp _), (18, eqp _), (19, eqp _), (20, eqp _), (21, eqp _), (22, eqp _), (23, eqp _), (24, eqp _), (25, eqp _), (26, eqp _), (27, eqp _)] (by kernel_rfl) (by kernel_rfl) ⟨eqp_mono _, eqp_mono _, eqp_mono _, eqp_mono _, eqp_mono _, eqp_mono _, eqp_mono _, eqp_mono _, eqp_mono _, eqp_mono _, eqp_mono _, eqp_mono _, eqp_mono _, eqp_mono _, eqp_mono _, eqp_mono _, eqp_mono _, eqp_mono _, eqp_mono _, eqp_mono _, eqp_mono _, trivial⟩
    case hop =>
     refine ⟨?_, ?_⟩
     · intro w3 D3
       show OpOK _ _ _ _ _ _ _
       exact ok_pure (ro_move (v := .int _ _) rfl) rfl
     refine ⟨?_, ?_⟩
     · intro w4 D4
       show OpOK _ _ _ _ _ _ _
       exact ok_pure (ro_move (v := .slice _ _ _) rfl) rfl
     refine ⟨?_, ?_⟩
     · intro w5 D5
       rintro _ rfl
       show OpOK _ _ _ _ _ _ _
       exact ok_pure (ro_len SufBefore_l24 rfl) rfl
     refine ⟨?_, ?_⟩
     · intro w6 D6
       rintro _ rfl _ rfl
       show OpOK _ _ _ _ _ _ _
       exact ok_pure (ro_bf (ro_lss rfl rfl) (decide_eq_false (by omega))) rfl
     refine ⟨?_, ?_⟩
     · intro w7 D7
       rintro _ rfl
       show OpOK _ _ _ _ _ _ _
       exact ok_pure (ro_move (v := .bool _) rfl) rfl
     refine ⟨?_, ?_⟩
     · intro w8 D8
       rintro _ rfl
       show OpOK _ _ _ _ _ _ _
       exact ok_gno rfl rfl rfl
     refine ⟨?_, ?_⟩
     · intro w9 D9
       rintro _ rfl
       show OpOK _ _ _ _ _ _ _
       exact ok_gno rfl rfl rfl
     refine ⟨?_, ?_⟩
     · intro w10 D10
       rintro _ rfl _ rfl
       show OpOK _ _ _ _ _ _ _
       exact ok_gno rfl rfl rfl
     refine ⟨?_, ?_⟩
     · intro w11 D11
       rintro _ rfl _ rfl _ rfl
       show OpOK _ _ _ _ _ _ _
       exact ok_gno rfl rfl rfl
     refine ⟨?_, ?_⟩
     · intro w12 D12
       rintro _ rfl _ rfl
       show OpOK _ _ _ _ _ _ _
       exact ok_pure (ro_pickF (v := .bool _) rfl rfl) rfl
     refine ⟨?_, ?_⟩
     · intro w13 D13
       rintro _ rfl
       show OpOK _ _ _ _ _ _ _
       exact ok_pure (ro_move (v := .bool _) rfl) rfl
     refine ⟨?_, ?_⟩
     · intro w14 D14
       rintro _ rfl
       show OpOK _ _ _ _ _ _ _
       exact ok_gno rfl rfl rfl
     refine ⟨?_, ?_⟩
     · intro w15 D15
       rintro _ rfl
       show OpOK _ _ _ _ _ _ _
       exact ok_gno rfl rfl rfl
     refine ⟨?_, ?_⟩
     · intro w16 D16
       rintro _ rfl _ rfl _ rfl
       show OpOK _ _ _ _ _ _ _
       exact ok_gno rfl rfl rfl
     refine ⟨?_, ?_⟩
     · intro w17 D17
       rintro _ rfl _ rfl
       show OpOK _ _ _ _ _ _ _
       exact ok_gno rfl rfl rfl
     refine ⟨?_, ?_⟩
     · intro w18 D18
       rintro _ rfl
       show OpOK _ _ _ _ _ _ _
       exact ok_gno rfl rfl rfl
     refine ⟨?_, ?_⟩
     · intro w19 D19
       rintro _ rfl
       show OpOK _ _ _ _ _ _ _
       exact ok_gno rfl rfl rfl
     refine ⟨?_, ?_⟩
     · intro w20 D20
       rintro _ rfl _ rfl _ rfl
       show OpOK _ _ _ _ _ _ _
       exact ok_gno rfl rfl rfl
     refine ⟨?_, ?_⟩
     · intro w21 D21
       rintro _ rfl _ rfl
       show OpOK _ _ _ _ _ _ _
       exact ok_gno rfl rfl rfl
     refine ⟨?_, ?_⟩
     · intro w22 D22
       rintro _ rfl _ rfl _ rfl
       show OpOK _ _ _ _ _ _ _
       exact ok_gno rfl rfl rfl
     refine ⟨?_, ?_⟩
     · intro w23 D23
       rintro _ rfl _ rfl
       show OpOK _ _ _ _ _ _ _
       exact ok_pure (ro_pickF (v := .bool _) rfl rfl) rfl
     exact trivial
    case hend =>
     intro w24 D24
     rintro _ rfl _ rfl _ rfl _ rfl _ rfl _ rfl _ rfl _ rfl _ rfl _ rfl _ rfl _ rfl _ rfl _ rfl _ rfl _ rfl _ rfl _ rfl _ rfl _ rfl _ rfl
     show St _ _ _ _ _ _ _
     refine st_nil ?_
     refine nx_then ?_
     refine cd_condF rfl ?_
     refine cd_exit ?_
     refine ex_then ?_
     refine ex_then ?_
     refine ex_block ?_
     refine nx_then ?_
     refine cd_seq ?_
     refine cd_seq ?_
     refine cd_region ?_
     refine st_val (ro_move (v := .int _ _) rfl) ?_
     refine st_val (ro_move (v := .slice _ _ _) rfl) ?_
     refine st_val (ro_len SufBefore_l24 rfl) ?_
     refine st_val (ro_eql rfl rfl) ?_
     refine st_val (ro_move (v := .bool _) rfl) ?_
     refine st_split (t := 36) rfl (fun Q25 => ?_) (fun Q25 => ?_)
     · (try with_reducible first | replace Q25 := of_decide_eq_true Q25 | replace Q25 := of_decide_eq_false Q25 | replace Q25 := bn_t Q25 | replace Q25 := bn_f Q25)
       (try with_reducible first | replace Q25 := of_decide_eq_true Q25 | replace Q25 := of_decide_eq_false Q25 | replace Q25 := bx_t Q25 | replace Q25 := bx_f Q25 | replace Q25 := be_t Q25 | replace Q25 := be_f Q25)
       first
        | (exfalso; first | omega | contradiction | (cases Q25; done))
        | skip
          refine st_gno rfl rfl ?_
          refine st_gno rfl rfl ?_
          refine st_gno rfl rfl ?_
          refine st_gno rfl rfl ?_
          refine st_val (ro_pickT (v := .bool _) rfl rfl) ?_
          refine st_nil ?_
          refine nx_then ?_
          refine cd_condT rfl ?_
          refine cd_seq ?_
          refine cd_region ?_
          refine st_val (ro_move (v := .int _ _) rfl) ?_
          refine st_val (ro_move (v := .int _ _) rfl) ?_
          refine st_val (ro_gtr rfl rfl) ?_
          refine st_val (ro_assign (v := .bool _) rfl) ?_
          refine st_nil ?_
          refine nx_then ?_
          refine cd_ret ?_
          refine rt_then ?_
          refine res1 (v := .bool _) rfl rfl ?_
          refine ⟨⟨_, rfl, ?_⟩, (hB.next D24)⟩
          rw [decide_eq_true_iff, ← bf_end heq (by omega) (by omega) (by omega)]
          omega
     · (try with_reducible first | replace Q25 := of_decide_eq_true Q25 | replace Q25 := of_decide_eq_false Q25 | replace Q25 := bn_t Q25 | replace Q25 := bn_f Q25)
       (try with_reducible first | replace Q25 := of_decide_eq_true Q25 | replace Q25 := of_decide_eq_false Q25 | replace Q25 := bx_t Q25 | replace Q25 := bx_f Q25 | replace Q25 := be_t Q25 | replace Q25 := be_f Q25)
       first
        | (exfalso; first | omega | contradiction | (cases Q25; done))
        | skip
          refine st_unguard rfl ?_
          refine st_val (ro_move (v := .int _ _) rfl) ?_
          refine st_unguard rfl ?_
          refine st_val (ro_move (v := .slice _ _ _) rfl) ?_
          refine st_unguard rfl ?_
          refine st_val (ro_len SufBefore_l24 rfl) ?_
          refine st_unguard rfl ?_
          refine st_val (ro_eql rfl rfl) ?_
          refine st_val (ro_pickF (v := .bool _) rfl rfl) ?_
          refine st_nil ?_
          refine nx_then ?_
          refine cd_cond rfl (fun Q26 => ?_) (fun Q26 => ?_)
          · (try with_reducible first | replace Q26 := of_decide_eq_true Q26 | replace Q26 := of_decide_eq_false Q26 | replace Q26 := bn_t Q26 | replace Q26 := bn_f Q26)
            (try with_reducible first | replace Q26 := of_decide_eq_true Q26 | replace Q26 := of_decide_eq_false Q26 | replace Q26 := bx_t Q26 | replace Q26 := bx_f Q26 | replace Q26 := be_t Q26 | replace Q26 := be_f Q26)
            first
             | (exfalso; first | omega | contradiction | (cases Q26; done))
             | skip
               refine cd_seq ?_
               refine cd_region ?_
               refine st_val (ro_move (v := .int _ _) rfl) ?_
               refine st_val (ro_move (v := .int _ _) rfl) ?_
               refine st_val (ro_gtr rfl rfl) ?_
               refine st_val (ro_assign (v := .bool _) rfl) ?_
               refine st_nil ?_
               refine nx_then ?_
               refine cd_ret ?_
               refine rt_then ?_
               refine res1 (v := .bool _) rfl rfl ?_
               refine ⟨⟨_, rfl, ?_⟩, (hB.next D24)⟩
               rw [decide_eq_true_iff, ← bf_end heq (by omega) (by omega) (by omega)]
               omega
          · (try with_reducible first | replace Q26 := of_decide_eq_true Q26 | replace Q26 := of_decide_eq_false Q26 | replace Q26 := bn_t Q26 | replace Q26 := bn_f Q26)
            (try with_reducible first | replace Q26 := of_decide_eq_true Q26 | replace Q26 := of_decide_eq_false Q26 | replace Q26 := bx_t Q26 | replace Q26 := bx_f Q26 | replace Q26 := be_t Q26 | replace Q26 := be_f Q26)
            first
             | (exfalso; first | omega | contradiction | (cases Q26; done))
             | skip
               refine cd_skip ?_
               refine nx_then ?_
               refine cd_seq ?_
               apply cd_drawn 10 [(45, eqp _), (46, eqp _), (47, eqp _), (48, eqp _), (49, eqp _), (50, eqp _), (51, eqp _), (52, eqp _), (53, eqp _), (6, eqp _)] (by kernel_rfl) (by kernel_rfl) ⟨eqp_mono _, eqp_mono _, eqp_mono _, eqp_mono _, eqp_mono _, eqp_mono _, eqp_mono _, eqp_mono _, eqp_mono _, eqp_mono _, trivial⟩
               case hop =>
                refine ⟨?_, ?_⟩
                · intro w28 D28
                  show OpOK _ _ _ _ _ _ _
                  exact ok_pure (ro_move (v := .slice _ _ _) rfl) rfl
                refine ⟨?_, ?_⟩
                · intro w29 D29
                  show OpOK _ _ _ _ _ _ _
                  exact ok_pure (ro_move (v := .int _ _) rfl) rfl
                refine ⟨?_, ?_⟩
                · intro w30 D30
                  rintro _ rfl _ rfl
                  show OpOK _ _ _ _ _ _ _
                  exact ok_pure (ro_indexAddr1 SufBefore_e24 rfl rfl (by omega)) rfl
                refine ⟨?_, ?_⟩
                · intro w31 D31
                  rintro _ rfl
                  show OpOK _ _ _ _ _ _ _
                  exact ok_pure (ro_load SufBefore_g3 rfl (by exact cellF ((hB.next D24).next D31) (hca (a + d) h1))) rfl
                refine ⟨?_, ?_⟩
                · intro w32 D32
                  show OpOK _ _ _ _ _ _ _
                  exact ok_pure (ro_move (v := .slice _ _ _) rfl) rfl
                refine ⟨?_, ?_⟩
                · intro w33 D33
                  show OpOK _ _ _ _ _ _ _
                  exact ok_pure (ro_move (v := .int _ _) rfl) rfl
                refine ⟨?_, ?_⟩
                · intro w34 D34
                  rintro _ rfl _ rfl
                  show OpOK _ _ _ _ _ _ _
                  exact ok_pure (ro_indexAddr1 SufBefore_e24 rfl rfl (by omega)) rfl
                refine ⟨?_, ?_⟩
                · intro w35 D35
                  rintro _ rfl
                  show OpOK _ _ _ _ _ _ _
                  exact ok_pure (ro_load SufBefore_g3 rfl (by exact cellF ((hB.next D24).next D35) (hca (b + d) h2))) rfl
                refine ⟨?_, ?_⟩
                · intro w36 D36
                  rintro _ rfl _ rfl
                  show OpOK _ _ _ _ _ _ _
                  exact ok_pure (ro_lss rfl rfl) rfl
                refine ⟨?_, ?_⟩
                · intro w37 D37
                  rintro _ rfl
                  show OpOK _ _ _ _ _ _ _
                  exact ok_pure (ro_assign (v := .bool _) rfl) rfl
                exact trivial
               case hend =>
                intro w38 D38
                rintro _ rfl _ rfl _ rfl _ rfl _ rfl _ rfl _ rfl _ rfl _ rfl _ rfl
                show St _ _ _ _ _ _ _
                refine st_nil ?_
                refine nx_then ?_
                refine cd_ret ?_
                refine res1 (v := .bool _) rfl rfl ?_
                refine ⟨⟨_, rfl, ?_⟩, ((hB.next D24).next D38)⟩
                rw [decide_eq_true_iff, ← bf_mid heq h1 h2 h3]
                omega
  · apply cd_drawn 21 [(7, eqp _), (8, eqp _), (9, eqp _), (10, eqp _), (11, eqp _), (12, eqp _), (13, eqp _), (14, eqp _), (15, eqp _), (16, eqp _), (17, eqp _), (18, eqp _), (19, eqp _), (20, eqp _), (21, eqp _), (22, eqp _), (23, eqp _), (24, eqp _), (25, eqp _), (26, eqp _), (27, eqp _)] (by kernel_rfl) (by kernel_rfl) ⟨eqp_mono _, eqp_mono _, eqp_mono _, eqp_mono _, eqp_mono _, eqp_mono _, eqp_mono _, eqp_mono _, eqp_mono _, eqp_mono _, eqp_mono _, eqp_mono _, eqp_mono _, eqp_mono _, eqp_mono _, eqp_mono _, eqp_mono _, eqp_mono _, eqp_mono _, eqp_mono _, eqp_mono _, trivial⟩
    case hop =>
     refine ⟨?_, ?_⟩
     · intro w40 D40
       show OpOK _ _ _ _ _ _ _
       exact ok_pure (ro_move (v := .int _ _) rfl) rfl
     refine ⟨?_, ?_⟩
     · intro w41 D41
       show OpOK _ _ _ _ _ _ _
       exact ok_pure (ro_move (v := .slice _ _ _) rfl) rfl
     refine ⟨?_, ?_⟩
     · intro w42 D42
       rintro _ rfl
       show OpOK _ _ _ _ _ _ _
       exact ok_pure (ro_len SufBefore_l24 rfl) rfl
     refine ⟨?_, ?_⟩
     · intro w43 D43
       rintro _ rfl _ rfl
       show OpOK _ _ _ _ _ _ _
       exact ok_pure (ro_bt (ro_lss rfl rfl) (decide_eq_true (by omega))) rfl
     refine ⟨?_, ?_⟩
     · intro w44 D44
       rintro _ rfl
       show OpOK _ _ _ _ _ _ _
       exact ok_pure (ro_move (v := .bool _) rfl) rfl
     refine ⟨?_, ?_⟩
     · intro w45 D45
       rintro _ rfl
       show OpOK _ _ _ _ _ _ _
       exact ok_gpure rfl (ro_move (v := .int _ _) rfl) rfl
     refine ⟨?_, ?_⟩
     · intro w46 D46
       rintro _ rfl
       show OpOK _ _ _ _ _ _ _
       exact ok_gpure rfl (ro_move (v := .slice _ _ _) rfl) rfl
     refine ⟨?_, ?_⟩
     · intro w47 D47
       rintro _ rfl _ rfl
       show OpOK _ _ _ _ _ _ _
       exact ok_gpure rfl (ro_len SufBefore_l24 rfl) rfl
     refine ⟨?_, ?_⟩
     · intro w48 D48
       rintro _ rfl _ rfl _ rfl
       show OpOK _ _ _ _ _ _ _
       exact ok_gpure rfl (ro_bf (ro_lss rfl rfl) (decide_eq_false (by omega))) rfl
     refine ⟨?_, ?_⟩
     · intro w49 D49
       rintro _ rfl _ rfl
       show OpOK _ _ _ _ _ _ _
       exact ok_pure (ro_pickT (v := .bool _) rfl rfl) rfl
     refine ⟨?_, ?_⟩
     · intro w50 D50
       rintro _ rfl
       show OpOK _ _ _ _ _ _ _
       exact ok_pure (ro_move (v := .bool _) rfl) rfl
     refine ⟨?_, ?_⟩
     · intro w51 D51
       rintro _ rfl
       show OpOK _ _ _ _ _ _ _
       exact ok_gno rfl rfl rfl
     refine ⟨?_, ?_⟩
     · intro w52 D52
       rintro _ rfl
       show OpOK _ _ _ _ _ _ _
       exact ok_gno rfl rfl rfl
     refine ⟨?_, ?_⟩
     · intro w53 D53
       rintro _ rfl _ rfl _ rfl
       show OpOK _ _ _ _ _ _ _
       exact ok_gno rfl rfl rfl
     refine ⟨?_, ?_⟩
     · intro w54 D54
       rintro _ rfl _ rfl
       show OpOK _ _ _ _ _ _ _
       exact ok_gno rfl rfl rfl
     refine ⟨?_, ?_⟩
     · intro w55 D55
       rintro _ rfl
       show OpOK _ _ _ _ _ _ _
       exact ok_gno rfl rfl rfl
     refine ⟨?_, ?_⟩
     · intro w56 D56
       rintro _ rfl
       show OpOK _ _ _ _ _ _ _
       exact ok_gno rfl rfl rfl
     refine ⟨?_, ?_⟩
     · intro w57 D57
       rintro _ rfl _ rfl _ rfl
       show OpOK _ _ _ _ _ _ _
       exact ok_gno rfl rfl rfl
     refine ⟨?_, ?_⟩
     · intro w58 D58
       rintro _ rfl _ rfl
       show OpOK _ _ _ _ _ _ _
       exact ok_gno rfl rfl rfl
     refine ⟨?_, ?_⟩
     · intro w59 D59
       rintro _ rfl _ rfl _ rfl
       show OpOK _ _ _ _ _ _ _
       exact ok_gno rfl rfl rfl
     refine ⟨?_, ?_⟩
     · intro w60 D60
       rintro _ rfl _ rfl
       show OpOK _ _ _ _ _ _ _
       exact ok_pure (ro_pickF (v := .bool _) rfl rfl) rfl
     exact trivial
    case hend =>
     intro w61 D61
     rintro _ rfl _ rfl _ rfl _ rfl _ rfl _ rfl _ rfl _ rfl _ rfl _ rfl _ rfl _ rfl _ rfl _ rfl _ rfl _ rfl _ rfl _ rfl _ rfl _ rfl _ rfl
     show St _ _ _ _ _ _ _
     refine st_nil ?_
     refine nx_then ?_
     refine cd_condF rfl ?_
     refine cd_exit ?_
     refine ex_then ?_
     refine ex_then ?_
     refine ex_block ?_
     refine nx_then ?_
     refine cd_seq ?_
     refine cd_seq ?_
     refine cd_region ?_
     refine st_val (ro_move (v := .int _ _) rfl) ?_
     refine st_val (ro_move (v := .slice _ _ _) rfl) ?_
     refine st_val (ro_len SufBefore_l24 rfl) ?_
     refine st_val (ro_eql rfl rfl) ?_
     refine st_val (ro_move (v := .bool _) rfl) ?_
     refine st_split (t := 36) rfl (fun Q62 => ?_) (fun Q62 => ?_)
     · (try with_reducible first | replace Q62 := of_decide_eq_true Q62 | replace Q62 := of_decide_eq_false Q62 | replace Q62 := bn_t Q62 | replace Q62 := bn_f Q62)
       (try with_reducible first | replace Q62 := of_decide_eq_true Q62 | replace Q62 := of_decide_eq_false Q62 | replace Q62 := bx_t Q62 | replace Q62 := bx_f Q62 | replace Q62 := be_t Q62 | replace Q62 := be_f Q62)
       first
        | (exfalso; first | omega | contradiction | (cases Q62; done))
        | skip
          refine st_gno rfl rfl ?_
          refine st_gno rfl rfl ?_
          refine st_gno rfl rfl ?_
          refine st_gno rfl rfl ?_
          refine st_val (ro_pickT (v := .bool _) rfl rfl) ?_
          refine st_nil ?_
          refine nx_then ?_
          refine cd_condT rfl ?_
          refine cd_seq ?_
          refine cd_region ?_
          refine st_val (ro_move (v := .int _ _) rfl) ?_
          refine st_val (ro_move (v := .int _ _) rfl) ?_
          refine st_val (ro_gtr rfl rfl) ?_
          refine st_val (ro_assign (v := .bool _) rfl) ?_
          refine st_nil ?_
          refine nx_then ?_
          refine cd_ret ?_
          refine rt_then ?_
          refine res1 (v := .bool _) rfl rfl ?_
          refine ⟨⟨_, rfl, ?_⟩, (hB.next D61)⟩
          rw [decide_eq_true_iff, ← bf_end heq (by omega) (by omega) (by omega)]
          omega
     · (try with_reducible first | replace Q62 := of_decide_eq_true Q62 | replace Q62 := of_decide_eq_false Q62 | replace Q62 := bn_t Q62 | replace Q62 := bn_f Q62)
       (try with_reducible first | replace Q62 := of_decide_eq_true Q62 | replace Q62 := of_decide_eq_false Q62 | replace Q62 := bx_t Q62 | replace Q62 := bx_f Q62 | replace Q62 := be_t Q62 | replace Q62 := be_f Q62)
       first
        | (exfalso; first | omega | contradiction | (cases Q62; done))
        | skip
          refine st_unguard rfl ?_
          refine st_val (ro_move (v := .int _ _) rfl) ?_
          refine st_unguard rfl ?_
          refine st_val (ro_move (v := .slice _ _ _) rfl) ?_
          refine st_unguard rfl ?_
          refine st_val (ro_len SufBefore_l24 rfl) ?_
          refine st_unguard rfl ?_
          refine st_val (ro_eql rfl rfl) ?_
          refine st_val (ro_pickF (v := .bool _) rfl rfl) ?_
          refine st_nil ?_
          refine nx_then ?_
          refine cd_cond rfl (fun Q63 => ?_) (fun Q63 => ?_)
          · (try with_reducible first | replace Q63 := of_decide_eq_true Q63 | replace Q63 := of_decide_eq_false Q63 | replace Q63 := bn_t Q63 | replace Q63 := bn_f Q63)
            (try with_reducible first | replace Q63 := of_decide_eq_true Q63 | replace Q63 := of_decide_eq_false Q63 | replace Q63 := bx_t Q63 | replace Q63 := bx_f Q63 | replace Q63 := be_t Q63 | replace Q63 := be_f Q63)
            first
             | (exfalso; first | omega | contradiction | (cases Q63; done))
             | skip
               refine cd_seq ?_
               refine cd_region ?_
               refine st_val (ro_move (v := .int _ _) rfl) ?_
               refine st_val (ro_move (v := .int _ _) rfl) ?_
               refine st_val (ro_gtr rfl rfl) ?_
               refine st_val (ro_assign (v := .bool _) rfl) ?_
               refine st_nil ?_
               refine nx_then ?_
               refine cd_ret ?_
               refine rt_then ?_
               refine res1 (v := .bool _) rfl rfl ?_
               refine ⟨⟨_, rfl, ?_⟩, (hB.next D61)⟩
               rw [decide_eq_true_iff, ← bf_end heq (by omega) (by omega) (by omega)]
               omega
          · (try with_reducible first | replace Q63 := of_decide_eq_true Q63 | replace Q63 := of_decide_eq_false Q63 | replace Q63 := bn_t Q63 | replace Q63 := bn_f Q63)
            (try with_reducible first | replace Q63 := of_decide_eq_true Q63 | replace Q63 := of_decide_eq_false Q63 | replace Q63 := bx_t Q63 | replace Q63 := bx_f Q63 | replace Q63 := be_t Q63 | replace Q63 := be_f Q63)
            first
             | (exfalso; first | omega | contradiction | (cases Q63; done))
             | skip
               refine cd_skip ?_
               refine nx_then ?_
               refine cd_seq ?_
               apply cd_drawn 10 [(45, eqp _), (46, eqp _), (47, eqp _), (48, eqp _), (49, eqp _), (50, eqp _), (51, eqp _), (52, eqp _), (53, eqp _), (6, eqp _)] (by kernel_rfl) (by kernel_rfl) ⟨eqp_mono _, eqp_mono _, eqp_mono _, eqp_mono _, eqp_mono _, eqp_mono _, eqp_mono _, eqp_mono _, eqp_mono _, eqp_mono _, trivial⟩
               case hop =>
                refine ⟨?_, ?_⟩
                · intro w65 D65
                  show OpOK _ _ _ _ _ _ _
                  exact ok_pure (ro_move (v := .slice _ _ _) rfl) rfl
                refine ⟨?_, ?_⟩
                · intro w66 D66
                  show OpOK _ _ _ _ _ _ _
                  exact ok_pure (ro_move (v := .int _ _) rfl) rfl
                refine ⟨?_, ?_⟩
                · intro w67 D67
                  rintro _ rfl _ rfl
                  show OpOK _ _ _ _ _ _ _
                  exact ok_pure (ro_indexAddr1 SufBefore_e24 rfl rfl (by omega)) rfl
                refine ⟨?_, ?_⟩
                · intro w68 D68
                  rintro _ rfl
                  show OpOK _ _ _ _ _ _ _
                  exact ok_pure (ro_load SufBefore_g3 rfl (by exact cellF ((hB.next D61).next D68) (hca (a + d) h1))) rfl
                refine ⟨?_, ?_⟩
                · intro w69 D69
                  show OpOK _ _ _ _ _ _ _
                  exact ok_pure (ro_move (v := .slice _ _ _) rfl) rfl
                refine ⟨?_, ?_⟩
                · intro w70 D70
                  show OpOK _ _ _ _ _ _ _
                  exact ok_pure (ro_move (v := .int _ _) rfl) rfl
                refine ⟨?_, ?_⟩
                · intro w71 D71
                  rintro _ rfl _ rfl
                  show OpOK _ _ _ _ _ _ _
                  exact ok_pure (ro_indexAddr1 SufBefore_e24 rfl rfl (by omega)) rfl
                refine ⟨?_, ?_⟩
                · intro w72 D72
                  rintro _ rfl
                  show OpOK _ _ _ _ _ _ _
                  exact ok_pure (ro_load SufBefore_g3 rfl (by exact cellF ((hB.next D61).next D72) (hca (b + d) h2))) rfl
                refine ⟨?_, ?_⟩
                · intro w73 D73
                  rintro _ rfl _ rfl
                  show OpOK _ _ _ _ _ _ _
                  exact ok_pure (ro_lss rfl rfl) rfl
                refine ⟨?_, ?_⟩
                · intro w74 D74
                  rintro _ rfl
                  show OpOK _ _ _ _ _ _ _
                  exact ok_pure (ro_assign (v := .bool _) rfl) rfl
                exact trivial
               case hend =>
                intro w75 D75
                rintro _ rfl _ rfl _ rfl _ rfl _ rfl _ rfl _ rfl _ rfl _ rfl _ rfl
                show St _ _ _ _ _ _ _
                refine st_nil ?_
                refine nx_then ?_
                refine cd_ret ?_
                refine res1 (v := .bool _) rfl rfl ?_
                refine ⟨⟨_, rfl, ?_⟩, ((hB.next D61).next D75)⟩
                rw [decide_eq_true_iff, ← bf_mid heq h1 h2 h3]
                omega
  · apply cd_drawn 21 [(7, eqp _), (8, eqp _), (9, eqp _), (10, eqp _), (11, eqp _), (12, eqp _), (13, eqp _), (14, eqp _), (15, eqp _), (16, eqp _), (17, eqp _), (18, eqp _), (19, eqp _), (20, eqp _), (21, eqp _), (22, eqp _), (23, eqp _), (24, eqp _), (25, eqp _), (26, eqp _), (27, eqp _)] (by kernel_rfl) (by kernel_rfl) ⟨eqp_mono _, eqp_mono _, eqp_mono _, eqp_mono _, eqp_mono _, eqp_mono _, eqp_mono _, eqp_mono _, eqp_mono _, eqp_mono _, eqp_mono _, eqp_mono _, eqp_mono _, eqp_mono _, eqp_mono _, eqp_mono _, eqp_mono _, eqp_mono _, eqp_mono _, eqp_mono _, eqp_mono _, trivial⟩
    case hop =>
     refine ⟨?_, ?_⟩
     · intro w77 D77
       show OpOK _ _ _ _ _ _ _
       exact ok_pure (ro_move (v := .int _ _) rfl) rfl
     refine ⟨?_, ?_⟩
     · intro w78 D78
       show OpOK _ _ _ _ _ _ _
       exact ok_pure (ro_move (v := .slice _ _ _) rfl) rfl
     refine ⟨?_, ?_⟩
     · intro w79 D79
       rintro _ rfl
       show OpOK _ _ _ _ _ _ _
       exact ok_pure (ro_len SufBefore_l24 rfl) rfl
     refine ⟨?_, ?_⟩
     · intro w80 D80
       rintro _ rfl _ rfl
       show OpOK _ _ _ _ _ _ _
       exact ok_pure (ro_bt (ro_lss rfl rfl) (decide_eq_true (by omega))) rfl
     refine ⟨?_, ?_⟩
     · intro w81 D81
       rintro _ rfl
       show OpOK _ _ _ _ _ _ _
       exact ok_pure (ro_move (v := .bool _) rfl) rfl
     refine ⟨?_, ?_⟩
     · intro w82 D82
       rintro _ rfl
       show OpOK _ _ _ _ _ _ _
       exact ok_gpure rfl (ro_move (v := .int _ _) rfl) rfl
     refine ⟨?_, ?_⟩
     · intro w83 D83
       rintro _ rfl
       show OpOK _ _ _ _ _ _ _
       exact ok_gpure rfl (ro_move (v := .slice _ _ _) rfl) rfl
     refine ⟨?_, ?_⟩
     · intro w84 D84
       rintro _ rfl _ rfl
       show OpOK _ _ _ _ _ _ _
       exact ok_gpure rfl (ro_len SufBefore_l24 rfl) rfl
     refine ⟨?_, ?_⟩
     · intro w85 D85
       rintro _ rfl _ rfl _ rfl
       show OpOK _ _ _ _ _ _ _
       exact ok_gpure rfl (ro_bt (ro_lss rfl rfl) (decide_eq_true (by omega))) rfl
     refine ⟨?_, ?_⟩
     · intro w86 D86
       rintro _ rfl _ rfl
       show OpOK _ _ _ _ _ _ _
       exact ok_pure (ro_pickT (v := .bool _) rfl rfl) rfl
     refine ⟨?_, ?_⟩
     · intro w87 D87
       rintro _ rfl
       show OpOK _ _ _ _ _ _ _
       exact ok_pure (ro_move (v := .bool _) rfl) rfl
     refine ⟨?_, ?_⟩
     · intro w88 D88
       rintro _ rfl
       show OpOK _ _ _ _ _ _ _
       exact ok_gpure rfl (ro_move (v := .slice _ _ _) rfl) rfl
     refine ⟨?_, ?_⟩
     · intro w89 D89
       rintro _ rfl
       show OpOK _ _ _ _ _ _ _
       exact ok_gpure rfl (ro_move (v := .int _ _) rfl) rfl
     refine ⟨?_, ?_⟩
     · intro w90 D90
       rintro _ rfl _ rfl _ rfl
       show OpOK _ _ _ _ _ _ _
       exact ok_gpure rfl (ro_indexAddr1 SufBefore_e24 rfl rfl (by omega)) rfl
     refine ⟨?_, ?_⟩
     · intro w91 D91
       rintro _ rfl _ rfl
       show OpOK _ _ _ _ _ _ _
       exact ok_gpure rfl (ro_load SufBefore_g3 rfl (by exact cellF (hB.next D91) (hca (a + d) h1))) rfl
     refine ⟨?_, ?_⟩
     · intro w92 D92
       rintro _ rfl
       show OpOK _ _ _ _ _ _ _
       exact ok_gpure rfl (ro_move (v := .slice _ _ _) rfl) rfl
     refine ⟨?_, ?_⟩
     · intro w93 D93
       rintro _ rfl
       show OpOK _ _ _ _ _ _ _
       exact ok_gpure rfl (ro_move (v := .int _ _) rfl) rfl
     refine ⟨?_, ?_⟩
     · intro w94 D94
       rintro _ rfl _ rfl _ rfl
       show OpOK _ _ _ _ _ _ _
       exact ok_gpure rfl (ro_indexAddr1 SufBefore_e24 rfl rfl (by omega)) rfl
     refine ⟨?_, ?_⟩
     · intro w95 D95
       rintro _ rfl _ rfl
       show OpOK _ _ _ _ _ _ _
       exact ok_gpure rfl (ro_load SufBefore_g3 rfl (by exact cellF (hB.next D95) (hca (b + d) h2))) rfl
     refine ⟨?_, ?_⟩
     · intro w96 D96
       rintro _ rfl _ rfl _ rfl
       show OpOK _ _ _ _ _ _ _
       exact ok_gpure rfl (ro_bt (ro_eql rfl rfl) (by rw [h3]; exact beq_self_eq_true _)) rfl
     refine ⟨?_, ?_⟩
     · intro w97 D97
       rintro _ rfl _ rfl
       show OpOK _ _ _ _ _ _ _
       exact ok_pure (ro_pickT (v := .bool _) rfl rfl) rfl
     exact trivial
    case hend =>
     intro w98 D98
     rintro _ rfl _ rfl _ rfl _ rfl _ rfl _ rfl _ rfl _ rfl _ rfl _ rfl _ rfl _ rfl _ rfl _ rfl _ rfl _ rfl _ rfl _ rfl _ rfl _ rfl _ rfl
     show St _ _ _ _ _ _ _
     refine st_nil ?_
     refine nx_then ?_
     refine cd_condT rfl ?_
     refine cd_skip ?_
     refine nx_then ?_
     refine cd_block ?_
     refine cd_seq ?_
     refine cd_region ?_
     refine st_val (ro_move (v := .int _ _) rfl) ?_
     refine st_val (ro_addN (b := 1) rfl rfl (by omega)) ?_
     refine st_val (ro_assign (v := .int _ _) rfl) ?_
     refine st_nil ?_
     refine nx_then ?_
     refine cd_region ?_
     refine st_val (ro_move (v := .int _ _) rfl) ?_
     refine st_val (ro_addN (b := 1) rfl rfl (by omega)) ?_
     refine st_val (ro_assign (v := .int _ _) rfl) ?_
     refine st_nil ?_
     refine nx_block ?_
     refine nx_cut (d + 1) ⟨(by first | rfl | (refine int_eq ?_; omega)), (by first | rfl | (refine int_eq ?_; omega)), trivial⟩ (by (iterate 54 refine agr_cons rfl ?_); exact agr_rfl) ⟨?_, ?_⟩
     · refine ⟨by omega, by omega, fun k hk => ?_, (hB.next D98)⟩
       rcases Nat.eq_or_lt_of_le (Nat.le_of_lt_succ hk) with e | e
       · subst e; rw [endT_at h1, endT_at h2, h3]
       · exact heq k e
     · show n - (a + (d + 1)) < n - (a + d); omega
  · apply cd_drawn 21 [(7, eqp _), (8, eqp _), (9, eqp _), (10, eqp _), (11, eqp _), (12, eqp _), (13, eqp _), (14, eqp _), (15, eqp _), (16, eqp _), (17, eqp _), (18, eqp _), (19, eqp _), (20, eqp _), (21, eqp _), (22, eqp _), (23, eqp _), (24, eqp _), (25, eqp _), (26, eqp _), (27, eqp _)] (by kernel_rfl) (by kernel_rfl) ⟨eqp_mono _, eqp_mono _, eqp_mono _, eqp_mono _, eqp_mono _, eqp_mono _, eqp_mono _, eqp_mono _, eqp_mono _, eqp_mono _, eqp_mono _, eqp_mono _, eqp_mono _, eqp_mono _, eqp_mono _, eqp_mono _, eqp_mono _, eqp_mono _, eqp_mono _, eqp_mono _, eqp_mono _, trivial⟩
    case hop =>
     refine ⟨?_, ?_⟩
     · intro w100 D100
       show OpOK _ _ _ _ _ _ _
       exact ok_pure (ro_move (v := .int _ _) rfl) rfl
     refine ⟨?_, ?_⟩
     · intro w101 D101
       show OpOK _ _ _ _ _ _ _
       exact ok_pure (ro_move (v := .slice _ _ _) rfl) rfl
     refine ⟨?_, ?_⟩
     · intro w102 D102
       rintro _ rfl
       show OpOK _ _ _ _ _ _ _
       exact ok_pure (ro_len SufBefore_l24 rfl) rfl
     refine ⟨?_, ?_⟩
     · intro w103 D103
       rintro _ rfl _ rfl
       show OpOK _ _ _ _ _ _ _
       exact ok_pure (ro_bt (ro_lss rfl rfl) (decide_eq_true (by omega))) rfl
     refine ⟨?_, ?_⟩
     · intro w104 D104
       rintro _ rfl
       show OpOK _ _ _ _ _ _ _
       exact ok_pure (ro_move (v := .bool _) rfl) rfl
     refine ⟨?_, ?_⟩
     · intro w105 D105
       rintro _ rfl
       show OpOK _ _ _ _ _ _ _
       exact ok_gpure rfl (ro_move (v := .int _ _) rfl) rfl
     refine ⟨?_, ?_⟩
     · intro w106 D106
       rintro _ rfl
       show OpOK _ _ _ _ _ _ _
       exact ok_gpure rfl (ro_move (v := .slice _ _ _) rfl) rfl
     refine ⟨?_, ?_⟩
     · intro w107 D107
       rintro _ rfl _ rfl
       show OpOK _ _ _ _ _ _ _
       exact ok_gpure rfl (ro_len SufBefore_l24 rfl) rfl
     refine ⟨?_, ?_⟩
     · intro w108 D108
       rintro _ rfl _ rfl _ rfl
       show OpOK _ _ _ _ _ _ _
       exact ok_gpure rfl (ro_bt (ro_lss rfl rfl) (decide_eq_true (by omega))) rfl
     refine ⟨?_, ?_⟩
     · intro w109 D109
       rintro _ rfl _ rfl
       show OpOK _ _ _ _ _ _ _
       exact ok_pure (ro_pickT (v := .bool _) rfl rfl) rfl
     refine ⟨?_, ?_⟩
     · intro w110 D110
       rintro _ rfl
       show OpOK _ _ _ _ _ _ _
       exact ok_pure (ro_move (v := .bool _) rfl) rfl
     refine ⟨?_, ?_⟩
     · intro w111 D111
       rintro _ rfl
       show OpOK _ _ _ _ _ _ _
       exact ok_gpure rfl (ro_move (v := .slice _ _ _) rfl) rfl
     refine ⟨?_, ?_⟩
     · intro w112 D112
       rintro _ rfl
       show OpOK _ _ _ _ _ _ _
       exact ok_gpure rfl (ro_move (v := .int _ _) rfl) rfl
     refine ⟨?_, ?_⟩
     · intro w113 D113
       rintro _ rfl _ rfl _ rfl
       show OpOK _ _ _ _ _ _ _
       exact ok_gpure rfl (ro_indexAddr1 SufBefore_e24 rfl rfl (by omega)) rfl
     refine ⟨?_, ?_⟩
     · intro w114 D114
       rintro _ rfl _ rfl
       show OpOK _ _ _ _ _ _ _
       exact ok_gpure rfl (ro_load SufBefore_g3 rfl (by exact cellF (hB.next D114) (hca (a + d) h1))) rfl
     refine ⟨?_, ?_⟩
     · intro w115 D115
       rintro _ rfl
       show OpOK _ _ _ _ _ _ _
       exact ok_gpure rfl (ro_move (v := .slice _ _ _) rfl) rfl
     refine ⟨?_, ?_⟩
     · intro w116 D116
       rintro _ rfl
       show OpOK _ _ _ _ _ _ _
       exact ok_gpure rfl (ro_move (v := .int _ _) rfl) rfl
     refine ⟨?_, ?_⟩
     · intro w117 D117
       rintro _ rfl _ rfl _ rfl
       show OpOK _ _ _ _ _ _ _
       exact ok_gpure rfl (ro_indexAddr1 SufBefore_e24 rfl rfl (by omega)) rfl
     refine ⟨?_, ?_⟩
     · intro w118 D118
       rintro _ rfl _ rfl
       show OpOK _ _ _ _ _ _ _
       exact ok_gpure rfl (ro_load SufBefore_g3 rfl (by exact cellF (hB.next D118) (hca (b + d) h2))) rfl
     refine ⟨?_, ?_⟩
     · intro w119 D119
       rintro _ rfl _ rfl _ rfl
       show OpOK _ _ _ _ _ _ _
       exact ok_gpure rfl (ro_bf (ro_eql rfl rfl) (beq_false_of_ne (by omega))) rfl
     refine ⟨?_, ?_⟩
     · intro w120 D120
       rintro _ rfl _ rfl
       show OpOK _ _ _ _ _ _ _
       exact ok_pure (ro_pickT (v := .bool _) rfl rfl) rfl
     exact trivial
    case hend =>
     intro w121 D121
     rintro _ rfl _ rfl _ rfl _ rfl _ rfl _ rfl _ rfl _ rfl _ rfl _ rfl _ rfl _ rfl _ rfl _ rfl _ rfl _ rfl _ rfl _ rfl _ rfl _ rfl _ rfl
     show St _ _ _ _ _ _ _
     refine st_nil ?_
     refine nx_then ?_
     refine cd_condF rfl ?_
     refine cd_exit ?_
     refine ex_then ?_
     refine ex_then ?_
     refine ex_block ?_
     refine nx_then ?_
     refine cd_seq ?_
     refine cd_seq ?_
     refine cd_region ?_
     refine st_val (ro_move (v := .int _ _) rfl) ?_
     refine st_val (ro_move (v := .slice _ _ _) rfl) ?_
     refine st_val (ro_len SufBefore_l24 rfl) ?_
     refine st_val (ro_eql rfl rfl) ?_
     refine st_val (ro_move (v := .bool _) rfl) ?_
     refine st_split (t := 36) rfl (fun Q122 => ?_) (fun Q122 => ?_)
     · (try with_reducible first | replace Q122 := of_decide_eq_true Q122 | replace Q122 := of_decide_eq_false Q122 | replace Q122 := bn_t Q122 | replace Q122 := bn_f Q122)
       (try with_reducible first | replace Q122 := of_decide_eq_true Q122 | replace Q122 := of_decide_eq_false Q122 | replace Q122 := bx_t Q122 | replace Q122 := bx_f Q122 | replace Q122 := be_t Q122 | replace Q122 := be_f Q122)
       first
        | (exfalso; first | omega | contradiction | (cases Q122; done))
        | skip
          refine st_gno rfl rfl ?_
          refine st_gno rfl rfl ?_
          refine st_gno rfl rfl ?_
          refine st_gno rfl rfl ?_
          refine st_val (ro_pickT (v := .bool _) rfl rfl) ?_
          refine st_nil ?_
          refine nx_then ?_
          refine cd_condT rfl ?_
          refine cd_seq ?_
          refine cd_region ?_
          refine st_val (ro_move (v := .int _ _) rfl) ?_
          refine st_val (ro_move (v := .int _ _) rfl) ?_
          refine st_val (ro_gtr rfl rfl) ?_
          refine st_val (ro_assign (v := .bool _) rfl) ?_
          refine st_nil ?_
          refine nx_then ?_
          refine cd_ret ?_
          refine rt_then ?_
          refine res1 (v := .bool _) rfl rfl ?_
          refine ⟨⟨_, rfl, ?_⟩, (hB.next D121)⟩
          rw [decide_eq_true_iff, ← bf_end heq (by omega) (by omega) (by omega)]
          omega
     · (try with_reducible first | replace Q122 := of_decide_eq_true Q122 | replace Q122 := of_decide_eq_false Q122 | replace Q122 := bn_t Q122 | replace Q122 := bn_f Q122)
       (try with_reducible first | replace Q122 := of_decide_eq_true Q122 | replace Q122 := of_decide_eq_false Q122 | replace Q122 := bx_t Q122 | replace Q122 := bx_f Q122 | replace Q122 := be_t Q122 | replace Q122 := be_f Q122)
       first
        | (exfalso; first | omega | contradiction | (cases Q122; done))
        | skip
          refine st_unguard rfl ?_
          refine st_val (ro_move (v := .int _ _) rfl) ?_
          refine st_unguard rfl ?_
          refine st_val (ro_move (v := .slice _ _ _) rfl) ?_
          refine st_unguard rfl ?_
          refine st_val (ro_len SufBefore_l24 rfl) ?_
          refine st_unguard rfl ?_
          refine st_val (ro_eql rfl rfl) ?_
          refine st_val (ro_pickF (v := .bool _) rfl rfl) ?_
          refine st_nil ?_
          refine nx_then ?_
          refine cd_cond rfl (fun Q123 => ?_) (fun Q123 => ?_)
          · (try with_reducible first | replace Q123 := of_decide_eq_true Q123 | replace Q123 := of_decide_eq_false Q123 | replace Q123 := bn_t Q123 | replace Q123 := bn_f Q123)
            (try with_reducible first | replace Q123 := of_decide_eq_true Q123 | replace Q123 := of_decide_eq_false Q123 | replace Q123 := bx_t Q123 | replace Q123 := bx_f Q123 | replace Q123 := be_t Q123 | replace Q123 := be_f Q123)
            first
             | (exfalso; first | omega | contradiction | (cases Q123; done))
             | skip
               refine cd_seq ?_
               refine cd_region ?_
               refine st_val (ro_move (v := .int _ _) rfl) ?_
               refine st_val (ro_move (v := .int _ _) rfl) ?_
               refine st_val (ro_gtr rfl rfl) ?_
               refine st_val (ro_assign (v := .bool _) rfl) ?_
               refine st_nil ?_
               refine nx_then ?_
               refine cd_ret ?_
               refine rt_then ?_
               refine res1 (v := .bool _) rfl rfl ?_
               refine ⟨⟨_, rfl, ?_⟩, (hB.next D121)⟩
               rw [decide_eq_true_iff, ← bf_end heq (by omega) (by omega) (by omega)]
               omega
          · (try with_reducible first | replace Q123 := of_decide_eq_true Q123 | replace Q123 := of_decide_eq_false Q123 | replace Q123 := bn_t Q123 | replace Q123 := bn_f Q123)
            (try with_reducible first | replace Q123 := of_decide_eq_true Q123 | replace Q123 := of_decide_eq_false Q123 | replace Q123 := bx_t Q123 | replace Q123 := bx_f Q123 | replace Q123 := be_t Q123 | replace Q123 := be_f Q123)
            first
             | (exfalso; first | omega | contradiction | (cases Q123; done))
             | skip
               refine cd_skip ?_
               refine nx_then ?_
               refine cd_seq ?_
               apply cd_drawn 10 [(45, eqp _), (46, eqp _), (47, eqp _), (48, eqp _), (49, eqp _), (50, eqp _), (51, eqp _), (52, eqp _), (53, eqp _), (6, eqp _)] (by kernel_rfl) (by kernel_rfl) ⟨eqp_mono _, eqp_mono _, eqp_mono _, eqp_mono _, eqp_mono _, eqp_mono _, eqp_mono _, eqp_mono _, eqp_mono _, eqp_mono _, trivial⟩
               case hop =>
                refine ⟨?_, ?_⟩
                · intro w125 D125
                  show OpOK _ _ _ _ _ _ _
                  exact ok_pure (ro_move (v := .slice _ _ _) rfl) rfl
                refine ⟨?_, ?_⟩
                · intro w126 D126
                  show OpOK _ _ _ _ _ _ _
                  exact ok_pure (ro_move (v := .int _ _) rfl) rfl
                refine ⟨?_, ?_⟩
                · intro w127 D127
                  rintro _ rfl _ rfl
                  show OpOK _ _ _ _ _ _ _
                  exact ok_pure (ro_indexAddr1 SufBefore_e24 rfl rfl (by omega)) rfl
                refine ⟨?_, ?_⟩
                · intro w128 D128
                  rintro _ rfl
                  show OpOK _ _ _ _ _ _ _
                  exact ok_pure (ro_load SufBefore_g3 rfl (by exact cellF ((hB.next D121).next D128) (hca (a + d) h1))) rfl
                refine ⟨?_, ?_⟩
                · intro w129 D129
                  show OpOK _ _ _ _ _ _ _
                  exact ok_pure (ro_move (v := .slice _ _ _) rfl) rfl
                refine ⟨?_, ?_⟩
                · intro w130 D130
                  show OpOK _ _ _ _ _ _ _
                  exact ok_pure (ro_move (v := .int _ _) rfl) rfl
                refine ⟨?_, ?_⟩
                · intro w131 D131
                  rintro _ rfl _ rfl
                  show OpOK _ _ _ _ _ _ _
                  exact ok_pure (ro_indexAddr1 SufBefore_e24 rfl rfl (by omega)) rfl
                refine ⟨?_, ?_⟩
                · intro w132 D132
                  rintro _ rfl
                  show OpOK _ _ _ _ _ _ _
                  exact ok_pure (ro_load SufBefore_g3 rfl (by exact cellF ((hB.next D121).next D132) (hca (b + d) h2))) rfl
                refine ⟨?_, ?_⟩
                · intro w133 D133
                  rintro _ rfl _ rfl
                  show OpOK _ _ _ _ _ _ _
                  exact ok_pure (ro_lss rfl rfl) rfl
                refine ⟨?_, ?_⟩
                · intro w134 D134
                  rintro _ rfl
                  show OpOK _ _ _ _ _ _ _
                  exact ok_pure (ro_assign (v := .bool _) rfl) rfl
                exact trivial
               case hend =>
                intro w135 D135
                rintro _ rfl _ rfl _ rfl _ rfl _ rfl _ rfl _ rfl _ rfl _ rfl _ rfl
                show St _ _ _ _ _ _ _
                refine st_nil ?_
                refine nx_then ?_
                refine cd_ret ?_
                refine res1 (v := .bool _) rfl rfl ?_
                refine ⟨⟨_, rfl, ?_⟩, ((hB.next D121).next D135)⟩
                rw [decide_eq_true_iff, ← bf_mid heq h1 h2 h3]
                omega
end Go.Proofs.Ytpafbgdbjambgaa
