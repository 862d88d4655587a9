/- rpc: Decode. -/
import Derived.Test.YtjliefglelcooaaDoorMgRpcAny6
namespace Go.Proofs.YtjliefglelcooaaDoor
open Go.RowKit
open Go.ChangeShapes Go.WideShapes Go.ChangeAt
theorem RpcDec2_k16 : callable Tryd.prog 16 = true := by kernel_rfl
theorem RpcDec2_k15 : callable Tryd.prog 15 = true := by kernel_rfl
theorem RpcDec2_e23 : elemQ Tryd.prog 23 = some (5, 1) := by kernel_rfl
theorem RpcDec2_o27 : zeroQ Tryd.prog 27 = some (.agg #[.int .i64 0, .int .i64 0, .int .i64 0, .int .i64 0, .int .i64 0, .int .i64 0, .int .i64 0, .int .i64 0, .bool false, .slice none 0 0, .int .i64 0, .string ⟨#[]⟩, .bool false]) := by kernel_rfl
theorem RpcDec2_l23 : (elemQ Tryd.prog 23).isSome = true := by kernel_rfl
theorem RpcDec2_b27_ : Tryd.prog.built 27 [] = some #[.int .i64 0, .int .i64 0, .int .i64 0, .int .i64 0, .int .i64 0, .int .i64 0, .int .i64 0, .int .i64 0, .bool false, .slice none 0 0, .int .i64 0, .string ⟨#[]⟩, .bool false] := by kernel_rfl
theorem RpcDec2_z27 : sizeQ Tryd.prog 27 = some 13 := by kernel_rfl
theorem RpcDec2_g27 : aggQ Tryd.prog 27 = some true := by kernel_rfl
theorem RpcDec2_k17 : callable Tryd.prog 17 = true := by kernel_rfl
theorem RpcDec2_k18 : callable Tryd.prog 18 = true := by kernel_rfl
theorem RpcDec2_k13 : callable Tryd.prog 13 = true := by kernel_rfl
theorem rowC_drop {w : World} {b o n c : Nat} {vs : List Value} (h : RowC w (.slice (some ⟨b, o, none⟩) n c) vs) {m : Nat} (hm : m ≤ vs.length) : RowC w (.slice (some ⟨b, if c = m then o else o + m, none⟩) (n - m) (c - m)) (vs.drop m) := by
  have := h.rest hm
  have e : restA (some ⟨b, o, none⟩) c m = some ⟨b, if c = m then o else o + m, none⟩ := by
    unfold restA
    split
    · rfl
    · simp [Addr.add_lit]
  rw [e] at this
  exact this
theorem bytesV_take (l : List Nat) (m : Nat) : bytesV (l.take m) = (bytesV l).take m := by unfold bytesV; rw [List.map_take]
theorem bytesV_drop (l : List Nat) (m : Nat) : bytesV (l.drop m) = (bytesV l).drop m := by unfold bytesV; rw [List.map_drop]
theorem getB_sizes {l : List Nat} {ss : List ByteArray} (hb : ∀ b ∈ l, b < 256) (h : getB l = some ss) : (∀ s ∈ ss, s.size ≤ 1048576) ∧ ss.length ≤ 1048576 := by
  obtain ⟨h1, h2⟩ := getB_back hb h
  refine ⟨fun s hs => ?_, ?_⟩
  · have := putB_mem hs
    rw [h1] at this
    omega
  · have := encL_count ss
    have h3 : (putB ss).length = l.length := by rw [h1]
    rw [putB, List.length_append] at h3
    omega
def OkS (ss : List ByteArray) (es : List Ent) : Prop := OkR (nv (sAt ss 0) : Nat) (nv (sAt ss 1) : Nat) (nv (sAt ss 2) : Nat) (nv (sAt ss 3) : Nat) (nv (sAt ss 4) : Nat) (nv (sAt ss 5) : Nat) (nv (sAt ss 6) : Nat) (nv (sAt ss 7) : Nat) (((nv (sAt ss 9) : Nat) : Int) == 1) es (nv (sAt ss 8) : Nat) (sAt ss 11) (((nv (sAt ss 10) : Nat) : Int) == 1)
/-- bytes that are a message's -/
def goodD (l : List Nat) (ss : List ByteArray) (es : List Ent) : Prop := 4 ≤ l.length ∧ l.drop (l.length - 4) = ck (l.take (l.length - 4)) ∧ getB (l.take (l.length - 4)) = some ss ∧ goodS ss es ∧ OkS ss es
theorem entsS_uniq {ss : List ByteArray} {es es2 : List Ent} (h : goodS ss es) (h2 : goodS ss es2) : es = es2 := by
  have := h.2.2.2.2.symm.trans h2.2.2.2.2
  exact Option.some.inj this
set_option maxRecDepth 100000 in
set_option maxHeartbeats 2000000 in
theorem decode_r (A : Option Addr) (c n : Nat) (l : List Nat) (w : World) (hn : n = l.length) (hr : RowC w (.slice A n c) (bytesV l)) (hl : ∀ b ∈ l, b < 256) (hlen : l.length ≤ 140737488351232) (hT : Table w) :
    Rt Tryd.prog 6 [.slice A n c] w (fun v w' => ((∃ ss es, goodD l ss es ∧ ∃ A' c', v = .tuple #[.agg #[.int .i64 (nv (sAt ss 0) : Nat), .int .i64 (nv (sAt ss 1) : Nat), .int .i64 (nv (sAt ss 2) : Nat), .int .i64 (nv (sAt ss 3) : Nat), .int .i64 (nv (sAt ss 4) : Nat), .int .i64 (nv (sAt ss 5) : Nat), .int .i64 (nv (sAt ss 6) : Nat), .int .i64 (nv (sAt ss 7) : Nat), .bool (((nv (sAt ss 9) : Nat) : Int) == 1), .slice A' es.length c', .int .i64 (nv (sAt ss 8) : Nat), .string (sAt ss 11), .bool (((nv (sAt ss 10) : Nat) : Int) == 1)], .int .i64 0] ∧ w'.ownsRow w.heap.size 41 3 (.slice A' es.length c') es.length (entV es)) ∨ ((∀ ss es, ¬ goodD l ss es) ∧ v = .tuple #[.agg #[.int .i64 0, .int .i64 0, .int .i64 0, .int .i64 0, .int .i64 0, .int .i64 0, .int .i64 0, .int .i64 0, .bool false, .slice none 0 0, .int .i64 0, .string ⟨#[]⟩, .bool false], .int .i64 1])) ∧ From w w') := by
  subst hn
  refine enter (n := 50) Tryd.func6 rfl rfl rfl ?_
  refine cd_seq ?_
  refine cd_region ?_
  refine st_alloc RpcDec2_o27 ?_
  intro b2 w1 E2 hb2 hk2
  have hg2 : w.heap.size ≤ b2 := by rw [hb2]; exact Nat.le_refl _
  refine st_val (ro_assign (v := .int _ _) rfl) ?_
  refine st_nil ?_
  refine nx_then ?_
  refine cd_seq ?_
  refine cd_region ?_
  refine st_val (ro_move (v := .slice _ _ _) rfl) ?_
  refine st_val (ro_len RpcDec2_l23 rfl) ?_
  obtain ⟨q, hq⟩ : ∃ q : Int, ((l.length : Nat) : Int) - 4 = q := ⟨_, rfl⟩
  refine st_val (ro_sub64' (r := q) rfl rfl hq (by omega)) ?_
  refine st_val (ro_assign (v := .int _ _) rfl) ?_
  refine st_nil ?_
  refine nx_then ?_
  refine cd_seq ?_
  refine cd_seq ?_
  rcases Int.lt_or_le q 0 with hq0 | hq0
  · apply cd_drawn 13 [(12, eqp _), (13, eqp _), (14, eqp _), (15, eqp _), (16, eqp _), (17, eqp _), (18, eqp _), (19, eqp _), (20, eqp _), (21, eqp _), (22, eqp _), (23, eqp _), (24, eqp _)] (by kernel_rfl) (by kernel_rfl) ⟨eqp_mono _, eqp_mono _, eqp_mono _, eqp_mono _, eqp_mono _, eqp_mono _, eqp_mono _, eqp_mono _, eqp_mono _, eqp_mono _, eqp_mono _, eqp_mono _, eqp_mono _, trivial⟩
    case hop =>
     refine ⟨?_, ?_⟩
     · intro w3 D3
       show OpOK _ _ _ _ _ _ _
       exact ok_pure (ro_move (v := .int _ _) rfl) rfl
     refine ⟨?_, ?_⟩
     · intro w4 D4
       rintro _ rfl
       show OpOK _ _ _ _ _ _ _
       exact ok_pure (ro_bt (ro_lss rfl rfl) (decide_eq_true (by omega))) rfl
     refine ⟨?_, ?_⟩
     · intro w5 D5
       rintro _ rfl
       show OpOK _ _ _ _ _ _ _
       exact ok_pure (ro_move rfl) rfl
     refine ⟨?_, ?_⟩
     · intro w6 D6
       rintro _ rfl
       show OpOK _ _ _ _ _ _ _
       exact ok_gno rfl rfl rfl
     refine ⟨?_, ?_⟩
     · intro w7 D7
       rintro _ rfl
       show OpOK _ _ _ _ _ _ _
       exact ok_gno rfl rfl rfl
     refine ⟨?_, ?_⟩
     · intro w8 D8
       rintro _ rfl _ rfl _ rfl
       show OpOK _ _ _ _ _ _ _
       exact ok_gno rfl rfl rfl
     refine ⟨?_, ?_⟩
     · intro w9 D9
       rintro _ rfl
       show OpOK _ _ _ _ _ _ _
       exact ok_gno rfl rfl rfl
     refine ⟨?_, ?_⟩
     · intro w10 D10
       rintro _ rfl
       show OpOK _ _ _ _ _ _ _
       exact ok_gno rfl rfl rfl
     refine ⟨?_, ?_⟩
     · intro w11 D11
       rintro _ rfl _ rfl _ rfl
       show OpOK _ _ _ _ _ _ _
       exact ok_gno rfl rfl rfl
     refine ⟨?_, ?_⟩
     · intro w12 D12
       rintro _ rfl _ rfl
       show OpOK _ _ _ _ _ _ _
       exact ok_gno rfl rfl rfl
     refine ⟨?_, ?_⟩
     · intro w13 D13
       rintro _ rfl _ rfl _ rfl
       show OpOK _ _ _ _ _ _ _
       exact ok_gno rfl rfl rfl
     refine ⟨?_, ?_⟩
     · intro w14 D14
       rintro _ rfl _ rfl
       show OpOK _ _ _ _ _ _ _
       exact ok_gno rfl rfl rfl
     refine ⟨?_, ?_⟩
     · intro w15 D15
       rintro _ rfl _ rfl
       show OpOK _ _ _ _ _ _ _
       exact ok_pure (ro_pickT (v := .bool _) rfl rfl) rfl
     exact trivial
    case hend =>
     intro w16 D16
     rintro _ rfl _ rfl _ rfl _ rfl _ rfl _ rfl _ rfl _ rfl _ rfl _ rfl _ rfl _ rfl _ rfl
     show St _ _ _ _ _ _ _
     refine st_nil ?_
     refine nx_then ?_
     refine cd_cond rfl (fun Q17 => ?_) (fun Q17 => ?_)
     · (try first | replace Q17 := bn_t Q17 | replace Q17 := bn_f Q17)
       (try first | replace Q17 := bx_t Q17 | replace Q17 := bx_f Q17 | replace Q17 := be_t Q17 | replace Q17 := be_f Q17 | replace Q17 := of_decide_eq_true Q17 | replace Q17 := of_decide_eq_false Q17)
       try simp only [Bool.not_eq_true', decide_eq_false_iff_not] at Q17
       first
        | (exfalso; first | omega | contradiction | (cases Q17; done))
        | skip
          refine cd_seq ?_
          refine cd_region ?_
          refine st_val (ro_build (l := []) (RpcDec2_b27_)) ?_
          refine st_putW (vs := [_, _, _, _, _, _, _, _, _, _, _, _, _]) RpcDec2_z27 rfl rfl (by simp [Value.oneCell']) ((hk2.from_ (From.rfl_.next D16))) rfl ?_
          intro w18 O3 P3
          refine st_val (ro_assign (v := .int _ _) rfl) ?_
          refine st_nil ?_
          refine nx_then ?_
          refine cd_ret ?_
          refine rt_then ?_
          refine resr2 rfl (rv_cellA (cs := [_, _, _, _, _, _, _, _, _, _, _, _, _]) RpcDec2_g27 RpcDec2_z27 rfl (by first | exact P3.whole | exact P6.whole | exact P9.whole | exact P10.whole)) (rv_tmp (v := .int _ _) rfl) ?_
          first
            | exact ⟨.inr ⟨fun ss2 es2 hg => (by have := hg.1; omega), rfl⟩, (((From.rfl_.next E2).next D16).only O3 (hg2))⟩
            | exact ⟨.inr ⟨fun ss2 es2 hg => (by have h1 := hg.2.1; rw [← hm] at h1; exact absurd h1 (by assumption)), rfl⟩, (((From.rfl_.next E2).next D16).only O3 (hg2))⟩
     · (try first | replace Q17 := bn_t Q17 | replace Q17 := bn_f Q17)
       (try first | replace Q17 := bx_t Q17 | replace Q17 := bx_f Q17 | replace Q17 := be_t Q17 | replace Q17 := be_f Q17 | replace Q17 := of_decide_eq_true Q17 | replace Q17 := of_decide_eq_false Q17)
       try simp only [Bool.not_eq_false', decide_eq_true_eq] at Q17
       first
        | (exfalso; first | omega | contradiction | (cases Q17; done))
        | skip
          refine cd_skip ?_
          refine nx_then ?_
          refine cd_seq ?_
          refine cd_region ?_
          refine st_val (ro_move (v := .slice _ _ _) rfl) ?_
          refine st_val (ro_move (v := .int _ _) rfl) ?_
          refine st_val (ro_takeN (m := m) RpcDec2_e23 rfl rfl (by omega)) ?_
          refine st_call RpcDec2_k17 (get_w (some ⟨b0, o0, none⟩) c m (l.take m) hbT _ (hrT.from_ ((From.rfl_.next E2).next D16))) ?_
          rintro v30 w19 ⟨hn30, E30⟩
          rcases hn30 with ⟨hg30, rfl⟩ | ⟨ss, A30, c30, hg30, rfl, hos⟩
          · refine st_val (ro_move (v := .tuple _) rfl) ?_
            refine st_val (ro_extract rfl rfl) ?_
            refine st_val (ro_extract rfl rfl) ?_
            refine st_val (ro_assign (v := .slice _ _ _) rfl) ?_
            refine st_val (ro_assign (v := .int _ _) rfl) ?_
            refine st_nil ?_
            refine nx_then ?_
            refine cd_seq ?_
            refine cd_seq ?_
            refine cd_region ?_
            refine st_val (ro_move (v := .int _ _) rfl) ?_
            refine st_val (ro_neq rfl rfl) ?_
            refine st_nil ?_
            refine nx_then ?_
            refine cd_cond rfl (fun Q20 => ?_) (fun Q20 => ?_)
            · (try first | replace Q20 := bn_t Q20 | replace Q20 := bn_f Q20)
              (try first | replace Q20 := bx_t Q20 | replace Q20 := bx_f Q20 | replace Q20 := be_t Q20 | replace Q20 := be_f Q20 | replace Q20 := of_decide_eq_true Q20 | replace Q20 := of_decide_eq_false Q20)
              first
               | (exfalso; first | omega | contradiction | (cases Q20; done))
               | skip
                 refine cd_seq ?_
                 refine cd_region ?_
                 refine st_val (ro_build (l := []) (RpcDec2_b27_)) ?_
                 refine st_putW (vs := [_, _, _, _, _, _, _, _, _, _, _, _, _]) RpcDec2_z27 rfl rfl (by simp [Value.oneCell']) ((hk2.from_ ((From.rfl_.next D16).next E30))) rfl ?_
                 intro w21 O6 P6
                 refine st_val (ro_assign (v := .int _ _) rfl) ?_
                 refine st_nil ?_
                 refine nx_then ?_
                 refine cd_ret ?_
                 refine rt_then ?_
                 refine resr2 rfl (rv_cellA (cs := [_, _, _, _, _, _, _, _, _, _, _, _, _]) RpcDec2_g27 RpcDec2_z27 rfl (by first | exact P3.whole | exact P6.whole | exact P9.whole | exact P10.whole)) (rv_tmp (v := .int _ _) rfl) ?_
                 exact ⟨.inr ⟨fun ss2 es2 hg => (by have h1 := hg.2.2.1; rw [← hm, hg30] at h1; cases h1), rfl⟩, ((((From.rfl_.next E2).next D16).next E30).only O6 (hg2))⟩
            · (try first | replace Q20 := bn_t Q20 | replace Q20 := bn_f Q20)
              (try first | replace Q20 := bx_t Q20 | replace Q20 := bx_f Q20 | replace Q20 := be_t Q20 | replace Q20 := be_f Q20 | replace Q20 := of_decide_eq_true Q20 | replace Q20 := of_decide_eq_false Q20)
              first
               | (exfalso; first | omega | contradiction | (cases Q20; done))
               | skip
                 refine cd_skip ?_
                 refine nx_then ?_
                 refine cd_seq ?_
                 refine cd_region ?_
                 refine st_val (ro_move (v := .slice _ _ _) rfl) ?_
                 have hB38 := ((((From.rfl_.next E2).next D16).next E30)).size
                 refine st_call RpcDec2_k18 (message_r A30 c30 _ ss _ rfl hsc ((RowOf.of_row (f := Value.string) hrs.1).2.from_ From.rfl_) (fun s h => by have := hsz s h; omega) (by omega)) ?_
                 rintro v38 w22 ⟨hn38, E38⟩
                 rcases hn38 with ⟨es, hgs, A38, c38, rfl, he38⟩ | ⟨hno38, rfl⟩
                 · replace he38 := own_le he38 hB38
                   refine st_val (ro_move (v := .tuple _) rfl) ?_
                   refine st_val (ro_extract rfl rfl) ?_
                   refine st_val (ro_extract rfl rfl) ?_
                   have hlt7 := (hk2.from_ (((From.rfl_.next D16).next E30).next E38)).lt
                   refine st_alloc RpcDec2_o27 ?_
                   intro b7 w23 E7 hb7 hk7
                   have hg7 : w.heap.size ≤ b7 := by rw [hb7]; exact (((((From.rfl_.next E2).next D16).next E30).next E38)).size
                   replace hk2 := hk2.from_ ((((From.rfl_.next D16).next E30).next E38).next E7)
                   have h27 : b2 < b7 := by omega
                   try replace he38 := he38.kept_from E7
                   refine st_putW (vs := [_, _, _, _, _, _, _, _, _, _, _, _, _]) RpcDec2_z27 rfl rfl (by simp [Value.oneCell']) (hk7) rfl ?_
                   intro w24 O7 P7
                   replace hk2 := hk2.only O7 (by omega)
                   try replace he38 := own_only3 he38 O7 (own_off he38 hk7 (by decide))
                   refine st_val (ro_assign (v := .bool _) rfl) ?_
                   refine st_nil ?_
                   refine nx_then ?_
                   refine cd_seq ?_
                   refine cd_seq ?_
                   refine cd_region ?_
                   refine st_val (ro_move (v := .bool _) rfl) ?_
                   refine st_val (ro_not rfl) ?_
                   refine st_val (ro_move (v := .bool _) rfl) ?_
                   refine st_split (t := 43) rfl (fun Q25 => ?_) (fun Q25 => ?_)
                   · (try first | replace Q25 := bn_t Q25 | replace Q25 := bn_f Q25)
                     (try first | replace Q25 := bx_t Q25 | replace Q25 := bx_f Q25 | replace Q25 := be_t Q25 | replace Q25 := be_f Q25 | replace Q25 := of_decide_eq_true Q25 | replace Q25 := of_decide_eq_false Q25)
                     first
                      | (exfalso; first | omega | contradiction | (cases Q25; done))
                      | skip
                        refine st_gno rfl rfl ?_
                        refine st_gno rfl rfl ?_
                        refine st_gno rfl rfl ?_
                        refine st_val (ro_pickT (v := .bool _) rfl rfl) ?_
                        refine st_nil ?_
                        refine nx_then ?_
                        refine cd_condT rfl ?_
                        refine cd_seq ?_
                        refine cd_region ?_
                        refine st_val (ro_build (l := []) (RpcDec2_b27_)) ?_
                        refine st_putW (vs := [_, _, _, _, _, _, _, _, _, _, _, _, _]) RpcDec2_z27 rfl rfl (by simp [Value.oneCell']) ((hk2.from_ From.rfl_)) rfl ?_
                        intro w26 O9 P9
                        refine st_val (ro_assign (v := .int _ _) rfl) ?_
                        refine st_nil ?_
                        refine nx_then ?_
                        refine cd_ret ?_
                        refine rt_then ?_
                        refine resr2 rfl (rv_cellA (cs := [_, _, _, _, _, _, _, _, _, _, _, _, _]) RpcDec2_g27 RpcDec2_z27 rfl (by first | exact P3.whole | exact P6.whole | exact P9.whole | exact P10.whole)) (rv_tmp (v := .int _ _) rfl) ?_
                        first
                          | exact ⟨.inr ⟨fun ss2 es2 hg => (by have h1 := hg.2.2.1; rw [← hm, hg30] at h1; cases h1; exact hno38 _ hg.2.2.2.1), rfl⟩, (((((((From.rfl_.next E2).next D16).next E30).next E38).next E7).only O7 (hg7)).only O9 (hg2))⟩
                          | exact ⟨.inr ⟨fun ss2 es2 hg => (by have h1 := hg.2.2.1; rw [← hm, hg30] at h1; cases h1; obtain rfl := entsS_uniq hgs hg.2.2.2.1; exact hno hg.2.2.2.2), rfl⟩, (((((((From.rfl_.next E2).next D16).next E30).next E38).next E7).only O7 (hg7)).only O9 (hg2))⟩
                   · (try first | replace Q25 := bn_t Q25 | replace Q25 := bn_f Q25)
                     (try first | replace Q25 := bx_t Q25 | replace Q25 := bx_f Q25 | replace Q25 := be_t Q25 | replace Q25 := be_f Q25 | replace Q25 := of_decide_eq_true Q25 | replace Q25 := of_decide_eq_false Q25)
                     first
                      | (exfalso; first | omega | contradiction | (cases Q25; done))
                      | skip
                        refine st_unguard rfl ?_
                        refine st_val (ro_loadA (cs := [_, _, _, _, _, _, _, _, _, _, _, _, _]) RpcDec2_g27 RpcDec2_z27 rfl (by exact P7.whole)) ?_
                        refine st_unguard rfl ?_
                        refine st_call RpcDec2_k13 (check_r (nv (sAt ss 0) : Nat) (nv (sAt ss 1) : Nat) (nv (sAt ss 2) : Nat) (nv (sAt ss 3) : Nat) (nv (sAt ss 4) : Nat) (nv (sAt ss 5) : Nat) (nv (sAt ss 6) : Nat) (nv (sAt ss 7) : Nat) (((nv (sAt ss 9) : Nat) : Int) == 1) A38 _ c38 (nv (sAt ss 8) : Nat) (sAt ss 11) (((nv (sAt ss 10) : Nat) : Int) == 1) _ es rfl (Ents.of_own he38 rfl) (by have := entsS_len hgs.2.2.2.2; rw [List.length_drop] at this; omega)) ?_
                        rintro v45 w27 ⟨rfl, E45⟩
                        refine st_unguard rfl ?_
                        refine st_val (ro_neq rfl rfl) ?_
                        refine st_val (ro_pickF (v := .bool _) rfl rfl) ?_
                        refine st_nil ?_
                        refine nx_then ?_
                        refine cd_cond rfl (fun Q28 => ?_) (fun Q28 => ?_)
                        · (try first | replace Q28 := bn_t Q28 | replace Q28 := bn_f Q28)
                          (try first | replace Q28 := bx_t Q28 | replace Q28 := bx_f Q28 | replace Q28 := be_t Q28 | replace Q28 := be_f Q28 | replace Q28 := of_decide_eq_true Q28 | replace Q28 := of_decide_eq_false Q28)
                          try (have hno : ¬ OkS ss es := fun h => by (have h2 := Q28; rw [if_pos (show OkR (nv (sAt ss 0) : Nat) (nv (sAt ss 1) : Nat) (nv (sAt ss 2) : Nat) (nv (sAt ss 3) : Nat) (nv (sAt ss 4) : Nat) (nv (sAt ss 5) : Nat) (nv (sAt ss 6) : Nat) (nv (sAt ss 7) : Nat) (((nv (sAt ss 9) : Nat) : Int) == 1) es (nv (sAt ss 8) : Nat) (sAt ss 11) (((nv (sAt ss 10) : Nat) : Int) == 1) from h)] at h2; simp at h2))
                          first
                           | (exfalso; first | omega | contradiction | (cases Q28; done))
                           | skip
                             refine cd_seq ?_
                             refine cd_region ?_
                             refine st_val (ro_build (l := []) (RpcDec2_b27_)) ?_
                             refine st_putW (vs := [_, _, _, _, _, _, _, _, _, _, _, _, _]) RpcDec2_z27 rfl rfl (by simp [Value.oneCell']) ((hk2.from_ (From.rfl_.next E45))) rfl ?_
                             intro w29 O9 P9
                             refine st_val (ro_assign (v := .int _ _) rfl) ?_
                             refine st_nil ?_
                             refine nx_then ?_
                             refine cd_ret ?_
                             refine rt_then ?_
                             refine resr2 rfl (rv_cellA (cs := [_, _, _, _, _, _, _, _, _, _, _, _, _]) RpcDec2_g27 RpcDec2_z27 rfl (by first | exact P3.whole | exact P6.whole | exact P9.whole | exact P10.whole)) (rv_tmp (v := .int _ _) rfl) ?_
                             first
                               | exact ⟨.inr ⟨fun ss2 es2 hg => (by have h1 := hg.2.2.1; rw [← hm, hg30] at h1; cases h1; exact hno38 _ hg.2.2.2.1), rfl⟩, ((((((((From.rfl_.next E2).next D16).next E30).next E38).next E7).only O7 (hg7)).next E45).only O9 (hg2))⟩
                               | exact ⟨.inr ⟨fun ss2 es2 hg => (by have h1 := hg.2.2.1; rw [← hm, hg30] at h1; cases h1; obtain rfl := entsS_uniq hgs hg.2.2.2.1; exact hno hg.2.2.2.2), rfl⟩, ((((((((From.rfl_.next E2).next D16).next E30).next E38).next E7).only O7 (hg7)).next E45).only O9 (hg2))⟩
                        · (try first | replace Q28 := bn_t Q28 | replace Q28 := bn_f Q28)
                          (try first | replace Q28 := bx_t Q28 | replace Q28 := bx_f Q28 | replace Q28 := be_t Q28 | replace Q28 := be_f Q28 | replace Q28 := of_decide_eq_true Q28 | replace Q28 := of_decide_eq_false Q28)
                          have hyes : OkS ss es := Classical.byContradiction fun h => by (have h2 := Q28; rw [if_neg (show ¬ OkR (nv (sAt ss 0) : Nat) (nv (sAt ss 1) : Nat) (nv (sAt ss 2) : Nat) (nv (sAt ss 3) : Nat) (nv (sAt ss 4) : Nat) (nv (sAt ss 5) : Nat) (nv (sAt ss 6) : Nat) (nv (sAt ss 7) : Nat) (((nv (sAt ss 9) : Nat) : Int) == 1) es (nv (sAt ss 8) : Nat) (sAt ss 11) (((nv (sAt ss 10) : Nat) : Int) == 1) from h)] at h2; simp at h2)
                          first
                           | (exfalso; first | omega | contradiction | (cases Q28; done))
                           | skip
                             refine cd_skip ?_
                             refine nx_then ?_
                             refine cd_seq ?_
                             refine cd_region ?_
                             refine st_val (ro_loadA (cs := [_, _, _, _, _, _, _, _, _, _, _, _, _]) RpcDec2_g27 RpcDec2_z27 rfl (by exact (P7.from_ (From.rfl_.next E45)).whole)) ?_
                             refine st_putW (vs := [_, _, _, _, _, _, _, _, _, _, _, _, _]) RpcDec2_z27 rfl rfl (by simp [Value.oneCell']) ((hk2.from_ (From.rfl_.next E45))) rfl ?_
                             intro w30 O10 P10
                             refine st_val (ro_assign (v := .int _ _) rfl) ?_
                             refine st_nil ?_
                             refine nx_then ?_
                             refine cd_ret ?_
                             refine resr2 rfl (rv_cellA (cs := [_, _, _, _, _, _, _, _, _, _, _, _, _]) RpcDec2_g27 RpcDec2_z27 rfl (by first | exact P3.whole | exact P6.whole | exact P9.whole | exact P10.whole)) (rv_tmp (v := .int _ _) rfl) ?_
                             exact ⟨.inl ⟨ss, es, ⟨by omega, by rw [← hm]; assumption, by rw [← hm]; exact hg30, hgs, hyes⟩, A38, c38, rfl, own_only3 (he38.kept_from E45) O10 (own_off (he38.kept_from E45) (hk2.from_ E45) (by decide))⟩, ((((((((From.rfl_.next E2).next D16).next E30).next E38).next E7).only O7 (hg7)).next E45).only O10 (hg2))⟩
                 · refine st_val (ro_move (v := .tuple _) rfl) ?_
                   refine st_val (ro_extract rfl rfl) ?_
                   refine st_val (ro_extract rfl rfl) ?_
                   have hlt7 := (hk2.from_ (((From.rfl_.next D16).next E30).next E38)).lt
                   refine st_alloc RpcDec2_o27 ?_
                   intro b7 w31 E7 hb7 hk7
                   have hg7 : w.heap.size ≤ b7 := by rw [hb7]; exact (((((From.rfl_.next E2).next D16).next E30).next E38)).size
                   replace hk2 := hk2.from_ ((((From.rfl_.next D16).next E30).next E38).next E7)
                   have h27 : b2 < b7 := by omega
                   try replace he38 := he38.kept_from E7
                   refine st_putW (vs := [_, _, _, _, _, _, _, _, _, _, _, _, _]) RpcDec2_z27 rfl rfl (by simp [Value.oneCell']) (hk7) rfl ?_
                   intro w32 O7 P7
                   replace hk2 := hk2.only O7 (by omega)
                   try replace he38 := own_only3 he38 O7 (own_off he38 hk7 (by decide))
                   refine st_val (ro_assign (v := .bool _) rfl) ?_
                   refine st_nil ?_
                   refine nx_then ?_
                   refine cd_seq ?_
                   refine cd_seq ?_
                   refine cd_region ?_
                   refine st_val (ro_move (v := .bool _) rfl) ?_
                   refine st_val (ro_not rfl) ?_
                   refine st_val (ro_move (v := .bool _) rfl) ?_
                   refine st_split (t := 43) rfl (fun Q33 => ?_) (fun Q33 => ?_)
                   · (try first | replace Q33 := bn_t Q33 | replace Q33 := bn_f Q33)
                     (try first | replace Q33 := bx_t Q33 | replace Q33 := bx_f Q33 | replace Q33 := be_t Q33 | replace Q33 := be_f Q33 | replace Q33 := of_decide_eq_true Q33 | replace Q33 := of_decide_eq_false Q33)
                     first
                      | (exfalso; first | omega | contradiction | (cases Q33; done))
                      | skip
                        refine st_gno rfl rfl ?_
                        refine st_gno rfl rfl ?_
                        refine st_gno rfl rfl ?_
                        refine st_val (ro_pickT (v := .bool _) rfl rfl) ?_
                        refine st_nil ?_
                        refine nx_then ?_
                        refine cd_condT rfl ?_
                        refine cd_seq ?_
                        refine cd_region ?_
                        refine st_val (ro_build (l := []) (RpcDec2_b27_)) ?_
                        refine st_putW (vs := [_, _, _, _, _, _, _, _, _, _, _, _, _]) RpcDec2_z27 rfl rfl (by simp [Value.oneCell']) ((hk2.from_ From.rfl_)) rfl ?_
                        intro w34 O9 P9
                        refine st_val (ro_assign (v := .int _ _) rfl) ?_
                        refine st_nil ?_
                        refine nx_then ?_
                        refine cd_ret ?_
                        refine rt_then ?_
                        refine resr2 rfl (rv_cellA (cs := [_, _, _, _, _, _, _, _, _, _, _, _, _]) RpcDec2_g27 RpcDec2_z27 rfl (by first | exact P3.whole | exact P6.whole | exact P9.whole | exact P10.whole)) (rv_tmp (v := .int _ _) rfl) ?_
                        first
                          | exact ⟨.inr ⟨fun ss2 es2 hg => (by have h1 := hg.2.2.1; rw [← hm, hg30] at h1; cases h1; exact hno38 _ hg.2.2.2.1), rfl⟩, (((((((From.rfl_.next E2).next D16).next E30).next E38).next E7).only O7 (hg7)).only O9 (hg2))⟩
                          | exact ⟨.inr ⟨fun ss2 es2 hg => (by have h1 := hg.2.2.1; rw [← hm, hg30] at h1; cases h1; obtain rfl := entsS_uniq hgs hg.2.2.2.1; exact hno hg.2.2.2.2), rfl⟩, (((((((From.rfl_.next E2).next D16).next E30).next E38).next E7).only O7 (hg7)).only O9 (hg2))⟩
                   · (try first | replace Q33 := bn_t Q33 | replace Q33 := bn_f Q33)
                     (try first | replace Q33 := bx_t Q33 | replace Q33 := bx_f Q33 | replace Q33 := be_t Q33 | replace Q33 := be_f Q33 | replace Q33 := of_decide_eq_true Q33 | replace Q33 := of_decide_eq_false Q33)
                     first
                      | (exfalso; first | omega | contradiction | (cases Q33; done))
                      | skip
                        refine st_unguard rfl ?_
                        refine st_val (ro_loadA (cs := [_, _, _, _, _, _, _, _, _, _, _, _, _]) RpcDec2_g27 RpcDec2_z27 rfl (by exact P7.whole)) ?_
                        refine st_unguard rfl ?_
                        refine st_call RpcDec2_k13 (check_r (nv (sAt ss 0) : Nat) (nv (sAt ss 1) : Nat) (nv (sAt ss 2) : Nat) (nv (sAt ss 3) : Nat) (nv (sAt ss 4) : Nat) (nv (sAt ss 5) : Nat) (nv (sAt ss 6) : Nat) (nv (sAt ss 7) : Nat) (((nv (sAt ss 9) : Nat) : Int) == 1) A38 _ c38 (nv (sAt ss 8) : Nat) (sAt ss 11) (((nv (sAt ss 10) : Nat) : Int) == 1) _ es rfl (Ents.of_own he38 rfl) (by have := entsS_len hgs.2.2.2.2; rw [List.length_drop] at this; omega)) ?_
                        rintro v45 w35 ⟨rfl, E45⟩
                        refine st_unguard rfl ?_
                        refine st_val (ro_neq rfl rfl) ?_
                        refine st_val (ro_pickF (v := .bool _) rfl rfl) ?_
                        refine st_nil ?_
                        refine nx_then ?_
                        refine cd_cond rfl (fun Q36 => ?_) (fun Q36 => ?_)
                        · (try first | replace Q36 := bn_t Q36 | replace Q36 := bn_f Q36)
                          (try first | replace Q36 := bx_t Q36 | replace Q36 := bx_f Q36 | replace Q36 := be_t Q36 | replace Q36 := be_f Q36 | replace Q36 := of_decide_eq_true Q36 | replace Q36 := of_decide_eq_false Q36)
                          try (have hno : ¬ OkS ss es := fun h => by (have h2 := Q36; rw [if_pos (show OkR (nv (sAt ss 0) : Nat) (nv (sAt ss 1) : Nat) (nv (sAt ss 2) : Nat) (nv (sAt ss 3) : Nat) (nv (sAt ss 4) : Nat) (nv (sAt ss 5) : Nat) (nv (sAt ss 6) : Nat) (nv (sAt ss 7) : Nat) (((nv (sAt ss 9) : Nat) : Int) == 1) es (nv (sAt ss 8) : Nat) (sAt ss 11) (((nv (sAt ss 10) : Nat) : Int) == 1) from h)] at h2; simp at h2))
                          first
                           | (exfalso; first | omega | contradiction | (cases Q36; done))
                           | skip
                             refine cd_seq ?_
                             refine cd_region ?_
                             refine st_val (ro_build (l := []) (RpcDec2_b27_)) ?_
                             refine st_putW (vs := [_, _, _, _, _, _, _, _, _, _, _, _, _]) RpcDec2_z27 rfl rfl (by simp [Value.oneCell']) ((hk2.from_ (From.rfl_.next E45))) rfl ?_
                             intro w37 O9 P9
                             refine st_val (ro_assign (v := .int _ _) rfl) ?_
                             refine st_nil ?_
                             refine nx_then ?_
                             refine cd_ret ?_
                             refine rt_then ?_
                             refine resr2 rfl (rv_cellA (cs := [_, _, _, _, _, _, _, _, _, _, _, _, _]) RpcDec2_g27 RpcDec2_z27 rfl (by first | exact P3.whole | exact P6.whole | exact P9.whole | exact P10.whole)) (rv_tmp (v := .int _ _) rfl) ?_
                             first
                               | exact ⟨.inr ⟨fun ss2 es2 hg => (by have h1 := hg.2.2.1; rw [← hm, hg30] at h1; cases h1; exact hno38 _ hg.2.2.2.1), rfl⟩, ((((((((From.rfl_.next E2).next D16).next E30).next E38).next E7).only O7 (hg7)).next E45).only O9 (hg2))⟩
                               | exact ⟨.inr ⟨fun ss2 es2 hg => (by have h1 := hg.2.2.1; rw [← hm, hg30] at h1; cases h1; obtain rfl := entsS_uniq hgs hg.2.2.2.1; exact hno hg.2.2.2.2), rfl⟩, ((((((((From.rfl_.next E2).next D16).next E30).next E38).next E7).only O7 (hg7)).next E45).only O9 (hg2))⟩
                        · (try first | replace Q36 := bn_t Q36 | replace Q36 := bn_f Q36)
                          (try first | replace Q36 := bx_t Q36 | replace Q36 := bx_f Q36 | replace Q36 := be_t Q36 | replace Q36 := be_f Q36 | replace Q36 := of_decide_eq_true Q36 | replace Q36 := of_decide_eq_false Q36)
                          have hyes : OkS ss es := Classical.byContradiction fun h => by (have h2 := Q36; rw [if_neg (show ¬ OkR (nv (sAt ss 0) : Nat) (nv (sAt ss 1) : Nat) (nv (sAt ss 2) : Nat) (nv (sAt ss 3) : Nat) (nv (sAt ss 4) : Nat) (nv (sAt ss 5) : Nat) (nv (sAt ss 6) : Nat) (nv (sAt ss 7) : Nat) (((nv (sAt ss 9) : Nat) : Int) == 1) es (nv (sAt ss 8) : Nat) (sAt ss 11) (((nv (sAt ss 10) : Nat) : Int) == 1) from h)] at h2; simp at h2)
                          first
                           | (exfalso; first | omega | contradiction | (cases Q36; done))
                           | skip
                             refine cd_skip ?_
                             refine nx_then ?_
                             refine cd_seq ?_
                             refine cd_region ?_
                             refine st_val (ro_loadA (cs := [_, _, _, _, _, _, _, _, _, _, _, _, _]) RpcDec2_g27 RpcDec2_z27 rfl (by exact (P7.from_ (From.rfl_.next E45)).whole)) ?_
                             refine st_putW (vs := [_, _, _, _, _, _, _, _, _, _, _, _, _]) RpcDec2_z27 rfl rfl (by simp [Value.oneCell']) ((hk2.from_ (From.rfl_.next E45))) rfl ?_
                             intro w38 O10 P10
                             refine st_val (ro_assign (v := .int _ _) rfl) ?_
                             refine st_nil ?_
                             refine nx_then ?_
                             refine cd_ret ?_
                             refine resr2 rfl (rv_cellA (cs := [_, _, _, _, _, _, _, _, _, _, _, _, _]) RpcDec2_g27 RpcDec2_z27 rfl (by first | exact P3.whole | exact P6.whole | exact P9.whole | exact P10.whole)) (rv_tmp (v := .int _ _) rfl) ?_
                             exact ⟨.inl ⟨ss, es, ⟨by omega, by rw [← hm]; assumption, by rw [← hm]; exact hg30, hgs, hyes⟩, A38, c38, rfl, own_only3 (he38.kept_from E45) O10 (own_off (he38.kept_from E45) (hk2.from_ E45) (by decide))⟩, ((((((((From.rfl_.next E2).next D16).next E30).next E38).next E7).only O7 (hg7)).next E45).only O10 (hg2))⟩
          · obtain ⟨hsz, hsl⟩ := getB_sizes hbT hg30
            have hrs := RowC.of_own hos
            have hsc : ss.length ≤ c30 := by
              obtain ⟨A2, c2, hv, hc2, _⟩ := hrs.2
              simp only [Value.slice.injEq] at hv
              simp only [List.length_map] at hc2
              omega
            refine st_val (ro_move (v := .tuple _) rfl) ?_
            refine st_val (ro_extract rfl rfl) ?_
            refine st_val (ro_extract rfl rfl) ?_
            refine st_val (ro_assign (v := .slice _ _ _) rfl) ?_
            refine st_val (ro_assign (v := .int _ _) rfl) ?_
            refine st_nil ?_
            refine nx_then ?_
            refine cd_seq ?_
            refine cd_seq ?_
            refine cd_region ?_
            refine st_val (ro_move (v := .int _ _) rfl) ?_
            refine st_val (ro_neq rfl rfl) ?_
            refine st_nil ?_
            refine nx_then ?_
            refine cd_cond rfl (fun Q39 => ?_) (fun Q39 => ?_)
            · (try first | replace Q39 := bn_t Q39 | replace Q39 := bn_f Q39)
              (try first | replace Q39 := bx_t Q39 | replace Q39 := bx_f Q39 | replace Q39 := be_t Q39 | replace Q39 := be_f Q39 | replace Q39 := of_decide_eq_true Q39 | replace Q39 := of_decide_eq_false Q39)
              first
               | (exfalso; first | omega | contradiction | (cases Q39; done))
               | skip
                 refine cd_seq ?_
                 refine cd_region ?_
                 refine st_val (ro_build (l := []) (RpcDec2_b27_)) ?_
                 refine st_putW (vs := [_, _, _, _, _, _, _, _, _, _, _, _, _]) RpcDec2_z27 rfl rfl (by simp [Value.oneCell']) ((hk2.from_ ((From.rfl_.next D16).next E30))) rfl ?_
                 intro w40 O6 P6
                 refine st_val (ro_assign (v := .int _ _) rfl) ?_
                 refine st_nil ?_
                 refine nx_then ?_
                 refine cd_ret ?_
                 refine rt_then ?_
                 refine resr2 rfl (rv_cellA (cs := [_, _, _, _, _, _, _, _, _, _, _, _, _]) RpcDec2_g27 RpcDec2_z27 rfl (by first | exact P3.whole | exact P6.whole | exact P9.whole | exact P10.whole)) (rv_tmp (v := .int _ _) rfl) ?_
                 exact ⟨.inr ⟨fun ss2 es2 hg => (by have h1 := hg.2.2.1; rw [← hm, hg30] at h1; cases h1), rfl⟩, ((((From.rfl_.next E2).next D16).next E30).only O6 (hg2))⟩
            · (try first | replace Q39 := bn_t Q39 | replace Q39 := bn_f Q39)
              (try first | replace Q39 := bx_t Q39 | replace Q39 := bx_f Q39 | replace Q39 := be_t Q39 | replace Q39 := be_f Q39 | replace Q39 := of_decide_eq_true Q39 | replace Q39 := of_decide_eq_false Q39)
              first
               | (exfalso; first | omega | contradiction | (cases Q39; done))
               | skip
                 refine cd_skip ?_
                 refine nx_then ?_
                 refine cd_seq ?_
                 refine cd_region ?_
                 refine st_val (ro_move (v := .slice _ _ _) rfl) ?_
                 have hB38 := ((((From.rfl_.next E2).next D16).next E30)).size
                 refine st_call RpcDec2_k18 (message_r A30 c30 _ ss _ rfl hsc ((RowOf.of_row (f := Value.string) hrs.1).2.from_ From.rfl_) (fun s h => by have := hsz s h; omega) (by omega)) ?_
                 rintro v38 w41 ⟨hn38, E38⟩
                 rcases hn38 with ⟨es, hgs, A38, c38, rfl, he38⟩ | ⟨hno38, rfl⟩
                 · replace he38 := own_le he38 hB38
                   refine st_val (ro_move (v := .tuple _) rfl) ?_
                   refine st_val (ro_extract rfl rfl) ?_
                   refine st_val (ro_extract rfl rfl) ?_
                   have hlt7 := (hk2.from_ (((From.rfl_.next D16).next E30).next E38)).lt
                   refine st_alloc RpcDec2_o27 ?_
                   intro b7 w42 E7 hb7 hk7
                   have hg7 : w.heap.size ≤ b7 := by rw [hb7]; exact (((((From.rfl_.next E2).next D16).next E30).next E38)).size
                   replace hk2 := hk2.from_ ((((From.rfl_.next D16).next E30).next E38).next E7)
                   have h27 : b2 < b7 := by omega
                   try replace he38 := he38.kept_from E7
                   refine st_putW (vs := [_, _, _, _, _, _, _, _, _, _, _, _, _]) RpcDec2_z27 rfl rfl (by simp [Value.oneCell']) (hk7) rfl ?_
                   intro w43 O7 P7
                   replace hk2 := hk2.only O7 (by omega)
                   try replace he38 := own_only3 he38 O7 (own_off he38 hk7 (by decide))
                   refine st_val (ro_assign (v := .bool _) rfl) ?_
                   refine st_nil ?_
                   refine nx_then ?_
                   refine cd_seq ?_
                   refine cd_seq ?_
                   refine cd_region ?_
                   refine st_val (ro_move (v := .bool _) rfl) ?_
                   refine st_val (ro_not rfl) ?_
                   refine st_val (ro_move (v := .bool _) rfl) ?_
                   refine st_split (t := 43) rfl (fun Q44 => ?_) (fun Q44 => ?_)
                   · (try first | replace Q44 := bn_t Q44 | replace Q44 := bn_f Q44)
                     (try first | replace Q44 := bx_t Q44 | replace Q44 := bx_f Q44 | replace Q44 := be_t Q44 | replace Q44 := be_f Q44 | replace Q44 := of_decide_eq_true Q44 | replace Q44 := of_decide_eq_false Q44)
                     first
                      | (exfalso; first | omega | contradiction | (cases Q44; done))
                      | skip
                        refine st_gno rfl rfl ?_
                        refine st_gno rfl rfl ?_
                        refine st_gno rfl rfl ?_
                        refine st_val (ro_pickT (v := .bool _) rfl rfl) ?_
                        refine st_nil ?_
                        refine nx_then ?_
                        refine cd_condT rfl ?_
                        refine cd_seq ?_
                        refine cd_region ?_
                        refine st_val (ro_build (l := []) (RpcDec2_b27_)) ?_
                        refine st_putW (vs := [_, _, _, _, _, _, _, _, _, _, _, _, _]) RpcDec2_z27 rfl rfl (by simp [Value.oneCell']) ((hk2.from_ From.rfl_)) rfl ?_
                        intro w45 O9 P9
                        refine st_val (ro_assign (v := .int _ _) rfl) ?_
                        refine st_nil ?_
                        refine nx_then ?_
                        refine cd_ret ?_
                        refine rt_then ?_
                        refine resr2 rfl (rv_cellA (cs := [_, _, _, _, _, _, _, _, _, _, _, _, _]) RpcDec2_g27 RpcDec2_z27 rfl (by first | exact P3.whole | exact P6.whole | exact P9.whole | exact P10.whole)) (rv_tmp (v := .int _ _) rfl) ?_
                        first
                          | exact ⟨.inr ⟨fun ss2 es2 hg => (by have h1 := hg.2.2.1; rw [← hm, hg30] at h1; cases h1; exact hno38 _ hg.2.2.2.1), rfl⟩, (((((((From.rfl_.next E2).next D16).next E30).next E38).next E7).only O7 (hg7)).only O9 (hg2))⟩
                          | exact ⟨.inr ⟨fun ss2 es2 hg => (by have h1 := hg.2.2.1; rw [← hm, hg30] at h1; cases h1; obtain rfl := entsS_uniq hgs hg.2.2.2.1; exact hno hg.2.2.2.2), rfl⟩, (((((((From.rfl_.next E2).next D16).next E30).next E38).next E7).only O7 (hg7)).only O9 (hg2))⟩
                   · (try first | replace Q44 := bn_t Q44 | replace Q44 := bn_f Q44)
                     (try first | replace Q44 := bx_t Q44 | replace Q44 := bx_f Q44 | replace Q44 := be_t Q44 | replace Q44 := be_f Q44 | replace Q44 := of_decide_eq_true Q44 | replace Q44 := of_decide_eq_false Q44)
                     first
                      | (exfalso; first | omega | contradiction | (cases Q44; done))
                      | skip
                        refine st_unguard rfl ?_
                        refine st_val (ro_loadA (cs := [_, _, _, _, _, _, _, _, _, _, _, _, _]) RpcDec2_g27 RpcDec2_z27 rfl (by exact P7.whole)) ?_
                        refine st_unguard rfl ?_
                        refine st_call RpcDec2_k13 (check_r (nv (sAt ss 0) : Nat) (nv (sAt ss 1) : Nat) (nv (sAt ss 2) : Nat) (nv (sAt ss 3) : Nat) (nv (sAt ss 4) : Nat) (nv (sAt ss 5) : Nat) (nv (sAt ss 6) : Nat) (nv (sAt ss 7) : Nat) (((nv (sAt ss 9) : Nat) : Int) == 1) A38 _ c38 (nv (sAt ss 8) : Nat) (sAt ss 11) (((nv (sAt ss 10) : Nat) : Int) == 1) _ es rfl (Ents.of_own he38 rfl) (by have := entsS_len hgs.2.2.2.2; rw [List.length_drop] at this; omega)) ?_
                        rintro v45 w46 ⟨rfl, E45⟩
                        refine st_unguard rfl ?_
                        refine st_val (ro_neq rfl rfl) ?_
                        refine st_val (ro_pickF (v := .bool _) rfl rfl) ?_
                        refine st_nil ?_
                        refine nx_then ?_
                        refine cd_cond rfl (fun Q47 => ?_) (fun Q47 => ?_)
                        · (try first | replace Q47 := bn_t Q47 | replace Q47 := bn_f Q47)
                          (try first | replace Q47 := bx_t Q47 | replace Q47 := bx_f Q47 | replace Q47 := be_t Q47 | replace Q47 := be_f Q47 | replace Q47 := of_decide_eq_true Q47 | replace Q47 := of_decide_eq_false Q47)
                          try (have hno : ¬ OkS ss es := fun h => by (have h2 := Q47; rw [if_pos (show OkR (nv (sAt ss 0) : Nat) (nv (sAt ss 1) : Nat) (nv (sAt ss 2) : Nat) (nv (sAt ss 3) : Nat) (nv (sAt ss 4) : Nat) (nv (sAt ss 5) : Nat) (nv (sAt ss 6) : Nat) (nv (sAt ss 7) : Nat) (((nv (sAt ss 9) : Nat) : Int) == 1) es (nv (sAt ss 8) : Nat) (sAt ss 11) (((nv (sAt ss 10) : Nat) : Int) == 1) from h)] at h2; simp at h2))
                          first
                           | (exfalso; first | omega | contradiction | (cases Q47; done))
                           | skip
                             refine cd_seq ?_
                             refine cd_region ?_
                             refine st_val (ro_build (l := []) (RpcDec2_b27_)) ?_
                             refine st_putW (vs := [_, _, _, _, _, _, _, _, _, _, _, _, _]) RpcDec2_z27 rfl rfl (by simp [Value.oneCell']) ((hk2.from_ (From.rfl_.next E45))) rfl ?_
                             intro w48 O9 P9
                             refine st_val (ro_assign (v := .int _ _) rfl) ?_
                             refine st_nil ?_
                             refine nx_then ?_
                             refine cd_ret ?_
                             refine rt_then ?_
                             refine resr2 rfl (rv_cellA (cs := [_, _, _, _, _, _, _, _, _, _, _, _, _]) RpcDec2_g27 RpcDec2_z27 rfl (by first | exact P3.whole | exact P6.whole | exact P9.whole | exact P10.whole)) (rv_tmp (v := .int _ _) rfl) ?_
                             first
                               | exact ⟨.inr ⟨fun ss2 es2 hg => (by have h1 := hg.2.2.1; rw [← hm, hg30] at h1; cases h1; exact hno38 _ hg.2.2.2.1), rfl⟩, ((((((((From.rfl_.next E2).next D16).next E30).next E38).next E7).only O7 (hg7)).next E45).only O9 (hg2))⟩
                               | exact ⟨.inr ⟨fun ss2 es2 hg => (by have h1 := hg.2.2.1; rw [← hm, hg30] at h1; cases h1; obtain rfl := entsS_uniq hgs hg.2.2.2.1; exact hno hg.2.2.2.2), rfl⟩, ((((((((From.rfl_.next E2).next D16).next E30).next E38).next E7).only O7 (hg7)).next E45).only O9 (hg2))⟩
                        · (try first | replace Q47 := bn_t Q47 | replace Q47 := bn_f Q47)
                          (try first | replace Q47 := bx_t Q47 | replace Q47 := bx_f Q47 | replace Q47 := be_t Q47 | replace Q47 := be_f Q47 | replace Q47 := of_decide_eq_true Q47 | replace Q47 := of_decide_eq_false Q47)
                          have hyes : OkS ss es := Classical.byContradiction fun h => by (have h2 := Q47; rw [if_neg (show ¬ OkR (nv (sAt ss 0) : Nat) (nv (sAt ss 1) : Nat) (nv (sAt ss 2) : Nat) (nv (sAt ss 3) : Nat) (nv (sAt ss 4) : Nat) (nv (sAt ss 5) : Nat) (nv (sAt ss 6) : Nat) (nv (sAt ss 7) : Nat) (((nv (sAt ss 9) : Nat) : Int) == 1) es (nv (sAt ss 8) : Nat) (sAt ss 11) (((nv (sAt ss 10) : Nat) : Int) == 1) from h)] at h2; simp at h2)
                          first
                           | (exfalso; first | omega | contradiction | (cases Q47; done))
                           | skip
                             refine cd_skip ?_
                             refine nx_then ?_
                             refine cd_seq ?_
                             refine cd_region ?_
                             refine st_val (ro_loadA (cs := [_, _, _, _, _, _, _, _, _, _, _, _, _]) RpcDec2_g27 RpcDec2_z27 rfl (by exact (P7.from_ (From.rfl_.next E45)).whole)) ?_
                             refine st_putW (vs := [_, _, _, _, _, _, _, _, _, _, _, _, _]) RpcDec2_z27 rfl rfl (by simp [Value.oneCell']) ((hk2.from_ (From.rfl_.next E45))) rfl ?_
                             intro w49 O10 P10
                             refine st_val (ro_assign (v := .int _ _) rfl) ?_
                             refine st_nil ?_
                             refine nx_then ?_
                             refine cd_ret ?_
                             refine resr2 rfl (rv_cellA (cs := [_, _, _, _, _, _, _, _, _, _, _, _, _]) RpcDec2_g27 RpcDec2_z27 rfl (by first | exact P3.whole | exact P6.whole | exact P9.whole | exact P10.whole)) (rv_tmp (v := .int _ _) rfl) ?_
                             exact ⟨.inl ⟨ss, es, ⟨by omega, by rw [← hm]; assumption, by rw [← hm]; exact hg30, hgs, hyes⟩, A38, c38, rfl, own_only3 (he38.kept_from E45) O10 (own_off (he38.kept_from E45) (hk2.from_ E45) (by decide))⟩, ((((((((From.rfl_.next E2).next D16).next E30).next E38).next E7).only O7 (hg7)).next E45).only O10 (hg2))⟩
                 · refine st_val (ro_move (v := .tuple _) rfl) ?_
                   refine st_val (ro_extract rfl rfl) ?_
                   refine st_val (ro_extract rfl rfl) ?_
                   have hlt7 := (hk2.from_ (((From.rfl_.next D16).next E30).next E38)).lt
                   refine st_alloc RpcDec2_o27 ?_
                   intro b7 w50 E7 hb7 hk7
                   have hg7 : w.heap.size ≤ b7 := by rw [hb7]; exact (((((From.rfl_.next E2).next D16).next E30).next E38)).size
                   replace hk2 := hk2.from_ ((((From.rfl_.next D16).next E30).next E38).next E7)
                   have h27 : b2 < b7 := by omega
                   try replace he38 := he38.kept_from E7
                   refine st_putW (vs := [_, _, _, _, _, _, _, _, _, _, _, _, _]) RpcDec2_z27 rfl rfl (by simp [Value.oneCell']) (hk7) rfl ?_
                   intro w51 O7 P7
                   replace hk2 := hk2.only O7 (by omega)
                   try replace he38 := own_only3 he38 O7 (own_off he38 hk7 (by decide))
                   refine st_val (ro_assign (v := .bool _) rfl) ?_
                   refine st_nil ?_
                   refine nx_then ?_
                   refine cd_seq ?_
                   refine cd_seq ?_
                   refine cd_region ?_
                   refine st_val (ro_move (v := .bool _) rfl) ?_
                   refine st_val (ro_not rfl) ?_
                   refine st_val (ro_move (v := .bool _) rfl) ?_
                   refine st_split (t := 43) rfl (fun Q52 => ?_) (fun Q52 => ?_)
                   · (try first | replace Q52 := bn_t Q52 | replace Q52 := bn_f Q52)
                     (try first | replace Q52 := bx_t Q52 | replace Q52 := bx_f Q52 | replace Q52 := be_t Q52 | replace Q52 := be_f Q52 | replace Q52 := of_decide_eq_true Q52 | replace Q52 := of_decide_eq_false Q52)
                     first
                      | (exfalso; first | omega | contradiction | (cases Q52; done))
                      | skip
                        refine st_gno rfl rfl ?_
                        refine st_gno rfl rfl ?_
                        refine st_gno rfl rfl ?_
                        refine st_val (ro_pickT (v := .bool _) rfl rfl) ?_
                        refine st_nil ?_
                        refine nx_then ?_
                        refine cd_condT rfl ?_
                        refine cd_seq ?_
                        refine cd_region ?_
                        refine st_val (ro_build (l := []) (RpcDec2_b27_)) ?_
                        refine st_putW (vs := [_, _, _, _, _, _, _, _, _, _, _, _, _]) RpcDec2_z27 rfl rfl (by simp [Value.oneCell']) ((hk2.from_ From.rfl_)) rfl ?_
                        intro w53 O9 P9
                        refine st_val (ro_assign (v := .int _ _) rfl) ?_
                        refine st_nil ?_
                        refine nx_then ?_
                        refine cd_ret ?_
                        refine rt_then ?_
                        refine resr2 rfl (rv_cellA (cs := [_, _, _, _, _, _, _, _, _, _, _, _, _]) RpcDec2_g27 RpcDec2_z27 rfl (by first | exact P3.whole | exact P6.whole | exact P9.whole | exact P10.whole)) (rv_tmp (v := .int _ _) rfl) ?_
                        first
                          | exact ⟨.inr ⟨fun ss2 es2 hg => (by have h1 := hg.2.2.1; rw [← hm, hg30] at h1; cases h1; exact hno38 _ hg.2.2.2.1), rfl⟩, (((((((From.rfl_.next E2).next D16).next E30).next E38).next E7).only O7 (hg7)).only O9 (hg2))⟩
                          | exact ⟨.inr ⟨fun ss2 es2 hg => (by have h1 := hg.2.2.1; rw [← hm, hg30] at h1; cases h1; obtain rfl := entsS_uniq hgs hg.2.2.2.1; exact hno hg.2.2.2.2), rfl⟩, (((((((From.rfl_.next E2).next D16).next E30).next E38).next E7).only O7 (hg7)).only O9 (hg2))⟩
                   · (try first | replace Q52 := bn_t Q52 | replace Q52 := bn_f Q52)
                     (try first | replace Q52 := bx_t Q52 | replace Q52 := bx_f Q52 | replace Q52 := be_t Q52 | replace Q52 := be_f Q52 | replace Q52 := of_decide_eq_true Q52 | replace Q52 := of_decide_eq_false Q52)
                     first
                      | (exfalso; first | omega | contradiction | (cases Q52; done))
                      | skip
                        refine st_unguard rfl ?_
                        refine st_val (ro_loadA (cs := [_, _, _, _, _, _, _, _, _, _, _, _, _]) RpcDec2_g27 RpcDec2_z27 rfl (by exact P7.whole)) ?_
                        refine st_unguard rfl ?_
                        refine st_call RpcDec2_k13 (check_r (nv (sAt ss 0) : Nat) (nv (sAt ss 1) : Nat) (nv (sAt ss 2) : Nat) (nv (sAt ss 3) : Nat) (nv (sAt ss 4) : Nat) (nv (sAt ss 5) : Nat) (nv (sAt ss 6) : Nat) (nv (sAt ss 7) : Nat) (((nv (sAt ss 9) : Nat) : Int) == 1) A38 _ c38 (nv (sAt ss 8) : Nat) (sAt ss 11) (((nv (sAt ss 10) : Nat) : Int) == 1) _ es rfl (Ents.of_own he38 rfl) (by have := entsS_len hgs.2.2.2.2; rw [List.length_drop] at this; omega)) ?_
                        rintro v45 w54 ⟨rfl, E45⟩
                        refine st_unguard rfl ?_
                        refine st_val (ro_neq rfl rfl) ?_
                        refine st_val (ro_pickF (v := .bool _) rfl rfl) ?_
                        refine st_nil ?_
                        refine nx_then ?_
                        refine cd_cond rfl (fun Q55 => ?_) (fun Q55 => ?_)
                        · (try first | replace Q55 := bn_t Q55 | replace Q55 := bn_f Q55)
                          (try first | replace Q55 := bx_t Q55 | replace Q55 := bx_f Q55 | replace Q55 := be_t Q55 | replace Q55 := be_f Q55 | replace Q55 := of_decide_eq_true Q55 | replace Q55 := of_decide_eq_false Q55)
                          try (have hno : ¬ OkS ss es := fun h => by (have h2 := Q55; rw [if_pos (show OkR (nv (sAt ss 0) : Nat) (nv (sAt ss 1) : Nat) (nv (sAt ss 2) : Nat) (nv (sAt ss 3) : Nat) (nv (sAt ss 4) : Nat) (nv (sAt ss 5) : Nat) (nv (sAt ss 6) : Nat) (nv (sAt ss 7) : Nat) (((nv (sAt ss 9) : Nat) : Int) == 1) es (nv (sAt ss 8) : Nat) (sAt ss 11) (((nv (sAt ss 10) : Nat) : Int) == 1) from h)] at h2; simp at h2))
                          first
                           | (exfalso; first | omega | contradiction | (cases Q55; done))
                           | skip
                             refine cd_seq ?_
                             refine cd_region ?_
                             refine st_val (ro_build (l := []) (RpcDec2_b27_)) ?_
                             refine st_putW (vs := [_, _, _, _, _, _, _, _, _, _, _, _, _]) RpcDec2_z27 rfl rfl (by simp [Value.oneCell']) ((hk2.from_ (From.rfl_.next E45))) rfl ?_
                             intro w56 O9 P9
                             refine st_val (ro_assign (v := .int _ _) rfl) ?_
                             refine st_nil ?_
                             refine nx_then ?_
                             refine cd_ret ?_
                             refine rt_then ?_
                             refine resr2 rfl (rv_cellA (cs := [_, _, _, _, _, _, _, _, _, _, _, _, _]) RpcDec2_g27 RpcDec2_z27 rfl (by first | exact P3.whole | exact P6.whole | exact P9.whole | exact P10.whole)) (rv_tmp (v := .int _ _) rfl) ?_
                             first
                               | exact ⟨.inr ⟨fun ss2 es2 hg => (by have h1 := hg.2.2.1; rw [← hm, hg30] at h1; cases h1; exact hno38 _ hg.2.2.2.1), rfl⟩, ((((((((From.rfl_.next E2).next D16).next E30).next E38).next E7).only O7 (hg7)).next E45).only O9 (hg2))⟩
                               | exact ⟨.inr ⟨fun ss2 es2 hg => (by have h1 := hg.2.2.1; rw [← hm, hg30] at h1; cases h1; obtain rfl := entsS_uniq hgs hg.2.2.2.1; exact hno hg.2.2.2.2), rfl⟩, ((((((((From.rfl_.next E2).next D16).next E30).next E38).next E7).only O7 (hg7)).next E45).only O9 (hg2))⟩
                        · (try first | replace Q55 := bn_t Q55 | replace Q55 := bn_f Q55)
                          (try first | replace Q55 := bx_t Q55 | replace Q55 := bx_f Q55 | replace Q55 := be_t Q55 | replace Q55 := be_f Q55 | replace Q55 := of_decide_eq_true Q55 | replace Q55 := of_decide_eq_false Q55)
                          have hyes : OkS ss es := Classical.byContradiction fun h => by (have h2 := Q55; rw [if_neg (show ¬ OkR (nv (sAt ss 0) : Nat) (nv (sAt ss 1) : Nat) (nv (sAt ss 2) : Nat) (nv (sAt ss 3) : Nat) (nv (sAt ss 4) : Nat) (nv (sAt ss 5) : Nat) (nv (sAt ss 6) : Nat) (nv (sAt ss 7) : Nat) (((nv (sAt ss 9) : Nat) : Int) == 1) es (nv (sAt ss 8) : Nat) (sAt ss 11) (((nv (sAt ss 10) : Nat) : Int) == 1) from h)] at h2; simp at h2)
                          first
                           | (exfalso; first | omega | contradiction | (cases Q55; done))
                           | skip
                             refine cd_skip ?_
                             refine nx_then ?_
                             refine cd_seq ?_
                             refine cd_region ?_
                             refine st_val (ro_loadA (cs := [_, _, _, _, _, _, _, _, _, _, _, _, _]) RpcDec2_g27 RpcDec2_z27 rfl (by exact (P7.from_ (From.rfl_.next E45)).whole)) ?_
                             refine st_putW (vs := [_, _, _, _, _, _, _, _, _, _, _, _, _]) RpcDec2_z27 rfl rfl (by simp [Value.oneCell']) ((hk2.from_ (From.rfl_.next E45))) rfl ?_
                             intro w57 O10 P10
                             refine st_val (ro_assign (v := .int _ _) rfl) ?_
                             refine st_nil ?_
                             refine nx_then ?_
                             refine cd_ret ?_
                             refine resr2 rfl (rv_cellA (cs := [_, _, _, _, _, _, _, _, _, _, _, _, _]) RpcDec2_g27 RpcDec2_z27 rfl (by first | exact P3.whole | exact P6.whole | exact P9.whole | exact P10.whole)) (rv_tmp (v := .int _ _) rfl) ?_
                             exact ⟨.inl ⟨ss, es, ⟨by omega, by rw [← hm]; assumption, by rw [← hm]; exact hg30, hgs, hyes⟩, A38, c38, rfl, own_only3 (he38.kept_from E45) O10 (own_off (he38.kept_from E45) (hk2.from_ E45) (by decide))⟩, ((((((((From.rfl_.next E2).next D16).next E30).next E38).next E7).only O7 (hg7)).next E45).only O10 (hg2))⟩
  · obtain ⟨m, rfl⟩ : ∃ m : Nat, q = (m : Nat) := ⟨l.length - 4, by omega⟩
    have hm : m = l.length - 4 := by omega
    obtain ⟨b0, o0, rfl⟩ : ∃ b o, A = some ⟨b, o, none⟩ := by
      obtain ⟨A2, c2, hv, _, _, hp⟩ := hr.parts
      simp only [Value.slice.injEq] at hv
      obtain ⟨rfl, _, _⟩ := hv
      obtain ⟨b, o, hA, _⟩ := hp (by rw [bytesV_length]; omega)
      exact ⟨b, o, hA⟩
    have hnc : l.length ≤ c := by
      obtain ⟨A2, c2, hv, hc2, _, _⟩ := hr.parts
      simp only [Value.slice.injEq] at hv
      rw [bytesV_length] at hc2
      omega
    have hrT : RowC w (.slice (some ⟨b0, o0, none⟩) m c) (bytesV (l.take m)) := by rw [bytesV_take]; exact hr.cut (by rw [bytesV_length]; omega)
    have hrD : RowC w (.slice (some ⟨b0, if c = m then o0 else o0 + m, none⟩) (l.length - m) (c - m)) (bytesV (l.drop m)) := by rw [bytesV_drop]; exact rowC_drop hr (by rw [bytesV_length]; omega)
    have hbT : ∀ b ∈ l.take m, b < 256 := fun b hb => hl b (List.mem_of_mem_take hb)
    have hbD : ∀ b ∈ l.drop m, b < 256 := fun b hb => hl b (List.mem_of_mem_drop hb)
    apply cd_drawn 13 [(12, eqp _), (13, eqp _), (14, eqp _), (15, eqp _), (16, eqp _), (17, eqp _), (18, eqp _), (19, eqp _), (20, eqp _), (21, fun v w' => ∃ g, v = .slice (some ⟨g, 0, none⟩) 4 4 ∧ Blk w' g 5 ((ck (l.take m)).map bV).toArray), (22, eqp _), (23, eqp _), (24, eqp _)] (by kernel_rfl) (by kernel_rfl) ⟨eqp_mono _, eqp_mono _, eqp_mono _, eqp_mono _, eqp_mono _, eqp_mono _, eqp_mono _, eqp_mono _, eqp_mono _, (fun _ _ _ hF ⟨g, h1, h2⟩ => ⟨g, h1, h2.from_ hF⟩), eqp_mono _, eqp_mono _, eqp_mono _, trivial⟩
    case hop =>
     refine ⟨?_, ?_⟩
     · intro w59 D59
       show OpOK _ _ _ _ _ _ _
       exact ok_pure (ro_move (v := .int _ _) rfl) rfl
     refine ⟨?_, ?_⟩
     · intro w60 D60
       rintro _ rfl
       show OpOK _ _ _ _ _ _ _
       exact ok_pure (ro_bf (ro_lss rfl rfl) (decide_eq_false (by omega))) rfl
     refine ⟨?_, ?_⟩
     · intro w61 D61
       rintro _ rfl
       show OpOK _ _ _ _ _ _ _
       exact ok_pure (ro_move rfl) rfl
     refine ⟨?_, ?_⟩
     · intro w62 D62
       rintro _ rfl
       show OpOK _ _ _ _ _ _ _
       exact ok_gpure rfl (ro_move (v := .slice _ _ _) rfl) rfl
     refine ⟨?_, ?_⟩
     · intro w63 D63
       rintro _ rfl
       show OpOK _ _ _ _ _ _ _
       exact ok_gpure rfl (ro_move (v := .int _ _) rfl) rfl
     refine ⟨?_, ?_⟩
     · intro w64 D64
       rintro _ rfl _ rfl _ rfl
       show OpOK _ _ _ _ _ _ _
       exact ok_gpure rfl (ro_dropN (m := m) RpcDec2_e23 rfl rfl (by omega) hnc) rfl
     refine ⟨?_, ?_⟩
     · intro w65 D65
       rintro _ rfl
       show OpOK _ _ _ _ _ _ _
       exact ok_gpure rfl (ro_move (v := .slice _ _ _) rfl) rfl
     refine ⟨?_, ?_⟩
     · intro w66 D66
       rintro _ rfl
       show OpOK _ _ _ _ _ _ _
       exact ok_gpure rfl (ro_move (v := .int _ _) rfl) rfl
     refine ⟨?_, ?_⟩
     · intro w67 D67
       rintro _ rfl _ rfl _ rfl
       show OpOK _ _ _ _ _ _ _
       exact ok_gpure rfl (ro_takeN (m := m) RpcDec2_e23 rfl rfl (by omega)) rfl
     refine ⟨?_, ?_⟩
     · intro w68 D68
       rintro _ rfl _ rfl
       show OpOK _ _ _ _ _ _ _
       refine ok_gcall rfl RpcDec2_k16 ((ck_r (some ⟨b0, o0, none⟩) c m (l.take m) _ (hrT.from_ ((From.rfl_.next E2).next D68)) hbT (by rw [List.length_take]; omega) (hT.from_ ((From.rfl_.next E2).next D68))).mono ?_)
       rintro v _ ⟨⟨g, rfl, _, hg⟩, F7⟩
       exact ⟨F7, g, rfl, hg⟩
     refine ⟨?_, ?_⟩
     · intro w69 D69
       rintro _ rfl _ rfl v69_21 ⟨g69, rfl, hg69⟩
       show OpOK _ _ _ _ _ _ _
       refine ok_gcall rfl RpcDec2_k15 ((equal_r _ _ (c - m) 4 (l.length - m) 4 (l.drop m) (ck (l.take m)) _ (hrD.from_ ((From.rfl_.next E2).next D69)) (RowC.blk (cs := ((ck (l.take m)).map bV).toArray) hg69 4 (by simp [ck]) (by omega)) hbD (ck_byte _)).mono ?_)
       rintro v _ ⟨rfl, rfl⟩
       exact ⟨From.rfl_, rfl⟩
     refine ⟨?_, ?_⟩
     · intro w70 D70
       rintro _ rfl _ rfl
       show OpOK _ _ _ _ _ _ _
       exact ok_gpure rfl (ro_not rfl) rfl
     refine ⟨?_, ?_⟩
     · intro w71 D71
       rintro _ rfl _ rfl
       show OpOK _ _ _ _ _ _ _
       exact ok_pure (ro_pickF (v := .bool _) rfl rfl) rfl
     exact trivial
    case hend =>
     intro w72 D72
     rintro _ rfl _ rfl _ rfl _ rfl _ rfl _ rfl _ rfl _ rfl _ rfl v21 ⟨g72, rfl, hg72⟩ _ rfl _ rfl _ rfl
     show St _ _ _ _ _ _ _
     refine st_nil ?_
     refine nx_then ?_
     refine cd_cond rfl (fun Q73 => ?_) (fun Q73 => ?_)
     · (try first | replace Q73 := bn_t Q73 | replace Q73 := bn_f Q73)
       (try first | replace Q73 := bx_t Q73 | replace Q73 := bx_f Q73 | replace Q73 := be_t Q73 | replace Q73 := be_f Q73 | replace Q73 := of_decide_eq_true Q73 | replace Q73 := of_decide_eq_false Q73)
       try simp only [Bool.not_eq_true', decide_eq_false_iff_not] at Q73
       first
        | (exfalso; first | omega | contradiction | (cases Q73; done))
        | skip
          refine cd_seq ?_
          refine cd_region ?_
          refine st_val (ro_build (l := []) (RpcDec2_b27_)) ?_
          refine st_putW (vs := [_, _, _, _, _, _, _, _, _, _, _, _, _]) RpcDec2_z27 rfl rfl (by simp [Value.oneCell']) ((hk2.from_ (From.rfl_.next D72))) rfl ?_
          intro w74 O3 P3
          refine st_val (ro_assign (v := .int _ _) rfl) ?_
          refine st_nil ?_
          refine nx_then ?_
          refine cd_ret ?_
          refine rt_then ?_
          refine resr2 rfl (rv_cellA (cs := [_, _, _, _, _, _, _, _, _, _, _, _, _]) RpcDec2_g27 RpcDec2_z27 rfl (by first | exact P3.whole | exact P6.whole | exact P9.whole | exact P10.whole)) (rv_tmp (v := .int _ _) rfl) ?_
          first
            | exact ⟨.inr ⟨fun ss2 es2 hg => (by have := hg.1; omega), rfl⟩, (((From.rfl_.next E2).next D72).only O3 (hg2))⟩
            | exact ⟨.inr ⟨fun ss2 es2 hg => (by have h1 := hg.2.1; rw [← hm] at h1; exact absurd h1 (by assumption)), rfl⟩, (((From.rfl_.next E2).next D72).only O3 (hg2))⟩
     · (try first | replace Q73 := bn_t Q73 | replace Q73 := bn_f Q73)
       (try first | replace Q73 := bx_t Q73 | replace Q73 := bx_f Q73 | replace Q73 := be_t Q73 | replace Q73 := be_f Q73 | replace Q73 := of_decide_eq_true Q73 | replace Q73 := of_decide_eq_false Q73)
       try simp only [Bool.not_eq_false', decide_eq_true_eq] at Q73
       first
        | (exfalso; first | omega | contradiction | (cases Q73; done))
        | skip
          refine cd_skip ?_
          refine nx_then ?_
          refine cd_seq ?_
          refine cd_region ?_
          refine st_val (ro_move (v := .slice _ _ _) rfl) ?_
          refine st_val (ro_move (v := .int _ _) rfl) ?_
          refine st_val (ro_takeN (m := m) RpcDec2_e23 rfl rfl (by omega)) ?_
          refine st_call RpcDec2_k17 (get_w (some ⟨b0, o0, none⟩) c m (l.take m) hbT _ (hrT.from_ ((From.rfl_.next E2).next D72))) ?_
          rintro v30 w75 ⟨hn30, E30⟩
          rcases hn30 with ⟨hg30, rfl⟩ | ⟨ss, A30, c30, hg30, rfl, hos⟩
          · refine st_val (ro_move (v := .tuple _) rfl) ?_
            refine st_val (ro_extract rfl rfl) ?_
            refine st_val (ro_extract rfl rfl) ?_
            refine st_val (ro_assign (v := .slice _ _ _) rfl) ?_
            refine st_val (ro_assign (v := .int _ _) rfl) ?_
            refine st_nil ?_
            refine nx_then ?_
            refine cd_seq ?_
            refine cd_seq ?_
            refine cd_region ?_
            refine st_val (ro_move (v := .int _ _) rfl) ?_
            refine st_val (ro_neq rfl rfl) ?_
            refine st_nil ?_
            refine nx_then ?_
            refine cd_cond rfl (fun Q76 => ?_) (fun Q76 => ?_)
            · (try first | replace Q76 := bn_t Q76 | replace Q76 := bn_f Q76)
              (try first | replace Q76 := bx_t Q76 | replace Q76 := bx_f Q76 | replace Q76 := be_t Q76 | replace Q76 := be_f Q76 | replace Q76 := of_decide_eq_true Q76 | replace Q76 := of_decide_eq_false Q76)
              first
               | (exfalso; first | omega | contradiction | (cases Q76; done))
               | skip
                 refine cd_seq ?_
                 refine cd_region ?_
                 refine st_val (ro_build (l := []) (RpcDec2_b27_)) ?_
                 refine st_putW (vs := [_, _, _, _, _, _, _, _, _, _, _, _, _]) RpcDec2_z27 rfl rfl (by simp [Value.oneCell']) ((hk2.from_ ((From.rfl_.next D72).next E30))) rfl ?_
                 intro w77 O6 P6
                 refine st_val (ro_assign (v := .int _ _) rfl) ?_
                 refine st_nil ?_
                 refine nx_then ?_
                 refine cd_ret ?_
                 refine rt_then ?_
                 refine resr2 rfl (rv_cellA (cs := [_, _, _, _, _, _, _, _, _, _, _, _, _]) RpcDec2_g27 RpcDec2_z27 rfl (by first | exact P3.whole | exact P6.whole | exact P9.whole | exact P10.whole)) (rv_tmp (v := .int _ _) rfl) ?_
                 exact ⟨.inr ⟨fun ss2 es2 hg => (by have h1 := hg.2.2.1; rw [← hm, hg30] at h1; cases h1), rfl⟩, ((((From.rfl_.next E2).next D72).next E30).only O6 (hg2))⟩
            · (try first | replace Q76 := bn_t Q76 | replace Q76 := bn_f Q76)
              (try first | replace Q76 := bx_t Q76 | replace Q76 := bx_f Q76 | replace Q76 := be_t Q76 | replace Q76 := be_f Q76 | replace Q76 := of_decide_eq_true Q76 | replace Q76 := of_decide_eq_false Q76)
              first
               | (exfalso; first | omega | contradiction | (cases Q76; done))
               | skip
                 refine cd_skip ?_
                 refine nx_then ?_
                 refine cd_seq ?_
                 refine cd_region ?_
                 refine st_val (ro_move (v := .slice _ _ _) rfl) ?_
                 have hB38 := ((((From.rfl_.next E2).next D72).next E30)).size
                 refine st_call RpcDec2_k18 (message_r A30 c30 _ ss _ rfl hsc ((RowOf.of_row (f := Value.string) hrs.1).2.from_ From.rfl_) (fun s h => by have := hsz s h; omega) (by omega)) ?_
                 rintro v38 w78 ⟨hn38, E38⟩
                 rcases hn38 with ⟨es, hgs, A38, c38, rfl, he38⟩ | ⟨hno38, rfl⟩
                 · replace he38 := own_le he38 hB38
                   refine st_val (ro_move (v := .tuple _) rfl) ?_
                   refine st_val (ro_extract rfl rfl) ?_
                   refine st_val (ro_extract rfl rfl) ?_
                   have hlt7 := (hk2.from_ (((From.rfl_.next D72).next E30).next E38)).lt
                   refine st_alloc RpcDec2_o27 ?_
                   intro b7 w79 E7 hb7 hk7
                   have hg7 : w.heap.size ≤ b7 := by rw [hb7]; exact (((((From.rfl_.next E2).next D72).next E30).next E38)).size
                   replace hk2 := hk2.from_ ((((From.rfl_.next D72).next E30).next E38).next E7)
                   have h27 : b2 < b7 := by omega
                   try replace he38 := he38.kept_from E7
                   refine st_putW (vs := [_, _, _, _, _, _, _, _, _, _, _, _, _]) RpcDec2_z27 rfl rfl (by simp [Value.oneCell']) (hk7) rfl ?_
                   intro w80 O7 P7
                   replace hk2 := hk2.only O7 (by omega)
                   try replace he38 := own_only3 he38 O7 (own_off he38 hk7 (by decide))
                   refine st_val (ro_assign (v := .bool _) rfl) ?_
                   refine st_nil ?_
                   refine nx_then ?_
                   refine cd_seq ?_
                   refine cd_seq ?_
                   refine cd_region ?_
                   refine st_val (ro_move (v := .bool _) rfl) ?_
                   refine st_val (ro_not rfl) ?_
                   refine st_val (ro_move (v := .bool _) rfl) ?_
                   refine st_split (t := 43) rfl (fun Q81 => ?_) (fun Q81 => ?_)
                   · (try first | replace Q81 := bn_t Q81 | replace Q81 := bn_f Q81)
                     (try first | replace Q81 := bx_t Q81 | replace Q81 := bx_f Q81 | replace Q81 := be_t Q81 | replace Q81 := be_f Q81 | replace Q81 := of_decide_eq_true Q81 | replace Q81 := of_decide_eq_false Q81)
                     first
                      | (exfalso; first | omega | contradiction | (cases Q81; done))
                      | skip
                        refine st_gno rfl rfl ?_
                        refine st_gno rfl rfl ?_
                        refine st_gno rfl rfl ?_
                        refine st_val (ro_pickT (v := .bool _) rfl rfl) ?_
                        refine st_nil ?_
                        refine nx_then ?_
                        refine cd_condT rfl ?_
                        refine cd_seq ?_
                        refine cd_region ?_
                        refine st_val (ro_build (l := []) (RpcDec2_b27_)) ?_
                        refine st_putW (vs := [_, _, _, _, _, _, _, _, _, _, _, _, _]) RpcDec2_z27 rfl rfl (by simp [Value.oneCell']) ((hk2.from_ From.rfl_)) rfl ?_
                        intro w82 O9 P9
                        refine st_val (ro_assign (v := .int _ _) rfl) ?_
                        refine st_nil ?_
                        refine nx_then ?_
                        refine cd_ret ?_
                        refine rt_then ?_
                        refine resr2 rfl (rv_cellA (cs := [_, _, _, _, _, _, _, _, _, _, _, _, _]) RpcDec2_g27 RpcDec2_z27 rfl (by first | exact P3.whole | exact P6.whole | exact P9.whole | exact P10.whole)) (rv_tmp (v := .int _ _) rfl) ?_
                        first
                          | exact ⟨.inr ⟨fun ss2 es2 hg => (by have h1 := hg.2.2.1; rw [← hm, hg30] at h1; cases h1; exact hno38 _ hg.2.2.2.1), rfl⟩, (((((((From.rfl_.next E2).next D72).next E30).next E38).next E7).only O7 (hg7)).only O9 (hg2))⟩
                          | exact ⟨.inr ⟨fun ss2 es2 hg => (by have h1 := hg.2.2.1; rw [← hm, hg30] at h1; cases h1; obtain rfl := entsS_uniq hgs hg.2.2.2.1; exact hno hg.2.2.2.2), rfl⟩, (((((((From.rfl_.next E2).next D72).next E30).next E38).next E7).only O7 (hg7)).only O9 (hg2))⟩
                   · (try first | replace Q81 := bn_t Q81 | replace Q81 := bn_f Q81)
                     (try first | replace Q81 := bx_t Q81 | replace Q81 := bx_f Q81 | replace Q81 := be_t Q81 | replace Q81 := be_f Q81 | replace Q81 := of_decide_eq_true Q81 | replace Q81 := of_decide_eq_false Q81)
                     first
                      | (exfalso; first | omega | contradiction | (cases Q81; done))
                      | skip
                        refine st_unguard rfl ?_
                        refine st_val (ro_loadA (cs := [_, _, _, _, _, _, _, _, _, _, _, _, _]) RpcDec2_g27 RpcDec2_z27 rfl (by exact P7.whole)) ?_
                        refine st_unguard rfl ?_
                        refine st_call RpcDec2_k13 (check_r (nv (sAt ss 0) : Nat) (nv (sAt ss 1) : Nat) (nv (sAt ss 2) : Nat) (nv (sAt ss 3) : Nat) (nv (sAt ss 4) : Nat) (nv (sAt ss 5) : Nat) (nv (sAt ss 6) : Nat) (nv (sAt ss 7) : Nat) (((nv (sAt ss 9) : Nat) : Int) == 1) A38 _ c38 (nv (sAt ss 8) : Nat) (sAt ss 11) (((nv (sAt ss 10) : Nat) : Int) == 1) _ es rfl (Ents.of_own he38 rfl) (by have := entsS_len hgs.2.2.2.2; rw [List.length_drop] at this; omega)) ?_
                        rintro v45 w83 ⟨rfl, E45⟩
                        refine st_unguard rfl ?_
                        refine st_val (ro_neq rfl rfl) ?_
                        refine st_val (ro_pickF (v := .bool _) rfl rfl) ?_
                        refine st_nil ?_
                        refine nx_then ?_
                        refine cd_cond rfl (fun Q84 => ?_) (fun Q84 => ?_)
                        · (try first | replace Q84 := bn_t Q84 | replace Q84 := bn_f Q84)
                          (try first | replace Q84 := bx_t Q84 | replace Q84 := bx_f Q84 | replace Q84 := be_t Q84 | replace Q84 := be_f Q84 | replace Q84 := of_decide_eq_true Q84 | replace Q84 := of_decide_eq_false Q84)
                          try (have hno : ¬ OkS ss es := fun h => by (have h2 := Q84; rw [if_pos (show OkR (nv (sAt ss 0) : Nat) (nv (sAt ss 1) : Nat) (nv (sAt ss 2) : Nat) (nv (sAt ss 3) : Nat) (nv (sAt ss 4) : Nat) (nv (sAt ss 5) : Nat) (nv (sAt ss 6) : Nat) (nv (sAt ss 7) : Nat) (((nv (sAt ss 9) : Nat) : Int) == 1) es (nv (sAt ss 8) : Nat) (sAt ss 11) (((nv (sAt ss 10) : Nat) : Int) == 1) from h)] at h2; simp at h2))
                          first
                           | (exfalso; first | omega | contradiction | (cases Q84; done))
                           | skip
                             refine cd_seq ?_
                             refine cd_region ?_
                             refine st_val (ro_build (l := []) (RpcDec2_b27_)) ?_
                             refine st_putW (vs := [_, _, _, _, _, _, _, _, _, _, _, _, _]) RpcDec2_z27 rfl rfl (by simp [Value.oneCell']) ((hk2.from_ (From.rfl_.next E45))) rfl ?_
                             intro w85 O9 P9
                             refine st_val (ro_assign (v := .int _ _) rfl) ?_
                             refine st_nil ?_
                             refine nx_then ?_
                             refine cd_ret ?_
                             refine rt_then ?_
                             refine resr2 rfl (rv_cellA (cs := [_, _, _, _, _, _, _, _, _, _, _, _, _]) RpcDec2_g27 RpcDec2_z27 rfl (by first | exact P3.whole | exact P6.whole | exact P9.whole | exact P10.whole)) (rv_tmp (v := .int _ _) rfl) ?_
                             first
                               | exact ⟨.inr ⟨fun ss2 es2 hg => (by have h1 := hg.2.2.1; rw [← hm, hg30] at h1; cases h1; exact hno38 _ hg.2.2.2.1), rfl⟩, ((((((((From.rfl_.next E2).next D72).next E30).next E38).next E7).only O7 (hg7)).next E45).only O9 (hg2))⟩
                               | exact ⟨.inr ⟨fun ss2 es2 hg => (by have h1 := hg.2.2.1; rw [← hm, hg30] at h1; cases h1; obtain rfl := entsS_uniq hgs hg.2.2.2.1; exact hno hg.2.2.2.2), rfl⟩, ((((((((From.rfl_.next E2).next D72).next E30).next E38).next E7).only O7 (hg7)).next E45).only O9 (hg2))⟩
                        · (try first | replace Q84 := bn_t Q84 | replace Q84 := bn_f Q84)
                          (try first | replace Q84 := bx_t Q84 | replace Q84 := bx_f Q84 | replace Q84 := be_t Q84 | replace Q84 := be_f Q84 | replace Q84 := of_decide_eq_true Q84 | replace Q84 := of_decide_eq_false Q84)
                          have hyes : OkS ss es := Classical.byContradiction fun h => by (have h2 := Q84; rw [if_neg (show ¬ OkR (nv (sAt ss 0) : Nat) (nv (sAt ss 1) : Nat) (nv (sAt ss 2) : Nat) (nv (sAt ss 3) : Nat) (nv (sAt ss 4) : Nat) (nv (sAt ss 5) : Nat) (nv (sAt ss 6) : Nat) (nv (sAt ss 7) : Nat) (((nv (sAt ss 9) : Nat) : Int) == 1) es (nv (sAt ss 8) : Nat) (sAt ss 11) (((nv (sAt ss 10) : Nat) : Int) == 1) from h)] at h2; simp at h2)
                          first
                           | (exfalso; first | omega | contradiction | (cases Q84; done))
                           | skip
                             refine cd_skip ?_
                             refine nx_then ?_
                             refine cd_seq ?_
                             refine cd_region ?_
                             refine st_val (ro_loadA (cs := [_, _, _, _, _, _, _, _, _, _, _, _, _]) RpcDec2_g27 RpcDec2_z27 rfl (by exact (P7.from_ (From.rfl_.next E45)).whole)) ?_
                             refine st_putW (vs := [_, _, _, _, _, _, _, _, _, _, _, _, _]) RpcDec2_z27 rfl rfl (by simp [Value.oneCell']) ((hk2.from_ (From.rfl_.next E45))) rfl ?_
                             intro w86 O10 P10
                             refine st_val (ro_assign (v := .int _ _) rfl) ?_
                             refine st_nil ?_
                             refine nx_then ?_
                             refine cd_ret ?_
                             refine resr2 rfl (rv_cellA (cs := [_, _, _, _, _, _, _, _, _, _, _, _, _]) RpcDec2_g27 RpcDec2_z27 rfl (by first | exact P3.whole | exact P6.whole | exact P9.whole | exact P10.whole)) (rv_tmp (v := .int _ _) rfl) ?_
                             exact ⟨.inl ⟨ss, es, ⟨by omega, by rw [← hm]; assumption, by rw [← hm]; exact hg30, hgs, hyes⟩, A38, c38, rfl, own_only3 (he38.kept_from E45) O10 (own_off (he38.kept_from E45) (hk2.from_ E45) (by decide))⟩, ((((((((From.rfl_.next E2).next D72).next E30).next E38).next E7).only O7 (hg7)).next E45).only O10 (hg2))⟩
                 · refine st_val (ro_move (v := .tuple _) rfl) ?_
                   refine st_val (ro_extract rfl rfl) ?_
                   refine st_val (ro_extract rfl rfl) ?_
                   have hlt7 := (hk2.from_ (((From.rfl_.next D72).next E30).next E38)).lt
                   refine st_alloc RpcDec2_o27 ?_
                   intro b7 w87 E7 hb7 hk7
                   have hg7 : w.heap.size ≤ b7 := by rw [hb7]; exact (((((From.rfl_.next E2).next D72).next E30).next E38)).size
                   replace hk2 := hk2.from_ ((((From.rfl_.next D72).next E30).next E38).next E7)
                   have h27 : b2 < b7 := by omega
                   try replace he38 := he38.kept_from E7
                   refine st_putW (vs := [_, _, _, _, _, _, _, _, _, _, _, _, _]) RpcDec2_z27 rfl rfl (by simp [Value.oneCell']) (hk7) rfl ?_
                   intro w88 O7 P7
                   replace hk2 := hk2.only O7 (by omega)
                   try replace he38 := own_only3 he38 O7 (own_off he38 hk7 (by decide))
                   refine st_val (ro_assign (v := .bool _) rfl) ?_
                   refine st_nil ?_
                   refine nx_then ?_
                   refine cd_seq ?_
                   refine cd_seq ?_
                   refine cd_region ?_
                   refine st_val (ro_move (v := .bool _) rfl) ?_
                   refine st_val (ro_not rfl) ?_
                   refine st_val (ro_move (v := .bool _) rfl) ?_
                   refine st_split (t := 43) rfl (fun Q89 => ?_) (fun Q89 => ?_)
                   · (try first | replace Q89 := bn_t Q89 | replace Q89 := bn_f Q89)
                     (try first | replace Q89 := bx_t Q89 | replace Q89 := bx_f Q89 | replace Q89 := be_t Q89 | replace Q89 := be_f Q89 | replace Q89 := of_decide_eq_true Q89 | replace Q89 := of_decide_eq_false Q89)
                     first
                      | (exfalso; first | omega | contradiction | (cases Q89; done))
                      | skip
                        refine st_gno rfl rfl ?_
                        refine st_gno rfl rfl ?_
                        refine st_gno rfl rfl ?_
                        refine st_val (ro_pickT (v := .bool _) rfl rfl) ?_
                        refine st_nil ?_
                        refine nx_then ?_
                        refine cd_condT rfl ?_
                        refine cd_seq ?_
                        refine cd_region ?_
                        refine st_val (ro_build (l := []) (RpcDec2_b27_)) ?_
                        refine st_putW (vs := [_, _, _, _, _, _, _, _, _, _, _, _, _]) RpcDec2_z27 rfl rfl (by simp [Value.oneCell']) ((hk2.from_ From.rfl_)) rfl ?_
                        intro w90 O9 P9
                        refine st_val (ro_assign (v := .int _ _) rfl) ?_
                        refine st_nil ?_
                        refine nx_then ?_
                        refine cd_ret ?_
                        refine rt_then ?_
                        refine resr2 rfl (rv_cellA (cs := [_, _, _, _, _, _, _, _, _, _, _, _, _]) RpcDec2_g27 RpcDec2_z27 rfl (by first | exact P3.whole | exact P6.whole | exact P9.whole | exact P10.whole)) (rv_tmp (v := .int _ _) rfl) ?_
                        first
                          | exact ⟨.inr ⟨fun ss2 es2 hg => (by have h1 := hg.2.2.1; rw [← hm, hg30] at h1; cases h1; exact hno38 _ hg.2.2.2.1), rfl⟩, (((((((From.rfl_.next E2).next D72).next E30).next E38).next E7).only O7 (hg7)).only O9 (hg2))⟩
                          | exact ⟨.inr ⟨fun ss2 es2 hg => (by have h1 := hg.2.2.1; rw [← hm, hg30] at h1; cases h1; obtain rfl := entsS_uniq hgs hg.2.2.2.1; exact hno hg.2.2.2.2), rfl⟩, (((((((From.rfl_.next E2).next D72).next E30).next E38).next E7).only O7 (hg7)).only O9 (hg2))⟩
                   · (try first | replace Q89 := bn_t Q89 | replace Q89 := bn_f Q89)
                     (try first | replace Q89 := bx_t Q89 | replace Q89 := bx_f Q89 | replace Q89 := be_t Q89 | replace Q89 := be_f Q89 | replace Q89 := of_decide_eq_true Q89 | replace Q89 := of_decide_eq_false Q89)
                     first
                      | (exfalso; first | omega | contradiction | (cases Q89; done))
                      | skip
                        refine st_unguard rfl ?_
                        refine st_val (ro_loadA (cs := [_, _, _, _, _, _, _, _, _, _, _, _, _]) RpcDec2_g27 RpcDec2_z27 rfl (by exact P7.whole)) ?_
                        refine st_unguard rfl ?_
                        refine st_call RpcDec2_k13 (check_r (nv (sAt ss 0) : Nat) (nv (sAt ss 1) : Nat) (nv (sAt ss 2) : Nat) (nv (sAt ss 3) : Nat) (nv (sAt ss 4) : Nat) (nv (sAt ss 5) : Nat) (nv (sAt ss 6) : Nat) (nv (sAt ss 7) : Nat) (((nv (sAt ss 9) : Nat) : Int) == 1) A38 _ c38 (nv (sAt ss 8) : Nat) (sAt ss 11) (((nv (sAt ss 10) : Nat) : Int) == 1) _ es rfl (Ents.of_own he38 rfl) (by have := entsS_len hgs.2.2.2.2; rw [List.length_drop] at this; omega)) ?_
                        rintro v45 w91 ⟨rfl, E45⟩
                        refine st_unguard rfl ?_
                        refine st_val (ro_neq rfl rfl) ?_
                        refine st_val (ro_pickF (v := .bool _) rfl rfl) ?_
                        refine st_nil ?_
                        refine nx_then ?_
                        refine cd_cond rfl (fun Q92 => ?_) (fun Q92 => ?_)
                        · (try first | replace Q92 := bn_t Q92 | replace Q92 := bn_f Q92)
                          (try first | replace Q92 := bx_t Q92 | replace Q92 := bx_f Q92 | replace Q92 := be_t Q92 | replace Q92 := be_f Q92 | replace Q92 := of_decide_eq_true Q92 | replace Q92 := of_decide_eq_false Q92)
                          try (have hno : ¬ OkS ss es := fun h => by (have h2 := Q92; rw [if_pos (show OkR (nv (sAt ss 0) : Nat) (nv (sAt ss 1) : Nat) (nv (sAt ss 2) : Nat) (nv (sAt ss 3) : Nat) (nv (sAt ss 4) : Nat) (nv (sAt ss 5) : Nat) (nv (sAt ss 6) : Nat) (nv (sAt ss 7) : Nat) (((nv (sAt ss 9) : Nat) : Int) == 1) es (nv (sAt ss 8) : Nat) (sAt ss 11) (((nv (sAt ss 10) : Nat) : Int) == 1) from h)] at h2; simp at h2))
                          first
                           | (exfalso; first | omega | contradiction | (cases Q92; done))
                           | skip
                             refine cd_seq ?_
                             refine cd_region ?_
                             refine st_val (ro_build (l := []) (RpcDec2_b27_)) ?_
                             refine st_putW (vs := [_, _, _, _, _, _, _, _, _, _, _, _, _]) RpcDec2_z27 rfl rfl (by simp [Value.oneCell']) ((hk2.from_ (From.rfl_.next E45))) rfl ?_
                             intro w93 O9 P9
                             refine st_val (ro_assign (v := .int _ _) rfl) ?_
                             refine st_nil ?_
                             refine nx_then ?_
                             refine cd_ret ?_
                             refine rt_then ?_
                             refine resr2 rfl (rv_cellA (cs := [_, _, _, _, _, _, _, _, _, _, _, _, _]) RpcDec2_g27 RpcDec2_z27 rfl (by first | exact P3.whole | exact P6.whole | exact P9.whole | exact P10.whole)) (rv_tmp (v := .int _ _) rfl) ?_
                             first
                               | exact ⟨.inr ⟨fun ss2 es2 hg => (by have h1 := hg.2.2.1; rw [← hm, hg30] at h1; cases h1; exact hno38 _ hg.2.2.2.1), rfl⟩, ((((((((From.rfl_.next E2).next D72).next E30).next E38).next E7).only O7 (hg7)).next E45).only O9 (hg2))⟩
                               | exact ⟨.inr ⟨fun ss2 es2 hg => (by have h1 := hg.2.2.1; rw [← hm, hg30] at h1; cases h1; obtain rfl := entsS_uniq hgs hg.2.2.2.1; exact hno hg.2.2.2.2), rfl⟩, ((((((((From.rfl_.next E2).next D72).next E30).next E38).next E7).only O7 (hg7)).next E45).only O9 (hg2))⟩
                        · (try first | replace Q92 := bn_t Q92 | replace Q92 := bn_f Q92)
                          (try first | replace Q92 := bx_t Q92 | replace Q92 := bx_f Q92 | replace Q92 := be_t Q92 | replace Q92 := be_f Q92 | replace Q92 := of_decide_eq_true Q92 | replace Q92 := of_decide_eq_false Q92)
                          have hyes : OkS ss es := Classical.byContradiction fun h => by (have h2 := Q92; rw [if_neg (show ¬ OkR (nv (sAt ss 0) : Nat) (nv (sAt ss 1) : Nat) (nv (sAt ss 2) : Nat) (nv (sAt ss 3) : Nat) (nv (sAt ss 4) : Nat) (nv (sAt ss 5) : Nat) (nv (sAt ss 6) : Nat) (nv (sAt ss 7) : Nat) (((nv (sAt ss 9) : Nat) : Int) == 1) es (nv (sAt ss 8) : Nat) (sAt ss 11) (((nv (sAt ss 10) : Nat) : Int) == 1) from h)] at h2; simp at h2)
                          first
                           | (exfalso; first | omega | contradiction | (cases Q92; done))
                           | skip
                             refine cd_skip ?_
                             refine nx_then ?_
                             refine cd_seq ?_
                             refine cd_region ?_
                             refine st_val (ro_loadA (cs := [_, _, _, _, _, _, _, _, _, _, _, _, _]) RpcDec2_g27 RpcDec2_z27 rfl (by exact (P7.from_ (From.rfl_.next E45)).whole)) ?_
                             refine st_putW (vs := [_, _, _, _, _, _, _, _, _, _, _, _, _]) RpcDec2_z27 rfl rfl (by simp [Value.oneCell']) ((hk2.from_ (From.rfl_.next E45))) rfl ?_
                             intro w94 O10 P10
                             refine st_val (ro_assign (v := .int _ _) rfl) ?_
                             refine st_nil ?_
                             refine nx_then ?_
                             refine cd_ret ?_
                             refine resr2 rfl (rv_cellA (cs := [_, _, _, _, _, _, _, _, _, _, _, _, _]) RpcDec2_g27 RpcDec2_z27 rfl (by first | exact P3.whole | exact P6.whole | exact P9.whole | exact P10.whole)) (rv_tmp (v := .int _ _) rfl) ?_
                             exact ⟨.inl ⟨ss, es, ⟨by omega, by rw [← hm]; assumption, by rw [← hm]; exact hg30, hgs, hyes⟩, A38, c38, rfl, own_only3 (he38.kept_from E45) O10 (own_off (he38.kept_from E45) (hk2.from_ E45) (by decide))⟩, ((((((((From.rfl_.next E2).next D72).next E30).next E38).next E7).only O7 (hg7)).next E45).only O10 (hg2))⟩
          · obtain ⟨hsz, hsl⟩ := getB_sizes hbT hg30
            have hrs := RowC.of_own hos
            have hsc : ss.length ≤ c30 := by
              obtain ⟨A2, c2, hv, hc2, _⟩ := hrs.2
              simp only [Value.slice.injEq] at hv
              simp only [List.length_map] at hc2
              omega
            refine st_val (ro_move (v := .tuple _) rfl) ?_
            refine st_val (ro_extract rfl rfl) ?_
            refine st_val (ro_extract rfl rfl) ?_
            refine st_val (ro_assign (v := .slice _ _ _) rfl) ?_
            refine st_val (ro_assign (v := .int _ _) rfl) ?_
            refine st_nil ?_
            refine nx_then ?_
            refine cd_seq ?_
            refine cd_seq ?_
            refine cd_region ?_
            refine st_val (ro_move (v := .int _ _) rfl) ?_
            refine st_val (ro_neq rfl rfl) ?_
            refine st_nil ?_
            refine nx_then ?_
            refine cd_cond rfl (fun Q95 => ?_) (fun Q95 => ?_)
            · (try first | replace Q95 := bn_t Q95 | replace Q95 := bn_f Q95)
              (try first | replace Q95 := bx_t Q95 | replace Q95 := bx_f Q95 | replace Q95 := be_t Q95 | replace Q95 := be_f Q95 | replace Q95 := of_decide_eq_true Q95 | replace Q95 := of_decide_eq_false Q95)
              first
               | (exfalso; first | omega | contradiction | (cases Q95; done))
               | skip
                 refine cd_seq ?_
                 refine cd_region ?_
                 refine st_val (ro_build (l := []) (RpcDec2_b27_)) ?_
                 refine st_putW (vs := [_, _, _, _, _, _, _, _, _, _, _, _, _]) RpcDec2_z27 rfl rfl (by simp [Value.oneCell']) ((hk2.from_ ((From.rfl_.next D72).next E30))) rfl ?_
                 intro w96 O6 P6
                 refine st_val (ro_assign (v := .int _ _) rfl) ?_
                 refine st_nil ?_
                 refine nx_then ?_
                 refine cd_ret ?_
                 refine rt_then ?_
                 refine resr2 rfl (rv_cellA (cs := [_, _, _, _, _, _, _, _, _, _, _, _, _]) RpcDec2_g27 RpcDec2_z27 rfl (by first | exact P3.whole | exact P6.whole | exact P9.whole | exact P10.whole)) (rv_tmp (v := .int _ _) rfl) ?_
                 exact ⟨.inr ⟨fun ss2 es2 hg => (by have h1 := hg.2.2.1; rw [← hm, hg30] at h1; cases h1), rfl⟩, ((((From.rfl_.next E2).next D72).next E30).only O6 (hg2))⟩
            · (try first | replace Q95 := bn_t Q95 | replace Q95 := bn_f Q95)
              (try first | replace Q95 := bx_t Q95 | replace Q95 := bx_f Q95 | replace Q95 := be_t Q95 | replace Q95 := be_f Q95 | replace Q95 := of_decide_eq_true Q95 | replace Q95 := of_decide_eq_false Q95)
              first
               | (exfalso; first | omega | contradiction | (cases Q95; done))
               | skip
                 refine cd_skip ?_
                 refine nx_then ?_
                 refine cd_seq ?_
                 refine cd_region ?_
                 refine st_val (ro_move (v := .slice _ _ _) rfl) ?_
                 have hB38 := ((((From.rfl_.next E2).next D72).next E30)).size
                 refine st_call RpcDec2_k18 (message_r A30 c30 _ ss _ rfl hsc ((RowOf.of_row (f := Value.string) hrs.1).2.from_ From.rfl_) (fun s h => by have := hsz s h; omega) (by omega)) ?_
                 rintro v38 w97 ⟨hn38, E38⟩
                 rcases hn38 with ⟨es, hgs, A38, c38, rfl, he38⟩ | ⟨hno38, rfl⟩
                 · replace he38 := own_le he38 hB38
                   refine st_val (ro_move (v := .tuple _) rfl) ?_
                   refine st_val (ro_extract rfl rfl) ?_
                   refine st_val (ro_extract rfl rfl) ?_
                   have hlt7 := (hk2.from_ (((From.rfl_.next D72).next E30).next E38)).lt
                   refine st_alloc RpcDec2_o27 ?_
                   intro b7 w98 E7 hb7 hk7
                   have hg7 : w.heap.size ≤ b7 := by rw [hb7]; exact (((((From.rfl_.next E2).next D72).next E30).next E38)).size
                   replace hk2 := hk2.from_ ((((From.rfl_.next D72).next E30).next E38).next E7)
                   have h27 : b2 < b7 := by omega
                   try replace he38 := he38.kept_from E7
                   refine st_putW (vs := [_, _, _, _, _, _, _, _, _, _, _, _, _]) RpcDec2_z27 rfl rfl (by simp [Value.oneCell']) (hk7) rfl ?_
                   intro w99 O7 P7
                   replace hk2 := hk2.only O7 (by omega)
                   try replace he38 := own_only3 he38 O7 (own_off he38 hk7 (by decide))
                   refine st_val (ro_assign (v := .bool _) rfl) ?_
                   refine st_nil ?_
                   refine nx_then ?_
                   refine cd_seq ?_
                   refine cd_seq ?_
                   refine cd_region ?_
                   refine st_val (ro_move (v := .bool _) rfl) ?_
                   refine st_val (ro_not rfl) ?_
                   refine st_val (ro_move (v := .bool _) rfl) ?_
                   refine st_split (t := 43) rfl (fun Q100 => ?_) (fun Q100 => ?_)
                   · (try first | replace Q100 := bn_t Q100 | replace Q100 := bn_f Q100)
                     (try first | replace Q100 := bx_t Q100 | replace Q100 := bx_f Q100 | replace Q100 := be_t Q100 | replace Q100 := be_f Q100 | replace Q100 := of_decide_eq_true Q100 | replace Q100 := of_decide_eq_false Q100)
                     first
                      | (exfalso; first | omega | contradiction | (cases Q100; done))
                      | skip
                        refine st_gno rfl rfl ?_
                        refine st_gno rfl rfl ?_
                        refine st_gno rfl rfl ?_
                        refine st_val (ro_pickT (v := .bool _) rfl rfl) ?_
                        refine st_nil ?_
                        refine nx_then ?_
                        refine cd_condT rfl ?_
                        refine cd_seq ?_
                        refine cd_region ?_
                        refine st_val (ro_build (l := []) (RpcDec2_b27_)) ?_
                        refine st_putW (vs := [_, _, _, _, _, _, _, _, _, _, _, _, _]) RpcDec2_z27 rfl rfl (by simp [Value.oneCell']) ((hk2.from_ From.rfl_)) rfl ?_
                        intro w101 O9 P9
                        refine st_val (ro_assign (v := .int _ _) rfl) ?_
                        refine st_nil ?_
                        refine nx_then ?_
                        refine cd_ret ?_
                        refine rt_then ?_
                        refine resr2 rfl (rv_cellA (cs := [_, _, _, _, _, _, _, _, _, _, _, _, _]) RpcDec2_g27 RpcDec2_z27 rfl (by first | exact P3.whole | exact P6.whole | exact P9.whole | exact P10.whole)) (rv_tmp (v := .int _ _) rfl) ?_
                        first
                          | exact ⟨.inr ⟨fun ss2 es2 hg => (by have h1 := hg.2.2.1; rw [← hm, hg30] at h1; cases h1; exact hno38 _ hg.2.2.2.1), rfl⟩, (((((((From.rfl_.next E2).next D72).next E30).next E38).next E7).only O7 (hg7)).only O9 (hg2))⟩
                          | exact ⟨.inr ⟨fun ss2 es2 hg => (by have h1 := hg.2.2.1; rw [← hm, hg30] at h1; cases h1; obtain rfl := entsS_uniq hgs hg.2.2.2.1; exact hno hg.2.2.2.2), rfl⟩, (((((((From.rfl_.next E2).next D72).next E30).next E38).next E7).only O7 (hg7)).only O9 (hg2))⟩
                   · (try first | replace Q100 := bn_t Q100 | replace Q100 := bn_f Q100)
                     (try first | replace Q100 := bx_t Q100 | replace Q100 := bx_f Q100 | replace Q100 := be_t Q100 | replace Q100 := be_f Q100 | replace Q100 := of_decide_eq_true Q100 | replace Q100 := of_decide_eq_false Q100)
                     first
                      | (exfalso; first | omega | contradiction | (cases Q100; done))
                      | skip
                        refine st_unguard rfl ?_
                        refine st_val (ro_loadA (cs := [_, _, _, _, _, _, _, _, _, _, _, _, _]) RpcDec2_g27 RpcDec2_z27 rfl (by exact P7.whole)) ?_
                        refine st_unguard rfl ?_
                        refine st_call RpcDec2_k13 (check_r (nv (sAt ss 0) : Nat) (nv (sAt ss 1) : Nat) (nv (sAt ss 2) : Nat) (nv (sAt ss 3) : Nat) (nv (sAt ss 4) : Nat) (nv (sAt ss 5) : Nat) (nv (sAt ss 6) : Nat) (nv (sAt ss 7) : Nat) (((nv (sAt ss 9) : Nat) : Int) == 1) A38 _ c38 (nv (sAt ss 8) : Nat) (sAt ss 11) (((nv (sAt ss 10) : Nat) : Int) == 1) _ es rfl (Ents.of_own he38 rfl) (by have := entsS_len hgs.2.2.2.2; rw [List.length_drop] at this; omega)) ?_
                        rintro v45 w102 ⟨rfl, E45⟩
                        refine st_unguard rfl ?_
                        refine st_val (ro_neq rfl rfl) ?_
                        refine st_val (ro_pickF (v := .bool _) rfl rfl) ?_
                        refine st_nil ?_
                        refine nx_then ?_
                        refine cd_cond rfl (fun Q103 => ?_) (fun Q103 => ?_)
                        · (try first | replace Q103 := bn_t Q103 | replace Q103 := bn_f Q103)
                          (try first | replace Q103 := bx_t Q103 | replace Q103 := bx_f Q103 | replace Q103 := be_t Q103 | replace Q103 := be_f Q103 | replace Q103 := of_decide_eq_true Q103 | replace Q103 := of_decide_eq_false Q103)
                          try (have hno : ¬ OkS ss es := fun h => by (have h2 := Q103; rw [if_pos (show OkR (nv (sAt ss 0) : Nat) (nv (sAt ss 1) : Nat) (nv (sAt ss 2) : Nat) (nv (sAt ss 3) : Nat) (nv (sAt ss 4) : Nat) (nv (sAt ss 5) : Nat) (nv (sAt ss 6) : Nat) (nv (sAt ss 7) : Nat) (((nv (sAt ss 9) : Nat) : Int) == 1) es (nv (sAt ss 8) : Nat) (sAt ss 11) (((nv (sAt ss 10) : Nat) : Int) == 1) from h)] at h2; simp at h2))
                          first
                           | (exfalso; first | omega | contradiction | (cases Q103; done))
                           | skip
                             refine cd_seq ?_
                             refine cd_region ?_
                             refine st_val (ro_build (l := []) (RpcDec2_b27_)) ?_
                             refine st_putW (vs := [_, _, _, _, _, _, _, _, _, _, _, _, _]) RpcDec2_z27 rfl rfl (by simp [Value.oneCell']) ((hk2.from_ (From.rfl_.next E45))) rfl ?_
                             intro w104 O9 P9
                             refine st_val (ro_assign (v := .int _ _) rfl) ?_
                             refine st_nil ?_
                             refine nx_then ?_
                             refine cd_ret ?_
                             refine rt_then ?_
                             refine resr2 rfl (rv_cellA (cs := [_, _, _, _, _, _, _, _, _, _, _, _, _]) RpcDec2_g27 RpcDec2_z27 rfl (by first | exact P3.whole | exact P6.whole | exact P9.whole | exact P10.whole)) (rv_tmp (v := .int _ _) rfl) ?_
                             first
                               | exact ⟨.inr ⟨fun ss2 es2 hg => (by have h1 := hg.2.2.1; rw [← hm, hg30] at h1; cases h1; exact hno38 _ hg.2.2.2.1), rfl⟩, ((((((((From.rfl_.next E2).next D72).next E30).next E38).next E7).only O7 (hg7)).next E45).only O9 (hg2))⟩
                               | exact ⟨.inr ⟨fun ss2 es2 hg => (by have h1 := hg.2.2.1; rw [← hm, hg30] at h1; cases h1; obtain rfl := entsS_uniq hgs hg.2.2.2.1; exact hno hg.2.2.2.2), rfl⟩, ((((((((From.rfl_.next E2).next D72).next E30).next E38).next E7).only O7 (hg7)).next E45).only O9 (hg2))⟩
                        · (try first | replace Q103 := bn_t Q103 | replace Q103 := bn_f Q103)
                          (try first | replace Q103 := bx_t Q103 | replace Q103 := bx_f Q103 | replace Q103 := be_t Q103 | replace Q103 := be_f Q103 | replace Q103 := of_decide_eq_true Q103 | replace Q103 := of_decide_eq_false Q103)
                          have hyes : OkS ss es := Classical.byContradiction fun h => by (have h2 := Q103; rw [if_neg (show ¬ OkR (nv (sAt ss 0) : Nat) (nv (sAt ss 1) : Nat) (nv (sAt ss 2) : Nat) (nv (sAt ss 3) : Nat) (nv (sAt ss 4) : Nat) (nv (sAt ss 5) : Nat) (nv (sAt ss 6) : Nat) (nv (sAt ss 7) : Nat) (((nv (sAt ss 9) : Nat) : Int) == 1) es (nv (sAt ss 8) : Nat) (sAt ss 11) (((nv (sAt ss 10) : Nat) : Int) == 1) from h)] at h2; simp at h2)
                          first
                           | (exfalso; first | omega | contradiction | (cases Q103; done))
                           | skip
                             refine cd_skip ?_
                             refine nx_then ?_
                             refine cd_seq ?_
                             refine cd_region ?_
                             refine st_val (ro_loadA (cs := [_, _, _, _, _, _, _, _, _, _, _, _, _]) RpcDec2_g27 RpcDec2_z27 rfl (by exact (P7.from_ (From.rfl_.next E45)).whole)) ?_
                             refine st_putW (vs := [_, _, _, _, _, _, _, _, _, _, _, _, _]) RpcDec2_z27 rfl rfl (by simp [Value.oneCell']) ((hk2.from_ (From.rfl_.next E45))) rfl ?_
                             intro w105 O10 P10
                             refine st_val (ro_assign (v := .int _ _) rfl) ?_
                             refine st_nil ?_
                             refine nx_then ?_
                             refine cd_ret ?_
                             refine resr2 rfl (rv_cellA (cs := [_, _, _, _, _, _, _, _, _, _, _, _, _]) RpcDec2_g27 RpcDec2_z27 rfl (by first | exact P3.whole | exact P6.whole | exact P9.whole | exact P10.whole)) (rv_tmp (v := .int _ _) rfl) ?_
                             exact ⟨.inl ⟨ss, es, ⟨by omega, by rw [← hm]; assumption, by rw [← hm]; exact hg30, hgs, hyes⟩, A38, c38, rfl, own_only3 (he38.kept_from E45) O10 (own_off (he38.kept_from E45) (hk2.from_ E45) (by decide))⟩, ((((((((From.rfl_.next E2).next D72).next E30).next E38).next E7).only O7 (hg7)).next E45).only O10 (hg2))⟩
                 · refine st_val (ro_move (v := .tuple _) rfl) ?_
                   refine st_val (ro_extract rfl rfl) ?_
                   refine st_val (ro_extract rfl rfl) ?_
                   have hlt7 := (hk2.from_ (((From.rfl_.next D72).next E30).next E38)).lt
                   refine st_alloc RpcDec2_o27 ?_
                   intro b7 w106 E7 hb7 hk7
                   have hg7 : w.heap.size ≤ b7 := by rw [hb7]; exact (((((From.rfl_.next E2).next D72).next E30).next E38)).size
                   replace hk2 := hk2.from_ ((((From.rfl_.next D72).next E30).next E38).next E7)
                   have h27 : b2 < b7 := by omega
                   try replace he38 := he38.kept_from E7
                   refine st_putW (vs := [_, _, _, _, _, _, _, _, _, _, _, _, _]) RpcDec2_z27 rfl rfl (by simp [Value.oneCell']) (hk7) rfl ?_
                   intro w107 O7 P7
                   replace hk2 := hk2.only O7 (by omega)
                   try replace he38 := own_only3 he38 O7 (own_off he38 hk7 (by decide))
                   refine st_val (ro_assign (v := .bool _) rfl) ?_
                   refine st_nil ?_
                   refine nx_then ?_
                   refine cd_seq ?_
                   refine cd_seq ?_
                   refine cd_region ?_
                   refine st_val (ro_move (v := .bool _) rfl) ?_
                   refine st_val (ro_not rfl) ?_
                   refine st_val (ro_move (v := .bool _) rfl) ?_
                   refine st_split (t := 43) rfl (fun Q108 => ?_) (fun Q108 => ?_)
                   · (try first | replace Q108 := bn_t Q108 | replace Q108 := bn_f Q108)
                     (try first | replace Q108 := bx_t Q108 | replace Q108 := bx_f Q108 | replace Q108 := be_t Q108 | replace Q108 := be_f Q108 | replace Q108 := of_decide_eq_true Q108 | replace Q108 := of_decide_eq_false Q108)
                     first
                      | (exfalso; first | omega | contradiction | (cases Q108; done))
                      | skip
                        refine st_gno rfl rfl ?_
                        refine st_gno rfl rfl ?_
                        refine st_gno rfl rfl ?_
                        refine st_val (ro_pickT (v := .bool _) rfl rfl) ?_
                        refine st_nil ?_
                        refine nx_then ?_
                        refine cd_condT rfl ?_
                        refine cd_seq ?_
                        refine cd_region ?_
                        refine st_val (ro_build (l := []) (RpcDec2_b27_)) ?_
                        refine st_putW (vs := [_, _, _, _, _, _, _, _, _, _, _, _, _]) RpcDec2_z27 rfl rfl (by simp [Value.oneCell']) ((hk2.from_ From.rfl_)) rfl ?_
                        intro w109 O9 P9
                        refine st_val (ro_assign (v := .int _ _) rfl) ?_
                        refine st_nil ?_
                        refine nx_then ?_
                        refine cd_ret ?_
                        refine rt_then ?_
                        refine resr2 rfl (rv_cellA (cs := [_, _, _, _, _, _, _, _, _, _, _, _, _]) RpcDec2_g27 RpcDec2_z27 rfl (by first | exact P3.whole | exact P6.whole | exact P9.whole | exact P10.whole)) (rv_tmp (v := .int _ _) rfl) ?_
                        first
                          | exact ⟨.inr ⟨fun ss2 es2 hg => (by have h1 := hg.2.2.1; rw [← hm, hg30] at h1; cases h1; exact hno38 _ hg.2.2.2.1), rfl⟩, (((((((From.rfl_.next E2).next D72).next E30).next E38).next E7).only O7 (hg7)).only O9 (hg2))⟩
                          | exact ⟨.inr ⟨fun ss2 es2 hg => (by have h1 := hg.2.2.1; rw [← hm, hg30] at h1; cases h1; obtain rfl := entsS_uniq hgs hg.2.2.2.1; exact hno hg.2.2.2.2), rfl⟩, (((((((From.rfl_.next E2).next D72).next E30).next E38).next E7).only O7 (hg7)).only O9 (hg2))⟩
                   · (try first | replace Q108 := bn_t Q108 | replace Q108 := bn_f Q108)
                     (try first | replace Q108 := bx_t Q108 | replace Q108 := bx_f Q108 | replace Q108 := be_t Q108 | replace Q108 := be_f Q108 | replace Q108 := of_decide_eq_true Q108 | replace Q108 := of_decide_eq_false Q108)
                     first
                      | (exfalso; first | omega | contradiction | (cases Q108; done))
                      | skip
                        refine st_unguard rfl ?_
                        refine st_val (ro_loadA (cs := [_, _, _, _, _, _, _, _, _, _, _, _, _]) RpcDec2_g27 RpcDec2_z27 rfl (by exact P7.whole)) ?_
                        refine st_unguard rfl ?_
                        refine st_call RpcDec2_k13 (check_r (nv (sAt ss 0) : Nat) (nv (sAt ss 1) : Nat) (nv (sAt ss 2) : Nat) (nv (sAt ss 3) : Nat) (nv (sAt ss 4) : Nat) (nv (sAt ss 5) : Nat) (nv (sAt ss 6) : Nat) (nv (sAt ss 7) : Nat) (((nv (sAt ss 9) : Nat) : Int) == 1) A38 _ c38 (nv (sAt ss 8) : Nat) (sAt ss 11) (((nv (sAt ss 10) : Nat) : Int) == 1) _ es rfl (Ents.of_own he38 rfl) (by have := entsS_len hgs.2.2.2.2; rw [List.length_drop] at this; omega)) ?_
                        rintro v45 w110 ⟨rfl, E45⟩
                        refine st_unguard rfl ?_
                        refine st_val (ro_neq rfl rfl) ?_
                        refine st_val (ro_pickF (v := .bool _) rfl rfl) ?_
                        refine st_nil ?_
                        refine nx_then ?_
                        refine cd_cond rfl (fun Q111 => ?_) (fun Q111 => ?_)
                        · (try first | replace Q111 := bn_t Q111 | replace Q111 := bn_f Q111)
                          (try first | replace Q111 := bx_t Q111 | replace Q111 := bx_f Q111 | replace Q111 := be_t Q111 | replace Q111 := be_f Q111 | replace Q111 := of_decide_eq_true Q111 | replace Q111 := of_decide_eq_false Q111)
                          try (have hno : ¬ OkS ss es := fun h => by (have h2 := Q111; rw [if_pos (show OkR (nv (sAt ss 0) : Nat) (nv (sAt ss 1) : Nat) (nv (sAt ss 2) : Nat) (nv (sAt ss 3) : Nat) (nv (sAt ss 4) : Nat) (nv (sAt ss 5) : Nat) (nv (sAt ss 6) : Nat) (nv (sAt ss 7) : Nat) (((nv (sAt ss 9) : Nat) : Int) == 1) es (nv (sAt ss 8) : Nat) (sAt ss 11) (((nv (sAt ss 10) : Nat) : Int) == 1) from h)] at h2; simp at h2))
                          first
                           | (exfalso; first | omega | contradiction | (cases Q111; done))
                           | skip
                             refine cd_seq ?_
                             refine cd_region ?_
                             refine st_val (ro_build (l := []) (RpcDec2_b27_)) ?_
                             refine st_putW (vs := [_, _, _, _, _, _, _, _, _, _, _, _, _]) RpcDec2_z27 rfl rfl (by simp [Value.oneCell']) ((hk2.from_ (From.rfl_.next E45))) rfl ?_
                             intro w112 O9 P9
                             refine st_val (ro_assign (v := .int _ _) rfl) ?_
                             refine st_nil ?_
                             refine nx_then ?_
                             refine cd_ret ?_
                             refine rt_then ?_
                             refine resr2 rfl (rv_cellA (cs := [_, _, _, _, _, _, _, _, _, _, _, _, _]) RpcDec2_g27 RpcDec2_z27 rfl (by first | exact P3.whole | exact P6.whole | exact P9.whole | exact P10.whole)) (rv_tmp (v := .int _ _) rfl) ?_
                             first
                               | exact ⟨.inr ⟨fun ss2 es2 hg => (by have h1 := hg.2.2.1; rw [← hm, hg30] at h1; cases h1; exact hno38 _ hg.2.2.2.1), rfl⟩, ((((((((From.rfl_.next E2).next D72).next E30).next E38).next E7).only O7 (hg7)).next E45).only O9 (hg2))⟩
                               | exact ⟨.inr ⟨fun ss2 es2 hg => (by have h1 := hg.2.2.1; rw [← hm, hg30] at h1; cases h1; obtain rfl := entsS_uniq hgs hg.2.2.2.1; exact hno hg.2.2.2.2), rfl⟩, ((((((((From.rfl_.next E2).next D72).next E30).next E38).next E7).only O7 (hg7)).next E45).only O9 (hg2))⟩
                        · (try first | replace Q111 := bn_t Q111 | replace Q111 := bn_f Q111)
                          (try first | replace Q111 := bx_t Q111 | replace Q111 := bx_f Q111 | replace Q111 := be_t Q111 | replace Q111 := be_f Q111 | replace Q111 := of_decide_eq_true Q111 | replace Q111 := of_decide_eq_false Q111)
                          have hyes : OkS ss es := Classical.byContradiction fun h => by (have h2 := Q111; rw [if_neg (show ¬ OkR (nv (sAt ss 0) : Nat) (nv (sAt ss 1) : Nat) (nv (sAt ss 2) : Nat) (nv (sAt ss 3) : Nat) (nv (sAt ss 4) : Nat) (nv (sAt ss 5) : Nat) (nv (sAt ss 6) : Nat) (nv (sAt ss 7) : Nat) (((nv (sAt ss 9) : Nat) : Int) == 1) es (nv (sAt ss 8) : Nat) (sAt ss 11) (((nv (sAt ss 10) : Nat) : Int) == 1) from h)] at h2; simp at h2)
                          first
                           | (exfalso; first | omega | contradiction | (cases Q111; done))
                           | skip
                             refine cd_skip ?_
                             refine nx_then ?_
                             refine cd_seq ?_
                             refine cd_region ?_
                             refine st_val (ro_loadA (cs := [_, _, _, _, _, _, _, _, _, _, _, _, _]) RpcDec2_g27 RpcDec2_z27 rfl (by exact (P7.from_ (From.rfl_.next E45)).whole)) ?_
                             refine st_putW (vs := [_, _, _, _, _, _, _, _, _, _, _, _, _]) RpcDec2_z27 rfl rfl (by simp [Value.oneCell']) ((hk2.from_ (From.rfl_.next E45))) rfl ?_
                             intro w113 O10 P10
                             refine st_val (ro_assign (v := .int _ _) rfl) ?_
                             refine st_nil ?_
                             refine nx_then ?_
                             refine cd_ret ?_
                             refine resr2 rfl (rv_cellA (cs := [_, _, _, _, _, _, _, _, _, _, _, _, _]) RpcDec2_g27 RpcDec2_z27 rfl (by first | exact P3.whole | exact P6.whole | exact P9.whole | exact P10.whole)) (rv_tmp (v := .int _ _) rfl) ?_
                             exact ⟨.inl ⟨ss, es, ⟨by omega, by rw [← hm]; assumption, by rw [← hm]; exact hg30, hgs, hyes⟩, A38, c38, rfl, own_only3 (he38.kept_from E45) O10 (own_off (he38.kept_from E45) (hk2.from_ E45) (by decide))⟩, ((((((((From.rfl_.next E2).next D72).next E30).next E38).next E7).only O7 (hg7)).next E45).only O10 (hg2))⟩
end Go.Proofs.YtjliefglelcooaaDoor
