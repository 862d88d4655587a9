/- The laws of package ints: New, Parse. -/
import Derived.Test.YtgnmmifolhoaeaaIntsParse
import Derived.Test.YtgnmmifolhoaeaaAtRow
namespace Go.Proofs.Ytgnmmifolhoaeaa
open Go.RowKit

theorem IntsLaws_e23 : elemQ Try.prog 23 = some (47, 1) := by kernel_rfl
theorem IntsLaws_l23 : (elemQ Try.prog 23).isSome = true := by kernel_rfl
theorem IntsLaws_z47 : sizeQ Try.prog 47 = some 1 := by kernel_rfl
theorem IntsLaws_q23 : litQ Try.prog 23 = some (47, 1, 8, (.int .u64 0)) := by kernel_rfl
theorem IntsLaws_f26_1 : fieldQ Try.prog 26 1 = some 1 := by kernel_rfl
theorem IntsLaws_g23 : aggQ Try.prog 23 = some false := by kernel_rfl
theorem IntsLaws_f26_3 : fieldQ Try.prog 26 3 = some 3 := by kernel_rfl
theorem IntsLaws_g24 : aggQ Try.prog 24 = some false := by kernel_rfl
theorem IntsLaws_l24 : (elemQ Try.prog 24).isSome = true := by kernel_rfl
theorem IntsLaws_k9 : callable Try.prog 9 = true := by kernel_rfl
theorem IntsLaws_k12 : callable Try.prog 12 = true := by kernel_rfl
theorem IntsLaws_p29 : Try.prog.underlying 29 = some (.pointer (Try.prog.pointee 29)) := by kernel_rfl
theorem IntsLaws_k14 : callable Try.prog 14 = true := by kernel_rfl
theorem IntsLaws_q24 : litQ Try.prog 24 = some (5, 1, 1, (.int .u8 0)) := by kernel_rfl
theorem IntsLaws_k15 : callable Try.prog 15 = true := by kernel_rfl
theorem IntsLaws_l22 : (elemQ Try.prog 22).isSome = true := by kernel_rfl
theorem IntsLaws_e22 : elemQ Try.prog 22 = some (26, 4) := by kernel_rfl
theorem IntsLaws_g26 : aggQ Try.prog 26 = some true := by kernel_rfl
theorem IntsLaws_z26 : sizeQ Try.prog 26 = some 4 := by kernel_rfl
theorem IntsLaws_o26 : zeroQ Try.prog 26 = some (.agg #[.int .i64 0, .slice none 0 0, .int .i64 0, .slice none 0 0]) := by kernel_rfl
theorem IntsLaws_k7 : callable Try.prog 7 = true := by kernel_rfl
theorem IntsLaws_k8 : callable Try.prog 8 = true := by kernel_rfl
theorem IntsLaws_f26_0 : fieldQ Try.prog 26 0 = some 0 := by kernel_rfl
theorem IntsLaws_g3 : aggQ Try.prog 3 = some false := by kernel_rfl
theorem IntsLaws_k10 : callable Try.prog 10 = true := by kernel_rfl
theorem IntsLaws_k11 : callable Try.prog 11 = true := by kernel_rfl
theorem IntsLaws_k13 : callable Try.prog 13 = true := by kernel_rfl
theorem IntsLaws_k16 : callable Try.prog 16 = true := by kernel_rfl
theorem IntsLaws_k17 : callable Try.prog 17 = true := by kernel_rfl
theorem IntsLaws_k18 : callable Try.prog 18 = true := by kernel_rfl
/-- what New gives -/
def NewGot2 (w : World) (W : Int) (l : List Nat) (v : Value) (w' : World) : Prop :=
  (v = .tuple #[.pointer none, .int .i64 1] ∧ mayI W l = false) ∨ ∃ (g W1 : Nat), v = .tuple #[.pointer (some ⟨g, 0, none⟩), .int .i64 0] ∧ W = W1 ∧ mayI W l = true ∧ (∀ x ∈ l, x < 2 ^ W1) ∧ W1 ≤ 64 ∧ IntsAt w.heap.size w' g W1 l
theorem RowOf.row {α : Type} {f : α → Value} {w : World} {A : Option Addr} {l : List α} {c : Nat} (h : RowOf f w A l) : Row w (.slice A l.length c) (l.map f) := by
  refine ⟨A, c, by rw [List.length_map], fun h0 => ?_⟩
  rw [List.length_map] at h0
  obtain ⟨b, o, hA, hc⟩ := h h0
  refine ⟨b, o, hA, World.block_lt_of_cell? w _ (hc 0 h0), fun i u hu => ?_⟩
  rw [List.getElem?_map] at hu
  cases hx : l[i]? with
  | none => rw [hx] at hu; cases hu
  | some x =>
    rw [hx] at hu
    obtain ⟨hi, rfl⟩ := List.getElem?_eq_some_iff.1 hx
    simp only [Option.map_some, Option.some.injEq] at hu
    subst hu
    exact hc i hi
theorem new_rt (W : Int) (A : Option Addr) (c : Nat) (l : List Nat) (w : World) (hr : RowOf uV w A l) (hl : l.length ≤ 131072) (h64 : ∀ x ∈ l, x < 2 ^ 64) :
    Rt Try.prog 9 [.int .i64 W, .slice A l.length c] w fun v w' => NewGot2 w W l v w' ∧ From w w' := by
  have hrow : Row w (.slice A l.length c) (wordsV l) := hr.row
  cases hm : mayI W l with
  | false => exact Rt.mono (Rt.of (new_bad W _ l w hrow hl h64 hm)) fun v w' ⟨hv, hF⟩ => ⟨.inl ⟨hv, hm⟩, hF⟩
  | true =>
    obtain ⟨W1, rfl, hW, hlt⟩ := mayI_ok hm
    exact Calls.mono (new_ok W1 _ l w hrow hl hW hlt) fun e w' ⟨g, he, hi, hF⟩ => ⟨_, he, .inr ⟨g, W1, rfl, rfl, hm, hlt, hW, hi⟩, hF⟩
theorem bytes_rt (base g W : Nat) (l : List Nat) (w : World) (h : IntsAt base w g W l) :
    Rt Try.prog 14 [.pointer (some ⟨g, 0, none⟩)] w fun v w' => ∃ A c bs, v = .slice A (List.length bs) c ∧ w'.ownsRow w.heap.size 5 1 (.slice A bs.length c) bs.length (bs.map bV) ∧ bs.length = byteCnt W l.length ∧ PBp bs W l (l.length * W) ∧ From w w' := by
  obtain ⟨ws, hpk, hwl, hp, hz, hW, hlt, hn⟩ := h
  have hws : (∀ x ∈ ws, x < 2 ^ 64) ∧ PBp (bytesW ws (byteCnt W l.length)) W l (l.length * W) := by
    rcases Nat.eq_zero_or_pos W with h0 | h0
    · subst h0
      have hw0 : ws = [] := List.eq_nil_of_length_eq_zero (by rw [hwl]; simp [wordCount])
      subst hw0
      refine ⟨by simp, ?_⟩
      have : byteCnt 0 l.length = 0 := by simp [byteCnt]
      rw [this]
      exact pbp_zero 0 0 l
    · exact ⟨(hp h0).1, bytesW_pbp (hp h0)⟩
  refine Calls.mono (bytes_any base g W l ws w hpk hwl hws.1 hW hn) fun e w' ⟨v', he, ho, hF⟩ => ⟨v', he, ?_⟩
  obtain ⟨A, c, rfl⟩ := own_form ho
  exact ⟨A, c, bytesW ws (byteCnt W l.length), by rw [bytesW_len], by rw [bytesW_len]; exact ho, bytesW_len _ _, hws.2, hF⟩

set_option maxRecDepth 100000 in
set_option maxHeartbeats 400000 in
theorem spoilLongs_any (base : Nat) (A : Option Addr) (c : Nat) (l : List Nat) (w : World) (ho : w.ownsRow base 47 1 (.slice A l.length c) l.length (l.map uV)) (hn : l.length * 8 ≤ 140737488351232) (hbs : base ≤ w.heap.size) :
    Rt Try.prog 10 [.slice A l.length c] w (fun _ w' => w.grownBy w' (A.map (·.block))) := by
  refine enter (n := 15) Try.func10 rfl rfl rfl ?_
  refine cd_seq ?_
  refine cd_seq ?_
  refine cd_region ?_
  refine st_val (ro_assign (v := .int _ _) rfl) ?_
  refine st_nil ?_
  refine nx_then ?_
  refine cd_block ?_
  refine cd_loop (G := List Nat × Nat) [3, 4, 5, 6, 7, 8, 9, 10, 11] (fun (_, k) => [(2, .int .i64 (k : Nat))]) (fun (l1, k) w' => k ≤ l.length ∧ l1.length = l.length ∧ w'.ownsRow base 47 1 (.slice A l.length c) l.length (l1.map uV) ∧ w.grownBy w' (A.map (·.block))) (fun (_, k) => l.length - k) ((l, 0)) ⟨rfl, trivial⟩ ?_ ?_
  · exact ⟨Nat.zero_le _, rfl, ho, (From.rfl_ (a := w)).grown _⟩
  rintro ⟨l1, k⟩ ρ1 w1 ⟨hk, hlen, ho1, hG⟩
  refine cd_seq ?_
  refine cd_seq ?_
  refine cd_region ?_
  refine st_val (ro_move (v := .int _ _) rfl) ?_
  refine st_val (ro_move (v := .slice _ _ _) rfl) ?_
  refine st_val (ro_len IntsLaws_l23 rfl) ?_
  refine st_val (ro_lss rfl rfl) ?_
  refine st_nil ?_
  refine nx_then ?_
  refine cd_cond rfl (fun Q2 => ?_) (fun Q2 => ?_)
  · (try first | replace Q2 := bn_t Q2 | replace Q2 := bn_f Q2)
    (try first | replace Q2 := bx_t Q2 | replace Q2 := bx_f Q2 | replace Q2 := be_t Q2 | replace Q2 := be_f Q2 | replace Q2 := of_decide_eq_true Q2 | replace Q2 := of_decide_eq_false Q2)
    obtain ⟨g, rfl⟩ := own_some ho (by omega)
    first
     | (exfalso; first | omega | contradiction | (cases Q2; done))
     | skip
       refine cd_skip ?_
       refine nx_then ?_
       refine cd_seq ?_
       refine cd_block ?_
       refine cd_region ?_
       refine st_val (ro_move (v := .slice _ _ _) rfl) ?_
       refine st_val (ro_move (v := .int _ _) rfl) ?_
       refine st_val (ro_indexAddr0 IntsLaws_e23 rfl rfl (by omega)) ?_
       refine st_putOwn (v := .int _ _) IntsLaws_z47 rfl rfl rfl (ho1) (by omega) ?_
       intro w3 O3 P3
       refine st_nil ?_
       refine nx_block ?_
       refine nx_then ?_
       refine cd_region ?_
       refine st_val (ro_move (v := .int _ _) rfl) ?_
       refine st_val (ro_addN (b := 1) rfl rfl (by omega)) ?_
       refine st_val (ro_assign (v := .int _ _) rfl) ?_
       refine st_nil ?_
       refine nx_cut ((l1.set k 99, k + 1)) ⟨(by first | rfl | (refine int_eq ?_; omega)), trivial⟩ (by (iterate 20 refine agr_cons rfl ?_); exact agr_rfl) ⟨?_, ?_⟩
       · exact ⟨by omega, (List.length_set ..).trans hlen, by rw [List.map_set]; exact P3, grown_trans hG O3.grown⟩
       · show _ - _ < _ - _; omega
  · (try first | replace Q2 := bn_t Q2 | replace Q2 := bn_f Q2)
    (try first | replace Q2 := bx_t Q2 | replace Q2 := bx_f Q2 | replace Q2 := be_t Q2 | replace Q2 := be_f Q2 | replace Q2 := of_decide_eq_true Q2 | replace Q2 := of_decide_eq_false Q2)
    first
     | (exfalso; first | omega | contradiction | (cases Q2; done))
     | skip
       refine cd_exit ?_
       refine ex_then ?_
       refine ex_then ?_
       refine ex_block ?_
       refine nx_then ?_
       refine cd_region ?_
       refine st_val (ro_move (v := .slice _ _ _) rfl) ?_
       refine st_lit1 (v := .int _ _) IntsLaws_q23 rfl rfl rfl ?_
       intro b13 w4 E13 hb13 hk13
       refine st_appendB (base := base) IntsLaws_q23 rfl (by decide) rfl (A := A) (xs := l1.map uV) (news := [.int .u64 5]) (ho1.kept_from E13) (by have := hG.size; have := E13.size; omega) rfl rfl (fun _ => ⟨b13, 0, rfl, hk13.range 0 _ (fun j v h => by simpa using h)⟩) (fun h => by cases h) (by simp [Value.oneCell']) (by omega) (by omega) ?_
       intro A19 c19 w5 ho19 hg19
       refine st_val (ro_assign (v := .slice _ _ _) rfl) ?_
       refine st_nil ?_
       refine end_ret ?_
       refine res0 rfl ?_
       exact grown_trans hG (grown_trans (E13.grown _) hg19)
set_option maxRecDepth 100000 in
set_option maxHeartbeats 400000 in
theorem heavy_any (W N : Int) (A B : Option Addr) (n ca m cb : Nat) (w : World) :
    Rt Try.prog 7 [.agg #[.int .i64 W, .slice A n ca, .int .i64 N, .slice B m cb]] w (fun v w' => v = .bool (decide (300 < n ∨ 2000 < m)) ∧ From w w') := by
  refine enter (n := 13) Try.func7 rfl rfl rfl ?_
  refine cd_seq ?_
  refine cd_region ?_
  refine st_box (v := .agg _) rfl ?_
  intro b1 w1 E1 hb1 hk1
  refine st_val (ro_assign (v := .bool _) rfl) ?_
  refine st_nil ?_
  refine nx_then ?_
  refine cd_seq ?_
  refine cd_region ?_
  refine st_val (ro_fieldAddr IntsLaws_f26_1 rfl) ?_
  refine st_val (ro_load IntsLaws_g23 rfl (by exact hk1.rd 1 rfl)) ?_
  refine st_val (ro_len IntsLaws_l23 rfl) ?_
  refine st_val (ro_gtr rfl rfl) ?_
  refine st_val (ro_move (v := .bool _) rfl) ?_
  refine st_split (t := 7) rfl (fun Q2 => ?_) (fun Q2 => ?_)
  · (try first | replace Q2 := bn_t Q2 | replace Q2 := bn_f Q2)
    (try first | replace Q2 := bx_t Q2 | replace Q2 := bx_f Q2 | replace Q2 := be_t Q2 | replace Q2 := be_f Q2 | replace Q2 := of_decide_eq_true Q2 | replace Q2 := of_decide_eq_false Q2)
    first
     | (exfalso; first | omega | contradiction | (cases Q2; done))
     | skip
       refine st_gno rfl rfl ?_
       refine st_gno rfl rfl ?_
       refine st_gno rfl rfl ?_
       refine st_gno rfl rfl ?_
       refine st_val (ro_pickT (v := .bool _) rfl rfl) ?_
       refine st_val (ro_assign (v := .bool _) rfl) ?_
       refine st_nil ?_
       refine nx_then ?_
       refine cd_ret ?_
       refine res1 (v := .bool _) rfl rfl ?_
       refine ⟨?_, (From.rfl_.next E1)⟩
       first
         | rw [decide_eq_true (by omega)]
         | exact congrArg Value.bool (decide_eq_decide.2 (by omega))
  · (try first | replace Q2 := bn_t Q2 | replace Q2 := bn_f Q2)
    (try first | replace Q2 := bx_t Q2 | replace Q2 := bx_f Q2 | replace Q2 := be_t Q2 | replace Q2 := be_f Q2 | replace Q2 := of_decide_eq_true Q2 | replace Q2 := of_decide_eq_false Q2)
    first
     | (exfalso; first | omega | contradiction | (cases Q2; done))
     | skip
       refine st_unguard rfl ?_
       refine st_val (ro_fieldAddr IntsLaws_f26_3 rfl) ?_
       refine st_unguard rfl ?_
       refine st_val (ro_load IntsLaws_g24 rfl (by exact hk1.rd 3 rfl)) ?_
       refine st_unguard rfl ?_
       refine st_val (ro_len IntsLaws_l24 rfl) ?_
       refine st_unguard rfl ?_
       refine st_val (ro_gtr rfl rfl) ?_
       refine st_val (ro_pickF (v := .bool _) rfl rfl) ?_
       refine st_val (ro_assign (v := .bool _) rfl) ?_
       refine st_nil ?_
       refine nx_then ?_
       refine cd_ret ?_
       refine res1 (v := .bool _) rfl rfl ?_
       refine ⟨?_, (From.rfl_.next E1)⟩
       first
         | rw [decide_eq_true (by omega)]
         | exact congrArg Value.bool (decide_eq_decide.2 (by omega))
def askT : Ty := .pr (.int .i64) (.pr (.sl (.int .u64)) (.pr (.int .i64) (.pr (.sl (.int .u8)) .unit)))
structure AskAt (w : World) (b a : Nat) (W N : Int) (A : Option Addr) (ca : Nat) (L : List Nat) (B : Option Addr) (cb : Nat) (M : List Nat) : Prop where
  cells : w.rangeAt b a [.int .i64 W, .slice A L.length ca, .int .i64 N, .slice B M.length cb]
  rowL : RowOf uV w A L
  ltL : ∀ x ∈ L, x < 2 ^ 64
  rowM : RowOf bV w B M
  ltM : ∀ x ∈ M, x < 256
  lenM : M.length ≤ 140737488351232
theorem ask_at {w : World} {b a : Nat} {x : askT.den} (h : askT.At w (fun j => w.cell? ⟨b, a + j, none⟩) x) : ∃ W N A ca L B cb M, AskAt w b a W N A ca L B cb M := by
  obtain ⟨h0, h1, h2, h3, _⟩ := h
  obtain ⟨A, ca, L, c1, r1, l1, _, _⟩ := at_longs h1
  obtain ⟨B, cb, M, c3, r3, l3, b3, _⟩ := at_bytes' h3
  exact ⟨_, _, A, ca, L, B, cb, M, range4 h0.1 c1 h2.1 c3, r1, l1, r3, l3, b3⟩
theorem wakes_bits : PBp [53] 3 [5, 6] 6 := by
  refine ⟨by decide, fun t => ?_⟩
  by_cases h : t < 8
  · have : ∀ t : Fin 8, bitAt 8 [53] t.1 = if t.1 < 6 then bitAt 3 [5, 6] t.1 else false := by decide
    exact this ⟨t, h⟩
  · rw [bitAt_past (by simp; omega), if_neg (by omega)]
set_option maxRecDepth 100000 in
set_option maxHeartbeats 400000 in
theorem wakes_any (w : World) :
    Rt Try.prog 18 [] w (fun v w' => v = .bool true ∧ From w w') := by
  refine enter (n := 21) Try.func18 rfl rfl rfl ?_
  refine cd_seq ?_
  refine cd_region ?_
  refine st_val (ro_assign (v := .bool _) rfl) ?_
  refine st_nil ?_
  refine nx_then ?_
  refine cd_seq ?_
  refine cd_region ?_
  refine st_lits [.const (.int .u64 5), .const (.int .u64 6)] [.int .u64 5, .int .u64 6] IntsLaws_q23 rfl rfl rfl rfl (by simp [Value.cells]) ?_
  intro b4 w1 E4 hb4 hk4
  refine st_call IntsLaws_k9 (new_rt 3 (some ⟨b4, 0, none⟩) 2 [5, 6] _ (RowOf.blk hk4 (fun i hi => by match i, hi with | 0, _ => rfl | 1, _ => rfl)) (by simp) (by decide)) ?_
  rintro v5 w2 ⟨hn5, E5⟩
  rcases hn5 with ⟨_, hm⟩ | ⟨g5, W1, rfl, hW1, hm, hlt, hW, hI⟩
  · exact absurd hm (by decide)
  · obtain rfl : W1 = 3 := by omega
    refine st_val (ro_move (v := .tuple _) rfl) ?_
    refine st_val (ro_extract rfl rfl) ?_
    refine st_val (ro_extract rfl rfl) ?_
    refine st_val (ro_assign (v := .pointer _) rfl) ?_
    refine st_val (ro_assign (v := .int _ _) rfl) ?_
    refine st_nil ?_
    refine nx_then ?_
    refine cd_seq ?_
    refine cd_region ?_
    refine st_val (ro_move (v := .int _ _) rfl) ?_
    refine st_call IntsLaws_k12 (num_any _ _) ?_
    rintro v9 w3 ⟨rfl, rfl⟩
    refine st_val (ro_eql rfl rfl) ?_
    refine st_val (ro_move (v := .bool _) rfl) ?_
    refine st_split (t := 11) rfl (fun Q4 => ?_) (fun Q4 => ?_)
    · (try first | replace Q4 := bn_t Q4 | replace Q4 := bn_f Q4)
      (try first | replace Q4 := bx_t Q4 | replace Q4 := bx_f Q4 | replace Q4 := be_t Q4 | replace Q4 := be_f Q4 | replace Q4 := of_decide_eq_true Q4 | replace Q4 := of_decide_eq_false Q4)
      first
       | (exfalso; first | omega | contradiction | (cases Q4; done))
       | skip
         refine st_unguard rfl ?_
         refine st_val (ro_move (v := .pointer _) rfl) ?_
         refine st_unguard rfl ?_
         refine st_val (ro_neqNil IntsLaws_p29 rfl rfl) ?_
         refine st_val (ro_pickT (v := .bool _) rfl rfl) ?_
         refine st_val (ro_move (v := .bool _) rfl) ?_
         refine st_split (t := 15) rfl (fun Q5 => ?_) (fun Q5 => ?_)
         · (try first | replace Q5 := bn_t Q5 | replace Q5 := bn_f Q5)
           (try first | replace Q5 := bx_t Q5 | replace Q5 := bx_f Q5 | replace Q5 := be_t Q5 | replace Q5 := be_f Q5 | replace Q5 := of_decide_eq_true Q5 | replace Q5 := of_decide_eq_false Q5)
           first
            | (exfalso; first | omega | contradiction | (cases Q5; done))
            | skip
              refine st_unguard rfl ?_
              refine st_val (ro_move (v := .pointer _) rfl) ?_
              refine st_unguard rfl ?_
              refine st_call IntsLaws_k14 (bytes_rt _ _ _ _ _ hI) ?_
              rintro v17 w6 ⟨A17, c17, bs17, rfl, ho17, hl17, hp17, E17⟩
              refine st_unguard rfl ?_
              refine st_lit1 (v := .int _ _) IntsLaws_q24 rfl rfl rfl ?_
              intro b18 w7 E18 hb18 hk18
              refine st_unguard rfl ?_
              refine st_call IntsLaws_k15 (eqBytes_any A17 (some ⟨b18, 0, none⟩) c17 1 bs17 [53] _ ((RowOf.own ho17).2.from_ E18) (RowOf.blk hk18 (fun i hi => by match i, hi with | 0, _ => rfl)) (by rw [hl17]; decide)) ?_
              rintro v19 w8 ⟨rfl, E19⟩
              refine st_val (ro_pickT (v := .bool _) rfl rfl) ?_
              refine st_val (ro_assign (v := .bool _) rfl) ?_
              refine st_nil ?_
              refine nx_then ?_
              refine cd_ret ?_
              refine res1 (v := .bool _) rfl rfl ?_
              have hb17 : bs17 = [53] := pbp_unique hp17 wakes_bits (by rw [hl17]; rfl)
              exact ⟨by rw [decide_eq_true hb17], (((((From.rfl_.next E4).next E5).next E17).next E18).next E19)⟩
         · (try first | replace Q5 := bn_t Q5 | replace Q5 := bn_f Q5)
           (try first | replace Q5 := bx_t Q5 | replace Q5 := bx_f Q5 | replace Q5 := be_t Q5 | replace Q5 := be_f Q5 | replace Q5 := of_decide_eq_true Q5 | replace Q5 := of_decide_eq_false Q5)
           first
            | (exfalso; first | omega | contradiction | (cases Q5; done))
            | skip
              refine st_gno rfl rfl ?_
              refine st_gno rfl rfl ?_
              refine st_gno rfl rfl ?_
              refine st_gno rfl rfl ?_
              refine st_val (ro_pickF (v := .bool _) rfl rfl) ?_
              refine st_val (ro_assign (v := .bool _) rfl) ?_
              refine st_nil ?_
              refine nx_then ?_
              refine cd_ret ?_
              refine res1 (v := .bool _) rfl rfl ?_
              have hb17 : bs17 = [53] := pbp_unique hp17 wakes_bits (by rw [hl17]; rfl)
              exact ⟨by rw [decide_eq_true hb17], ((From.rfl_.next E4).next E5)⟩
    · (try first | replace Q4 := bn_t Q4 | replace Q4 := bn_f Q4)
      (try first | replace Q4 := bx_t Q4 | replace Q4 := bx_f Q4 | replace Q4 := be_t Q4 | replace Q4 := be_f Q4 | replace Q4 := of_decide_eq_true Q4 | replace Q4 := of_decide_eq_false Q4)
      first
       | (exfalso; first | omega | contradiction | (cases Q4; done))
       | skip
         refine st_gno rfl rfl ?_
         refine st_gno rfl rfl ?_
         refine st_val (ro_pickF (v := .bool _) rfl rfl) ?_
         refine st_val (ro_move (v := .bool _) rfl) ?_
         refine st_gno rfl rfl ?_
         refine st_gno rfl rfl ?_
         refine st_gno rfl rfl ?_
         refine st_gno rfl rfl ?_
         refine st_val (ro_pickF (v := .bool _) rfl rfl) ?_
         refine st_val (ro_assign (v := .bool _) rfl) ?_
         refine st_nil ?_
         refine nx_then ?_
         refine cd_ret ?_
         refine res1 (v := .bool _) rfl rfl ?_
         have hb17 : bs17 = [53] := pbp_unique hp17 wakes_bits (by rw [hl17]; rfl)
         exact ⟨by rw [decide_eq_true hb17], ((From.rfl_.next E4).next E5)⟩
theorem own_lt {w : World} {base e s n c k : Nat} {A : Option Addr} {xs : List Value} (h : w.ownsRow base e s (.slice A n c) n xs) (hk : A.map (·.block) = some k) : base ≤ k ∧ k < w.heap.size :=
  h.lt k (by cases A with | none => cases hk | some a => exact hk)
theorem same_self (base g W : Nat) (A : Option Addr) (c : Nat) (l : List Nat) (w : World) (hx : IntsAt base w g W l) (hm : RowOf uV w A l) (hml : l.length * 8 ≤ 140737488351232) :
    Rt Try.prog 13 [.pointer (some ⟨g, 0, none⟩), .int .i64 W, .slice A l.length c] w fun v w' => v = .bool true ∧ From w w' :=
  Rt.mono (same_any base g W W A c l l w hx hm hml) fun v w' h => ⟨by rw [h.1, decide_eq_true ⟨rfl, rfl⟩], h.2⟩
theorem eqBytes_eq (A B : Option Addr) (ca cb : Nat) (a b : List Nat) (w : World) (ha : RowOf bV w A a) (hb : RowOf bV w B b) (hla : a.length ≤ 140737488351232) (he : a = b) :
    Rt Try.prog 15 [.slice A a.length ca, .slice B b.length cb] w fun v w' => v = .bool true ∧ From w w' :=
  Rt.mono (eqBytes_any A B ca cb a b w ha hb (by omega)) fun v w' h => ⟨by rw [h.1, decide_eq_true he], h.2⟩
theorem may_eq (W : Int) (A : Option Addr) (c : Nat) (l : List Nat) (w : World) (m : Bool) (hm : mayI W l = m) (hr : RowOf uV w A l) (hl : l.length * 8 ≤ 140737488351232) (h64 : ∀ x ∈ l, x < 2 ^ 64) :
    Rt Try.prog 11 [.int .i64 W, .slice A l.length c] w fun v w' => v = .bool m ∧ From w w' := hm ▸ may_any W A c l w hr hl h64
set_option maxRecDepth 100000 in
set_option maxHeartbeats 2000000 in
theorem intsNew_law (A : Option Addr) (c : Nat) (xs : List askT.den) (w : World) (hl : xs.length * askT.bytes ≤ 140737488351232) (hel : 0 < xs.length → ∃ b o, A = some ⟨b, o, none⟩ ∧ ∀ (i : Nat) (hi : i < xs.length), askT.At w (fun j => w.cell? ⟨b, o + i * askT.size + j, none⟩) xs[i]) :
    Rt Try.prog 3 [.slice A xs.length c] w (fun v w' => v = .bool true ∧ From w w') := by
  have hlen : xs.length * 64 ≤ 140737488351232 := hl
  refine enter (n := 86) Try.func3 rfl rfl rfl ?_
  refine cd_seq ?_
  refine cd_region ?_
  refine st_val (ro_assign (v := .bool _) rfl) ?_
  refine st_nil ?_
  refine nx_then ?_
  refine cd_seq ?_
  refine cd_seq ?_
  refine cd_region ?_
  refine st_val (ro_assign (v := .int _ _) rfl) ?_
  refine st_nil ?_
  refine nx_then ?_
  refine cd_block ?_
  refine cd_loop (G := Nat) [2, 4, 5, 6, 7, 8, 9, 10, 11, 12, 13, 14, 15, 16, 17, 18, 19, 20, 21, 22, 23, 24, 25, 26, 27, 28, 29, 30, 31, 32, 33, 34, 35, 36, 37, 38, 39, 40, 41, 42, 43, 44, 45, 46, 47, 48, 49, 50, 51, 52, 53, 54, 55, 56, 57, 58, 59, 60, 61, 62, 63, 64, 65, 66, 67, 68, 69, 70, 71, 72, 73, 74, 75, 76, 77, 78, 79, 80, 81, 82, 83, 84] (fun k => [(3, .int .i64 (k : Nat))]) (fun k w' => k ≤ xs.length ∧ From w w') (fun k => xs.length - k) (0) ⟨rfl, trivial⟩ ?_ ?_
  · exact ⟨Nat.zero_le _, From.rfl_⟩
  rintro k ρ1 w1 ⟨hk, hB⟩
  refine cd_seq ?_
  refine cd_seq ?_
  refine cd_region ?_
  refine st_val (ro_move (v := .int _ _) rfl) ?_
  refine st_val (ro_move (v := .slice _ _ _) rfl) ?_
  refine st_val (ro_len IntsLaws_l22 rfl) ?_
  refine st_val (ro_lss rfl rfl) ?_
  refine st_val (ro_move (v := .bool _) rfl) ?_
  refine st_split (t := 13) rfl (fun Q2 => ?_) (fun Q2 => ?_)
  · (try first | replace Q2 := bn_t Q2 | replace Q2 := bn_f Q2)
    (try first | replace Q2 := bx_t Q2 | replace Q2 := bx_f Q2 | replace Q2 := be_t Q2 | replace Q2 := be_f Q2 | replace Q2 := of_decide_eq_true Q2 | replace Q2 := of_decide_eq_false Q2)
    obtain ⟨b, o, rfl, hel2⟩ := hel (by omega)
    obtain ⟨W, N, A1, ca, L, A2, cb, M, hask⟩ := ask_at (hel2 k (by omega))
    first
     | (exfalso; first | omega | contradiction | (cases Q2; done))
     | skip
       refine st_unguard rfl ?_
       refine st_val (ro_move (v := .int _ _) rfl) ?_
       refine st_unguard rfl ?_
       refine st_val (ro_lss rfl rfl) ?_
       refine st_val (ro_pickT (v := .bool _) rfl rfl) ?_
       refine st_nil ?_
       refine nx_then ?_
       refine cd_cond rfl (fun Q3 => ?_) (fun Q3 => ?_)
       · (try first | replace Q3 := bn_t Q3 | replace Q3 := bn_f Q3)
         (try first | replace Q3 := bx_t Q3 | replace Q3 := bx_f Q3 | replace Q3 := be_t Q3 | replace Q3 := be_f Q3 | replace Q3 := of_decide_eq_true Q3 | replace Q3 := of_decide_eq_false Q3)
         first
          | (exfalso; first | omega | contradiction | (cases Q3; done))
          | skip
            refine cd_skip ?_
            refine nx_then ?_
            refine cd_seq ?_
            refine cd_block ?_
            refine cd_seq ?_
            refine cd_region ?_
            refine st_val (ro_move (v := .slice _ _ _) rfl) ?_
            refine st_val (ro_move (v := .int _ _) rfl) ?_
            refine st_val (ro_indexAddrN IntsLaws_e22 rfl rfl (by omega)) ?_
            refine st_val (ro_loadA (cs := [_, _, _, _]) IntsLaws_g26 IntsLaws_z26 rfl (by exact rangeF hB hask.cells)) ?_
            refine st_alloc IntsLaws_o26 ?_
            intro b4 w4 E4 hb4 hk4
            refine st_putW (vs := [_, _, _, _]) IntsLaws_z26 rfl rfl (by simp [Value.oneCell']) (hk4) rfl ?_
            intro w5 O4 P4
            refine st_nil ?_
            refine nx_then ?_
            refine cd_seq ?_
            refine cd_seq ?_
            refine cd_region ?_
            refine st_val (ro_loadA (cs := [_, _, _, _]) IntsLaws_g26 IntsLaws_z26 rfl (by exact P4.whole)) ?_
            refine st_call IntsLaws_k7 (heavy_any W N A1 A2 L.length ca M.length cb _) ?_
            rintro v24 w6 ⟨rfl, E24⟩
            refine st_nil ?_
            refine nx_then ?_
            refine cd_cond rfl (fun Q7 => ?_) (fun Q7 => ?_)
            · (try first | replace Q7 := bn_t Q7 | replace Q7 := bn_f Q7)
              (try first | replace Q7 := bx_t Q7 | replace Q7 := bx_f Q7 | replace Q7 := be_t Q7 | replace Q7 := be_f Q7 | replace Q7 := of_decide_eq_true Q7 | replace Q7 := of_decide_eq_false Q7)
              first
               | (exfalso; first | omega | contradiction | (cases Q7; done))
               | skip
                 refine cd_seq ?_
                 refine cd_region ?_
                 refine st_val (ro_assign (v := .bool _) rfl) ?_
                 refine st_nil ?_
                 refine nx_then ?_
                 refine cd_ret ?_
                 refine rt_then ?_
                 refine rt_block ?_
                 refine rt_then ?_
                 refine rt_then ?_
                 refine rt_block ?_
                 refine rt_then ?_
                 refine res1 (v := .bool _) rfl rfl ?_
                 exact ⟨rfl, (((hB.next E4).only O4 (by rw [hb4]; exact hB.size)).next E24)⟩
            · (try first | replace Q7 := bn_t Q7 | replace Q7 := bn_f Q7)
              (try first | replace Q7 := bx_t Q7 | replace Q7 := bx_f Q7 | replace Q7 := be_t Q7 | replace Q7 := be_f Q7 | replace Q7 := of_decide_eq_true Q7 | replace Q7 := of_decide_eq_false Q7)
              first
               | (exfalso; first | omega | contradiction | (cases Q7; done))
               | skip
                 refine cd_skip ?_
                 refine nx_then ?_
                 refine cd_seq ?_
                 refine cd_region ?_
                 refine st_val (ro_fieldAddr IntsLaws_f26_1 rfl) ?_
                 refine st_val (ro_load IntsLaws_g23 rfl (by first | (first | exact (P4.from_ (From.rfl_.next E24)).rd 0 rfl | exact (P4.from_ (From.rfl_.next E24)).rd 1 rfl | exact (P4.from_ (From.rfl_.next E24)).rd 2 rfl | exact (P4.from_ (From.rfl_.next E24)).rd 3 rfl))) ?_
                 have hlt27 := (P4.from_ (From.rfl_.next E24)).lt
                 have hB27 := (((hB.next E4).only O4 (by rw [hb4]; exact hB.size)).next E24)
                 refine st_call IntsLaws_k8 (copyLongs_any A1 ca L _ (hask.rowL.from_ (((hB.next E4).only O4 (by rw [hb4]; exact hB.size)).next E24)) (by omega)) ?_
                 rintro v27 w8 ⟨A27, c27, rfl, ho27, E27⟩
                 refine st_val (ro_assign (v := .slice _ _ _) rfl) ?_
                 refine st_nil ?_
                 refine nx_then ?_
                 refine cd_seq ?_
                 refine cd_region ?_
                 refine st_val (ro_fieldAddr IntsLaws_f26_0 rfl) ?_
                 refine st_val (ro_load IntsLaws_g3 rfl (by first | (first | exact (P4.from_ ((From.rfl_.next E24).next E27)).rd 0 rfl | exact (P4.from_ ((From.rfl_.next E24).next E27)).rd 1 rfl | exact (P4.from_ ((From.rfl_.next E24).next E27)).rd 2 rfl | exact (P4.from_ ((From.rfl_.next E24).next E27)).rd 3 rfl))) ?_
                 refine st_val (ro_move (v := .slice _ _ _) rfl) ?_
                 refine st_call IntsLaws_k9 (new_rt W A27 c27 L _ (RowOf.own ho27).2 (by omega) hask.ltL) ?_
                 rintro v32 w9 ⟨hn32, E32⟩
                 rcases hn32 with ⟨rfl, hm⟩ | ⟨g, W1, rfl, rfl, hm, hlt, hW, hI⟩
                 · refine st_val (ro_move (v := .tuple _) rfl) ?_
                   refine st_val (ro_extract rfl rfl) ?_
                   refine st_val (ro_extract rfl rfl) ?_
                   refine st_val (ro_assign (v := .pointer _) rfl) ?_
                   refine st_val (ro_assign (v := .int _ _) rfl) ?_
                   refine st_nil ?_
                   refine nx_then ?_
                   refine cd_seq ?_
                   refine cd_region ?_
                   refine st_val (ro_move (v := .slice _ _ _) rfl) ?_
                   refine st_call IntsLaws_k10 (spoilLongs_any _ A27 c27 L _ (ho27.kept_from E32) (by omega) (by have := E27.size; have := E32.size; omega)) ?_
                   rintro v36 w10 hG36
                   replace P4 := (P4.from_ (((From.rfl_.next E24).next E27).next E32)).grown hG36 (fun k hk e => by have := (own_lt ho27 hk).1; omega)
                   (try replace hI := hI.kept hG36 (fun k hk => (own_lt ho27 hk).2))
                   refine st_nil ?_
                   refine nx_then ?_
                   refine cd_seq ?_
                   refine cd_seq ?_
                   refine cd_region ?_
                   refine st_val (ro_fieldAddr IntsLaws_f26_0 rfl) ?_
                   refine st_val (ro_load IntsLaws_g3 rfl (by first | (first | exact (P4.from_ From.rfl_).rd 0 rfl | exact (P4.from_ From.rfl_).rd 1 rfl | exact (P4.from_ From.rfl_).rd 2 rfl | exact (P4.from_ From.rfl_).rd 3 rfl))) ?_
                   refine st_val (ro_fieldAddr IntsLaws_f26_1 rfl) ?_
                   refine st_val (ro_load IntsLaws_g23 rfl (by first | (first | exact (P4.from_ From.rfl_).rd 0 rfl | exact (P4.from_ From.rfl_).rd 1 rfl | exact (P4.from_ From.rfl_).rd 2 rfl | exact (P4.from_ From.rfl_).rd 3 rfl))) ?_
                   refine st_call IntsLaws_k11 (may_eq _ A1 ca L _ _ hm (hask.rowL.from_ ((((((hB.next E4).only O4 (by rw [hb4]; exact hB.size)).next E24).next E27).next E32).grew hG36 (fun k hk => Nat.le_trans hB27.size (own_lt ho27 hk).1))) (by omega) hask.ltL) ?_
                   rintro v41 w11 ⟨rfl, E41⟩
                   refine st_val (ro_not rfl) ?_
                   refine st_nil ?_
                   refine nx_then ?_
                   refine cd_cond rfl (fun Q12 => ?_) (fun Q12 => ?_)
                   · (try first | replace Q12 := bn_t Q12 | replace Q12 := bn_f Q12)
                     (try first | replace Q12 := bx_t Q12 | replace Q12 := bx_f Q12 | replace Q12 := be_t Q12 | replace Q12 := be_f Q12 | replace Q12 := of_decide_eq_true Q12 | replace Q12 := of_decide_eq_false Q12)
                     first
                      | (exfalso; first | omega | contradiction | (cases Q12; done))
                      | skip
                        refine cd_seq ?_
                        refine cd_seq ?_
                        refine cd_region ?_
                        refine st_val (ro_move (v := .int _ _) rfl) ?_
                        refine st_call IntsLaws_k12 (num_any _ _) ?_
                        rintro v44 w13 ⟨rfl, rfl⟩
                        refine st_val (ro_neq rfl rfl) ?_
                        refine st_val (ro_move (v := .bool _) rfl) ?_
                        refine st_split (t := 46) rfl (fun Q14 => ?_) (fun Q14 => ?_)
                        · (try first | replace Q14 := bn_t Q14 | replace Q14 := bn_f Q14)
                          (try first | replace Q14 := bx_t Q14 | replace Q14 := bx_f Q14 | replace Q14 := be_t Q14 | replace Q14 := be_f Q14 | replace Q14 := of_decide_eq_true Q14 | replace Q14 := of_decide_eq_false Q14)
                          first
                           | (exfalso; first | omega | contradiction | (cases Q14; done))
                           | skip
                             refine st_gno rfl rfl ?_
                             refine st_gno rfl rfl ?_
                             refine st_val (ro_pickT (v := .bool _) rfl rfl) ?_
                             refine st_nil ?_
                             refine nx_then ?_
                             refine cd_condT rfl ?_
                             refine cd_seq ?_
                             refine cd_region ?_
                             refine st_val (ro_assign (v := .bool _) rfl) ?_
                             refine st_nil ?_
                             refine nx_then ?_
                             refine cd_ret ?_
                             refine rt_then ?_
                             refine rt_then ?_
                             refine rt_block ?_
                             refine rt_then ?_
                             refine rt_then ?_
                             refine rt_block ?_
                             refine rt_then ?_
                             refine res1 (v := .bool _) rfl rfl ?_
                             exfalso; first | omega | contradiction
                        · (try first | replace Q14 := bn_t Q14 | replace Q14 := bn_f Q14)
                          (try first | replace Q14 := bx_t Q14 | replace Q14 := bx_f Q14 | replace Q14 := be_t Q14 | replace Q14 := be_f Q14 | replace Q14 := of_decide_eq_true Q14 | replace Q14 := of_decide_eq_false Q14)
                          first
                           | (exfalso; first | omega | contradiction | (cases Q14; done))
                           | skip
                             refine st_unguard rfl ?_
                             refine st_val (ro_move (v := .pointer _) rfl) ?_
                             refine st_unguard rfl ?_
                             refine st_val (ro_neqNil IntsLaws_p29 rfl rfl) ?_
                             refine st_val (ro_pickF (v := .bool _) rfl rfl) ?_
                             refine st_nil ?_
                             refine nx_then ?_
                             refine cd_cond rfl (fun Q15 => ?_) (fun Q15 => ?_)
                             · (try first | replace Q15 := bn_t Q15 | replace Q15 := bn_f Q15)
                               (try first | replace Q15 := bx_t Q15 | replace Q15 := bx_f Q15 | replace Q15 := be_t Q15 | replace Q15 := be_f Q15 | replace Q15 := of_decide_eq_true Q15 | replace Q15 := of_decide_eq_false Q15)
                               first
                                | (exfalso; first | omega | contradiction | (cases Q15; done))
                                | skip
                                  refine cd_seq ?_
                                  refine cd_region ?_
                                  refine st_val (ro_assign (v := .bool _) rfl) ?_
                                  refine st_nil ?_
                                  refine nx_then ?_
                                  refine cd_ret ?_
                                  refine rt_then ?_
                                  refine rt_then ?_
                                  refine rt_block ?_
                                  refine rt_then ?_
                                  refine rt_then ?_
                                  refine rt_block ?_
                                  refine rt_then ?_
                                  refine res1 (v := .bool _) rfl rfl ?_
                                  exfalso; first | omega | contradiction
                             · (try first | replace Q15 := bn_t Q15 | replace Q15 := bn_f Q15)
                               (try first | replace Q15 := bx_t Q15 | replace Q15 := bx_f Q15 | replace Q15 := be_t Q15 | replace Q15 := be_f Q15 | replace Q15 := of_decide_eq_true Q15 | replace Q15 := of_decide_eq_false Q15)
                               first
                                | (exfalso; first | omega | contradiction | (cases Q15; done))
                                | skip
                                  refine cd_skip ?_
                                  refine nx_then ?_
                                  refine cd_exit ?_
                                  refine ex_then ?_
                                  refine ex_block ?_
                                  refine nx_then ?_
                                  refine cd_region ?_
                                  refine st_val (ro_move (v := .int _ _) rfl) ?_
                                  refine st_val (ro_addN (b := 1) rfl rfl (by omega)) ?_
                                  refine st_val (ro_assign (v := .int _ _) rfl) ?_
                                  refine st_nil ?_
                                  refine nx_cut (k + 1) ⟨(by first | rfl | (refine int_eq ?_; omega)), trivial⟩ (by (iterate 131 refine agr_cons rfl ?_); exact agr_rfl) ⟨?_, ?_⟩
                                  · exact ⟨by omega, (((((((hB.next E4).only O4 (by rw [hb4]; exact hB.size)).next E24).next E27).next E32).grew hG36 (fun k hk => Nat.le_trans hB27.size (own_lt ho27 hk).1)).next E41)⟩
                                  · omega
                   · (try first | replace Q12 := bn_t Q12 | replace Q12 := bn_f Q12)
                     (try first | replace Q12 := bx_t Q12 | replace Q12 := bx_f Q12 | replace Q12 := be_t Q12 | replace Q12 := be_f Q12 | replace Q12 := of_decide_eq_true Q12 | replace Q12 := of_decide_eq_false Q12)
                     first
                      | (exfalso; first | omega | contradiction | (cases Q12; done))
                      | skip
                        refine cd_skip ?_
                        refine nx_then ?_
                        refine cd_seq ?_
                        refine cd_seq ?_
                        refine cd_region ?_
                        refine st_val (ro_move (v := .int _ _) rfl) ?_
                        refine st_call IntsLaws_k12 (num_any _ _) ?_
                        rintro v51 w16 ⟨rfl, rfl⟩
                        refine st_val (ro_neq rfl rfl) ?_
                        refine st_val (ro_move (v := .bool _) rfl) ?_
                        refine st_split (t := 53) rfl (fun Q17 => ?_) (fun Q17 => ?_)
                        · (try first | replace Q17 := bn_t Q17 | replace Q17 := bn_f Q17)
                          (try first | replace Q17 := bx_t Q17 | replace Q17 := bx_f Q17 | replace Q17 := be_t Q17 | replace Q17 := be_f Q17 | replace Q17 := of_decide_eq_true Q17 | replace Q17 := of_decide_eq_false Q17)
                          first
                           | (exfalso; first | omega | contradiction | (cases Q17; done))
                           | skip
                             refine st_gno rfl rfl ?_
                             refine st_gno rfl rfl ?_
                             refine st_val (ro_pickT (v := .bool _) rfl rfl) ?_
                             refine st_val (ro_move (v := .bool _) rfl) ?_
                             refine st_gno rfl rfl ?_
                             refine st_gno rfl rfl ?_
                             refine st_gno rfl rfl ?_
                             refine st_gno rfl rfl ?_
                             refine st_gno rfl rfl ?_
                             refine st_gno rfl rfl ?_
                             refine st_gno rfl rfl ?_
                             refine st_val (ro_pickT (v := .bool _) rfl rfl) ?_
                             refine st_nil ?_
                             refine nx_then ?_
                             refine cd_condT rfl ?_
                             refine cd_seq ?_
                             refine cd_region ?_
                             refine st_val (ro_assign (v := .bool _) rfl) ?_
                             refine st_nil ?_
                             refine nx_then ?_
                             refine cd_ret ?_
                             refine rt_then ?_
                             refine rt_block ?_
                             refine rt_then ?_
                             refine rt_then ?_
                             refine rt_block ?_
                             refine rt_then ?_
                             refine res1 (v := .bool _) rfl rfl ?_
                             exfalso; first | omega | contradiction
                        · (try first | replace Q17 := bn_t Q17 | replace Q17 := bn_f Q17)
                          (try first | replace Q17 := bx_t Q17 | replace Q17 := bx_f Q17 | replace Q17 := be_t Q17 | replace Q17 := be_f Q17 | replace Q17 := of_decide_eq_true Q17 | replace Q17 := of_decide_eq_false Q17)
                          first
                           | (exfalso; first | omega | contradiction | (cases Q17; done))
                           | skip
                             refine st_unguard rfl ?_
                             refine st_val (ro_move (v := .pointer _) rfl) ?_
                             refine st_unguard rfl ?_
                             refine st_val (ro_eqlNil IntsLaws_p29 rfl rfl) ?_
                             refine st_val (ro_pickF (v := .bool _) rfl rfl) ?_
                             refine st_val (ro_move (v := .bool _) rfl) ?_
                             refine st_split (t := 57) rfl (fun Q18 => ?_) (fun Q18 => ?_)
                             · (try first | replace Q18 := bn_t Q18 | replace Q18 := bn_f Q18)
                               (try first | replace Q18 := bx_t Q18 | replace Q18 := bx_f Q18 | replace Q18 := be_t Q18 | replace Q18 := be_f Q18 | replace Q18 := of_decide_eq_true Q18 | replace Q18 := of_decide_eq_false Q18)
                               first
                                | (exfalso; first | omega | contradiction | (cases Q18; done))
                                | skip
                                  refine st_gno rfl rfl ?_
                                  refine st_gno rfl rfl ?_
                                  refine st_gno rfl rfl ?_
                                  refine st_gno rfl rfl ?_
                                  refine st_gno rfl rfl ?_
                                  refine st_gno rfl rfl ?_
                                  refine st_gno rfl rfl ?_
                                  refine st_val (ro_pickT (v := .bool _) rfl rfl) ?_
                                  refine st_nil ?_
                                  refine nx_then ?_
                                  refine cd_condT rfl ?_
                                  refine cd_seq ?_
                                  refine cd_region ?_
                                  refine st_val (ro_assign (v := .bool _) rfl) ?_
                                  refine st_nil ?_
                                  refine nx_then ?_
                                  refine cd_ret ?_
                                  refine rt_then ?_
                                  refine rt_block ?_
                                  refine rt_then ?_
                                  refine rt_then ?_
                                  refine rt_block ?_
                                  refine rt_then ?_
                                  refine res1 (v := .bool _) rfl rfl ?_
                                  exfalso; first | omega | contradiction
                             · (try first | replace Q18 := bn_t Q18 | replace Q18 := bn_f Q18)
                               (try first | replace Q18 := bx_t Q18 | replace Q18 := bx_f Q18 | replace Q18 := be_t Q18 | replace Q18 := be_f Q18 | replace Q18 := of_decide_eq_true Q18 | replace Q18 := of_decide_eq_false Q18)
                               first
                                | (exfalso; first | omega | contradiction | (cases Q18; done))
                                | skip
                                  refine st_unguard rfl ?_
                                  refine st_val (ro_move (v := .pointer _) rfl) ?_
                                  refine st_unguard rfl ?_
                                  refine st_val (ro_fieldAddr IntsLaws_f26_0 rfl) ?_
                                  refine st_unguard rfl ?_
                                  refine st_val (ro_load IntsLaws_g3 rfl (by first | (first | exact (P4.from_ (From.rfl_.next E41)).rd 0 rfl | exact (P4.from_ (From.rfl_.next E41)).rd 1 rfl | exact (P4.from_ (From.rfl_.next E41)).rd 2 rfl | exact (P4.from_ (From.rfl_.next E41)).rd 3 rfl))) ?_
                                  refine st_unguard rfl ?_
                                  refine st_val (ro_fieldAddr IntsLaws_f26_1 rfl) ?_
                                  refine st_unguard rfl ?_
                                  refine st_val (ro_load IntsLaws_g23 rfl (by first | (first | exact (P4.from_ (From.rfl_.next E41)).rd 0 rfl | exact (P4.from_ (From.rfl_.next E41)).rd 1 rfl | exact (P4.from_ (From.rfl_.next E41)).rd 2 rfl | exact (P4.from_ (From.rfl_.next E41)).rd 3 rfl))) ?_
                                  refine st_unguard rfl ?_
                                  refine st_call IntsLaws_k13 (same_self _ g W1 A1 ca L _ (hI.from_ (From.rfl_.next E41)) (hask.rowL.from_ (((((((hB.next E4).only O4 (by rw [hb4]; exact hB.size)).next E24).next E27).next E32).grew hG36 (fun k hk => Nat.le_trans hB27.size (own_lt ho27 hk).1)).next E41)) (by omega)) ?_
                                  rintro v63 w19 ⟨rfl, E63⟩
                                  refine st_unguard rfl ?_
                                  refine st_val (ro_not rfl) ?_
                                  refine st_val (ro_pickF (v := .bool _) rfl rfl) ?_
                                  refine st_nil ?_
                                  refine nx_then ?_
                                  refine cd_cond rfl (fun Q20 => ?_) (fun Q20 => ?_)
                                  · (try first | replace Q20 := bn_t Q20 | replace Q20 := bn_f Q20)
                                    (try first | replace Q20 := bx_t Q20 | replace Q20 := bx_f Q20 | replace Q20 := be_t Q20 | replace Q20 := be_f Q20 | replace Q20 := of_decide_eq_true Q20 | replace Q20 := of_decide_eq_false Q20)
                                    first
                                     | (exfalso; first | omega | contradiction | (cases Q20; done))
                                     | skip
                                       refine cd_seq ?_
                                       refine cd_region ?_
                                       refine st_val (ro_assign (v := .bool _) rfl) ?_
                                       refine st_nil ?_
                                       refine nx_then ?_
                                       refine cd_ret ?_
                                       refine rt_then ?_
                                       refine rt_block ?_
                                       refine rt_then ?_
                                       refine rt_then ?_
                                       refine rt_block ?_
                                       refine rt_then ?_
                                       refine res1 (v := .bool _) rfl rfl ?_
                                       exfalso; first | omega | contradiction
                                  · (try first | replace Q20 := bn_t Q20 | replace Q20 := bn_f Q20)
                                    (try first | replace Q20 := bx_t Q20 | replace Q20 := bx_f Q20 | replace Q20 := be_t Q20 | replace Q20 := be_f Q20 | replace Q20 := of_decide_eq_true Q20 | replace Q20 := of_decide_eq_false Q20)
                                    first
                                     | (exfalso; first | omega | contradiction | (cases Q20; done))
                                     | skip
                                       refine cd_skip ?_
                                       refine nx_then ?_
                                       refine cd_seq ?_
                                       refine cd_region ?_
                                       refine st_val (ro_move (v := .pointer _) rfl) ?_
                                       have hlt67 := (P4.from_ ((From.rfl_.next E41).next E63)).lt
                                       have hB67 := ((((((((hB.next E4).only O4 (by rw [hb4]; exact hB.size)).next E24).next E27).next E32).grew hG36 (fun k hk => Nat.le_trans hB27.size (own_lt ho27 hk).1)).next E41).next E63)
                                       have hM67 := ((From.rfl_.next E41).next E63)
                                       refine st_call IntsLaws_k14 (bytes_rt _ g W1 L _ (hI.from_ ((From.rfl_.next E41).next E63))) ?_
                                       rintro v67 w21 ⟨A67, c67, bs67, rfl, ho67, hl67, hp67, E67⟩
                                       refine st_val (ro_assign (v := .slice _ _ _) rfl) ?_
                                       refine st_nil ?_
                                       refine nx_then ?_
                                       refine cd_seq ?_
                                       refine cd_seq ?_
                                       refine cd_region ?_
                                       refine st_val (ro_move (v := .slice _ _ _) rfl) ?_
                                       refine st_val (ro_fieldAddr IntsLaws_f26_0 rfl) ?_
                                       refine st_val (ro_load IntsLaws_g3 rfl (by first | (first | exact (P4.from_ (((From.rfl_.next E41).next E63).next E67)).rd 0 rfl | exact (P4.from_ (((From.rfl_.next E41).next E63).next E67)).rd 1 rfl | exact (P4.from_ (((From.rfl_.next E41).next E63).next E67)).rd 2 rfl | exact (P4.from_ (((From.rfl_.next E41).next E63).next E67)).rd 3 rfl))) ?_
                                       refine st_val (ro_fieldAddr IntsLaws_f26_1 rfl) ?_
                                       refine st_val (ro_load IntsLaws_g23 rfl (by first | (first | exact (P4.from_ (((From.rfl_.next E41).next E63).next E67)).rd 0 rfl | exact (P4.from_ (((From.rfl_.next E41).next E63).next E67)).rd 1 rfl | exact (P4.from_ (((From.rfl_.next E41).next E63).next E67)).rd 2 rfl | exact (P4.from_ (((From.rfl_.next E41).next E63).next E67)).rd 3 rfl))) ?_
                                       refine st_call IntsLaws_k16 (refBytes_any W1 A1 ca L _ (hask.rowL.from_ (((((((((hB.next E4).only O4 (by rw [hb4]; exact hB.size)).next E24).next E27).next E32).grew hG36 (fun k hk => Nat.le_trans hB27.size (own_lt ho27 hk).1)).next E41).next E63).next E67)) hW (by omega) hask.ltL) ?_
                                       rintro v73 w22 ⟨g73, bs73, rfl, hg73, hk73, hl73, hp73, E73⟩
                                       refine st_call IntsLaws_k15 (eqBytes_eq A67 (some ⟨g73, 0, none⟩) c67 bs73.length bs67 bs73 _ ((RowOf.own ho67).2.from_ E73) (RowOf.blk hk73 (fun i hi => by simp [hi])) (by have := byteCnt_ge W1 L.length; have := (wordCount_small hW (show L.length ≤ 131072 by omega)).1; rw [Nat.mul_comm] at this; omega) (pbp_unique hp67 hp73 (by rw [hl67, hl73]))) ?_
                                       rintro v74 w23 ⟨rfl, E74⟩
                                       refine st_val (ro_not rfl) ?_
                                       refine st_nil ?_
                                       refine nx_then ?_
                                       refine cd_cond rfl (fun Q24 => ?_) (fun Q24 => ?_)
                                       · (try first | replace Q24 := bn_t Q24 | replace Q24 := bn_f Q24)
                                         (try first | replace Q24 := bx_t Q24 | replace Q24 := bx_f Q24 | replace Q24 := be_t Q24 | replace Q24 := be_f Q24 | replace Q24 := of_decide_eq_true Q24 | replace Q24 := of_decide_eq_false Q24)
                                         first
                                          | (exfalso; first | omega | contradiction | (cases Q24; done))
                                          | skip
                                            refine cd_seq ?_
                                            refine cd_region ?_
                                            refine st_val (ro_assign (v := .bool _) rfl) ?_
                                            refine st_nil ?_
                                            refine nx_then ?_
                                            refine cd_ret ?_
                                            refine rt_then ?_
                                            refine rt_block ?_
                                            refine rt_then ?_
                                            refine rt_then ?_
                                            refine rt_block ?_
                                            refine rt_then ?_
                                            refine res1 (v := .bool _) rfl rfl ?_
                                            exfalso; first | omega | contradiction
                                       · (try first | replace Q24 := bn_t Q24 | replace Q24 := bn_f Q24)
                                         (try first | replace Q24 := bx_t Q24 | replace Q24 := bx_f Q24 | replace Q24 := be_t Q24 | replace Q24 := be_f Q24 | replace Q24 := of_decide_eq_true Q24 | replace Q24 := of_decide_eq_false Q24)
                                         first
                                          | (exfalso; first | omega | contradiction | (cases Q24; done))
                                          | skip
                                            refine cd_skip ?_
                                            refine nx_then ?_
                                            refine cd_seq ?_
                                            refine cd_region ?_
                                            refine st_val (ro_move (v := .slice _ _ _) rfl) ?_
                                            refine st_call IntsLaws_k17 (spoilBytes_any _ A67 c67 bs67 _ hp67.1 (ho67.kept_from (E73.next E74)) (by have := byteCnt_ge W1 L.length; have := (wordCount_small hW (show L.length ≤ 131072 by omega)).1; rw [Nat.mul_comm] at this; omega) (by have := E67.size; have := E73.size; have := E74.size; omega)) ?_
                                            rintro v77 w25 hG77
                                            replace P4 := (P4.from_ (((((From.rfl_.next E41).next E63).next E67).next E73).next E74)).grown hG77 (fun k hk e => by have := (own_lt ho67 hk).1; omega)
                                            replace hI := hI.kept2 (((((From.rfl_.next E41).next E63).next E67).next E73).next E74) hG77 (fun k hk => Nat.le_trans hM67.size (own_lt ho67 hk).1)
                                            refine st_nil ?_
                                            refine nx_then ?_
                                            refine cd_seq ?_
                                            refine cd_region ?_
                                            refine st_val (ro_move (v := .pointer _) rfl) ?_
                                            refine st_val (ro_fieldAddr IntsLaws_f26_0 rfl) ?_
                                            refine st_val (ro_load IntsLaws_g3 rfl (by first | (first | exact (P4.from_ From.rfl_).rd 0 rfl | exact (P4.from_ From.rfl_).rd 1 rfl | exact (P4.from_ From.rfl_).rd 2 rfl | exact (P4.from_ From.rfl_).rd 3 rfl))) ?_
                                            refine st_val (ro_fieldAddr IntsLaws_f26_1 rfl) ?_
                                            refine st_val (ro_load IntsLaws_g23 rfl (by first | (first | exact (P4.from_ From.rfl_).rd 0 rfl | exact (P4.from_ From.rfl_).rd 1 rfl | exact (P4.from_ From.rfl_).rd 2 rfl | exact (P4.from_ From.rfl_).rd 3 rfl))) ?_
                                            refine st_call IntsLaws_k13 (same_self _ g W1 A1 ca L _ (hI.from_ From.rfl_) (hask.rowL.from_ ((((((((((((hB.next E4).only O4 (by rw [hb4]; exact hB.size)).next E24).next E27).next E32).grew hG36 (fun k hk => Nat.le_trans hB27.size (own_lt ho27 hk).1)).next E41).next E63).next E67).next E73).next E74).grew hG77 (fun k hk => Nat.le_trans hB67.size (own_lt ho67 hk).1))) (by omega)) ?_
                                            rintro v83 w26 ⟨rfl, E83⟩
                                            refine st_val (ro_not rfl) ?_
                                            refine st_nil ?_
                                            refine nx_then ?_
                                            refine cd_cond rfl (fun Q27 => ?_) (fun Q27 => ?_)
                                            · (try first | replace Q27 := bn_t Q27 | replace Q27 := bn_f Q27)
                                              (try first | replace Q27 := bx_t Q27 | replace Q27 := bx_f Q27 | replace Q27 := be_t Q27 | replace Q27 := be_f Q27 | replace Q27 := of_decide_eq_true Q27 | replace Q27 := of_decide_eq_false Q27)
                                              first
                                               | (exfalso; first | omega | contradiction | (cases Q27; done))
                                               | skip
                                                 refine cd_seq ?_
                                                 refine cd_region ?_
                                                 refine st_val (ro_assign (v := .bool _) rfl) ?_
                                                 refine st_nil ?_
                                                 refine nx_then ?_
                                                 refine cd_ret ?_
                                                 refine rt_block ?_
                                                 refine rt_then ?_
                                                 refine rt_then ?_
                                                 refine rt_block ?_
                                                 refine rt_then ?_
                                                 refine res1 (v := .bool _) rfl rfl ?_
                                                 exfalso; first | omega | contradiction
                                            · (try first | replace Q27 := bn_t Q27 | replace Q27 := bn_f Q27)
                                              (try first | replace Q27 := bx_t Q27 | replace Q27 := bx_f Q27 | replace Q27 := be_t Q27 | replace Q27 := be_f Q27 | replace Q27 := of_decide_eq_true Q27 | replace Q27 := of_decide_eq_false Q27)
                                              first
                                               | (exfalso; first | omega | contradiction | (cases Q27; done))
                                               | skip
                                                 refine cd_skip ?_
                                                 refine nx_block ?_
                                                 refine nx_then ?_
                                                 refine cd_region ?_
                                                 refine st_val (ro_move (v := .int _ _) rfl) ?_
                                                 refine st_val (ro_addN (b := 1) rfl rfl (by omega)) ?_
                                                 refine st_val (ro_assign (v := .int _ _) rfl) ?_
                                                 refine st_nil ?_
                                                 refine nx_cut (k + 1) ⟨(by first | rfl | (refine int_eq ?_; omega)), trivial⟩ (by (iterate 161 refine agr_cons rfl ?_); exact agr_rfl) ⟨?_, ?_⟩
                                                 · exact ⟨by omega, (((((((((((((hB.next E4).only O4 (by rw [hb4]; exact hB.size)).next E24).next E27).next E32).grew hG36 (fun k hk => Nat.le_trans hB27.size (own_lt ho27 hk).1)).next E41).next E63).next E67).next E73).next E74).grew hG77 (fun k hk => Nat.le_trans hB67.size (own_lt ho67 hk).1)).next E83)⟩
                                                 · omega
                 · refine st_val (ro_move (v := .tuple _) rfl) ?_
                   refine st_val (ro_extract rfl rfl) ?_
                   refine st_val (ro_extract rfl rfl) ?_
                   refine st_val (ro_assign (v := .pointer _) rfl) ?_
                   refine st_val (ro_assign (v := .int _ _) rfl) ?_
                   refine st_nil ?_
                   refine nx_then ?_
                   refine cd_seq ?_
                   refine cd_region ?_
                   refine st_val (ro_move (v := .slice _ _ _) rfl) ?_
                   refine st_call IntsLaws_k10 (spoilLongs_any _ A27 c27 L _ (ho27.kept_from E32) (by omega) (by have := E27.size; have := E32.size; omega)) ?_
                   rintro v36 w28 hG36
                   replace P4 := (P4.from_ (((From.rfl_.next E24).next E27).next E32)).grown hG36 (fun k hk e => by have := (own_lt ho27 hk).1; omega)
                   (try replace hI := hI.kept hG36 (fun k hk => (own_lt ho27 hk).2))
                   refine st_nil ?_
                   refine nx_then ?_
                   refine cd_seq ?_
                   refine cd_seq ?_
                   refine cd_region ?_
                   refine st_val (ro_fieldAddr IntsLaws_f26_0 rfl) ?_
                   refine st_val (ro_load IntsLaws_g3 rfl (by first | (first | exact (P4.from_ From.rfl_).rd 0 rfl | exact (P4.from_ From.rfl_).rd 1 rfl | exact (P4.from_ From.rfl_).rd 2 rfl | exact (P4.from_ From.rfl_).rd 3 rfl))) ?_
                   refine st_val (ro_fieldAddr IntsLaws_f26_1 rfl) ?_
                   refine st_val (ro_load IntsLaws_g23 rfl (by first | (first | exact (P4.from_ From.rfl_).rd 0 rfl | exact (P4.from_ From.rfl_).rd 1 rfl | exact (P4.from_ From.rfl_).rd 2 rfl | exact (P4.from_ From.rfl_).rd 3 rfl))) ?_
                   refine st_call IntsLaws_k11 (may_eq _ A1 ca L _ _ hm (hask.rowL.from_ ((((((hB.next E4).only O4 (by rw [hb4]; exact hB.size)).next E24).next E27).next E32).grew hG36 (fun k hk => Nat.le_trans hB27.size (own_lt ho27 hk).1))) (by omega) hask.ltL) ?_
                   rintro v41 w29 ⟨rfl, E41⟩
                   refine st_val (ro_not rfl) ?_
                   refine st_nil ?_
                   refine nx_then ?_
                   refine cd_cond rfl (fun Q30 => ?_) (fun Q30 => ?_)
                   · (try first | replace Q30 := bn_t Q30 | replace Q30 := bn_f Q30)
                     (try first | replace Q30 := bx_t Q30 | replace Q30 := bx_f Q30 | replace Q30 := be_t Q30 | replace Q30 := be_f Q30 | replace Q30 := of_decide_eq_true Q30 | replace Q30 := of_decide_eq_false Q30)
                     first
                      | (exfalso; first | omega | contradiction | (cases Q30; done))
                      | skip
                        refine cd_seq ?_
                        refine cd_seq ?_
                        refine cd_region ?_
                        refine st_val (ro_move (v := .int _ _) rfl) ?_
                        refine st_call IntsLaws_k12 (num_any _ _) ?_
                        rintro v44 w31 ⟨rfl, rfl⟩
                        refine st_val (ro_neq rfl rfl) ?_
                        refine st_val (ro_move (v := .bool _) rfl) ?_
                        refine st_split (t := 46) rfl (fun Q32 => ?_) (fun Q32 => ?_)
                        · (try first | replace Q32 := bn_t Q32 | replace Q32 := bn_f Q32)
                          (try first | replace Q32 := bx_t Q32 | replace Q32 := bx_f Q32 | replace Q32 := be_t Q32 | replace Q32 := be_f Q32 | replace Q32 := of_decide_eq_true Q32 | replace Q32 := of_decide_eq_false Q32)
                          first
                           | (exfalso; first | omega | contradiction | (cases Q32; done))
                           | skip
                             refine st_gno rfl rfl ?_
                             refine st_gno rfl rfl ?_
                             refine st_val (ro_pickT (v := .bool _) rfl rfl) ?_
                             refine st_nil ?_
                             refine nx_then ?_
                             refine cd_condT rfl ?_
                             refine cd_seq ?_
                             refine cd_region ?_
                             refine st_val (ro_assign (v := .bool _) rfl) ?_
                             refine st_nil ?_
                             refine nx_then ?_
                             refine cd_ret ?_
                             refine rt_then ?_
                             refine rt_then ?_
                             refine rt_block ?_
                             refine rt_then ?_
                             refine rt_then ?_
                             refine rt_block ?_
                             refine rt_then ?_
                             refine res1 (v := .bool _) rfl rfl ?_
                             exfalso; first | omega | contradiction
                        · (try first | replace Q32 := bn_t Q32 | replace Q32 := bn_f Q32)
                          (try first | replace Q32 := bx_t Q32 | replace Q32 := bx_f Q32 | replace Q32 := be_t Q32 | replace Q32 := be_f Q32 | replace Q32 := of_decide_eq_true Q32 | replace Q32 := of_decide_eq_false Q32)
                          first
                           | (exfalso; first | omega | contradiction | (cases Q32; done))
                           | skip
                             refine st_unguard rfl ?_
                             refine st_val (ro_move (v := .pointer _) rfl) ?_
                             refine st_unguard rfl ?_
                             refine st_val (ro_neqNil IntsLaws_p29 rfl rfl) ?_
                             refine st_val (ro_pickF (v := .bool _) rfl rfl) ?_
                             refine st_nil ?_
                             refine nx_then ?_
                             refine cd_cond rfl (fun Q33 => ?_) (fun Q33 => ?_)
                             · (try first | replace Q33 := bn_t Q33 | replace Q33 := bn_f Q33)
                               (try first | replace Q33 := bx_t Q33 | replace Q33 := bx_f Q33 | replace Q33 := be_t Q33 | replace Q33 := be_f Q33 | replace Q33 := of_decide_eq_true Q33 | replace Q33 := of_decide_eq_false Q33)
                               first
                                | (exfalso; first | omega | contradiction | (cases Q33; done))
                                | skip
                                  refine cd_seq ?_
                                  refine cd_region ?_
                                  refine st_val (ro_assign (v := .bool _) rfl) ?_
                                  refine st_nil ?_
                                  refine nx_then ?_
                                  refine cd_ret ?_
                                  refine rt_then ?_
                                  refine rt_then ?_
                                  refine rt_block ?_
                                  refine rt_then ?_
                                  refine rt_then ?_
                                  refine rt_block ?_
                                  refine rt_then ?_
                                  refine res1 (v := .bool _) rfl rfl ?_
                                  exfalso; first | omega | contradiction
                             · (try first | replace Q33 := bn_t Q33 | replace Q33 := bn_f Q33)
                               (try first | replace Q33 := bx_t Q33 | replace Q33 := bx_f Q33 | replace Q33 := be_t Q33 | replace Q33 := be_f Q33 | replace Q33 := of_decide_eq_true Q33 | replace Q33 := of_decide_eq_false Q33)
                               first
                                | (exfalso; first | omega | contradiction | (cases Q33; done))
                                | skip
                                  refine cd_skip ?_
                                  refine nx_then ?_
                                  refine cd_exit ?_
                                  refine ex_then ?_
                                  refine ex_block ?_
                                  refine nx_then ?_
                                  refine cd_region ?_
                                  refine st_val (ro_move (v := .int _ _) rfl) ?_
                                  refine st_val (ro_addN (b := 1) rfl rfl (by omega)) ?_
                                  refine st_val (ro_assign (v := .int _ _) rfl) ?_
                                  refine st_nil ?_
                                  refine nx_cut (k + 1) ⟨(by first | rfl | (refine int_eq ?_; omega)), trivial⟩ (by (iterate 131 refine agr_cons rfl ?_); exact agr_rfl) ⟨?_, ?_⟩
                                  · exact ⟨by omega, (((((((hB.next E4).only O4 (by rw [hb4]; exact hB.size)).next E24).next E27).next E32).grew hG36 (fun k hk => Nat.le_trans hB27.size (own_lt ho27 hk).1)).next E41)⟩
                                  · omega
                   · (try first | replace Q30 := bn_t Q30 | replace Q30 := bn_f Q30)
                     (try first | replace Q30 := bx_t Q30 | replace Q30 := bx_f Q30 | replace Q30 := be_t Q30 | replace Q30 := be_f Q30 | replace Q30 := of_decide_eq_true Q30 | replace Q30 := of_decide_eq_false Q30)
                     first
                      | (exfalso; first | omega | contradiction | (cases Q30; done))
                      | skip
                        refine cd_skip ?_
                        refine nx_then ?_
                        refine cd_seq ?_
                        refine cd_seq ?_
                        refine cd_region ?_
                        refine st_val (ro_move (v := .int _ _) rfl) ?_
                        refine st_call IntsLaws_k12 (num_any _ _) ?_
                        rintro v51 w34 ⟨rfl, rfl⟩
                        refine st_val (ro_neq rfl rfl) ?_
                        refine st_val (ro_move (v := .bool _) rfl) ?_
                        refine st_split (t := 53) rfl (fun Q35 => ?_) (fun Q35 => ?_)
                        · (try first | replace Q35 := bn_t Q35 | replace Q35 := bn_f Q35)
                          (try first | replace Q35 := bx_t Q35 | replace Q35 := bx_f Q35 | replace Q35 := be_t Q35 | replace Q35 := be_f Q35 | replace Q35 := of_decide_eq_true Q35 | replace Q35 := of_decide_eq_false Q35)
                          first
                           | (exfalso; first | omega | contradiction | (cases Q35; done))
                           | skip
                             refine st_gno rfl rfl ?_
                             refine st_gno rfl rfl ?_
                             refine st_val (ro_pickT (v := .bool _) rfl rfl) ?_
                             refine st_val (ro_move (v := .bool _) rfl) ?_
                             refine st_gno rfl rfl ?_
                             refine st_gno rfl rfl ?_
                             refine st_gno rfl rfl ?_
                             refine st_gno rfl rfl ?_
                             refine st_gno rfl rfl ?_
                             refine st_gno rfl rfl ?_
                             refine st_gno rfl rfl ?_
                             refine st_val (ro_pickT (v := .bool _) rfl rfl) ?_
                             refine st_nil ?_
                             refine nx_then ?_
                             refine cd_condT rfl ?_
                             refine cd_seq ?_
                             refine cd_region ?_
                             refine st_val (ro_assign (v := .bool _) rfl) ?_
                             refine st_nil ?_
                             refine nx_then ?_
                             refine cd_ret ?_
                             refine rt_then ?_
                             refine rt_block ?_
                             refine rt_then ?_
                             refine rt_then ?_
                             refine rt_block ?_
                             refine rt_then ?_
                             refine res1 (v := .bool _) rfl rfl ?_
                             exfalso; first | omega | contradiction
                        · (try first | replace Q35 := bn_t Q35 | replace Q35 := bn_f Q35)
                          (try first | replace Q35 := bx_t Q35 | replace Q35 := bx_f Q35 | replace Q35 := be_t Q35 | replace Q35 := be_f Q35 | replace Q35 := of_decide_eq_true Q35 | replace Q35 := of_decide_eq_false Q35)
                          first
                           | (exfalso; first | omega | contradiction | (cases Q35; done))
                           | skip
                             refine st_unguard rfl ?_
                             refine st_val (ro_move (v := .pointer _) rfl) ?_
                             refine st_unguard rfl ?_
                             refine st_val (ro_eqlNil IntsLaws_p29 rfl rfl) ?_
                             refine st_val (ro_pickF (v := .bool _) rfl rfl) ?_
                             refine st_val (ro_move (v := .bool _) rfl) ?_
                             refine st_split (t := 57) rfl (fun Q36 => ?_) (fun Q36 => ?_)
                             · (try first | replace Q36 := bn_t Q36 | replace Q36 := bn_f Q36)
                               (try first | replace Q36 := bx_t Q36 | replace Q36 := bx_f Q36 | replace Q36 := be_t Q36 | replace Q36 := be_f Q36 | replace Q36 := of_decide_eq_true Q36 | replace Q36 := of_decide_eq_false Q36)
                               first
                                | (exfalso; first | omega | contradiction | (cases Q36; done))
                                | skip
                                  refine st_gno rfl rfl ?_
                                  refine st_gno rfl rfl ?_
                                  refine st_gno rfl rfl ?_
                                  refine st_gno rfl rfl ?_
                                  refine st_gno rfl rfl ?_
                                  refine st_gno rfl rfl ?_
                                  refine st_gno rfl rfl ?_
                                  refine st_val (ro_pickT (v := .bool _) rfl rfl) ?_
                                  refine st_nil ?_
                                  refine nx_then ?_
                                  refine cd_condT rfl ?_
                                  refine cd_seq ?_
                                  refine cd_region ?_
                                  refine st_val (ro_assign (v := .bool _) rfl) ?_
                                  refine st_nil ?_
                                  refine nx_then ?_
                                  refine cd_ret ?_
                                  refine rt_then ?_
                                  refine rt_block ?_
                                  refine rt_then ?_
                                  refine rt_then ?_
                                  refine rt_block ?_
                                  refine rt_then ?_
                                  refine res1 (v := .bool _) rfl rfl ?_
                                  exfalso; first | omega | contradiction
                             · (try first | replace Q36 := bn_t Q36 | replace Q36 := bn_f Q36)
                               (try first | replace Q36 := bx_t Q36 | replace Q36 := bx_f Q36 | replace Q36 := be_t Q36 | replace Q36 := be_f Q36 | replace Q36 := of_decide_eq_true Q36 | replace Q36 := of_decide_eq_false Q36)
                               first
                                | (exfalso; first | omega | contradiction | (cases Q36; done))
                                | skip
                                  refine st_unguard rfl ?_
                                  refine st_val (ro_move (v := .pointer _) rfl) ?_
                                  refine st_unguard rfl ?_
                                  refine st_val (ro_fieldAddr IntsLaws_f26_0 rfl) ?_
                                  refine st_unguard rfl ?_
                                  refine st_val (ro_load IntsLaws_g3 rfl (by first | (first | exact (P4.from_ (From.rfl_.next E41)).rd 0 rfl | exact (P4.from_ (From.rfl_.next E41)).rd 1 rfl | exact (P4.from_ (From.rfl_.next E41)).rd 2 rfl | exact (P4.from_ (From.rfl_.next E41)).rd 3 rfl))) ?_
                                  refine st_unguard rfl ?_
                                  refine st_val (ro_fieldAddr IntsLaws_f26_1 rfl) ?_
                                  refine st_unguard rfl ?_
                                  refine st_val (ro_load IntsLaws_g23 rfl (by first | (first | exact (P4.from_ (From.rfl_.next E41)).rd 0 rfl | exact (P4.from_ (From.rfl_.next E41)).rd 1 rfl | exact (P4.from_ (From.rfl_.next E41)).rd 2 rfl | exact (P4.from_ (From.rfl_.next E41)).rd 3 rfl))) ?_
                                  refine st_unguard rfl ?_
                                  refine st_call IntsLaws_k13 (same_self _ g W1 A1 ca L _ (hI.from_ (From.rfl_.next E41)) (hask.rowL.from_ (((((((hB.next E4).only O4 (by rw [hb4]; exact hB.size)).next E24).next E27).next E32).grew hG36 (fun k hk => Nat.le_trans hB27.size (own_lt ho27 hk).1)).next E41)) (by omega)) ?_
                                  rintro v63 w37 ⟨rfl, E63⟩
                                  refine st_unguard rfl ?_
                                  refine st_val (ro_not rfl) ?_
                                  refine st_val (ro_pickF (v := .bool _) rfl rfl) ?_
                                  refine st_nil ?_
                                  refine nx_then ?_
                                  refine cd_cond rfl (fun Q38 => ?_) (fun Q38 => ?_)
                                  · (try first | replace Q38 := bn_t Q38 | replace Q38 := bn_f Q38)
                                    (try first | replace Q38 := bx_t Q38 | replace Q38 := bx_f Q38 | replace Q38 := be_t Q38 | replace Q38 := be_f Q38 | replace Q38 := of_decide_eq_true Q38 | replace Q38 := of_decide_eq_false Q38)
                                    first
                                     | (exfalso; first | omega | contradiction | (cases Q38; done))
                                     | skip
                                       refine cd_seq ?_
                                       refine cd_region ?_
                                       refine st_val (ro_assign (v := .bool _) rfl) ?_
                                       refine st_nil ?_
                                       refine nx_then ?_
                                       refine cd_ret ?_
                                       refine rt_then ?_
                                       refine rt_block ?_
                                       refine rt_then ?_
                                       refine rt_then ?_
                                       refine rt_block ?_
                                       refine rt_then ?_
                                       refine res1 (v := .bool _) rfl rfl ?_
                                       exfalso; first | omega | contradiction
                                  · (try first | replace Q38 := bn_t Q38 | replace Q38 := bn_f Q38)
                                    (try first | replace Q38 := bx_t Q38 | replace Q38 := bx_f Q38 | replace Q38 := be_t Q38 | replace Q38 := be_f Q38 | replace Q38 := of_decide_eq_true Q38 | replace Q38 := of_decide_eq_false Q38)
                                    first
                                     | (exfalso; first | omega | contradiction | (cases Q38; done))
                                     | skip
                                       refine cd_skip ?_
                                       refine nx_then ?_
                                       refine cd_seq ?_
                                       refine cd_region ?_
                                       refine st_val (ro_move (v := .pointer _) rfl) ?_
                                       have hlt67 := (P4.from_ ((From.rfl_.next E41).next E63)).lt
                                       have hB67 := ((((((((hB.next E4).only O4 (by rw [hb4]; exact hB.size)).next E24).next E27).next E32).grew hG36 (fun k hk => Nat.le_trans hB27.size (own_lt ho27 hk).1)).next E41).next E63)
                                       have hM67 := ((From.rfl_.next E41).next E63)
                                       refine st_call IntsLaws_k14 (bytes_rt _ g W1 L _ (hI.from_ ((From.rfl_.next E41).next E63))) ?_
                                       rintro v67 w39 ⟨A67, c67, bs67, rfl, ho67, hl67, hp67, E67⟩
                                       refine st_val (ro_assign (v := .slice _ _ _) rfl) ?_
                                       refine st_nil ?_
                                       refine nx_then ?_
                                       refine cd_seq ?_
                                       refine cd_seq ?_
                                       refine cd_region ?_
                                       refine st_val (ro_move (v := .slice _ _ _) rfl) ?_
                                       refine st_val (ro_fieldAddr IntsLaws_f26_0 rfl) ?_
                                       refine st_val (ro_load IntsLaws_g3 rfl (by first | (first | exact (P4.from_ (((From.rfl_.next E41).next E63).next E67)).rd 0 rfl | exact (P4.from_ (((From.rfl_.next E41).next E63).next E67)).rd 1 rfl | exact (P4.from_ (((From.rfl_.next E41).next E63).next E67)).rd 2 rfl | exact (P4.from_ (((From.rfl_.next E41).next E63).next E67)).rd 3 rfl))) ?_
                                       refine st_val (ro_fieldAddr IntsLaws_f26_1 rfl) ?_
                                       refine st_val (ro_load IntsLaws_g23 rfl (by first | (first | exact (P4.from_ (((From.rfl_.next E41).next E63).next E67)).rd 0 rfl | exact (P4.from_ (((From.rfl_.next E41).next E63).next E67)).rd 1 rfl | exact (P4.from_ (((From.rfl_.next E41).next E63).next E67)).rd 2 rfl | exact (P4.from_ (((From.rfl_.next E41).next E63).next E67)).rd 3 rfl))) ?_
                                       refine st_call IntsLaws_k16 (refBytes_any W1 A1 ca L _ (hask.rowL.from_ (((((((((hB.next E4).only O4 (by rw [hb4]; exact hB.size)).next E24).next E27).next E32).grew hG36 (fun k hk => Nat.le_trans hB27.size (own_lt ho27 hk).1)).next E41).next E63).next E67)) hW (by omega) hask.ltL) ?_
                                       rintro v73 w40 ⟨g73, bs73, rfl, hg73, hk73, hl73, hp73, E73⟩
                                       refine st_call IntsLaws_k15 (eqBytes_eq A67 (some ⟨g73, 0, none⟩) c67 bs73.length bs67 bs73 _ ((RowOf.own ho67).2.from_ E73) (RowOf.blk hk73 (fun i hi => by simp [hi])) (by have := byteCnt_ge W1 L.length; have := (wordCount_small hW (show L.length ≤ 131072 by omega)).1; rw [Nat.mul_comm] at this; omega) (pbp_unique hp67 hp73 (by rw [hl67, hl73]))) ?_
                                       rintro v74 w41 ⟨rfl, E74⟩
                                       refine st_val (ro_not rfl) ?_
                                       refine st_nil ?_
                                       refine nx_then ?_
                                       refine cd_cond rfl (fun Q42 => ?_) (fun Q42 => ?_)
                                       · (try first | replace Q42 := bn_t Q42 | replace Q42 := bn_f Q42)
                                         (try first | replace Q42 := bx_t Q42 | replace Q42 := bx_f Q42 | replace Q42 := be_t Q42 | replace Q42 := be_f Q42 | replace Q42 := of_decide_eq_true Q42 | replace Q42 := of_decide_eq_false Q42)
                                         first
                                          | (exfalso; first | omega | contradiction | (cases Q42; done))
                                          | skip
                                            refine cd_seq ?_
                                            refine cd_region ?_
                                            refine st_val (ro_assign (v := .bool _) rfl) ?_
                                            refine st_nil ?_
                                            refine nx_then ?_
                                            refine cd_ret ?_
                                            refine rt_then ?_
                                            refine rt_block ?_
                                            refine rt_then ?_
                                            refine rt_then ?_
                                            refine rt_block ?_
                                            refine rt_then ?_
                                            refine res1 (v := .bool _) rfl rfl ?_
                                            exfalso; first | omega | contradiction
                                       · (try first | replace Q42 := bn_t Q42 | replace Q42 := bn_f Q42)
                                         (try first | replace Q42 := bx_t Q42 | replace Q42 := bx_f Q42 | replace Q42 := be_t Q42 | replace Q42 := be_f Q42 | replace Q42 := of_decide_eq_true Q42 | replace Q42 := of_decide_eq_false Q42)
                                         first
                                          | (exfalso; first | omega | contradiction | (cases Q42; done))
                                          | skip
                                            refine cd_skip ?_
                                            refine nx_then ?_
                                            refine cd_seq ?_
                                            refine cd_region ?_
                                            refine st_val (ro_move (v := .slice _ _ _) rfl) ?_
                                            refine st_call IntsLaws_k17 (spoilBytes_any _ A67 c67 bs67 _ hp67.1 (ho67.kept_from (E73.next E74)) (by have := byteCnt_ge W1 L.length; have := (wordCount_small hW (show L.length ≤ 131072 by omega)).1; rw [Nat.mul_comm] at this; omega) (by have := E67.size; have := E73.size; have := E74.size; omega)) ?_
                                            rintro v77 w43 hG77
                                            replace P4 := (P4.from_ (((((From.rfl_.next E41).next E63).next E67).next E73).next E74)).grown hG77 (fun k hk e => by have := (own_lt ho67 hk).1; omega)
                                            replace hI := hI.kept2 (((((From.rfl_.next E41).next E63).next E67).next E73).next E74) hG77 (fun k hk => Nat.le_trans hM67.size (own_lt ho67 hk).1)
                                            refine st_nil ?_
                                            refine nx_then ?_
                                            refine cd_seq ?_
                                            refine cd_region ?_
                                            refine st_val (ro_move (v := .pointer _) rfl) ?_
                                            refine st_val (ro_fieldAddr IntsLaws_f26_0 rfl) ?_
                                            refine st_val (ro_load IntsLaws_g3 rfl (by first | (first | exact (P4.from_ From.rfl_).rd 0 rfl | exact (P4.from_ From.rfl_).rd 1 rfl | exact (P4.from_ From.rfl_).rd 2 rfl | exact (P4.from_ From.rfl_).rd 3 rfl))) ?_
                                            refine st_val (ro_fieldAddr IntsLaws_f26_1 rfl) ?_
                                            refine st_val (ro_load IntsLaws_g23 rfl (by first | (first | exact (P4.from_ From.rfl_).rd 0 rfl | exact (P4.from_ From.rfl_).rd 1 rfl | exact (P4.from_ From.rfl_).rd 2 rfl | exact (P4.from_ From.rfl_).rd 3 rfl))) ?_
                                            refine st_call IntsLaws_k13 (same_self _ g W1 A1 ca L _ (hI.from_ From.rfl_) (hask.rowL.from_ ((((((((((((hB.next E4).only O4 (by rw [hb4]; exact hB.size)).next E24).next E27).next E32).grew hG36 (fun k hk => Nat.le_trans hB27.size (own_lt ho27 hk).1)).next E41).next E63).next E67).next E73).next E74).grew hG77 (fun k hk => Nat.le_trans hB67.size (own_lt ho67 hk).1))) (by omega)) ?_
                                            rintro v83 w44 ⟨rfl, E83⟩
                                            refine st_val (ro_not rfl) ?_
                                            refine st_nil ?_
                                            refine nx_then ?_
                                            refine cd_cond rfl (fun Q45 => ?_) (fun Q45 => ?_)
                                            · (try first | replace Q45 := bn_t Q45 | replace Q45 := bn_f Q45)
                                              (try first | replace Q45 := bx_t Q45 | replace Q45 := bx_f Q45 | replace Q45 := be_t Q45 | replace Q45 := be_f Q45 | replace Q45 := of_decide_eq_true Q45 | replace Q45 := of_decide_eq_false Q45)
                                              first
                                               | (exfalso; first | omega | contradiction | (cases Q45; done))
                                               | skip
                                                 refine cd_seq ?_
                                                 refine cd_region ?_
                                                 refine st_val (ro_assign (v := .bool _) rfl) ?_
                                                 refine st_nil ?_
                                                 refine nx_then ?_
                                                 refine cd_ret ?_
                                                 refine rt_block ?_
                                                 refine rt_then ?_
                                                 refine rt_then ?_
                                                 refine rt_block ?_
                                                 refine rt_then ?_
                                                 refine res1 (v := .bool _) rfl rfl ?_
                                                 exfalso; first | omega | contradiction
                                            · (try first | replace Q45 := bn_t Q45 | replace Q45 := bn_f Q45)
                                              (try first | replace Q45 := bx_t Q45 | replace Q45 := bx_f Q45 | replace Q45 := be_t Q45 | replace Q45 := be_f Q45 | replace Q45 := of_decide_eq_true Q45 | replace Q45 := of_decide_eq_false Q45)
                                              first
                                               | (exfalso; first | omega | contradiction | (cases Q45; done))
                                               | skip
                                                 refine cd_skip ?_
                                                 refine nx_block ?_
                                                 refine nx_then ?_
                                                 refine cd_region ?_
                                                 refine st_val (ro_move (v := .int _ _) rfl) ?_
                                                 refine st_val (ro_addN (b := 1) rfl rfl (by omega)) ?_
                                                 refine st_val (ro_assign (v := .int _ _) rfl) ?_
                                                 refine st_nil ?_
                                                 refine nx_cut (k + 1) ⟨(by first | rfl | (refine int_eq ?_; omega)), trivial⟩ (by (iterate 161 refine agr_cons rfl ?_); exact agr_rfl) ⟨?_, ?_⟩
                                                 · exact ⟨by omega, (((((((((((((hB.next E4).only O4 (by rw [hb4]; exact hB.size)).next E24).next E27).next E32).grew hG36 (fun k hk => Nat.le_trans hB27.size (own_lt ho27 hk).1)).next E41).next E63).next E67).next E73).next E74).grew hG77 (fun k hk => Nat.le_trans hB67.size (own_lt ho67 hk).1)).next E83)⟩
                                                 · omega
       · (try first | replace Q3 := bn_t Q3 | replace Q3 := bn_f Q3)
         (try first | replace Q3 := bx_t Q3 | replace Q3 := bx_f Q3 | replace Q3 := be_t Q3 | replace Q3 := be_f Q3 | replace Q3 := of_decide_eq_true Q3 | replace Q3 := of_decide_eq_false Q3)
         first
          | (exfalso; first | omega | contradiction | (cases Q3; done))
          | skip
            refine cd_exit ?_
            refine ex_then ?_
            refine ex_then ?_
            refine ex_block ?_
            refine nx_then ?_
            refine cd_seq ?_
            refine cd_region ?_
            refine st_call IntsLaws_k18 (wakes_any _) ?_
            rintro v85 w46 ⟨rfl, E85⟩
            refine st_val (ro_assign (v := .bool _) rfl) ?_
            refine st_nil ?_
            refine nx_then ?_
            refine cd_ret ?_
            refine res1 (v := .bool _) rfl rfl ?_
            exact ⟨rfl, (hB.next E85)⟩
  · (try first | replace Q2 := bn_t Q2 | replace Q2 := bn_f Q2)
    (try first | replace Q2 := bx_t Q2 | replace Q2 := bx_f Q2 | replace Q2 := be_t Q2 | replace Q2 := be_f Q2 | replace Q2 := of_decide_eq_true Q2 | replace Q2 := of_decide_eq_false Q2)
    first
     | (exfalso; first | omega | contradiction | (cases Q2; done))
     | skip
       refine st_gno rfl rfl ?_
       refine st_gno rfl rfl ?_
       refine st_val (ro_pickF (v := .bool _) rfl rfl) ?_
       refine st_nil ?_
       refine nx_then ?_
       refine cd_condF rfl ?_
       refine cd_exit ?_
       refine ex_then ?_
       refine ex_then ?_
       refine ex_block ?_
       refine nx_then ?_
       refine cd_seq ?_
       refine cd_region ?_
       refine st_call IntsLaws_k18 (wakes_any _) ?_
       rintro v85 w47 ⟨rfl, E85⟩
       refine st_val (ro_assign (v := .bool _) rfl) ?_
       refine st_nil ?_
       refine nx_then ?_
       refine cd_ret ?_
       refine res1 (v := .bool _) rfl rfl ?_
       exact ⟨rfl, (hB.next E85)⟩
end Go.Proofs.Ytgnmmifolhoaeaa
