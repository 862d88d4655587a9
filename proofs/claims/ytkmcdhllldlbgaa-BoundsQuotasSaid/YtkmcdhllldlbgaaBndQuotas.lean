/- The law BoundsQuotas. -/
import Derived.Test.YtkmcdhllldlbgaaBndHelp
namespace Go.Proofs.Ytkmcdhllldlbgaa
open Go.RowKit
open Go.ChangeShapes Go.WideShapes Go.ChangeAt
theorem BndQuotas_q22 : litQ Try.prog 22 = some (3, 1, 8, (.int .i64 0)) := by kernel_rfl
theorem BndQuotas_m22 : makeQ Try.prog 22 = some (3, 8, (.int .i64 0)) := by kernel_rfl
theorem BndQuotas_k18 : callable Try.prog 18 = true := by kernel_rfl
theorem BndQuotas_k15 : callable Try.prog 15 = true := by kernel_rfl
theorem BndQuotas_p26 : Try.prog.underlying 26 = some (.pointer (Try.prog.pointee 26)) := by kernel_rfl
theorem BndQuotas_k11 : callable Try.prog 11 = true := by kernel_rfl
theorem BndQuotas_k16 : callable Try.prog 16 = true := by kernel_rfl
theorem BndQuotas_k10 : callable Try.prog 10 = true := by kernel_rfl
theorem BndQuotas_f24_0 : fieldQ Try.prog 24 0 = some 0 := by kernel_rfl
theorem BndQuotas_g22 : aggQ Try.prog 22 = some false := by kernel_rfl
theorem BndQuotas_l22 : (elemQ Try.prog 22).isSome = true := by kernel_rfl
theorem BndQuotas_k9 : callable Try.prog 9 = true := by kernel_rfl
theorem new_ok (n : Nat) (A : Option Addr) (c : Nat) (L : List Int) (w : World) (hr : RowOf iV w A L) (hl : L.length = n) (hb64 : ∀ x ∈ L, -9223372036854775808 ≤ x ∧ x ≤ 9223372036854775807) (hn : n ≤ 1000000000000) (hz : lensE L = 0) :
    Rt Try.prog 18 [.slice A n c] w fun v w' => (∃ b, v = .tuple #[.pointer (some ⟨b, 0, none⟩), .int .i64 0] ∧ BAt w' w.heap.size b L) ∧ From w w' := by
  subst hl
  refine Rt.mono (new_rt A c L w hr hb64 hn) fun v w' h => ⟨?_, h.2⟩
  rcases h.1 with ⟨h1, _⟩ | ⟨_, b, h1, h2⟩
  · exact absurd hz h1
  · exact ⟨b, h1, h2⟩
theorem new_bad (n : Nat) (e : Int) (A : Option Addr) (c : Nat) (L : List Int) (w : World) (hr : RowOf iV w A L) (hl : L.length = n) (hb64 : ∀ x ∈ L, -9223372036854775808 ≤ x ∧ x ≤ 9223372036854775807) (hn : n ≤ 1000000000000) (hz : lensE L = e) (he : e ≠ 0) :
    Rt Try.prog 18 [.slice A n c] w fun v w' => v = .tuple #[.pointer none, .int .i64 e] ∧ From w w' := by
  subst hl hz
  refine Rt.mono (new_rt A c L w hr hb64 hn) fun v w' h => ⟨?_, h.2⟩
  rcases h.1 with ⟨_, h2⟩ | ⟨h1, _⟩
  · exact h2
  · exact absurd h1 he
theorem all_c (m : Int) (base b : Nat) (L : List Int) (w : World) (hv : BAt w base b L) (hm : st L L.length = m) : Rt Try.prog 11 [.pointer (some ⟨b, 0, none⟩)] w fun v w' => v = .int .i64 m ∧ w = w' := by
  subst hm
  exact all_rt base b L w hv
theorem count_c (m : Int) (base b : Nat) (L : List Int) (w : World) (hv : BAt w base b L) (hm : (L.length : Nat) = m) : Rt Try.prog 10 [.pointer (some ⟨b, 0, none⟩)] w fun v w' => v = .int .i64 m ∧ w = w' := by
  subst hm
  exact count_rt base b L w hv
theorem own_blk {w : World} {g e base n : Nat} {cs : List Value} (h : Blk w g e cs.toArray) (hn : cs.length = n) (hm : n ≤ maxLen) (hb : base ≤ g) : w.ownsRow base e 1 (.slice (some ⟨g, 0, none⟩) n n) n cs := by
  subst hn
  exact ⟨(Nat.mul_one _).symm, .inr ⟨g, _, _, rfl, hb, h, Nat.le_refl _, hm, by simp, by simp⟩⟩
def z64 : List Int := List.replicate 64 0
def z65 : List Int := List.replicate 64 0 ++ [0]
theorem z64_b : ∀ x ∈ z64, -9223372036854775808 ≤ x ∧ x ≤ 9223372036854775807 := by decide +kernel
theorem z65_b : ∀ x ∈ z65, -9223372036854775808 ≤ x ∧ x ≤ 9223372036854775807 := by decide +kernel
theorem z64_e : lensE z64 = 0 := by decide +kernel
theorem z65_e : lensE z65 = 2 := by decide +kernel
theorem z64_st : st z64 z64.length = 64 := by decide +kernel
theorem z64_v : z64.map iV = List.replicate 64 (.int .i64 0) := rfl
set_option maxRecDepth 100000 in
set_option maxHeartbeats 3000000 in
theorem quotas_law (A B : Option Addr) (n ca m cb : Nat) (w : World) :
    Rt Try.prog 6 [.agg #[.slice A n ca, .slice B m cb]] w (fun v w' => v = .bool true ∧ From w w') := by
  refine enter (n := 182) Try.func6 rfl rfl rfl ?_
  refine cd_seq ?_
  refine cd_region ?_
  refine st_box (v := .agg _) rfl ?_
  intro b1 w1 E1 hb1 hk1
  refine st_val (ro_assign (v := .bool _) rfl) ?_
  refine st_nil ?_
  refine nx_then ?_
  refine cd_seq ?_
  refine cd_region ?_
  have hB19 := (From.rfl_.next E1)
  have hl1 := hk1.lt
  refine st_make BndQuotas_m22 rfl rfl rfl (by decide) (by decide) ?_
  intro b19 w2 E19 hb19 hk19
  replace hk1 := hk1.from_ (From.rfl_.next E19)
  have hz19 := hk19.lt
  have hg19 : w.heap.size ≤ b19 := by have := hB19.size; omega
  refine st_val (ro_assign (v := .slice _ _ _) rfl) ?_
  refine st_nil ?_
  refine nx_then ?_
  refine cd_seq ?_
  refine cd_region ?_
  refine st_val (ro_move (v := .slice _ _ _) rfl) ?_
  refine st_call BndQuotas_k18 (new_ok 64 (some ⟨b19, 0, none⟩) 64 z64 _ (RowOf.own (f := iV) (l := z64) (base := 0) (own_blk hk19 rfl (by decide) (Nat.zero_le _))).2 rfl z64_b (by decide) z64_e) ?_
  rintro v22 w3 ⟨⟨p22, rfl, hv22⟩, E22⟩
  replace hk1 := hk1.from_ (From.rfl_.next E22)
  replace hk19 := hk19.from_ (From.rfl_.next E22)
  have hz22 := E22.size
  refine st_val (ro_move (v := .tuple _) rfl) ?_
  refine st_val (ro_extract rfl rfl) ?_
  refine st_val (ro_extract rfl rfl) ?_
  refine st_val (ro_assign (v := .pointer _) rfl) ?_
  refine st_val (ro_assign (v := .int _ _) rfl) ?_
  refine st_nil ?_
  refine nx_then ?_
  refine cd_seq ?_
  refine cd_region ?_
  refine st_val (ro_move (v := .slice _ _ _) rfl) ?_
  refine st_lit1 (v := .int _ _) BndQuotas_q22 rfl rfl rfl ?_
  intro b27 w4 E27 hb27 hk27
  replace hk1 := hk1.from_ (From.rfl_.next E27)
  replace hk19 := hk19.from_ (From.rfl_.next E27)
  replace hv22 := hv22.from_ (From.rfl_.next E27)
  have hB27 := ((((From.rfl_.next E1).next E19).next E22).next E27)
  refine st_appendB (base := w.heap.size) BndQuotas_q22 rfl (by decide) rfl (A := some ⟨b19, 0, none⟩) (xs := z64.map iV) (news := [.int .i64 0]) (own_blk hk19 rfl (by decide) hg19) (by have := hB27.size; omega) rfl rfl (fun _ => ⟨b27, 0, rfl, hk27.range 0 _ (fun j v h => by simpa using h)⟩) (fun h => by cases h) (by simp [Value.oneCell']) (by decide) (by decide) ?_
  intro A28 c28 w5 ho28 hg28
  replace hk1 := hk1.grown hg28 (fun k hk => by (have e : b19 = k := by simpa using hk); omega)
  replace hv22 := hv22.grown hg28 (fun k hk => by (have e : b19 = k := by simpa using hk); omega)
  refine st_call BndQuotas_k18 (new_bad 65 2 A28 c28 z65 _ (RowOf.own (f := iV) (l := z65) ho28).2 rfl z65_b (by decide) z65_e (by decide)) ?_
  rintro v29 w6 ⟨rfl, E29⟩
  refine st_val (ro_move (v := .tuple _) rfl) ?_
  refine st_val (ro_extract rfl rfl) ?_
  refine st_val (ro_extract rfl rfl) ?_
  refine st_val (ro_assign (v := .pointer _) rfl) ?_
  refine st_val (ro_assign (v := .int _ _) rfl) ?_
  refine st_nil ?_
  refine nx_then ?_
  refine cd_seq ?_
  refine cd_region ?_
  refine st_lit1 (v := .int _ _) BndQuotas_q22 rfl rfl rfl ?_
  intro b33 w7 E33 hb33 hk33
  refine st_call BndQuotas_k18 (new_ok 1 (some ⟨b33, 0, none⟩) 1 [131071] _ (RowOf.blk hk33 (fun i hi => by match i, hi with | 0, _ => rfl)) rfl (by decide) (by decide) (by decide)) ?_
  rintro v34 w8 ⟨⟨p34, rfl, hv34⟩, E34⟩
  replace hv22 := hv22.from_ (((From.rfl_.next E29).next E33).next E34)
  replace hk1 := hk1.from_ (((From.rfl_.next E29).next E33).next E34)
  refine st_val (ro_move (v := .tuple _) rfl) ?_
  refine st_val (ro_extract rfl rfl) ?_
  refine st_val (ro_extract rfl rfl) ?_
  refine st_val (ro_assign (v := .pointer _) rfl) ?_
  refine st_val (ro_assign (v := .int _ _) rfl) ?_
  refine st_nil ?_
  refine nx_then ?_
  refine cd_seq ?_
  refine cd_region ?_
  refine st_lit1 (v := .int _ _) BndQuotas_q22 rfl rfl rfl ?_
  intro b38 w9 E38 hb38 hk38
  refine st_call BndQuotas_k18 (new_bad 1 2 (some ⟨b38, 0, none⟩) 1 [131072] _ (RowOf.blk hk38 (fun i hi => by match i, hi with | 0, _ => rfl)) rfl (by decide) (by decide) (by decide) (by decide)) ?_
  rintro v39 w10 ⟨rfl, E39⟩
  refine st_val (ro_move (v := .tuple _) rfl) ?_
  refine st_val (ro_extract rfl rfl) ?_
  refine st_val (ro_extract rfl rfl) ?_
  refine st_val (ro_assign (v := .pointer _) rfl) ?_
  refine st_val (ro_assign (v := .int _ _) rfl) ?_
  refine st_nil ?_
  refine nx_then ?_
  refine cd_seq ?_
  refine cd_region ?_
  refine st_lits [.const (.int .i64 65536), .const (.int .i64 65534)] [.int .i64 65536, .int .i64 65534] BndQuotas_q22 rfl rfl rfl rfl (by simp [Value.cells]) ?_
  intro b43 w11 E43 hb43 hk43
  refine st_call BndQuotas_k18 (new_ok 2 (some ⟨b43, 0, none⟩) 2 [65536, 65534] _ (RowOf.blk hk43 (fun i hi => by match i, hi with | 0, _ => rfl | 1, _ => rfl)) rfl (by decide) (by decide) (by decide)) ?_
  rintro v44 w12 ⟨⟨p44, rfl, hv44⟩, E44⟩
  refine st_val (ro_move (v := .tuple _) rfl) ?_
  refine st_val (ro_extract rfl rfl) ?_
  refine st_val (ro_extract rfl rfl) ?_
  refine st_val (ro_assign (v := .pointer _) rfl) ?_
  refine st_val (ro_assign (v := .int _ _) rfl) ?_
  refine st_nil ?_
  refine nx_then ?_
  refine cd_seq ?_
  refine cd_region ?_
  refine st_lits [.const (.int .i64 65536), .const (.int .i64 65535)] [.int .i64 65536, .int .i64 65535] BndQuotas_q22 rfl rfl rfl rfl (by simp [Value.cells]) ?_
  intro b48 w13 E48 hb48 hk48
  refine st_call BndQuotas_k18 (new_bad 2 2 (some ⟨b48, 0, none⟩) 2 [65536, 65535] _ (RowOf.blk hk48 (fun i hi => by match i, hi with | 0, _ => rfl | 1, _ => rfl)) rfl (by decide) (by decide) (by decide) (by decide)) ?_
  rintro v49 w14 ⟨rfl, E49⟩
  refine st_val (ro_move (v := .tuple _) rfl) ?_
  refine st_val (ro_extract rfl rfl) ?_
  refine st_val (ro_extract rfl rfl) ?_
  refine st_val (ro_assign (v := .pointer _) rfl) ?_
  refine st_val (ro_assign (v := .int _ _) rfl) ?_
  refine st_nil ?_
  refine nx_then ?_
  refine cd_seq ?_
  refine cd_seq ?_
  refine cd_region ?_
  refine st_val (ro_move (v := .int _ _) rfl) ?_
  refine st_call BndQuotas_k15 (num_any _ _) ?_
  rintro v53 w15 ⟨rfl, rfl⟩
  refine st_val (ro_neq rfl rfl) ?_
  refine st_val (ro_move (v := .bool _) rfl) ?_
  refine st_split (t := 55) rfl (fun Q16 => ?_) (fun Q16 => ?_)
  · (try first | replace Q16 := bn_t Q16 | replace Q16 := bn_f Q16)
    (try first | replace Q16 := bx_t Q16 | replace Q16 := bx_f Q16 | replace Q16 := be_t Q16 | replace Q16 := be_f Q16 | replace Q16 := of_decide_eq_true Q16 | replace Q16 := of_decide_eq_false Q16)
    first
     | (exfalso; first | omega | contradiction | (cases Q16; done))
     | skip
       refine st_gno rfl rfl ?_
       refine st_gno rfl rfl ?_
       refine st_val (ro_pickT (v := .bool _) rfl rfl) ?_
       refine st_val (ro_move (v := .bool _) rfl) ?_
       refine st_gno rfl rfl ?_
       refine st_gno rfl rfl ?_
       refine st_gno rfl rfl ?_
       refine st_val (ro_pickT (v := .bool _) rfl rfl) ?_
       refine st_val (ro_move (v := .bool _) rfl) ?_
       refine st_gno rfl rfl ?_
       refine st_gno rfl rfl ?_
       refine st_gno rfl rfl ?_
       refine st_val (ro_pickT (v := .bool _) rfl rfl) ?_
       refine st_val (ro_move (v := .bool _) rfl) ?_
       refine st_gno rfl rfl ?_
       refine st_gno rfl rfl ?_
       refine st_val (ro_pickT (v := .bool _) rfl rfl) ?_
       refine st_val (ro_move (v := .bool _) rfl) ?_
       refine st_gno rfl rfl ?_
       refine st_gno rfl rfl ?_
       refine st_gno rfl rfl ?_
       refine st_val (ro_pickT (v := .bool _) rfl rfl) ?_
       refine st_val (ro_move (v := .bool _) rfl) ?_
       refine st_gno rfl rfl ?_
       refine st_gno rfl rfl ?_
       refine st_val (ro_pickT (v := .bool _) rfl rfl) ?_
       refine st_val (ro_move (v := .bool _) rfl) ?_
       refine st_gno rfl rfl ?_
       refine st_gno rfl rfl ?_
       refine st_gno rfl rfl ?_
       refine st_val (ro_pickT (v := .bool _) rfl rfl) ?_
       refine st_val (ro_move (v := .bool _) rfl) ?_
       refine st_gno rfl rfl ?_
       refine st_gno rfl rfl ?_
       refine st_gno rfl rfl ?_
       refine st_val (ro_pickT (v := .bool _) rfl rfl) ?_
       refine st_val (ro_move (v := .bool _) rfl) ?_
       refine st_gno rfl rfl ?_
       refine st_gno rfl rfl ?_
       refine st_val (ro_pickT (v := .bool _) rfl rfl) ?_
       refine st_val (ro_move (v := .bool _) rfl) ?_
       refine st_gno rfl rfl ?_
       refine st_gno rfl rfl ?_
       refine st_gno rfl rfl ?_
       refine st_val (ro_pickT (v := .bool _) rfl rfl) ?_
       refine st_val (ro_move (v := .bool _) rfl) ?_
       refine st_gno rfl rfl ?_
       refine st_gno rfl rfl ?_
       refine st_val (ro_pickT (v := .bool _) rfl rfl) ?_
       refine st_val (ro_move (v := .bool _) rfl) ?_
       refine st_gno rfl rfl ?_
       refine st_gno rfl rfl ?_
       refine st_gno rfl rfl ?_
       refine st_val (ro_pickT (v := .bool _) rfl rfl) ?_
       refine st_val (ro_move (v := .bool _) rfl) ?_
       refine st_gno rfl rfl ?_
       refine st_gno rfl rfl ?_
       refine st_val (ro_pickT (v := .bool _) rfl rfl) ?_
       refine st_nil ?_
       refine nx_then ?_
       refine cd_condT rfl ?_
       refine cd_seq ?_
       refine cd_region ?_
       refine st_val (ro_assign (v := .bool _) rfl) ?_
       refine st_nil ?_
       refine nx_then ?_
       refine cd_ret ?_
       refine rt_then ?_
       refine res1 (v := .bool _) rfl rfl ?_
       exact ⟨rfl, ((((((((((((((From.rfl_.next E1).next E19).next E22).next E27).grew hg28 (fun k hk => by cases hk; exact hg19)).next E29).next E33).next E34).next E38).next E39).next E43).next E44).next E48).next E49)⟩
  · (try first | replace Q16 := bn_t Q16 | replace Q16 := bn_f Q16)
    (try first | replace Q16 := bx_t Q16 | replace Q16 := bx_f Q16 | replace Q16 := be_t Q16 | replace Q16 := be_f Q16 | replace Q16 := of_decide_eq_true Q16 | replace Q16 := of_decide_eq_false Q16)
    first
     | (exfalso; first | omega | contradiction | (cases Q16; done))
     | skip
       refine st_unguard rfl ?_
       refine st_val (ro_move (v := .pointer _) rfl) ?_
       refine st_unguard rfl ?_
       refine st_val (ro_eqlNil BndQuotas_p26 rfl rfl) ?_
       refine st_val (ro_pickF (v := .bool _) rfl rfl) ?_
       refine st_val (ro_move (v := .bool _) rfl) ?_
       refine st_split (t := 59) rfl (fun Q17 => ?_) (fun Q17 => ?_)
       · (try first | replace Q17 := bn_t Q17 | replace Q17 := bn_f Q17)
         (try first | replace Q17 := bx_t Q17 | replace Q17 := bx_f Q17 | replace Q17 := be_t Q17 | replace Q17 := be_f Q17 | replace Q17 := of_decide_eq_true Q17 | replace Q17 := of_decide_eq_false Q17)
         first
          | (exfalso; first | omega | contradiction | (cases Q17; done))
          | skip
            refine st_gno rfl rfl ?_
            refine st_gno rfl rfl ?_
            refine st_gno rfl rfl ?_
            refine st_val (ro_pickT (v := .bool _) rfl rfl) ?_
            refine st_val (ro_move (v := .bool _) rfl) ?_
            refine st_gno rfl rfl ?_
            refine st_gno rfl rfl ?_
            refine st_gno rfl rfl ?_
            refine st_val (ro_pickT (v := .bool _) rfl rfl) ?_
            refine st_val (ro_move (v := .bool _) rfl) ?_
            refine st_gno rfl rfl ?_
            refine st_gno rfl rfl ?_
            refine st_val (ro_pickT (v := .bool _) rfl rfl) ?_
            refine st_val (ro_move (v := .bool _) rfl) ?_
            refine st_gno rfl rfl ?_
            refine st_gno rfl rfl ?_
            refine st_gno rfl rfl ?_
            refine st_val (ro_pickT (v := .bool _) rfl rfl) ?_
            refine st_val (ro_move (v := .bool _) rfl) ?_
            refine st_gno rfl rfl ?_
            refine st_gno rfl rfl ?_
            refine st_val (ro_pickT (v := .bool _) rfl rfl) ?_
            refine st_val (ro_move (v := .bool _) rfl) ?_
            refine st_gno rfl rfl ?_
            refine st_gno rfl rfl ?_
            refine st_gno rfl rfl ?_
            refine st_val (ro_pickT (v := .bool _) rfl rfl) ?_
            refine st_val (ro_move (v := .bool _) rfl) ?_
            refine st_gno rfl rfl ?_
            refine st_gno rfl rfl ?_
            refine st_gno rfl rfl ?_
            refine st_val (ro_pickT (v := .bool _) rfl rfl) ?_
            refine st_val (ro_move (v := .bool _) rfl) ?_
            refine st_gno rfl rfl ?_
            refine st_gno rfl rfl ?_
            refine st_val (ro_pickT (v := .bool _) rfl rfl) ?_
            refine st_val (ro_move (v := .bool _) rfl) ?_
            refine st_gno rfl rfl ?_
            refine st_gno rfl rfl ?_
            refine st_gno rfl rfl ?_
            refine st_val (ro_pickT (v := .bool _) rfl rfl) ?_
            refine st_val (ro_move (v := .bool _) rfl) ?_
            refine st_gno rfl rfl ?_
            refine st_gno rfl rfl ?_
            refine st_val (ro_pickT (v := .bool _) rfl rfl) ?_
            refine st_val (ro_move (v := .bool _) rfl) ?_
            refine st_gno rfl rfl ?_
            refine st_gno rfl rfl ?_
            refine st_gno rfl rfl ?_
            refine st_val (ro_pickT (v := .bool _) rfl rfl) ?_
            refine st_val (ro_move (v := .bool _) rfl) ?_
            refine st_gno rfl rfl ?_
            refine st_gno rfl rfl ?_
            refine st_val (ro_pickT (v := .bool _) rfl rfl) ?_
            refine st_nil ?_
            refine nx_then ?_
            refine cd_condT rfl ?_
            refine cd_seq ?_
            refine cd_region ?_
            refine st_val (ro_assign (v := .bool _) rfl) ?_
            refine st_nil ?_
            refine nx_then ?_
            refine cd_ret ?_
            refine rt_then ?_
            refine res1 (v := .bool _) rfl rfl ?_
            exact ⟨rfl, ((((((((((((((From.rfl_.next E1).next E19).next E22).next E27).grew hg28 (fun k hk => by cases hk; exact hg19)).next E29).next E33).next E34).next E38).next E39).next E43).next E44).next E48).next E49)⟩
       · (try first | replace Q17 := bn_t Q17 | replace Q17 := bn_f Q17)
         (try first | replace Q17 := bx_t Q17 | replace Q17 := bx_f Q17 | replace Q17 := be_t Q17 | replace Q17 := be_f Q17 | replace Q17 := of_decide_eq_true Q17 | replace Q17 := of_decide_eq_false Q17)
         first
          | (exfalso; first | omega | contradiction | (cases Q17; done))
          | skip
            refine st_unguard rfl ?_
            refine st_val (ro_move (v := .pointer _) rfl) ?_
            refine st_unguard rfl ?_
            refine st_call BndQuotas_k11 (all_c 64 _ p22 z64 _ (hv22.from_ ((((((From.rfl_.next E38).next E39).next E43).next E44).next E48).next E49)) z64_st) ?_
            rintro v61 w18 ⟨rfl, rfl⟩
            refine st_unguard rfl ?_
            refine st_val (ro_neq rfl rfl) ?_
            refine st_val (ro_pickF (v := .bool _) rfl rfl) ?_
            refine st_val (ro_move (v := .bool _) rfl) ?_
            refine st_split (t := 64) rfl (fun Q19 => ?_) (fun Q19 => ?_)
            · (try first | replace Q19 := bn_t Q19 | replace Q19 := bn_f Q19)
              (try first | replace Q19 := bx_t Q19 | replace Q19 := bx_f Q19 | replace Q19 := be_t Q19 | replace Q19 := be_f Q19 | replace Q19 := of_decide_eq_true Q19 | replace Q19 := of_decide_eq_false Q19)
              first
               | (exfalso; first | omega | contradiction | (cases Q19; done))
               | skip
                 refine st_gno rfl rfl ?_
                 refine st_gno rfl rfl ?_
                 refine st_gno rfl rfl ?_
                 refine st_val (ro_pickT (v := .bool _) rfl rfl) ?_
                 refine st_val (ro_move (v := .bool _) rfl) ?_
                 refine st_gno rfl rfl ?_
                 refine st_gno rfl rfl ?_
                 refine st_val (ro_pickT (v := .bool _) rfl rfl) ?_
                 refine st_val (ro_move (v := .bool _) rfl) ?_
                 refine st_gno rfl rfl ?_
                 refine st_gno rfl rfl ?_
                 refine st_gno rfl rfl ?_
                 refine st_val (ro_pickT (v := .bool _) rfl rfl) ?_
                 refine st_val (ro_move (v := .bool _) rfl) ?_
                 refine st_gno rfl rfl ?_
                 refine st_gno rfl rfl ?_
                 refine st_val (ro_pickT (v := .bool _) rfl rfl) ?_
                 refine st_val (ro_move (v := .bool _) rfl) ?_
                 refine st_gno rfl rfl ?_
                 refine st_gno rfl rfl ?_
                 refine st_gno rfl rfl ?_
                 refine st_val (ro_pickT (v := .bool _) rfl rfl) ?_
                 refine st_val (ro_move (v := .bool _) rfl) ?_
                 refine st_gno rfl rfl ?_
                 refine st_gno rfl rfl ?_
                 refine st_gno rfl rfl ?_
                 refine st_val (ro_pickT (v := .bool _) rfl rfl) ?_
                 refine st_val (ro_move (v := .bool _) rfl) ?_
                 refine st_gno rfl rfl ?_
                 refine st_gno rfl rfl ?_
                 refine st_val (ro_pickT (v := .bool _) rfl rfl) ?_
                 refine st_val (ro_move (v := .bool _) rfl) ?_
                 refine st_gno rfl rfl ?_
                 refine st_gno rfl rfl ?_
                 refine st_gno rfl rfl ?_
                 refine st_val (ro_pickT (v := .bool _) rfl rfl) ?_
                 refine st_val (ro_move (v := .bool _) rfl) ?_
                 refine st_gno rfl rfl ?_
                 refine st_gno rfl rfl ?_
                 refine st_val (ro_pickT (v := .bool _) rfl rfl) ?_
                 refine st_val (ro_move (v := .bool _) rfl) ?_
                 refine st_gno rfl rfl ?_
                 refine st_gno rfl rfl ?_
                 refine st_gno rfl rfl ?_
                 refine st_val (ro_pickT (v := .bool _) rfl rfl) ?_
                 refine st_val (ro_move (v := .bool _) rfl) ?_
                 refine st_gno rfl rfl ?_
                 refine st_gno rfl rfl ?_
                 refine st_val (ro_pickT (v := .bool _) rfl rfl) ?_
                 refine st_nil ?_
                 refine nx_then ?_
                 refine cd_condT rfl ?_
                 refine cd_seq ?_
                 refine cd_region ?_
                 refine st_val (ro_assign (v := .bool _) rfl) ?_
                 refine st_nil ?_
                 refine nx_then ?_
                 refine cd_ret ?_
                 refine rt_then ?_
                 refine res1 (v := .bool _) rfl rfl ?_
                 exact ⟨rfl, ((((((((((((((From.rfl_.next E1).next E19).next E22).next E27).grew hg28 (fun k hk => by cases hk; exact hg19)).next E29).next E33).next E34).next E38).next E39).next E43).next E44).next E48).next E49)⟩
            · (try first | replace Q19 := bn_t Q19 | replace Q19 := bn_f Q19)
              (try first | replace Q19 := bx_t Q19 | replace Q19 := bx_f Q19 | replace Q19 := be_t Q19 | replace Q19 := be_f Q19 | replace Q19 := of_decide_eq_true Q19 | replace Q19 := of_decide_eq_false Q19)
              first
               | (exfalso; first | omega | contradiction | (cases Q19; done))
               | skip
                 refine st_unguard rfl ?_
                 refine st_val (ro_move (v := .int _ _) rfl) ?_
                 refine st_unguard rfl ?_
                 refine st_call BndQuotas_k15 (num_any _ _) ?_
                 rintro v66 w20 ⟨rfl, rfl⟩
                 refine st_unguard rfl ?_
                 refine st_val (ro_neq rfl rfl) ?_
                 refine st_val (ro_pickF (v := .bool _) rfl rfl) ?_
                 refine st_val (ro_move (v := .bool _) rfl) ?_
                 refine st_split (t := 69) rfl (fun Q21 => ?_) (fun Q21 => ?_)
                 · (try first | replace Q21 := bn_t Q21 | replace Q21 := bn_f Q21)
                   (try first | replace Q21 := bx_t Q21 | replace Q21 := bx_f Q21 | replace Q21 := be_t Q21 | replace Q21 := be_f Q21 | replace Q21 := of_decide_eq_true Q21 | replace Q21 := of_decide_eq_false Q21)
                   first
                    | (exfalso; first | omega | contradiction | (cases Q21; done))
                    | skip
                      refine st_gno rfl rfl ?_
                      refine st_gno rfl rfl ?_
                      refine st_val (ro_pickT (v := .bool _) rfl rfl) ?_
                      refine st_val (ro_move (v := .bool _) rfl) ?_
                      refine st_gno rfl rfl ?_
                      refine st_gno rfl rfl ?_
                      refine st_gno rfl rfl ?_
                      refine st_val (ro_pickT (v := .bool _) rfl rfl) ?_
                      refine st_val (ro_move (v := .bool _) rfl) ?_
                      refine st_gno rfl rfl ?_
                      refine st_gno rfl rfl ?_
                      refine st_val (ro_pickT (v := .bool _) rfl rfl) ?_
                      refine st_val (ro_move (v := .bool _) rfl) ?_
                      refine st_gno rfl rfl ?_
                      refine st_gno rfl rfl ?_
                      refine st_gno rfl rfl ?_
                      refine st_val (ro_pickT (v := .bool _) rfl rfl) ?_
                      refine st_val (ro_move (v := .bool _) rfl) ?_
                      refine st_gno rfl rfl ?_
                      refine st_gno rfl rfl ?_
                      refine st_gno rfl rfl ?_
                      refine st_val (ro_pickT (v := .bool _) rfl rfl) ?_
                      refine st_val (ro_move (v := .bool _) rfl) ?_
                      refine st_gno rfl rfl ?_
                      refine st_gno rfl rfl ?_
                      refine st_val (ro_pickT (v := .bool _) rfl rfl) ?_
                      refine st_val (ro_move (v := .bool _) rfl) ?_
                      refine st_gno rfl rfl ?_
                      refine st_gno rfl rfl ?_
                      refine st_gno rfl rfl ?_
                      refine st_val (ro_pickT (v := .bool _) rfl rfl) ?_
                      refine st_val (ro_move (v := .bool _) rfl) ?_
                      refine st_gno rfl rfl ?_
                      refine st_gno rfl rfl ?_
                      refine st_val (ro_pickT (v := .bool _) rfl rfl) ?_
                      refine st_val (ro_move (v := .bool _) rfl) ?_
                      refine st_gno rfl rfl ?_
                      refine st_gno rfl rfl ?_
                      refine st_gno rfl rfl ?_
                      refine st_val (ro_pickT (v := .bool _) rfl rfl) ?_
                      refine st_val (ro_move (v := .bool _) rfl) ?_
                      refine st_gno rfl rfl ?_
                      refine st_gno rfl rfl ?_
                      refine st_val (ro_pickT (v := .bool _) rfl rfl) ?_
                      refine st_nil ?_
                      refine nx_then ?_
                      refine cd_condT rfl ?_
                      refine cd_seq ?_
                      refine cd_region ?_
                      refine st_val (ro_assign (v := .bool _) rfl) ?_
                      refine st_nil ?_
                      refine nx_then ?_
                      refine cd_ret ?_
                      refine rt_then ?_
                      refine res1 (v := .bool _) rfl rfl ?_
                      exact ⟨rfl, ((((((((((((((From.rfl_.next E1).next E19).next E22).next E27).grew hg28 (fun k hk => by cases hk; exact hg19)).next E29).next E33).next E34).next E38).next E39).next E43).next E44).next E48).next E49)⟩
                 · (try first | replace Q21 := bn_t Q21 | replace Q21 := bn_f Q21)
                   (try first | replace Q21 := bx_t Q21 | replace Q21 := bx_f Q21 | replace Q21 := be_t Q21 | replace Q21 := be_f Q21 | replace Q21 := of_decide_eq_true Q21 | replace Q21 := of_decide_eq_false Q21)
                   first
                    | (exfalso; first | omega | contradiction | (cases Q21; done))
                    | skip
                      refine st_unguard rfl ?_
                      refine st_val (ro_move (v := .pointer _) rfl) ?_
                      refine st_unguard rfl ?_
                      refine st_val (ro_neqNil BndQuotas_p26 rfl rfl) ?_
                      refine st_val (ro_pickF (v := .bool _) rfl rfl) ?_
                      refine st_val (ro_move (v := .bool _) rfl) ?_
                      refine st_split (t := 73) rfl (fun Q22 => ?_) (fun Q22 => ?_)
                      · (try first | replace Q22 := bn_t Q22 | replace Q22 := bn_f Q22)
                        (try first | replace Q22 := bx_t Q22 | replace Q22 := bx_f Q22 | replace Q22 := be_t Q22 | replace Q22 := be_f Q22 | replace Q22 := of_decide_eq_true Q22 | replace Q22 := of_decide_eq_false Q22)
                        first
                         | (exfalso; first | omega | contradiction | (cases Q22; done))
                         | skip
                           refine st_gno rfl rfl ?_
                           refine st_gno rfl rfl ?_
                           refine st_gno rfl rfl ?_
                           refine st_val (ro_pickT (v := .bool _) rfl rfl) ?_
                           refine st_val (ro_move (v := .bool _) rfl) ?_
                           refine st_gno rfl rfl ?_
                           refine st_gno rfl rfl ?_
                           refine st_val (ro_pickT (v := .bool _) rfl rfl) ?_
                           refine st_val (ro_move (v := .bool _) rfl) ?_
                           refine st_gno rfl rfl ?_
                           refine st_gno rfl rfl ?_
                           refine st_gno rfl rfl ?_
                           refine st_val (ro_pickT (v := .bool _) rfl rfl) ?_
                           refine st_val (ro_move (v := .bool _) rfl) ?_
                           refine st_gno rfl rfl ?_
                           refine st_gno rfl rfl ?_
                           refine st_gno rfl rfl ?_
                           refine st_val (ro_pickT (v := .bool _) rfl rfl) ?_
                           refine st_val (ro_move (v := .bool _) rfl) ?_
                           refine st_gno rfl rfl ?_
                           refine st_gno rfl rfl ?_
                           refine st_val (ro_pickT (v := .bool _) rfl rfl) ?_
                           refine st_val (ro_move (v := .bool _) rfl) ?_
                           refine st_gno rfl rfl ?_
                           refine st_gno rfl rfl ?_
                           refine st_gno rfl rfl ?_
                           refine st_val (ro_pickT (v := .bool _) rfl rfl) ?_
                           refine st_val (ro_move (v := .bool _) rfl) ?_
                           refine st_gno rfl rfl ?_
                           refine st_gno rfl rfl ?_
                           refine st_val (ro_pickT (v := .bool _) rfl rfl) ?_
                           refine st_val (ro_move (v := .bool _) rfl) ?_
                           refine st_gno rfl rfl ?_
                           refine st_gno rfl rfl ?_
                           refine st_gno rfl rfl ?_
                           refine st_val (ro_pickT (v := .bool _) rfl rfl) ?_
                           refine st_val (ro_move (v := .bool _) rfl) ?_
                           refine st_gno rfl rfl ?_
                           refine st_gno rfl rfl ?_
                           refine st_val (ro_pickT (v := .bool _) rfl rfl) ?_
                           refine st_nil ?_
                           refine nx_then ?_
                           refine cd_condT rfl ?_
                           refine cd_seq ?_
                           refine cd_region ?_
                           refine st_val (ro_assign (v := .bool _) rfl) ?_
                           refine st_nil ?_
                           refine nx_then ?_
                           refine cd_ret ?_
                           refine rt_then ?_
                           refine res1 (v := .bool _) rfl rfl ?_
                           exact ⟨rfl, ((((((((((((((From.rfl_.next E1).next E19).next E22).next E27).grew hg28 (fun k hk => by cases hk; exact hg19)).next E29).next E33).next E34).next E38).next E39).next E43).next E44).next E48).next E49)⟩
                      · (try first | replace Q22 := bn_t Q22 | replace Q22 := bn_f Q22)
                        (try first | replace Q22 := bx_t Q22 | replace Q22 := bx_f Q22 | replace Q22 := be_t Q22 | replace Q22 := be_f Q22 | replace Q22 := of_decide_eq_true Q22 | replace Q22 := of_decide_eq_false Q22)
                        first
                         | (exfalso; first | omega | contradiction | (cases Q22; done))
                         | skip
                           refine st_unguard rfl ?_
                           refine st_val (ro_move (v := .int _ _) rfl) ?_
                           refine st_unguard rfl ?_
                           refine st_call BndQuotas_k15 (num_any _ _) ?_
                           rintro v75 w23 ⟨rfl, rfl⟩
                           refine st_unguard rfl ?_
                           refine st_val (ro_neq rfl rfl) ?_
                           refine st_val (ro_pickF (v := .bool _) rfl rfl) ?_
                           refine st_val (ro_move (v := .bool _) rfl) ?_
                           refine st_split (t := 78) rfl (fun Q24 => ?_) (fun Q24 => ?_)
                           · (try first | replace Q24 := bn_t Q24 | replace Q24 := bn_f Q24)
                             (try first | replace Q24 := bx_t Q24 | replace Q24 := bx_f Q24 | replace Q24 := be_t Q24 | replace Q24 := be_f Q24 | replace Q24 := of_decide_eq_true Q24 | replace Q24 := of_decide_eq_false Q24)
                             first
                              | (exfalso; first | omega | contradiction | (cases Q24; done))
                              | skip
                                refine st_gno rfl rfl ?_
                                refine st_gno rfl rfl ?_
                                refine st_val (ro_pickT (v := .bool _) rfl rfl) ?_
                                refine st_val (ro_move (v := .bool _) rfl) ?_
                                refine st_gno rfl rfl ?_
                                refine st_gno rfl rfl ?_
                                refine st_gno rfl rfl ?_
                                refine st_val (ro_pickT (v := .bool _) rfl rfl) ?_
                                refine st_val (ro_move (v := .bool _) rfl) ?_
                                refine st_gno rfl rfl ?_
                                refine st_gno rfl rfl ?_
                                refine st_gno rfl rfl ?_
                                refine st_val (ro_pickT (v := .bool _) rfl rfl) ?_
                                refine st_val (ro_move (v := .bool _) rfl) ?_
                                refine st_gno rfl rfl ?_
                                refine st_gno rfl rfl ?_
                                refine st_val (ro_pickT (v := .bool _) rfl rfl) ?_
                                refine st_val (ro_move (v := .bool _) rfl) ?_
                                refine st_gno rfl rfl ?_
                                refine st_gno rfl rfl ?_
                                refine st_gno rfl rfl ?_
                                refine st_val (ro_pickT (v := .bool _) rfl rfl) ?_
                                refine st_val (ro_move (v := .bool _) rfl) ?_
                                refine st_gno rfl rfl ?_
                                refine st_gno rfl rfl ?_
                                refine st_val (ro_pickT (v := .bool _) rfl rfl) ?_
                                refine st_val (ro_move (v := .bool _) rfl) ?_
                                refine st_gno rfl rfl ?_
                                refine st_gno rfl rfl ?_
                                refine st_gno rfl rfl ?_
                                refine st_val (ro_pickT (v := .bool _) rfl rfl) ?_
                                refine st_val (ro_move (v := .bool _) rfl) ?_
                                refine st_gno rfl rfl ?_
                                refine st_gno rfl rfl ?_
                                refine st_val (ro_pickT (v := .bool _) rfl rfl) ?_
                                refine st_nil ?_
                                refine nx_then ?_
                                refine cd_condT rfl ?_
                                refine cd_seq ?_
                                refine cd_region ?_
                                refine st_val (ro_assign (v := .bool _) rfl) ?_
                                refine st_nil ?_
                                refine nx_then ?_
                                refine cd_ret ?_
                                refine rt_then ?_
                                refine res1 (v := .bool _) rfl rfl ?_
                                exact ⟨rfl, ((((((((((((((From.rfl_.next E1).next E19).next E22).next E27).grew hg28 (fun k hk => by cases hk; exact hg19)).next E29).next E33).next E34).next E38).next E39).next E43).next E44).next E48).next E49)⟩
                           · (try first | replace Q24 := bn_t Q24 | replace Q24 := bn_f Q24)
                             (try first | replace Q24 := bx_t Q24 | replace Q24 := bx_f Q24 | replace Q24 := be_t Q24 | replace Q24 := be_f Q24 | replace Q24 := of_decide_eq_true Q24 | replace Q24 := of_decide_eq_false Q24)
                             first
                              | (exfalso; first | omega | contradiction | (cases Q24; done))
                              | skip
                                refine st_unguard rfl ?_
                                refine st_val (ro_move (v := .pointer _) rfl) ?_
                                refine st_unguard rfl ?_
                                refine st_val (ro_eqlNil BndQuotas_p26 rfl rfl) ?_
                                refine st_val (ro_pickF (v := .bool _) rfl rfl) ?_
                                refine st_val (ro_move (v := .bool _) rfl) ?_
                                refine st_split (t := 82) rfl (fun Q25 => ?_) (fun Q25 => ?_)
                                · (try first | replace Q25 := bn_t Q25 | replace Q25 := bn_f Q25)
                                  (try first | replace Q25 := bx_t Q25 | replace Q25 := bx_f Q25 | replace Q25 := be_t Q25 | replace Q25 := be_f Q25 | replace Q25 := of_decide_eq_true Q25 | replace Q25 := of_decide_eq_false Q25)
                                  first
                                   | (exfalso; first | omega | contradiction | (cases Q25; done))
                                   | skip
                                     refine st_gno rfl rfl ?_
                                     refine st_gno rfl rfl ?_
                                     refine st_gno rfl rfl ?_
                                     refine st_val (ro_pickT (v := .bool _) rfl rfl) ?_
                                     refine st_val (ro_move (v := .bool _) rfl) ?_
                                     refine st_gno rfl rfl ?_
                                     refine st_gno rfl rfl ?_
                                     refine st_gno rfl rfl ?_
                                     refine st_val (ro_pickT (v := .bool _) rfl rfl) ?_
                                     refine st_val (ro_move (v := .bool _) rfl) ?_
                                     refine st_gno rfl rfl ?_
                                     refine st_gno rfl rfl ?_
                                     refine st_val (ro_pickT (v := .bool _) rfl rfl) ?_
                                     refine st_val (ro_move (v := .bool _) rfl) ?_
                                     refine st_gno rfl rfl ?_
                                     refine st_gno rfl rfl ?_
                                     refine st_gno rfl rfl ?_
                                     refine st_val (ro_pickT (v := .bool _) rfl rfl) ?_
                                     refine st_val (ro_move (v := .bool _) rfl) ?_
                                     refine st_gno rfl rfl ?_
                                     refine st_gno rfl rfl ?_
                                     refine st_val (ro_pickT (v := .bool _) rfl rfl) ?_
                                     refine st_val (ro_move (v := .bool _) rfl) ?_
                                     refine st_gno rfl rfl ?_
                                     refine st_gno rfl rfl ?_
                                     refine st_gno rfl rfl ?_
                                     refine st_val (ro_pickT (v := .bool _) rfl rfl) ?_
                                     refine st_val (ro_move (v := .bool _) rfl) ?_
                                     refine st_gno rfl rfl ?_
                                     refine st_gno rfl rfl ?_
                                     refine st_val (ro_pickT (v := .bool _) rfl rfl) ?_
                                     refine st_nil ?_
                                     refine nx_then ?_
                                     refine cd_condT rfl ?_
                                     refine cd_seq ?_
                                     refine cd_region ?_
                                     refine st_val (ro_assign (v := .bool _) rfl) ?_
                                     refine st_nil ?_
                                     refine nx_then ?_
                                     refine cd_ret ?_
                                     refine rt_then ?_
                                     refine res1 (v := .bool _) rfl rfl ?_
                                     exact ⟨rfl, ((((((((((((((From.rfl_.next E1).next E19).next E22).next E27).grew hg28 (fun k hk => by cases hk; exact hg19)).next E29).next E33).next E34).next E38).next E39).next E43).next E44).next E48).next E49)⟩
                                · (try first | replace Q25 := bn_t Q25 | replace Q25 := bn_f Q25)
                                  (try first | replace Q25 := bx_t Q25 | replace Q25 := bx_f Q25 | replace Q25 := be_t Q25 | replace Q25 := be_f Q25 | replace Q25 := of_decide_eq_true Q25 | replace Q25 := of_decide_eq_false Q25)
                                  first
                                   | (exfalso; first | omega | contradiction | (cases Q25; done))
                                   | skip
                                     refine st_unguard rfl ?_
                                     refine st_val (ro_move (v := .pointer _) rfl) ?_
                                     refine st_unguard rfl ?_
                                     refine st_call BndQuotas_k11 (all_c 131072 _ p34 [131071] _ (hv34.from_ ((((((From.rfl_.next E38).next E39).next E43).next E44).next E48).next E49)) (by decide)) ?_
                                     rintro v84 w26 ⟨rfl, rfl⟩
                                     refine st_unguard rfl ?_
                                     refine st_val (ro_neq rfl rfl) ?_
                                     refine st_val (ro_pickF (v := .bool _) rfl rfl) ?_
                                     refine st_val (ro_move (v := .bool _) rfl) ?_
                                     refine st_split (t := 87) rfl (fun Q27 => ?_) (fun Q27 => ?_)
                                     · (try first | replace Q27 := bn_t Q27 | replace Q27 := bn_f Q27)
                                       (try first | replace Q27 := bx_t Q27 | replace Q27 := bx_f Q27 | replace Q27 := be_t Q27 | replace Q27 := be_f Q27 | replace Q27 := of_decide_eq_true Q27 | replace Q27 := of_decide_eq_false Q27)
                                       first
                                        | (exfalso; first | omega | contradiction | (cases Q27; done))
                                        | skip
                                          refine st_gno rfl rfl ?_
                                          refine st_gno rfl rfl ?_
                                          refine st_gno rfl rfl ?_
                                          refine st_val (ro_pickT (v := .bool _) rfl rfl) ?_
                                          refine st_val (ro_move (v := .bool _) rfl) ?_
                                          refine st_gno rfl rfl ?_
                                          refine st_gno rfl rfl ?_
                                          refine st_val (ro_pickT (v := .bool _) rfl rfl) ?_
                                          refine st_val (ro_move (v := .bool _) rfl) ?_
                                          refine st_gno rfl rfl ?_
                                          refine st_gno rfl rfl ?_
                                          refine st_gno rfl rfl ?_
                                          refine st_val (ro_pickT (v := .bool _) rfl rfl) ?_
                                          refine st_val (ro_move (v := .bool _) rfl) ?_
                                          refine st_gno rfl rfl ?_
                                          refine st_gno rfl rfl ?_
                                          refine st_val (ro_pickT (v := .bool _) rfl rfl) ?_
                                          refine st_val (ro_move (v := .bool _) rfl) ?_
                                          refine st_gno rfl rfl ?_
                                          refine st_gno rfl rfl ?_
                                          refine st_gno rfl rfl ?_
                                          refine st_val (ro_pickT (v := .bool _) rfl rfl) ?_
                                          refine st_val (ro_move (v := .bool _) rfl) ?_
                                          refine st_gno rfl rfl ?_
                                          refine st_gno rfl rfl ?_
                                          refine st_val (ro_pickT (v := .bool _) rfl rfl) ?_
                                          refine st_nil ?_
                                          refine nx_then ?_
                                          refine cd_condT rfl ?_
                                          refine cd_seq ?_
                                          refine cd_region ?_
                                          refine st_val (ro_assign (v := .bool _) rfl) ?_
                                          refine st_nil ?_
                                          refine nx_then ?_
                                          refine cd_ret ?_
                                          refine rt_then ?_
                                          refine res1 (v := .bool _) rfl rfl ?_
                                          exact ⟨rfl, ((((((((((((((From.rfl_.next E1).next E19).next E22).next E27).grew hg28 (fun k hk => by cases hk; exact hg19)).next E29).next E33).next E34).next E38).next E39).next E43).next E44).next E48).next E49)⟩
                                     · (try first | replace Q27 := bn_t Q27 | replace Q27 := bn_f Q27)
                                       (try first | replace Q27 := bx_t Q27 | replace Q27 := bx_f Q27 | replace Q27 := be_t Q27 | replace Q27 := be_f Q27 | replace Q27 := of_decide_eq_true Q27 | replace Q27 := of_decide_eq_false Q27)
                                       first
                                        | (exfalso; first | omega | contradiction | (cases Q27; done))
                                        | skip
                                          refine st_unguard rfl ?_
                                          refine st_val (ro_move (v := .int _ _) rfl) ?_
                                          refine st_unguard rfl ?_
                                          refine st_call BndQuotas_k15 (num_any _ _) ?_
                                          rintro v89 w28 ⟨rfl, rfl⟩
                                          refine st_unguard rfl ?_
                                          refine st_val (ro_neq rfl rfl) ?_
                                          refine st_val (ro_pickF (v := .bool _) rfl rfl) ?_
                                          refine st_val (ro_move (v := .bool _) rfl) ?_
                                          refine st_split (t := 92) rfl (fun Q29 => ?_) (fun Q29 => ?_)
                                          · (try first | replace Q29 := bn_t Q29 | replace Q29 := bn_f Q29)
                                            (try first | replace Q29 := bx_t Q29 | replace Q29 := bx_f Q29 | replace Q29 := be_t Q29 | replace Q29 := be_f Q29 | replace Q29 := of_decide_eq_true Q29 | replace Q29 := of_decide_eq_false Q29)
                                            first
                                             | (exfalso; first | omega | contradiction | (cases Q29; done))
                                             | skip
                                               refine st_gno rfl rfl ?_
                                               refine st_gno rfl rfl ?_
                                               refine st_val (ro_pickT (v := .bool _) rfl rfl) ?_
                                               refine st_val (ro_move (v := .bool _) rfl) ?_
                                               refine st_gno rfl rfl ?_
                                               refine st_gno rfl rfl ?_
                                               refine st_gno rfl rfl ?_
                                               refine st_val (ro_pickT (v := .bool _) rfl rfl) ?_
                                               refine st_val (ro_move (v := .bool _) rfl) ?_
                                               refine st_gno rfl rfl ?_
                                               refine st_gno rfl rfl ?_
                                               refine st_val (ro_pickT (v := .bool _) rfl rfl) ?_
                                               refine st_val (ro_move (v := .bool _) rfl) ?_
                                               refine st_gno rfl rfl ?_
                                               refine st_gno rfl rfl ?_
                                               refine st_gno rfl rfl ?_
                                               refine st_val (ro_pickT (v := .bool _) rfl rfl) ?_
                                               refine st_val (ro_move (v := .bool _) rfl) ?_
                                               refine st_gno rfl rfl ?_
                                               refine st_gno rfl rfl ?_
                                               refine st_val (ro_pickT (v := .bool _) rfl rfl) ?_
                                               refine st_nil ?_
                                               refine nx_then ?_
                                               refine cd_condT rfl ?_
                                               refine cd_seq ?_
                                               refine cd_region ?_
                                               refine st_val (ro_assign (v := .bool _) rfl) ?_
                                               refine st_nil ?_
                                               refine nx_then ?_
                                               refine cd_ret ?_
                                               refine rt_then ?_
                                               refine res1 (v := .bool _) rfl rfl ?_
                                               exact ⟨rfl, ((((((((((((((From.rfl_.next E1).next E19).next E22).next E27).grew hg28 (fun k hk => by cases hk; exact hg19)).next E29).next E33).next E34).next E38).next E39).next E43).next E44).next E48).next E49)⟩
                                          · (try first | replace Q29 := bn_t Q29 | replace Q29 := bn_f Q29)
                                            (try first | replace Q29 := bx_t Q29 | replace Q29 := bx_f Q29 | replace Q29 := be_t Q29 | replace Q29 := be_f Q29 | replace Q29 := of_decide_eq_true Q29 | replace Q29 := of_decide_eq_false Q29)
                                            first
                                             | (exfalso; first | omega | contradiction | (cases Q29; done))
                                             | skip
                                               refine st_unguard rfl ?_
                                               refine st_val (ro_move (v := .pointer _) rfl) ?_
                                               refine st_unguard rfl ?_
                                               refine st_val (ro_neqNil BndQuotas_p26 rfl rfl) ?_
                                               refine st_val (ro_pickF (v := .bool _) rfl rfl) ?_
                                               refine st_val (ro_move (v := .bool _) rfl) ?_
                                               refine st_split (t := 96) rfl (fun Q30 => ?_) (fun Q30 => ?_)
                                               · (try first | replace Q30 := bn_t Q30 | replace Q30 := bn_f Q30)
                                                 (try first | replace Q30 := bx_t Q30 | replace Q30 := bx_f Q30 | replace Q30 := be_t Q30 | replace Q30 := be_f Q30 | replace Q30 := of_decide_eq_true Q30 | replace Q30 := of_decide_eq_false Q30)
                                                 first
                                                  | (exfalso; first | omega | contradiction | (cases Q30; done))
                                                  | skip
                                                    refine st_gno rfl rfl ?_
                                                    refine st_gno rfl rfl ?_
                                                    refine st_gno rfl rfl ?_
                                                    refine st_val (ro_pickT (v := .bool _) rfl rfl) ?_
                                                    refine st_val (ro_move (v := .bool _) rfl) ?_
                                                    refine st_gno rfl rfl ?_
                                                    refine st_gno rfl rfl ?_
                                                    refine st_val (ro_pickT (v := .bool _) rfl rfl) ?_
                                                    refine st_val (ro_move (v := .bool _) rfl) ?_
                                                    refine st_gno rfl rfl ?_
                                                    refine st_gno rfl rfl ?_
                                                    refine st_gno rfl rfl ?_
                                                    refine st_val (ro_pickT (v := .bool _) rfl rfl) ?_
                                                    refine st_val (ro_move (v := .bool _) rfl) ?_
                                                    refine st_gno rfl rfl ?_
                                                    refine st_gno rfl rfl ?_
                                                    refine st_val (ro_pickT (v := .bool _) rfl rfl) ?_
                                                    refine st_nil ?_
                                                    refine nx_then ?_
                                                    refine cd_condT rfl ?_
                                                    refine cd_seq ?_
                                                    refine cd_region ?_
                                                    refine st_val (ro_assign (v := .bool _) rfl) ?_
                                                    refine st_nil ?_
                                                    refine nx_then ?_
                                                    refine cd_ret ?_
                                                    refine rt_then ?_
                                                    refine res1 (v := .bool _) rfl rfl ?_
                                                    exact ⟨rfl, ((((((((((((((From.rfl_.next E1).next E19).next E22).next E27).grew hg28 (fun k hk => by cases hk; exact hg19)).next E29).next E33).next E34).next E38).next E39).next E43).next E44).next E48).next E49)⟩
                                               · (try first | replace Q30 := bn_t Q30 | replace Q30 := bn_f Q30)
                                                 (try first | replace Q30 := bx_t Q30 | replace Q30 := bx_f Q30 | replace Q30 := be_t Q30 | replace Q30 := be_f Q30 | replace Q30 := of_decide_eq_true Q30 | replace Q30 := of_decide_eq_false Q30)
                                                 first
                                                  | (exfalso; first | omega | contradiction | (cases Q30; done))
                                                  | skip
                                                    refine st_unguard rfl ?_
                                                    refine st_val (ro_move (v := .int _ _) rfl) ?_
                                                    refine st_unguard rfl ?_
                                                    refine st_call BndQuotas_k15 (num_any _ _) ?_
                                                    rintro v98 w31 ⟨rfl, rfl⟩
                                                    refine st_unguard rfl ?_
                                                    refine st_val (ro_neq rfl rfl) ?_
                                                    refine st_val (ro_pickF (v := .bool _) rfl rfl) ?_
                                                    refine st_val (ro_move (v := .bool _) rfl) ?_
                                                    refine st_split (t := 101) rfl (fun Q32 => ?_) (fun Q32 => ?_)
                                                    · (try first | replace Q32 := bn_t Q32 | replace Q32 := bn_f Q32)
                                                      (try first | replace Q32 := bx_t Q32 | replace Q32 := bx_f Q32 | replace Q32 := be_t Q32 | replace Q32 := be_f Q32 | replace Q32 := of_decide_eq_true Q32 | replace Q32 := of_decide_eq_false Q32)
                                                      first
                                                       | (exfalso; first | omega | contradiction | (cases Q32; done))
                                                       | skip
                                                         refine st_gno rfl rfl ?_
                                                         refine st_gno rfl rfl ?_
                                                         refine st_val (ro_pickT (v := .bool _) rfl rfl) ?_
                                                         refine st_val (ro_move (v := .bool _) rfl) ?_
                                                         refine st_gno rfl rfl ?_
                                                         refine st_gno rfl rfl ?_
                                                         refine st_gno rfl rfl ?_
                                                         refine st_val (ro_pickT (v := .bool _) rfl rfl) ?_
                                                         refine st_val (ro_move (v := .bool _) rfl) ?_
                                                         refine st_gno rfl rfl ?_
                                                         refine st_gno rfl rfl ?_
                                                         refine st_val (ro_pickT (v := .bool _) rfl rfl) ?_
                                                         refine st_nil ?_
                                                         refine nx_then ?_
                                                         refine cd_condT rfl ?_
                                                         refine cd_seq ?_
                                                         refine cd_region ?_
                                                         refine st_val (ro_assign (v := .bool _) rfl) ?_
                                                         refine st_nil ?_
                                                         refine nx_then ?_
                                                         refine cd_ret ?_
                                                         refine rt_then ?_
                                                         refine res1 (v := .bool _) rfl rfl ?_
                                                         exact ⟨rfl, ((((((((((((((From.rfl_.next E1).next E19).next E22).next E27).grew hg28 (fun k hk => by cases hk; exact hg19)).next E29).next E33).next E34).next E38).next E39).next E43).next E44).next E48).next E49)⟩
                                                    · (try first | replace Q32 := bn_t Q32 | replace Q32 := bn_f Q32)
                                                      (try first | replace Q32 := bx_t Q32 | replace Q32 := bx_f Q32 | replace Q32 := be_t Q32 | replace Q32 := be_f Q32 | replace Q32 := of_decide_eq_true Q32 | replace Q32 := of_decide_eq_false Q32)
                                                      first
                                                       | (exfalso; first | omega | contradiction | (cases Q32; done))
                                                       | skip
                                                         refine st_unguard rfl ?_
                                                         refine st_val (ro_move (v := .pointer _) rfl) ?_
                                                         refine st_unguard rfl ?_
                                                         refine st_val (ro_eqlNil BndQuotas_p26 rfl rfl) ?_
                                                         refine st_val (ro_pickF (v := .bool _) rfl rfl) ?_
                                                         refine st_val (ro_move (v := .bool _) rfl) ?_
                                                         refine st_split (t := 105) rfl (fun Q33 => ?_) (fun Q33 => ?_)
                                                         · (try first | replace Q33 := bn_t Q33 | replace Q33 := bn_f Q33)
                                                           (try first | replace Q33 := bx_t Q33 | replace Q33 := bx_f Q33 | replace Q33 := be_t Q33 | replace Q33 := be_f Q33 | replace Q33 := of_decide_eq_true Q33 | replace Q33 := of_decide_eq_false Q33)
                                                           first
                                                            | (exfalso; first | omega | contradiction | (cases Q33; done))
                                                            | skip
                                                              refine st_gno rfl rfl ?_
                                                              refine st_gno rfl rfl ?_
                                                              refine st_gno rfl rfl ?_
                                                              refine st_val (ro_pickT (v := .bool _) rfl rfl) ?_
                                                              refine st_val (ro_move (v := .bool _) rfl) ?_
                                                              refine st_gno rfl rfl ?_
                                                              refine st_gno rfl rfl ?_
                                                              refine st_val (ro_pickT (v := .bool _) rfl rfl) ?_
                                                              refine st_nil ?_
                                                              refine nx_then ?_
                                                              refine cd_condT rfl ?_
                                                              refine cd_seq ?_
                                                              refine cd_region ?_
                                                              refine st_val (ro_assign (v := .bool _) rfl) ?_
                                                              refine st_nil ?_
                                                              refine nx_then ?_
                                                              refine cd_ret ?_
                                                              refine rt_then ?_
                                                              refine res1 (v := .bool _) rfl rfl ?_
                                                              exact ⟨rfl, ((((((((((((((From.rfl_.next E1).next E19).next E22).next E27).grew hg28 (fun k hk => by cases hk; exact hg19)).next E29).next E33).next E34).next E38).next E39).next E43).next E44).next E48).next E49)⟩
                                                         · (try first | replace Q33 := bn_t Q33 | replace Q33 := bn_f Q33)
                                                           (try first | replace Q33 := bx_t Q33 | replace Q33 := bx_f Q33 | replace Q33 := be_t Q33 | replace Q33 := be_f Q33 | replace Q33 := of_decide_eq_true Q33 | replace Q33 := of_decide_eq_false Q33)
                                                           first
                                                            | (exfalso; first | omega | contradiction | (cases Q33; done))
                                                            | skip
                                                              refine st_unguard rfl ?_
                                                              refine st_val (ro_move (v := .int _ _) rfl) ?_
                                                              refine st_unguard rfl ?_
                                                              refine st_call BndQuotas_k15 (num_any _ _) ?_
                                                              rintro v107 w34 ⟨rfl, rfl⟩
                                                              refine st_unguard rfl ?_
                                                              refine st_val (ro_neq rfl rfl) ?_
                                                              refine st_val (ro_pickF (v := .bool _) rfl rfl) ?_
                                                              refine st_val (ro_move (v := .bool _) rfl) ?_
                                                              refine st_split (t := 110) rfl (fun Q35 => ?_) (fun Q35 => ?_)
                                                              · (try first | replace Q35 := bn_t Q35 | replace Q35 := bn_f Q35)
                                                                (try first | replace Q35 := bx_t Q35 | replace Q35 := bx_f Q35 | replace Q35 := be_t Q35 | replace Q35 := be_f Q35 | replace Q35 := of_decide_eq_true Q35 | replace Q35 := of_decide_eq_false Q35)
                                                                first
                                                                 | (exfalso; first | omega | contradiction | (cases Q35; done))
                                                                 | skip
                                                                   refine st_gno rfl rfl ?_
                                                                   refine st_gno rfl rfl ?_
                                                                   refine st_val (ro_pickT (v := .bool _) rfl rfl) ?_
                                                                   refine st_nil ?_
                                                                   refine nx_then ?_
                                                                   refine cd_condT rfl ?_
                                                                   refine cd_seq ?_
                                                                   refine cd_region ?_
                                                                   refine st_val (ro_assign (v := .bool _) rfl) ?_
                                                                   refine st_nil ?_
                                                                   refine nx_then ?_
                                                                   refine cd_ret ?_
                                                                   refine rt_then ?_
                                                                   refine res1 (v := .bool _) rfl rfl ?_
                                                                   exact ⟨rfl, ((((((((((((((From.rfl_.next E1).next E19).next E22).next E27).grew hg28 (fun k hk => by cases hk; exact hg19)).next E29).next E33).next E34).next E38).next E39).next E43).next E44).next E48).next E49)⟩
                                                              · (try first | replace Q35 := bn_t Q35 | replace Q35 := bn_f Q35)
                                                                (try first | replace Q35 := bx_t Q35 | replace Q35 := bx_f Q35 | replace Q35 := be_t Q35 | replace Q35 := be_f Q35 | replace Q35 := of_decide_eq_true Q35 | replace Q35 := of_decide_eq_false Q35)
                                                                first
                                                                 | (exfalso; first | omega | contradiction | (cases Q35; done))
                                                                 | skip
                                                                   refine st_unguard rfl ?_
                                                                   refine st_val (ro_move (v := .pointer _) rfl) ?_
                                                                   refine st_unguard rfl ?_
                                                                   refine st_val (ro_neqNil BndQuotas_p26 rfl rfl) ?_
                                                                   refine st_val (ro_pickF (v := .bool _) rfl rfl) ?_
                                                                   refine st_nil ?_
                                                                   refine nx_then ?_
                                                                   refine cd_cond rfl (fun Q36 => ?_) (fun Q36 => ?_)
                                                                   · (try first | replace Q36 := bn_t Q36 | replace Q36 := bn_f Q36)
                                                                     (try first | replace Q36 := bx_t Q36 | replace Q36 := bx_f Q36 | replace Q36 := be_t Q36 | replace Q36 := be_f Q36 | replace Q36 := of_decide_eq_true Q36 | replace Q36 := of_decide_eq_false Q36)
                                                                     first
                                                                      | (exfalso; first | omega | contradiction | (cases Q36; done))
                                                                      | skip
                                                                        refine cd_seq ?_
                                                                        refine cd_region ?_
                                                                        refine st_val (ro_assign (v := .bool _) rfl) ?_
                                                                        refine st_nil ?_
                                                                        refine nx_then ?_
                                                                        refine cd_ret ?_
                                                                        refine rt_then ?_
                                                                        refine res1 (v := .bool _) rfl rfl ?_
                                                                        exact ⟨rfl, ((((((((((((((From.rfl_.next E1).next E19).next E22).next E27).grew hg28 (fun k hk => by cases hk; exact hg19)).next E29).next E33).next E34).next E38).next E39).next E43).next E44).next E48).next E49)⟩
                                                                   · (try first | replace Q36 := bn_t Q36 | replace Q36 := bn_f Q36)
                                                                     (try first | replace Q36 := bx_t Q36 | replace Q36 := bx_f Q36 | replace Q36 := be_t Q36 | replace Q36 := be_f Q36 | replace Q36 := of_decide_eq_true Q36 | replace Q36 := of_decide_eq_false Q36)
                                                                     first
                                                                      | (exfalso; first | omega | contradiction | (cases Q36; done))
                                                                      | skip
                                                                        refine cd_skip ?_
                                                                        refine nx_then ?_
                                                                        refine cd_seq ?_
                                                                        refine cd_region ?_
                                                                        refine st_val (ro_move (v := .pointer _) rfl) ?_
                                                                        refine st_call BndQuotas_k16 (where_is _ p34 [131071] _ (hv34.from_ ((((((From.rfl_.next E38).next E39).next E43).next E44).next E48).next E49)) 131071 0 (by decide) (by decide) (by decide)) ?_
                                                                        rintro v116 w37 ⟨rfl, E116⟩
                                                                        refine st_val (ro_move (v := .tuple _) rfl) ?_
                                                                        refine st_val (ro_extract rfl rfl) ?_
                                                                        refine st_val (ro_extract rfl rfl) ?_
                                                                        refine st_val (ro_extract rfl rfl) ?_
                                                                        refine st_val (ro_assign (v := .int _ _) rfl) ?_
                                                                        refine st_val (ro_assign (v := .int _ _) rfl) ?_
                                                                        refine st_val (ro_assign (v := .int _ _) rfl) ?_
                                                                        refine st_nil ?_
                                                                        refine nx_then ?_
                                                                        refine cd_seq ?_
                                                                        refine cd_region ?_
                                                                        refine st_call BndQuotas_k18 (new_ok 0 none 0 [] _ RowOf.nil rfl (by decide) (by decide) (by decide)) ?_
                                                                        rintro v121 w38 ⟨⟨p121, rfl, hv121⟩, E121⟩
                                                                        replace hv22 := hv22.from_ ((((((((From.rfl_.next E38).next E39).next E43).next E44).next E48).next E49).next E116).next E121)
                                                                        replace hv34 := hv34.from_ ((((((((From.rfl_.next E38).next E39).next E43).next E44).next E48).next E49).next E116).next E121)
                                                                        replace hk1 := hk1.from_ ((((((((From.rfl_.next E38).next E39).next E43).next E44).next E48).next E49).next E116).next E121)
                                                                        refine st_val (ro_move (v := .tuple _) rfl) ?_
                                                                        refine st_val (ro_extract rfl rfl) ?_
                                                                        refine st_val (ro_extract rfl rfl) ?_
                                                                        refine st_val (ro_assign (v := .pointer _) rfl) ?_
                                                                        refine st_val (ro_assign (v := .int _ _) rfl) ?_
                                                                        refine st_nil ?_
                                                                        refine nx_then ?_
                                                                        refine cd_seq ?_
                                                                        refine cd_region ?_
                                                                        refine st_lits [.const (.int .i64 4611686018427387904), .const (.int .i64 4611686018427387904)] [.int .i64 4611686018427387904, .int .i64 4611686018427387904] BndQuotas_q22 rfl rfl rfl rfl (by simp [Value.cells]) ?_
                                                                        intro b125 w39 E125 hb125 hk125
                                                                        refine st_call BndQuotas_k18 (new_bad 2 2 (some ⟨b125, 0, none⟩) 2 [4611686018427387904, 4611686018427387904] _ (RowOf.blk hk125 (fun i hi => by match i, hi with | 0, _ => rfl | 1, _ => rfl)) rfl (by decide) (by decide) (by decide) (by decide)) ?_
                                                                        rintro v126 w40 ⟨rfl, E126⟩
                                                                        refine st_val (ro_move (v := .tuple _) rfl) ?_
                                                                        refine st_val (ro_extract rfl rfl) ?_
                                                                        refine st_val (ro_extract rfl rfl) ?_
                                                                        refine st_val (ro_assign (v := .int _ _) rfl) ?_
                                                                        refine st_nil ?_
                                                                        refine nx_then ?_
                                                                        refine cd_seq ?_
                                                                        refine cd_seq ?_
                                                                        refine cd_region ?_
                                                                        refine st_val (ro_move (v := .int _ _) rfl) ?_
                                                                        refine st_call BndQuotas_k15 (num_any _ _) ?_
                                                                        rintro v130 w41 ⟨rfl, rfl⟩
                                                                        refine st_val (ro_neq rfl rfl) ?_
                                                                        refine st_val (ro_move (v := .bool _) rfl) ?_
                                                                        refine st_split (t := 132) rfl (fun Q42 => ?_) (fun Q42 => ?_)
                                                                        · (try first | replace Q42 := bn_t Q42 | replace Q42 := bn_f Q42)
                                                                          (try first | replace Q42 := bx_t Q42 | replace Q42 := bx_f Q42 | replace Q42 := be_t Q42 | replace Q42 := be_f Q42 | replace Q42 := of_decide_eq_true Q42 | replace Q42 := of_decide_eq_false Q42)
                                                                          first
                                                                           | (exfalso; first | omega | contradiction | (cases Q42; done))
                                                                           | skip
                                                                             refine st_gno rfl rfl ?_
                                                                             refine st_gno rfl rfl ?_
                                                                             refine st_val (ro_pickT (v := .bool _) rfl rfl) ?_
                                                                             refine st_val (ro_move (v := .bool _) rfl) ?_
                                                                             refine st_gno rfl rfl ?_
                                                                             refine st_gno rfl rfl ?_
                                                                             refine st_val (ro_pickT (v := .bool _) rfl rfl) ?_
                                                                             refine st_val (ro_move (v := .bool _) rfl) ?_
                                                                             refine st_gno rfl rfl ?_
                                                                             refine st_gno rfl rfl ?_
                                                                             refine st_gno rfl rfl ?_
                                                                             refine st_val (ro_pickT (v := .bool _) rfl rfl) ?_
                                                                             refine st_val (ro_move (v := .bool _) rfl) ?_
                                                                             refine st_gno rfl rfl ?_
                                                                             refine st_gno rfl rfl ?_
                                                                             refine st_val (ro_pickT (v := .bool _) rfl rfl) ?_
                                                                             refine st_val (ro_move (v := .bool _) rfl) ?_
                                                                             refine st_gno rfl rfl ?_
                                                                             refine st_gno rfl rfl ?_
                                                                             refine st_gno rfl rfl ?_
                                                                             refine st_val (ro_pickT (v := .bool _) rfl rfl) ?_
                                                                             refine st_val (ro_move (v := .bool _) rfl) ?_
                                                                             refine st_gno rfl rfl ?_
                                                                             refine st_gno rfl rfl ?_
                                                                             refine st_gno rfl rfl ?_
                                                                             refine st_val (ro_pickT (v := .bool _) rfl rfl) ?_
                                                                             refine st_val (ro_move (v := .bool _) rfl) ?_
                                                                             refine st_gno rfl rfl ?_
                                                                             refine st_gno rfl rfl ?_
                                                                             refine st_gno rfl rfl ?_
                                                                             refine st_val (ro_pickT (v := .bool _) rfl rfl) ?_
                                                                             refine st_nil ?_
                                                                             refine nx_then ?_
                                                                             refine cd_condT rfl ?_
                                                                             refine cd_seq ?_
                                                                             refine cd_region ?_
                                                                             refine st_val (ro_assign (v := .bool _) rfl) ?_
                                                                             refine st_nil ?_
                                                                             refine nx_then ?_
                                                                             refine cd_ret ?_
                                                                             refine rt_then ?_
                                                                             refine res1 (v := .bool _) rfl rfl ?_
                                                                             exact ⟨rfl, ((((((((((((((((((From.rfl_.next E1).next E19).next E22).next E27).grew hg28 (fun k hk => by cases hk; exact hg19)).next E29).next E33).next E34).next E38).next E39).next E43).next E44).next E48).next E49).next E116).next E121).next E125).next E126)⟩
                                                                        · (try first | replace Q42 := bn_t Q42 | replace Q42 := bn_f Q42)
                                                                          (try first | replace Q42 := bx_t Q42 | replace Q42 := bx_f Q42 | replace Q42 := be_t Q42 | replace Q42 := be_f Q42 | replace Q42 := of_decide_eq_true Q42 | replace Q42 := of_decide_eq_false Q42)
                                                                          first
                                                                           | (exfalso; first | omega | contradiction | (cases Q42; done))
                                                                           | skip
                                                                             refine st_unguard rfl ?_
                                                                             refine st_val (ro_move (v := .int _ _) rfl) ?_
                                                                             refine st_unguard rfl ?_
                                                                             refine st_val (ro_neq rfl rfl) ?_
                                                                             refine st_val (ro_pickF (v := .bool _) rfl rfl) ?_
                                                                             refine st_val (ro_move (v := .bool _) rfl) ?_
                                                                             refine st_split (t := 136) rfl (fun Q43 => ?_) (fun Q43 => ?_)
                                                                             · (try first | replace Q43 := bn_t Q43 | replace Q43 := bn_f Q43)
                                                                               (try first | replace Q43 := bx_t Q43 | replace Q43 := bx_f Q43 | replace Q43 := be_t Q43 | replace Q43 := be_f Q43 | replace Q43 := of_decide_eq_true Q43 | replace Q43 := of_decide_eq_false Q43)
                                                                               first
                                                                                | (exfalso; first | omega | contradiction | (cases Q43; done))
                                                                                | skip
                                                                                  refine st_gno rfl rfl ?_
                                                                                  refine st_gno rfl rfl ?_
                                                                                  refine st_val (ro_pickT (v := .bool _) rfl rfl) ?_
                                                                                  refine st_val (ro_move (v := .bool _) rfl) ?_
                                                                                  refine st_gno rfl rfl ?_
                                                                                  refine st_gno rfl rfl ?_
                                                                                  refine st_gno rfl rfl ?_
                                                                                  refine st_val (ro_pickT (v := .bool _) rfl rfl) ?_
                                                                                  refine st_val (ro_move (v := .bool _) rfl) ?_
                                                                                  refine st_gno rfl rfl ?_
                                                                                  refine st_gno rfl rfl ?_
                                                                                  refine st_val (ro_pickT (v := .bool _) rfl rfl) ?_
                                                                                  refine st_val (ro_move (v := .bool _) rfl) ?_
                                                                                  refine st_gno rfl rfl ?_
                                                                                  refine st_gno rfl rfl ?_
                                                                                  refine st_gno rfl rfl ?_
                                                                                  refine st_val (ro_pickT (v := .bool _) rfl rfl) ?_
                                                                                  refine st_val (ro_move (v := .bool _) rfl) ?_
                                                                                  refine st_gno rfl rfl ?_
                                                                                  refine st_gno rfl rfl ?_
                                                                                  refine st_gno rfl rfl ?_
                                                                                  refine st_val (ro_pickT (v := .bool _) rfl rfl) ?_
                                                                                  refine st_val (ro_move (v := .bool _) rfl) ?_
                                                                                  refine st_gno rfl rfl ?_
                                                                                  refine st_gno rfl rfl ?_
                                                                                  refine st_gno rfl rfl ?_
                                                                                  refine st_val (ro_pickT (v := .bool _) rfl rfl) ?_
                                                                                  refine st_nil ?_
                                                                                  refine nx_then ?_
                                                                                  refine cd_condT rfl ?_
                                                                                  refine cd_seq ?_
                                                                                  refine cd_region ?_
                                                                                  refine st_val (ro_assign (v := .bool _) rfl) ?_
                                                                                  refine st_nil ?_
                                                                                  refine nx_then ?_
                                                                                  refine cd_ret ?_
                                                                                  refine rt_then ?_
                                                                                  refine res1 (v := .bool _) rfl rfl ?_
                                                                                  exact ⟨rfl, ((((((((((((((((((From.rfl_.next E1).next E19).next E22).next E27).grew hg28 (fun k hk => by cases hk; exact hg19)).next E29).next E33).next E34).next E38).next E39).next E43).next E44).next E48).next E49).next E116).next E121).next E125).next E126)⟩
                                                                             · (try first | replace Q43 := bn_t Q43 | replace Q43 := bn_f Q43)
                                                                               (try first | replace Q43 := bx_t Q43 | replace Q43 := bx_f Q43 | replace Q43 := be_t Q43 | replace Q43 := be_f Q43 | replace Q43 := of_decide_eq_true Q43 | replace Q43 := of_decide_eq_false Q43)
                                                                               first
                                                                                | (exfalso; first | omega | contradiction | (cases Q43; done))
                                                                                | skip
                                                                                  refine st_unguard rfl ?_
                                                                                  refine st_val (ro_move (v := .int _ _) rfl) ?_
                                                                                  refine st_unguard rfl ?_
                                                                                  refine st_val (ro_neq rfl rfl) ?_
                                                                                  refine st_val (ro_pickF (v := .bool _) rfl rfl) ?_
                                                                                  refine st_val (ro_move (v := .bool _) rfl) ?_
                                                                                  refine st_split (t := 140) rfl (fun Q44 => ?_) (fun Q44 => ?_)
                                                                                  · (try first | replace Q44 := bn_t Q44 | replace Q44 := bn_f Q44)
                                                                                    (try first | replace Q44 := bx_t Q44 | replace Q44 := bx_f Q44 | replace Q44 := be_t Q44 | replace Q44 := be_f Q44 | replace Q44 := of_decide_eq_true Q44 | replace Q44 := of_decide_eq_false Q44)
                                                                                    first
                                                                                     | (exfalso; first | omega | contradiction | (cases Q44; done))
                                                                                     | skip
                                                                                       refine st_gno rfl rfl ?_
                                                                                       refine st_gno rfl rfl ?_
                                                                                       refine st_gno rfl rfl ?_
                                                                                       refine st_val (ro_pickT (v := .bool _) rfl rfl) ?_
                                                                                       refine st_val (ro_move (v := .bool _) rfl) ?_
                                                                                       refine st_gno rfl rfl ?_
                                                                                       refine st_gno rfl rfl ?_
                                                                                       refine st_val (ro_pickT (v := .bool _) rfl rfl) ?_
                                                                                       refine st_val (ro_move (v := .bool _) rfl) ?_
                                                                                       refine st_gno rfl rfl ?_
                                                                                       refine st_gno rfl rfl ?_
                                                                                       refine st_gno rfl rfl ?_
                                                                                       refine st_val (ro_pickT (v := .bool _) rfl rfl) ?_
                                                                                       refine st_val (ro_move (v := .bool _) rfl) ?_
                                                                                       refine st_gno rfl rfl ?_
                                                                                       refine st_gno rfl rfl ?_
                                                                                       refine st_gno rfl rfl ?_
                                                                                       refine st_val (ro_pickT (v := .bool _) rfl rfl) ?_
                                                                                       refine st_val (ro_move (v := .bool _) rfl) ?_
                                                                                       refine st_gno rfl rfl ?_
                                                                                       refine st_gno rfl rfl ?_
                                                                                       refine st_gno rfl rfl ?_
                                                                                       refine st_val (ro_pickT (v := .bool _) rfl rfl) ?_
                                                                                       refine st_nil ?_
                                                                                       refine nx_then ?_
                                                                                       refine cd_condT rfl ?_
                                                                                       refine cd_seq ?_
                                                                                       refine cd_region ?_
                                                                                       refine st_val (ro_assign (v := .bool _) rfl) ?_
                                                                                       refine st_nil ?_
                                                                                       refine nx_then ?_
                                                                                       refine cd_ret ?_
                                                                                       refine rt_then ?_
                                                                                       refine res1 (v := .bool _) rfl rfl ?_
                                                                                       exact ⟨rfl, ((((((((((((((((((From.rfl_.next E1).next E19).next E22).next E27).grew hg28 (fun k hk => by cases hk; exact hg19)).next E29).next E33).next E34).next E38).next E39).next E43).next E44).next E48).next E49).next E116).next E121).next E125).next E126)⟩
                                                                                  · (try first | replace Q44 := bn_t Q44 | replace Q44 := bn_f Q44)
                                                                                    (try first | replace Q44 := bx_t Q44 | replace Q44 := bx_f Q44 | replace Q44 := be_t Q44 | replace Q44 := be_f Q44 | replace Q44 := of_decide_eq_true Q44 | replace Q44 := of_decide_eq_false Q44)
                                                                                    first
                                                                                     | (exfalso; first | omega | contradiction | (cases Q44; done))
                                                                                     | skip
                                                                                       refine st_unguard rfl ?_
                                                                                       refine st_val (ro_move (v := .int _ _) rfl) ?_
                                                                                       refine st_unguard rfl ?_
                                                                                       refine st_call BndQuotas_k15 (num_any _ _) ?_
                                                                                       rintro v142 w45 ⟨rfl, rfl⟩
                                                                                       refine st_unguard rfl ?_
                                                                                       refine st_val (ro_neq rfl rfl) ?_
                                                                                       refine st_val (ro_pickF (v := .bool _) rfl rfl) ?_
                                                                                       refine st_val (ro_move (v := .bool _) rfl) ?_
                                                                                       refine st_split (t := 145) rfl (fun Q46 => ?_) (fun Q46 => ?_)
                                                                                       · (try first | replace Q46 := bn_t Q46 | replace Q46 := bn_f Q46)
                                                                                         (try first | replace Q46 := bx_t Q46 | replace Q46 := bx_f Q46 | replace Q46 := be_t Q46 | replace Q46 := be_f Q46 | replace Q46 := of_decide_eq_true Q46 | replace Q46 := of_decide_eq_false Q46)
                                                                                         first
                                                                                          | (exfalso; first | omega | contradiction | (cases Q46; done))
                                                                                          | skip
                                                                                            refine st_gno rfl rfl ?_
                                                                                            refine st_gno rfl rfl ?_
                                                                                            refine st_val (ro_pickT (v := .bool _) rfl rfl) ?_
                                                                                            refine st_val (ro_move (v := .bool _) rfl) ?_
                                                                                            refine st_gno rfl rfl ?_
                                                                                            refine st_gno rfl rfl ?_
                                                                                            refine st_gno rfl rfl ?_
                                                                                            refine st_val (ro_pickT (v := .bool _) rfl rfl) ?_
                                                                                            refine st_val (ro_move (v := .bool _) rfl) ?_
                                                                                            refine st_gno rfl rfl ?_
                                                                                            refine st_gno rfl rfl ?_
                                                                                            refine st_gno rfl rfl ?_
                                                                                            refine st_val (ro_pickT (v := .bool _) rfl rfl) ?_
                                                                                            refine st_val (ro_move (v := .bool _) rfl) ?_
                                                                                            refine st_gno rfl rfl ?_
                                                                                            refine st_gno rfl rfl ?_
                                                                                            refine st_gno rfl rfl ?_
                                                                                            refine st_val (ro_pickT (v := .bool _) rfl rfl) ?_
                                                                                            refine st_nil ?_
                                                                                            refine nx_then ?_
                                                                                            refine cd_condT rfl ?_
                                                                                            refine cd_seq ?_
                                                                                            refine cd_region ?_
                                                                                            refine st_val (ro_assign (v := .bool _) rfl) ?_
                                                                                            refine st_nil ?_
                                                                                            refine nx_then ?_
                                                                                            refine cd_ret ?_
                                                                                            refine rt_then ?_
                                                                                            refine res1 (v := .bool _) rfl rfl ?_
                                                                                            exact ⟨rfl, ((((((((((((((((((From.rfl_.next E1).next E19).next E22).next E27).grew hg28 (fun k hk => by cases hk; exact hg19)).next E29).next E33).next E34).next E38).next E39).next E43).next E44).next E48).next E49).next E116).next E121).next E125).next E126)⟩
                                                                                       · (try first | replace Q46 := bn_t Q46 | replace Q46 := bn_f Q46)
                                                                                         (try first | replace Q46 := bx_t Q46 | replace Q46 := bx_f Q46 | replace Q46 := be_t Q46 | replace Q46 := be_f Q46 | replace Q46 := of_decide_eq_true Q46 | replace Q46 := of_decide_eq_false Q46)
                                                                                         first
                                                                                          | (exfalso; first | omega | contradiction | (cases Q46; done))
                                                                                          | skip
                                                                                            refine st_unguard rfl ?_
                                                                                            refine st_val (ro_move (v := .pointer _) rfl) ?_
                                                                                            refine st_unguard rfl ?_
                                                                                            refine st_val (ro_eqlNil BndQuotas_p26 rfl rfl) ?_
                                                                                            refine st_val (ro_pickF (v := .bool _) rfl rfl) ?_
                                                                                            refine st_val (ro_move (v := .bool _) rfl) ?_
                                                                                            refine st_split (t := 149) rfl (fun Q47 => ?_) (fun Q47 => ?_)
                                                                                            · (try first | replace Q47 := bn_t Q47 | replace Q47 := bn_f Q47)
                                                                                              (try first | replace Q47 := bx_t Q47 | replace Q47 := bx_f Q47 | replace Q47 := be_t Q47 | replace Q47 := be_f Q47 | replace Q47 := of_decide_eq_true Q47 | replace Q47 := of_decide_eq_false Q47)
                                                                                              first
                                                                                               | (exfalso; first | omega | contradiction | (cases Q47; done))
                                                                                               | skip
                                                                                                 refine st_gno rfl rfl ?_
                                                                                                 refine st_gno rfl rfl ?_
                                                                                                 refine st_gno rfl rfl ?_
                                                                                                 refine st_val (ro_pickT (v := .bool _) rfl rfl) ?_
                                                                                                 refine st_val (ro_move (v := .bool _) rfl) ?_
                                                                                                 refine st_gno rfl rfl ?_
                                                                                                 refine st_gno rfl rfl ?_
                                                                                                 refine st_gno rfl rfl ?_
                                                                                                 refine st_val (ro_pickT (v := .bool _) rfl rfl) ?_
                                                                                                 refine st_val (ro_move (v := .bool _) rfl) ?_
                                                                                                 refine st_gno rfl rfl ?_
                                                                                                 refine st_gno rfl rfl ?_
                                                                                                 refine st_gno rfl rfl ?_
                                                                                                 refine st_val (ro_pickT (v := .bool _) rfl rfl) ?_
                                                                                                 refine st_nil ?_
                                                                                                 refine nx_then ?_
                                                                                                 refine cd_condT rfl ?_
                                                                                                 refine cd_seq ?_
                                                                                                 refine cd_region ?_
                                                                                                 refine st_val (ro_assign (v := .bool _) rfl) ?_
                                                                                                 refine st_nil ?_
                                                                                                 refine nx_then ?_
                                                                                                 refine cd_ret ?_
                                                                                                 refine rt_then ?_
                                                                                                 refine res1 (v := .bool _) rfl rfl ?_
                                                                                                 exact ⟨rfl, ((((((((((((((((((From.rfl_.next E1).next E19).next E22).next E27).grew hg28 (fun k hk => by cases hk; exact hg19)).next E29).next E33).next E34).next E38).next E39).next E43).next E44).next E48).next E49).next E116).next E121).next E125).next E126)⟩
                                                                                            · (try first | replace Q47 := bn_t Q47 | replace Q47 := bn_f Q47)
                                                                                              (try first | replace Q47 := bx_t Q47 | replace Q47 := bx_f Q47 | replace Q47 := be_t Q47 | replace Q47 := be_f Q47 | replace Q47 := of_decide_eq_true Q47 | replace Q47 := of_decide_eq_false Q47)
                                                                                              first
                                                                                               | (exfalso; first | omega | contradiction | (cases Q47; done))
                                                                                               | skip
                                                                                                 refine st_unguard rfl ?_
                                                                                                 refine st_val (ro_move (v := .pointer _) rfl) ?_
                                                                                                 refine st_unguard rfl ?_
                                                                                                 refine st_call BndQuotas_k10 (count_c 0 _ p121 [] _ (hv121.from_ ((From.rfl_.next E125).next E126)) rfl) ?_
                                                                                                 rintro v151 w48 ⟨rfl, rfl⟩
                                                                                                 refine st_unguard rfl ?_
                                                                                                 refine st_val (ro_neq rfl rfl) ?_
                                                                                                 refine st_val (ro_pickF (v := .bool _) rfl rfl) ?_
                                                                                                 refine st_val (ro_move (v := .bool _) rfl) ?_
                                                                                                 refine st_split (t := 154) rfl (fun Q49 => ?_) (fun Q49 => ?_)
                                                                                                 · (try first | replace Q49 := bn_t Q49 | replace Q49 := bn_f Q49)
                                                                                                   (try first | replace Q49 := bx_t Q49 | replace Q49 := bx_f Q49 | replace Q49 := be_t Q49 | replace Q49 := be_f Q49 | replace Q49 := of_decide_eq_true Q49 | replace Q49 := of_decide_eq_false Q49)
                                                                                                   first
                                                                                                    | (exfalso; first | omega | contradiction | (cases Q49; done))
                                                                                                    | skip
                                                                                                      refine st_gno rfl rfl ?_
                                                                                                      refine st_gno rfl rfl ?_
                                                                                                      refine st_gno rfl rfl ?_
                                                                                                      refine st_val (ro_pickT (v := .bool _) rfl rfl) ?_
                                                                                                      refine st_val (ro_move (v := .bool _) rfl) ?_
                                                                                                      refine st_gno rfl rfl ?_
                                                                                                      refine st_gno rfl rfl ?_
                                                                                                      refine st_gno rfl rfl ?_
                                                                                                      refine st_val (ro_pickT (v := .bool _) rfl rfl) ?_
                                                                                                      refine st_nil ?_
                                                                                                      refine nx_then ?_
                                                                                                      refine cd_condT rfl ?_
                                                                                                      refine cd_seq ?_
                                                                                                      refine cd_region ?_
                                                                                                      refine st_val (ro_assign (v := .bool _) rfl) ?_
                                                                                                      refine st_nil ?_
                                                                                                      refine nx_then ?_
                                                                                                      refine cd_ret ?_
                                                                                                      refine rt_then ?_
                                                                                                      refine res1 (v := .bool _) rfl rfl ?_
                                                                                                      exact ⟨rfl, ((((((((((((((((((From.rfl_.next E1).next E19).next E22).next E27).grew hg28 (fun k hk => by cases hk; exact hg19)).next E29).next E33).next E34).next E38).next E39).next E43).next E44).next E48).next E49).next E116).next E121).next E125).next E126)⟩
                                                                                                 · (try first | replace Q49 := bn_t Q49 | replace Q49 := bn_f Q49)
                                                                                                   (try first | replace Q49 := bx_t Q49 | replace Q49 := bx_f Q49 | replace Q49 := be_t Q49 | replace Q49 := be_f Q49 | replace Q49 := of_decide_eq_true Q49 | replace Q49 := of_decide_eq_false Q49)
                                                                                                   first
                                                                                                    | (exfalso; first | omega | contradiction | (cases Q49; done))
                                                                                                    | skip
                                                                                                      refine st_unguard rfl ?_
                                                                                                      refine st_val (ro_move (v := .pointer _) rfl) ?_
                                                                                                      refine st_unguard rfl ?_
                                                                                                      refine st_call BndQuotas_k11 (all_c 0 _ p121 [] _ (hv121.from_ ((From.rfl_.next E125).next E126)) rfl) ?_
                                                                                                      rintro v156 w50 ⟨rfl, rfl⟩
                                                                                                      refine st_unguard rfl ?_
                                                                                                      refine st_val (ro_neq rfl rfl) ?_
                                                                                                      refine st_val (ro_pickF (v := .bool _) rfl rfl) ?_
                                                                                                      refine st_val (ro_move (v := .bool _) rfl) ?_
                                                                                                      refine st_split (t := 159) rfl (fun Q51 => ?_) (fun Q51 => ?_)
                                                                                                      · (try first | replace Q51 := bn_t Q51 | replace Q51 := bn_f Q51)
                                                                                                        (try first | replace Q51 := bx_t Q51 | replace Q51 := bx_f Q51 | replace Q51 := be_t Q51 | replace Q51 := be_f Q51 | replace Q51 := of_decide_eq_true Q51 | replace Q51 := of_decide_eq_false Q51)
                                                                                                        first
                                                                                                         | (exfalso; first | omega | contradiction | (cases Q51; done))
                                                                                                         | skip
                                                                                                           refine st_gno rfl rfl ?_
                                                                                                           refine st_gno rfl rfl ?_
                                                                                                           refine st_gno rfl rfl ?_
                                                                                                           refine st_val (ro_pickT (v := .bool _) rfl rfl) ?_
                                                                                                           refine st_nil ?_
                                                                                                           refine nx_then ?_
                                                                                                           refine cd_condT rfl ?_
                                                                                                           refine cd_seq ?_
                                                                                                           refine cd_region ?_
                                                                                                           refine st_val (ro_assign (v := .bool _) rfl) ?_
                                                                                                           refine st_nil ?_
                                                                                                           refine nx_then ?_
                                                                                                           refine cd_ret ?_
                                                                                                           refine rt_then ?_
                                                                                                           refine res1 (v := .bool _) rfl rfl ?_
                                                                                                           exact ⟨rfl, ((((((((((((((((((From.rfl_.next E1).next E19).next E22).next E27).grew hg28 (fun k hk => by cases hk; exact hg19)).next E29).next E33).next E34).next E38).next E39).next E43).next E44).next E48).next E49).next E116).next E121).next E125).next E126)⟩
                                                                                                      · (try first | replace Q51 := bn_t Q51 | replace Q51 := bn_f Q51)
                                                                                                        (try first | replace Q51 := bx_t Q51 | replace Q51 := bx_f Q51 | replace Q51 := be_t Q51 | replace Q51 := be_f Q51 | replace Q51 := of_decide_eq_true Q51 | replace Q51 := of_decide_eq_false Q51)
                                                                                                        first
                                                                                                         | (exfalso; first | omega | contradiction | (cases Q51; done))
                                                                                                         | skip
                                                                                                           refine st_unguard rfl ?_
                                                                                                           refine st_val (ro_move (v := .int _ _) rfl) ?_
                                                                                                           refine st_unguard rfl ?_
                                                                                                           refine st_call BndQuotas_k15 (num_any _ _) ?_
                                                                                                           rintro v161 w52 ⟨rfl, rfl⟩
                                                                                                           refine st_unguard rfl ?_
                                                                                                           refine st_val (ro_neq rfl rfl) ?_
                                                                                                           refine st_val (ro_pickF (v := .bool _) rfl rfl) ?_
                                                                                                           refine st_nil ?_
                                                                                                           refine nx_then ?_
                                                                                                           refine cd_cond rfl (fun Q53 => ?_) (fun Q53 => ?_)
                                                                                                           · (try first | replace Q53 := bn_t Q53 | replace Q53 := bn_f Q53)
                                                                                                             (try first | replace Q53 := bx_t Q53 | replace Q53 := bx_f Q53 | replace Q53 := be_t Q53 | replace Q53 := be_f Q53 | replace Q53 := of_decide_eq_true Q53 | replace Q53 := of_decide_eq_false Q53)
                                                                                                             first
                                                                                                              | (exfalso; first | omega | contradiction | (cases Q53; done))
                                                                                                              | skip
                                                                                                                refine cd_seq ?_
                                                                                                                refine cd_region ?_
                                                                                                                refine st_val (ro_assign (v := .bool _) rfl) ?_
                                                                                                                refine st_nil ?_
                                                                                                                refine nx_then ?_
                                                                                                                refine cd_ret ?_
                                                                                                                refine rt_then ?_
                                                                                                                refine res1 (v := .bool _) rfl rfl ?_
                                                                                                                exact ⟨rfl, ((((((((((((((((((From.rfl_.next E1).next E19).next E22).next E27).grew hg28 (fun k hk => by cases hk; exact hg19)).next E29).next E33).next E34).next E38).next E39).next E43).next E44).next E48).next E49).next E116).next E121).next E125).next E126)⟩
                                                                                                           · (try first | replace Q53 := bn_t Q53 | replace Q53 := bn_f Q53)
                                                                                                             (try first | replace Q53 := bx_t Q53 | replace Q53 := bx_f Q53 | replace Q53 := be_t Q53 | replace Q53 := be_f Q53 | replace Q53 := of_decide_eq_true Q53 | replace Q53 := of_decide_eq_false Q53)
                                                                                                             first
                                                                                                              | (exfalso; first | omega | contradiction | (cases Q53; done))
                                                                                                              | skip
                                                                                                                refine cd_skip ?_
                                                                                                                refine nx_then ?_
                                                                                                                refine cd_seq ?_
                                                                                                                refine cd_region ?_
                                                                                                                refine st_val (ro_move (v := .pointer _) rfl) ?_
                                                                                                                refine st_call BndQuotas_k16 (where_out _ p121 [] _ (hv121.from_ ((From.rfl_.next E125).next E126)) 0 (by decide)) ?_
                                                                                                                rintro v166 w54 ⟨rfl, E166⟩
                                                                                                                refine st_val (ro_move (v := .tuple _) rfl) ?_
                                                                                                                refine st_val (ro_extract rfl rfl) ?_
                                                                                                                refine st_val (ro_extract rfl rfl) ?_
                                                                                                                refine st_val (ro_extract rfl rfl) ?_
                                                                                                                refine st_val (ro_assign (v := .int _ _) rfl) ?_
                                                                                                                refine st_nil ?_
                                                                                                                refine nx_then ?_
                                                                                                                refine cd_seq ?_
                                                                                                                refine cd_region ?_
                                                                                                                refine st_val (ro_move (v := .int _ _) rfl) ?_
                                                                                                                refine st_call BndQuotas_k15 (num_any _ _) ?_
                                                                                                                rintro v171 w55 ⟨rfl, rfl⟩
                                                                                                                refine st_val (ro_eql rfl rfl) ?_
                                                                                                                refine st_val (ro_move (v := .bool _) rfl) ?_
                                                                                                                refine st_split (t := 173) rfl (fun Q56 => ?_) (fun Q56 => ?_)
                                                                                                                · (try first | replace Q56 := bn_t Q56 | replace Q56 := bn_f Q56)
                                                                                                                  (try first | replace Q56 := bx_t Q56 | replace Q56 := bx_f Q56 | replace Q56 := be_t Q56 | replace Q56 := be_f Q56 | replace Q56 := of_decide_eq_true Q56 | replace Q56 := of_decide_eq_false Q56)
                                                                                                                  first
                                                                                                                   | (exfalso; first | omega | contradiction | (cases Q56; done))
                                                                                                                   | skip
                                                                                                                     refine st_unguard rfl ?_
                                                                                                                     refine st_val (ro_fieldAddr BndQuotas_f24_0 rfl) ?_
                                                                                                                     refine st_unguard rfl ?_
                                                                                                                     refine st_val (ro_load BndQuotas_g22 rfl (by first | (exact (hk1.from_ (((From.rfl_.next E125).next E126).next E166)).rd 0 rfl))) ?_
                                                                                                                     refine st_unguard rfl ?_
                                                                                                                     refine st_val (ro_len BndQuotas_l22 rfl) ?_
                                                                                                                     refine st_unguard rfl ?_
                                                                                                                     refine st_val (ro_geq rfl rfl) ?_
                                                                                                                     refine st_val (ro_pickT (v := .bool _) rfl rfl) ?_
                                                                                                                     refine st_val (ro_move (v := .bool _) rfl) ?_
                                                                                                                     refine st_split (t := 179) rfl (fun Q57 => ?_) (fun Q57 => ?_)
                                                                                                                     · (try first | replace Q57 := bn_t Q57 | replace Q57 := bn_f Q57)
                                                                                                                       (try first | replace Q57 := bx_t Q57 | replace Q57 := bx_f Q57 | replace Q57 := be_t Q57 | replace Q57 := be_f Q57 | replace Q57 := of_decide_eq_true Q57 | replace Q57 := of_decide_eq_false Q57)
                                                                                                                       first
                                                                                                                        | (exfalso; first | omega | contradiction | (cases Q57; done))
                                                                                                                        | skip
                                                                                                                          refine st_unguard rfl ?_
                                                                                                                          refine st_call BndQuotas_k9 (wakes_any _) ?_
                                                                                                                          rintro v180 w58 ⟨rfl, E180⟩
                                                                                                                          refine st_val (ro_pickT (v := .bool _) rfl rfl) ?_
                                                                                                                          refine st_val (ro_assign (v := .bool _) rfl) ?_
                                                                                                                          refine st_nil ?_
                                                                                                                          refine nx_then ?_
                                                                                                                          refine cd_ret ?_
                                                                                                                          refine res1 (v := .bool _) rfl rfl ?_
                                                                                                                          exact ⟨rfl, ((((((((((((((((((((From.rfl_.next E1).next E19).next E22).next E27).grew hg28 (fun k hk => by cases hk; exact hg19)).next E29).next E33).next E34).next E38).next E39).next E43).next E44).next E48).next E49).next E116).next E121).next E125).next E126).next E166).next E180)⟩
                                                                                                                     · (try first | replace Q57 := bn_t Q57 | replace Q57 := bn_f Q57)
                                                                                                                       (try first | replace Q57 := bx_t Q57 | replace Q57 := bx_f Q57 | replace Q57 := be_t Q57 | replace Q57 := be_f Q57 | replace Q57 := of_decide_eq_true Q57 | replace Q57 := of_decide_eq_false Q57)
                                                                                                                       first
                                                                                                                        | (exfalso; first | omega | contradiction | (cases Q57; done))
                                                                                                                        | skip
                                                                                                                          refine st_gno rfl rfl ?_
                                                                                                                          refine st_val (ro_pickF (v := .bool _) rfl rfl) ?_
                                                                                                                          refine st_val (ro_assign (v := .bool _) rfl) ?_
                                                                                                                          refine st_nil ?_
                                                                                                                          refine nx_then ?_
                                                                                                                          refine cd_ret ?_
                                                                                                                          refine res1 (v := .bool _) rfl rfl ?_
                                                                                                                          exact ⟨rfl, (((((((((((((((((((From.rfl_.next E1).next E19).next E22).next E27).grew hg28 (fun k hk => by cases hk; exact hg19)).next E29).next E33).next E34).next E38).next E39).next E43).next E44).next E48).next E49).next E116).next E121).next E125).next E126).next E166)⟩
                                                                                                                · (try first | replace Q56 := bn_t Q56 | replace Q56 := bn_f Q56)
                                                                                                                  (try first | replace Q56 := bx_t Q56 | replace Q56 := bx_f Q56 | replace Q56 := be_t Q56 | replace Q56 := be_f Q56 | replace Q56 := of_decide_eq_true Q56 | replace Q56 := of_decide_eq_false Q56)
                                                                                                                  first
                                                                                                                   | (exfalso; first | omega | contradiction | (cases Q56; done))
                                                                                                                   | skip
                                                                                                                     refine st_gno rfl rfl ?_
                                                                                                                     refine st_gno rfl rfl ?_
                                                                                                                     refine st_gno rfl rfl ?_
                                                                                                                     refine st_gno rfl rfl ?_
                                                                                                                     refine st_val (ro_pickF (v := .bool _) rfl rfl) ?_
                                                                                                                     refine st_val (ro_move (v := .bool _) rfl) ?_
                                                                                                                     refine st_gno rfl rfl ?_
                                                                                                                     refine st_val (ro_pickF (v := .bool _) rfl rfl) ?_
                                                                                                                     refine st_val (ro_assign (v := .bool _) rfl) ?_
                                                                                                                     refine st_nil ?_
                                                                                                                     refine nx_then ?_
                                                                                                                     refine cd_ret ?_
                                                                                                                     refine res1 (v := .bool _) rfl rfl ?_
                                                                                                                     exact ⟨rfl, (((((((((((((((((((From.rfl_.next E1).next E19).next E22).next E27).grew hg28 (fun k hk => by cases hk; exact hg19)).next E29).next E33).next E34).next E38).next E39).next E43).next E44).next E48).next E49).next E116).next E121).next E125).next E126).next E166)⟩
theorem quotas_arg (cs : Array Value) (x : askT.den) (w : World) (hs : cs.size = 2) (h : askT.At w (fun j => cs[j]?) x) : Rt Try.prog 6 [.agg cs] w fun v w' => v = .bool true ∧ From w w' := by
  obtain ⟨A, ca, L, B, cb, is, rfl, h1, h2, h3, h4⟩ := ask_of hs h
  exact quotas_law A B _ ca _ cb w
set_option maxRecDepth 100000 in
theorem BoundsQuotas_lifted (os : Os) (started : os.Started) (H : Type) (enc : TypeId × Value → H) :
    ReturnsInHanded {} Try.checked os 6 .any (Rows.boundsQuotasSpec.pre6 enc Try.prog Try.f6 Rows.boundsQuotasRow.domain false) (Rows.boundsQuotasSpec.post enc Try.prog Try.f6 false true false false) := by
  refine returnsInHanded_of_change_sized (C := Try.checked) Try.own started (by kernel_rfl) Try.func6
    (ChangeSpec.witness6 (enc := enc) (C := Try.checked) false ⟨#[], #[.agg #[.slice none 0 0, .slice none 0 0]], []⟩ 8 (by kernel_rfl) (by kernel_rfl) (by kernel_rfl) (by kernel_rfl)) ?_
  intro W base args ds gs before hval hW _ hsz _
  exact law_step 6 Try.f6 24 4 Rows.boundsQuotasSpec Try.params6 (by kernel_rfl) Try.underlying4 rfl (fun _ => rfl) (by kernel_rfl) (of_decide_eq_true (by kernel_rfl)) (walk_struct (.sl (.int .i64)) (.pr (.sl (.int .i64)) .unit) (by kernel_rfl) quotas_arg) W base args ds gs before hval hW hsz

theorem BoundsQuotas_holds : Rows.BoundsQuotasSaid :=
  OpenClaim.holds_of_wide 6 Try.f6 rfl rfl rfl rfl rfl rfl rfl ⟨rfl, rfl, rfl, rfl, rfl⟩ rfl rfl rfl rfl rfl (by kernel_rfl) Try.func6 (by kernel_rfl)
    (of_decide_eq_true (by kernel_rfl)) (by unfold Func.isWrapper; first | (rw [if_pos (by decide +kernel)]; kernel_rfl) | (rw [if_neg (by decide +kernel)]; exact ⟨rfl, rfl⟩))
    (fun os started H enc _ => BoundsQuotas_lifted os started H enc)
#print axioms BoundsQuotas_holds

end Go.Proofs.Ytkmcdhllldlbgaa
