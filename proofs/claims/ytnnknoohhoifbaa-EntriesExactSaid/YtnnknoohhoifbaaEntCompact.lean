/- Walks of package entries by the new tool: Compact. -/
import Derived.Test.YtnnknoohhoifbaaEntCut
import Derived.Test.YtnnknoohhoifbaaEntTerms
import Derived.Test.YtnnknoohhoifbaaFast6
import Derived.Test.YtnnknoohhoifbaaAtRow
namespace Go.Proofs.Ytnnknoohhoifbaa
open Go.RowKit

theorem EntCompact_e23 : elemQ Try.prog 23 = some (63, 3) := by kernel_rfl
theorem EntCompact_o25 : zeroQ Try.prog 25 = some (.agg #[.int .i64 0, .int .i64 0, .slice none 0 0]) := by kernel_rfl
theorem EntCompact_g25 : aggQ Try.prog 25 = some true := by kernel_rfl
theorem EntCompact_z25 : sizeQ Try.prog 25 = some 3 := by kernel_rfl
theorem EntCompact_k24 : callable Try.prog 24 = true := by kernel_rfl
theorem EntCompact_b25_ : Try.prog.built 25 [] = some #[.int .i64 0, .int .i64 0, .slice none 0 0] := by kernel_rfl
theorem EntCompact_k42 : callable Try.prog 42 = true := by kernel_rfl
theorem EntCompact_f25_0 : fieldQ Try.prog 25 0 = some 0 := by kernel_rfl
theorem EntCompact_g3 : aggQ Try.prog 3 = some false := by kernel_rfl
theorem EntCompact_q71 : litQ Try.prog 71 = some (3, 1, 8, (.int .i64 0)) := by kernel_rfl
theorem EntCompact_k40 : callable Try.prog 40 = true := by kernel_rfl
theorem EntCompact_k43 : callable Try.prog 43 = true := by kernel_rfl
theorem EntCompact_f25_2 : fieldQ Try.prog 25 2 = some 2 := by kernel_rfl
theorem EntCompact_g23 : aggQ Try.prog 23 = some false := by kernel_rfl
theorem EntCompact_k45 : callable Try.prog 45 = true := by kernel_rfl
def coErr (B T : Int) (xs : List Ent) (i : Int) : Int := if mayLog B T xs = true then (if B + 1 ≤ i ∧ i ≤ min (lastI B xs) 1099511625728 then 0 else 1) else 1
def CoGot (w w' : World) (i t : Int) (xs : List Ent) (c : Int) (L : Value) : Prop :=
  (c ≠ 0 → L = zeroLog) ∧ (c = 0 → ∃ A cap, L = .agg #[.int .i64 i, .int .i64 t, .slice A xs.length cap] ∧ w'.ownsRow w.heap.size 63 3 (.slice A xs.length cap) xs.length (entV xs))
theorem Ents.restA {w : World} {A : Option Addr} {n cap : Nat} {xs : List Ent} (h : Ents w (.slice A n cap) xs) {k : Nat} (hk : k ≤ xs.length) : Ents w (.slice (restOf A cap k 3) (n - k) (cap - k)) (xs.drop k) := h.rest hk
theorem within_rt (lo hi x : Int) (g : Nat) (w : World) (hb : Blk w g 3 #[.int .i64 x]) :
    Rt Try.prog 40 [.int .i64 lo, .int .i64 hi, .slice (some ⟨g, 0, none⟩) 1 1] w fun v w' => v = .bool (inb lo hi x) ∧ From w w' :=
  Rt.mono (Rt.of (within_row lo hi x _ w (Row.blk hb 1))) fun v w' ⟨h1, h2⟩ => ⟨h1, h2 ▸ From.rfl_⟩
theorem clone_rt (A : Option Addr) (n cap : Nat) (xs : List Ent) (w : World) (h : Ents w (.slice A n cap) xs) (hl : xs.length ≤ 400000000000) :
    Rt Try.prog 45 [.slice A n cap] w fun v w' => ∃ A' c', v = .slice A' xs.length c' ∧ w'.ownsRow w.heap.size 63 3 (.slice A' xs.length c') xs.length (entV xs) ∧ From w w' :=
  Calls.mono (clone_any _ xs w h hl) fun e w' ⟨v', he, ho, hF⟩ => ⟨v', he, by obtain ⟨A', c', rfl⟩ := own_form ho; exact ⟨A', c', rfl, ho, hF⟩⟩
theorem own_only {w w' : World} {base g : Nat} {e n : Nat} {A : Option Addr} {c m : Nat} {xs : List Value} (h : w.ownsRow base e 3 (.slice A n c) m xs) (o : Only g w w') (hg : g < base) : w'.ownsRow base e 3 (.slice A n c) m xs := by
  refine ⟨h.1, ?_⟩
  rcases h.2 with h0 | ⟨b, cap, cur, h1, h2, h3, h4⟩
  · exact .inl h0
  · exact .inr ⟨b, cap, cur, h1, h2, (o.block b (by omega)).trans h3, h4⟩
set_option maxRecDepth 100000 in
set_option maxHeartbeats 1000000 in
theorem compact_rt (B T i : Int) (v : Value) (xs : List Ent) (w : World) (h : Ents w v xs) :
    Rt Try.prog 31 [.agg #[.int .i64 B, .int .i64 T, v], .int .i64 i] w (fun v w' => ∃ L, v = .tuple #[L, .int .i64 (coErr B T xs i)] ∧ CoGot w w' i (termI B T xs i) (xs.drop (i - B).toNat) (coErr B T xs i) L ∧ From w w') := by
  obtain ⟨A, cap, rfl, hc1, hc2, hc3, -⟩ := id h
  refine enter (n := 40) Try.func31 rfl rfl rfl ?_
  refine cd_seq ?_
  refine cd_region ?_
  refine st_box (v := .agg _) rfl ?_
  intro b2 w1 E2 hb2 hk2
  have hl2 := hk2.lt
  refine st_alloc EntCompact_o25 ?_
  intro b4 w2 E4 hb4 hk4
  replace hk2 := hk2.from_ E4
  refine st_val (ro_assign (v := .int _ _) rfl) ?_
  refine st_nil ?_
  refine nx_then ?_
  refine cd_seq ?_
  refine cd_seq ?_
  refine cd_region ?_
  refine st_val (ro_loadA (cs := [_, _, _]) EntCompact_g25 EntCompact_z25 rfl (by first | (first | exact (hk2.from_ From.rfl_).whole | exact (hk2.from_ From.rfl_).rd 0 rfl | exact (hk2.from_ From.rfl_).rd 1 rfl | exact (hk2.from_ From.rfl_).rd 2 rfl))) ?_
  refine st_call EntCompact_k24 (Rt.of (check_any B T _ xs _ (h.from_ ((From.rfl_.next E2).next E4)))) ?_
  rintro v9 w3 ⟨rfl, E9⟩
  refine st_val (ro_neq rfl rfl) ?_
  refine st_nil ?_
  refine nx_then ?_
  refine cd_cond rfl (fun Q4 => ?_) (fun Q4 => ?_)
  · (try first | replace Q4 := bn_t Q4 | replace Q4 := bn_f Q4)
    (try first | replace Q4 := bx_t Q4 | replace Q4 := bx_f Q4 | replace Q4 := be_t Q4 | replace Q4 := be_f Q4 | replace Q4 := of_decide_eq_true Q4 | replace Q4 := of_decide_eq_false Q4)
    have hm : mayLog B T xs = false := by
      cases hm : mayLog B T xs with
      | false => rfl
      | true => exact absurd (by unfold chk; rw [if_pos hm]) Q4
    refine cd_seq ?_
    refine cd_region ?_
    refine st_val (ro_build (l := []) (EntCompact_b25_)) ?_
    refine st_putW (vs := [_, _, _]) EntCompact_z25 rfl rfl (by simp [Value.oneCell']) (hk4.from_ (From.rfl_.next E9)) rfl ?_
    intro w5 O2 P2
    refine st_val (ro_assign (v := .int _ _) rfl) ?_
    refine st_nil ?_
    refine nx_then ?_
    refine cd_ret ?_
    refine rt_then ?_
    refine resr2 rfl (rv_cellA (cs := [_, _, _]) EntCompact_g25 EntCompact_z25 rfl (by first | exact P2.whole | exact P5.whole | exact P6.whole | exact P14.whole)) (rv_tmp (v := .int _ _) rfl) ?_
    have hc : coErr B T xs i = 1 := by unfold coErr; rw [hm]; rfl
    exact ⟨_, congrArg (fun c => Value.tuple #[_, .int .i64 c]) hc.symm, ⟨fun _ => rfl, fun h0 => by rw [hc] at h0; cases h0⟩, ((((From.rfl_.next E2).next E4).next E9).only O2 (by rw [hb4]; exact E2.size))⟩
  · (try first | replace Q4 := bn_t Q4 | replace Q4 := bn_f Q4)
    (try first | replace Q4 := bx_t Q4 | replace Q4 := bx_f Q4 | replace Q4 := be_t Q4 | replace Q4 := be_f Q4 | replace Q4 := of_decide_eq_true Q4 | replace Q4 := of_decide_eq_false Q4)
    have hm : mayLog B T xs = true := by
      cases hm : mayLog B T xs with
      | true => rfl
      | false => unfold chk at Q4; rw [hm] at Q4; cases Q4
    obtain ⟨hl, hB0, hB1, hx⟩ := may_last hm
    refine cd_skip ?_
    refine nx_then ?_
    refine cd_seq ?_
    refine cd_region ?_
    refine st_val (ro_loadA (cs := [_, _, _]) EntCompact_g25 EntCompact_z25 rfl (by first | (first | exact (hk2.from_ (From.rfl_.next E9)).whole | exact (hk2.from_ (From.rfl_.next E9)).rd 0 rfl | exact (hk2.from_ (From.rfl_.next E9)).rd 1 rfl | exact (hk2.from_ (From.rfl_.next E9)).rd 2 rfl))) ?_
    refine st_call EntCompact_k42 (Rt.of (lastOf_any B T _ xs _ (h.from_ (((From.rfl_.next E2).next E4).next E9)))) ?_
    rintro v14 w6 ⟨rfl, E14⟩
    refine st_val (ro_move (v := .tuple _) rfl) ?_
    refine st_val (ro_extract rfl rfl) ?_
    refine st_val (ro_extract rfl rfl) ?_
    refine st_val (ro_assign (v := .int _ _) rfl) ?_
    refine st_val (ro_assign (v := .int _ _) rfl) ?_
    refine st_nil ?_
    refine nx_then ?_
    refine cd_seq ?_
    refine cd_seq ?_
    refine cd_region ?_
    refine st_val (ro_fieldAddr EntCompact_f25_0 rfl) ?_
    refine st_val (ro_load EntCompact_g3 rfl (by first | (first | exact (hk2.from_ ((From.rfl_.next E9).next E14)).whole | exact (hk2.from_ ((From.rfl_.next E9).next E14)).rd 0 rfl | exact (hk2.from_ ((From.rfl_.next E9).next E14)).rd 1 rfl | exact (hk2.from_ ((From.rfl_.next E9).next E14)).rd 2 rfl))) ?_
    refine st_val (ro_add64 rfl rfl (by omega)) ?_
    refine st_val (ro_move (v := .int _ _) rfl) ?_
    refine st_val (ro_min rfl rfl) ?_
    refine st_val (ro_move (v := .int _ _) rfl) ?_
    refine st_lit1 (v := .int _ _) EntCompact_q71 rfl rfl rfl ?_
    intro b23 w7 E23 hb23 hk23
    refine st_call EntCompact_k40 (within_rt _ _ _ _ _ hk23) ?_
    rintro v24 w8 ⟨rfl, E24⟩
    refine st_val (ro_not rfl) ?_
    refine st_nil ?_
    refine nx_then ?_
    refine cd_cond rfl (fun Q9 => ?_) (fun Q9 => ?_)
    · (try first | replace Q9 := bn_t Q9 | replace Q9 := bn_f Q9)
      (try first | replace Q9 := bx_t Q9 | replace Q9 := bx_f Q9 | replace Q9 := be_t Q9 | replace Q9 := be_f Q9 | replace Q9 := of_decide_eq_true Q9 | replace Q9 := of_decide_eq_false Q9)
      refine cd_seq ?_
      refine cd_region ?_
      refine st_val (ro_build (l := []) (EntCompact_b25_)) ?_
      refine st_putW (vs := [_, _, _]) EntCompact_z25 rfl rfl (by simp [Value.oneCell']) (hk4.from_ ((((From.rfl_.next E9).next E14).next E23).next E24)) rfl ?_
      intro w10 O5 P5
      refine st_val (ro_assign (v := .int _ _) rfl) ?_
      refine st_nil ?_
      refine nx_then ?_
      refine cd_ret ?_
      refine rt_then ?_
      refine resr2 rfl (rv_cellA (cs := [_, _, _]) EntCompact_g25 EntCompact_z25 rfl (by first | exact P2.whole | exact P5.whole | exact P6.whole | exact P14.whole)) (rv_tmp (v := .int _ _) rfl) ?_
      have hc : coErr B T xs i = 1 := by unfold coErr; rw [hm, hl, if_pos rfl, if_neg (fun h0 => by rw [inb_mk (hl ▸ h0)] at Q9; cases Q9)]
      exact ⟨_, congrArg (fun c => Value.tuple #[_, .int .i64 c]) hc.symm, ⟨fun _ => rfl, fun h0 => by rw [hc] at h0; cases h0⟩, (((((((From.rfl_.next E2).next E4).next E9).next E14).next E23).next E24).only O5 (by rw [hb4]; exact E2.size))⟩
    · (try first | replace Q9 := bn_t Q9 | replace Q9 := bn_f Q9)
      (try first | replace Q9 := bx_t Q9 | replace Q9 := bx_f Q9 | replace Q9 := be_t Q9 | replace Q9 := be_f Q9 | replace Q9 := of_decide_eq_true Q9 | replace Q9 := of_decide_eq_false Q9)
      have hin := inb_true Q9
      rw [hl] at hin
      refine cd_skip ?_
      refine nx_then ?_
      refine cd_seq ?_
      apply cd_drawn 13 [(27, eqp _), (28, eqp _), (29, eqp _), (30, eqp _), (31, eqp _), (32, eqp _), (33, eqp _), (34, eqp _), (35, eqp _), (36, eqp _), (37, eqp _), (38, fun v w' => ∃ A5 c5, v = .slice A5 (xs.drop (i - B).toNat).length c5 ∧ w'.ownsRow (b4 + 1) 63 3 (.slice A5 (xs.drop (i - B).toNat).length c5) (xs.drop (i - B).toNat).length (entV (xs.drop (i - B).toNat))), (39, fun v w' => ∃ A5 c5, v = .agg #[.int .i64 i, .int .i64 (termI B T xs i), .slice A5 (xs.drop (i - B).toNat).length c5] ∧ w'.ownsRow (b4 + 1) 63 3 (.slice A5 (xs.drop (i - B).toNat).length c5) (xs.drop (i - B).toNat).length (entV (xs.drop (i - B).toNat)))] (by kernel_rfl) (by kernel_rfl) ⟨eqp_mono _, eqp_mono _, eqp_mono _, eqp_mono _, eqp_mono _, eqp_mono _, eqp_mono _, eqp_mono _, eqp_mono _, eqp_mono _, eqp_mono _, (fun v w1 w2 hF ⟨A5, c5, h1, h2⟩ => ⟨A5, c5, h1, h2.kept_from hF⟩), (fun v w1 w2 hF ⟨A5, c5, h1, h2⟩ => ⟨A5, c5, h1, h2.kept_from hF⟩), trivial⟩
      case hop =>
       refine ⟨?_, ?_⟩
       · intro w12 D12
         show OpOK _ _ _ _ _ _ _
         exact ok_pure (ro_move (v := .int _ _) rfl) rfl
       refine ⟨?_, ?_⟩
       · intro w13 D13
         show OpOK _ _ _ _ _ _ _
         exact ok_pure (ro_loadA (cs := [_, _, _]) EntCompact_g25 EntCompact_z25 rfl (by first | (first | exact (hk2.from_ (((((From.rfl_.next E9).next E14).next E23).next E24).next D13)).whole | exact (hk2.from_ (((((From.rfl_.next E9).next E14).next E23).next E24).next D13)).rd 0 rfl | exact (hk2.from_ (((((From.rfl_.next E9).next E14).next E23).next E24).next D13)).rd 1 rfl | exact (hk2.from_ (((((From.rfl_.next E9).next E14).next E23).next E24).next D13)).rd 2 rfl))) rfl
       refine ⟨?_, ?_⟩
       · intro w14 D14
         show OpOK _ _ _ _ _ _ _
         exact ok_pure (ro_move (v := .int _ _) rfl) rfl
       refine ⟨?_, ?_⟩
       · intro w15 D15
         rintro _ rfl _ rfl
         show OpOK _ _ _ _ _ _ _
         refine ok_call EntCompact_k43 ((Rt.of (termAt_any B T i _ xs _ (h.from_ (((((((From.rfl_.next E2).next E4).next E9).next E14).next E23).next E24).next D15)) hB0 (by omega) (by omega) (by omega) (by omega))).mono ?_)
         rintro v _ ⟨rfl, E15'⟩; exact ⟨E15', rfl⟩
       refine ⟨?_, ?_⟩
       · intro w16 D16
         show OpOK _ _ _ _ _ _ _
         exact ok_pure (ro_fieldAddr EntCompact_f25_2 rfl) rfl
       refine ⟨?_, ?_⟩
       · intro w17 D17
         rintro _ rfl
         show OpOK _ _ _ _ _ _ _
         exact ok_pure (ro_load EntCompact_g23 rfl (by first | (first | exact (hk2.from_ (((((From.rfl_.next E9).next E14).next E23).next E24).next D17)).whole | exact (hk2.from_ (((((From.rfl_.next E9).next E14).next E23).next E24).next D17)).rd 0 rfl | exact (hk2.from_ (((((From.rfl_.next E9).next E14).next E23).next E24).next D17)).rd 1 rfl | exact (hk2.from_ (((((From.rfl_.next E9).next E14).next E23).next E24).next D17)).rd 2 rfl))) rfl
       refine ⟨?_, ?_⟩
       · intro w18 D18
         show OpOK _ _ _ _ _ _ _
         exact ok_pure (ro_move (v := .int _ _) rfl) rfl
       refine ⟨?_, ?_⟩
       · intro w19 D19
         show OpOK _ _ _ _ _ _ _
         exact ok_pure (ro_fieldAddr EntCompact_f25_0 rfl) rfl
       refine ⟨?_, ?_⟩
       · intro w20 D20
         rintro _ rfl
         show OpOK _ _ _ _ _ _ _
         exact ok_pure (ro_load EntCompact_g3 rfl (by first | (first | exact (hk2.from_ (((((From.rfl_.next E9).next E14).next E23).next E24).next D20)).whole | exact (hk2.from_ (((((From.rfl_.next E9).next E14).next E23).next E24).next D20)).rd 0 rfl | exact (hk2.from_ (((((From.rfl_.next E9).next E14).next E23).next E24).next D20)).rd 1 rfl | exact (hk2.from_ (((((From.rfl_.next E9).next E14).next E23).next E24).next D20)).rd 2 rfl))) rfl
       refine ⟨?_, ?_⟩
       · intro w21 D21
         rintro _ rfl _ rfl
         show OpOK _ _ _ _ _ _ _
         exact ok_pure (ro_sub64 rfl rfl (by omega)) rfl
       refine ⟨?_, ?_⟩
       · intro w22 D22
         rintro _ rfl _ rfl
         show OpOK _ _ _ _ _ _ _
         exact ok_pure (ro_sliceO (l := (i - B).toNat) EntCompact_e23 rfl (.inr ⟨_, _, _, rfl, rfl, (by omega)⟩) (.inl ⟨rfl, rfl⟩) (by omega) (by omega)) rfl
       refine ⟨?_, ?_⟩
       · intro w23 D23
         rintro _ rfl
         show OpOK _ _ _ _ _ _ _
         refine ok_call EntCompact_k45 ((clone_rt _ _ _ _ _ ((h.from_ (((((((From.rfl_.next E2).next E4).next E9).next E14).next E23).next E24).next D23)).restA (k := (i - B).toNat) (by omega)) (by rw [List.length_drop]; omega)).mono ?_)
         rintro v _ ⟨A5, c5, rfl, ho5, F5⟩
         exact ⟨F5, A5, c5, rfl, ownsRow_le ho5 (by have := (((((From.rfl_.next E9).next E14).next E23).next E24).next D23).size; have := hk4.lt; omega)⟩
       refine ⟨?_, ?_⟩
       · intro w24 D24
         rintro _ rfl _ rfl v24_38 ⟨A24, c24, rfl, ho24⟩
         show OpOK _ _ _ _ _ _ _
         exact ok_pure (v := .agg #[.int .i64 i, .int .i64 (termI B T xs i), .slice A24 (xs.drop (i - B).toNat).length c24]) (ro_build (by kernel_rfl)) ⟨A24, c24, rfl, ho24⟩
       exact trivial
      case hend =>
       intro w25 D25
       rintro _ rfl _ rfl _ rfl _ rfl _ rfl _ rfl _ rfl _ rfl _ rfl _ rfl _ rfl v38 ⟨A25, c25, rfl, ho25⟩ v39 ⟨B25, d25, rfl, hp25⟩
       show St _ _ _ _ _ _ _
       have hP := hp25
       refine st_putW (vs := [_, _, _]) EntCompact_z25 rfl rfl (by simp [Value.oneCell']) (hk4.from_ (((((From.rfl_.next E9).next E14).next E23).next E24).next D25)) rfl ?_
       intro w26 O6 P6
       refine st_val (ro_assign (v := .int _ _) rfl) ?_
       refine st_nil ?_
       refine nx_then ?_
       refine cd_ret ?_
       refine resr2 rfl (rv_cellA (cs := [_, _, _]) EntCompact_g25 EntCompact_z25 rfl (by first | exact P2.whole | exact P5.whole | exact P6.whole | exact P14.whole)) (rv_tmp (v := .int _ _) rfl) ?_
       have hc : coErr B T xs i = 0 := by unfold coErr; rw [hm, hl, if_pos rfl, if_pos hin]
       exact ⟨_, congrArg (fun c => Value.tuple #[_, .int .i64 c]) hc.symm, ⟨fun h0 => absurd hc h0, fun _ => ⟨_, _, rfl, ownsRow_le (own_only hP O6 (by omega)) (by omega)⟩⟩, ((((((((From.rfl_.next E2).next E4).next E9).next E14).next E23).next E24).next D25).only O6 (by rw [hb4]; exact E2.size))⟩
end Go.Proofs.Ytnnknoohhoifbaa
