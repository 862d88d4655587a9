/- Walks of package entries by the new tool: Merge. -/
import Derived.Test.YtnnknoohhoifbaaEntCompacts
import Derived.Test.YtnnknoohhoifbaaEntAppend
namespace Go.Proofs.Ytnnknoohhoifbaa
open Go.RowKit

theorem EntMerge_e23 : elemQ Try.prog 23 = some (63, 3) := by kernel_rfl
theorem EntMerge_o25 : zeroQ Try.prog 25 = some (.agg #[.int .i64 0, .int .i64 0, .slice none 0 0]) := by kernel_rfl
theorem EntMerge_g25 : aggQ Try.prog 25 = some true := by kernel_rfl
theorem EntMerge_z25 : sizeQ Try.prog 25 = some 3 := by kernel_rfl
theorem EntMerge_k24 : callable Try.prog 24 = true := by kernel_rfl
theorem EntMerge_b25_ : Try.prog.built 25 [] = some #[.int .i64 0, .int .i64 0, .slice none 0 0] := by kernel_rfl
theorem EntMerge_q71 : litQ Try.prog 71 = some (3, 1, 8, (.int .i64 0)) := by kernel_rfl
theorem EntMerge_k40 : callable Try.prog 40 = true := by kernel_rfl
theorem EntMerge_k41 : callable Try.prog 41 = true := by kernel_rfl
theorem EntMerge_f25_0 : fieldQ Try.prog 25 0 = some 0 := by kernel_rfl
theorem EntMerge_g3 : aggQ Try.prog 3 = some false := by kernel_rfl
theorem EntMerge_l23 : (elemQ Try.prog 23).isSome = true := by kernel_rfl
theorem EntMerge_f25_1 : fieldQ Try.prog 25 1 = some 1 := by kernel_rfl
theorem EntMerge_k42 : callable Try.prog 42 = true := by kernel_rfl
theorem EntMerge_k44 : callable Try.prog 44 = true := by kernel_rfl
theorem EntMerge_k43 : callable Try.prog 43 = true := by kernel_rfl
theorem EntMerge_f63_0 : fieldQ Try.prog 63 0 = some 0 := by kernel_rfl
theorem EntMerge_f63_1 : fieldQ Try.prog 63 1 = some 1 := by kernel_rfl
def mgCut (B p : Int) (es : List Ent) : List Ent := if p < B then es.drop (min (B - p) es.length).toNat else es
def mgP (B p : Int) : Int := if p < B then B else p
def mgQ (B T p q : Int) : Int := if p < B then T else q
def mgSkip (B T : Int) (xs : List Ent) : List Ent → List Ent
  | [] => []
  | e :: r => if e.i ≤ B + xs.length ∧ termI B T xs e.i = e.t then mgSkip B T xs r else e :: r
def mgIdx (B : Int) (xs : List Ent) : List Ent → Nat | [] => xs.length | e :: _ => (e.i - 1 - B).toNat
def mg2 (B T : Int) (xs ys : List Ent) : Int × Bool × List Ent :=
  if 512 < mgIdx B xs ys + ys.length then (6, false, []) else if mayLog B T (xs.take (mgIdx B xs ys) ++ ys) = true then (0, false, xs.take (mgIdx B xs ys) ++ ys) else (1, false, [])
def mergeF (B T p q : Int) (xs es : List Ent) : Int × Bool × List Ent :=
  if mayLog B T xs = true ∧ inb 0 1099511627776 p = true ∧ inb 0 1099511627775 q = true ∧ runs es p q = true then
    if B + xs.length < mgP B p ∨ ¬ termI B T xs (mgP B p) = mgQ B T p q then (0, true, xs) else mg2 B T xs (mgSkip B T xs (mgCut B p es))
  else (1, false, [])
def MgGot (w w' : World) (B T : Int) (r : Int × Bool × List Ent) (v : Value) : Prop :=
  ∃ (X Y : Int) (A : Option Addr) (m c : Nat), v = .tuple #[.agg #[.int .i64 X, .int .i64 Y, .slice A m c], .bool r.2.1, .int .i64 r.1] ∧
    (r.1 ≠ 0 → X = 0 ∧ Y = 0 ∧ A = none ∧ m = 0 ∧ c = 0) ∧ (r.1 = 0 → X = B ∧ Y = T ∧ m = r.2.2.length ∧ w'.ownsRow w.heap.size 63 3 (.slice A m c) m (entV r.2.2))
theorem mg_bad {w w' : World} {B T : Int} {r : Int × Bool × List Ent} {c : Int} {b : Bool} (h : r = (c, b, [])) (hc : c ≠ 0) : MgGot w w' B T r (.tuple #[.agg #[.int .i64 0, .int .i64 0, .slice none 0 0], .bool b, .int .i64 c]) := by
  subst h
  exact ⟨0, 0, none, 0, 0, rfl, fun _ => ⟨rfl, rfl, rfl, rfl, rfl⟩, fun h => absurd h hc⟩
theorem mg_good {w w' : World} {B T : Int} {r : Int × Bool × List Ent} {b : Bool} {ys : List Ent} {A : Option Addr} {m c : Nat} (h : r = (0, b, ys)) (hm : m = ys.length) (ho : w'.ownsRow w.heap.size 63 3 (.slice A m c) m (entV ys)) : MgGot w w' B T r (.tuple #[.agg #[.int .i64 B, .int .i64 T, .slice A m c], .bool b, .int .i64 0]) := by
  subst h
  exact ⟨B, T, A, m, c, rfl, fun h => absurd rfl h, fun _ => ⟨rfl, rfl, hm, ho⟩⟩
theorem joined_rt (B T i : Int) (k : Nat) (A A' : Option Addr) (n c m d : Nat) (xs ys : List Ent) (w : World) (h : Ents w (.slice A n c) xs) (hu : Ents w (.slice A' m d) ys) (hB0 : 0 ≤ B) (hB1 : B ≤ 4611686018427387904) (hi : i = B + k) (hk : k ≤ xs.length) (hx : xs.length ≤ 400000000000) (hy : ys.length ≤ 400000000000) :
    Rt Try.prog 44 [.agg #[.int .i64 B, .int .i64 T, .slice A n c], .int .i64 i, .slice A' m d] w fun v w' => ∃ A2 c2, v = .agg #[.int .i64 B, .int .i64 T, .slice A2 (k + ys.length) c2] ∧ w'.ownsRow w.heap.size 63 3 (.slice A2 (k + ys.length) c2) (k + ys.length) (entV (xs.take k ++ ys)) ∧ From w w' := by
  subst hi
  exact Calls.mono (joined_any B T k _ _ xs ys w h hu hB0 hB1 hk hx hy) fun e w' ⟨v', he, ho, hF⟩ => ⟨_, he, by obtain ⟨A2, c2, rfl⟩ := own_form ho; exact ⟨A2, c2, rfl, ho, hF⟩⟩
theorem range3 {w : World} {b o : Nat} {x y z : Value} (h0 : w.cell? ⟨b, o, none⟩ = some x) (h1 : w.cell? ⟨b, o + 1, none⟩ = some y) (h2 : w.cell? ⟨b, o + 2, none⟩ = some z) : w.rangeAt b o [x, y, z] := fun j v hv => by
  match j, hv with
  | 0, hv => cases hv; exact h0
  | 1, hv => cases hv; exact h1
  | 2, hv => cases hv; exact h2
theorem Ents.head {w : World} {A : Option Addr} {n c : Nat} {e : Ent} {r : List Ent} (h : Ents w (.slice A n c) (e :: r)) : ∃ b o, A = some ⟨b, o, none⟩ ∧ w.rangeAt b o [.int .i64 e.i, .int .i64 e.t, .string e.d] := by
  obtain ⟨A', c', hv, _, _, _, hp⟩ := h
  simp only [Value.slice.injEq] at hv
  obtain ⟨rfl, _, _⟩ := hv
  obtain ⟨b, o, hA, _, hc⟩ := hp (by simp)
  have := hc 0 (by simp)
  simp only [Nat.zero_mul, Nat.add_zero, List.getElem_cons_zero] at this
  exact ⟨b, o, hA, range3 this.1 this.2.1 this.2.2⟩
theorem Ents.len {w : World} {A : Option Addr} {n c : Nat} {xs : List Ent} (h : Ents w (.slice A n c) xs) : n = xs.length ∧ xs.length ≤ c := by
  obtain ⟨A', c', hv, h1, _⟩ := h
  simp only [Value.slice.injEq] at hv
  obtain ⟨_, rfl, rfl⟩ := hv
  exact ⟨rfl, h1⟩
theorem runs_cut {B p q : Int} {es : List Ent} (hB : 0 ≤ B) (h : runs es p q = true) (hq : inb 0 1099511627775 q = true) : ∃ t, runs (mgCut B p es) (mgP B p) t = true := by
  unfold mgCut mgP
  split
  · rename_i hp
    by_cases hl : B - p ≤ es.length
    · have := (runs_drop es (B - p).toNat p q (by omega) h hq).1
      rw [show p + (((B - p).toNat : Nat) : Int) = B by omega] at this
      rw [show min (B - p) (es.length : Int) = B - p by omega]
      exact ⟨_, this⟩
    · rw [show (min (B - p) (es.length : Int)).toNat = es.length by omega, List.drop_length]
      exact ⟨0, rfl⟩
  · exact ⟨q, h⟩
theorem runs_head {e : Ent} {r : List Ent} {p t : Int} (h : runs (e :: r) p t = true) : e.i = p + 1 ∧ runs r (p + 1) e.t = true := by
  simp only [runs, entOk, Bool.and_eq_true, decide_eq_true_eq] at h
  exact ⟨h.1.1.1.1, h.2⟩
theorem lastOf_rt (B T : Int) (A : Option Addr) (n c : Nat) (xs : List Ent) (w : World) (h : Ents w (.slice A n c) xs) (hl : lastI B xs = B + xs.length) :
    Rt Try.prog 42 [.agg #[.int .i64 B, .int .i64 T, .slice A n c]] w fun v w' => v = .tuple #[.int .i64 (B + xs.length), .int .i64 (lastT T xs)] ∧ From w w' :=
  Rt.mono (Rt.of (lastOf_any B T _ xs w h)) fun v w' h => ⟨by rw [h.1, hl], h.2⟩
theorem mgSkip_stop {B T : Int} {xs : List Ent} {e : Ent} {r : List Ent} (h : ¬ (e.i ≤ B + xs.length ∧ termI B T xs e.i = e.t)) : mgSkip B T xs (e :: r) = e :: r := by
  unfold mgSkip; rw [if_neg h]
theorem mgSkip_go {B T : Int} {xs : List Ent} {e : Ent} {r : List Ent} (h : e.i ≤ B + xs.length ∧ termI B T xs e.i = e.t) : mgSkip B T xs (e :: r) = mgSkip B T xs r := by
  rw [mgSkip, if_pos h]
set_option maxRecDepth 100000 in
set_option maxHeartbeats 2000000 in
theorem merge_rt (B T p q : Int) (A U : Option Addr) (cA cU : Nat) (xs es : List Ent) (w : World) (h : Ents w (.slice A xs.length cA) xs) (he : Ents w (.slice U es.length cU) es) (hel : es.length ≤ 400000000000) :
    Rt Try.prog 36 [.agg #[.int .i64 B, .int .i64 T, .slice A xs.length cA], .int .i64 p, .int .i64 q, .slice U es.length cU] w (fun v w' => MgGot w w' B T (mergeF B T p q xs es) v ∧ From w w') := by
  refine enter (n := 123) Try.func36 rfl rfl rfl ?_
  refine cd_seq ?_
  refine cd_region ?_
  refine st_box (v := .agg _) rfl ?_
  intro b4 w1 E4 hb4 hk4
  have hl4 := hk4.lt
  refine st_alloc EntMerge_o25 ?_
  intro b8 w2 E8 hb8 hk8
  replace hk4 := hk4.from_ E8
  have hg8 : w.heap.size ≤ b8 := by rw [hb8]; exact E4.size
  have h48 : b4 < b8 := by omega
  refine st_val (ro_assign (v := .bool _) rfl) ?_
  refine st_val (ro_assign (v := .int _ _) rfl) ?_
  refine st_nil ?_
  refine nx_then ?_
  refine cd_seq ?_
  refine cd_seq ?_
  refine cd_region ?_
  refine st_val (ro_loadA (cs := [_, _, _]) EntMerge_g25 EntMerge_z25 rfl (by first | (first | exact (hk4.from_ From.rfl_).whole | exact (hk4.from_ From.rfl_).rd 0 rfl | exact (hk4.from_ From.rfl_).rd 1 rfl | exact (hk4.from_ From.rfl_).rd 2 rfl))) ?_
  refine st_call EntMerge_k24 (Rt.of (check_any B T _ xs _ (h.from_ ((From.rfl_.next E4).next E8)))) ?_
  rintro v14 w3 ⟨rfl, E14⟩
  refine st_val (ro_neq rfl rfl) ?_
  refine st_val (ro_move (v := .bool _) rfl) ?_
  refine st_split (t := 16) rfl (fun Q4 => ?_) (fun Q4 => ?_)
  · (try first | replace Q4 := bn_t Q4 | replace Q4 := bn_f Q4)
    (try first | replace Q4 := bx_t Q4 | replace Q4 := bx_f Q4 | replace Q4 := be_t Q4 | replace Q4 := be_f Q4 | replace Q4 := of_decide_eq_true Q4 | replace Q4 := of_decide_eq_false Q4)
    have hbad : ¬ (mayLog B T xs = true ∧ inb 0 1099511627776 p = true ∧ inb 0 1099511627775 q = true ∧ runs es p q = true) := fun h0 => Q4 (by unfold chk; rw [if_pos h0.1])
    refine st_gno rfl rfl ?_
    refine st_gno rfl rfl ?_
    refine st_gno rfl rfl ?_
    refine st_gno rfl rfl ?_
    refine st_val (ro_pickT (v := .bool _) rfl rfl) ?_
    refine st_val (ro_move (v := .bool _) rfl) ?_
    refine st_gno rfl rfl ?_
    refine st_gno rfl rfl ?_
    refine st_gno rfl rfl ?_
    refine st_gno rfl rfl ?_
    refine st_val (ro_pickT (v := .bool _) rfl rfl) ?_
    refine st_val (ro_move (v := .bool _) rfl) ?_
    refine st_gno rfl rfl ?_
    refine st_gno rfl rfl ?_
    refine st_gno rfl rfl ?_
    refine st_gno rfl rfl ?_
    refine st_gno rfl rfl ?_
    refine st_val (ro_pickT (v := .bool _) rfl rfl) ?_
    refine st_nil ?_
    refine nx_then ?_
    refine cd_condT rfl ?_
    refine cd_seq ?_
    refine cd_region ?_
    refine st_val (ro_build (l := []) (EntMerge_b25_)) ?_
    refine st_putW (vs := [_, _, _]) EntMerge_z25 rfl rfl (by simp [Value.oneCell']) (hk8.from_ (From.rfl_.next E14)) rfl ?_
    intro w5 O2 P2
    refine st_val (ro_assign (v := .bool _) rfl) ?_
    refine st_val (ro_assign (v := .int _ _) rfl) ?_
    refine st_nil ?_
    refine nx_then ?_
    refine cd_ret ?_
    refine rt_then ?_
    refine resr3 rfl (rv_cellA (cs := [_, _, _]) EntMerge_g25 EntMerge_z25 rfl (by first | exact P2.whole | exact P8.whole | exact P14.whole | exact P17.whole | exact P18.whole)) (rv_tmp (v := .bool _) rfl) (rv_tmp (v := .int _ _) rfl) ?_
    exact ⟨mg_bad (by unfold mergeF; rw [if_neg hbad]) (by decide), ((((From.rfl_.next E4).next E8).next E14).only O2 (hg8))⟩
  · (try first | replace Q4 := bn_t Q4 | replace Q4 := bn_f Q4)
    (try first | replace Q4 := bx_t Q4 | replace Q4 := bx_f Q4 | replace Q4 := be_t Q4 | replace Q4 := be_f Q4 | replace Q4 := of_decide_eq_true Q4 | replace Q4 := of_decide_eq_false Q4)
    have hm : mayLog B T xs = true := by
      cases hm : mayLog B T xs with
      | true => rfl
      | false => unfold chk at Q4; rw [hm] at Q4; cases Q4
    obtain ⟨hl, hB0, hB1, hx⟩ := may_last hm
    refine st_unguard rfl ?_
    refine st_val (ro_move (v := .int _ _) rfl) ?_
    refine st_unguard rfl ?_
    refine st_lit1 (v := .int _ _) EntMerge_q71 rfl rfl rfl ?_
    intro b18 w6 E18 hb18 hk18
    refine st_unguard rfl ?_
    refine st_call EntMerge_k40 (within_rt _ _ _ _ _ hk18) ?_
    rintro v19 w7 ⟨rfl, E19⟩
    refine st_unguard rfl ?_
    refine st_val (ro_not rfl) ?_
    refine st_val (ro_pickF (v := .bool _) rfl rfl) ?_
    refine st_val (ro_move (v := .bool _) rfl) ?_
    refine st_split (t := 22) rfl (fun Q8 => ?_) (fun Q8 => ?_)
    · (try first | replace Q8 := bn_t Q8 | replace Q8 := bn_f Q8)
      (try first | replace Q8 := bx_t Q8 | replace Q8 := bx_f Q8 | replace Q8 := be_t Q8 | replace Q8 := be_f Q8 | replace Q8 := of_decide_eq_true Q8 | replace Q8 := of_decide_eq_false Q8)
      have hbad : ¬ (mayLog B T xs = true ∧ inb 0 1099511627776 p = true ∧ inb 0 1099511627775 q = true ∧ runs es p q = true) := fun h0 => by rw [h0.2.1] at Q8; cases Q8
      refine st_gno rfl rfl ?_
      refine st_gno rfl rfl ?_
      refine st_gno rfl rfl ?_
      refine st_gno rfl rfl ?_
      refine st_val (ro_pickT (v := .bool _) rfl rfl) ?_
      refine st_val (ro_move (v := .bool _) rfl) ?_
      refine st_gno rfl rfl ?_
      refine st_gno rfl rfl ?_
      refine st_gno rfl rfl ?_
      refine st_gno rfl rfl ?_
      refine st_gno rfl rfl ?_
      refine st_val (ro_pickT (v := .bool _) rfl rfl) ?_
      refine st_nil ?_
      refine nx_then ?_
      refine cd_condT rfl ?_
      refine cd_seq ?_
      refine cd_region ?_
      refine st_val (ro_build (l := []) (EntMerge_b25_)) ?_
      refine st_putW (vs := [_, _, _]) EntMerge_z25 rfl rfl (by simp [Value.oneCell']) (hk8.from_ (((From.rfl_.next E14).next E18).next E19)) rfl ?_
      intro w9 O2 P2
      refine st_val (ro_assign (v := .bool _) rfl) ?_
      refine st_val (ro_assign (v := .int _ _) rfl) ?_
      refine st_nil ?_
      refine nx_then ?_
      refine cd_ret ?_
      refine rt_then ?_
      refine resr3 rfl (rv_cellA (cs := [_, _, _]) EntMerge_g25 EntMerge_z25 rfl (by first | exact P2.whole | exact P8.whole | exact P14.whole | exact P17.whole | exact P18.whole)) (rv_tmp (v := .bool _) rfl) (rv_tmp (v := .int _ _) rfl) ?_
      exact ⟨mg_bad (by unfold mergeF; rw [if_neg hbad]) (by decide), ((((((From.rfl_.next E4).next E8).next E14).next E18).next E19).only O2 (hg8))⟩
    · (try first | replace Q8 := bn_t Q8 | replace Q8 := bn_f Q8)
      (try first | replace Q8 := bx_t Q8 | replace Q8 := bx_f Q8 | replace Q8 := be_t Q8 | replace Q8 := be_f Q8 | replace Q8 := of_decide_eq_true Q8 | replace Q8 := of_decide_eq_false Q8)
      have hPv := Q8
      have hpb := inb_true Q8
      refine st_unguard rfl ?_
      refine st_val (ro_move (v := .int _ _) rfl) ?_
      refine st_unguard rfl ?_
      refine st_lit1 (v := .int _ _) EntMerge_q71 rfl rfl rfl ?_
      intro b24 w10 E24 hb24 hk24
      refine st_unguard rfl ?_
      refine st_call EntMerge_k40 (within_rt _ _ _ _ _ hk24) ?_
      rintro v25 w11 ⟨rfl, E25⟩
      refine st_unguard rfl ?_
      refine st_val (ro_not rfl) ?_
      refine st_val (ro_pickF (v := .bool _) rfl rfl) ?_
      refine st_val (ro_move (v := .bool _) rfl) ?_
      refine st_split (t := 28) rfl (fun Q12 => ?_) (fun Q12 => ?_)
      · (try first | replace Q12 := bn_t Q12 | replace Q12 := bn_f Q12)
        (try first | replace Q12 := bx_t Q12 | replace Q12 := bx_f Q12 | replace Q12 := be_t Q12 | replace Q12 := be_f Q12 | replace Q12 := of_decide_eq_true Q12 | replace Q12 := of_decide_eq_false Q12)
        have hbad : ¬ (mayLog B T xs = true ∧ inb 0 1099511627776 p = true ∧ inb 0 1099511627775 q = true ∧ runs es p q = true) := fun h0 => by rw [h0.2.2.1] at Q12; cases Q12
        refine st_gno rfl rfl ?_
        refine st_gno rfl rfl ?_
        refine st_gno rfl rfl ?_
        refine st_gno rfl rfl ?_
        refine st_gno rfl rfl ?_
        refine st_val (ro_pickT (v := .bool _) rfl rfl) ?_
        refine st_nil ?_
        refine nx_then ?_
        refine cd_condT rfl ?_
        refine cd_seq ?_
        refine cd_region ?_
        refine st_val (ro_build (l := []) (EntMerge_b25_)) ?_
        refine st_putW (vs := [_, _, _]) EntMerge_z25 rfl rfl (by simp [Value.oneCell']) (hk8.from_ (((((From.rfl_.next E14).next E18).next E19).next E24).next E25)) rfl ?_
        intro w13 O2 P2
        refine st_val (ro_assign (v := .bool _) rfl) ?_
        refine st_val (ro_assign (v := .int _ _) rfl) ?_
        refine st_nil ?_
        refine nx_then ?_
        refine cd_ret ?_
        refine rt_then ?_
        refine resr3 rfl (rv_cellA (cs := [_, _, _]) EntMerge_g25 EntMerge_z25 rfl (by first | exact P2.whole | exact P8.whole | exact P14.whole | exact P17.whole | exact P18.whole)) (rv_tmp (v := .bool _) rfl) (rv_tmp (v := .int _ _) rfl) ?_
        exact ⟨mg_bad (by unfold mergeF; rw [if_neg hbad]) (by decide), ((((((((From.rfl_.next E4).next E8).next E14).next E18).next E19).next E24).next E25).only O2 (hg8))⟩
      · (try first | replace Q12 := bn_t Q12 | replace Q12 := bn_f Q12)
        (try first | replace Q12 := bx_t Q12 | replace Q12 := bx_f Q12 | replace Q12 := be_t Q12 | replace Q12 := be_f Q12 | replace Q12 := of_decide_eq_true Q12 | replace Q12 := of_decide_eq_false Q12)
        have hQv := Q12
        have hqb := inb_true Q12
        refine st_unguard rfl ?_
        refine st_val (ro_move (v := .int _ _) rfl) ?_
        refine st_unguard rfl ?_
        refine st_val (ro_move (v := .int _ _) rfl) ?_
        refine st_unguard rfl ?_
        refine st_val (ro_move (v := .slice _ _ _) rfl) ?_
        refine st_unguard rfl ?_
        refine st_call EntMerge_k41 (Rt.of (follow_any p q _ es _ (he.from_ (((((((From.rfl_.next E4).next E8).next E14).next E18).next E19).next E24).next E25)) (by omega) (by omega) (by omega) (by omega))) ?_
        rintro v32 w14 ⟨rfl, E32⟩
        refine st_unguard rfl ?_
        refine st_val (ro_not rfl) ?_
        refine st_val (ro_pickF (v := .bool _) rfl rfl) ?_
        refine st_nil ?_
        refine nx_then ?_
        refine cd_cond rfl (fun Q15 => ?_) (fun Q15 => ?_)
        · (try first | replace Q15 := bn_t Q15 | replace Q15 := bn_f Q15)
          (try first | replace Q15 := bx_t Q15 | replace Q15 := bx_f Q15 | replace Q15 := be_t Q15 | replace Q15 := be_f Q15 | replace Q15 := of_decide_eq_true Q15 | replace Q15 := of_decide_eq_false Q15)
          have hbad : ¬ (mayLog B T xs = true ∧ inb 0 1099511627776 p = true ∧ inb 0 1099511627775 q = true ∧ runs es p q = true) := fun h0 => by rw [h0.2.2.2] at Q15; cases Q15
          refine cd_seq ?_
          refine cd_region ?_
          refine st_val (ro_build (l := []) (EntMerge_b25_)) ?_
          refine st_putW (vs := [_, _, _]) EntMerge_z25 rfl rfl (by simp [Value.oneCell']) (hk8.from_ ((((((From.rfl_.next E14).next E18).next E19).next E24).next E25).next E32)) rfl ?_
          intro w16 O2 P2
          refine st_val (ro_assign (v := .bool _) rfl) ?_
          refine st_val (ro_assign (v := .int _ _) rfl) ?_
          refine st_nil ?_
          refine nx_then ?_
          refine cd_ret ?_
          refine rt_then ?_
          refine resr3 rfl (rv_cellA (cs := [_, _, _]) EntMerge_g25 EntMerge_z25 rfl (by first | exact P2.whole | exact P8.whole | exact P14.whole | exact P17.whole | exact P18.whole)) (rv_tmp (v := .bool _) rfl) (rv_tmp (v := .int _ _) rfl) ?_
          exact ⟨mg_bad (by unfold mergeF; rw [if_neg hbad]) (by decide), (((((((((From.rfl_.next E4).next E8).next E14).next E18).next E19).next E24).next E25).next E32).only O2 (hg8))⟩
        · (try first | replace Q15 := bn_t Q15 | replace Q15 := bn_f Q15)
          (try first | replace Q15 := bx_t Q15 | replace Q15 := bx_f Q15 | replace Q15 := be_t Q15 | replace Q15 := be_f Q15 | replace Q15 := of_decide_eq_true Q15 | replace Q15 := of_decide_eq_false Q15)
          have hR := Q15
          refine cd_skip ?_
          refine nx_then ?_
          refine cd_cut (G := Int × Int × List Ent × Option Addr × Nat × Nat) [36, 37, 38, 39, 40, 41, 42, 43, 44, 45, 46, 47, 48, 49, 50, 51, 52] (fun (P, Q, ys, A3, n3, c3) => [(1, .int .i64 P), (2, .int .i64 Q), (3, .slice A3 n3 c3)]) (fun (P, Q, ys, A3, n3, c3) w' => P = mgP B p ∧ Q = mgQ B T p q ∧ ys = mgCut B p es ∧ n3 = ys.length ∧ Ents w' (.slice A3 n3 c3) ys ∧ Blk w' b4 25 #[.int .i64 B, .int .i64 T, .slice A xs.length cA] ∧ Blk w' b8 25 #[.int .i64 0, .int .i64 0, .slice none 0 0] ∧ From w w') ?_ ?_
          · refine cd_seq ?_
            refine cd_region ?_
            refine st_val (ro_move (v := .int _ _) rfl) ?_
            refine st_val (ro_fieldAddr EntMerge_f25_0 rfl) ?_
            refine st_val (ro_load EntMerge_g3 rfl (by first | (first | exact (hk4.from_ ((((((From.rfl_.next E14).next E18).next E19).next E24).next E25).next E32)).whole | exact (hk4.from_ ((((((From.rfl_.next E14).next E18).next E19).next E24).next E25).next E32)).rd 0 rfl | exact (hk4.from_ ((((((From.rfl_.next E14).next E18).next E19).next E24).next E25).next E32)).rd 1 rfl | exact (hk4.from_ ((((((From.rfl_.next E14).next E18).next E19).next E24).next E25).next E32)).rd 2 rfl))) ?_
            refine st_val (ro_lss rfl rfl) ?_
            refine st_nil ?_
            refine nx_then ?_
            refine cd_cond rfl (fun Q17 => ?_) (fun Q17 => ?_)
            · (try first | replace Q17 := bn_t Q17 | replace Q17 := bn_f Q17)
              (try first | replace Q17 := bx_t Q17 | replace Q17 := bx_f Q17 | replace Q17 := be_t Q17 | replace Q17 := be_f Q17 | replace Q17 := of_decide_eq_true Q17 | replace Q17 := of_decide_eq_false Q17)
              have hlt := Q17
              refine cd_seq ?_
              refine cd_region ?_
              refine st_val (ro_move (v := .slice _ _ _) rfl) ?_
              refine st_val (ro_fieldAddr EntMerge_f25_0 rfl) ?_
              refine st_val (ro_load EntMerge_g3 rfl (by first | (first | exact (hk4.from_ ((((((From.rfl_.next E14).next E18).next E19).next E24).next E25).next E32)).whole | exact (hk4.from_ ((((((From.rfl_.next E14).next E18).next E19).next E24).next E25).next E32)).rd 0 rfl | exact (hk4.from_ ((((((From.rfl_.next E14).next E18).next E19).next E24).next E25).next E32)).rd 1 rfl | exact (hk4.from_ ((((((From.rfl_.next E14).next E18).next E19).next E24).next E25).next E32)).rd 2 rfl))) ?_
              refine st_val (ro_move (v := .int _ _) rfl) ?_
              refine st_val (ro_sub64 rfl rfl (by omega)) ?_
              refine st_val (ro_move (v := .slice _ _ _) rfl) ?_
              refine st_val (ro_len EntMerge_l23 rfl) ?_
              refine st_val (ro_min rfl rfl) ?_
              refine st_val (ro_sliceO (l := (min (B - p) es.length).toNat) EntMerge_e23 rfl (.inr ⟨_, _, _, rfl, rfl, (by omega)⟩) (.inl ⟨rfl, rfl⟩) (by omega) (by have := he.len; omega)) ?_
              refine st_val (ro_assign (v := .slice _ _ _) rfl) ?_
              refine st_nil ?_
              refine nx_then ?_
              apply cd_drawn 6 [(49, eqp _), (50, eqp _), (51, eqp _), (52, eqp _), (1, eqp _), (2, eqp _)] (by kernel_rfl) (by kernel_rfl) ⟨eqp_mono _, eqp_mono _, eqp_mono _, eqp_mono _, eqp_mono _, eqp_mono _, trivial⟩
              case hop =>
               refine ⟨?_, ?_⟩
               · intro w19 D19
                 show OpOK _ _ _ _ _ _ _
                 exact ok_pure (ro_fieldAddr EntMerge_f25_0 rfl) rfl
               refine ⟨?_, ?_⟩
               · intro w20 D20
                 rintro _ rfl
                 show OpOK _ _ _ _ _ _ _
                 exact ok_pure (ro_load EntMerge_g3 rfl (by first | (first | exact (hk4.from_ (((((((From.rfl_.next E14).next E18).next E19).next E24).next E25).next E32).next D20)).whole | exact (hk4.from_ (((((((From.rfl_.next E14).next E18).next E19).next E24).next E25).next E32).next D20)).rd 0 rfl | exact (hk4.from_ (((((((From.rfl_.next E14).next E18).next E19).next E24).next E25).next E32).next D20)).rd 1 rfl | exact (hk4.from_ (((((((From.rfl_.next E14).next E18).next E19).next E24).next E25).next E32).next D20)).rd 2 rfl))) rfl
               refine ⟨?_, ?_⟩
               · intro w21 D21
                 show OpOK _ _ _ _ _ _ _
                 exact ok_pure (ro_fieldAddr EntMerge_f25_1 rfl) rfl
               refine ⟨?_, ?_⟩
               · intro w22 D22
                 rintro _ rfl
                 show OpOK _ _ _ _ _ _ _
                 exact ok_pure (ro_load EntMerge_g3 rfl (by first | (first | exact (hk4.from_ (((((((From.rfl_.next E14).next E18).next E19).next E24).next E25).next E32).next D22)).whole | exact (hk4.from_ (((((((From.rfl_.next E14).next E18).next E19).next E24).next E25).next E32).next D22)).rd 0 rfl | exact (hk4.from_ (((((((From.rfl_.next E14).next E18).next E19).next E24).next E25).next E32).next D22)).rd 1 rfl | exact (hk4.from_ (((((((From.rfl_.next E14).next E18).next E19).next E24).next E25).next E32).next D22)).rd 2 rfl))) rfl
               refine ⟨?_, ?_⟩
               · intro w23 D23
                 rintro _ rfl
                 show OpOK _ _ _ _ _ _ _
                 exact ok_pure (ro_assign (v := .int _ _) rfl) rfl
               refine ⟨?_, ?_⟩
               · intro w24 D24
                 rintro _ rfl
                 show OpOK _ _ _ _ _ _ _
                 exact ok_pure (ro_assign (v := .int _ _) rfl) rfl
               exact trivial
              case hend =>
               intro w25 D25
               rintro _ rfl _ rfl _ rfl _ rfl _ rfl _ rfl
               show St _ _ _ _ _ _ _
               refine st_nil ?_
               refine nx_cut ((_, _, mgCut B p es, _, _, _)) ⟨rfl, rfl, rfl, trivial⟩ (by (iterate 20 refine agr_cons rfl ?_); exact agr_rfl) ?_
               first
                 | exact ⟨by unfold mgP; rw [if_pos hlt], by unfold mgQ; rw [if_pos hlt], rfl, by unfold mgCut; rw [if_pos hlt, List.length_drop], by unfold mgCut; rw [if_pos hlt]; exact (he.from_ (((((((((From.rfl_.next E4).next E8).next E14).next E18).next E19).next E24).next E25).next E32).next D25)).restA (by omega), hk4.from_ (((((((From.rfl_.next E14).next E18).next E19).next E24).next E25).next E32).next D25), hk8.from_ (((((((From.rfl_.next E14).next E18).next E19).next E24).next E25).next E32).next D25), (((((((((From.rfl_.next E4).next E8).next E14).next E18).next E19).next E24).next E25).next E32).next D25)⟩
                 | exact ⟨by unfold mgP; rw [if_neg hlt], by unfold mgQ; rw [if_neg hlt], rfl, by unfold mgCut; rw [if_neg hlt], by unfold mgCut; rw [if_neg hlt]; exact he.from_ (((((((((From.rfl_.next E4).next E8).next E14).next E18).next E19).next E24).next E25).next E32).next D25), hk4.from_ (((((((From.rfl_.next E14).next E18).next E19).next E24).next E25).next E32).next D25), hk8.from_ (((((((From.rfl_.next E14).next E18).next E19).next E24).next E25).next E32).next D25), (((((((((From.rfl_.next E4).next E8).next E14).next E18).next E19).next E24).next E25).next E32).next D25)⟩
            · (try first | replace Q17 := bn_t Q17 | replace Q17 := bn_f Q17)
              (try first | replace Q17 := bx_t Q17 | replace Q17 := bx_f Q17 | replace Q17 := be_t Q17 | replace Q17 := be_f Q17 | replace Q17 := of_decide_eq_true Q17 | replace Q17 := of_decide_eq_false Q17)
              have hlt := Q17
              refine cd_skip ?_
              refine nx_cut ((_, _, mgCut B p es, _, _, _)) ⟨rfl, rfl, rfl, trivial⟩ (by (iterate 4 refine agr_cons rfl ?_); exact agr_rfl) ?_
              first
                | exact ⟨by unfold mgP; rw [if_pos hlt], by unfold mgQ; rw [if_pos hlt], rfl, by unfold mgCut; rw [if_pos hlt, List.length_drop], by unfold mgCut; rw [if_pos hlt]; exact (he.from_ ((((((((From.rfl_.next E4).next E8).next E14).next E18).next E19).next E24).next E25).next E32)).restA (by omega), hk4.from_ ((((((From.rfl_.next E14).next E18).next E19).next E24).next E25).next E32), hk8.from_ ((((((From.rfl_.next E14).next E18).next E19).next E24).next E25).next E32), ((((((((From.rfl_.next E4).next E8).next E14).next E18).next E19).next E24).next E25).next E32)⟩
                | exact ⟨by unfold mgP; rw [if_neg hlt], by unfold mgQ; rw [if_neg hlt], rfl, by unfold mgCut; rw [if_neg hlt], by unfold mgCut; rw [if_neg hlt]; exact he.from_ ((((((((From.rfl_.next E4).next E8).next E14).next E18).next E19).next E24).next E25).next E32), hk4.from_ ((((((From.rfl_.next E14).next E18).next E19).next E24).next E25).next E32), hk8.from_ ((((((From.rfl_.next E14).next E18).next E19).next E24).next E25).next E32), ((((((((From.rfl_.next E4).next E8).next E14).next E18).next E19).next E24).next E25).next E32)⟩
          · rintro ⟨P, Q, ys, A3, n3, c3⟩ ρ26 w26 ⟨hP6, hQ6, hys6, rfl, hes, hk4, hk8, hB⟩
            have hPB : B ≤ P := by rw [hP6]; unfold mgP; split <;> omega
            obtain ⟨t6, hrun6⟩ : ∃ t, runs ys P t = true := by rw [hP6, hys6]; exact runs_cut hB0 hR hQv
            have hy6 : ys.length ≤ es.length := by rw [hys6]; unfold mgCut; split <;> simp
            refine cd_seq ?_
            refine cd_region ?_
            refine st_val (ro_loadA (cs := [_, _, _]) EntMerge_g25 EntMerge_z25 rfl (by first | (first | exact (hk4.from_ From.rfl_).whole | exact (hk4.from_ From.rfl_).rd 0 rfl | exact (hk4.from_ From.rfl_).rd 1 rfl | exact (hk4.from_ From.rfl_).rd 2 rfl))) ?_
            refine st_call EntMerge_k42 (lastOf_rt B T A _ cA xs _ (h.from_ hB) hl) ?_
            rintro v55 w27 ⟨rfl, E55⟩
            refine st_val (ro_move (v := .tuple _) rfl) ?_
            refine st_val (ro_extract rfl rfl) ?_
            refine st_val (ro_extract rfl rfl) ?_
            refine st_val (ro_assign (v := .int _ _) rfl) ?_
            refine st_val (ro_assign (v := .int _ _) rfl) ?_
            refine st_nil ?_
            refine nx_then ?_
            refine cd_seq ?_
            refine cd_seq ?_
            refine cd_region ?_
            refine st_val (ro_move (v := .int _ _) rfl) ?_
            refine st_val (ro_move (v := .int _ _) rfl) ?_
            refine st_val (ro_gtr rfl rfl) ?_
            refine st_val (ro_move (v := .bool _) rfl) ?_
            refine st_split (t := 61) rfl (fun Q28 => ?_) (fun Q28 => ?_)
            · (try first | replace Q28 := bn_t Q28 | replace Q28 := bn_f Q28)
              (try first | replace Q28 := bx_t Q28 | replace Q28 := bx_f Q28 | replace Q28 := be_t Q28 | replace Q28 := be_f Q28 | replace Q28 := of_decide_eq_true Q28 | replace Q28 := of_decide_eq_false Q28)
              have hms : B + (xs.length : Int) < mgP B p ∨ ¬ termI B T xs (mgP B p) = mgQ B T p q := .inl (by rw [← hP6]; exact Q28)
              refine st_gno rfl rfl ?_
              refine st_gno rfl rfl ?_
              refine st_gno rfl rfl ?_
              refine st_gno rfl rfl ?_
              refine st_gno rfl rfl ?_
              refine st_val (ro_pickT (v := .bool _) rfl rfl) ?_
              refine st_nil ?_
              refine nx_then ?_
              refine cd_condT rfl ?_
              refine cd_seq ?_
              refine cd_region ?_
              refine st_val (ro_loadA (cs := [_, _, _]) EntMerge_g25 EntMerge_z25 rfl (by first | (first | exact (hk4.from_ (From.rfl_.next E55)).whole | exact (hk4.from_ (From.rfl_.next E55)).rd 0 rfl | exact (hk4.from_ (From.rfl_.next E55)).rd 1 rfl | exact (hk4.from_ (From.rfl_.next E55)).rd 2 rfl))) ?_
              refine st_val (ro_move (v := .int _ _) rfl) ?_
              have hb70 := (hk8.from_ (From.rfl_.next E55)).lt
              refine st_call EntMerge_k44 (joined_rt B T _ xs.length A none _ cA 0 0 xs [] _ (h.from_ (hB.next E55)) (Ents.nil_ _) hB0 (by omega) rfl (Nat.le_refl _) (by omega) (by simp)) ?_
              rintro v70 w29 ⟨A70, c70, rfl, ho70, E70⟩
              refine st_putW (vs := [_, _, _]) EntMerge_z25 rfl rfl (by simp [Value.oneCell']) (hk8.from_ ((From.rfl_.next E55).next E70)) rfl ?_
              intro w30 O8 P8
              refine st_val (ro_assign (v := .bool _) rfl) ?_
              refine st_val (ro_assign (v := .int _ _) rfl) ?_
              refine st_nil ?_
              refine nx_then ?_
              refine cd_ret ?_
              refine rt_then ?_
              refine resr3 rfl (rv_cellA (cs := [_, _, _]) EntMerge_g25 EntMerge_z25 rfl (by first | exact P2.whole | exact P8.whole | exact P14.whole | exact P17.whole | exact P18.whole)) (rv_tmp (v := .bool _) rfl) (rv_tmp (v := .int _ _) rfl) ?_
              refine ⟨mg_good (ys := xs.take xs.length ++ []) (by unfold mergeF; rw [if_pos ⟨hm, hPv, hQv, hR⟩, if_pos hms]; simp) (by simp) (ownsRow_le (own_only ho70 O8 hb70) (by omega)), (((hB.next E55).next E70).only O8 (hg8))⟩
            · (try first | replace Q28 := bn_t Q28 | replace Q28 := bn_f Q28)
              (try first | replace Q28 := bx_t Q28 | replace Q28 := bx_f Q28 | replace Q28 := be_t Q28 | replace Q28 := be_f Q28 | replace Q28 := of_decide_eq_true Q28 | replace Q28 := of_decide_eq_false Q28)
              have hPL : P ≤ B + (xs.length : Int) := by omega
              refine st_unguard rfl ?_
              refine st_val (ro_loadA (cs := [_, _, _]) EntMerge_g25 EntMerge_z25 rfl (by first | (first | exact (hk4.from_ (From.rfl_.next E55)).whole | exact (hk4.from_ (From.rfl_.next E55)).rd 0 rfl | exact (hk4.from_ (From.rfl_.next E55)).rd 1 rfl | exact (hk4.from_ (From.rfl_.next E55)).rd 2 rfl))) ?_
              refine st_unguard rfl ?_
              refine st_val (ro_move (v := .int _ _) rfl) ?_
              refine st_unguard rfl ?_
              refine st_call EntMerge_k43 (Rt.of (termAt_any B T P _ xs _ (h.from_ (hB.next E55)) hB0 (by omega) hPB (by omega) (by omega))) ?_
              rintro v64 w31 ⟨rfl, E64⟩
              refine st_unguard rfl ?_
              refine st_val (ro_move (v := .int _ _) rfl) ?_
              refine st_unguard rfl ?_
              refine st_val (ro_neq rfl rfl) ?_
              refine st_val (ro_pickF (v := .bool _) rfl rfl) ?_
              refine st_nil ?_
              refine nx_then ?_
              refine cd_cond rfl (fun Q32 => ?_) (fun Q32 => ?_)
              · (try first | replace Q32 := bn_t Q32 | replace Q32 := bn_f Q32)
                (try first | replace Q32 := bx_t Q32 | replace Q32 := bx_f Q32 | replace Q32 := be_t Q32 | replace Q32 := be_f Q32 | replace Q32 := of_decide_eq_true Q32 | replace Q32 := of_decide_eq_false Q32)
                have hms : B + (xs.length : Int) < mgP B p ∨ ¬ termI B T xs (mgP B p) = mgQ B T p q := .inr (by rw [← hP6, ← hQ6]; exact Q32)
                refine cd_seq ?_
                refine cd_region ?_
                refine st_val (ro_loadA (cs := [_, _, _]) EntMerge_g25 EntMerge_z25 rfl (by first | (first | exact (hk4.from_ ((From.rfl_.next E55).next E64)).whole | exact (hk4.from_ ((From.rfl_.next E55).next E64)).rd 0 rfl | exact (hk4.from_ ((From.rfl_.next E55).next E64)).rd 1 rfl | exact (hk4.from_ ((From.rfl_.next E55).next E64)).rd 2 rfl))) ?_
                refine st_val (ro_move (v := .int _ _) rfl) ?_
                have hb70 := (hk8.from_ ((From.rfl_.next E55).next E64)).lt
                refine st_call EntMerge_k44 (joined_rt B T _ xs.length A none _ cA 0 0 xs [] _ (h.from_ ((hB.next E55).next E64)) (Ents.nil_ _) hB0 (by omega) rfl (Nat.le_refl _) (by omega) (by simp)) ?_
                rintro v70 w33 ⟨A70, c70, rfl, ho70, E70⟩
                refine st_putW (vs := [_, _, _]) EntMerge_z25 rfl rfl (by simp [Value.oneCell']) (hk8.from_ (((From.rfl_.next E55).next E64).next E70)) rfl ?_
                intro w34 O8 P8
                refine st_val (ro_assign (v := .bool _) rfl) ?_
                refine st_val (ro_assign (v := .int _ _) rfl) ?_
                refine st_nil ?_
                refine nx_then ?_
                refine cd_ret ?_
                refine rt_then ?_
                refine resr3 rfl (rv_cellA (cs := [_, _, _]) EntMerge_g25 EntMerge_z25 rfl (by first | exact P2.whole | exact P8.whole | exact P14.whole | exact P17.whole | exact P18.whole)) (rv_tmp (v := .bool _) rfl) (rv_tmp (v := .int _ _) rfl) ?_
                refine ⟨mg_good (ys := xs.take xs.length ++ []) (by unfold mergeF; rw [if_pos ⟨hm, hPv, hQv, hR⟩, if_pos hms]; simp) (by simp) (ownsRow_le (own_only ho70 O8 hb70) (by omega)), ((((hB.next E55).next E64).next E70).only O8 (hg8))⟩
              · (try first | replace Q32 := bn_t Q32 | replace Q32 := bn_f Q32)
                (try first | replace Q32 := bx_t Q32 | replace Q32 := bx_f Q32 | replace Q32 := be_t Q32 | replace Q32 := be_f Q32 | replace Q32 := of_decide_eq_true Q32 | replace Q32 := of_decide_eq_false Q32)
                have hnm : ¬ (B + (xs.length : Int) < mgP B p ∨ ¬ termI B T xs (mgP B p) = mgQ B T p q) := by rw [← hP6, ← hQ6]; exact fun h0 => h0.elim (fun h1 => by omega) (fun h1 => h1 Q32)
                refine cd_skip ?_
                refine nx_then ?_
                refine cd_cut (G := List Ent × Option Addr × Nat) [71, 72, 73, 74, 75, 76, 77, 78, 79, 80, 81, 82, 83, 84, 85, 86, 87, 88, 89, 90, 91, 92, 93, 94, 95, 96] (fun (ys, A4, c4) => [(3, .slice A4 ys.length c4)]) (fun (ys, A4, c4) w' => Ents w' (.slice A4 ys.length c4) ys ∧ ys = mgSkip B T xs (mgCut B p es) ∧ (∀ e r, ys = e :: r → B + 1 ≤ e.i ∧ e.i ≤ B + xs.length + 1) ∧ ys.length ≤ es.length ∧ Blk w' b4 25 #[.int .i64 B, .int .i64 T, .slice A xs.length cA] ∧ Blk w' b8 25 #[.int .i64 0, .int .i64 0, .slice none 0 0] ∧ From w w') ?_ ?_
                · refine cd_block ?_
                  refine cd_loop (G := List Ent × Option Addr × Nat × Int × Int) [71, 72, 73, 74, 75, 76, 77, 78, 79, 80, 81, 82, 83, 84, 85, 86, 87, 88, 89, 90, 91, 92, 93, 94, 95, 96] (fun (zs, A4, c4, p', t') => [(3, .slice A4 zs.length c4)]) (fun (zs, A4, c4, p', t') w' => Ents w' (.slice A4 zs.length c4) zs ∧ mgSkip B T xs zs = mgSkip B T xs ys ∧ runs zs p' t' = true ∧ B ≤ p' ∧ p' ≤ B + xs.length ∧ zs.length ≤ es.length ∧ Blk w' b4 25 #[.int .i64 B, .int .i64 T, .slice A xs.length cA] ∧ Blk w' b8 25 #[.int .i64 0, .int .i64 0, .slice none 0 0] ∧ From w w') (fun (zs, A4, c4, p', t') => zs.length) ((ys, A3, c3, P, t6)) ⟨rfl, trivial⟩ ?_ ?_
                  · exact ⟨hes.from_ ((From.rfl_.next E55).next E64), rfl, hrun6, hPB, hPL, hy6, hk4.from_ ((From.rfl_.next E55).next E64), hk8.from_ ((From.rfl_.next E55).next E64), ((hB.next E55).next E64)⟩
                  rintro ⟨zs, A4, c4, p', t'⟩ ρ35 w35 ⟨hzs, hsk, hrun, hpB, hpL, hzl, hk4, hk8, hB⟩
                  refine cd_seq ?_
                  refine cd_seq ?_
                  have hcases : zs = [] ∨ (∃ e r, zs = e :: r ∧ ¬ e.i ≤ B + xs.length) ∨ (∃ e r, zs = e :: r ∧ e.i ≤ B + xs.length) := by
                    cases zs with
                    | nil => exact .inl rfl
                    | cons e r => by_cases h1 : e.i ≤ B + xs.length
                                  · exact .inr (.inr ⟨e, r, rfl, h1⟩)
                                  · exact .inr (.inl ⟨e, r, rfl, h1⟩)
                  rcases hcases with rfl | ⟨e, r, rfl, h1⟩ | ⟨e, r, rfl, h1⟩
                  · have hfin := hsk.trans (congrArg _ hys6)
                    apply cd_drawn 24 [(71, eqp _), (72, eqp _), (73, eqp _), (74, eqp _), (75, eqp _), (76, eqp _), (77, eqp _), (78, eqp _), (79, eqp _), (80, eqp _), (81, eqp _), (82, eqp _), (83, eqp _), (84, eqp _), (85, eqp _), (86, eqp _), (87, eqp _), (88, eqp _), (89, eqp _), (90, eqp _), (91, eqp _), (92, eqp _), (93, eqp _), (94, eqp _)] (by kernel_rfl) (by kernel_rfl) ⟨eqp_mono _, eqp_mono _, eqp_mono _, eqp_mono _, eqp_mono _, eqp_mono _, eqp_mono _, eqp_mono _, eqp_mono _, eqp_mono _, eqp_mono _, eqp_mono _, eqp_mono _, eqp_mono _, eqp_mono _, eqp_mono _, eqp_mono _, eqp_mono _, eqp_mono _, eqp_mono _, eqp_mono _, eqp_mono _, eqp_mono _, eqp_mono _, trivial⟩
                    case hop =>
                     refine ⟨?_, ?_⟩
                     · intro w37 D37
                       show OpOK _ _ _ _ _ _ _
                       exact ok_pure (ro_move (v := .slice _ _ _) rfl) rfl
                     refine ⟨?_, ?_⟩
                     · intro w38 D38
                       rintro _ rfl
                       show OpOK _ _ _ _ _ _ _
                       exact ok_pure (ro_len EntMerge_l23 rfl) rfl
                     refine ⟨?_, ?_⟩
                     · intro w39 D39
                       rintro _ rfl
                       show OpOK _ _ _ _ _ _ _
                       exact ok_pure (ro_bf (ro_gtr rfl rfl) (by simp)) rfl
                     refine ⟨?_, ?_⟩
                     · intro w40 D40
                       rintro _ rfl
                       show OpOK _ _ _ _ _ _ _
                       exact ok_pure (ro_move (v := .bool _) rfl) rfl
                     refine ⟨?_, ?_⟩
                     · intro w41 D41
                       rintro _ rfl
                       show OpOK _ _ _ _ _ _ _
                       exact ok_gno rfl rfl rfl
                     refine ⟨?_, ?_⟩
                     · intro w42 D42
                       rintro _ rfl _ rfl
                       show OpOK _ _ _ _ _ _ _
                       exact ok_gno rfl rfl rfl
                     refine ⟨?_, ?_⟩
                     · intro w43 D43
                       rintro _ rfl _ rfl
                       show OpOK _ _ _ _ _ _ _
                       exact ok_gno rfl rfl rfl
                     refine ⟨?_, ?_⟩
                     · intro w44 D44
                       rintro _ rfl _ rfl
                       show OpOK _ _ _ _ _ _ _
                       exact ok_gno rfl rfl rfl
                     refine ⟨?_, ?_⟩
                     · intro w45 D45
                       rintro _ rfl
                       show OpOK _ _ _ _ _ _ _
                       exact ok_gno rfl rfl rfl
                     refine ⟨?_, ?_⟩
                     · intro w46 D46
                       rintro _ rfl _ rfl _ rfl
                       show OpOK _ _ _ _ _ _ _
                       exact ok_gno rfl rfl rfl
                     refine ⟨?_, ?_⟩
                     · intro w47 D47
                       rintro _ rfl _ rfl
                       show OpOK _ _ _ _ _ _ _
                       exact ok_pure (ro_pickF (v := .bool _) rfl rfl) rfl
                     refine ⟨?_, ?_⟩
                     · intro w48 D48
                       rintro _ rfl
                       show OpOK _ _ _ _ _ _ _
                       exact ok_pure (ro_move (v := .bool _) rfl) rfl
                     refine ⟨?_, ?_⟩
                     · intro w49 D49
                       rintro _ rfl
                       show OpOK _ _ _ _ _ _ _
                       exact ok_gno rfl rfl rfl
                     refine ⟨?_, ?_⟩
                     · intro w50 D50
                       rintro _ rfl
                       show OpOK _ _ _ _ _ _ _
                       exact ok_gno rfl rfl rfl
                     refine ⟨?_, ?_⟩
                     · intro w51 D51
                       rintro _ rfl _ rfl
                       show OpOK _ _ _ _ _ _ _
                       exact ok_gno rfl rfl rfl
                     refine ⟨?_, ?_⟩
                     · intro w52 D52
                       rintro _ rfl _ rfl
                       show OpOK _ _ _ _ _ _ _
                       exact ok_gno rfl rfl rfl
                     refine ⟨?_, ?_⟩
                     · intro w53 D53
                       rintro _ rfl _ rfl
                       show OpOK _ _ _ _ _ _ _
                       exact ok_gno rfl rfl rfl
                     refine ⟨?_, ?_⟩
                     · intro w54 D54
                       rintro _ rfl _ rfl _ rfl
                       show OpOK _ _ _ _ _ _ _
                       exact ok_gno rfl rfl rfl
                     refine ⟨?_, ?_⟩
                     · intro w55 D55
                       rintro _ rfl
                       show OpOK _ _ _ _ _ _ _
                       exact ok_gno rfl rfl rfl
                     refine ⟨?_, ?_⟩
                     · intro w56 D56
                       rintro _ rfl _ rfl
                       show OpOK _ _ _ _ _ _ _
                       exact ok_gno rfl rfl rfl
                     refine ⟨?_, ?_⟩
                     · intro w57 D57
                       rintro _ rfl _ rfl
                       show OpOK _ _ _ _ _ _ _
                       exact ok_gno rfl rfl rfl
                     refine ⟨?_, ?_⟩
                     · intro w58 D58
                       rintro _ rfl _ rfl
                       show OpOK _ _ _ _ _ _ _
                       exact ok_gno rfl rfl rfl
                     refine ⟨?_, ?_⟩
                     · intro w59 D59
                       rintro _ rfl _ rfl _ rfl
                       show OpOK _ _ _ _ _ _ _
                       exact ok_gno rfl rfl rfl
                     refine ⟨?_, ?_⟩
                     · intro w60 D60
                       rintro _ rfl _ rfl
                       show OpOK _ _ _ _ _ _ _
                       exact ok_pure (ro_pickF (v := .bool _) rfl rfl) rfl
                     exact trivial
                    case hend =>
                     intro w61 D61
                     rintro _ rfl _ rfl _ rfl _ rfl _ rfl _ rfl _ rfl _ rfl _ rfl _ rfl _ rfl _ rfl _ rfl _ rfl _ rfl _ rfl _ rfl _ rfl _ rfl _ rfl _ rfl _ rfl _ rfl _ rfl
                     show St _ _ _ _ _ _ _
                     refine st_nil ?_
                     refine nx_then ?_
                     refine cd_condF rfl ?_
                     refine cd_exit ?_
                     refine ex_then ?_
                     refine ex_then ?_
                     refine ex_block ?_
                     refine nx_cut ((_, _, _)) ⟨rfl, trivial⟩ (by (iterate 51 refine agr_cons rfl ?_); exact agr_rfl) ?_
                     exact ⟨hzs.from_ (From.rfl_.next D61), hfin, (fun e r h0 => by cases h0 <;> (have := (runs_head hrun).1; omega)), hzl, hk4.from_ (From.rfl_.next D61), hk8.from_ (From.rfl_.next D61), (hB.next D61)⟩
                  · have hfin := (mgSkip_stop (r := r) (fun h0 => h1 h0.1)).symm.trans (hsk.trans (congrArg _ hys6))
                    obtain ⟨b9, o9, rfl, hcell⟩ := hzs.head
                    apply cd_drawn 24 [(71, eqp _), (72, eqp _), (73, eqp _), (74, eqp _), (75, eqp _), (76, eqp _), (77, eqp _), (78, eqp _), (79, eqp _), (80, eqp _), (81, eqp _), (82, eqp _), (83, eqp _), (84, eqp _), (85, eqp _), (86, eqp _), (87, eqp _), (88, eqp _), (89, eqp _), (90, eqp _), (91, eqp _), (92, eqp _), (93, eqp _), (94, eqp _)] (by kernel_rfl) (by kernel_rfl) ⟨eqp_mono _, eqp_mono _, eqp_mono _, eqp_mono _, eqp_mono _, eqp_mono _, eqp_mono _, eqp_mono _, eqp_mono _, eqp_mono _, eqp_mono _, eqp_mono _, eqp_mono _, eqp_mono _, eqp_mono _, eqp_mono _, eqp_mono _, eqp_mono _, eqp_mono _, eqp_mono _, eqp_mono _, eqp_mono _, eqp_mono _, eqp_mono _, trivial⟩
                    case hop =>
                     refine ⟨?_, ?_⟩
                     · intro w63 D63
                       show OpOK _ _ _ _ _ _ _
                       exact ok_pure (ro_move (v := .slice _ _ _) rfl) rfl
                     refine ⟨?_, ?_⟩
                     · intro w64 D64
                       rintro _ rfl
                       show OpOK _ _ _ _ _ _ _
                       exact ok_pure (ro_len EntMerge_l23 rfl) rfl
                     refine ⟨?_, ?_⟩
                     · intro w65 D65
                       rintro _ rfl
                       show OpOK _ _ _ _ _ _ _
                       exact ok_pure (ro_bt (ro_gtr rfl rfl) (by simp)) rfl
                     refine ⟨?_, ?_⟩
                     · intro w66 D66
                       rintro _ rfl
                       show OpOK _ _ _ _ _ _ _
                       exact ok_pure (ro_move (v := .bool _) rfl) rfl
                     refine ⟨?_, ?_⟩
                     · intro w67 D67
                       rintro _ rfl
                       show OpOK _ _ _ _ _ _ _
                       exact ok_gpure rfl (ro_move (v := .slice _ _ _) rfl) rfl
                     refine ⟨?_, ?_⟩
                     · intro w68 D68
                       rintro _ rfl _ rfl
                       show OpOK _ _ _ _ _ _ _
                       exact ok_gpure rfl (ro_indexAddr EntMerge_e23 rfl rfl (by simp <;> omega)) rfl
                     refine ⟨?_, ?_⟩
                     · intro w69 D69
                       rintro _ rfl _ rfl
                       show OpOK _ _ _ _ _ _ _
                       exact ok_gpure rfl (ro_fieldAddr EntMerge_f63_0 rfl) rfl
                     refine ⟨?_, ?_⟩
                     · intro w70 D70
                       rintro _ rfl _ rfl
                       show OpOK _ _ _ _ _ _ _
                       exact ok_gpure rfl (ro_load EntMerge_g3 rfl (by exact rangeF (From.rfl_.next D70) hcell 0 _ rfl)) rfl
                     refine ⟨?_, ?_⟩
                     · intro w71 D71
                       rintro _ rfl
                       show OpOK _ _ _ _ _ _ _
                       exact ok_gpure rfl (ro_move (v := .int _ _) rfl) rfl
                     refine ⟨?_, ?_⟩
                     · intro w72 D72
                       rintro _ rfl _ rfl _ rfl
                       show OpOK _ _ _ _ _ _ _
                       exact ok_gpure rfl (ro_bf (ro_leq rfl rfl) (decide_eq_false h1)) rfl
                     refine ⟨?_, ?_⟩
                     · intro w73 D73
                       rintro _ rfl _ rfl
                       show OpOK _ _ _ _ _ _ _
                       exact ok_pure (ro_pickT (v := .bool _) rfl rfl) rfl
                     refine ⟨?_, ?_⟩
                     · intro w74 D74
                       rintro _ rfl
                       show OpOK _ _ _ _ _ _ _
                       exact ok_pure (ro_move (v := .bool _) rfl) rfl
                     refine ⟨?_, ?_⟩
                     · intro w75 D75
                       rintro _ rfl
                       show OpOK _ _ _ _ _ _ _
                       exact ok_gno rfl rfl rfl
                     refine ⟨?_, ?_⟩
                     · intro w76 D76
                       rintro _ rfl
                       show OpOK _ _ _ _ _ _ _
                       exact ok_gno rfl rfl rfl
                     refine ⟨?_, ?_⟩
                     · intro w77 D77
                       rintro _ rfl _ rfl
                       show OpOK _ _ _ _ _ _ _
                       exact ok_gno rfl rfl rfl
                     refine ⟨?_, ?_⟩
                     · intro w78 D78
                       rintro _ rfl _ rfl
                       show OpOK _ _ _ _ _ _ _
                       exact ok_gno rfl rfl rfl
                     refine ⟨?_, ?_⟩
                     · intro w79 D79
                       rintro _ rfl _ rfl
                       show OpOK _ _ _ _ _ _ _
                       exact ok_gno rfl rfl rfl
                     refine ⟨?_, ?_⟩
                     · intro w80 D80
                       rintro _ rfl _ rfl _ rfl
                       show OpOK _ _ _ _ _ _ _
                       exact ok_gno rfl rfl rfl
                     refine ⟨?_, ?_⟩
                     · intro w81 D81
                       rintro _ rfl
                       show OpOK _ _ _ _ _ _ _
                       exact ok_gno rfl rfl rfl
                     refine ⟨?_, ?_⟩
                     · intro w82 D82
                       rintro _ rfl _ rfl
                       show OpOK _ _ _ _ _ _ _
                       exact ok_gno rfl rfl rfl
                     refine ⟨?_, ?_⟩
                     · intro w83 D83
                       rintro _ rfl _ rfl
                       show OpOK _ _ _ _ _ _ _
                       exact ok_gno rfl rfl rfl
                     refine ⟨?_, ?_⟩
                     · intro w84 D84
                       rintro _ rfl _ rfl
                       show OpOK _ _ _ _ _ _ _
                       exact ok_gno rfl rfl rfl
                     refine ⟨?_, ?_⟩
                     · intro w85 D85
                       rintro _ rfl _ rfl _ rfl
                       show OpOK _ _ _ _ _ _ _
                       exact ok_gno rfl rfl rfl
                     refine ⟨?_, ?_⟩
                     · intro w86 D86
                       rintro _ rfl _ rfl
                       show OpOK _ _ _ _ _ _ _
                       exact ok_pure (ro_pickF (v := .bool _) rfl rfl) rfl
                     exact trivial
                    case hend =>
                     intro w87 D87
                     rintro _ rfl _ rfl _ rfl _ rfl _ rfl _ rfl _ rfl _ rfl _ rfl _ rfl _ rfl _ rfl _ rfl _ rfl _ rfl _ rfl _ rfl _ rfl _ rfl _ rfl _ rfl _ rfl _ rfl _ rfl
                     show St _ _ _ _ _ _ _
                     refine st_nil ?_
                     refine nx_then ?_
                     refine cd_condF rfl ?_
                     refine cd_exit ?_
                     refine ex_then ?_
                     refine ex_then ?_
                     refine ex_block ?_
                     refine nx_cut ((_, _, _)) ⟨rfl, trivial⟩ (by (iterate 51 refine agr_cons rfl ?_); exact agr_rfl) ?_
                     exact ⟨hzs.from_ (From.rfl_.next D87), hfin, (fun e r h0 => by cases h0 <;> (have := (runs_head hrun).1; omega)), hzl, hk4.from_ (From.rfl_.next D87), hk8.from_ (From.rfl_.next D87), (hB.next D87)⟩
                  · obtain ⟨b9, o9, rfl, hcell⟩ := hzs.head
                    apply cd_drawn 24 [(71, eqp _), (72, eqp _), (73, eqp _), (74, eqp _), (75, eqp _), (76, eqp _), (77, eqp _), (78, eqp _), (79, eqp _), (80, eqp _), (81, eqp _), (82, eqp _), (83, eqp _), (84, eqp _), (85, eqp _), (86, eqp _), (87, eqp _), (88, eqp _), (89, eqp _), (90, eqp _), (91, eqp _), (92, eqp _), (93, eqp _), (94, eqp _)] (by kernel_rfl) (by kernel_rfl) ⟨eqp_mono _, eqp_mono _, eqp_mono _, eqp_mono _, eqp_mono _, eqp_mono _, eqp_mono _, eqp_mono _, eqp_mono _, eqp_mono _, eqp_mono _, eqp_mono _, eqp_mono _, eqp_mono _, eqp_mono _, eqp_mono _, eqp_mono _, eqp_mono _, eqp_mono _, eqp_mono _, eqp_mono _, eqp_mono _, eqp_mono _, eqp_mono _, trivial⟩
                    case hop =>
                     refine ⟨?_, ?_⟩
                     · intro w89 D89
                       show OpOK _ _ _ _ _ _ _
                       exact ok_pure (ro_move (v := .slice _ _ _) rfl) rfl
                     refine ⟨?_, ?_⟩
                     · intro w90 D90
                       rintro _ rfl
                       show OpOK _ _ _ _ _ _ _
                       exact ok_pure (ro_len EntMerge_l23 rfl) rfl
                     refine ⟨?_, ?_⟩
                     · intro w91 D91
                       rintro _ rfl
                       show OpOK _ _ _ _ _ _ _
                       exact ok_pure (ro_bt (ro_gtr rfl rfl) (by simp)) rfl
                     refine ⟨?_, ?_⟩
                     · intro w92 D92
                       rintro _ rfl
                       show OpOK _ _ _ _ _ _ _
                       exact ok_pure (ro_move (v := .bool _) rfl) rfl
                     refine ⟨?_, ?_⟩
                     · intro w93 D93
                       rintro _ rfl
                       show OpOK _ _ _ _ _ _ _
                       exact ok_gpure rfl (ro_move (v := .slice _ _ _) rfl) rfl
                     refine ⟨?_, ?_⟩
                     · intro w94 D94
                       rintro _ rfl _ rfl
                       show OpOK _ _ _ _ _ _ _
                       exact ok_gpure rfl (ro_indexAddr EntMerge_e23 rfl rfl (by simp <;> omega)) rfl
                     refine ⟨?_, ?_⟩
                     · intro w95 D95
                       rintro _ rfl _ rfl
                       show OpOK _ _ _ _ _ _ _
                       exact ok_gpure rfl (ro_fieldAddr EntMerge_f63_0 rfl) rfl
                     refine ⟨?_, ?_⟩
                     · intro w96 D96
                       rintro _ rfl _ rfl
                       show OpOK _ _ _ _ _ _ _
                       exact ok_gpure rfl (ro_load EntMerge_g3 rfl (by exact rangeF (From.rfl_.next D96) hcell 0 _ rfl)) rfl
                     refine ⟨?_, ?_⟩
                     · intro w97 D97
                       rintro _ rfl
                       show OpOK _ _ _ _ _ _ _
                       exact ok_gpure rfl (ro_move (v := .int _ _) rfl) rfl
                     refine ⟨?_, ?_⟩
                     · intro w98 D98
                       rintro _ rfl _ rfl _ rfl
                       show OpOK _ _ _ _ _ _ _
                       exact ok_gpure rfl (ro_bt (ro_leq rfl rfl) (decide_eq_true h1)) rfl
                     refine ⟨?_, ?_⟩
                     · intro w99 D99
                       rintro _ rfl _ rfl
                       show OpOK _ _ _ _ _ _ _
                       exact ok_pure (ro_pickT (v := .bool _) rfl rfl) rfl
                     refine ⟨?_, ?_⟩
                     · intro w100 D100
                       rintro _ rfl
                       show OpOK _ _ _ _ _ _ _
                       exact ok_pure (ro_move (v := .bool _) rfl) rfl
                     refine ⟨?_, ?_⟩
                     · intro w101 D101
                       rintro _ rfl
                       show OpOK _ _ _ _ _ _ _
                       exact ok_gpure rfl (ro_loadA (cs := [_, _, _]) EntMerge_g25 EntMerge_z25 rfl (by first | (first | exact (hk4.from_ (From.rfl_.next D101)).whole | exact (hk4.from_ (From.rfl_.next D101)).rd 0 rfl | exact (hk4.from_ (From.rfl_.next D101)).rd 1 rfl | exact (hk4.from_ (From.rfl_.next D101)).rd 2 rfl))) rfl
                     refine ⟨?_, ?_⟩
                     · intro w102 D102
                       rintro _ rfl
                       show OpOK _ _ _ _ _ _ _
                       exact ok_gpure rfl (ro_move (v := .slice _ _ _) rfl) rfl
                     refine ⟨?_, ?_⟩
                     · intro w103 D103
                       rintro _ rfl _ rfl
                       show OpOK _ _ _ _ _ _ _
                       exact ok_gpure rfl (ro_indexAddr EntMerge_e23 rfl rfl (by simp <;> omega)) rfl
                     refine ⟨?_, ?_⟩
                     · intro w104 D104
                       rintro _ rfl _ rfl
                       show OpOK _ _ _ _ _ _ _
                       exact ok_gpure rfl (ro_fieldAddr EntMerge_f63_0 rfl) rfl
                     refine ⟨?_, ?_⟩
                     · intro w105 D105
                       rintro _ rfl _ rfl
                       show OpOK _ _ _ _ _ _ _
                       exact ok_gpure rfl (ro_load EntMerge_g3 rfl (by exact rangeF (From.rfl_.next D105) hcell 0 _ rfl)) rfl
                     refine ⟨?_, ?_⟩
                     · intro w106 D106
                       rintro _ rfl _ rfl _ rfl
                       show OpOK _ _ _ _ _ _ _
                       refine ok_gcall rfl EntMerge_k43 ((Rt.of (termAt_any B T e.i _ xs _ (h.from_ (hB.next D106)) hB0 (by omega) (by have := (runs_head hrun).1; omega) (by omega) (by omega))).mono ?_)
                       rintro v _ ⟨rfl, E106'⟩; exact ⟨E106', rfl⟩
                     refine ⟨?_, ?_⟩
                     · intro w107 D107
                       rintro _ rfl
                       show OpOK _ _ _ _ _ _ _
                       exact ok_gpure rfl (ro_move (v := .slice _ _ _) rfl) rfl
                     refine ⟨?_, ?_⟩
                     · intro w108 D108
                       rintro _ rfl _ rfl
                       show OpOK _ _ _ _ _ _ _
                       exact ok_gpure rfl (ro_indexAddr EntMerge_e23 rfl rfl (by simp <;> omega)) rfl
                     refine ⟨?_, ?_⟩
                     · intro w109 D109
                       rintro _ rfl _ rfl
                       show OpOK _ _ _ _ _ _ _
                       exact ok_gpure rfl (ro_fieldAddr EntMerge_f63_1 rfl) rfl
                     refine ⟨?_, ?_⟩
                     · intro w110 D110
                       rintro _ rfl _ rfl
                       show OpOK _ _ _ _ _ _ _
                       exact ok_gpure rfl (ro_load EntMerge_g3 rfl (by exact rangeF (From.rfl_.next D110) hcell 1 _ rfl)) rfl
                     refine ⟨?_, ?_⟩
                     · intro w111 D111
                       rintro _ rfl _ rfl _ rfl
                       show OpOK _ _ _ _ _ _ _
                       exact ok_gpure rfl (ro_eql rfl rfl) rfl
                     refine ⟨?_, ?_⟩
                     · intro w112 D112
                       rintro _ rfl _ rfl
                       show OpOK _ _ _ _ _ _ _
                       exact ok_pure (ro_pickT (v := .bool _) rfl rfl) rfl
                     exact trivial
                    case hend =>
                     intro w113 D113
                     rintro _ rfl _ rfl _ rfl _ rfl _ rfl _ rfl _ rfl _ rfl _ rfl _ rfl _ rfl _ rfl _ rfl _ rfl _ rfl _ rfl _ rfl _ rfl _ rfl _ rfl _ rfl _ rfl _ rfl _ rfl
                     show St _ _ _ _ _ _ _
                     refine st_nil ?_
                     refine nx_then ?_
                     refine cd_cond rfl (fun Q114 => ?_) (fun Q114 => ?_)
                     · (try first | replace Q114 := bn_t Q114 | replace Q114 := bn_f Q114)
                       (try first | replace Q114 := bx_t Q114 | replace Q114 := bx_f Q114 | replace Q114 := be_t Q114 | replace Q114 := be_f Q114 | replace Q114 := of_decide_eq_true Q114 | replace Q114 := of_decide_eq_false Q114)
                       have hq := Q114
                       refine cd_skip ?_
                       refine nx_then ?_
                       refine cd_block ?_
                       refine cd_region ?_
                       refine st_val (ro_move (v := .slice _ _ _) rfl) ?_
                       refine st_val (ro_sliceO (l := 1) EntMerge_e23 rfl (.inr ⟨_, _, _, rfl, rfl, rfl⟩) (.inl ⟨rfl, rfl⟩) (by simp) (by have := hzs.len; simp at this; omega)) ?_
                       refine st_val (ro_assign (v := .slice _ _ _) rfl) ?_
                       refine st_nil ?_
                       refine nx_block ?_
                       refine nx_cut ((r, restOf (some ⟨b9, o9, none⟩) c4 1 3, c4 - 1, p' + 1, e.t)) ⟨(by first | rfl | (refine int_eq ?_; omega)), trivial⟩ (by (iterate 54 refine agr_cons rfl ?_); exact agr_rfl) ⟨?_, ?_⟩
                       · exact ⟨(hzs.from_ (From.rfl_.next D113)).restA (k := 1) (by simp), (mgSkip_go ⟨h1, hq⟩).symm.trans hsk, (runs_head hrun).2, by omega, by have := (runs_head hrun).1; omega, by simp at hzl; omega, hk4.from_ (From.rfl_.next D113), hk8.from_ (From.rfl_.next D113), (hB.next D113)⟩
                       · simp
                     · (try first | replace Q114 := bn_t Q114 | replace Q114 := bn_f Q114)
                       (try first | replace Q114 := bx_t Q114 | replace Q114 := bx_f Q114 | replace Q114 := be_t Q114 | replace Q114 := be_f Q114 | replace Q114 := of_decide_eq_true Q114 | replace Q114 := of_decide_eq_false Q114)
                       have hfin := (mgSkip_stop (r := r) (fun h0 => Q114 h0.2)).symm.trans (hsk.trans (congrArg _ hys6))
                       refine cd_exit ?_
                       refine ex_then ?_
                       refine ex_then ?_
                       refine ex_block ?_
                       refine nx_cut ((_, _, _)) ⟨rfl, trivial⟩ (by (iterate 51 refine agr_cons rfl ?_); exact agr_rfl) ?_
                       exact ⟨hzs.from_ (From.rfl_.next D113), hfin, (fun e r h0 => by cases h0 <;> (have := (runs_head hrun).1; omega)), hzl, hk4.from_ (From.rfl_.next D113), hk8.from_ (From.rfl_.next D113), (hB.next D113)⟩
                · rintro ⟨zs, A4, c4⟩ ρ115 w115 ⟨hzs, hsk, hhold, hzl, hk4, hk8, hB⟩
                  refine cd_cut (G := Nat) [97, 98, 99, 100, 101, 102, 103, 104] (fun k => [(11, .int .i64 (B + (k : Nat)))]) (fun k w' => k = mgIdx B xs zs ∧ k ≤ xs.length ∧ Ents w' (.slice A4 zs.length c4) zs ∧ Blk w' b4 25 #[.int .i64 B, .int .i64 T, .slice A xs.length cA] ∧ Blk w' b8 25 #[.int .i64 0, .int .i64 0, .slice none 0 0] ∧ From w w') ?_ ?_
                  · refine cd_seq ?_
                    refine cd_region ?_
                    refine st_val (ro_move (v := .slice _ _ _) rfl) ?_
                    refine st_val (ro_len EntMerge_l23 rfl) ?_
                    refine st_val (ro_gtr rfl rfl) ?_
                    refine st_nil ?_
                    refine nx_then ?_
                    refine cd_cond rfl (fun Q116 => ?_) (fun Q116 => ?_)
                    · (try first | replace Q116 := bn_t Q116 | replace Q116 := bn_f Q116)
                      (try first | replace Q116 := bx_t Q116 | replace Q116 := bx_f Q116 | replace Q116 := be_t Q116 | replace Q116 := be_f Q116 | replace Q116 := of_decide_eq_true Q116 | replace Q116 := of_decide_eq_false Q116)
                      obtain ⟨e, r, rfl⟩ := List.exists_cons_of_length_pos (show 0 < zs.length by omega)
                      obtain ⟨b9, o9, rfl, hcell⟩ := hzs.head
                      obtain ⟨hh1, hh2⟩ := hhold e r rfl
                      obtain ⟨k0, hk0⟩ : ∃ k0, k0 = (e.i - 1 - B).toNat := ⟨_, rfl⟩
                      refine cd_region ?_
                      refine st_val (ro_move (v := .slice _ _ _) rfl) ?_
                      refine st_val (ro_indexAddr EntMerge_e23 rfl rfl (by simp <;> omega)) ?_
                      refine st_val (ro_fieldAddr EntMerge_f63_0 rfl) ?_
                      refine st_val (ro_load EntMerge_g3 rfl (by exact rangeF From.rfl_ hcell 0 _ rfl)) ?_
                      refine st_val (ro_sub64 rfl rfl (by omega)) ?_
                      refine st_val (ro_assign (v := .int _ _) rfl) ?_
                      refine st_nil ?_
                      refine nx_cut (k0) ⟨(by first | rfl | (refine int_eq ?_; omega)), trivial⟩ (by (iterate 9 refine agr_cons rfl ?_); exact agr_rfl) ?_
                      exact ⟨hk0, by omega, hzs.from_ From.rfl_, hk4.from_ From.rfl_, hk8.from_ From.rfl_, hB⟩
                    · (try first | replace Q116 := bn_t Q116 | replace Q116 := bn_f Q116)
                      (try first | replace Q116 := bx_t Q116 | replace Q116 := bx_f Q116 | replace Q116 := be_t Q116 | replace Q116 := be_f Q116 | replace Q116 := of_decide_eq_true Q116 | replace Q116 := of_decide_eq_false Q116)
                      obtain rfl : zs = [] := List.eq_nil_of_length_eq_zero (by omega)
                      obtain ⟨k0, hk0⟩ : ∃ k0, k0 = xs.length := ⟨_, rfl⟩
                      refine cd_skip ?_
                      refine nx_cut (k0) ⟨(by first | rfl | (refine int_eq ?_; omega)), trivial⟩ (by (iterate 3 refine agr_cons rfl ?_); exact agr_rfl) ?_
                      exact ⟨hk0, by omega, hzs.from_ From.rfl_, hk4.from_ From.rfl_, hk8.from_ From.rfl_, hB⟩
                  · rintro k ρ117 w117 ⟨hk13, hkl, hzs, hk4, hk8, hB⟩
                    refine cd_seq ?_
                    refine cd_seq ?_
                    refine cd_region ?_
                    refine st_val (ro_move (v := .int _ _) rfl) ?_
                    refine st_val (ro_fieldAddr EntMerge_f25_0 rfl) ?_
                    refine st_val (ro_load EntMerge_g3 rfl (by first | (first | exact (hk4.from_ From.rfl_).whole | exact (hk4.from_ From.rfl_).rd 0 rfl | exact (hk4.from_ From.rfl_).rd 1 rfl | exact (hk4.from_ From.rfl_).rd 2 rfl))) ?_
                    refine st_val (ro_sub64 rfl rfl (by omega)) ?_
                    refine st_val (ro_move (v := .slice _ _ _) rfl) ?_
                    refine st_val (ro_len EntMerge_l23 rfl) ?_
                    refine st_val (ro_add64 rfl rfl (by omega)) ?_
                    refine st_val (ro_gtr rfl rfl) ?_
                    refine st_nil ?_
                    refine nx_then ?_
                    refine cd_cond rfl (fun Q118 => ?_) (fun Q118 => ?_)
                    · (try first | replace Q118 := bn_t Q118 | replace Q118 := bn_f Q118)
                      (try first | replace Q118 := bx_t Q118 | replace Q118 := bx_f Q118 | replace Q118 := be_t Q118 | replace Q118 := be_f Q118 | replace Q118 := of_decide_eq_true Q118 | replace Q118 := of_decide_eq_false Q118)
                      refine cd_seq ?_
                      refine cd_region ?_
                      refine st_val (ro_build (l := []) (EntMerge_b25_)) ?_
                      refine st_putW (vs := [_, _, _]) EntMerge_z25 rfl rfl (by simp [Value.oneCell']) (hk8.from_ From.rfl_) rfl ?_
                      intro w119 O14 P14
                      refine st_val (ro_assign (v := .bool _) rfl) ?_
                      refine st_val (ro_assign (v := .int _ _) rfl) ?_
                      refine st_nil ?_
                      refine nx_then ?_
                      refine cd_ret ?_
                      refine rt_then ?_
                      refine resr3 rfl (rv_cellA (cs := [_, _, _]) EntMerge_g25 EntMerge_z25 rfl (by first | exact P2.whole | exact P8.whole | exact P14.whole | exact P17.whole | exact P18.whole)) (rv_tmp (v := .bool _) rfl) (rv_tmp (v := .int _ _) rfl) ?_
                      exact ⟨mg_bad (by unfold mergeF; rw [if_pos ⟨hm, hPv, hQv, hR⟩, if_neg hnm, ← hsk]; unfold mg2; rw [← hk13, if_pos (by omega)]) (by decide), (hB.only O14 (hg8))⟩
                    · (try first | replace Q118 := bn_t Q118 | replace Q118 := bn_f Q118)
                      (try first | replace Q118 := bx_t Q118 | replace Q118 := bx_f Q118 | replace Q118 := be_t Q118 | replace Q118 := be_f Q118 | replace Q118 := of_decide_eq_true Q118 | replace Q118 := of_decide_eq_false Q118)
                      refine cd_skip ?_
                      refine nx_then ?_
                      refine cd_seq ?_
                      refine cd_region ?_
                      refine st_val (ro_loadA (cs := [_, _, _]) EntMerge_g25 EntMerge_z25 rfl (by first | (first | exact (hk4.from_ From.rfl_).whole | exact (hk4.from_ From.rfl_).rd 0 rfl | exact (hk4.from_ From.rfl_).rd 1 rfl | exact (hk4.from_ From.rfl_).rd 2 rfl))) ?_
                      refine st_val (ro_move (v := .int _ _) rfl) ?_
                      refine st_val (ro_move (v := .slice _ _ _) rfl) ?_
                      have hb117 := (hk8.from_ From.rfl_).lt
                      refine st_call EntMerge_k44 (joined_rt B T _ k A A4 _ cA _ c4 xs zs _ (h.from_ hB) (hzs.from_ From.rfl_) hB0 (by omega) rfl hkl (by omega) (by omega)) ?_
                      rintro v117 w120 ⟨A117, c117, rfl, ho117, E117⟩
                      refine st_putW (vs := [_, _, _]) EntMerge_z25 rfl rfl (by simp [Value.oneCell']) (hk8.from_ (From.rfl_.next E117)) rfl ?_
                      intro w121 O15 P15
                      refine st_nil ?_
                      refine nx_then ?_
                      refine cd_seq ?_
                      refine cd_seq ?_
                      refine cd_region ?_
                      refine st_val (ro_loadA (cs := [_, _, _]) EntMerge_g25 EntMerge_z25 rfl (by exact P15.whole)) ?_
                      refine st_call EntMerge_k24 (Rt.of (check_any B T _ (xs.take k ++ zs) _ (Ents.of_own (own_only ho117 O15 hb117) (by simp; omega)))) ?_
                      rintro v119 w122 ⟨rfl, E119⟩
                      refine st_val (ro_neq rfl rfl) ?_
                      refine st_nil ?_
                      refine nx_then ?_
                      refine cd_cond rfl (fun Q123 => ?_) (fun Q123 => ?_)
                      · (try first | replace Q123 := bn_t Q123 | replace Q123 := bn_f Q123)
                        (try first | replace Q123 := bx_t Q123 | replace Q123 := bx_f Q123 | replace Q123 := be_t Q123 | replace Q123 := be_f Q123 | replace Q123 := of_decide_eq_true Q123 | replace Q123 := of_decide_eq_false Q123)
                        have hmay : ¬ mayLog B T (xs.take k ++ zs) = true := fun h0 => Q123 (by unfold chk; rw [if_pos h0])
                        refine cd_seq ?_
                        refine cd_region ?_
                        refine st_val (ro_build (l := []) (EntMerge_b25_)) ?_
                        refine st_putW (vs := [_, _, _]) EntMerge_z25 rfl rfl (by simp [Value.oneCell']) (P15.from_ (From.rfl_.next E119)) rfl ?_
                        intro w124 O17 P17
                        refine st_val (ro_assign (v := .bool _) rfl) ?_
                        refine st_val (ro_assign (v := .int _ _) rfl) ?_
                        refine st_nil ?_
                        refine nx_then ?_
                        refine cd_ret ?_
                        refine rt_then ?_
                        refine resr3 rfl (rv_cellA (cs := [_, _, _]) EntMerge_g25 EntMerge_z25 rfl (by first | exact P2.whole | exact P8.whole | exact P14.whole | exact P17.whole | exact P18.whole)) (rv_tmp (v := .bool _) rfl) (rv_tmp (v := .int _ _) rfl) ?_
                        exact ⟨mg_bad (by unfold mergeF; rw [if_pos ⟨hm, hPv, hQv, hR⟩, if_neg hnm, ← hsk]; unfold mg2; rw [← hk13, if_neg (by omega), if_neg hmay]) (by decide), ((((hB.next E117).only O15 (hg8)).next E119).only O17 (hg8))⟩
                      · (try first | replace Q123 := bn_t Q123 | replace Q123 := bn_f Q123)
                        (try first | replace Q123 := bx_t Q123 | replace Q123 := bx_f Q123 | replace Q123 := be_t Q123 | replace Q123 := be_f Q123 | replace Q123 := of_decide_eq_true Q123 | replace Q123 := of_decide_eq_false Q123)
                        have hmay : mayLog B T (xs.take k ++ zs) = true := by
                          cases hm : mayLog B T (xs.take k ++ zs) with
                          | true => rfl
                          | false => unfold chk at Q123; rw [hm] at Q123; cases Q123
                        refine cd_skip ?_
                        refine nx_then ?_
                        refine cd_seq ?_
                        refine cd_region ?_
                        refine st_val (ro_loadA (cs := [_, _, _]) EntMerge_g25 EntMerge_z25 rfl (by exact (P15.from_ (From.rfl_.next E119)).whole)) ?_
                        have ho122 := (own_only ho117 O15 hb117).kept_from (From.rfl_.next E119)
                        refine st_putW (vs := [_, _, _]) EntMerge_z25 rfl rfl (by simp [Value.oneCell']) (P15.from_ (From.rfl_.next E119)) rfl ?_
                        intro w125 O18 P18
                        refine st_val (ro_assign (v := .bool _) rfl) ?_
                        refine st_val (ro_assign (v := .int _ _) rfl) ?_
                        refine st_nil ?_
                        refine nx_then ?_
                        refine cd_ret ?_
                        refine resr3 rfl (rv_cellA (cs := [_, _, _]) EntMerge_g25 EntMerge_z25 rfl (by first | exact P2.whole | exact P8.whole | exact P14.whole | exact P17.whole | exact P18.whole)) (rv_tmp (v := .bool _) rfl) (rv_tmp (v := .int _ _) rfl) ?_
                        refine ⟨mg_good (ys := xs.take k ++ zs) (by unfold mergeF; rw [if_pos ⟨hm, hPv, hQv, hR⟩, if_neg hnm, ← hsk]; unfold mg2; rw [← hk13, if_neg (by omega), if_pos hmay]) (by simp; omega) (ownsRow_le (own_only ho122 O18 hb117) (by omega)), ((((hB.next E117).only O15 (hg8)).next E119).only O18 (hg8))⟩
end Go.Proofs.Ytnnknoohhoifbaa
