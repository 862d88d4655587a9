/- Walks of package entries: the reference Cut, Slice, Compact, Newer; Newer. -/
import Derived.Test.YtnnknoohhoifbaaEntCompacts
import Derived.Test.YtnnknoohhoifbaaEntCopy
import Derived.Test.YtnnknoohhoifbaaEntRefAp
import Derived.Test.YtnnknoohhoifbaaEntAppend2
namespace Go.Proofs.Ytnnknoohhoifbaa
open Go.RowKit

theorem EntRefs3_e23 : elemQ Try.prog 23 = some (63, 3) := by kernel_rfl
theorem EntRefs3_g25 : aggQ Try.prog 25 = some true := by kernel_rfl
theorem EntRefs3_z25 : sizeQ Try.prog 25 = some 3 := by kernel_rfl
theorem EntRefs3_k16 : callable Try.prog 16 = true := by kernel_rfl
theorem EntRefs3_k24 : callable Try.prog 24 = true := by kernel_rfl
theorem EntRefs3_k42 : callable Try.prog 42 = true := by kernel_rfl
theorem EntRefs3_f25_0 : fieldQ Try.prog 25 0 = some 0 := by kernel_rfl
theorem EntRefs3_g3 : aggQ Try.prog 3 = some false := by kernel_rfl
theorem EntRefs3_f25_2 : fieldQ Try.prog 25 2 = some 2 := by kernel_rfl
theorem EntRefs3_g23 : aggQ Try.prog 23 = some false := by kernel_rfl
theorem EntRefs3_l23 : (elemQ Try.prog 23).isSome = true := by kernel_rfl
theorem EntRefs3_k14 : callable Try.prog 14 = true := by kernel_rfl
theorem EntRefs3_o25 : zeroQ Try.prog 25 = some (.agg #[.int .i64 0, .int .i64 0, .slice none 0 0]) := by kernel_rfl
theorem EntRefs3_k13 : callable Try.prog 13 = true := by kernel_rfl
theorem EntRefs3_z23 : sizeQ Try.prog 23 = some 1 := by kernel_rfl
theorem EntRefs3_k21 : callable Try.prog 21 = true := by kernel_rfl
theorem EntRefs3_b25_0_1_2 : ∀ (a0 : Int) (a1 : Int) (a2 : Option Addr) (a3 a4 : Nat), Try.prog.built 25 [(0, .int .i64 a0), (1, .int .i64 a1), (2, .slice a2 a3 a4)] = some #[.int .i64 a0, .int .i64 a1, .slice a2 a3 a4] := by intros; rfl
theorem copyLog_rt (B T : Int) (A : Option Addr) (n c : Nat) (xs : List Ent) (w : World) (h : Ents w (.slice A n c) xs) (hl : xs.length ≤ 400000000000) :
    Rt Try.prog 13 [.agg #[.int .i64 B, .int .i64 T, .slice A n c]] w fun v w' => ∃ A' c', v = .agg #[.int .i64 B, .int .i64 T, .slice A' xs.length c'] ∧ w'.ownsRow w.heap.size 63 3 (.slice A' xs.length c') xs.length (entV xs) ∧ Ents w' (.slice A' xs.length c') xs ∧ From w w' :=
  Calls.mono (copyLog_any B T _ xs w h hl) fun e w' ⟨v', he, ho, hF⟩ => ⟨_, he, by obtain ⟨A', c', rfl⟩ := own_form ho; exact ⟨A', c', rfl, ho, Ents.of_own ho rfl, hF⟩⟩
theorem copyEnts_rt (A : Option Addr) (n c : Nat) (xs : List Ent) (w : World) (h : Ents w (.slice A n c) xs) (hl : xs.length ≤ 400000000000) :
    Rt Try.prog 14 [.slice A n c] w fun v w' => ∃ A' c', v = .slice A' xs.length c' ∧ w'.ownsRow w.heap.size 63 3 (.slice A' xs.length c') xs.length (entV xs) ∧ Ents w' (.slice A' xs.length c') xs ∧ From w w' :=
  Calls.mono (copyEntries_any _ xs w h hl) fun e w' ⟨v', he, ho, hF⟩ => ⟨v', he, by obtain ⟨A', c', rfl⟩ := own_form ho; exact ⟨A', c', rfl, ho, Ents.of_own ho rfl, hF⟩⟩
theorem Ents.lenR {w : World} {A : Option Addr} {n c : Nat} {xs : List Ent} (h : Ents w (.slice A n c) xs) : n = xs.length ∧ xs.length ≤ c := by
  obtain ⟨A', c', hv, h1, _⟩ := h
  simp only [Value.slice.injEq] at hv
  obtain ⟨_, rfl, rfl⟩ := hv
  exact ⟨rfl, h1⟩
theorem Ents.first {w : World} {A : Option Addr} {n c : Nat} {xs : List Ent} (h : Ents w (.slice A n c) xs) {k : Nat} (hk : k ≤ xs.length) : Ents w (.slice (restOf A c 0 3) (k - 0) (c - 0)) (xs.take k) := by
  have e : restOf A c 0 3 = A := by
    unfold restOf
    split
    · rfl
    · cases A with
      | none => rfl
      | some a => simp [Addr.add_zero']
  rw [e]
  exact h.cut hk
theorem entV_take (xs : List Ent) (k : Nat) (hk : k ≤ xs.length) : entV (xs.take k) = (entV xs).take (k * 3) := by
  have h : entV xs = entV (xs.take k) ++ entV (xs.drop k) := by rw [← entV_append, List.take_append_drop]
  have hl : (entV (xs.take k)).length = k * 3 := by rw [entV_length, List.length_take]; congr 1; omega
  have h2 : (entV (xs.take k) ++ entV (xs.drop k)).take (k * 3) = entV (xs.take k) := by
    rw [List.take_append_of_le_length (by omega), List.take_of_length_le (by omega)]
  rw [← h] at h2
  exact h2.symm
/-- an own row cut short -/
theorem own_cut {w : World} {base e n c k : Nat} {A : Option Addr} {xs : List Ent} (h : w.ownsRow base e 3 (.slice A n c) n (entV xs)) (hn : n = xs.length) (hk : k ≤ n) : w.ownsRow base e 3 (.slice (restOf A c 0 3) (k - 0) (c - 0)) k (entV (xs.take k)) := by
  have e0 : restOf A c 0 3 = A := by
    unfold restOf
    split
    · rfl
    · cases A with
      | none => rfl
      | some a => simp [Addr.add_zero']
  rw [e0]
  refine ⟨by rw [entV_length, List.length_take]; congr 1; omega, ?_⟩
  rcases h.2 with ⟨h1, h2⟩ | ⟨g, cap, cur, hv, hb, hg, h3, h4, h5, h6⟩
  · simp only [Value.slice.injEq] at h1
    obtain ⟨rfl, rfl, rfl⟩ := h1
    exact .inl ⟨by rw [show k - 0 = 0 by omega], by omega⟩
  · simp only [Value.slice.injEq] at hv
    obtain ⟨rfl, _, rfl⟩ := hv
    refine .inr ⟨g, c, cur, by simp, hb, hg, by omega, h4, h5, ?_⟩
    rw [entV_take xs k (by omega), ← h6, List.take_take]
    congr 1
    have : k * 3 ≤ n * 3 := Nat.mul_le_mul_right _ hk
    omega
theorem refTerm_rt (B T i : Int) (A : Option Addr) (n c : Nat) (xs : List Ent) (w : World) (h : Ents w (.slice A n c) xs) (hm : mayLog B T xs = true) (hi : B ≤ i ∧ i ≤ B + xs.length) :
    Rt Try.prog 21 [.agg #[.int .i64 B, .int .i64 T, .slice A n c], .int .i64 i] w fun v w' => v = .tuple #[.int .i64 (termI B T xs i), .bool true] ∧ From w w' :=
  Rt.mono (Rt.of (refTerm_any B T i _ xs w h hm)) fun v w' h => ⟨by rw [h.1]; unfold refTermV; rw [if_pos ⟨hi.1, by rw [(may_last hm).1]; exact hi.2⟩], h.2⟩
theorem check_is (B T : Int) (A : Option Addr) (n c : Nat) (xs : List Ent) (w : World) (h : Ents w (.slice A n c) xs) (hm : mayLog B T xs = true) :
    Rt Try.prog 24 [.agg #[.int .i64 B, .int .i64 T, .slice A n c]] w fun v w' => v = .int .i64 0 ∧ From w w' :=
  Rt.mono (Rt.of (check_any B T _ xs w h)) fun v w' h => ⟨by rw [h.1]; unfold chk; rw [if_pos hm], h.2⟩
def newB (B T : Int) (xs : List Ent) (i t : Int) : Bool := decide (lastT T xs < t ∨ (t = lastT T xs ∧ lastI B xs ≤ i))
set_option maxRecDepth 100000 in
set_option maxHeartbeats 400000 in
theorem refNewer_rt (B T i t : Int) (A : Option Addr) (c : Nat) (xs : List Ent) (w : World) (h : Ents w (.slice A xs.length c) xs) :
    Rt Try.prog 22 [.agg #[.int .i64 B, .int .i64 T, .slice A xs.length c], .int .i64 i, .int .i64 t] w (fun v w' => v = .bool (newB B T xs i t) ∧ From w w') := by
  refine enter (n := 27) Try.func22 rfl rfl rfl ?_
  refine cd_seq ?_
  refine cd_region ?_
  refine st_box (v := .agg _) rfl ?_
  intro b3 w1 E3 hb3 hk3
  refine st_val (ro_assign (v := .bool _) rfl) ?_
  refine st_nil ?_
  refine nx_then ?_
  refine cd_seq ?_
  refine cd_region ?_
  refine st_val (ro_loadA (cs := [_, _, _]) EntRefs3_g25 EntRefs3_z25 rfl (by first | (first | exact (hk3.from_ From.rfl_).whole | exact (hk3.from_ From.rfl_).rd 0 rfl | exact (hk3.from_ From.rfl_).rd 1 rfl | exact (hk3.from_ From.rfl_).rd 2 rfl))) ?_
  refine st_call EntRefs3_k16 (Rt.of (refLast_any B T _ xs _ (h.from_ (From.rfl_.next E3)))) ?_
  rintro v11 w2 ⟨rfl, E11⟩
  refine st_val (ro_move (v := .tuple _) rfl) ?_
  refine st_val (ro_extract rfl rfl) ?_
  refine st_val (ro_extract rfl rfl) ?_
  refine st_val (ro_assign (v := .int _ _) rfl) ?_
  refine st_val (ro_assign (v := .int _ _) rfl) ?_
  refine st_nil ?_
  refine nx_then ?_
  refine cd_seq ?_
  refine cd_region ?_
  refine st_val (ro_move (v := .int _ _) rfl) ?_
  refine st_val (ro_move (v := .int _ _) rfl) ?_
  refine st_val (ro_gtr rfl rfl) ?_
  refine st_val (ro_move (v := .bool _) rfl) ?_
  refine st_split (t := 17) rfl (fun Q3 => ?_) (fun Q3 => ?_)
  · (try first | replace Q3 := bn_t Q3 | replace Q3 := bn_f Q3)
    (try first | replace Q3 := bx_t Q3 | replace Q3 := bx_f Q3 | replace Q3 := be_t Q3 | replace Q3 := be_f Q3 | replace Q3 := of_decide_eq_true Q3 | replace Q3 := of_decide_eq_false Q3)
    refine st_gno rfl rfl ?_
    refine st_gno rfl rfl ?_
    refine st_gno rfl rfl ?_
    refine st_gno rfl rfl ?_
    refine st_gund rfl ?_
    refine st_gund rfl ?_
    refine st_gund rfl ?_
    refine st_gno rfl rfl ?_
    refine st_val (ro_pickT (v := .bool _) rfl rfl) ?_
    refine st_val (ro_assign (v := .bool _) rfl) ?_
    refine st_nil ?_
    refine nx_then ?_
    refine cd_ret ?_
    refine res1 (v := .bool _) rfl rfl ?_
    refine ⟨congrArg Value.bool ?_, ((From.rfl_.next E3).next E11)⟩
    unfold newB
    first
      | exact (decide_eq_true (by omega)).symm
      | exact (decide_eq_false (by omega)).symm
      | exact decide_eq_decide.2 (by omega)
  · (try first | replace Q3 := bn_t Q3 | replace Q3 := bn_f Q3)
    (try first | replace Q3 := bx_t Q3 | replace Q3 := bx_f Q3 | replace Q3 := be_t Q3 | replace Q3 := be_f Q3 | replace Q3 := of_decide_eq_true Q3 | replace Q3 := of_decide_eq_false Q3)
    refine st_unguard rfl ?_
    refine st_val (ro_move (v := .int _ _) rfl) ?_
    refine st_unguard rfl ?_
    refine st_val (ro_move (v := .int _ _) rfl) ?_
    refine st_unguard rfl ?_
    refine st_val (ro_eql rfl rfl) ?_
    refine st_unguard rfl ?_
    refine st_val (ro_move (v := .bool _) rfl) ?_
    refine st_split (t := 21) rfl (fun Q4 => ?_) (fun Q4 => ?_)
    · (try first | replace Q4 := bn_t Q4 | replace Q4 := bn_f Q4)
      (try first | replace Q4 := bx_t Q4 | replace Q4 := bx_f Q4 | replace Q4 := be_t Q4 | replace Q4 := be_f Q4 | replace Q4 := of_decide_eq_true Q4 | replace Q4 := of_decide_eq_false Q4)
      refine st_unguard rfl ?_
      refine st_val (ro_move (v := .int _ _) rfl) ?_
      refine st_unguard rfl ?_
      refine st_val (ro_move (v := .int _ _) rfl) ?_
      refine st_unguard rfl ?_
      refine st_val (ro_geq rfl rfl) ?_
      refine st_unguard rfl ?_
      refine st_val (ro_pickT (v := .bool _) rfl rfl) ?_
      refine st_val (ro_pickF (v := .bool _) rfl rfl) ?_
      refine st_val (ro_assign (v := .bool _) rfl) ?_
      refine st_nil ?_
      refine nx_then ?_
      refine cd_ret ?_
      refine res1 (v := .bool _) rfl rfl ?_
      refine ⟨congrArg Value.bool ?_, ((From.rfl_.next E3).next E11)⟩
      unfold newB
      first
        | exact (decide_eq_true (by omega)).symm
        | exact (decide_eq_false (by omega)).symm
        | exact decide_eq_decide.2 (by omega)
    · (try first | replace Q4 := bn_t Q4 | replace Q4 := bn_f Q4)
      (try first | replace Q4 := bx_t Q4 | replace Q4 := bx_f Q4 | replace Q4 := be_t Q4 | replace Q4 := be_f Q4 | replace Q4 := of_decide_eq_true Q4 | replace Q4 := of_decide_eq_false Q4)
      refine st_gno rfl rfl ?_
      refine st_gno rfl rfl ?_
      refine st_gno rfl rfl ?_
      refine st_unguard rfl ?_
      refine st_val (ro_pickF (v := .bool _) rfl rfl) ?_
      refine st_val (ro_pickF (v := .bool _) rfl rfl) ?_
      refine st_val (ro_assign (v := .bool _) rfl) ?_
      refine st_nil ?_
      refine nx_then ?_
      refine cd_ret ?_
      refine res1 (v := .bool _) rfl rfl ?_
      refine ⟨congrArg Value.bool ?_, ((From.rfl_.next E3).next E11)⟩
      unfold newB
      first
        | exact (decide_eq_true (by omega)).symm
        | exact (decide_eq_false (by omega)).symm
        | exact decide_eq_decide.2 (by omega)
set_option maxRecDepth 100000 in
set_option maxHeartbeats 400000 in
theorem newer_rt (B T i t : Int) (A : Option Addr) (c : Nat) (xs : List Ent) (w : World) (h : Ents w (.slice A xs.length c) xs) (hm : mayLog B T xs = true) :
    Rt Try.prog 27 [.agg #[.int .i64 B, .int .i64 T, .slice A xs.length c], .int .i64 i, .int .i64 t] w (fun v w' => v = .tuple #[.bool (newB B T xs i t), .int .i64 0] ∧ From w w') := by
  refine enter (n := 31) Try.func27 rfl rfl rfl ?_
  refine cd_seq ?_
  refine cd_region ?_
  refine st_box (v := .agg _) rfl ?_
  intro b3 w1 E3 hb3 hk3
  refine st_val (ro_assign (v := .bool _) rfl) ?_
  refine st_val (ro_assign (v := .int _ _) rfl) ?_
  refine st_nil ?_
  refine nx_then ?_
  refine cd_seq ?_
  refine cd_seq ?_
  refine cd_region ?_
  refine st_val (ro_loadA (cs := [_, _, _]) EntRefs3_g25 EntRefs3_z25 rfl (by first | (first | exact (hk3.from_ From.rfl_).whole | exact (hk3.from_ From.rfl_).rd 0 rfl | exact (hk3.from_ From.rfl_).rd 1 rfl | exact (hk3.from_ From.rfl_).rd 2 rfl))) ?_
  refine st_call EntRefs3_k24 (check_is B T A _ c xs _ (h.from_ (From.rfl_.next E3)) hm) ?_
  rintro v11 w2 ⟨rfl, E11⟩
  refine st_val (ro_neq rfl rfl) ?_
  refine st_nil ?_
  refine nx_then ?_
  refine cd_cond rfl (fun Q3 => ?_) (fun Q3 => ?_)
  · (try first | replace Q3 := bn_t Q3 | replace Q3 := bn_f Q3)
    (try first | replace Q3 := bx_t Q3 | replace Q3 := bx_f Q3 | replace Q3 := be_t Q3 | replace Q3 := be_f Q3 | replace Q3 := of_decide_eq_true Q3 | replace Q3 := of_decide_eq_false Q3)
    first
     | (exfalso; first | contradiction | contradiction | (cases Q3; done))
     | skip
       refine cd_seq ?_
       refine cd_region ?_
       refine st_val (ro_assign (v := .bool _) rfl) ?_
       refine st_val (ro_assign (v := .int _ _) rfl) ?_
       refine st_nil ?_
       refine nx_then ?_
       refine cd_ret ?_
       refine rt_then ?_
       refine res2 (v := .bool _) (v' := .int _ _) rfl rfl rfl ?_
       refine ⟨congrArg (fun b => Value.tuple #[.bool b, .int .i64 0]) ?_, ((From.rfl_.next E3).next E11)⟩
       unfold newB
       first
         | exact (decide_eq_true (by omega)).symm
         | exact (decide_eq_false (by omega)).symm
         | exact decide_eq_decide.2 (by omega)
  · (try first | replace Q3 := bn_t Q3 | replace Q3 := bn_f Q3)
    (try first | replace Q3 := bx_t Q3 | replace Q3 := bx_f Q3 | replace Q3 := be_t Q3 | replace Q3 := be_f Q3 | replace Q3 := of_decide_eq_true Q3 | replace Q3 := of_decide_eq_false Q3)
    first
     | (exfalso; first | contradiction | contradiction | (cases Q3; done))
     | skip
       refine cd_skip ?_
       refine nx_then ?_
       refine cd_seq ?_
       refine cd_region ?_
       refine st_val (ro_loadA (cs := [_, _, _]) EntRefs3_g25 EntRefs3_z25 rfl (by first | (first | exact (hk3.from_ (From.rfl_.next E11)).whole | exact (hk3.from_ (From.rfl_.next E11)).rd 0 rfl | exact (hk3.from_ (From.rfl_.next E11)).rd 1 rfl | exact (hk3.from_ (From.rfl_.next E11)).rd 2 rfl))) ?_
       refine st_call EntRefs3_k42 (Rt.of (lastOf_any B T _ xs _ (h.from_ ((From.rfl_.next E3).next E11)))) ?_
       rintro v15 w4 ⟨rfl, E15⟩
       refine st_val (ro_move (v := .tuple _) rfl) ?_
       refine st_val (ro_extract rfl rfl) ?_
       refine st_val (ro_extract rfl rfl) ?_
       refine st_val (ro_assign (v := .int _ _) rfl) ?_
       refine st_val (ro_assign (v := .int _ _) rfl) ?_
       refine st_nil ?_
       refine nx_then ?_
       refine cd_seq ?_
       refine cd_region ?_
       refine st_val (ro_move (v := .int _ _) rfl) ?_
       refine st_val (ro_move (v := .int _ _) rfl) ?_
       refine st_val (ro_gtr rfl rfl) ?_
       refine st_val (ro_move (v := .bool _) rfl) ?_
       refine st_split (t := 21) rfl (fun Q5 => ?_) (fun Q5 => ?_)
       · (try first | replace Q5 := bn_t Q5 | replace Q5 := bn_f Q5)
         (try first | replace Q5 := bx_t Q5 | replace Q5 := bx_f Q5 | replace Q5 := be_t Q5 | replace Q5 := be_f Q5 | replace Q5 := of_decide_eq_true Q5 | replace Q5 := of_decide_eq_false Q5)
         first
          | (exfalso; first | contradiction | contradiction | (cases Q5; done))
          | skip
            refine st_gno rfl rfl ?_
            refine st_gno rfl rfl ?_
            refine st_gno rfl rfl ?_
            refine st_gno rfl rfl ?_
            refine st_gund rfl ?_
            refine st_gund rfl ?_
            refine st_gund rfl ?_
            refine st_gno rfl rfl ?_
            refine st_val (ro_pickT (v := .bool _) rfl rfl) ?_
            refine st_val (ro_assign (v := .bool _) rfl) ?_
            refine st_val (ro_assign (v := .int _ _) rfl) ?_
            refine st_nil ?_
            refine nx_then ?_
            refine cd_ret ?_
            refine res2 (v := .bool _) (v' := .int _ _) rfl rfl rfl ?_
            refine ⟨congrArg (fun b => Value.tuple #[.bool b, .int .i64 0]) ?_, (((From.rfl_.next E3).next E11).next E15)⟩
            unfold newB
            first
              | exact (decide_eq_true (by omega)).symm
              | exact (decide_eq_false (by omega)).symm
              | exact decide_eq_decide.2 (by omega)
       · (try first | replace Q5 := bn_t Q5 | replace Q5 := bn_f Q5)
         (try first | replace Q5 := bx_t Q5 | replace Q5 := bx_f Q5 | replace Q5 := be_t Q5 | replace Q5 := be_f Q5 | replace Q5 := of_decide_eq_true Q5 | replace Q5 := of_decide_eq_false Q5)
         first
          | (exfalso; first | contradiction | contradiction | (cases Q5; done))
          | skip
            refine st_unguard rfl ?_
            refine st_val (ro_move (v := .int _ _) rfl) ?_
            refine st_unguard rfl ?_
            refine st_val (ro_move (v := .int _ _) rfl) ?_
            refine st_unguard rfl ?_
            refine st_val (ro_eql rfl rfl) ?_
            refine st_unguard rfl ?_
            refine st_val (ro_move (v := .bool _) rfl) ?_
            refine st_split (t := 25) rfl (fun Q6 => ?_) (fun Q6 => ?_)
            · (try first | replace Q6 := bn_t Q6 | replace Q6 := bn_f Q6)
              (try first | replace Q6 := bx_t Q6 | replace Q6 := bx_f Q6 | replace Q6 := be_t Q6 | replace Q6 := be_f Q6 | replace Q6 := of_decide_eq_true Q6 | replace Q6 := of_decide_eq_false Q6)
              first
               | (exfalso; first | contradiction | contradiction | (cases Q6; done))
               | skip
                 refine st_unguard rfl ?_
                 refine st_val (ro_move (v := .int _ _) rfl) ?_
                 refine st_unguard rfl ?_
                 refine st_val (ro_move (v := .int _ _) rfl) ?_
                 refine st_unguard rfl ?_
                 refine st_val (ro_geq rfl rfl) ?_
                 refine st_unguard rfl ?_
                 refine st_val (ro_pickT (v := .bool _) rfl rfl) ?_
                 refine st_val (ro_pickF (v := .bool _) rfl rfl) ?_
                 refine st_val (ro_assign (v := .bool _) rfl) ?_
                 refine st_val (ro_assign (v := .int _ _) rfl) ?_
                 refine st_nil ?_
                 refine nx_then ?_
                 refine cd_ret ?_
                 refine res2 (v := .bool _) (v' := .int _ _) rfl rfl rfl ?_
                 refine ⟨congrArg (fun b => Value.tuple #[.bool b, .int .i64 0]) ?_, (((From.rfl_.next E3).next E11).next E15)⟩
                 unfold newB
                 first
                   | exact (decide_eq_true (by omega)).symm
                   | exact (decide_eq_false (by omega)).symm
                   | exact decide_eq_decide.2 (by omega)
            · (try first | replace Q6 := bn_t Q6 | replace Q6 := bn_f Q6)
              (try first | replace Q6 := bx_t Q6 | replace Q6 := bx_f Q6 | replace Q6 := be_t Q6 | replace Q6 := be_f Q6 | replace Q6 := of_decide_eq_true Q6 | replace Q6 := of_decide_eq_false Q6)
              first
               | (exfalso; first | contradiction | contradiction | (cases Q6; done))
               | skip
                 refine st_gno rfl rfl ?_
                 refine st_gno rfl rfl ?_
                 refine st_gno rfl rfl ?_
                 refine st_unguard rfl ?_
                 refine st_val (ro_pickF (v := .bool _) rfl rfl) ?_
                 refine st_val (ro_pickF (v := .bool _) rfl rfl) ?_
                 refine st_val (ro_assign (v := .bool _) rfl) ?_
                 refine st_val (ro_assign (v := .int _ _) rfl) ?_
                 refine st_nil ?_
                 refine nx_then ?_
                 refine cd_ret ?_
                 refine res2 (v := .bool _) (v' := .int _ _) rfl rfl rfl ?_
                 refine ⟨congrArg (fun b => Value.tuple #[.bool b, .int .i64 0]) ?_, (((From.rfl_.next E3).next E11).next E15)⟩
                 unfold newB
                 first
                   | exact (decide_eq_true (by omega)).symm
                   | exact (decide_eq_false (by omega)).symm
                   | exact decide_eq_decide.2 (by omega)
set_option maxRecDepth 100000 in
set_option maxHeartbeats 400000 in
theorem refSlice_rt (B T i n : Int) (A : Option Addr) (c : Nat) (xs : List Ent) (w : World) (h : Ents w (.slice A xs.length c) xs) (hm : mayLog B T xs = true) (hi : B + 1 ≤ i ∧ i ≤ B + xs.length + 1) (hn : 0 ≤ n ∧ n ≤ 9223372036854775807) :
    Rt Try.prog 19 [.agg #[.int .i64 B, .int .i64 T, .slice A xs.length c], .int .i64 i, .int .i64 n] w (fun v w' => ∃ A' k' c', v = .slice A' k' c' ∧ w'.ownsRow w.heap.size 63 3 (.slice A' k' c') k' (entV ((xs.drop (i - B - 1).toNat).take n.toNat)) ∧ From w w') := by
  obtain ⟨hl, hB0, hB1, hx⟩ := may_last hm
  have hcap := h.lenR
  refine enter (n := 28) Try.func19 rfl rfl rfl ?_
  refine cd_seq ?_
  refine cd_region ?_
  refine st_box (v := .agg _) rfl ?_
  intro b3 w1 E3 hb3 hk3
  refine st_val (ro_assign (v := .slice _ _ _) rfl) ?_
  refine st_nil ?_
  refine nx_then ?_
  refine cd_seq ?_
  refine cd_region ?_
  refine st_val (ro_move (v := .int _ _) rfl) ?_
  refine st_val (ro_fieldAddr EntRefs3_f25_0 rfl) ?_
  refine st_val (ro_load EntRefs3_g3 rfl (by first | (first | exact (hk3.from_ From.rfl_).whole | exact (hk3.from_ From.rfl_).rd 0 rfl | exact (hk3.from_ From.rfl_).rd 1 rfl | exact (hk3.from_ From.rfl_).rd 2 rfl))) ?_
  refine st_val (ro_sub64 rfl rfl (by omega)) ?_
  refine st_val (ro_sub64 rfl rfl (by omega)) ?_
  refine st_val (ro_assign (v := .int _ _) rfl) ?_
  refine st_nil ?_
  refine nx_then ?_
  refine cd_seq ?_
  refine cd_region ?_
  refine st_val (ro_move (v := .int _ _) rfl) ?_
  refine st_val (ro_fieldAddr EntRefs3_f25_2 rfl) ?_
  refine st_val (ro_load EntRefs3_g23 rfl (by first | (first | exact (hk3.from_ From.rfl_).whole | exact (hk3.from_ From.rfl_).rd 0 rfl | exact (hk3.from_ From.rfl_).rd 1 rfl | exact (hk3.from_ From.rfl_).rd 2 rfl))) ?_
  refine st_val (ro_len EntRefs3_l23 rfl) ?_
  refine st_val (ro_move (v := .int _ _) rfl) ?_
  refine st_val (ro_sub64 rfl rfl (by omega)) ?_
  refine st_val (ro_min rfl rfl) ?_
  refine st_val (ro_assign (v := .int _ _) rfl) ?_
  refine st_nil ?_
  refine nx_then ?_
  refine cd_seq ?_
  refine cd_region ?_
  refine st_val (ro_fieldAddr EntRefs3_f25_2 rfl) ?_
  refine st_val (ro_load EntRefs3_g23 rfl (by first | (first | exact (hk3.from_ From.rfl_).whole | exact (hk3.from_ From.rfl_).rd 0 rfl | exact (hk3.from_ From.rfl_).rd 1 rfl | exact (hk3.from_ From.rfl_).rd 2 rfl))) ?_
  refine st_val (ro_move (v := .int _ _) rfl) ?_
  refine st_val (ro_move (v := .int _ _) rfl) ?_
  refine st_val (ro_move (v := .int _ _) rfl) ?_
  refine st_val (ro_add64 rfl rfl (by omega)) ?_
  have hsl : Ents w (.slice (restOf A c (i - B - 1).toNat 3) ((i - B - 1 + min n (xs.length - (i - B - 1))).toNat - (i - B - 1).toNat) (c - (i - B - 1).toNat)) ((xs.drop (i - B - 1).toNat).take ((i - B - 1 + min n (xs.length - (i - B - 1))).toNat - (i - B - 1).toNat)) :=
    (h.restA (k := (i - B - 1).toNat) (by omega)).cut (by rw [List.length_drop]; omega)
  refine st_val (ro_sliceO (l := (i - B - 1).toNat) (h := (i - B - 1 + min n (xs.length - (i - B - 1))).toNat) EntRefs3_e23 rfl (.inr ⟨_, _, _, rfl, rfl, (by omega)⟩) (.inr ⟨_, _, _, rfl, rfl, (by omega)⟩) (by omega) (by omega)) ?_
  have hsz27 := ((From.rfl_.next E3)).size
  refine st_call EntRefs3_k14 (copyEnts_rt _ _ _ _ _ (hsl.from_ (From.rfl_.next E3)) (by rw [List.length_take, List.length_drop]; omega)) ?_
  rintro v27 w2 ⟨A27, c27, rfl, ho27, he27, E27⟩
  refine st_val (ro_assign (v := .slice _ _ _) rfl) ?_
  refine st_nil ?_
  refine nx_then ?_
  refine cd_ret ?_
  refine res1 (v := .slice _ _ _) rfl rfl ?_
  refine ⟨A27, _, c27, rfl, ?_, ((From.rfl_.next E3).next E27)⟩
  have e : (xs.drop (i - B - 1).toNat).take ((i - B - 1 + min n (xs.length - (i - B - 1))).toNat - (i - B - 1).toNat) = (xs.drop (i - B - 1).toNat).take n.toNat := by
    rw [List.take_eq_take_iff, List.length_drop]; omega
  rw [← e]
  exact ownsRow_le ho27 hsz27
set_option maxRecDepth 100000 in
set_option maxHeartbeats 400000 in
theorem refCut_rt (B T i : Int) (A : Option Addr) (c : Nat) (xs : List Ent) (w : World) (h : Ents w (.slice A xs.length c) xs) (hl : xs.length ≤ 512) (hB : 0 ≤ B ∧ B ≤ 1099511625728) (hi : B ≤ i ∧ i ≤ B + xs.length) :
    Rt Try.prog 18 [.agg #[.int .i64 B, .int .i64 T, .slice A xs.length c], .int .i64 i] w (fun v w' => ∃ A' k' c', v = .agg #[.int .i64 B, .int .i64 T, .slice A' k' c'] ∧ w'.ownsRow w.heap.size 63 3 (.slice A' k' c') k' (entV (xs.take (i - B).toNat)) ∧ From w w') := by
  refine enter (n := 17) Try.func18 rfl rfl rfl ?_
  refine cd_seq ?_
  refine cd_region ?_
  refine st_box (v := .agg _) rfl ?_
  intro b2 w1 E2 hb2 hk2
  have hl2 := hk2.lt
  refine st_alloc EntRefs3_o25 ?_
  intro b4 w2 E4 hb4 hk4
  have hl4a := hk4.lt
  replace hk2 := hk2.from_ E4
  have hg4 : w.heap.size ≤ b4 := by rw [hb4]; exact E2.size
  refine st_nil ?_
  refine nx_then ?_
  refine cd_seq ?_
  refine cd_region ?_
  refine st_val (ro_loadA (cs := [_, _, _]) EntRefs3_g25 EntRefs3_z25 rfl (by first | (first | exact (hk2.from_ From.rfl_).whole | exact (hk2.from_ From.rfl_).rd 0 rfl | exact (hk2.from_ From.rfl_).rd 1 rfl | exact (hk2.from_ From.rfl_).rd 2 rfl))) ?_
  refine st_call EntRefs3_k13 (copyLog_rt B T A _ c xs _ (h.from_ ((From.rfl_.next E2).next E4)) (by omega)) ?_
  rintro v7 w3 ⟨A7, c7, rfl, ho7, he7, E7⟩
  have hk2c := hk2.from_ (From.rfl_.next E7)
  have hk4c := hk4.from_ (From.rfl_.next E7)
  have hl4 := hk4c.lt
  have hl2b := hk2c.lt
  refine st_alloc EntRefs3_o25 ?_
  intro b5 w4 E5 hb5 hk5
  have hg5 : w.heap.size ≤ b5 := by rw [hb5]; exact ((((From.rfl_.next E2).next E4).next E7)).size
  refine st_putW (vs := [_, _, _]) EntRefs3_z25 rfl rfl (by simp [Value.oneCell']) (hk5) rfl ?_
  intro w5 O1 P1
  replace hk2 := (hk2c.from_ E5).only O1 (by omega)
  replace hk4 := (hk4c.from_ E5).only O1 (by omega)
  refine st_nil ?_
  refine nx_then ?_
  refine cd_seq ?_
  refine cd_region ?_
  refine st_val (ro_fieldAddr EntRefs3_f25_2 rfl) ?_
  refine st_val (ro_load EntRefs3_g23 rfl (by first | exact (P1.from_ From.rfl_).whole | exact (P1.from_ From.rfl_).rd 2 rfl)) ?_
  refine st_val (ro_move (v := .int _ _) rfl) ?_
  refine st_val (ro_fieldAddr EntRefs3_f25_0 rfl) ?_
  refine st_val (ro_load EntRefs3_g3 rfl (by exact hk2.rd 0 rfl)) ?_
  refine st_val (ro_sub64 rfl rfl (by omega)) ?_
  refine st_val (ro_sliceO (l := 0) (h := (i - B).toNat) EntRefs3_e23 rfl (.inl ⟨rfl, rfl⟩) (.inr ⟨_, _, _, rfl, rfl, (by omega)⟩) (by omega) (by have := he7.lenR; omega)) ?_
  refine st_val (ro_fieldAddr EntRefs3_f25_2 rfl) ?_
  refine st_put (v := .slice _ _ _) EntRefs3_z23 rfl rfl rfl (P1) (by simp) ?_
  intro w6 O2 P2
  replace hk4 := hk4.only O2 (by omega)
  refine st_nil ?_
  refine nx_then ?_
  refine cd_seq ?_
  refine cd_region ?_
  refine st_val (ro_loadA (cs := [_, _, _]) EntRefs3_g25 EntRefs3_z25 rfl (by exact P2.whole)) ?_
  refine st_putW (vs := [_, _, _]) EntRefs3_z25 rfl rfl (by simp [Value.oneCell']) (hk4) rfl ?_
  intro w7 O3 P3
  refine st_nil ?_
  refine nx_then ?_
  refine cd_ret ?_
  refine resr1 rfl (rv_cellA (cs := [_, _, _]) EntRefs3_g25 EntRefs3_z25 rfl (by exact P3.whole)) ?_
  exact ⟨_, _, _, rfl, ownsRow_le (own_cut (own_only (ho7.kept_from (((E5).only O1 (by omega)).only O2 (by omega))) O3 (by omega)) rfl (by omega)) (by omega), (((((((From.rfl_.next E2).next E4).next E7).next E5).only O1 (hg5)).only O2 (hg5)).only O3 (hg4))⟩
set_option maxRecDepth 100000 in
set_option maxHeartbeats 400000 in
theorem refCompact_rt (B T i : Int) (A : Option Addr) (c : Nat) (xs : List Ent) (w : World) (h : Ents w (.slice A xs.length c) xs) (hm : mayLog B T xs = true) (hi : B ≤ i ∧ i ≤ B + xs.length) :
    Rt Try.prog 20 [.agg #[.int .i64 B, .int .i64 T, .slice A xs.length c], .int .i64 i] w (fun v w' => ∃ A' k' c', v = .agg #[.int .i64 i, .int .i64 (termI B T xs i), .slice A' k' c'] ∧ w'.ownsRow w.heap.size 63 3 (.slice A' k' c') k' (entV (xs.drop (i - B).toNat)) ∧ From w w') := by
  obtain ⟨hl, hB0, hB1, hx⟩ := may_last hm
  have hcap := h.lenR
  refine enter (n := 24) Try.func20 rfl rfl rfl ?_
  refine cd_seq ?_
  refine cd_region ?_
  refine st_box (v := .agg _) rfl ?_
  intro b2 w1 E2 hb2 hk2
  have hl2 := hk2.lt
  refine st_alloc EntRefs3_o25 ?_
  intro b4 w2 E4 hb4 hk4
  replace hk2 := hk2.from_ E4
  have hg4 : w.heap.size ≤ b4 := by rw [hb4]; exact E2.size
  refine st_nil ?_
  refine nx_then ?_
  refine cd_seq ?_
  refine cd_region ?_
  refine st_val (ro_loadA (cs := [_, _, _]) EntRefs3_g25 EntRefs3_z25 rfl (by first | (first | exact (hk2.from_ From.rfl_).whole | exact (hk2.from_ From.rfl_).rd 0 rfl | exact (hk2.from_ From.rfl_).rd 1 rfl | exact (hk2.from_ From.rfl_).rd 2 rfl))) ?_
  refine st_val (ro_move (v := .int _ _) rfl) ?_
  refine st_call EntRefs3_k21 (refTerm_rt B T i A _ c xs _ (h.from_ ((From.rfl_.next E2).next E4)) hm hi) ?_
  rintro v10 w3 ⟨rfl, E10⟩
  refine st_val (ro_move (v := .tuple _) rfl) ?_
  refine st_val (ro_extract rfl rfl) ?_
  refine st_val (ro_extract rfl rfl) ?_
  refine st_val (ro_assign (v := .int _ _) rfl) ?_
  refine st_val (ro_assign (v := .bool _) rfl) ?_
  refine st_nil ?_
  refine nx_then ?_
  refine cd_seq ?_
  refine cd_region ?_
  refine st_val (ro_move (v := .int _ _) rfl) ?_
  refine st_val (ro_move (v := .int _ _) rfl) ?_
  refine st_val (ro_fieldAddr EntRefs3_f25_2 rfl) ?_
  refine st_val (ro_load EntRefs3_g23 rfl (by first | (first | exact (hk2.from_ (From.rfl_.next E10)).whole | exact (hk2.from_ (From.rfl_.next E10)).rd 0 rfl | exact (hk2.from_ (From.rfl_.next E10)).rd 1 rfl | exact (hk2.from_ (From.rfl_.next E10)).rd 2 rfl))) ?_
  refine st_val (ro_move (v := .int _ _) rfl) ?_
  refine st_val (ro_fieldAddr EntRefs3_f25_0 rfl) ?_
  refine st_val (ro_load EntRefs3_g3 rfl (by first | (first | exact (hk2.from_ (From.rfl_.next E10)).whole | exact (hk2.from_ (From.rfl_.next E10)).rd 0 rfl | exact (hk2.from_ (From.rfl_.next E10)).rd 1 rfl | exact (hk2.from_ (From.rfl_.next E10)).rd 2 rfl))) ?_
  refine st_val (ro_sub64 rfl rfl (by omega)) ?_
  refine st_val (ro_sliceO (l := (i - B).toNat) EntRefs3_e23 rfl (.inr ⟨_, _, _, rfl, rfl, (by omega)⟩) (.inl ⟨rfl, rfl⟩) (by omega) (by omega)) ?_
  have hl4 := (hk4.from_ (From.rfl_.next E10)).lt
  refine st_call EntRefs3_k14 (copyEnts_rt _ _ _ _ _ ((h.from_ (((From.rfl_.next E2).next E4).next E10)).restA (k := (i - B).toNat) (by omega)) (by rw [List.length_drop]; omega)) ?_
  rintro v22 w4 ⟨A22, c22, rfl, ho22, he22, E22⟩
  refine st_val (ro_build (l := [(0, .tmp 13), (1, .tmp 14), (2, .tmp 22)]) (EntRefs3_b25_0_1_2 _ _ _ _ _)) ?_
  refine st_putW (vs := [_, _, _]) EntRefs3_z25 rfl rfl (by simp [Value.oneCell']) (hk4.from_ ((From.rfl_.next E10).next E22)) rfl ?_
  intro w5 O2 P2
  refine st_nil ?_
  refine nx_then ?_
  refine cd_ret ?_
  refine resr1 rfl (rv_cellA (cs := [_, _, _]) EntRefs3_g25 EntRefs3_z25 rfl (by exact P2.whole)) ?_
  exact ⟨_, _, _, rfl, ownsRow_le (own_only ho22 O2 hl4) (by omega), (((((From.rfl_.next E2).next E4).next E10).next E22).only O2 (hg4))⟩
end Go.Proofs.Ytnnknoohhoifbaa
