/- suffix: helpers of the laws. -/
import Derived.Test.YtpafbgdbjambgaaSufWake
namespace Go.Proofs.Ytpafbgdbjambgaa
open Go.RowKit
open Go.ChangeShapes Go.WideShapes Go.ChangeAt
open Go.Proofs.Ytpafbgdbjambgaa.SA
theorem SufHelp_q24 : litQ Try.prog 24 = some (3, 1, 8, (.int .i64 0)) := by kernel_rfl
theorem SufHelp_l24 : (elemQ Try.prog 24).isSome = true := by kernel_rfl
theorem SufHelp_e24 : elemQ Try.prog 24 = some (3, 1) := by kernel_rfl
theorem SufHelp_z3 : sizeQ Try.prog 3 = some 1 := by kernel_rfl
abbrev askT : Ty := .pr (.sl (.int .i64)) (.pr (.sl (.int .i64)) .unit)
structure AskAt (w : World) (b a : Nat) (A : Option Addr) (ca : Nat) (L : List Int) (B : Option Addr) (cb : Nat) (M : List Int) : Prop where
  cells : w.rangeAt b a [.slice A L.length ca, .slice B M.length cb]
  rowL : RowOf iV w A L
  rowM : RowOf iV w B M
  lenL : L.length * 8 ≤ 140737488351232
  lenM : M.length * 8 ≤ 140737488351232
theorem range2 {w : World} {b a : Nat} {v0 v1 : Value} (h0 : w.cell? ⟨b, a, none⟩ = some v0) (h1 : w.cell? ⟨b, a + 1, none⟩ = some v1) : w.rangeAt b a [v0, v1] := fun j v hv => by
  match j, hv with
  | 0, hv => simp at hv; subst hv; exact h0
  | 1, hv => simp at hv; subst hv; exact h1
  | j + 2, hv => simp at hv
theorem ask_at {w : World} {b a : Nat} {x : askT.den} (h : askT.At w (fun j => w.cell? ⟨b, a + j, none⟩) x) : ∃ A ca L B cb M, AskAt w b a A ca L B cb M := by
  obtain ⟨h1, h2, _⟩ := h
  obtain ⟨A, ca, c1, r1, _, l1, _⟩ := at_nums h1
  obtain ⟨B, cb, c2, r2, _, l2, _⟩ := at_nums h2
  exact ⟨A, ca, _, B, cb, _, range2 c1 c2, r1, r2, l1, l2⟩
theorem may_is (b : Bool) (k0 : Int) (A : Option Addr) (c n : Nat) (xs : List Int) (w : World) (hb : xs.all (okS k0) = b) (hr : RowOf iV w A xs) (hn : n = xs.length) (hl : n ≤ 1000000000000) : Rt Try.prog 10 [.int .i64 k0, .slice A n c] w fun v w' => v = .bool b ∧ From w w' := by
  subst hb
  exact may_rt k0 A c n xs w hr hn hl
theorem eq_same (A B : Option Addr) (ca cb n m : Nat) (a : List Int) (w : World) (ha : RowOf iV w A a) (hb : RowOf iV w B a) (hn : n = a.length) (hm : m = a.length) (hl : n ≤ 1000000) : Rt Try.prog 13 [.slice A n ca, .slice B m cb] w fun v w' => v = .bool true ∧ From w w' :=
  (eq_n A B ca cb n m a a w ha hb hn hm hl).mono fun v w' h => ⟨by rw [h.1, decide_eq_true rfl], h.2⟩
set_option maxRecDepth 100000 in
set_option maxHeartbeats 400000 in
theorem spoilNums_any (base : Nat) (A : Option Addr) (c : Nat) (l : List Int) (w : World) (ho : w.ownsRow base 3 1 (.slice A l.length c) l.length (l.map iV)) (hn : l.length * 8 ≤ 140737488351232) (hbs : base ≤ w.heap.size) :
    Rt Try.prog 14 [.slice A l.length c] w (fun _ w' => w.grownBy w' (A.map (·.block))) := by
  refine enter (n := 15) Try.func14 rfl rfl rfl ?_
  refine cd_seq ?_
  refine cd_seq ?_
  refine cd_region ?_
  refine st_val (ro_assign (v := .int _ _) rfl) ?_
  refine st_nil ?_
  refine nx_then ?_
  refine cd_block ?_
  refine cd_loop (G := List Int × Nat) [3, 4, 5, 6, 7, 8, 9, 10, 11] (fun (_, k) => [(2, .int .i64 (k : Nat))]) (fun (l1, k) w' => k ≤ l.length ∧ l1.length = l.length ∧ w'.ownsRow base 3 1 (.slice A l.length c) l.length (l1.map iV) ∧ w.grownBy w' (A.map (·.block))) (fun (_, k) => l.length - k) ((l, 0)) ⟨rfl, trivial⟩ ?_ ?_
  · exact ⟨Nat.zero_le _, rfl, ho, (From.rfl_ (a := w)).grown _⟩
  rintro ⟨l1, k⟩ ρ1 w1 ⟨hk, hlen, ho1, hG⟩
  refine cd_seq ?_
  refine cd_seq ?_
  refine cd_region ?_
  refine st_val (ro_move (v := .int _ _) rfl) ?_
  refine st_val (ro_move (v := .slice _ _ _) rfl) ?_
  refine st_val (ro_len SufHelp_l24 rfl) ?_
  refine st_val (ro_lss rfl rfl) ?_
  refine st_nil ?_
  refine nx_then ?_
  refine cd_cond rfl (fun Q2 => ?_) (fun Q2 => ?_)
  · (try first | replace Q2 := bn_t Q2 | replace Q2 := bn_f Q2)
    (try first | replace Q2 := bx_t Q2 | replace Q2 := bx_f Q2 | replace Q2 := be_t Q2 | replace Q2 := be_f Q2 | replace Q2 := of_decide_eq_true Q2 | replace Q2 := of_decide_eq_false Q2)
    obtain ⟨g, rfl⟩ := own_some ho (by omega)
    first
     | (exfalso; first | omega | contradiction | (cases Q2; done))
     | skip
       refine cd_skip ?_
       refine nx_then ?_
       refine cd_seq ?_
       refine cd_block ?_
       refine cd_region ?_
       refine st_val (ro_move (v := .slice _ _ _) rfl) ?_
       refine st_val (ro_move (v := .int _ _) rfl) ?_
       refine st_val (ro_indexAddr0 SufHelp_e24 rfl rfl (by omega)) ?_
       refine st_putOwn (v := .int _ _) SufHelp_z3 rfl rfl rfl (ho1) (by omega) ?_
       intro w3 O3 P3
       refine st_nil ?_
       refine nx_block ?_
       refine nx_then ?_
       refine cd_region ?_
       refine st_val (ro_move (v := .int _ _) rfl) ?_
       refine st_val (ro_addN (b := 1) rfl rfl (by omega)) ?_
       refine st_val (ro_assign (v := .int _ _) rfl) ?_
       refine st_nil ?_
       refine nx_cut ((l1.set k (-99), k + 1)) ⟨(by first | rfl | (refine int_eq ?_; omega)), trivial⟩ (by (iterate 20 refine agr_cons rfl ?_); exact agr_rfl) ⟨?_, ?_⟩
       · exact ⟨by omega, (List.length_set ..).trans hlen, by rw [List.map_set]; exact P3, grown_trans hG O3.grown⟩
       · show _ - _ < _ - _; omega
  · (try first | replace Q2 := bn_t Q2 | replace Q2 := bn_f Q2)
    (try first | replace Q2 := bx_t Q2 | replace Q2 := bx_f Q2 | replace Q2 := be_t Q2 | replace Q2 := be_f Q2 | replace Q2 := of_decide_eq_true Q2 | replace Q2 := of_decide_eq_false Q2)
    first
     | (exfalso; first | omega | contradiction | (cases Q2; done))
     | skip
       refine cd_exit ?_
       refine ex_then ?_
       refine ex_then ?_
       refine ex_block ?_
       refine nx_then ?_
       refine cd_region ?_
       refine st_val (ro_move (v := .slice _ _ _) rfl) ?_
       refine st_lit1 (v := .int _ _) SufHelp_q24 rfl rfl rfl ?_
       intro b13 w4 E13 hb13 hk13
       refine st_appendB (base := base) SufHelp_q24 rfl (by decide) rfl (A := A) (xs := l1.map iV) (news := [.int .i64 5]) (ho1.kept_from E13) (by have := hG.size; have := E13.size; omega) rfl rfl (fun _ => ⟨b13, 0, rfl, hk13.range 0 _ (fun j v h => by simpa using h)⟩) (fun h => by cases h) (by simp [Value.oneCell']) (by omega) (by omega) ?_
       intro A14 c14 w5 ho14 hg14
       refine st_val (ro_assign (v := .slice _ _ _) rfl) ?_
       refine st_nil ?_
       refine end_ret ?_
       refine res0 rfl ?_
       exact grown_trans hG (grown_trans (E13.grown _) hg14)
theorem spoil_n (base : Nat) (A : Option Addr) (c n : Nat) (F : List Nat) (w : World) (ho : w.ownsRow base 3 1 (.slice A n c) n (F.map fun x : Nat => iV (x : Nat))) (hl : n ≤ 1000000) (hbs : base ≤ w.heap.size) : Rt Try.prog 14 [.slice A n c] w fun _ w' => w.grownBy w' (A.map (·.block)) := by
  have hn := (sortA_own ho).1
  have e : (F.map fun x : Nat => iV (x : Nat)) = (cI F).map iV := by simp [cI]
  have e2 : n = (cI F).length := by simpa using hn
  rw [e, e2] at ho
  rw [e2] at hl ⊢
  exact spoilNums_any base A c (cI F) w ho (by omega) hbs
end Go.Proofs.Ytpafbgdbjambgaa
