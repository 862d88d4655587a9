/- Walks of package entries: what spoils a row of entries. -/
import Derived.Test.YtnnknoohhoifbaaEntRefs3
namespace Go.Proofs.Ytnnknoohhoifbaa
open Go.RowKit

theorem EntSpoil_e23 : elemQ Try.prog 23 = some (63, 3) := by kernel_rfl
theorem EntSpoil_q23 : litQ Try.prog 23 = some (63, 3, 32, (.agg #[.int .i64 0, .int .i64 0, .string ⟨#[]⟩])) := by kernel_rfl
theorem EntSpoil_z63 : sizeQ Try.prog 63 = some 3 := by kernel_rfl
theorem EntSpoil_l23 : (elemQ Try.prog 23).isSome = true := by kernel_rfl
theorem EntSpoil_b63_0cinti649 : Try.prog.built 63 [(0, .int .i64 (-9))] = some #[.int .i64 (-9), .int .i64 0, .string ⟨#[]⟩] := by kernel_rfl
theorem EntSpoil_b63_ : Try.prog.built 63 [] = some #[.int .i64 0, .int .i64 0, .string ⟨#[]⟩] := by kernel_rfl
section
variable {P : Program} {ops : Array Oper} {Q : Exit → Act → World → Prop} {rest : List Oper} {n : Nat} {L : List (Nat × Value)} {w : World} {ty : TypeId} {pos : String} {after : Array Edge} {t : TypeId} {x y : Operand}
theorem over_length {cs vs : List Value} {o : Nat} (h : o + vs.length ≤ cs.length) : (over cs o vs).length = cs.length := by
  unfold over; simp; omega
/-- a store of one element of many cells into an own row -/
theorem st_putOwnA {g i m cap e base sz : Nat} {xs vs : List Value} (ht : sizeQ P t = some vs.length) (hsz : vs.length = sz) (hx : ev n L x = .pointer (some ⟨g, i * sz, none⟩)) (hy : ev n L y = .agg vs.toArray) (h1 : ∀ v ∈ vs, v.oneCell' = true)
    (ho : w.ownsRow base e sz (.slice (some ⟨g, 0, none⟩) m cap) m xs) (hi : i < m)
    (k : ∀ w' xs', Only g w w' → w'.ownsRow base e sz (.slice (some ⟨g, 0, none⟩) m cap) m xs' → St P ops Q rest n L w') : St P ops Q (⟨none, .store t x y, ty, pos, after, none⟩ :: rest) n L w := by
  rcases ho.2 with ⟨h0, _⟩ | ⟨g', cap', cur, hv, hb, hg, hmc, hmax, hs, _⟩
  · cases h0
  · simp only [Value.slice.injEq, Option.some.injEq, Addr.mk.injEq] at hv
    obtain ⟨⟨rfl, _⟩, _, rfl⟩ := hv
    have hin : i * sz + vs.length ≤ cur.toList.length := by
      have h2 : (i + 1) * sz ≤ cap * sz := Nat.mul_le_mul_right _ (by omega)
      rw [Nat.succ_mul] at h2
      simp only [Array.length_toList, hs]
      omega
    refine st_putA (cs := cur.toList) (u := e) ht hx hy h1 hg hin fun w' o b => k w' ((over cur.toList (i * sz) vs).take (m * sz)) o ⟨?_, .inr ⟨g, cap, _, rfl, hb, b, hmc, hmax, ?_, ?_⟩⟩
    · have h3 : m * sz ≤ cap * sz := Nat.mul_le_mul_right _ hmc
      rw [List.length_take, over_length hin]
      simp only [Array.length_toList, hs]
      omega
    · simp only [List.size_toArray, over_length hin, Array.length_toList, hs]
    · simp
end
set_option maxRecDepth 100000 in
set_option maxHeartbeats 400000 in
theorem spoilEnts_any (base : Nat) (A : Option Addr) (n c : Nat) (l : List Value) (w : World) (ho : w.ownsRow base 63 3 (.slice A n c) n l) (hn : n ≤ 1000000000000) (hbs : base ≤ w.heap.size) :
    Rt Try.prog 34 [.slice A n c] w (fun _ w' => w.grownBy w' (A.map (·.block))) := by
  refine enter (n := 17) Try.func34 rfl rfl rfl ?_
  refine cd_seq ?_
  refine cd_seq ?_
  refine cd_region ?_
  refine st_val (ro_assign (v := .int _ _) rfl) ?_
  refine st_nil ?_
  refine nx_then ?_
  refine cd_block ?_
  refine cd_loop (G := List Value × Nat) [3, 4, 5, 6, 7, 8, 9, 10, 11, 12] (fun (_, k) => [(2, .int .i64 (k : Nat))]) (fun (l1, k) w' => k ≤ n ∧ w'.ownsRow base 63 3 (.slice A n c) n l1 ∧ w.grownBy w' (A.map (·.block))) (fun (_, k) => n - k) ((l, 0)) ⟨rfl, trivial⟩ ?_ ?_
  · exact ⟨Nat.zero_le _, ho, (From.rfl_ (a := w)).grown _⟩
  rintro ⟨l1, k⟩ ρ1 w1 ⟨hk, ho1, hG⟩
  refine cd_seq ?_
  refine cd_seq ?_
  refine cd_region ?_
  refine st_val (ro_move (v := .int _ _) rfl) ?_
  refine st_val (ro_move (v := .slice _ _ _) rfl) ?_
  refine st_val (ro_len EntSpoil_l23 rfl) ?_
  refine st_val (ro_lss rfl rfl) ?_
  refine st_nil ?_
  refine nx_then ?_
  refine cd_cond rfl (fun Q2 => ?_) (fun Q2 => ?_)
  · (try first | replace Q2 := bn_t Q2 | replace Q2 := bn_f Q2)
    (try first | replace Q2 := bx_t Q2 | replace Q2 := bx_f Q2 | replace Q2 := be_t Q2 | replace Q2 := be_f Q2 | replace Q2 := of_decide_eq_true Q2 | replace Q2 := of_decide_eq_false Q2)
    obtain ⟨g, rfl⟩ := own_some ho (by omega)
    first
     | (exfalso; first | omega | contradiction | (cases Q2; done))
     | skip
       refine cd_skip ?_
       refine nx_then ?_
       refine cd_seq ?_
       refine cd_block ?_
       refine cd_region ?_
       refine st_val (ro_move (v := .slice _ _ _) rfl) ?_
       refine st_val (ro_move (v := .int _ _) rfl) ?_
       refine st_val (ro_build (l := [(0, .const (.int .i64 (-9)))]) (EntSpoil_b63_0cinti649)) ?_
       refine st_val (ro_eq (v' := .pointer (some ⟨g, k * 3, none⟩)) (ro_indexAddrN EntSpoil_e23 rfl rfl (by omega)) (by rw [Nat.zero_add])) ?_
       refine st_putOwnA (vs := [.int .i64 (-9), .int .i64 0, .string ⟨#[]⟩]) EntSpoil_z63 rfl rfl rfl (by simp [Value.oneCell']) ho1 (by omega) ?_
       intro w3 l2 O3 P3
       refine st_nil ?_
       refine nx_block ?_
       refine nx_then ?_
       refine cd_region ?_
       refine st_val (ro_move (v := .int _ _) rfl) ?_
       refine st_val (ro_addN (b := 1) rfl rfl (by omega)) ?_
       refine st_val (ro_assign (v := .int _ _) rfl) ?_
       refine st_nil ?_
       refine nx_cut ((l2, k + 1)) ⟨(by first | rfl | (refine int_eq ?_; omega)), trivial⟩ (by (iterate 22 refine agr_cons rfl ?_); exact agr_rfl) ⟨?_, ?_⟩
       · exact ⟨by omega, P3, grown_trans hG O3.grown⟩
       · show _ - _ < _ - _; omega
  · (try first | replace Q2 := bn_t Q2 | replace Q2 := bn_f Q2)
    (try first | replace Q2 := bx_t Q2 | replace Q2 := bx_f Q2 | replace Q2 := be_t Q2 | replace Q2 := be_f Q2 | replace Q2 := of_decide_eq_true Q2 | replace Q2 := of_decide_eq_false Q2)
    first
     | (exfalso; first | omega | contradiction | (cases Q2; done))
     | skip
       refine cd_exit ?_
       refine ex_then ?_
       refine ex_then ?_
       refine ex_block ?_
       refine nx_then ?_
       refine cd_region ?_
       refine st_val (ro_move (v := .slice _ _ _) rfl) ?_
       refine st_val (ro_build (l := []) (EntSpoil_b63_)) ?_
       refine st_lit (cells := #[.int .i64 0, .int .i64 0, .string ⟨#[]⟩]) EntSpoil_q23 rfl rfl (by show Instr.fill _ _ [(0, Value.agg #[.int .i64 0, .int .i64 0, .string ⟨#[]⟩])] = _; kernel_rfl) ?_
       intro b15 w4 E15 hb15 hk15
       refine st_appendB (base := base) EntSpoil_q23 rfl (by decide) rfl (A := A) (xs := l1) (news := [.int .i64 0, .int .i64 0, .string ⟨#[]⟩]) (ho1.kept_from E15) (by have := hG.size; have := E15.size; omega) rfl rfl (fun _ => ⟨b15, 0, rfl, hk15.whole⟩) (fun h => by cases h) (by simp [Value.oneCell']) (by omega) (by omega) ?_
       intro A16 c16 w5 ho16 hg16
       refine st_val (ro_assign (v := .slice _ _ _) rfl) ?_
       refine st_nil ?_
       refine end_ret ?_
       refine res0 rfl ?_
       exact grown_trans hG (grown_trans (E15.grown _) hg16)
end Go.Proofs.Ytnnknoohhoifbaa
