/- FUNCTION VALUES: making one, calling through one. -/
import Derived.Test.YtpafbgdbjambgaaFast8
namespace Go.Proofs.Ytpafbgdbjambgaa
open Go.RowKit
section
variable {P : Program} {ops : Array Oper} {Q : Exit → Act → World → Prop} {rest : List Oper} {n : Fr} {L : List (Nat × Value)} {w : World} {ty : TypeId} {pos : String} {after : Array Edge} {d : Nat} {x : Operand}
theorem ro_makeFunc {ρ : Operand → Value} {f : FuncId} {l1 l2 : List Operand} : RO P ρ (.makeFunc (.func f) l1.toArray l2.toArray) w (.func (.func f) (l1.map ρ).toArray (l2.map ρ).toArray) w := fun _ _ _ _ _ => by
  simp [execOp, Instr.makeFunc]
theorem ro_mulU {ρ : Operand → Value} {t yt : TypeId} {y : Operand} {a b : Nat} (hx : ρ x = .int .u64 (a : Nat)) (hy : ρ y = .int .u64 (b : Nat)) : RO P ρ (.binOp .mul t x y yt) w (.int .u64 ((a * b % 2 ^ 64 : Nat) : Int)) w := by
  have := ro_mul (P := P) (ρ := ρ) (w := w) (t := t) (yt := yt) hx hy
  rwa [show IntKind.u64.wrap ((a : Nat) * (b : Nat) : Int) = ((a * b % 2 ^ 64 : Nat) : Int) by rw [IntKind.wrap_u64, ← Int.natCast_mul]; generalize a * b = c; omega] at this
theorem exec_callF {ρ : Operand → Value} {f : FuncId} {l : List Operand} {caps : List Value} {ats : Array TypeId} {g : Option (Nat × Bool)} {dst : Option Tmp} (hx : ρ x = .func (.func f) #[] caps.toArray) :
    execOp ρ ⟨dst, .call { callee := .value x, args := l.toArray, argTypes := ats }, ty, pos, after, g⟩ = callFunc f (l.map ρ ++ caps).toArray := by
  have : execOp ρ ⟨dst, .call { callee := .value x, args := l.toArray, argTypes := ats }, ty, pos, after, g⟩ = (do let d ← Deferred.ofValue (ρ x) (l.toArray.map ρ); invoke d.target d.args) := rfl
  rw [this, hx]
  show callFunc f (#[] ++ l.toArray.map ρ ++ caps.toArray) = _
  simp
theorem st_callF {f : FuncId} {l : List Operand} {caps : List Value} {ats : Array TypeId} {R : Value → World → Prop} (hx : ev n L x = .func (.func f) #[] caps.toArray) (hf : callable P f = true) (hc : Rt P f (l.map (ev n L) ++ caps) w R) (k : ∀ v w', R v w' → St P ops Q rest n ((d, v) :: L) w') :
    St P ops Q (⟨some d, .call { callee := .value x, args := l.toArray, argTypes := ats }, ty, pos, after, none⟩ :: rest) n L w := by
  refine ⟨wpList_plain rfl fun K hK => ?_⟩
  unfold Oper.wp
  rw [eval_mkA, exec_callF hx, run_call hf, Oper.upon_enter]
  refine Calls.mono hc fun e w' ⟨v, he, hR⟩ => ?_
  subst he
  show K ((mkA n L).put (some d) v) w'
  rw [put_mkA]
  exact hK _ _ (k v w' hR).out
theorem ok_callF {f : FuncId} {l : List Operand} {caps : List Value} {ats : Array TypeId} {R : Value → World → Prop} {dst : Option Nat} (hx : ev n L x = .func (.func f) #[] caps.toArray) (hf : callable P f = true) (hc : Rt P f (l.map (ev n L) ++ caps) w fun v w' => From w w' ∧ R v w') :
    OpOK P ops n L ⟨dst, .call { callee := .value x, args := l.toArray, argTypes := ats }, ty, pos, after, none⟩ w R :=
  .inl ⟨rfl, .inr ⟨f, l.map (ev n L) ++ caps, by rw [exec_callF hx, run_call hf], hc⟩⟩
end
end Go.Proofs.Ytpafbgdbjambgaa
