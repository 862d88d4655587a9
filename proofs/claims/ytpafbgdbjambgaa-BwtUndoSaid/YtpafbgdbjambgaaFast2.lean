/- THE LAWS OF THE SINGLE OPERATIONS, one by one, over any program. -/
import Derived.Test.YtpafbgdbjambgaaFast
import Derived.Deep.MidRow
import Derived.Great.BuildSlice
namespace Go.Proofs.Ytpafbgdbjambgaa
open Go.RowKit

/-- this operation, in this world, over slots that read so: this value, that world -/
def RO (P : Program) (ρ : Operand → Value) (op : Op) (w : World) (v : Value) (w' : World) : Prop :=
  ∀ dst ty pos after g, (execOp ρ ⟨dst, op, ty, pos, after, g⟩).run P w = .ok (.value v) w'
/-- a store -/
def RS (P : Program) (ρ : Operand → Value) (op : Op) (w w' : World) : Prop :=
  ∀ dst ty pos after g, (execOp ρ ⟨dst, op, ty, pos, after, g⟩).run P w = .ok .skip w'

/-! ### what a table of types tells -/
def aggQ (P : Program) (t : TypeId) : Option Bool := (P.underlying t).map fun | .struct _ | .array _ _ => true | _ => false
def sizeQ (P : Program) (t : TypeId) : Option Nat := (P.info? t).map (·.size)
def elemQ (P : Program) (t : TypeId) : Option (Nat × Nat) := match P.underlying t with | some (.slice e) => (P.info? e).map fun i => (e, i.size) | _ => none
def arrQ (P : Program) (t : TypeId) : Option (Nat × Nat) := match P.underlying t with | some (.array n e) => (P.info? e).map fun i => (n, i.size) | _ => none
def fieldQ (P : Program) (t : TypeId) (f : Nat) : Option Nat := match P.underlying t with
  | some (.struct fs) => match fs[f]? with
    | some fl => match P.info? fl.type with
      | some i => if i.size = 0 then none else some fl.offset
      | none => none
    | none => none
  | _ => none
def zeroQ (P : Program) (t : TypeId) : Option Value := (P.info? t).bind (·.zero)

section
variable {P : Program} {ρ : Operand → Value} {w : World}
theorem isAgg_of {t : TypeId} {b : Bool} (h : aggQ P t = some b) : (isAgg t).run P w = .ok b w := by
  unfold aggQ at h
  cases hu : P.underlying t with
  | none => simp [hu] at h
  | some d =>
    rw [hu] at h
    simp only [Option.map_some, Option.some.injEq] at h
    subst h
    unfold isAgg
    rw [Sem.run_bind, run_underlying hu w]
    cases d <;> rfl
theorem sizeOf_of {t : TypeId} {s : Nat} (h : sizeQ P t = some s) : (sizeOf t).run P w = .ok s w := by
  unfold sizeQ at h
  cases hi : P.info? t with
  | none => simp [hi] at h
  | some i =>
    simp only [hi, Option.map_some, Option.some.injEq] at h
    simp [sizeOf, typeInfo, hi, h]
theorem zero_of {t : TypeId} {z : Value} (h : zeroQ P t = some z) : (zeroValue t).run P w = .ok z w := by
  unfold zeroQ at h
  cases hi : P.info? t with
  | none => simp [hi] at h
  | some i =>
    simp only [hi, Option.bind_some] at h
    simp [zeroValue, typeInfo, hi, h]
theorem elem_of {t e s : Nat} (h : elemQ P t = some (e, s)) : P.underlying t = some (.slice e) ∧ sizeQ P e = some s := by
  unfold elemQ at h
  split at h
  · rename_i e' hu
    cases hi : P.info? e' with
    | none => simp [hi] at h
    | some i =>
      simp only [hi, Option.map_some, Option.some.injEq, Prod.mk.injEq] at h
      obtain ⟨rfl, rfl⟩ := h
      exact ⟨hu, by simp [sizeQ, hi]⟩
  · cases h
theorem arr_of {t n s : Nat} (h : arrQ P t = some (n, s)) : ∃ e, P.underlying t = some (.array n e) ∧ sizeQ P e = some s := by
  unfold arrQ at h
  split at h
  · rename_i n' e' hu
    cases hi : P.info? e' with
    | none => simp [hi] at h
    | some i =>
      simp only [hi, Option.map_some, Option.some.injEq, Prod.mk.injEq] at h
      obtain ⟨rfl, rfl⟩ := h
      exact ⟨e', hu, by simp [sizeQ, hi]⟩
  · cases h

/-! ### slots -/
theorem ro_move {x : Operand} {v : Value} (hx : ρ x = v) : RO P ρ (.move x) w v w := fun _ _ _ _ _ => by subst hx; rfl
theorem ro_assign {x : Operand} {v : Value} (hx : ρ x = v) : RO P ρ (.assign x) w v w := fun _ _ _ _ _ => by subst hx; rfl
theorem ro_pickT {c x y : Operand} {v : Value} (hc : ρ c = .bool true) (hv : ρ x = v) : RO P ρ (.pick c x y) w v w := fun _ _ _ _ _ => by subst hv; simp [execOp, hc, asBool]
theorem ro_pickF {c x y : Operand} {v : Value} (hc : ρ c = .bool false) (hv : ρ y = v) : RO P ρ (.pick c x y) w v w := fun _ _ _ _ _ => by subst hv; simp [execOp, hc, asBool]

/-! ### integers -/
variable {t yt : TypeId} {x y : Operand} {k : IntKind} {a b : Int}
theorem ro_bin {op : BinOp} {u v r : Value} (hx : ρ x = u) (hy : ρ y = v) (hg : (eqGuard op t x y u v).run P w = .ok () w) (hr : (binOp op t u v).run P w = .ok r w) : RO P ρ (.binOp op t x y yt) w r w := fun _ _ _ _ _ => by
  subst hx; subst hy; simp [execOp, hg, hr]
theorem guard_int (op : BinOp) : (eqGuard op t x y (.int k a) (.int k b)).run P w = .ok () w := by unfold eqGuard; split <;> rfl
theorem ro_int {op : BinOp} {r : Value} (hx : ρ x = .int k a) (hy : ρ y = .int k b) (hr : (binOp op t (.int k a) (.int k b)).run P w = .ok r w) : RO P ρ (.binOp op t x y yt) w r w :=
  ro_bin hx hy (guard_int op) hr
theorem ro_add (hx : ρ x = .int k a) (hy : ρ y = .int k b) : RO P ρ (.binOp .add t x y yt) w (.int k (k.wrap (a + b))) w := ro_int hx hy (by simp [binOp, Op.intArith])
theorem ro_sub (hx : ρ x = .int k a) (hy : ρ y = .int k b) : RO P ρ (.binOp .sub t x y yt) w (.int k (k.wrap (a - b))) w := ro_int hx hy (by simp [binOp, Op.intArith])
theorem ro_mul (hx : ρ x = .int k a) (hy : ρ y = .int k b) : RO P ρ (.binOp .mul t x y yt) w (.int k (k.wrap (a * b))) w := ro_int hx hy (by simp [binOp, Op.intArith])
theorem ro_add64 (hx : ρ x = .int .i64 a) (hy : ρ y = .int .i64 b) (h : -9223372036854775808 ≤ a + b ∧ a + b ≤ 9223372036854775807) : RO P ρ (.binOp .add t x y yt) w (.int .i64 (a + b)) w := by
  have := ro_add (P := P) (ρ := ρ) (w := w) (t := t) (yt := yt) hx hy; rwa [IntWalk.i64_in _ h] at this
theorem ro_sub64 (hx : ρ x = .int .i64 a) (hy : ρ y = .int .i64 b) (h : -9223372036854775808 ≤ a - b ∧ a - b ≤ 9223372036854775807) : RO P ρ (.binOp .sub t x y yt) w (.int .i64 (a - b)) w := by
  have := ro_sub (P := P) (ρ := ρ) (w := w) (t := t) (yt := yt) hx hy; rwa [IntWalk.i64_in _ h] at this
theorem ro_mul64 (hx : ρ x = .int .i64 a) (hy : ρ y = .int .i64 b) (h : -9223372036854775808 ≤ a * b ∧ a * b ≤ 9223372036854775807) : RO P ρ (.binOp .mul t x y yt) w (.int .i64 (a * b)) w := by
  have := ro_mul (P := P) (ρ := ρ) (w := w) (t := t) (yt := yt) hx hy; rwa [IntWalk.i64_in _ h] at this
theorem ro_add64' {r : Int} (hx : ρ x = .int .i64 a) (hy : ρ y = .int .i64 b) (he : a + b = r) (h : -9223372036854775808 ≤ r ∧ r ≤ 9223372036854775807) : RO P ρ (.binOp .add t x y yt) w (.int .i64 r) w := by
  subst he; exact ro_add64 hx hy h
theorem ro_sub64' {r : Int} (hx : ρ x = .int .i64 a) (hy : ρ y = .int .i64 b) (he : a - b = r) (h : -9223372036854775808 ≤ r ∧ r ≤ 9223372036854775807) : RO P ρ (.binOp .sub t x y yt) w (.int .i64 r) w := by
  subst he; exact ro_sub64 hx hy h
theorem ro_mul64' {r : Int} (hx : ρ x = .int .i64 a) (hy : ρ y = .int .i64 b) (he : a * b = r) (h : -9223372036854775808 ≤ r ∧ r ≤ 9223372036854775807) : RO P ρ (.binOp .mul t x y yt) w (.int .i64 r) w := by
  subst he; exact ro_mul64 hx hy h
theorem ro_quo (hx : ρ x = .int k a) (hy : ρ y = .int k b) (hb : b ≠ 0) : RO P ρ (.binOp .quo t x y yt) w (.int k (k.wrap (a.tdiv b))) w := ro_int hx hy (by simp [binOp, Op.intDiv, hb])
theorem ro_rem (hx : ρ x = .int k a) (hy : ρ y = .int k b) (hb : b ≠ 0) : RO P ρ (.binOp .rem t x y yt) w (.int k (a.tmod b)) w := ro_int hx hy (by simp [binOp, Op.intDiv, hb])
theorem ro_quo64 (hx : ρ x = .int .i64 a) (hy : ρ y = .int .i64 b) (h : 0 ≤ a ∧ a ≤ 9223372036854775807 ∧ 0 < b) : RO P ρ (.binOp .quo t x y yt) w (.int .i64 (a / b)) w := by
  have := ro_quo (P := P) (ρ := ρ) (w := w) (t := t) (yt := yt) hx hy (by omega)
  have h2 : a / b ≤ a := Int.ediv_le_self b h.1
  have h3 : 0 ≤ a / b := Int.ediv_nonneg h.1 (by omega)
  rwa [Int.tdiv_eq_ediv_of_nonneg h.1, IntWalk.i64_in _ (by omega)] at this
theorem ro_rem64 (hx : ρ x = .int .i64 a) (hy : ρ y = .int .i64 b) (h : 0 ≤ a ∧ 0 < b) : RO P ρ (.binOp .rem t x y yt) w (.int .i64 (a % b)) w := by
  have := ro_rem (P := P) (ρ := ρ) (w := w) (t := t) (yt := yt) hx hy (by omega)
  rwa [Int.tmod_eq_emod_of_nonneg h.1] at this
theorem ro_and (hx : ρ x = .int k a) (hy : ρ y = .int k b) : RO P ρ (.binOp .and t x y yt) w (.int k (bits .and k a b)) w := ro_int hx hy (by simp [binOp, intBits_and])
theorem ro_or (hx : ρ x = .int k a) (hy : ρ y = .int k b) : RO P ρ (.binOp .or t x y yt) w (.int k (bits .or k a b)) w := ro_int hx hy (by simp [binOp, intBits_or])
theorem ro_xor (hx : ρ x = .int k a) (hy : ρ y = .int k b) : RO P ρ (.binOp .xor t x y yt) w (.int k (bits .xor k a b)) w := ro_int hx hy (by simp [binOp, intBits_xor])
theorem ro_andNot (hx : ρ x = .int k a) (hy : ρ y = .int k b) : RO P ρ (.binOp .andNot t x y yt) w (.int k (bits .andNot k a b)) w := ro_int hx hy (by simp [binOp, intBits_andNot])
theorem ro_shl {k' : IntKind} (hx : ρ x = .int k a) (hy : ρ y = .int k' b) (h : 0 ≤ b) : RO P ρ (.binOp .shl t x y yt) w (.int k (k.wrap (a * 2 ^ (min b.toNat k.bits)))) w :=
  ro_bin hx hy (by unfold eqGuard; rfl) (by
    have : ¬ b < 0 := by omega
    simp [binOp, Op.shift, this])
theorem ro_shr {k' : IntKind} (hx : ρ x = .int k a) (hy : ρ y = .int k' b) (h : 0 ≤ b) : RO P ρ (.binOp .shr t x y yt) w (.int k (a.fdiv (2 ^ (min b.toNat k.bits)))) w :=
  ro_bin hx hy (by unfold eqGuard; rfl) (by
    have : ¬ b < 0 := by omega
    simp [binOp, Op.shift, this])
theorem ro_eql (hx : ρ x = .int k a) (hy : ρ y = .int k b) : RO P ρ (.binOp .eql t x y yt) w (.bool (a == b)) w := ro_int hx hy (by simp [binOp, Op.intCmp])
theorem ro_neq (hx : ρ x = .int k a) (hy : ρ y = .int k b) : RO P ρ (.binOp .neq t x y yt) w (.bool (a != b)) w := ro_int hx hy (by simp [binOp, Op.intCmp])
theorem ro_lss (hx : ρ x = .int k a) (hy : ρ y = .int k b) : RO P ρ (.binOp .lss t x y yt) w (.bool (decide (a < b))) w := ro_int hx hy (by simp [binOp, Op.intCmp])
theorem ro_leq (hx : ρ x = .int k a) (hy : ρ y = .int k b) : RO P ρ (.binOp .leq t x y yt) w (.bool (decide (a ≤ b))) w := ro_int hx hy (by simp [binOp, Op.intCmp])
theorem ro_gtr (hx : ρ x = .int k a) (hy : ρ y = .int k b) : RO P ρ (.binOp .gtr t x y yt) w (.bool (decide (a > b))) w := ro_int hx hy (by simp [binOp, Op.intCmp])
theorem ro_geq (hx : ρ x = .int k a) (hy : ρ y = .int k b) : RO P ρ (.binOp .geq t x y yt) w (.bool (decide (a ≥ b))) w := ro_int hx hy (by simp [binOp, Op.intCmp])
/-! ### bools, strings, pointers -/
variable {p q : Bool} {s s' : ByteArray}
theorem equalInB (m : Nat) (ht : P.underlying t = some .bool) : (Op.equalIn (m + 1) t (.bool p) (.bool q)).run P w = .ok (p == q) w := by
  simp [Op.equalIn, run_underlying ht]
theorem equalB (ht : P.underlying t = some .bool) : (Op.equal t (.bool p) (.bool q)).run P w = .ok (p == q) w := equalInB 9999 ht
theorem ro_eqlB (ht : P.underlying t = some .bool) (hx : ρ x = .bool p) (hy : ρ y = .bool q) : RO P ρ (.binOp .eql t x y yt) w (.bool (p == q)) w :=
  ro_bin hx hy (by unfold eqGuard; rfl) (by simp only [binOp]; simp [equalB ht])
theorem ro_neqB (ht : P.underlying t = some .bool) (hx : ρ x = .bool p) (hy : ρ y = .bool q) : RO P ρ (.binOp .neq t x y yt) w (.bool (!(p == q))) w :=
  ro_bin hx hy (by unfold eqGuard; rfl) (by simp only [binOp]; simp [equalB ht])
theorem ro_eqlS (hx : ρ x = .string s) (hy : ρ y = .string s') : RO P ρ (.binOp .eql t x y yt) w (.bool (s.toList == s'.toList)) w :=
  ro_bin hx hy (by unfold eqGuard; rfl) (by simp [binOp, Op.stringOp])
theorem ro_neqS (hx : ρ x = .string s) (hy : ρ y = .string s') : RO P ρ (.binOp .neq t x y yt) w (.bool (!(s.toList == s'.toList))) w :=
  ro_bin hx hy (by unfold eqGuard; rfl) (by simp [binOp, Op.stringOp])
theorem ro_eqlNil {r : Option Addr} (ht : P.underlying t = some (.pointer (P.pointee t))) (hx : ρ x = .pointer r) (hy : ρ y = .pointer none) : RO P ρ (.binOp .eql t x y yt) w (.bool r.isNone) w :=
  ro_bin hx hy (by unfold eqGuard; cases r <;> rfl) (run_eql_pointer_nil w t r ht)
theorem ro_neqNil {r : Option Addr} (ht : P.underlying t = some (.pointer (P.pointee t))) (hx : ρ x = .pointer r) (hy : ρ y = .pointer none) : RO P ρ (.binOp .neq t x y yt) w (.bool (!r.isNone)) w :=
  ro_bin hx hy (by unfold eqGuard; cases r <;> rfl) (run_neq_pointer_nil w t r ht)
theorem ro_not (hx : ρ x = .bool p) : RO P ρ (.unOp .not t x) w (.bool (!p)) w := fun _ _ _ _ _ => by simp [execOp, hx, Op.unary]
theorem ro_neg (hx : ρ x = .int k a) : RO P ρ (.unOp .neg t x) w (.int k (k.wrap (0 - a))) w := fun _ _ _ _ _ => by simp [execOp, hx, Op.unary, Op.intArith]
theorem ro_inv (hx : ρ x = .int k a) : RO P ρ (.unOp .xor t x) w (.int k (bits .xor k (if k.signed then -1 else k.max) a)) w := fun _ _ _ _ _ => by simp [execOp, hx, Op.unary, intBits_xor]
theorem ro_conv {src dst : TypeId} {k' : IntKind} (hs : (P.underlying src).isSome = true) (hd : P.underlying dst = some (.int k')) (hx : ρ x = .int k a) : RO P ρ (.convert src dst x) w (.int k' (k'.wrap a)) w := fun _ _ _ _ _ => by
  obtain ⟨d, hd'⟩ := Option.isSome_iff_exists.mp hs
  simp [execOp, hx, convert, run_underlying hd', run_underlying hd, Conv.intToInt]
/-- from one kind to the same, or to one that holds it -/
theorem ro_conv' {src dst : TypeId} {k' : IntKind} {r : Int} (hs : (P.underlying src).isSome = true) (hd : P.underlying dst = some (.int k')) (hx : ρ x = .int k a) (hr : k'.wrap a = r) : RO P ρ (.convert src dst x) w (.int k' r) w := by
  subst hr; exact ro_conv hs hd hx
theorem ro_convS {src dst : TypeId} (hs : (P.underlying src).isSome = true) (hd : P.underlying dst = some .string) (hx : ρ x = .string s) : RO P ρ (.convert src dst x) w (.string s) w := fun _ _ _ _ _ => by
  obtain ⟨d, hd'⟩ := Option.isSome_iff_exists.mp hs
  simp only [execOp, hx, convert, Sem.run_bind, run_underlying hd', run_underlying hd, Result.andThen_ok]
  cases d <;> rfl
/-! ### numbers that are casts of natural ones -/
theorem ro_addN {a b : Nat} (hx : ρ x = .int .i64 (a : Nat)) (hy : ρ y = .int .i64 (b : Nat)) (h : a + b ≤ 9223372036854775807) : RO P ρ (.binOp .add t x y yt) w (.int .i64 ((a + b : Nat) : Int)) w :=
  ro_add64' hx hy (by omega) (by omega)
theorem ro_subN {a b : Nat} (hx : ρ x = .int .i64 (a : Nat)) (hy : ρ y = .int .i64 (b : Nat)) (h : b ≤ a ∧ a ≤ 9223372036854775807) : RO P ρ (.binOp .sub t x y yt) w (.int .i64 ((a - b : Nat) : Int)) w :=
  ro_sub64' hx hy (by omega) (by omega)
theorem ro_mulN {a b : Nat} (hx : ρ x = .int .i64 (a : Nat)) (hy : ρ y = .int .i64 (b : Nat)) (h : a * b ≤ 9223372036854775807) : RO P ρ (.binOp .mul t x y yt) w (.int .i64 ((a * b : Nat) : Int)) w :=
  ro_mul64' hx hy (by rw [Int.natCast_mul]) (by omega)
theorem ro_quoN {a b : Nat} (hx : ρ x = .int .i64 (a : Nat)) (hy : ρ y = .int .i64 (b : Nat)) (h : 0 < b ∧ a ≤ 9223372036854775807) : RO P ρ (.binOp .quo t x y yt) w (.int .i64 ((a / b : Nat) : Int)) w := by
  have := ro_quo64 (P := P) (ρ := ρ) (w := w) (t := t) (yt := yt) hx hy (by omega)
  rwa [← Int.natCast_ediv] at this
theorem ro_remN {a b : Nat} (hx : ρ x = .int .i64 (a : Nat)) (hy : ρ y = .int .i64 (b : Nat)) (h : 0 < b) : RO P ρ (.binOp .rem t x y yt) w (.int .i64 ((a % b : Nat) : Int)) w := by
  have := ro_rem64 (P := P) (ρ := ρ) (w := w) (t := t) (yt := yt) hx hy (by omega)
  rwa [← Int.natCast_emod] at this
theorem ro_shrN {a b : Nat} {k k' : IntKind} (hx : ρ x = .int k (a : Nat)) (hy : ρ y = .int k' (b : Nat)) (h : b ≤ k.bits) : RO P ρ (.binOp .shr t x y yt) w (.int k ((a / 2 ^ b : Nat) : Int)) w := by
  have := ro_shr (P := P) (ρ := ρ) (w := w) (t := t) (yt := yt) hx hy (by omega)
  have e : min ((b : Nat) : Int).toNat k.bits = b := by rw [Int.toNat_natCast]; omega
  rw [e] at this
  have e2 : ((a : Nat) : Int).fdiv (2 ^ b) = ((a / 2 ^ b : Nat) : Int) := by
    rw [Int.fdiv_eq_ediv_of_nonneg _ (Int.pow_nonneg (by decide)), Int.natCast_ediv]
    norm_cast
  rwa [e2] at this
theorem ro_shlN {a b : Nat} {k' : IntKind} (hx : ρ x = .int .u64 (a : Nat)) (hy : ρ y = .int k' (b : Nat)) (h : b ≤ 64) : RO P ρ (.binOp .shl t x y yt) w (.int .u64 ((a * 2 ^ b % 2 ^ 64 : Nat) : Int)) w := by
  have := ro_shl (P := P) (ρ := ρ) (w := w) (t := t) (yt := yt) hx hy (by omega)
  have e : min ((b : Nat) : Int).toNat IntKind.u64.bits = b := by rw [Int.toNat_natCast]; show min b 64 = b; omega
  rw [e] at this
  have e2 : IntKind.u64.wrap (((a : Nat) : Int) * 2 ^ b) = ((a * 2 ^ b % 2 ^ 64 : Nat) : Int) := by
    have h : (a : Int) * 2 ^ b = ((a * 2 ^ b : Nat) : Int) := by norm_cast
    rw [h, IntKind.wrap_u64]
    generalize a * 2 ^ b = c
    omega
  rwa [e2] at this
theorem ro_shlN8 {a b : Nat} {k' : IntKind} (hx : ρ x = .int .u8 (a : Nat)) (hy : ρ y = .int k' (b : Nat)) (h : b ≤ 8) : RO P ρ (.binOp .shl t x y yt) w (.int .u8 ((a * 2 ^ b % 256 : Nat) : Int)) w := by
  have := ro_shl (P := P) (ρ := ρ) (w := w) (t := t) (yt := yt) hx hy (by omega)
  have e : min ((b : Nat) : Int).toNat IntKind.u8.bits = b := by rw [Int.toNat_natCast]; show min b 8 = b; omega
  rw [e] at this
  have e2 : IntKind.u8.wrap (((a : Nat) : Int) * 2 ^ b) = ((a * 2 ^ b % 256 : Nat) : Int) := by
    have h : (a : Int) * 2 ^ b = ((a * 2 ^ b : Nat) : Int) := by norm_cast
    rw [h, IntKind.wrap_u8]
    generalize a * 2 ^ b = c
    omega
  rwa [e2] at this
theorem bits_u64 {a b : Nat} (ha : a < 2 ^ 64) (hb : b < 2 ^ 64) : bits .and .u64 (a : Int) (b : Int) = ((a &&& b : Nat) : Int) ∧ bits .or .u64 (a : Int) (b : Int) = ((a ||| b : Nat) : Int) ∧ bits .xor .u64 (a : Int) (b : Int) = ((a ^^^ b : Nat) : Int) := by
  have e1 : (BitVec.ofInt 64 (a : Int)).toNat = a := by rw [BitVec.ofInt_natCast, BitVec.toNat_ofNat]; exact Nat.mod_eq_of_lt ha
  have e2 : (BitVec.ofInt 64 (b : Int)).toNat = b := by rw [BitVec.ofInt_natCast, BitVec.toNat_ofNat]; exact Nat.mod_eq_of_lt hb
  refine ⟨?_, ?_, ?_⟩
  · show IntKind.u64.wrap ((BitVec.ofInt 64 (a : Int) &&& BitVec.ofInt 64 (b : Int)).toNat : Int) = _
    have h : a &&& b < 2 ^ 64 := Nat.and_lt_two_pow _ hb
    rw [BitVec.toNat_and, e1, e2, IntKind.wrap_u64]; generalize a &&& b = c at *; omega
  · show IntKind.u64.wrap ((BitVec.ofInt 64 (a : Int) ||| BitVec.ofInt 64 (b : Int)).toNat : Int) = _
    have h := Nat.or_lt_two_pow ha hb
    rw [BitVec.toNat_or, e1, e2, IntKind.wrap_u64]; generalize a ||| b = c at *; omega
  · show IntKind.u64.wrap ((BitVec.ofInt 64 (a : Int) ^^^ BitVec.ofInt 64 (b : Int)).toNat : Int) = _
    have h := Nat.xor_lt_two_pow ha hb
    rw [BitVec.toNat_xor, e1, e2, IntKind.wrap_u64]; generalize a ^^^ b = c at *; omega
theorem bits_u8 {a b : Nat} (ha : a < 256) (hb : b < 256) : bits .and .u8 (a : Int) (b : Int) = ((a &&& b : Nat) : Int) ∧ bits .or .u8 (a : Int) (b : Int) = ((a ||| b : Nat) : Int) ∧ bits .xor .u8 (a : Int) (b : Int) = ((a ^^^ b : Nat) : Int) := by
  have e1 : (BitVec.ofInt 8 (a : Int)).toNat = a := by rw [BitVec.ofInt_natCast, BitVec.toNat_ofNat]; exact Nat.mod_eq_of_lt ha
  have e2 : (BitVec.ofInt 8 (b : Int)).toNat = b := by rw [BitVec.ofInt_natCast, BitVec.toNat_ofNat]; exact Nat.mod_eq_of_lt hb
  refine ⟨?_, ?_, ?_⟩
  · show IntKind.u8.wrap ((BitVec.ofInt 8 (a : Int) &&& BitVec.ofInt 8 (b : Int)).toNat : Int) = _
    have h : a &&& b < 2 ^ 8 := Nat.and_lt_two_pow _ hb
    rw [BitVec.toNat_and, e1, e2, IntKind.wrap_u8]; generalize a &&& b = c at *; omega
  · show IntKind.u8.wrap ((BitVec.ofInt 8 (a : Int) ||| BitVec.ofInt 8 (b : Int)).toNat : Int) = _
    have h : a ||| b < 2 ^ 8 := Nat.or_lt_two_pow ha hb
    rw [BitVec.toNat_or, e1, e2, IntKind.wrap_u8]; generalize a ||| b = c at *; omega
  · show IntKind.u8.wrap ((BitVec.ofInt 8 (a : Int) ^^^ BitVec.ofInt 8 (b : Int)).toNat : Int) = _
    have h : a ^^^ b < 2 ^ 8 := Nat.xor_lt_two_pow ha hb
    rw [BitVec.toNat_xor, e1, e2, IntKind.wrap_u8]; generalize a ^^^ b = c at *; omega
theorem ro_andN {a b : Nat} (hx : ρ x = .int .u64 (a : Nat)) (hy : ρ y = .int .u64 (b : Nat)) (h : a < 2 ^ 64 ∧ b < 2 ^ 64) : RO P ρ (.binOp .and t x y yt) w (.int .u64 ((a &&& b : Nat) : Int)) w := by
  have := ro_and (P := P) (ρ := ρ) (w := w) (t := t) (yt := yt) hx hy; rwa [(bits_u64 h.1 h.2).1] at this
theorem ro_orN {a b : Nat} (hx : ρ x = .int .u64 (a : Nat)) (hy : ρ y = .int .u64 (b : Nat)) (h : a < 2 ^ 64 ∧ b < 2 ^ 64) : RO P ρ (.binOp .or t x y yt) w (.int .u64 ((a ||| b : Nat) : Int)) w := by
  have := ro_or (P := P) (ρ := ρ) (w := w) (t := t) (yt := yt) hx hy; rwa [(bits_u64 h.1 h.2).2.1] at this
theorem ro_xorN {a b : Nat} (hx : ρ x = .int .u64 (a : Nat)) (hy : ρ y = .int .u64 (b : Nat)) (h : a < 2 ^ 64 ∧ b < 2 ^ 64) : RO P ρ (.binOp .xor t x y yt) w (.int .u64 ((a ^^^ b : Nat) : Int)) w := by
  have := ro_xor (P := P) (ρ := ρ) (w := w) (t := t) (yt := yt) hx hy; rwa [(bits_u64 h.1 h.2).2.2] at this
theorem ro_andN8 {a b : Nat} (hx : ρ x = .int .u8 (a : Nat)) (hy : ρ y = .int .u8 (b : Nat)) (h : a < 256 ∧ b < 256) : RO P ρ (.binOp .and t x y yt) w (.int .u8 ((a &&& b : Nat) : Int)) w := by
  have := ro_and (P := P) (ρ := ρ) (w := w) (t := t) (yt := yt) hx hy; rwa [(bits_u8 h.1 h.2).1] at this
theorem ro_orN8 {a b : Nat} (hx : ρ x = .int .u8 (a : Nat)) (hy : ρ y = .int .u8 (b : Nat)) (h : a < 256 ∧ b < 256) : RO P ρ (.binOp .or t x y yt) w (.int .u8 ((a ||| b : Nat) : Int)) w := by
  have := ro_or (P := P) (ρ := ρ) (w := w) (t := t) (yt := yt) hx hy; rwa [(bits_u8 h.1 h.2).2.1] at this
theorem ro_xorN8 {a b : Nat} (hx : ρ x = .int .u8 (a : Nat)) (hy : ρ y = .int .u8 (b : Nat)) (h : a < 256 ∧ b < 256) : RO P ρ (.binOp .xor t x y yt) w (.int .u8 ((a ^^^ b : Nat) : Int)) w := by
  have := ro_xor (P := P) (ρ := ρ) (w := w) (t := t) (yt := yt) hx hy; rwa [(bits_u8 h.1 h.2).2.2] at this
/-- a byte as a word -/
theorem ro_conv64 {src dst : TypeId} {a : Nat} {k : IntKind} (hs : (P.underlying src).isSome = true) (hd : P.underlying dst = some (.int .u64)) (hx : ρ x = .int k (a : Nat)) (h : a < 2 ^ 64) : RO P ρ (.convert src dst x) w (.int .u64 (a : Nat)) w :=
  ro_conv' hs hd hx (IntWalk.u64_in _ (by omega))
theorem ro_convI {src dst : TypeId} {a : Nat} {k : IntKind} (hs : (P.underlying src).isSome = true) (hd : P.underlying dst = some (.int .i64)) (hx : ρ x = .int k (a : Nat)) (h : a ≤ 9223372036854775807) : RO P ρ (.convert src dst x) w (.int .i64 (a : Nat)) w :=
  ro_conv' hs hd hx (IntWalk.i64_in _ (by omega))
theorem ro_conv8 {src dst : TypeId} {a : Nat} {k : IntKind} (hs : (P.underlying src).isSome = true) (hd : P.underlying dst = some (.int .u8)) (hx : ρ x = .int k (a : Nat)) : RO P ρ (.convert src dst x) w (.int .u8 ((a % 256 : Nat) : Int)) w :=
  ro_conv' hs hd hx (by rw [IntKind.wrap_u8]; omega)
/-! ### slices and memory -/
variable {A : Option Addr} {ad : Addr} {n c : Nat}
theorem ro_len (ht : (elemQ P t).isSome = true) (hx : ρ x = .slice A n c) : RO P ρ (.call { callee := .builtin .len, args := #[x], argTypes := #[t] }) w (.int .i64 n) w := fun _ _ _ _ _ => by
  obtain ⟨⟨e, sz⟩, he⟩ := Option.isSome_iff_exists.mp ht
  obtain ⟨hu, _⟩ := elem_of he
  simp [BigFrame.execOp_builtin, BigFrame.builtin_len, Builtin.len_, run_underlying hu, hx, goInt]
theorem ro_lenS (ht : P.underlying t = some .string) (hx : ρ x = .string s) : RO P ρ (.call { callee := .builtin .len, args := #[x], argTypes := #[t] }) w (.int .i64 s.size) w := fun _ _ _ _ _ => by
  simp [BigFrame.execOp_builtin, BigFrame.builtin_len, Builtin.len_, run_underlying ht, hx, goInt]
theorem ro_nilCheck (hx : ρ x = .pointer (some ad)) : RO P ρ (.nilCheck x) w (.pointer (some ad)) w := fun _ _ _ _ _ => by simp [execOp, hx]
theorem ro_fieldAddr {f o b off : Nat} (hf : fieldQ P t f = some o) (hx : ρ x = .pointer (some ⟨b, off, none⟩)) : RO P ρ (.fieldAddr t x f) w (.pointer (some ⟨b, off + o, none⟩)) w := fun _ _ _ _ _ => by
  unfold fieldQ at hf
  split at hf
  · rename_i fs hu
    split at hf
    · rename_i fl hfl
      split at hf
      · rename_i i hi
        split at hf
        · cases hf
        · rename_i hs
          obtain rfl := Option.some.inj hf
          simp [execOp, hx, Instr.fieldAt, run_underlying hu, hfl, Instr.sureAddr, fieldPlace, sizeOf, typeInfo, hi, hs, Addr.add_mid]
      · cases hf
    · cases hf
  · cases hf
theorem ro_indexAddr {e sz b off : Nat} {i : Int} {k : IntKind} (ht : elemQ P t = some (e, sz)) (hx : ρ x = .slice (some ⟨b, off, none⟩) n c) (hy : ρ y = .int k i) (h : 0 ≤ i ∧ i < n) :
    RO P ρ (.indexAddr t x y) w (.pointer (some ⟨b, off + i.toNat * sz, none⟩)) w := fun _ _ _ _ _ => by
  obtain ⟨hu, hs⟩ := elem_of ht
  simp [execOp, hx, hy, Instr.indexAt, asIntOf, run_underlying hu, h, sizeOf_of hs, Addr.add_mid]
/-- the index a Nat -/
theorem ro_indexAddrN {e sz b off i : Nat} {k : IntKind} (ht : elemQ P t = some (e, sz)) (hx : ρ x = .slice (some ⟨b, off, none⟩) n c) (hy : ρ y = .int k (i : Nat)) (h : i < n) :
    RO P ρ (.indexAddr t x y) w (.pointer (some ⟨b, off + i * sz, none⟩)) w := ro_indexAddr ht hx hy ⟨by omega, by omega⟩
/-- cells of one value -/
theorem ro_indexAddr1 {e b off i : Nat} {k : IntKind} (ht : elemQ P t = some (e, 1)) (hx : ρ x = .slice (some ⟨b, off, none⟩) n c) (hy : ρ y = .int k (i : Nat)) (h : i < n) :
    RO P ρ (.indexAddr t x y) w (.pointer (some ⟨b, off + i, none⟩)) w := by
  have := ro_indexAddrN (P := P) (ρ := ρ) (w := w) ht hx hy h
  rwa [Nat.mul_one] at this
/-- from the head of a block on -/
theorem ro_indexAddr0 {e b i : Nat} {k : IntKind} (ht : elemQ P t = some (e, 1)) (hx : ρ x = .slice (some ⟨b, 0, none⟩) n c) (hy : ρ y = .int k (i : Nat)) (h : i < n) :
    RO P ρ (.indexAddr t x y) w (.pointer (some ⟨b, i, none⟩)) w := by
  have := ro_indexAddr1 (P := P) (ρ := ρ) (w := w) ht hx hy h
  rwa [Nat.zero_add] at this
theorem ro_indexAddrA {m sz b off : Nat} {i : Int} {k : IntKind} (ht : arrQ P t = some (m, sz)) (hx : ρ x = .pointer (some ⟨b, off, none⟩)) (hy : ρ y = .int k i) (h : 0 ≤ i ∧ i < m) :
    RO P ρ (.indexAddr t x y) w (.pointer (some ⟨b, off + i.toNat * sz, none⟩)) w := fun _ _ _ _ _ => by
  obtain ⟨e, hu, hs⟩ := arr_of ht
  simp [execOp, hx, hy, Instr.indexAt, asIntOf, run_underlying hu, Instr.sureAddr, h, sizeOf_of hs, Addr.add_mid]
theorem ro_indexS {i : Int} {k : IntKind} (ht : P.underlying t = some .string) (hx : ρ x = .string s) (hy : ρ y = .int k i) (h0 : 0 ≤ i) {u : UInt8} (hu : s[i.toNat]? = some u) :
    RO P ρ (.index t x y) w (.int .u8 u.toNat) w := fun _ _ _ _ _ => by
  simp [execOp, hx, hy, Instr.index, asIntOf, run_underlying ht, h0, hu]
theorem ro_load {v : Value} (ht : aggQ P t = some false) (hx : ρ x = .pointer (some ad)) (hc : w.cell? ad = some v) : RO P ρ (.load t x) w v w := fun _ _ _ _ _ => by
  simp [execOp, hx, Instr.loadAt, Instr.sureAddr, loadVar, isAgg_of ht, hc]
theorem ro_loadA {b off : Nat} {cs : List Value} (ht : aggQ P t = some true) (hs : sizeQ P t = some cs.length) (hx : ρ x = .pointer (some ⟨b, off, none⟩)) (hc : w.rangeAt b off cs) : RO P ρ (.load t x) w (.agg cs.toArray) w := fun _ _ _ _ _ => by
  have hl : (loadCells ⟨b, off, none⟩ cs.length).run P w = .ok cs.toArray w :=
    run_loadCells_list (P := P) w ⟨b, off, none⟩ cs (fun j v hv => by rw [Addr.add_mid]; exact hc j v hv)
  simp [execOp, hx, Instr.loadAt, Instr.sureAddr, loadVar, isAgg_of ht, sizeOf_of hs, hl]
theorem rs_store {v u : Value} (ht : sizeQ P t = some 1) (hx : ρ x = .pointer (some ad)) (hy : ρ y = v) (h1 : v.oneCell' = true) (hc : w.cell? ad = some u) (hf : w.frozen? ad = false) : RS P ρ (.store t x y) w (w.setCell ad v) := fun _ _ _ _ _ => by
  have hcs : v.cells = #[v] := by cases v <;> first | rfl | (simp [Value.oneCell'] at h1)
  have hst := run_store P w ad v .plain h1
  rw [hc] at hst
  simp only [hf] at hst
  have e0 : ad.add 0 = ad := by unfold Addr.add; simp
  simp [execOp, hx, hy, Instr.storeAt, Instr.sureAddr, storeVar, sizeOf_of ht, hcs, storeCells, e0, hst]
theorem rs_storeA {b off : Nat} {cs : List Value} (hs : sizeQ P t = some cs.length) (hx : ρ x = .pointer (some ⟨b, off, none⟩)) (hy : ρ y = .agg cs.toArray) (h1 : ∀ v ∈ cs, v.oneCell' = true) (hc : w.there b off cs.length) :
    RS P ρ (.store t x y) w (w.setCells b off cs) := fun _ _ _ _ _ => by
  have hr := run_storeAt_mid (P := P) w b off t cs.toArray (by simpa using hc) (by simpa [sizeQ] using hs) (all_oneCell_toArray h1)
  simp [execOp, hx, hy, hr]
theorem ro_alloc {z : Value} (hz : zeroQ P t = some z) : RO P ρ (.alloc t) w (.pointer (some ⟨w.heap.size, 0, none⟩)) (w.alloc (.cells z.cells t)) := fun _ _ _ _ _ => by
  simp [execOp, Instr.alloc, zero_of hz, newVar, newRow]
theorem ro_box {v : Value} (hx : ρ x = v) : RO P ρ (.box t x) w (.pointer (some ⟨w.heap.size, 0, none⟩)) (w.alloc (.cells v.cells t)) := fun _ _ _ _ _ => by
  simp [execOp, Instr.box, hx, newVar, newRow]
theorem ro_build {l : List (Nat × Operand)} {cells : Array Value} (h : P.built t (l.map fun p => (p.1, ρ p.2)) = some cells) : RO P ρ (.build t l.toArray) w (.agg cells) w := fun _ _ _ _ _ => by
  have := run_build (P := P) w t ((l.map fun p => (p.1, ρ p.2)).toArray) cells (by simpa using h)
  simp only [execOp, List.map_toArray, Sem.run_bind]
  rw [this]
  rfl
theorem ro_buildSlice {e m : Nat} {l : List (Nat × Operand)} {cells : Array Value} {ie : TypeInfo} {z : Value} (hu : P.underlying t = some (.slice e)) (hie : P.info? e = some ie) (hz : ie.zero = some z) (hsmall : ¬ m * ie.size > 2 ^ 24) (hpos : ¬ m * ie.size = 0)
    (hf : Instr.fill (fun i => some (i * ie.size, ie.size)) ((Array.range (m * ie.size)).map (z.cells[· % z.cells.size]!)) (l.map fun p => (p.1, ρ p.2)) = some cells) :
    RO P ρ (.buildSlice t m l.toArray) w (.slice (some ⟨w.heap.size, 0, none⟩) m m) (w.alloc (.cells cells e)) := fun _ _ _ _ _ => by
  have := run_buildSlice (P := P) w t e m ((l.map fun p => (p.1, ρ p.2)).toArray) cells ie z hu hie hz hsmall hpos (by simpa using hf)
  simp only [execOp, List.map_toArray, Sem.run_bind]
  rw [this]
  rfl
theorem ro_extract {i : Nat} {l : List Value} {v : Value} (hx : ρ x = .tuple l.toArray) (hv : l[i]? = some v) : RO P ρ (.extract x i) w v w := fun _ _ _ _ _ => by
  simp [execOp, hx, Instr.extract, hv]
/-- a field of a struct that is a value -/
theorem ro_field {f : Nat} {cs : Array Value} {v : Value} (hx : ρ x = .agg cs) (h : (Instr.field t (.agg cs) f).run P w = .ok v w) : RO P ρ (.field t x f) w v w := fun _ _ _ _ _ => by
  simp [execOp, hx, h]
/-! ### pieces of a slice -/
theorem ro_slice {e sz b off l h : Nat} (ht : elemQ P t = some (e, sz)) {lo hi : Option Operand} (hx : ρ x = .slice (some ⟨b, off, none⟩) n c)
    (hl : (lo = none ∧ l = 0) ∨ ∃ y k, lo = some y ∧ ρ y = .int k (l : Nat)) (hh : (hi = none ∧ h = n) ∨ ∃ y k, hi = some y ∧ ρ y = .int k (h : Nat)) (h1 : l ≤ h) (h2 : h ≤ c) :
    RO P ρ (.slice t x lo hi none) w (.slice (some ⟨b, if c = l then off else off + l * sz, none⟩) (h - l) (c - l)) w := fun _ _ _ _ _ => by
  obtain ⟨hu, hs⟩ := elem_of ht
  have key : ∀ A : Addr, A = ⟨b, off, none⟩ → (Option.some (if c = l then A else A.add (l * sz))) = some ⟨b, if c = l then off else off + l * sz, none⟩ := fun A hA => by subst hA; split <;> simp [Addr.add_mid]
  have hE : P.elem t = e := by simp [Program.elem, hu]
  have hu' : P.underlying t = some (.slice (P.elem t)) := by rw [hE]; exact hu
  have fin : (Result.ok (sliced (some ⟨b, off, none⟩) l h c sz) w : Result Value) = .ok (.slice (some ⟨b, if c = l then off else off + l * sz, none⟩) (h - l) (c - l)) w := by
    simp only [sliced]
    split <;> simp [Addr.add_mid]
  rcases hl with ⟨rfl, rfl⟩ | ⟨y1, k1, rfl, hy1⟩ <;> rcases hh with ⟨rfl, rfl⟩ | ⟨y2, k2, rfl, hy2⟩
  · simp only [execOp, hx, Option.map_none, Sem.run_bind]
    rw [run_sliceAt_slice w t _ _ _ _ hu', run_slice_all w t _ _ c hu', hE, sizeOf_of hs, Result.andThen_ok, fin]; rfl
  · simp only [execOp, hx, hy2, Option.map_none, Option.map_some, Sem.run_bind]
    rw [run_sliceAt_slice w t _ _ _ _ hu', run_slice_h w t _ n c hu' k2 (h : Int) (by omega) (by omega), hE, sizeOf_of hs, Result.andThen_ok, Int.toNat_natCast, fin]; rfl
  · simp only [execOp, hx, hy1, Option.map_none, Option.map_some, Sem.run_bind]
    rw [run_sliceAt_slice w t _ _ _ _ hu', run_slice_l w t _ _ c hu' k1 (l : Int) (by omega) (by omega), hE, sizeOf_of hs, Result.andThen_ok, Int.toNat_natCast, fin]; rfl
  · simp only [execOp, hx, hy1, hy2, Option.map_none, Option.map_some, Sem.run_bind]
    rw [run_sliceAt_slice w t _ _ _ _ hu', run_slice_lh w t _ n c hu' k1 k2 (l : Int) (h : Int) (by omega) (by omega) (by omega), hE, sizeOf_of hs, Result.andThen_ok, Int.toNat_natCast, Int.toNat_natCast, fin]; rfl
end

/-! ### steps -/
section steps
variable {P : Program} {ops : Array Oper} {Q : Exit → Act → World → Prop} {rest : List Oper} {n : Fr} {L : List (Nat × Value)} {w w' : World} {op : Op} {ty : TypeId} {pos : String} {after : Array Edge} {d : Nat}
theorem st_val {v : Value} (hr : RO P (ev n L) op w v w') (k : St P ops Q rest n ((d, v) :: L) w') : St P ops Q (⟨some d, op, ty, pos, after, none⟩ :: rest) n L w := by
  refine ⟨wpList_plain rfl fun K hK => ?_⟩
  unfold Oper.wp
  rw [eval_mkA, hr]
  rw [Oper.upon_value, put_mkA]
  exact hK _ _ k.out
theorem st_store (hr : RS P (ev n L) op w w') (k : St P ops Q rest n L w') : St P ops Q (⟨none, op, ty, pos, after, none⟩ :: rest) n L w := by
  refine ⟨wpList_plain rfl fun K hK => ?_⟩
  unfold Oper.wp
  rw [eval_mkA, hr]
  rw [Oper.upon_skip]
  exact hK _ _ k.out
/-- what a guard's slot says -/
def nthDst : List Oper → Nat → Option Nat
  | [], _ => none
  | o :: _, 0 => o.dst
  | _ :: r, j + 1 => nthDst r j
theorem nthDst_eq : ∀ (l : List Oper) (j : Nat), nthDst l j = (l[j]?).bind (·.dst)
  | [], _ => by simp [nthDst]
  | o :: _, 0 => by simp [nthDst]
  | _ :: r, j + 1 => by simpa [nthDst] using nthDst_eq r j
def wantQ (ops : Array Oper) (n : Fr) (L : List (Nat × Value)) (j : Nat) : Value := match nthDst ops.toList j with | some t => ev n L (.tmp t) | none => undef
theorem yielded_mkT {j : Nat} {b : Bool} (h : wantQ ops n L j = .bool b) : yielded ops (mkT n.n L) j = some b := by
  unfold wantQ at h
  rw [nthDst_eq, Array.getElem?_toList] at h
  unfold yielded
  cases hd : (ops[j]?).bind (·.dst) with
  | none => rw [hd] at h; simp [undef] at h
  | some t =>
    rw [hd] at h
    simp only [Option.bind_some, mkT_get]
    simp only [ev, blt_iff] at h
    by_cases ht : t < n.n
    · simp only [ht, decide_true, cond_true] at h
      simp [ht, h]
    · simp [ht, undef] at h
theorem st_gyes {v : Value} {j : Nat} {b : Bool} (hg : wantQ ops n L j = .bool b) (hr : RO P (ev n L) op w v w') (k : St P ops Q rest n ((d, v) :: L) w') : St P ops Q (⟨some d, op, ty, pos, after, some (j, b)⟩ :: rest) n L w := by
  refine ⟨wpList_step fun K hK => ?_⟩
  have hw : Region.wanted ⟨some d, op, ty, pos, after, some (j, b)⟩ (yielded ops (mkA n L).tmps) = true := by
    show (yielded ops (mkT n.n L) j == some b) = true
    rw [yielded_mkT hg]; simp
  rw [if_pos hw]
  unfold Oper.wp
  rw [eval_mkA, hr]
  rw [Oper.upon_value, put_mkA]
  exact hK _ _ k.out
theorem st_gno {j : Nat} {b b' : Bool} (hg : wantQ ops n L j = .bool b') (hb : (b' == b) = false) (k : St P ops Q rest n ((d, undef) :: L) w) : St P ops Q (⟨some d, op, ty, pos, after, some (j, b)⟩ :: rest) n L w := by
  refine ⟨wpList_step fun K hK => ?_⟩
  have hw : Region.wanted ⟨some d, op, ty, pos, after, some (j, b)⟩ (yielded ops (mkA n L).tmps) = false := by
    show (yielded ops (mkT n.n L) j == some b) = false
    rw [yielded_mkT hg]; simpa using hb
  rw [if_neg (by rw [hw]; simp), put_mkA]
  exact hK _ _ k.out
theorem st_gnoN {j : Nat} {b b' : Bool} (hg : wantQ ops n L j = .bool b') (hb : (b' == b) = false) (k : St P ops Q rest n L w) : St P ops Q (⟨none, op, ty, pos, after, some (j, b)⟩ :: rest) n L w := by
  refine ⟨wpList_step fun K hK => ?_⟩
  have hw : Region.wanted ⟨none, op, ty, pos, after, some (j, b)⟩ (yielded ops (mkA n L).tmps) = false := by
    show (yielded ops (mkT n.n L) j == some b) = false
    rw [yielded_mkT hg]; simpa using hb
  rw [if_neg (by rw [hw]; simp)]
  exact hK _ _ k.out
/-- a guard over an operation that was passed over itself -/
theorem yielded_undef {j : Nat} (h : wantQ ops n L j = undef) : yielded ops (mkT n.n L) j = none := by
  unfold wantQ at h
  rw [nthDst_eq, Array.getElem?_toList] at h
  unfold yielded
  cases hd : (ops[j]?).bind (·.dst) with
  | none => rfl
  | some t =>
    rw [hd] at h
    simp only [Option.bind_some, mkT_get]
    simp only [ev, blt_iff] at h
    by_cases ht : t < n.n
    · simp only [ht, decide_true, cond_true] at h
      rw [if_pos ht, h]
      rfl
    · simp [ht]
theorem st_gund {j : Nat} {b : Bool} (hg : wantQ ops n L j = undef) (k : St P ops Q rest n ((d, undef) :: L) w) : St P ops Q (⟨some d, op, ty, pos, after, some (j, b)⟩ :: rest) n L w := by
  refine ⟨wpList_step fun K hK => ?_⟩
  have hw : Region.wanted ⟨some d, op, ty, pos, after, some (j, b)⟩ (yielded ops (mkA n L).tmps) = false := by
    show (yielded ops (mkT n.n L) j == some b) = false
    rw [yielded_undef hg]; rfl
  rw [if_neg (by rw [hw]; simp), put_mkA]
  exact hK _ _ k.out
/-- a guard that says yes -/
theorem st_unguard {dst : Option Tmp} {j : Nat} {b : Bool} (hg : wantQ ops n L j = .bool b) (k : St P ops Q (⟨dst, op, ty, pos, after, none⟩ :: rest) n L w) : St P ops Q (⟨dst, op, ty, pos, after, some (j, b)⟩ :: rest) n L w := by
  have hw : Region.wanted ⟨dst, op, ty, pos, after, some (j, b)⟩ (yielded ops (mkA n L).tmps) = true := by
    show (yielded ops (mkT n.n L) j == some b) = true
    rw [yielded_mkT hg]; simp
  have hk := k.out
  constructor
  unfold wpList at hk ⊢
  rw [if_pos hw]
  exact hk
/-- by cases on the bool that a slot holds -/
theorem st_split {t : Nat} {e : Bool} (h : look L t = .bool e) (hT : e = true → St P ops Q rest n ((t, .bool true) :: L) w) (hF : e = false → St P ops Q rest n ((t, .bool false) :: L) w) : St P ops Q rest n L w := by
  have key : ∀ v, look L t = v → mkA n ((t, v) :: L) = mkA n L := fun v hv => mkA_congr fun i _ => by
    rw [look_cons]
    split
    · rename_i hi; subst hi; exact hv.symm
    · rfl
  cases e with
  | true => have := (hT rfl).out; rw [key _ h] at this; exact ⟨this⟩
  | false => have := (hF rfl).out; rw [key _ h] at this; exact ⟨this⟩
/-- a slot's value, spelled otherwise -/
theorem st_spell {t : Nat} {v v' : Value} (h : look L t = v) (he : v = v') (k : St P ops Q rest n ((t, v') :: L) w) : St P ops Q rest n L w := by
  have key : mkA n ((t, v') :: L) = mkA n L := mkA_congr fun i _ => by
    rw [look_cons]
    split
    · rename_i hi; subst hi; rw [h, he]
    · rfl
  have := k.out
  rw [key] at this
  exact ⟨this⟩
/-! calls -/
def callable (P : Program) (f : FuncId) : Bool := match P.funcs[f]? with | some fn => !(fn.name == "runtime.NumGoroutine") && fn.body.isSome | none => false
theorem run_call {f : FuncId} (hf : callable P f = true) (args : Array Value) : (callFunc f args).run P w = .ok (.enter f args) w := by
  unfold callable at hf
  cases h : P.funcs[f]? with
  | none => simp [h] at hf
  | some fn =>
    simp only [h, Bool.and_eq_true, Bool.not_eq_true'] at hf
    have hb : fn.body.isNone = false := by cases hb : fn.body <;> simp_all
    simp only [callFunc, Sem.run_bind, run_program, Result.andThen_ok, h, hf.1, hb, Bool.false_eq_true, if_false]
    rfl
theorem exec_call {ρ : Operand → Value} (hρ : ∀ f, ρ (.func f) = .func (.func f) #[] #[]) {f : FuncId} {l : List Operand} {ats : Array TypeId} {g : Option (Nat × Bool)} {dst : Option Tmp} :
    execOp ρ ⟨dst, .call { callee := .value (.func f), args := l.toArray, argTypes := ats }, ty, pos, after, g⟩ = callFunc f (l.map ρ).toArray := by
  have : execOp ρ ⟨dst, .call { callee := .value (.func f), args := l.toArray, argTypes := ats }, ty, pos, after, g⟩ = (do let d ← Deferred.ofValue (ρ (.func f)) (l.toArray.map ρ); invoke d.target d.args) := rfl
  rw [this, hρ]
  show callFunc f (#[] ++ l.toArray.map ρ ++ #[]) = _
  simp
theorem st_call {f : FuncId} {l : List Operand} {ats : Array TypeId} {R : Value → World → Prop} (hf : callable P f = true) (hc : Rt P f (l.map (ev n L)) w R) (k : ∀ v w', R v w' → St P ops Q rest n ((d, v) :: L) w') :
    St P ops Q (⟨some d, .call { callee := .value (.func f), args := l.toArray, argTypes := ats }, ty, pos, after, none⟩ :: rest) n L w := by
  refine ⟨wpList_plain rfl fun K hK => ?_⟩
  unfold Oper.wp
  rw [eval_mkA, exec_call (fun _ => rfl), run_call hf, Oper.upon_enter]
  refine Calls.mono hc fun e w' ⟨v, he, hR⟩ => ?_
  subst he
  show K ((mkA n L).put (some d) v) w'
  rw [put_mkA]
  exact hK _ _ (k v w' hR).out
theorem st_callN {f : FuncId} {l : List Operand} {ats : Array TypeId} {R : Value → World → Prop} (hf : callable P f = true) (hc : Rt P f (l.map (ev n L)) w R) (k : ∀ v w', R v w' → St P ops Q rest n L w') :
    St P ops Q (⟨none, .call { callee := .value (.func f), args := l.toArray, argTypes := ats }, ty, pos, after, none⟩ :: rest) n L w := by
  refine ⟨wpList_plain rfl fun K hK => ?_⟩
  unfold Oper.wp
  rw [eval_mkA, exec_call (fun _ => rfl), run_call hf, Oper.upon_enter]
  refine Calls.mono hc fun e w' ⟨v, he, hR⟩ => ?_
  subst he
  exact hK _ _ (k v w' hR).out
theorem st_gcall {f : FuncId} {l : List Operand} {ats : Array TypeId} {R : Value → World → Prop} {j : Nat} {b : Bool} (hg : wantQ ops n L j = .bool b) (hf : callable P f = true) (hc : Rt P f (l.map (ev n L)) w R) (k : ∀ v w', R v w' → St P ops Q rest n ((d, v) :: L) w') :
    St P ops Q (⟨some d, .call { callee := .value (.func f), args := l.toArray, argTypes := ats }, ty, pos, after, some (j, b)⟩ :: rest) n L w := by
  refine ⟨wpList_step fun K hK => ?_⟩
  have hw : Region.wanted ⟨some d, .call { callee := .value (.func f), args := l.toArray, argTypes := ats }, ty, pos, after, some (j, b)⟩ (yielded ops (mkA n L).tmps) = true := by
    show (yielded ops (mkT n.n L) j == some b) = true
    rw [yielded_mkT hg]; simp
  rw [if_pos hw]
  unfold Oper.wp
  rw [eval_mkA, exec_call (fun _ => rfl), run_call hf, Oper.upon_enter]
  refine Calls.mono hc fun e w' ⟨v, he, hR⟩ => ?_
  subst he
  show K ((mkA n L).put (some d) v) w'
  rw [put_mkA]
  exact hK _ _ (k v w' hR).out
end steps
end Go.Proofs.Ytpafbgdbjambgaa
