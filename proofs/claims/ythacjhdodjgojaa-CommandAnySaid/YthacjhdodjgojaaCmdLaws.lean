/- Laws for commands: comparing two of them; bytes of a text, and back; which commands may be. -/
import Derived.Test.YthacjhdodjgojaaFast13
import Derived.Test.YthacjhdodjgojaaWireGet
import Derived.Laws.StructEq
namespace Go.Proofs.Ythacjhdodjgojaa
open Go.RowKit

abbrev cmdV (k c s : Int) (i t : ByteArray) : Value := .agg #[.int .i64 k, .int .i64 c, .int .i64 s, .string i, .string t]
abbrev cmdL (k c s : Int) (i t : ByteArray) : List Value := [.int .i64 k, .int .i64 c, .int .i64 s, .string i, .string t]
theorem toList_inj {a b : ByteArray} : a.toList = b.toList ↔ a = b := by
  refine ⟨fun hh => ?_, fun h => by rw [h]⟩
  rw [ByteArray.toList_eq, ByteArray.toList_eq] at hh
  obtain ⟨⟨x⟩⟩ := a
  obtain ⟨⟨y⟩⟩ := b
  simp_all
theorem eqCmd (k1 c1 s1 k2 c2 s2 : Int) (i1 t1 i2 t2 : ByteArray) (w : World) : (Op.equalIn 10000 26 (cmdV k1 c1 s1 i1 t1) (cmdV k2 c2 s2 i2 t2)).run Try.prog w = .ok (decide (k1 = k2 ∧ c1 = c2 ∧ s1 = s2 ∧ i1 = i2 ∧ t1 = t2)) w := by
  have u3 := Try.underlying3
  have a3 := Try.isAgg3
  have z3 := Try.sizeOf3
  have u9 := Try.underlying9
  have a9 := Try.isAgg9
  have z9 := Try.sizeOf9
  have hS : Try.prog.underlying 26 = some (.struct (Try.prog.fieldsOf 26)) := by kernel_rfl
  have hp : Try.prog.stoodInHeld 26 = false := by kernel_rfl
  rw [show (10000 : Nat) = 9999 + 1 from rfl, run_equalIn_agg w 9999 26 _ _ hS hp]
  simp only [Program.fieldsOf, Try.underlying26 ]
  go_simp
  simp only [toList_inj]
  by_cases h1 : k1 = k2 <;> by_cases h2 : c1 = c2 <;> by_cases h3 : s1 = s2 <;> by_cases h4 : i1 = i2 <;> by_cases h5 : t1 = t2 <;> simp [h1, h2, h3, h4, h5]
section
variable {ρ : Operand → Value} {w : World} {yt : TypeId} {x y : Operand}
theorem ro_eqlCmd {k1 c1 s1 k2 c2 s2 : Int} {i1 t1 i2 t2 : ByteArray} (hx : ρ x = cmdV k1 c1 s1 i1 t1) (hy : ρ y = cmdV k2 c2 s2 i2 t2) : RO Try.prog ρ (.binOp .eql 26 x y yt) w (.bool (decide (k1 = k2 ∧ c1 = c2 ∧ s1 = s2 ∧ i1 = i2 ∧ t1 = t2))) w := by
  refine ro_bin hx hy (run_eqGuard_agg w _ _ _ _ _ _ (by kernel_rfl)) ?_
  rw [run_eql_struct, eqCmd]
  rfl
theorem ro_convStr {v : Value} {l : List Nat} (hl : ∀ b ∈ l, b < 256) (hx : ρ x = v) (hr : RowC w v (bytesV l)) : RO Try.prog ρ (.convert 23 9 x) w (.string (strOf l)) w := fun _ _ _ _ _ => by
  subst hx
  have h := conv_str (src := 23) (dst := 9) (e := 5) (by kernel_rfl) (by kernel_rfl) (by kernel_rfl) hl hr
  simp [execOp, h]
end
theorem bytes_of (w : World) (s : ByteArray) (hs : s.size ≤ 9223372036854775807) : ∃ A cap w', (convert 9 23 (.string s)).run Try.prog w = .ok (.slice A s.size cap) w' ∧ From w w' ∧ RowC w' (.slice A s.size cap) (bytesV (strB s)) := by
  refine ⟨_, _, _, run_bytes_of_string w 9 23 5 s (by kernel_rfl) (by kernel_rfl) (by kernel_rfl), From.rfl_.d1.new _, ?_⟩
  have hge := grownCap_ge w s.size 0 5
  have hlen : (bytesV (strB s)).length = s.size := by unfold bytesV; rw [List.length_map, strB_length]
  refine ⟨⟨some ⟨w.heap.size, 0, none⟩, grownCap w s.size 0 5, by rw [hlen], fun _ => ⟨w.heap.size, 0, rfl, ?_, fun i u hu => ?_⟩⟩, some ⟨w.heap.size, 0, none⟩, _, by rw [hlen], by rw [hlen]; exact hge, grownCap_le_maxLen w s.size 0 5 hs⟩
  · show w.heap.size < (w.heap.push _).size
    simp
  · have hi : i < s.size := by
      have := (List.getElem?_eq_some_iff.1 hu).1
      omega
    have hu2 : (bytesRow s (grownCap w s.size 0 5))[i]? = some u := by
      unfold bytesRow
      rw [Array.getElem?_append_left (by simp; exact hi), ← hu]
      unfold bytesV strB
      simp
      rfl
    have hb : (w.drew.alloc (.cells (bytesRow s (grownCap w s.size 0 5)) 5 ((bytesRow s (grownCap w s.size 0 5)).size, (bytesRow s (grownCap w s.size 0 5)).size + 1))).heap[w.heap.size]? = some (.cells (bytesRow s (grownCap w s.size 0 5)) 5 ((bytesRow s (grownCap w s.size 0 5)).size, (bytesRow s (grownCap w s.size 0 5)).size + 1)) := by
      show (w.heap.push _)[w.heap.size]? = _
      simp
    rw [Nat.zero_add]
    unfold World.cell?
    simp only [hb]
    simpa using hu2
theorem st_convB {ops : Array Oper} {Q : Exit → Act → World → Prop} {rest : List Oper} {n : Nat} {L : List (Nat × Value)} {w : World} {ty : TypeId} {pos : String} {after : Array Edge} {d : Nat} {x : Operand} {s : ByteArray} (hx : ev n L x = .string s) (hs : s.size ≤ 9223372036854775807)
    (k : ∀ A c w', From w w' → RowC w' (.slice A s.size c) (bytesV (strB s)) → St Try.prog ops Q rest n ((d, .slice A s.size c) :: L) w') : St Try.prog ops Q (⟨some d, .convert 9 23 x, ty, pos, after, none⟩ :: rest) n L w := by
  obtain ⟨A, c, w', h1, h2, h3⟩ := bytes_of w s hs
  refine st_val (v := .slice A s.size c) (w' := w') (fun _ _ _ _ _ => ?_) (k A c w' h2 h3)
  simp only [execOp, hx, Sem.run_bind, h1, Result.andThen_ok]
  rfl
/-! ### which commands may be -/
def OkC (k c s : Int) (i t : ByteArray) : Prop := (k = 1 ∧ c = 0 ∧ s = 0 ∧ i.size = 0 ∧ t.size = 0) ∨ (k ≠ 1 ∧ (1 ≤ c ∧ c < 1099511627776) ∧ (1 ≤ s ∧ s < 1099511627776) ∧ i.size + t.size ≤ 2048 ∧ (k = 2 ∨ (k = 3 ∧ t.size = 0) ∨ (k = 4 ∧ i.size = 0 ∧ t.size = 0)))
instance (k c s : Int) (i t : ByteArray) : Decidable (OkC k c s i t) := by unfold OkC; exact inferInstance
theorem size0 {s : ByteArray} : s = ⟨#[]⟩ ↔ s.size = 0 := by
  refine ⟨fun h => by rw [h]; rfl, fun h => ?_⟩
  obtain ⟨d⟩ := s
  have : d.size = 0 := h
  rw [Array.size_eq_zero_iff] at this
  rw [this]
theorem size0' {s : ByteArray} : ⟨#[]⟩ = s ↔ s.size = 0 := by rw [eq_comm]; exact size0
theorem beq0 (s : ByteArray) : (s.toList == (⟨#[]⟩ : ByteArray).toList) = decide (s.size = 0) := by
  rw [Bool.eq_iff_iff, beq_iff_eq, decide_eq_true_eq, toList_inj]
  exact size0
end Go.Proofs.Ythacjhdodjgojaa
