/- Appends onto a row of the call's own: of another slice, of a string; a fresh row with room. -/
import Derived.Test.YthacjhdodjgojaaRowsCap
import Derived.Lib.AppendStr
import Derived.Laws.AppendOwnNone
import Derived.OwnWalk
namespace Go.Proofs.Ythacjhdodjgojaa

def strB (s : ByteArray) : List Nat := s.data.toList.map (·.toNat)
theorem strB_length (s : ByteArray) : (strB s).length = s.size := by rw [strB, List.length_map, Array.length_toList]; rfl
theorem strB_lt (s : ByteArray) : ∀ b ∈ strB s, b < 256 := by
  intro b hb
  simp only [strB, List.mem_map] at hb
  obtain ⟨x, _, rfl⟩ := hb
  exact x.toNat_lt
def bytesV (l : List Nat) : List Value := l.map fun (x : Nat) => .int .u8 x
theorem bytesV_length (l : List Nat) : (bytesV l).length = l.length := by simp [bytesV]
theorem bytesV_append (l m : List Nat) : bytesV (l ++ m) = bytesV l ++ bytesV m := by simp [bytesV]
theorem strCells_bytesV (s : ByteArray) : Lib.strCells s = bytesV (strB s) := by simp [Lib.strCells, bytesV, strB]
theorem bytesV_one (l : List Nat) : ∀ u ∈ bytesV l, u.oneCell' = true := by
  intro u hu
  simp only [bytesV, List.mem_map] at hu
  obtain ⟨b, _, rfl⟩ := hu
  rfl

theorem wpList_pushs {ops : Array Oper} {rest : List Oper} {o : Oper} {a : Act} {Q : Exit → Act → World → Prop} {wr : World} (a0 : World) (hgd : o.guard = none) (s x : Operand) (t : TypeId)
    (ho : o.op = .call { callee := .builtin .append, args := #[s, x], argTypes := #[t, t] }) (e : TypeId) (i : TypeInfo) (z : Value) (bytes : Nat)
    (ht : Try.prog.underlying t = some (.slice e)) (hi : Try.prog.info? e = some i) (hz : i.zero = some z) (hsize : i.size = 1) (hby : i.bytes = bytes) (hzs : z.cells.size = 1)
    (v : Value) (n : Nat) (xs : List Value) (hs : a.eval s = v) (hown : wr.ownsRow a0.heap.size e 1 v n xs) (hw : From a0 wr) (v2 : Value) (news : List Value) (hx : a.eval x = v2) (hr : RowC wr v2 news) (h1 : ∀ u ∈ news, u.oneCell' = true)
    (hnil : ∀ m c, v2 = .slice none m c → m = 0 ∧ c = 0)
    (hroom : (n + news.length) * bytes ≤ 140737488355328) (hmax : n + news.length ≤ maxLen)
    (h : ∀ v' w', w'.ownsRow a0.heap.size e 1 v' (n + news.length) (xs ++ news) → From a0 w' → wpList Try.prog ops Q rest (a.put o.dst v') w') : wpList Try.prog ops Q (o :: rest) a wr := by
  obtain ⟨A, cap, rfl, hc1, hc2, hp⟩ := hr.parts
  cases A with
  | none =>
    obtain ⟨h0, rfl⟩ := hnil _ _ rfl
    have hnn : news = [] := List.eq_nil_of_length_eq_zero h0
    subst hnn
    refine wpList_append_own_none (P := Try.prog) hgd s x t ho a0.heap.size e i 1 ht hi v n xs hs hown hx (h v wr ?_ hw)
    simpa using hown
  | some ad =>
    refine wpList_append_own (P := Try.prog) _ hgd s x t ho a0.heap.size e i z 1 bytes ht hi hz hsize hby hzs (by decide) v n xs hs hown ad news.length cap news hx (by simp) ?_ h1 hmax hroom hw.size ?_
    · intro j u hu
      have hlt : j < news.length := (List.getElem?_eq_some_iff.1 hu).1
      obtain ⟨b, o, hA, hb, hcell⟩ := hp (by omega)
      simp only [Option.some.injEq] at hA
      subst hA
      rw [Go.WideShapes.add_plain]
      exact hcell j u hu
    · intro v' w' hown' hg _
      exact h v' w' hown' (hw.grew hg (fun k hk => (hown.lt k hk).1))

theorem step_pushs {ops : Array Oper} {o : Oper} {a : Act} {K : Act → World → Prop} {Q : Exit → Act → World → Prop} {E : Prop} {wr : World} (a0 : World) (hgd : o.guard = none) (s x : Operand) (t : TypeId)
    (ho : o.op = .call { callee := .builtin .append, args := #[s, x], argTypes := #[t, t] }) (e : TypeId) (i : TypeInfo) (z : Value) (bytes : Nat)
    (ht : Try.prog.underlying t = some (.slice e)) (hi : Try.prog.info? e = some i) (hz : i.zero = some z) (hsize : i.size = 1) (hby : i.bytes = bytes) (hzs : z.cells.size = 1)
    (v : Value) (n : Nat) (xs : List Value) (hs : a.eval s = v) (hown : wr.ownsRow a0.heap.size e 1 v n xs) (hw : From a0 wr) (v2 : Value) (news : List Value) (hx : a.eval x = v2) (hr : RowC wr v2 news) (h1 : ∀ u ∈ news, u.oneCell' = true)
    (hnil : ∀ m c, v2 = .slice none m c → m = 0 ∧ c = 0)
    (hroom : (n + news.length) * bytes ≤ 140737488355328) (hmax : n + news.length ≤ maxLen)
    (h : ∀ v' w', w'.ownsRow a0.heap.size e 1 v' (n + news.length) (xs ++ news) → From a0 w' → K (a.put o.dst v') w') : if Region.wanted o (yielded ops a.tmps) = true then Oper.wp Try.prog o a wr K Q else E := by
  have hwant : Region.wanted o (yielded ops a.tmps) = true := by simp [Region.wanted, hgd]
  rw [if_pos hwant]
  obtain ⟨A, cap, rfl, hc1, hc2, hp⟩ := hr.parts
  cases A with
  | none =>
    obtain ⟨h0, rfl⟩ := hnil _ _ rfl
    have hnn : news = [] := List.eq_nil_of_length_eq_zero h0
    subst hnn
    have hrun := run_append_owned_none (P := Try.prog) (w := wr) a0.heap.size t o.type e i 1 ht hi v n xs hown
    have hx' : a.eval x = .slice none 0 0 := hx
    unfold Oper.wp
    simp [execOp, ho, resolve, invoke, builtin, hs, hx', hrun, Result.andThen]
    exact h v wr (by simpa using hown) hw
  | some ad =>
    refine wp_append_own (P := Try.prog) wr s x t ho a0.heap.size e i z 1 bytes ht hi hz hsize hby hzs (by decide) v n xs hs hown ad news.length cap news hx (by simp) ?_ h1 hmax hroom hw.size ?_
    · intro j u hu
      have hlt : j < news.length := (List.getElem?_eq_some_iff.1 hu).1
      obtain ⟨b, o, hA, hb, hcell⟩ := hp (by omega)
      simp only [Option.some.injEq] at hA
      subst hA
      rw [Go.WideShapes.add_plain]
      exact hcell j u hu
    · intro v' w' hown' hg _
      exact h v' w' hown' (hw.grew hg (fun k hk => (hown.lt k hk).1))

theorem wpList_pushr {ops : Array Oper} {rest : List Oper} {o : Oper} {a : Act} {Q : Exit → Act → World → Prop} {wr : World} (a0 : World) (hgd : o.guard = none) (s x : Operand) (t : TypeId)
    (ho : o.op = .call { callee := .builtin .append, args := #[s, x], argTypes := #[t, t] }) (e : TypeId) (i : TypeInfo) (z : Value) (bytes : Nat)
    (ht : Try.prog.underlying t = some (.slice e)) (hi : Try.prog.info? e = some i) (hz : i.zero = some z) (hsize : i.size = 1) (hby : i.bytes = bytes) (hzs : z.cells.size = 1)
    (v : Value) (n : Nat) (xs : List Value) (hs : a.eval s = v) (hown : wr.ownsRow a0.heap.size e 1 v n xs) (hw : From a0 wr) (v2 : Value) (news : List Value) (hx : a.eval x = v2) (hr : Row wr v2 news) (h1 : ∀ u ∈ news, u.oneCell' = true)
    (hnil : ∀ m c, v2 = .slice none m c → m = 0 ∧ c = 0)
    (hroom : (n + news.length) * bytes ≤ 140737488355328) (hmax : n + news.length ≤ maxLen)
    (h : ∀ v' w', w'.ownsRow a0.heap.size e 1 v' (n + news.length) (xs ++ news) → From a0 w' → wpList Try.prog ops Q rest (a.put o.dst v') w') : wpList Try.prog ops Q (o :: rest) a wr := by
  obtain ⟨A, cap, rfl, hp⟩ := hr
  cases A with
  | none =>
    obtain ⟨h0, rfl⟩ := hnil _ _ rfl
    have hnn : news = [] := List.eq_nil_of_length_eq_zero h0
    subst hnn
    refine wpList_append_own_none (P := Try.prog) hgd s x t ho a0.heap.size e i 1 ht hi v n xs hs hown hx (h v wr ?_ hw)
    simpa using hown
  | some ad =>
    refine wpList_append_own (P := Try.prog) _ hgd s x t ho a0.heap.size e i z 1 bytes ht hi hz hsize hby hzs (by decide) v n xs hs hown ad news.length cap news hx (by simp) ?_ h1 hmax hroom hw.size ?_
    · intro j u hu
      have hlt : j < news.length := (List.getElem?_eq_some_iff.1 hu).1
      obtain ⟨b, o, hA, hb, hcell⟩ := hp (by omega)
      simp only [Option.some.injEq] at hA
      subst hA
      rw [Go.WideShapes.add_plain]
      exact hcell j u hu
    · intro v' w' hown' hg _
      exact h v' w' hown' (hw.grew hg (fun k hk => (hown.lt k hk).1))

theorem wpList_pusht {ops : Array Oper} {rest : List Oper} {o : Oper} {a : Act} {Q : Exit → Act → World → Prop} {wr : World} (a0 : World) (hgd : o.guard = none) (s x : Operand) (t u : TypeId)
    (ho : o.op = .call { callee := .builtin .append, args := #[s, x], argTypes := #[t, u] }) (e : TypeId) (i : TypeInfo)
    (ht : Try.prog.underlying t = some (.slice e)) (hu : Try.prog.underlying u = some .string) (hi : Try.prog.info? e = some i) (hz : i.zero = some (.int .u8 0)) (hsize : i.size = 1) (hby : i.bytes = 1)
    (v : Value) (n : Nat) (xs : List Nat) (hs : a.eval s = v) (hown : wr.ownsRow a0.heap.size e 1 v n (bytesV xs)) (hw : From a0 wr) (str : ByteArray) (hx : a.eval x = .string str)
    (hroom : n + str.size ≤ 140737488355328)
    (h : ∀ v' w', w'.ownsRow a0.heap.size e 1 v' (n + str.size) (bytesV (xs ++ strB str)) → From a0 w' → wpList Try.prog ops Q rest (a.put o.dst v') w') : wpList Try.prog ops Q (o :: rest) a wr := by
  refine Lib.wpList_append_own_string (P := Try.prog) _ hgd s x t u ho a0.heap.size e i ht hu hi hz hsize hby v n _ hs hown str hx (by unfold maxLen; omega) hroom hw.size ?_
  intro v' w' hown' hg _
  rw [strCells_bytesV, ← bytesV_append] at hown'
  exact h v' w' hown' (hw.grew hg (fun k hk => (hown.lt k hk).1))
end Go.Proofs.Ythacjhdodjgojaa
