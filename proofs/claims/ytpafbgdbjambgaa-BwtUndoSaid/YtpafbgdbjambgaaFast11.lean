/- ROWS OF THE CALL'S OWN, CHANGED IN PLACE: copy, clear, append within the row and beyond it; elements of any number of cells. -/
import Derived.Test.YtpafbgdbjambgaaFast10
import Derived.Laws.CopyRow
import Derived.Lib.LazyBuf
import Derived.Lib.AppendZerosOnto
import Derived.Lib.Overlaps
namespace Go.Proofs.Ytpafbgdbjambgaa
open Go.RowKit

/-! ### lists of elements, flat -/
section
variable {α : Type} {f : α → List Value} {s : Nat}
theorem flat_len (hf : ∀ x, (f x).length = s) : ∀ (L : List α), (L.flatMap f).length = L.length * s
  | [] => by simp
  | x :: r => by rw [List.flatMap_cons, List.length_append, hf, flat_len hf r, List.length_cons, Nat.succ_mul]; omega
theorem flat_take (hf : ∀ x, (f x).length = s) : ∀ (L : List α) (k : Nat), (L.flatMap f).take (k * s) = (L.take k).flatMap f
  | [], k => by simp
  | x :: r, 0 => by simp
  | x :: r, k + 1 => by
    rw [List.flatMap_cons, List.take_succ_cons, List.flatMap_cons, ← flat_take hf r k, List.take_append, hf]
    rw [show (k + 1) * s - s = k * s by rw [Nat.succ_mul]; omega, List.take_of_length_le (by rw [hf, Nat.succ_mul]; omega)]
theorem flat_drop (hf : ∀ x, (f x).length = s) : ∀ (L : List α) (k : Nat), (L.flatMap f).drop (k * s) = (L.drop k).flatMap f
  | [], k => by simp
  | x :: r, 0 => by simp
  | x :: r, k + 1 => by
    rw [List.flatMap_cons, List.drop_succ_cons, ← flat_drop hf r k, List.drop_append, hf]
    rw [show (k + 1) * s - s = k * s by rw [Nat.succ_mul]; omega, List.drop_of_length_le (by rw [hf, Nat.succ_mul]; omega), List.nil_append]
theorem flat_at (hf : ∀ x, (f x).length = s) (L : List α) (i : Nat) (hi : i < L.length) (j : Nat) (hj : j < s) : (L.flatMap f)[i * s + j]? = (f L[i])[j]? := by
  have h1 : ((L.flatMap f).drop (i * s))[j]? = (L.flatMap f)[i * s + j]? := by rw [List.getElem?_drop]
  rw [← h1, flat_drop hf, List.drop_eq_getElem_cons hi, List.flatMap_cons, List.getElem?_append_left (by rw [hf]; exact hj)]
theorem flat_one {L : List α} (h : ∀ x ∈ L, ∀ u ∈ f x, u.oneCell' = true) : ∀ u ∈ L.flatMap f, u.oneCell' = true := fun u hu => by
  obtain ⟨x, hx, hu⟩ := List.mem_flatMap.1 hu
  exact h x hx u hu
/-- from this address on lie these, s cells each -/
def RowK (s : Nat) (f : α → List Value) (w : World) (A : Option Addr) (L : List α) : Prop := 0 < L.length → ∃ b o, A = some ⟨b, o, none⟩ ∧ ∀ i (h : i < L.length), w.rangeAt b (o + i * s) (f L[i])
theorem RowK.from_ {w w' : World} {A : Option Addr} {L : List α} (h : RowK s f w A L) (hF : From w w') : RowK s f w' A L := fun h0 =>
  let ⟨b, o, hA, hc⟩ := h h0
  ⟨b, o, hA, fun i hi => rangeF hF (hc i hi)⟩
theorem RowK.nil {w : World} {A : Option Addr} : RowK s f w A [] := fun h => absurd h (by simp)
theorem RowK.flat (hf : ∀ x, (f x).length = s) {w : World} {A : Option Addr} {L : List α} (h : RowK s f w A L) : 0 < L.length → ∃ b o, A = some ⟨b, o, none⟩ ∧ w.rangeAt b o (L.flatMap f) := fun h0 => by
  obtain ⟨b, o, hA, hc⟩ := h h0
  refine ⟨b, o, hA, fun j v hv => ?_⟩
  have hlt : j < L.length * s := by
    rw [← flat_len hf]
    rcases Nat.lt_or_ge j (L.flatMap f).length with a | a
    · exact a
    · rw [List.getElem?_eq_none a] at hv; cases hv
  have hs : 0 < s := by
    rcases Nat.eq_zero_or_pos s with h | h
    · subst h; omega
    · exact h
  have hi : j / s < L.length := by rw [Nat.div_lt_iff_lt_mul hs]; exact hlt
  have hj : j / s * s + j % s = j := by rw [Nat.mul_comm]; exact Nat.div_add_mod j s
  rw [← hj, flat_at hf L _ hi _ (Nat.mod_lt _ hs)] at hv
  have := hc _ hi _ v hv
  rwa [Nat.add_assoc, hj] at this
theorem RowK.drop {w : World} {b o : Nat} {L : List α} (h : RowK s f w (some ⟨b, o, none⟩) L) (k : Nat) (hk : k ≤ L.length) : RowK s f w (some ⟨b, o + k * s, none⟩) (L.drop k) := fun h0 => by
  rw [List.length_drop] at h0
  obtain ⟨b', o', hA, hc⟩ := h (by omega)
  simp only [Option.some.injEq, Addr.mk.injEq, and_true] at hA
  obtain ⟨rfl, rfl⟩ := hA
  refine ⟨b, o + k * s, rfl, fun i hi => ?_⟩
  rw [List.getElem_drop]
  have := hc (k + i) (by rw [List.length_drop] at hi; omega)
  rwa [Nat.add_mul, ← Nat.add_assoc] at this
theorem RowK.take {w : World} {A : Option Addr} {L : List α} (h : RowK s f w A L) (k : Nat) : RowK s f w A (L.take k) := fun h0 => by
  rw [List.length_take] at h0
  obtain ⟨b, o, hA, hc⟩ := h (by omega)
  refine ⟨b, o, hA, fun i hi => ?_⟩
  rw [List.getElem_take]
  exact hc i (by rw [List.length_take] at hi; omega)
theorem RowK.own (hf : ∀ x, (f x).length = s) (hs : 0 < s) {w : World} {base e n c : Nat} {A : Option Addr} {L : List α} (h : w.ownsRow base e s (.slice A n c) n (L.flatMap f)) : L.length = n ∧ RowK s f w A L := by
  have hn : L.length = n := by
    have := h.1
    rw [flat_len hf] at this
    exact Nat.eq_of_mul_eq_mul_right hs this
  refine ⟨hn, fun h0 => ?_⟩
  obtain ⟨g, rfl⟩ := own_some h (by omega)
  refine ⟨g, 0, rfl, fun i hi j v hv => ?_⟩
  have hj : j < s := by
    rw [← hf L[i]]
    rcases Nat.lt_or_ge j (f L[i]).length with a | a
    · exact a
    · rw [List.getElem?_eq_none a] at hv; cases hv
  have hlt : i * s + j < n * s := by
    have : (i + 1) * s ≤ n * s := Nat.mul_le_mul_right s (by omega)
    rw [Nat.succ_mul] at this
    omega
  rw [Nat.zero_add, h.cellAt _ hlt, flat_at hf L i hi j hj]
  exact hv
end

/-! ### an own row as a block -/
theorem own_blk {w : World} {base e size n c : Nat} {A : Option Addr} {xs : List Value} (h : w.ownsRow base e size (.slice A n c) n xs) (hn : 0 < n) :
    ∃ g cur, A = some ⟨g, 0, none⟩ ∧ base ≤ g ∧ Blk w g e (List.toArray cur) ∧ n ≤ c ∧ c ≤ maxLen ∧ cur.length = c * size ∧ cur.take (n * size) = xs := by
  rcases h.2 with ⟨_, h0⟩ | ⟨g, cap, cur, hv, hg, hh, h1, h2, h3, h4⟩
  · omega
  · simp only [Value.slice.injEq, true_and] at hv
    obtain ⟨rfl, rfl⟩ := hv
    exact ⟨g, cur.toList, rfl, hg, by simpa [Blk] using hh, h1, h2, by simpa using h3, h4⟩
theorem own_of {w : World} {base e size n c g : Nat} {cur xs : List Value} (hg : base ≤ g) (hb : Blk w g e cur.toArray) (h1 : n ≤ c) (h2 : c ≤ maxLen) (h3 : cur.length = c * size) (h4 : cur.take (n * size) = xs) :
    w.ownsRow base e size (.slice (some ⟨g, 0, none⟩) n c) n xs := by
  refine ⟨?_, .inr ⟨g, c, cur.toArray, rfl, hg, hb, h1, h2, by simpa using h3, by simpa using h4⟩⟩
  rw [← h4, List.length_take, h3]
  exact Nat.min_eq_left (Nat.mul_le_mul_right _ h1)
theorem over_len (cs vs : List Value) (o : Nat) (h : o + vs.length ≤ cs.length) : (over cs o vs).length = cs.length := by simp [over]; omega
theorem over_take (cs vs : List Value) (o k : Nat) (h : o + vs.length ≤ k) (hk : k ≤ cs.length) : (over cs o vs).take k = over (cs.take k) o vs := by
  unfold over
  rw [List.take_append, List.take_of_length_le (by simp; omega)]
  rw [List.take_take, Nat.min_eq_left (by omega), List.drop_take]
  congr 2
  simp
  omega
theorem over_take_lo (cs vs : List Value) (o k : Nat) (h : k ≤ o) (ho : o ≤ cs.length) : (over cs o vs).take k = cs.take k := by
  unfold over
  rw [List.append_assoc, List.take_append_of_le_length (by simp; omega), List.take_take, Nat.min_eq_left h]
theorem over_nil (cs : List Value) (o : Nat) : over cs o [] = cs := by simp [over]
theorem over_at (cs vs : List Value) (o j : Nat) (h : o + vs.length ≤ cs.length) : (over cs o vs)[j]? = if o ≤ j ∧ j < o + vs.length then vs[j - o]? else cs[j]? := by
  unfold over
  by_cases h1 : j < o
  · rw [if_neg (by omega), List.append_assoc, List.getElem?_append_left (by simp; omega), List.getElem?_take_of_lt h1]
  · by_cases h2 : j < o + vs.length
    · rw [if_pos ⟨by omega, h2⟩, List.append_assoc, List.getElem?_append_right (by simp; omega), List.getElem?_append_left (by simp; omega)]
      congr 1
      simp
      omega
    · rw [if_neg (by omega), List.getElem?_append_right (by simp; omega), List.getElem?_drop]
      congr 1
      simp
      omega

section
variable {P : Program} {ρ : Operand → Value} {w : World}
theorem sz_of {t s : Nat} (h : sizeQ P t = some s) : ∃ i, P.info? t = some i ∧ i.size = s := by
  unfold sizeQ at h
  cases hi : P.info? t with
  | none => simp [hi] at h
  | some i => exact ⟨i, rfl, by simpa [hi] using h⟩
/-- cells written over a block that is known whole -/
theorem run_overB {g o : Nat} {u : TypeId} {cur vs : List Value} {A : Option Addr} (hA : 0 < vs.length → A = some ⟨g, o, none⟩) (hb : Blk w g u cur.toArray) (hfit : o + vs.length ≤ cur.length) (h1 : ∀ v ∈ vs, v.oneCell' = true) :
    ∃ w', (match A with | some a => storeCells a vs | none => (pure () : Sem Unit)).run P w = .ok () w' ∧ Only g w w' ∧ Blk w' g u (over cur o vs).toArray := by
  cases vs with
  | nil =>
    refine ⟨w, ?_, Only.rfl_, by rw [over_nil]; exact hb⟩
    cases A <;> simp [storeCells]
  | cons v vs =>
    obtain rfl := hA (by simp)
    have := run_storeCells_at P g o u (v :: vs) 0 cur.toArray w hb (by simpa using hfit) h1
    refine ⟨_, this, ?_, ?_⟩
    · exact ⟨rfl, rfl, rfl, by simp [World.setRow], fun k hk => setRow_other w g k _ hk⟩
    · have h2 := setRow_heap w g cur.toArray ((cur.toArray.toList.take (o + 0) ++ (v :: vs) ++ cur.toArray.toList.drop (o + 0 + (v :: vs).length)).toArray) u (0, 0) hb
      exact h2
theorem run_loadB {cs : List Value} {n : Nat} {A : Option Addr} (hn : cs.length = n) (h : 0 < cs.length → ∃ b o, A = some ⟨b, o, none⟩ ∧ w.rangeAt b o cs) :
    (match A with | some a => loadCells a n | none => (pure #[] : Sem (Array Value))).run P w = .ok cs.toArray w := by
  subst hn
  cases cs with
  | nil => cases A <;> simp [loadCells, loadCellsFrom]
  | cons c cs =>
    obtain ⟨b, o, rfl, hr⟩ := h (by simp)
    exact run_loadCells_list (P := P) w ⟨b, o, none⟩ (c :: cs) (fun j v hv => by rw [Addr.add_mid]; exact hr j v hv)
/-- copy(dst, src) into a block that is known whole -/
theorem ro_copyB {d s : Operand} {dT sT e size g o m c j c2 : Nat} {A A2 : Option Addr} {u : TypeId} {cur news : List Value} (ht : elemQ P dT = some (e, size)) (hd : ρ d = .slice A m c) (hs : ρ s = .slice A2 j c2) (hn : news.length = min j m * size)
    (hA : 0 < news.length → A = some ⟨g, o, none⟩) (hsrc : 0 < news.length → ∃ b o, A2 = some ⟨b, o, none⟩ ∧ w.rangeAt b o news) (hb : Blk w g u cur.toArray) (hfit : o + news.length ≤ cur.length) (h1 : ∀ v ∈ news, v.oneCell' = true) :
    ∃ w', RO P ρ (.call { callee := .builtin .copy, args := #[d, s], argTypes := #[dT, sT] }) w (.int .i64 (min j m : Nat)) w' ∧ Only g w w' ∧ Blk w' g u (over cur o news).toArray := by
  obtain ⟨hu, hsz⟩ := elem_of ht
  obtain ⟨i, hi, hs2⟩ := sz_of hsz
  subst hs2
  obtain ⟨w', hst, ho, hbl⟩ := run_overB (P := P) (A := A) hA hb hfit h1
  have hl := run_loadB (P := P) (n := min j m * i.size) hn hsrc
  have key : ∀ ty, (Builtin.copy_ #[dT, sT] ty #[.slice A m c, .slice A2 j c2]).run P w = .ok (.int .i64 (min j m : Nat)) w' := fun ty => by
    have e1 : Nat.min j m = min j m := rfl
    cases A2 with
    | none =>
      cases A with
      | none => simp_all [Builtin.copy_, run_underlying hu, Builtin.lenOf, Builtin.firstCells, sizeOf, typeInfo, hi, goInt]
      | some a => simp_all [Builtin.copy_, run_underlying hu, Builtin.lenOf, Builtin.firstCells, sizeOf, typeInfo, hi, goInt]
    | some a2 =>
      simp only at hl
      cases A with
      | none => simp_all [Builtin.copy_, run_underlying hu, Builtin.lenOf, Builtin.firstCells, sizeOf, typeInfo, hi, goInt]
      | some a => simp_all [Builtin.copy_, run_underlying hu, Builtin.lenOf, Builtin.firstCells, sizeOf, typeInfo, hi, goInt]
  refine ⟨w', fun dst ty pos after gg => ?_, ho, hbl⟩
  unfold execOp
  simp only [resolve, invoke, builtin, Sem.run_bind, Sem.run_pure, Result.andThen_ok, List.map_toArray, List.map_cons, List.map_nil, hd, hs, key]
/-- clear(s), s within a block that is known whole -/
theorem ro_clearB {s : Operand} {t e size by_ g o n c : Nat} {A : Option Addr} {u : TypeId} {z : Value} {cur : List Value} (hq : litQ P t = some (e, size, by_, z)) (hzs : z.cells.size = size) (hs : ρ s = .slice A n c)
    (hA : 0 < n * size → A = some ⟨g, o, none⟩) (hb : Blk w g u cur.toArray) (hfit : o + n * size ≤ cur.length) (h1 : ∀ v ∈ z.cells.toList, v.oneCell' = true) :
    ∃ w' zs, RO P ρ (.call { callee := .builtin .clear, args := #[s], argTypes := #[t] }) w (.tuple #[]) w' ∧ Only g w w' ∧ zs.length = n * size ∧ Blk w' g u (over cur o zs).toArray := by
  obtain ⟨i, hu, hi, hsz, _, hz⟩ := lit_of hq
  have hzc : (Builtin.zeroCells z.cells n).toList.length = n * size := by simp [Builtin.zeroCells, hzs]
  have hz1 : ∀ v ∈ (Builtin.zeroCells z.cells n).toList, v.oneCell' = true := fun v hv => by
    simp only [Builtin.zeroCells, Array.toList_map, List.mem_map, Array.toList_range, List.mem_range] at hv
    obtain ⟨k, hk, rfl⟩ := hv
    have hz0 : 0 < z.cells.size := by
      rcases Nat.eq_zero_or_pos z.cells.size with h | h
      · rw [h] at hk; omega
      · exact h
    refine h1 _ ?_
    rw [getElem!_pos z.cells (k % z.cells.size) (Nat.mod_lt _ hz0)]
    exact Array.mem_toList_iff.2 (Array.getElem_mem _)
  obtain ⟨w', hst, ho, hbl⟩ := run_overB (P := P) (A := A) (vs := (Builtin.zeroCells z.cells n).toList) (by rw [hzc]; exact hA) hb (by rw [hzc]; exact hfit) hz1
  have hzv : (zeroValue e).run P w = .ok z w := by simp [zeroValue, typeInfo, hi, hz]
  by_cases h0 : n = 0
  · subst h0
    refine ⟨w, [], fun dst ty pos after gg => ?_, Only.rfl_, by simp, by rw [over_nil]; exact hb⟩
    unfold execOp
    cases A <;> simp [resolve, invoke, builtin, hs, Builtin.clear_, run_underlying hu]
  · obtain ⟨k, rfl⟩ : ∃ k, n = k + 1 := ⟨n - 1, by omega⟩
    refine ⟨w', _, fun dst ty pos after gg => ?_, ho, hzc, hbl⟩
    unfold execOp
    cases A with
    | none => simp_all [resolve, invoke, builtin, Builtin.clear_, run_underlying hu]
    | some a => simp_all [resolve, invoke, builtin, Builtin.clear_, run_underlying hu]
/-- append(s, x...) where there is room, in place -/
theorem ro_appendR {s x : Operand} {t e size g m cap j c2 : Nat} {A2 : Option Addr} {cur news : List Value} (ht : elemQ P t = some (e, size)) (hs : ρ s = .slice (some ⟨g, 0, none⟩) m cap) (hx : ρ x = .slice A2 j c2) (hl : news.length = j * size)
    (hsrc : 0 < news.length → ∃ b o, A2 = some ⟨b, o, none⟩ ∧ w.rangeAt b o news) (hb : Blk w g e cur.toArray) (h1 : ∀ v ∈ news, v.oneCell' = true) (hroom : m + j ≤ cap) (hfit : m * size + news.length ≤ cur.length) :
    ∃ w', RO P ρ (.call { callee := .builtin .append, args := #[s, x], argTypes := #[t, t] }) w (.slice (some ⟨g, 0, none⟩) (m + j) cap) w' ∧ Only g w w' ∧ Blk w' g e (over cur (m * size) news).toArray := by
  obtain ⟨hu, hsz⟩ := elem_of ht
  obtain ⟨i, hi, hs2⟩ := sz_of hsz
  subst hs2
  obtain ⟨w', hst, ho, hbl⟩ := run_overB (P := P) (A := some ⟨g, m * i.size, none⟩) (o := m * i.size) (fun _ => rfl) hb hfit h1
  have hld := run_loadB (P := P) (n := j * i.size) hl hsrc
  have key : ∀ ty, (Builtin.append_ #[t, t] ty #[.slice (some ⟨g, 0, none⟩) m cap, .slice A2 j c2]).run P w = .ok (.slice (some ⟨g, 0, none⟩) (m + j) cap) w' := fun ty => by
    have hf : (Builtin.firstCells i.size j (.slice A2 j c2)).run P w = .ok news.toArray w := by cases A2 <;> exact hld
    simp only at hst
    simp [Builtin.append_, run_underlying hu, sizeOf, typeInfo, hi, Builtin.lenOf, hroom, hf, Addr.add_lit, hst]
  refine ⟨w', fun dst ty pos after gg => ?_, ho, hbl⟩
  unfold execOp
  simp only [resolve, invoke, builtin, Sem.run_bind, Sem.run_pure, Result.andThen_ok, List.map_toArray, List.map_cons, List.map_nil, hs, hx, key]
/-- append(s, make(T, k)...) beyond the room -/
theorem ro_appendZ {s x : Operand} {t tn e size by_ m cap k : Nat} {A : Option Addr} {z : Value} {kn : IntKind} {olds : List Value} (hq : litQ P t = some (e, size, by_, z)) (htn : P.underlying tn = some (.int kn)) (hzs : z.cells.size = size) (hs0 : 0 < size)
    (hs : ρ s = .slice A m cap) (hx : ρ x = .int .i64 (k : Nat)) (hol : olds.length = m * size) (hold : 0 < olds.length → ∃ b o, A = some ⟨b, o, none⟩ ∧ w.rangeAt b o olds) (h0 : 0 < k) (hg : cap < m + k) (h63 : m + k ≤ maxLen) (hby : (m + k) * by_ ≤ 140737488355328) (hmc : m ≤ cap) :
    ∃ c' w' cur, RO P ρ (.call { callee := .builtin .append, args := #[s, x], argTypes := #[t, tn] }) w (.slice (some ⟨w.heap.size, 0, none⟩) (m + k) c') w' ∧ From w w' ∧ Blk w' w.heap.size e (List.toArray cur) ∧ m + k ≤ c' ∧ c' ≤ maxLen ∧ cur.length = c' * size ∧ cur.take (m * size) = olds := by
  obtain ⟨i, hu, hi, hsz, hb, hz⟩ := lit_of hq
  subst hsz
  subst hb
  have hld : (Builtin.firstCells i.size m (.slice A m cap)).run P w.drew = .ok olds.toArray w.drew := by
    have := run_loadB (P := P) (w := w.drew) (n := m * i.size) hol (fun h => let ⟨b, o, h1, h2⟩ := hold h; ⟨b, o, h1, fun j v hv => h2 j v hv⟩)
    cases A <;> exact this
  have hnx : Builtin.nextslicecap (m + k) cap * i.bytes ≤ 281474976710656 := growslice_fits hg hby
  have hrun := fun ty => Lib.run_append_grow_zeros (P := P) w t tn ty e i z .i64 kn hu htn hi hz A m cap olds hld k h0 hs0 hg (by unfold maxLen at h63; omega) (by
    have : k * i.bytes ≤ (m + k) * i.bytes := Nat.mul_le_mul_right _ (by omega)
    omega) hnx
  have hcge := grownCap_ge w (m + k) cap e
  have hcle := grownCap_le_maxLen w (m + k) cap e h63
  generalize grownCap w (m + k) cap e = c' at hrun hcge hcle
  refine ⟨c', w.drew.alloc (.cells (olds.toArray ++ Builtin.zeroCells z.cells k ++ Builtin.zeroCells z.cells (c' - (m + k))) e), olds ++ (Builtin.zeroCells z.cells k).toList ++ (Builtin.zeroCells z.cells (c' - (m + k))).toList, fun dst ty pos after gg => ?_, From.rfl_.d1.new _, ?_, hcge, hcle, ?_, ?_⟩
  · unfold execOp
    simp only [resolve, invoke, builtin, Sem.run_bind, Sem.run_pure, Result.andThen_ok, List.map_toArray, List.map_cons, List.map_nil, hs, hx, hrun]
  · have := Blk.new w.drew e (olds.toArray ++ Builtin.zeroCells z.cells k ++ Builtin.zeroCells z.cells (c' - (m + k)))
    have e1 : (olds ++ (Builtin.zeroCells z.cells k).toList ++ (Builtin.zeroCells z.cells (c' - (m + k))).toList).toArray = olds.toArray ++ Builtin.zeroCells z.cells k ++ Builtin.zeroCells z.cells (c' - (m + k)) := by
      apply Array.toList_inj.1
      simp
    rw [e1]
    exact this
  · simp only [List.length_append, Array.length_toList, size_zeroCells, hzs, hol, ← Nat.add_mul]
    congr 1
    omega
  · rw [List.append_assoc, List.take_append_of_le_length (by omega), List.take_of_length_le (by omega)]
end
end Go.Proofs.Ytpafbgdbjambgaa
