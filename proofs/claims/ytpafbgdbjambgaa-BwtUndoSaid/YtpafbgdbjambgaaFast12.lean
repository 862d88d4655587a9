/- STEPS: copy, clear, append in place; slices of three indexes; an own row's elements written over. -/
import Derived.Test.YtpafbgdbjambgaaFast11
namespace Go.Proofs.Ytpafbgdbjambgaa
open Go.RowKit
section
variable {P : Program} {ops : Array Oper} {Q : Exit → Act → World → Prop} {rest : List Oper} {n : Fr} {L : List (Nat × Value)} {w : World} {ty : TypeId} {pos : String} {after : Array Edge} {d : Nat} {t : TypeId} {x s : Operand}
theorem st_valN {op : Op} {v : Value} {w' : World} (hr : RO P (ev n L) op w v w') (k : St P ops Q rest n L w') : St P ops Q (⟨none, op, ty, pos, after, none⟩ :: rest) n L w := by
  refine ⟨wpList_plain rfl fun K hK => ?_⟩
  unfold Oper.wp
  rw [eval_mkA, hr, Oper.upon_value]
  exact hK _ _ k.out
theorem st_copyB {dT sT e size g o m c j c2 : Nat} {A A2 : Option Addr} {u : TypeId} {cur news : List Value} (ht : elemQ P dT = some (e, size)) (hd : ev n L x = .slice A m c) (hs : ev n L s = .slice A2 j c2) (hn : news.length = min j m * size)
    (hA : 0 < news.length → A = some ⟨g, o, none⟩) (hsrc : 0 < news.length → ∃ b o, A2 = some ⟨b, o, none⟩ ∧ w.rangeAt b o news) (hb : Blk w g u cur.toArray) (hfit : o + news.length ≤ cur.length) (h1 : ∀ v ∈ news, v.oneCell' = true)
    (k : ∀ w', Only g w w' → Blk w' g u (over cur o news).toArray → St P ops Q rest n ((d, .int .i64 (min j m : Nat)) :: L) w') :
    St P ops Q (⟨some d, .call { callee := .builtin .copy, args := #[x, s], argTypes := #[dT, sT] }, ty, pos, after, none⟩ :: rest) n L w :=
  let ⟨w', hr, ho, hb'⟩ := ro_copyB (sT := sT) ht hd hs hn hA hsrc hb hfit h1
  st_val hr (k w' ho hb')
theorem st_copyBN {dT sT e size g o m c j c2 : Nat} {A A2 : Option Addr} {u : TypeId} {cur news : List Value} (ht : elemQ P dT = some (e, size)) (hd : ev n L x = .slice A m c) (hs : ev n L s = .slice A2 j c2) (hn : news.length = min j m * size)
    (hA : 0 < news.length → A = some ⟨g, o, none⟩) (hsrc : 0 < news.length → ∃ b o, A2 = some ⟨b, o, none⟩ ∧ w.rangeAt b o news) (hb : Blk w g u cur.toArray) (hfit : o + news.length ≤ cur.length) (h1 : ∀ v ∈ news, v.oneCell' = true)
    (k : ∀ w', Only g w w' → Blk w' g u (over cur o news).toArray → St P ops Q rest n L w') :
    St P ops Q (⟨none, .call { callee := .builtin .copy, args := #[x, s], argTypes := #[dT, sT] }, ty, pos, after, none⟩ :: rest) n L w :=
  let ⟨w', hr, ho, hb'⟩ := ro_copyB (sT := sT) ht hd hs hn hA hsrc hb hfit h1
  st_valN hr (k w' ho hb')
theorem st_clearB {e size by_ g o m c : Nat} {A : Option Addr} {u : TypeId} {z : Value} {cur : List Value} (hq : litQ P t = some (e, size, by_, z)) (hzs : z.cells.size = size) (hs : ev n L s = .slice A m c)
    (hA : 0 < m * size → A = some ⟨g, o, none⟩) (hb : Blk w g u cur.toArray) (hfit : o + m * size ≤ cur.length) (h1 : ∀ v ∈ z.cells.toList, v.oneCell' = true)
    (k : ∀ w' zs, Only g w w' → zs.length = m * size → Blk w' g u (over cur o zs).toArray → St P ops Q rest n L w') :
    St P ops Q (⟨none, .call { callee := .builtin .clear, args := #[s], argTypes := #[t] }, ty, pos, after, none⟩ :: rest) n L w :=
  let ⟨w', zs, hr, ho, hl, hb'⟩ := ro_clearB hq hzs hs hA hb hfit h1
  st_valN hr (k w' zs ho hl hb')
theorem st_appendR {e size g m cap j c2 : Nat} {A2 : Option Addr} {cur news : List Value} (ht : elemQ P t = some (e, size)) (hs : ev n L s = .slice (some ⟨g, 0, none⟩) m cap) (hx : ev n L x = .slice A2 j c2) (hl : news.length = j * size)
    (hsrc : 0 < news.length → ∃ b o, A2 = some ⟨b, o, none⟩ ∧ w.rangeAt b o news) (hb : Blk w g e cur.toArray) (h1 : ∀ v ∈ news, v.oneCell' = true) (hroom : m + j ≤ cap) (hfit : m * size + news.length ≤ cur.length)
    (k : ∀ w', Only g w w' → Blk w' g e (over cur (m * size) news).toArray → St P ops Q rest n ((d, .slice (some ⟨g, 0, none⟩) (m + j) cap) :: L) w') :
    St P ops Q (⟨some d, .call { callee := .builtin .append, args := #[s, x], argTypes := #[t, t] }, ty, pos, after, none⟩ :: rest) n L w :=
  let ⟨w', hr, ho, hb'⟩ := ro_appendR ht hs hx hl hsrc hb h1 hroom hfit
  st_val hr (k w' ho hb')
theorem st_appendZ {tn e size by_ m cap k0 : Nat} {A : Option Addr} {z : Value} {kn : IntKind} {olds : List Value} (hq : litQ P t = some (e, size, by_, z)) (htn : P.underlying tn = some (.int kn)) (hzs : z.cells.size = size) (hs0 : 0 < size)
    (hs : ev n L s = .slice A m cap) (hx : ev n L x = .int .i64 (k0 : Nat)) (hol : olds.length = m * size) (hold : 0 < olds.length → ∃ b o, A = some ⟨b, o, none⟩ ∧ w.rangeAt b o olds) (h0 : 0 < k0) (hg : cap < m + k0) (h63 : m + k0 ≤ maxLen) (hby : (m + k0) * by_ ≤ 140737488355328) (hmc : m ≤ cap)
    (k : ∀ g c' w' cur, g = w.heap.size → From w w' → Blk w' g e (List.toArray cur) → m + k0 ≤ c' → c' ≤ maxLen → cur.length = c' * size → cur.take (m * size) = olds → St P ops Q rest n ((d, .slice (some ⟨g, 0, none⟩) (m + k0) c') :: L) w') :
    St P ops Q (⟨some d, .call { callee := .builtin .append, args := #[s, x], argTypes := #[t, tn] }, ty, pos, after, none⟩ :: rest) n L w :=
  let ⟨c', w', cur, hr, hF, hb, h1, h2, h3, h4⟩ := ro_appendZ hq htn hzs hs0 hs hx hol hold h0 hg h63 hby hmc
  st_val hr (k _ c' w' cur rfl hF hb h1 h2 h3 h4)
theorem ro_cap {ρ : Operand → Value} {A : Option Addr} {m c : Nat} (ht : (elemQ P t).isSome = true) (hx : ρ x = .slice A m c) : RO P ρ (.call { callee := .builtin .cap, args := #[x], argTypes := #[t] }) w (.int .i64 c) w := fun _ _ _ _ _ => by
  obtain ⟨⟨e, sz⟩, he⟩ := Option.isSome_iff_exists.mp ht
  obtain ⟨hu, _⟩ := elem_of he
  simp [BigFrame.execOp_builtin, BigFrame.builtin_cap, Builtin.cap_, run_underlying hu, hx, goInt]
/-- a slice of three indexes -/
theorem ro_slice3 {ρ : Operand → Value} {e sz l h mx m c : Nat} {A : Option Addr} {y1 y2 y3 : Operand} {k1 k2 k3 : IntKind} (ht : elemQ P t = some (e, sz)) (hx : ρ x = .slice A m c) (hl : ρ y1 = .int k1 (l : Nat)) (hh : ρ y2 = .int k2 (h : Nat)) (hm : ρ y3 = .int k3 (mx : Nat)) (h1 : l ≤ h) (h2 : h ≤ mx) (h3 : mx ≤ c) :
    RO P ρ (.slice t x (some y1) (some y2) (some y3)) w (.slice (restOf A mx l sz) (h - l) (mx - l)) w := fun _ _ _ _ _ => by
  obtain ⟨hu, hs⟩ := elem_of ht
  have hE : P.elem t = e := by simp [Program.elem, hu]
  have hu' : P.underlying t = some (.slice (P.elem t)) := by rw [hE]; exact hu
  simp only [execOp, hx, hl, hh, hm, Option.map_some, Sem.run_bind]
  rw [run_sliceAt_slice w t _ _ _ _ hu', run_slice_lhm w t _ m c hu' k1 k2 k3 (l : Int) (h : Int) (mx : Int) (by omega) (by omega) (by omega) (by omega), hE, sizeOf_of hs, Result.andThen_ok]
  simp only [Int.toNat_natCast, sliced, restOf]
  rfl
/-- slices.overlaps of two blocks -/
theorem ro_overlaps {f : FuncId} {fn : Func} {tS tR e size : Nat} {a b : Operand} {ats : Array TypeId} {g1 o1 g2 o2 la ca lb cb : Nat} {t1 t2 : TypeId} {cs1 cs2 : Array Value} (hf : P.funcs[f]? = some fn) (hname : (fn.name == "runtime.NumGoroutine") = false)
    (hb : fn.body.isNone = true) (hnx : Extern.findNext fn = none) (he : Extern.find fn = some (Extern.SlicesOverlaps.overlaps #[tS, tS] #[tR])) (ht : elemQ P tS = some (e, size)) (ha : ev n L a = .slice (some ⟨g1, o1, none⟩) la ca) (hb2 : ev n L b = .slice (some ⟨g2, o2, none⟩) lb cb) (hne : g1 ≠ g2)
    (hA : Blk w g1 t1 cs1) (hB : Blk w g2 t2 cs2) (h0 : cs2.size ≠ 0) : RO P (ev n L) (.call { callee := .value (.func f), args := #[a, b], argTypes := ats }) w (.bool false) w := fun dst ty pos after g => by
  obtain ⟨hu, hs⟩ := elem_of ht
  have h1 := Lib.run_overlaps_apart (P := P) w tS tR e hu size (fun w => sizeOf_of hs) ⟨g1, o1, none⟩ ⟨g2, o2, none⟩ la ca lb cb hne t1 t2 cs1.size cs2.size (by unfold Blk at hA; simp [World.shape?, hA]) (by unfold Blk at hB; simp [World.shape?, hB]) h0 (hA.frozen _) (hA.frozen _)
  rw [show (#[a, b] : Array Operand) = [a, b].toArray from rfl, exec_call (fun _ => rfl)]
  simp only [List.map_cons, List.map_nil, ha, hb2]
  rw [run_callFunc_extern hf hname hb hnx he, h1]
  rfl
theorem ro_lit0 {ρ : Operand → Value} {e size by_ : Nat} {z : Value} (hq : litQ P t = some (e, size, by_, z)) : RO P ρ (.buildSlice t 0 #[]) w (.slice (some ⟨w.heap.size, 0, none⟩) 0 0) (w.alloc (.cells #[] e)) := fun _ _ _ _ _ => by
  obtain ⟨i, hu, hi, hs, _, hz⟩ := lit_of hq
  simp [execOp, Instr.buildSlice, run_underlying hu, sizeOf, typeInfo, hi, zeroValue, hz, Instr.fill, newRow]
  have : (Array.range 0) = #[] := by simp [Array.range]
  rw [this, Array.map_empty]
theorem st_lit0 {e size by_ : Nat} {z : Value} (hq : litQ P t = some (e, size, by_, z)) (base : Nat) (hbs : base ≤ w.heap.size) (k : ∀ g w', From w w' → g = w.heap.size → w'.ownsRow base e size (.slice (some ⟨g, 0, none⟩) 0 0) 0 [] → St P ops Q rest n ((d, .slice (some ⟨g, 0, none⟩) 0 0) :: L) w') :
    St P ops Q (⟨some d, .buildSlice t 0 #[], ty, pos, after, none⟩ :: rest) n L w :=
  st_val (ro_lit0 hq) (k _ _ (From.rfl_.new _) rfl ⟨by simp, .inr ⟨w.heap.size, 0, #[], rfl, hbs, heap_alloc_new w _, Nat.le_refl _, by decide, by simp, by simp⟩⟩)
theorem ro_eqlNilS {ρ : Operand → Value} {e yt : TypeId} {y : Operand} {a : Option Addr} {m c : Nat} (ht : P.underlying t = some (.slice e)) (hx : ρ x = .slice a m c) (hy : ρ y = .slice none 0 0) : RO P ρ (.binOp .eql t x y yt) w (.bool a.isNone) w :=
  ro_bin hx hy (by unfold eqGuard; cases a <;> rfl) (run_eql_slice_nil w t e a m c ht)
theorem ro_neqNilS {ρ : Operand → Value} {e yt : TypeId} {y : Operand} {a : Option Addr} {m c : Nat} (ht : P.underlying t = some (.slice e)) (hx : ρ x = .slice a m c) (hy : ρ y = .slice none 0 0) : RO P ρ (.binOp .neq t x y yt) w (.bool (!a.isNone)) w :=
  ro_bin hx hy (by unfold eqGuard; cases a <;> rfl) (run_neq_slice_nil w t e a m c ht)
end
/-! ### an own row written over -/
theorem own_over {w w' : World} {base e size n c g o : Nat} {xs vs : List Value} (h : w.ownsRow base e size (.slice (some ⟨g, 0, none⟩) n c) n xs) (hn : 0 < n) (hv : o + vs.length ≤ n * size) (hb : ∀ cur, Blk w g e (List.toArray cur) → o + vs.length ≤ cur.length → Blk w' g e (over cur o vs).toArray) :
    w'.ownsRow base e size (.slice (some ⟨g, 0, none⟩) n c) n (over xs o vs) := by
  obtain ⟨g', cur, hA, hg, hbk, h1, h2, h3, h4⟩ := own_blk h hn
  simp only [Option.some.injEq, Addr.mk.injEq, and_true] at hA
  subst hA
  have hle : n * size ≤ cur.length := by rw [h3]; exact Nat.mul_le_mul_right _ h1
  refine own_of hg (hb cur hbk (by omega)) h1 h2 ?_ ?_
  · rw [over_len _ _ _ (by omega), h3]
  · rw [over_take _ _ _ _ hv hle, h4]
section
variable {P : Program} {ops : Array Oper} {Q : Exit → Act → World → Prop} {rest : List Oper} {n : Fr} {L : List (Nat × Value)} {w : World} {ty : TypeId} {pos : String} {after : Array Edge} {t : TypeId} {x y : Operand}
/-- an element of an own row, written over -/
theorem st_putOwnK {base e size m c g o : Nat} {xs vs : List Value} (ht : sizeQ P t = some vs.length) (hx : ev n L x = .pointer (some ⟨g, o, none⟩)) (hy : ev n L y = .agg vs.toArray) (h1 : ∀ v ∈ vs, v.oneCell' = true)
    (ho : w.ownsRow base e size (.slice (some ⟨g, 0, none⟩) m c) m xs) (hm : 0 < m) (hi : o + vs.length ≤ m * size)
    (k : ∀ w', Only g w w' → w'.ownsRow base e size (.slice (some ⟨g, 0, none⟩) m c) m (over xs o vs) → St P ops Q rest n L w') : St P ops Q (⟨none, .store t x y, ty, pos, after, none⟩ :: rest) n L w := by
  obtain ⟨g', cur, hA, hg, hbk, h2, h3, h4, h5⟩ := own_blk ho hm
  simp only [Option.some.injEq, Addr.mk.injEq, and_true] at hA
  subst hA
  have hle : m * size ≤ cur.length := by rw [h4]; exact Nat.mul_le_mul_right _ h2
  refine st_store (rs_storeA ht hx hy h1 (hbk.there o vs.length (by simp; omega))) (k _ (Only.sets vs o w) ?_)
  exact own_over ho hm hi fun cur' hb' hl => Blk.sets vs o hb' hl
theorem st_putOwnC {base e size m c g o : Nat} {xs : List Value} {v : Value} (ht : sizeQ P t = some 1) (hx : ev n L x = .pointer (some ⟨g, o, none⟩)) (hy : ev n L y = v) (h1 : v.oneCell' = true)
    (ho : w.ownsRow base e size (.slice (some ⟨g, 0, none⟩) m c) m xs) (hi : o < m * size)
    (k : ∀ w', Only g w w' → w'.ownsRow base e size (.slice (some ⟨g, 0, none⟩) m c) m (xs.set o v) → St P ops Q rest n L w') : St P ops Q (⟨none, .store t x y, ty, pos, after, none⟩ :: rest) n L w := by
  have hlen : xs.length = m * size := ho.1
  have hc : w.cell? ⟨g, o, none⟩ = some (xs[o]'(by omega)) := by rw [ho.cellAt o hi]; simp [hlen, hi]
  exact st_store (rs_store ht hx hy h1 hc (ho.frozenAt o)) (k _ (Only.setCell w g o v) (ho.stored o v).1)
end
section
variable {α : Type} {f : α → List Value} {s : Nat}
theorem over_flat (hf : ∀ x, (f x).length = s) (L : List α) (i : Nat) (hi : i < L.length) (x : α) : over (L.flatMap f) (i * s) (f x) = (L.set i x).flatMap f := by
  unfold over
  rw [flat_take hf, hf, ← Nat.succ_mul, flat_drop hf]
  conv => rhs; rw [List.set_eq_take_append_cons_drop, if_pos hi]
  simp
theorem set_flat (hf : ∀ x, (f x).length = s) (L : List α) (i j : Nat) (hi : i < L.length) (hj : j < s) (x : α) (v : Value) (hx : f x = (f L[i]).set j v) : (L.flatMap f).set (i * s + j) v = (L.set i x).flatMap f := by
  have hL : L.flatMap f = (L.take i).flatMap f ++ (f L[i] ++ (L.drop (i + 1)).flatMap f) := by
    have h0 : L = L.take i ++ L[i] :: L.drop (i + 1) := by rw [← List.drop_eq_getElem_cons hi, List.take_append_drop]
    exact (congrArg (List.flatMap f) h0).trans (by rw [List.flatMap_append, List.flatMap_cons])
  have ht : ((L.take i).flatMap f).length = i * s := by rw [flat_len hf, List.length_take, Nat.min_eq_left (by omega)]
  rw [hL, List.set_append_right _ _ (by omega), ht, Nat.add_sub_cancel_left, List.set_append_left _ _ (by rw [hf]; exact hj), ← hx]
  conv => rhs; rw [List.set_eq_take_append_cons_drop, if_pos hi]
  simp
/-- in place: what a Delete leaves -/
theorem del_take {cur xs zs : List Value} {n i j c : Nat} (hij : i ≤ j) (hj : j ≤ n) (hc : n ≤ c) (h3 : cur.length = c * s) (h4 : cur.take (n * s) = xs) (hz : zs.length = (j - i) * s) :
    (over (over cur (i * s) (xs.drop (j * s))) ((i + (n - j)) * s) zs).take ((i + (n - j)) * s) = xs.take (i * s) ++ xs.drop (j * s) := by
  have hxl : xs.length = n * s := by rw [← h4, List.length_take, h3]; exact Nat.min_eq_left (Nat.mul_le_mul_right _ hc)
  have hd : (xs.drop (j * s)).length = (n - j) * s := by rw [List.length_drop, hxl, Nat.sub_mul]
  have e1 : (i + (n - j)) * s = i * s + (n - j) * s := Nat.add_mul ..
  have e2 : n * s ≤ c * s := Nat.mul_le_mul_right _ hc
  have e3 : (i + (n - j)) * s ≤ n * s := Nat.mul_le_mul_right _ (by omega)
  rw [over_take_lo _ _ _ _ (Nat.le_refl _) (by rw [over_len _ _ _ (by omega)]; omega), over_take _ _ _ _ (by omega) (by omega)]
  unfold over
  rw [List.drop_of_length_le (l := List.take ((i + (n - j)) * s) cur) (by rw [List.length_take]; omega), List.append_nil, List.take_take, Nat.min_eq_left (by omega)]
  congr 1
  rw [← h4, List.take_take, Nat.min_eq_left]
  exact Nat.mul_le_mul_right _ (by omega)
/-- in place: what an Insert leaves -/
theorem ins_take {cur xs vs : List Value} {n i m c : Nat} (hi : i ≤ n) (hc : n + m ≤ c) (h3 : cur.length = c * s) (hx : xs.length = n * s) (h4 : cur.take (i * s) = xs.take (i * s)) (hv : vs.length = m * s) :
    (over (over cur ((i + m) * s) (xs.drop (i * s))) (i * s) vs).take ((n + m) * s) = xs.take (i * s) ++ vs ++ xs.drop (i * s) ∧ (over (over cur (i * s) vs) ((i + m) * s) (xs.drop (i * s))).take ((n + m) * s) = xs.take (i * s) ++ vs ++ xs.drop (i * s) := by
  have hd : (xs.drop (i * s)).length = (n - i) * s := by rw [List.length_drop, hx, Nat.sub_mul]
  have e1 : (i + m) * s = i * s + m * s := Nat.add_mul ..
  have e4 : (n + m) * s = (i + m) * s + (n - i) * s := by rw [← Nat.add_mul]; congr 1; omega
  have e5 : (n + m) * s ≤ c * s := Nat.mul_le_mul_right _ hc
  have e6 : i * s ≤ n * s := Nat.mul_le_mul_right _ hi
  have ht : (cur.take (i * s)).length = i * s := by rw [List.length_take]; omega
  have key : ∀ l : List Value, l.length = c * s → (∀ k, k < i * s → l[k]? = xs[k]?) → (∀ k, k < m * s → l[i * s + k]? = vs[k]?) → (∀ k, k < (n - i) * s → l[(i + m) * s + k]? = (xs.drop (i * s))[k]?) → l.take ((n + m) * s) = xs.take (i * s) ++ vs ++ xs.drop (i * s) := by
    intro l hl k1 k2 k3
    apply List.ext_getElem?
    intro k
    rw [List.getElem?_take]
    by_cases h1 : k < i * s
    · rw [if_pos (by omega), k1 k h1, List.append_assoc, List.getElem?_append_left (by rw [List.length_take]; omega), List.getElem?_take_of_lt h1]
    · by_cases h2 : k < (i + m) * s
      · have := k2 (k - i * s) (by omega)
        rw [show i * s + (k - i * s) = k by omega] at this
        rw [if_pos (by omega), this, List.append_assoc, List.getElem?_append_right (by rw [List.length_take]; omega), List.length_take, Nat.min_eq_left (by omega), List.getElem?_append_left (by omega)]
      · by_cases h5 : k < (n + m) * s
        · have := k3 (k - (i + m) * s) (by omega)
          rw [show (i + m) * s + (k - (i + m) * s) = k by omega] at this
          rw [if_pos h5, this, List.getElem?_append_right (by rw [List.length_append, List.length_take]; omega)]
          congr 1
          rw [List.length_append, List.length_take]
          omega
        · rw [if_neg h5, List.getElem?_eq_none (by rw [List.length_append, List.length_append, List.length_take]; omega)]
  have hk : ∀ k, k < i * s → cur[k]? = xs[k]? := fun k hk => by
    have := congrArg (fun l => l[k]?) h4
    simpa [List.getElem?_take_of_lt hk] using this
  have l1 : (over cur ((i + m) * s) (xs.drop (i * s))).length = cur.length := over_len _ _ _ (by omega)
  have l2 : (over cur (i * s) vs).length = cur.length := over_len _ _ _ (by omega)
  refine ⟨key _ (by rw [over_len _ _ _ (by omega), l1, h3]) ?_ ?_ ?_, key _ (by rw [over_len _ _ _ (by omega), l2, h3]) ?_ ?_ ?_⟩
  · intro k hk'
    rw [over_at _ _ _ _ (by omega), if_neg (by omega), over_at _ _ _ _ (by omega), if_neg (by omega)]
    exact hk k hk'
  · intro k hk'
    rw [over_at _ _ _ _ (by omega), if_pos (by omega)]
    congr 1
    omega
  · intro k hk'
    rw [over_at _ _ _ _ (by omega), if_neg (by omega), over_at _ _ _ _ (by omega), if_pos (by omega)]
    congr 1
    omega
  · intro k hk'
    rw [over_at _ _ _ _ (by omega), if_neg (by omega), over_at _ _ _ _ (by omega), if_neg (by omega)]
    exact hk k hk'
  · intro k hk'
    rw [over_at _ _ _ _ (by omega), if_neg (by omega), over_at _ _ _ _ (by omega), if_pos (by omega)]
    congr 1
    omega
  · intro k hk'
    rw [over_at _ _ _ _ (by omega), if_pos (by omega)]
    congr 1
    omega
end
end Go.Proofs.Ytpafbgdbjambgaa
namespace Go.Proofs.Ytpafbgdbjambgaa
open Go.RowKit
theorem restOf_head {A : Option Addr} {c s : Nat} : restOf A c 0 s = A := by
  unfold restOf
  split
  · rfl
  · cases A with
    | none => rfl
    | some a => simp [Addr.add_zero']
theorem restOf_pos {g o c l s : Nat} (h : l < c) : restOf (some ⟨g, o, none⟩) c l s = some ⟨g, o + l * s, none⟩ := by
  unfold restOf
  rw [if_neg (by omega)]
  simp [Addr.add_mid]
theorem own_cap {w : World} {base e s n c m : Nat} {A : Option Addr} {xs : List Value} (h : w.ownsRow base e s (.slice A n c) m xs) : m ≤ c := by
  rcases h.2 with ⟨_, h0⟩ | ⟨g, cap, cur, hv, _, _, h3, _⟩
  · omega
  · simp only [Value.slice.injEq] at hv
    omega
theorem row_drop {w : World} {g e n o : Nat} {cur xs : List Value} (hb : Blk w g e cur.toArray) (hct : cur.take n = xs) : w.rangeAt g o (xs.drop o) := hb.range o _ fun j v hv => by
  rw [List.getElem?_drop, ← hct, List.getElem?_take] at hv
  split at hv
  · exact hv
  · cases hv
theorem row_take {w : World} {g e n o : Nat} {cur xs : List Value} (hb : Blk w g e cur.toArray) (hct : cur.take n = xs) : w.rangeAt g 0 (xs.take o) := hb.range 0 _ fun j v hv => by
  rw [List.getElem?_take] at hv
  rw [Nat.zero_add]
  split at hv
  · rw [← hct, List.getElem?_take] at hv
    split at hv
    · exact hv
    · cases hv
  · cases hv
theorem grown_new {w w1 w2 : World} {r : Option Nat} {g : Nat} (h : w.grownBy w1 r) (o : Only g w1 w2) (hg : w.heap.size ≤ g) : w.grownBy w2 r :=
  ⟨o.os.trans h.os, o.tape.trans h.tape, o.output.trans h.output, by rw [o.size]; exact h.size, fun k hk hr => (o.block k (by omega)).trans (h.block k hk hr)⟩
end Go.Proofs.Ytpafbgdbjambgaa
