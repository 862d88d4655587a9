/- suffix: what induce keeps; slices.Backward. -/
import Derived.Test.YtpafbgdbjambgaaSufText
import Derived.Test.YtpafbgdbjambgaaSufIter
namespace Go.Proofs.Ytpafbgdbjambgaa
open Go.RowKit
open Go.ChangeShapes Go.WideShapes Go.ChangeAt
open Go.Proofs.Ytpafbgdbjambgaa.SA
theorem VJ.aside {W W' : World} {g K q : Nat} {f : Nat → Int} {o : Obj} (h : VJ W g K f) (hq : W.heap[q]? = some o) (ho : o.isCells = false) (hO : Only q W W') : VJ W' g K f := by
  obtain ⟨cur, h1, h2⟩ := h
  exact ⟨cur, h1.only hO (blk_aside h1 hq ho), h2⟩
theorem VJ.ne {W : World} {g K g2 t : Nat} {f : Nat → Int} {cs : Array Value} (h : VJ W g K f) (hb : Blk W g2 t cs) (ht : t ≠ 21) : g2 ≠ g := by
  obtain ⟨cur, h1, _⟩ := h
  exact blk_ne hb h1 ht
theorem VJ.copied {W : World} {g K : Nat} {f : Nat → Int} {cur : List Value} (h : Blk W g 21 (over cur 0 ((List.range K).map fun i => jV (f i))).toArray) (hs : K ≤ cur.length) : VJ W g K f := by
  refine ⟨_, h, by rw [List.size_toArray]; unfold over; simp, fun i hi => ?_⟩
  rw [List.getElem?_toArray]
  unfold over
  simp [List.getElem?_append, hi]
/-- the variables of induce -/
structure Cst (w : World) (b b2 b5 b7 g5 g7 n K c7 : Nat) (W : World) : Prop where
  h2 : Blk W b2 49 #[.pointer (some ⟨b, 0, none⟩)]
  h5 : Blk W b5 51 #[.slice (some ⟨g5, 0, none⟩) n n]
  h7 : Blk W b7 51 #[.slice (some ⟨g7, 0, none⟩) K c7]
  lo : w.heap.size ≤ g5 ∧ g5 < g7
  hF : From w W
section
variable {w W W' : World} {b b2 b5 b7 g5 g7 n K c7 q : Nat}
theorem Cst.from_ (h : Cst w b b2 b5 b7 g5 g7 n K c7 W) (hF : From W W') : Cst w b b2 b5 b7 g5 g7 n K c7 W' := ⟨h.h2.from_ hF, h.h5.from_ hF, h.h7.from_ hF, h.lo, h.hF.next hF⟩
theorem Cst.only {m : Nat} {f : Nat → Int} (h : Cst w b b2 b5 b7 g5 g7 n K c7 W) (hv : VJ W q m f) (hO : Only q W W') (hq : w.heap.size ≤ q) : Cst w b b2 b5 b7 g5 g7 n K c7 W' :=
  ⟨h.h2.only hO (hv.ne h.h2 (by decide)), h.h5.only hO (hv.ne h.h5 (by decide)), h.h7.only hO (hv.ne h.h7 (by decide)), h.lo, h.hF.only hO hq⟩
theorem Cst.aside {o : Obj} (h : Cst w b b2 b5 b7 g5 g7 n K c7 W) (hq : W.heap[q]? = some o) (ho : o.isCells = false) (hO : Only q W W') (hw : w.heap.size ≤ q) : Cst w b b2 b5 b7 g5 g7 n K c7 W' :=
  ⟨h.h2.only hO (blk_aside h.h2 hq ho), h.h5.only hO (blk_aside h.h5 hq ho), h.h7.only hO (blk_aside h.h7 hq ho), h.lo, h.hF.only hO hw⟩
end
theorem mu_copyB {P : Program} {ops : Array Oper} {fr : Fr} {L : List (Nat × Value)} {w : World} {ty : TypeId} {pos : String} {after : Array Edge} {dst : Option Nat} {x s : Operand} {post : Value → World → Prop} {dT sT e size g o m c j c2 : Nat} {A A2 : Option Addr} {u : TypeId} {cur news : List Value} (ht : elemQ P dT = some (e, size)) (hd : ev fr L x = .slice A m c) (hs : ev fr L s = .slice A2 j c2) (hn : news.length = min j m * size)
    (hA : 0 < news.length → A = some ⟨g, o, none⟩) (hsrc : 0 < news.length → ∃ b o, A2 = some ⟨b, o, none⟩ ∧ w.rangeAt b o news) (hb : Blk w g u cur.toArray) (hfit : o + news.length ≤ cur.length) (h1 : ∀ v ∈ news, v.oneCell' = true)
    (k : ∀ w', Only g w w' → Blk w' g u (over cur o news).toArray → post (.int .i64 (min j m : Nat)) w') :
    MuOK P ops fr L ⟨dst, .call { callee := .builtin .copy, args := #[x, s], argTypes := #[dT, sT] }, ty, pos, after, none⟩ w post :=
  let ⟨w', hr, ho, hb'⟩ := ro_copyB (sT := sT) ht hd hs hn hA hsrc hb hfit h1
  mu_ro hr (k w' ho hb')
theorem own_vj {w : World} {base g K c : Nat} {f : Nat → Int} (h : w.ownsRow base 21 1 (.slice (some ⟨g, 0, none⟩) K c) K (((List.range K).map f).map jV)) (h0 : 0 < K) : VJ w g K f := (VJ.own h h0).1
section
variable {n : Nat} {t idx : Nat → Nat}
theorem inv2_step (h : Txt n t) (ho : Ord n t idx) {r i : Nat} {xs hs : Nat → Int} (hI : Inv2 n t idx r xs hs) (hr : r < n) (hx : xs r = ((i + 1 : Nat) : Int)) (hb : rb n t i = false) :
    hs (t i) = (pos n t idx i : Nat) ∧ Inv2 n t idx (r + 1) (upd xs (pos n t idx i) i) (upd hs (t i) ((pos n t idx i + 1 : Nat) : Int)) ∧ i < n ∧ pos n t idx i < n := by
  rcases inv2_at h hI hr with ⟨j, hj, hp, e⟩ | ⟨e, _⟩
  · obtain rfl : j = i + 1 := by omega
    have hi : i < n := by have := hj.1; omega
    obtain ⟨a, b⟩ := inv2_put h ho hI hi (rb_not.1 hb) hp
    refine ⟨a, ?_, hi, pos_lt hi⟩
    rw [a] at b
    exact b
  · omega
theorem inv2_no (h : Txt n t) (ho : Ord n t idx) {r : Nat} {xs hs : Nat → Int} (hI : Inv2 n t idx r xs hs) (hr : r < n) (hx : ∀ i : Nat, xs r = ((i + 1 : Nat) : Int) → rb n t i = true) : Inv2 n t idx (r + 1) xs hs := by
  refine inv2_skip hI fun i hi hf hp => ?_
  rcases inv2_at h hI hr with ⟨j, hj, hp2, e⟩ | ⟨_, hno⟩
  · obtain rfl := p2_inj h ho hj (FS_next h hi hf) (by rw [hp2, hp])
    exact hf (rb_iff.1 (hx i e))
  · exact hno _ (FS_next h hi hf) hp
theorem inv2_lo (h : Txt n t) {r : Nat} {xs hs : Nat → Int} (hI : Inv2 n t idx r xs hs) (hr : r < n) : -1 ≤ xs r ∧ xs r < n := by
  rcases inv2_at h hI hr with ⟨j, hj, _, e⟩ | ⟨e, _⟩
  · have := hj.1; omega
  · omega
theorem inv3_step (h : Txt n t) (ho : Ord n t idx) {r i : Nat} {xs ts : Nat → Int} (hI : Inv3 n t idx (r + 1) xs ts) (hr : r < n) (hx : xs r = ((i + 1 : Nat) : Int)) (hb : rb n t i = true) :
    ts (t i) - 1 = (pos n t idx i : Nat) ∧ Inv3 n t idx r (upd xs (pos n t idx i) i) (upd ts (t i) ((pos n t idx i : Nat) : Int)) ∧ i < n ∧ pos n t idx i < n := by
  obtain ⟨j, hj, hp, e⟩ := inv3_at h ho hI hr
  obtain rfl : j = i + 1 := by omega
  obtain ⟨a, b⟩ := inv3_put h ho hI hj (rb_iff.1 hb) hp
  refine ⟨a, ?_, by omega, pos_lt (by omega)⟩
  rw [a] at b
  exact b
theorem inv3_no (h : Txt n t) (ho : Ord n t idx) {r : Nat} {xs ts : Nat → Int} (hI : Inv3 n t idx (r + 1) xs ts) (hr : r < n) (hx : ∀ i : Nat, xs r = ((i + 1 : Nat) : Int) → rb n t i = false) : Inv3 n t idx r xs ts := by
  refine inv3_skip hI fun i hi hz hp => ?_
  obtain ⟨j, hj, hp2, e⟩ := inv3_at h ho hI hr
  obtain rfl := pos_inj h ho hj hi (by rw [hp2, hp])
  exact rb_not.1 (hx i e) hz
theorem inv3_lo (h : Txt n t) (ho : Ord n t idx) {r : Nat} {xs ts : Nat → Int} (hI : Inv3 n t idx (r + 1) xs ts) (hr : r < n) : 0 ≤ xs r ∧ xs r < n := by
  obtain ⟨j, hj, _, e⟩ := inv3_at h ho hI hr
  omega
theorem inv1_step (h : Txt n t) (ho : Ord n t idx) {q s : Nat} {xs ts : Nat → Int} (hI : Inv1 n t idx (q + 1) xs ts) (hs : lms n t s) (hq : idx s = q) :
    ts (t s) - 1 = (pos1 n t idx s : Nat) ∧ Inv1 n t idx q (upd xs (pos1 n t idx s) s) (upd ts (t s) ((pos1 n t idx s : Nat) : Int)) := by
  obtain ⟨a, b⟩ := inv1_put h ho hI hs hq
  refine ⟨a, ?_⟩
  rw [a] at b
  exact b
end
set_option maxRecDepth 100000 in
set_option maxHeartbeats 400000 in
theorem backward_rt (A : Option Addr) (m c : Nat) (w : World) :
    Rt Try.prog 35 [.slice A m c] w (fun v w' => (∃ Bs, v = .func (.func 39) #[] #[.pointer (some ⟨Bs, 0, none⟩)] ∧ w.heap.size ≤ Bs ∧ Blk w' Bs 51 #[.slice A m c]) ∧ From w w') := by
  refine enter (n := 4) Try.func35 rfl rfl rfl ?_
  refine cd_seq ?_
  refine cd_region ?_
  refine st_box (v := .slice _ _ _) rfl ?_
  intro b1 w1 E1 hb1 hk1
  refine st_val (ro_assign (v := _) rfl) ?_
  refine st_nil ?_
  refine nx_then ?_
  refine cd_seq ?_
  refine cd_region ?_
  refine st_val (ro_makeFunc (l1 := []) (l2 := [.tmp 1])) ?_
  refine st_val (ro_assign (v := _) rfl) ?_
  refine st_nil ?_
  refine nx_then ?_
  refine cd_ret ?_
  refine res1 (v := .func _ _ _) rfl rfl ?_
  exact ⟨⟨b1, rfl, Nat.le_of_eq hb1.symm, hk1⟩, (From.rfl_.next E1)⟩
end Go.Proofs.Ytpafbgdbjambgaa
