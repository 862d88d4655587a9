/- A REGION THAT DRAWS ITS ORDER, WITH LATE OPERATIONS: some operations of the head that reckon without memory need not stand ahead of all that is behind the head. -/
import Derived.WalkKit
import Derived.WalkSpells
import Derived.OwnWalk
import Derived.Lib.Hide
import Derived.Still
import Derived.Deep.Draws
import Derived.Deep.LoopGhost
import Derived.Deep.MidRow
import Derived.Great.BuildSlice
import Derived.Test.YtpafbgdbjambgaaProg
import Derived.WalkLawsBesides
import Derived.Deep.QuietTactic
import Derived.BigQuiet
import Derived.Deep.RegionHeld3
import Derived.KernelRfl
import Derived.Laws.AppendOwnNone
namespace Go.Proofs.Ytpafbgdbjambgaa
open Go.RowKit

/-! ### the frame -/
def look : List (Nat × Value) → Nat → Value
  | [], _ => undef
  | (k, v) :: r, i => bif Nat.beq i k then v else look r i
theorem look_cons (k : Nat) (v : Value) (r : List (Nat × Value)) (i : Nat) : look ((k, v) :: r) i = if i = k then v else look r i := by
  show cond (Nat.beq i k) v (look r i) = _
  by_cases h : i = k
  · subst h; simp
  · have : Nat.beq i k = false := by rw [← Bool.not_eq_true, Nat.beq_eq]; exact h
    rw [this, if_neg h]; rfl
def mkT (n : Nat) (L : List (Nat × Value)) : Array Value := Array.ofFn (n := n) fun i => look L i
/-- a frame: how many slots, and what waits for its end (behind a loop over an iterator: the block of the rounds' own) -/
structure Fr where
  n : Nat
  ds : List Deferred
instance (k : Nat) : OfNat Fr k := ⟨⟨k, []⟩⟩
def mkA (n : Fr) (L : List (Nat × Value)) : Act := { tmps := mkT n.n L, defers := n.ds }
theorem mkT_get (n : Nat) (L : List (Nat × Value)) (t : Nat) : (mkT n L)[t]? = if t < n then some (look L t) else none := by
  unfold mkT
  rw [Array.getElem?_ofFn]
  rfl
def ev (n : Fr) (L : List (Nat × Value)) : Operand → Value
  | .tmp t => bif Nat.blt t n.n then look L t else undef
  | .const v => v
  | .global g => .pointer (some ⟨g, 0, none⟩)
  | .func f => .func (.func f) #[] #[]
theorem blt_iff (t n : Nat) : Nat.blt t n = decide (t < n) := by
  by_cases h : t < n
  · rw [decide_eq_true h]; exact Nat.ble_eq_true_of_le h
  · rw [decide_eq_false h, ← Bool.not_eq_true]; intro h2; exact h (Nat.le_of_ble_eq_true h2)
theorem getD_mkT (n : Nat) (L : List (Nat × Value)) (t : Nat) : (mkT n L).getD t undef = bif Nat.blt t n then look L t else undef := by
  rw [Array.getD_eq_getD_getElem?, mkT_get, blt_iff]
  by_cases h : t < n
  · simp [h]
  · simp [h]
theorem eval_mkA (n : Fr) (L : List (Nat × Value)) : (mkA n L).eval = ev n L := by
  funext x
  cases x with
  | tmp t => exact getD_mkT n.n L t
  | _ => rfl
theorem mkT_congr {n : Nat} {L L' : List (Nat × Value)} (h : ∀ t, t < n → look L t = look L' t) : mkT n L = mkT n L' := by
  unfold mkT
  congr 1
  funext i
  exact h i i.2
theorem mkA_congr {n : Fr} {L L' : List (Nat × Value)} (h : ∀ t, t < n.n → look L t = look L' t) : mkA n L = mkA n L' := by
  unfold mkA
  rw [mkT_congr h]
theorem put_mkA (n : Fr) (L : List (Nat × Value)) (d : Nat) (v : Value) : (mkA n L).put (some d) v = mkA n ((d, v) :: L) := by
  show (⟨(mkT n.n L).setIfInBounds d v, n.ds⟩ : Act) = ⟨mkT n.n ((d, v) :: L), n.ds⟩
  obtain ⟨n, ds⟩ := n
  show (⟨(mkT n L).setIfInBounds d v, ds⟩ : Act) = ⟨mkT n ((d, v) :: L), ds⟩
  congr 1
  apply Array.ext_getElem?
  intro i
  rw [Array.getElem?_setIfInBounds, mkT_get, mkT_get, look_cons]
  by_cases h : i < n
  · by_cases hd : d = i
    · subst hd
      have hs : (mkT n L).size = n := by simp [mkT]
      simp [h, hs]
    · have hd' : ¬ i = d := fun e => hd e.symm
      simp [hd, hd', h]
  · by_cases hd : d = i
    · subst hd
      have hs : (mkT n L).size = n := by simp [mkT]
      simp [h, hs]
    · simp [hd, h]
def putL : Option Nat → Value → List (Nat × Value) → List (Nat × Value)
  | some d, v, L => (d, v) :: L
  | none, _, L => L
theorem put_mkA' (n : Fr) (L : List (Nat × Value)) (d : Option Nat) (v : Value) : (mkA n L).put d v = mkA n (putL d v L) := by
  cases d with
  | none => rfl
  | some d => exact put_mkA n L d v
def argsL : Nat → List Value → List (Nat × Value)
  | _, [] => []
  | i, v :: r => (i, v) :: argsL (i + 1) r
theorem look_argsL (l : List Value) : ∀ (i t : Nat), look (argsL i l) t = if i ≤ t then (l[t - i]?).getD undef else undef := by
  induction l with
  | nil => intro i t; simp [argsL, look]
  | cons v r ih =>
    intro i t
    rw [argsL, look_cons, ih]
    by_cases h : t = i
    · subst h; simp
    · by_cases h2 : i ≤ t
      · have : t - i = (t - (i + 1)) + 1 := by omega
        rw [if_neg h, if_pos h2, if_pos (by omega), this, List.getElem?_cons_succ]
      · rw [if_neg h, if_neg h2, if_neg (by omega)]
theorem args_mkT (n : Nat) (l : List Value) (h : l.length ≤ n) : l.toArray ++ Array.replicate (n - l.toArray.size) undef = mkT n (argsL 0 l) := by
  apply Array.ext_getElem?
  intro i
  rw [mkT_get, look_argsL, Array.getElem?_append]
  simp only [List.size_toArray, List.getElem?_toArray, Nat.zero_le, if_true, Nat.sub_zero, Array.getElem?_replicate]
  by_cases h1 : i < l.length
  · rw [if_pos h1, if_pos (by omega), List.getElem?_eq_getElem h1]; rfl
  · rw [if_neg h1]
    by_cases h2 : i < n
    · rw [if_pos h2, if_pos (by omega), List.getElem?_eq_none (by omega)]; rfl
    · rw [if_neg h2, if_neg (by omega)]

theorem int_eq {k : IntKind} {a b : Int} (h : a = b) : Value.int k a = Value.int k b := by rw [h]
/-! ### what a test's Bool says -/
theorem bn_t {b : Bool} (h : (!b) = true) : b = false := by cases b <;> simp_all
theorem bn_f {b : Bool} (h : (!b) = false) : b = true := by cases b <;> simp_all
theorem be_t {α : Type} [BEq α] [LawfulBEq α] {a b : α} (h : (a == b) = true) : a = b := eq_of_beq h
theorem be_f {α : Type} [BEq α] [LawfulBEq α] {a b : α} (h : (a == b) = false) : ¬ a = b := ne_of_beq_false h
theorem bx_t {α : Type} [BEq α] [LawfulBEq α] {a b : α} (h : (a != b) = true) : ¬ a = b := by simpa using h
theorem bx_f {α : Type} [BEq α] [LawfulBEq α] {a b : α} (h : (a != b) = false) : a = b := by simpa using h
/-! ### the judgements -/
structure Cd (P : Program) (c : Code) (Q : Exit → Act → World → Prop) (n : Fr) (L : List (Nat × Value)) (w : World) : Prop where
  out : c.wp P Q (mkA n L) w
structure St (P : Program) (ops : Array Oper) (Q : Exit → Act → World → Prop) (rest : List Oper) (n : Fr) (L : List (Nat × Value)) (w : World) : Prop where
  out : wpList P ops Q rest (mkA n L) w
/-- what is asked of a function: it returns, so -/
def Rt (P : Program) (f : FuncId) (l : List Value) (w : World) (R : Value → World → Prop) : Prop := Calls P f l.toArray w fun e w' => ∃ v, e = .returned v ∧ R v w'
theorem Rt.mono {P : Program} {f : FuncId} {l : List Value} {w : World} {R R' : Value → World → Prop} (h : Rt P f l w R) (hr : ∀ v w', R v w' → R' v w') : Rt P f l w R' :=
  Calls.mono h fun _ _ ⟨v, e, r⟩ => ⟨v, e, hr v _ r⟩
/-- from a contract of the elder form -/
theorem Rt.of {P : Program} {f : FuncId} {l : List Value} {w : World} {v : Value} {R : World → Prop} (h : Calls P f l.toArray w fun e w' => e = .returned v ∧ R w') : Rt P f l w fun v' w' => v' = v ∧ R w' :=
  Calls.mono h fun _ _ ⟨e, r⟩ => ⟨v, e, rfl, r⟩
theorem Rt.to {P : Program} {f : FuncId} {l : List Value} {w : World} {v : Value} {R : World → Prop} (h : Rt P f l w fun v' w' => v' = v ∧ R w') : Calls P f l.toArray w fun e w' => e = .returned v ∧ R w' :=
  Calls.mono h fun _ _ ⟨_, e, e2, r⟩ => ⟨by rw [e, e2], r⟩

section control
variable {P : Program} {Q : Exit → Act → World → Prop} {n : Fr} {L : List (Nat × Value)} {w : World}
theorem enter {f : FuncId} {fn : Func} {c : Code} {l : List Value} {R : Value → World → Prop} {n : Nat} (hf : P.funcs[f]? = some fn) (hb : fn.body = some c) (hn : fn.ntmps = n) (hl : Nat.ble l.length n = true)
    (h : Cd P c (bodyPost P fn fun e w' => ∃ v, e = .returned v ∧ R v w') ⟨n, []⟩ (argsL 0 l) w) : Rt P f l w R := by
  refine calls_of_wp hf hb ?_
  rw [hn, args_mkT n l (Nat.le_of_ble_eq_true hl)]
  exact h.out
theorem cd_skip (h : Q .normal (mkA n L) w) : Cd P .skip Q n L w := ⟨wp_skip h⟩
theorem cd_seq {x y : Code} (h : Cd P x (Exit.then (fun a w => y.wp P Q a w) Q) n L w) : Cd P (.seq x y) Q n L w := ⟨wp_seq h.out⟩
theorem cd_block {id : Nat} {c : Code} (h : Cd P c (Exit.inBlock id Q) n L w) : Cd P (.block id c) Q n L w := ⟨wp_block h.out⟩
theorem cd_exit {id : Nat} (h : Q (.exit id) (mkA n L) w) : Cd P (.exit id) Q n L w := ⟨wp_exit h⟩
theorem cd_ret (h : Q .ret (mkA n L) w) : Cd P .ret Q n L w := ⟨wp_ret h⟩
theorem cd_cond {c : Operand} {x y : Code} {t : Bool} (hc : ev n L c = .bool t) (ht : t = true → Cd P x Q n L w) (hf : t = false → Cd P y Q n L w) : Cd P (.cond c x y) Q n L w :=
  ⟨wp_cond_split (by rw [eval_mkA]; exact hc) (fun h => (ht h).out) (fun h => (hf h).out)⟩
theorem cd_condT {c : Operand} {x y : Code} (hc : ev n L c = .bool true) (ht : Cd P x Q n L w) : Cd P (.cond c x y) Q n L w :=
  ⟨wp_cond_true (by rw [eval_mkA]; exact hc) ht.out⟩
theorem cd_condF {c : Operand} {x y : Code} (hc : ev n L c = .bool false) (ht : Cd P y Q n L w) : Cd P (.cond c x y) Q n L w :=
  ⟨wp_cond_false (by rw [eval_mkA]; exact hc) ht.out⟩
theorem cd_region {id : Nat} {l : List Oper} (h : St P l.toArray Q l n L w) : Cd P (.region id l.toArray false) Q n L w := ⟨wp_region_lit h.out⟩
theorem st_nil {ops : Array Oper} (h : Q .normal (mkA n L) w) : St P ops Q [] n L w := ⟨h⟩
variable {y : Code} {K : Act → World → Prop} {a : Act}
theorem nx_then (h : Cd P y Q n L w) : Exit.then (fun a w => y.wp P Q a w) Q .normal (mkA n L) w := h.out
theorem nx_block {id : Nat} (h : Q .normal a w) : Exit.inBlock id Q .normal a w := h
theorem ex_then {id : Nat} (h : Q (.exit id) a w) : Exit.then K Q (.exit id) a w := h
theorem ex_block {id : Nat} (h : Q .normal a w) : Exit.inBlock id Q (.exit id) a w := by
  show (if id = id then Q .normal a w else Q (.exit id) a w)
  rw [if_pos rfl]
  exact h
theorem ex_past {id j : Nat} (hj : Nat.beq j id = false) (h : Q (.exit j) a w) : Exit.inBlock id Q (.exit j) a w := by
  show (if j = id then Q .normal a w else Q (.exit j) a w)
  rw [if_neg (fun e => by subst e; simp at hj)]
  exact h
theorem rt_then (h : Q .ret a w) : Exit.then K Q .ret a w := h
theorem rt_block {id : Nat} (h : Q .ret a w) : Exit.inBlock id Q .ret a w := h
/-- the ends -/
theorem res1 {fn : Func} {m : Nat} {t : Nat} {R : Value → World → Prop} {v : Value} (hr : fn.results = #[.tmp t]) (hv : ev ⟨m, []⟩ L (.tmp t) = v) (h : R v w) :
    bodyPost P fn (fun e w' => ∃ v, e = .returned v ∧ R v w') .ret (mkA ⟨m, []⟩ L) w :=
  bodyPost_ret (results_tmp hr _ _ _) rfl ⟨v, by rw [← hv]; exact congrArg Ending.returned (getD_mkT m L t), h⟩
theorem res2 {fn : Func} {m : Nat} {t u : Nat} {R : Value → World → Prop} {v v' : Value} (hr : fn.results = #[.tmp t, .tmp u]) (hv : ev ⟨m, []⟩ L (.tmp t) = v) (hv' : ev ⟨m, []⟩ L (.tmp u) = v') (h : R (.tuple #[v, v']) w) :
    bodyPost P fn (fun e w' => ∃ v, e = .returned v ∧ R v w') .ret (mkA ⟨m, []⟩ L) w :=
  bodyPost_ret (results_tmp2 hr _ _ _) rfl ⟨.tuple #[v, v'], by rw [← hv, ← hv']; show Ending.returned (.tuple #[(mkT m L).getD t undef, (mkT m L).getD u undef]) = _; rw [getD_mkT, getD_mkT]; rfl, h⟩
theorem res3 {fn : Func} {m : Nat} {t u s : Nat} {R : Value → World → Prop} {v v' v'' : Value} (hr : fn.results = #[.tmp t, .tmp u, .tmp s]) (hv : ev ⟨m, []⟩ L (.tmp t) = v) (hv' : ev ⟨m, []⟩ L (.tmp u) = v') (hv'' : ev ⟨m, []⟩ L (.tmp s) = v'') (h : R (.tuple #[v, v', v'']) w) :
    bodyPost P fn (fun e w' => ∃ v, e = .returned v ∧ R v w') .ret (mkA ⟨m, []⟩ L) w :=
  bodyPost_ret (results_tmp3 hr _ _ _) rfl ⟨.tuple #[v, v', v''], by rw [← hv, ← hv', ← hv'']; show Ending.returned (.tuple #[(mkT m L).getD t undef, (mkT m L).getD u undef, (mkT m L).getD s undef]) = _; rw [getD_mkT, getD_mkT, getD_mkT]; rfl, h⟩
theorem res0 {fn : Func} {m : Nat} {R : Value → World → Prop} (hr : fn.results = #[]) (h : R (.tuple #[]) w) :
    bodyPost P fn (fun e w' => ∃ v, e = .returned v ∧ R v w') .ret (mkA ⟨m, []⟩ L) w :=
  bodyPost_ret (results_none hr _ _ _) rfl ⟨_, rfl, h⟩
theorem end_ret {fn : Func} {R : Ending → World → Prop} (h : bodyPost P fn R .ret a w) : bodyPost P fn R .normal a w := h
end control

/-! ### loops and meeting points -/
def Agr (Wr : List Nat) (L' L : List (Nat × Value)) : Prop := ∀ t, Wr.elem t = false → look L' t = look L t
theorem agr_rfl {Wr : List Nat} {L : List (Nat × Value)} : Agr Wr L L := fun _ _ => rfl
theorem agr_cons {Wr : List Nat} {L' L : List (Nat × Value)} {d : Nat} {v : Value} (hd : Wr.elem d = true) (h : Agr Wr L' L) : Agr Wr ((d, v) :: L') L := fun t ht => by
  rw [look_cons, if_neg (fun e => by subst e; rw [hd] at ht; cases ht)]
  exact h t ht
def AllV (L' : List (Nat × Value)) : List (Nat × Value) → Prop
  | [] => True
  | (t, v) :: r => look L' t = v ∧ AllV L' r
def junk (J : List Nat) (ρ : Nat → Value) (L : List (Nat × Value)) : List (Nat × Value) := J.foldr (fun t r => (t, ρ t) :: r) L
theorem look_junk (J : List Nat) (ρ : Nat → Value) (L : List (Nat × Value)) (t : Nat) : look (junk J ρ L) t = if J.elem t then ρ t else look L t := by
  induction J with
  | nil => rfl
  | cons j J ih =>
    show look ((j, ρ j) :: junk J ρ L) t = _
    rw [look_cons, ih]
    by_cases h : t = j
    · subst h; simp
    · have : (j :: J).elem t = J.elem t := by simp [List.elem_cons, h]
      rw [if_neg h, this]
theorem look_app (V L : List (Nat × Value)) (t : Nat) : look (V ++ L) t = if (V.map (·.1)).elem t then look V t else look L t := by
  induction V with
  | nil => rfl
  | cons x V ih =>
    obtain ⟨k, v⟩ := x
    show look ((k, v) :: (V ++ L)) t = if ((k :: V.map (·.1)).elem t) then look ((k, v) :: V) t else _
    rw [look_cons, look_cons, ih]
    by_cases h : t = k
    · subst h; simp
    · have : (k :: V.map (·.1)).elem t = (V.map (·.1)).elem t := by simp [List.elem_cons, h]
      rw [if_neg h, this, if_neg h]
theorem allV_look {L' : List (Nat × Value)} : ∀ {V : List (Nat × Value)}, AllV L' V → ∀ t, (V.map (·.1)).elem t = true → look L' t = look V t
  | [], _, t, h => by simp at h
  | (k, v) :: V, ⟨h1, h2⟩, t, h => by
    rw [look_cons]
    by_cases e : t = k
    · subst e; rw [if_pos rfl]; exact h1
    · rw [if_neg e]
      exact allV_look h2 t (by simpa [List.elem_cons, e] using h)
/-- the frame at a head: these slots hold these values, those hold anything, the others hold what L has -/
def hd (V : List (Nat × Value)) (J : List Nat) (ρ : Nat → Value) (L : List (Nat × Value)) : List (Nat × Value) := V ++ junk J ρ L
theorem hd_of {n : Fr} {V : List (Nat × Value)} {J : List Nat} {L' L : List (Nat × Value)} (hv : AllV L' V) (hj : Agr (V.map (·.1) ++ J) L' L) : mkA n L' = mkA n (hd V J (look L') L) := by
  refine mkA_congr fun t _ => ?_
  unfold hd
  rw [look_app, look_junk]
  by_cases h1 : (V.map (·.1)).elem t = true
  · rw [if_pos h1]; exact allV_look hv t h1
  · rw [if_neg h1]
    by_cases h2 : J.elem t = true
    · rw [if_pos h2]
    · rw [if_neg h2]
      refine hj t ?_
      rw [Bool.not_eq_true] at h1 h2
      simp only [List.elem_eq_mem, decide_eq_false_iff_not] at h1 h2 ⊢
      simp only [List.mem_append, not_or]
      exact ⟨h1, h2⟩
/-- what is known at a head -/
def At (n : Fr) (L : List (Nat × Value)) (J : List Nat) {G : Type} (V : G → List (Nat × Value)) (F : G → World → Prop) (a : Act) (w : World) : Prop := ∃ g ρ, a = mkA n (hd (V g) J ρ L) ∧ F g w
theorem at_mk {n : Fr} {L L' : List (Nat × Value)} {J : List Nat} {G : Type} {V : G → List (Nat × Value)} {F : G → World → Prop} {w : World} (g : G) (hv : AllV L' (V g)) (hj : Agr ((V g).map (·.1) ++ J) L' L) (hF : F g w) :
    At n L J V F (mkA n L') w := ⟨g, look L', hd_of hv hj, hF⟩
section
variable {P : Program} {Q : Exit → Act → World → Prop} {n : Fr} {L : List (Nat × Value)} {w : World} {G : Type}
theorem cd_cut {x y : Code} (J : List Nat) (V : G → List (Nat × Value)) (F : G → World → Prop) (hx : Cd P x (Exit.then (At n L J V F) Q) n L w)
    (hy : ∀ g ρ w', F g w' → Cd P y Q n (hd (V g) J ρ L) w') : Cd P (.seq x y) Q n L w := by
  refine ⟨wp_seq (wp_mono hx.out fun e a w' q => ?_)⟩
  cases e <;> first
    | exact q
    | (obtain ⟨g, ρ, rfl, hF⟩ := q; exact (hy g ρ w' hF).out)
theorem nx_cut {L0 : List (Nat × Value)} {J : List Nat} {V : G → List (Nat × Value)} {F : G → World → Prop} (g : G) (hv : AllV L (V g)) (hj : Agr ((V g).map (·.1) ++ J) L L0) (hF : F g w) : Exit.then (At n L0 J V F) Q .normal (mkA n L) w :=
  at_mk g hv hj hF
/-- a loop: its head, a measure on what is named there -/
theorem cd_loop {c : Code} (J : List Nat) (V : G → List (Nat × Value)) (F : G → World → Prop) (μ : G → Nat) (g0 : G) (hv : AllV L (V g0)) (hF : F g0 w)
    (round : ∀ g ρ w', F g w' → Cd P c (Exit.then (At n L J V (fun g' w'' => F g' w'' ∧ μ g' < μ g)) Q) n (hd (V g) J ρ L) w') : Cd P (.loop c) Q n L w := by
  refine ⟨wp_loop_ghost (fun m a w => At n L J V (fun g w => F g w ∧ μ g = m) a w) (μ g0) ⟨g0, look L, hd_of hv fun t _ => rfl, hF, rfl⟩ ?_⟩
  rintro m a w ⟨g, ρ, rfl, hF, rfl⟩
  refine wp_mono (round g ρ w hF).out fun e a' w' q => ?_
  cases e <;> first
    | exact q
    | (obtain ⟨g', ρ', rfl, hF', hlt⟩ := q; exact ⟨μ g', hlt, g', ρ', rfl, hF', rfl⟩)
end
end Go.Proofs.Ytpafbgdbjambgaa

namespace Go.Proofs.Ytpafbgdbjambgaa
open Go.RowKit

/-- this operation, in this world, over slots that read so: this value, that world -/
def RO (P : Program) (ρ : Operand → Value) (op : Op) (w : World) (v : Value) (w' : World) : Prop :=
  ∀ dst ty pos after g, (execOp ρ ⟨dst, op, ty, pos, after, g⟩).run P w = .ok (.value v) w'
/-- a store -/
def RS (P : Program) (ρ : Operand → Value) (op : Op) (w w' : World) : Prop :=
  ∀ dst ty pos after g, (execOp ρ ⟨dst, op, ty, pos, after, g⟩).run P w = .ok .skip w'

/-! ### what a table of types tells -/
def aggQ (P : Program) (t : TypeId) : Option Bool := (P.underlying t).map fun | .struct _ | .array _ _ => true | _ => false
def sizeQ (P : Program) (t : TypeId) : Option Nat := (P.info? t).map (·.size)
def elemQ (P : Program) (t : TypeId) : Option (Nat × Nat) := match P.underlying t with | some (.slice e) => (P.info? e).map fun i => (e, i.size) | _ => none
def arrQ (P : Program) (t : TypeId) : Option (Nat × Nat) := match P.underlying t with | some (.array n e) => (P.info? e).map fun i => (n, i.size) | _ => none
def fieldQ (P : Program) (t : TypeId) (f : Nat) : Option Nat := match P.underlying t with
  | some (.struct fs) => match fs[f]? with
    | some fl => match P.info? fl.type with
      | some i => if i.size = 0 then none else some fl.offset
      | none => none
    | none => none
  | _ => none
def zeroQ (P : Program) (t : TypeId) : Option Value := (P.info? t).bind (·.zero)

section
variable {P : Program} {ρ : Operand → Value} {w : World}
theorem isAgg_of {t : TypeId} {b : Bool} (h : aggQ P t = some b) : (isAgg t).run P w = .ok b w := by
  unfold aggQ at h
  cases hu : P.underlying t with
  | none => simp [hu] at h
  | some d =>
    rw [hu] at h
    simp only [Option.map_some, Option.some.injEq] at h
    subst h
    unfold isAgg
    rw [Sem.run_bind, run_underlying hu w]
    cases d <;> rfl
theorem sizeOf_of {t : TypeId} {s : Nat} (h : sizeQ P t = some s) : (sizeOf t).run P w = .ok s w := by
  unfold sizeQ at h
  cases hi : P.info? t with
  | none => simp [hi] at h
  | some i =>
    simp only [hi, Option.map_some, Option.some.injEq] at h
    simp [sizeOf, typeInfo, hi, h]
theorem zero_of {t : TypeId} {z : Value} (h : zeroQ P t = some z) : (zeroValue t).run P w = .ok z w := by
  unfold zeroQ at h
  cases hi : P.info? t with
  | none => simp [hi] at h
  | some i =>
    simp only [hi, Option.bind_some] at h
    simp [zeroValue, typeInfo, hi, h]
theorem elem_of {t e s : Nat} (h : elemQ P t = some (e, s)) : P.underlying t = some (.slice e) ∧ sizeQ P e = some s := by
  unfold elemQ at h
  split at h
  · rename_i e' hu
    cases hi : P.info? e' with
    | none => simp [hi] at h
    | some i =>
      simp only [hi, Option.map_some, Option.some.injEq, Prod.mk.injEq] at h
      obtain ⟨rfl, rfl⟩ := h
      exact ⟨hu, by simp [sizeQ, hi]⟩
  · cases h
theorem arr_of {t n s : Nat} (h : arrQ P t = some (n, s)) : ∃ e, P.underlying t = some (.array n e) ∧ sizeQ P e = some s := by
  unfold arrQ at h
  split at h
  · rename_i n' e' hu
    cases hi : P.info? e' with
    | none => simp [hi] at h
    | some i =>
      simp only [hi, Option.map_some, Option.some.injEq, Prod.mk.injEq] at h
      obtain ⟨rfl, rfl⟩ := h
      exact ⟨e', hu, by simp [sizeQ, hi]⟩
  · cases h

/-! ### slots -/
theorem ro_move {x : Operand} {v : Value} (hx : ρ x = v) : RO P ρ (.move x) w v w := fun _ _ _ _ _ => by subst hx; rfl
theorem ro_assign {x : Operand} {v : Value} (hx : ρ x = v) : RO P ρ (.assign x) w v w := fun _ _ _ _ _ => by subst hx; rfl
theorem ro_pickT {c x y : Operand} {v : Value} (hc : ρ c = .bool true) (hv : ρ x = v) : RO P ρ (.pick c x y) w v w := fun _ _ _ _ _ => by subst hv; simp [execOp, hc, asBool]
theorem ro_pickF {c x y : Operand} {v : Value} (hc : ρ c = .bool false) (hv : ρ y = v) : RO P ρ (.pick c x y) w v w := fun _ _ _ _ _ => by subst hv; simp [execOp, hc, asBool]

/-! ### integers -/
variable {t yt : TypeId} {x y : Operand} {k : IntKind} {a b : Int}
theorem ro_bin {op : BinOp} {u v r : Value} (hx : ρ x = u) (hy : ρ y = v) (hg : (eqGuard op t x y u v).run P w = .ok () w) (hr : (binOp op t u v).run P w = .ok r w) : RO P ρ (.binOp op t x y yt) w r w := fun _ _ _ _ _ => by
  subst hx; subst hy; simp [execOp, hg, hr]
theorem guard_int (op : BinOp) : (eqGuard op t x y (.int k a) (.int k b)).run P w = .ok () w := by unfold eqGuard; split <;> rfl
theorem ro_int {op : BinOp} {r : Value} (hx : ρ x = .int k a) (hy : ρ y = .int k b) (hr : (binOp op t (.int k a) (.int k b)).run P w = .ok r w) : RO P ρ (.binOp op t x y yt) w r w :=
  ro_bin hx hy (guard_int op) hr
theorem ro_add (hx : ρ x = .int k a) (hy : ρ y = .int k b) : RO P ρ (.binOp .add t x y yt) w (.int k (k.wrap (a + b))) w := ro_int hx hy (by simp [binOp, Op.intArith])
theorem ro_sub (hx : ρ x = .int k a) (hy : ρ y = .int k b) : RO P ρ (.binOp .sub t x y yt) w (.int k (k.wrap (a - b))) w := ro_int hx hy (by simp [binOp, Op.intArith])
theorem ro_mul (hx : ρ x = .int k a) (hy : ρ y = .int k b) : RO P ρ (.binOp .mul t x y yt) w (.int k (k.wrap (a * b))) w := ro_int hx hy (by simp [binOp, Op.intArith])
theorem ro_add64 (hx : ρ x = .int .i64 a) (hy : ρ y = .int .i64 b) (h : -9223372036854775808 ≤ a + b ∧ a + b ≤ 9223372036854775807) : RO P ρ (.binOp .add t x y yt) w (.int .i64 (a + b)) w := by
  have := ro_add (P := P) (ρ := ρ) (w := w) (t := t) (yt := yt) hx hy; rwa [IntWalk.i64_in _ h] at this
theorem ro_sub64 (hx : ρ x = .int .i64 a) (hy : ρ y = .int .i64 b) (h : -9223372036854775808 ≤ a - b ∧ a - b ≤ 9223372036854775807) : RO P ρ (.binOp .sub t x y yt) w (.int .i64 (a - b)) w := by
  have := ro_sub (P := P) (ρ := ρ) (w := w) (t := t) (yt := yt) hx hy; rwa [IntWalk.i64_in _ h] at this
theorem ro_mul64 (hx : ρ x = .int .i64 a) (hy : ρ y = .int .i64 b) (h : -9223372036854775808 ≤ a * b ∧ a * b ≤ 9223372036854775807) : RO P ρ (.binOp .mul t x y yt) w (.int .i64 (a * b)) w := by
  have := ro_mul (P := P) (ρ := ρ) (w := w) (t := t) (yt := yt) hx hy; rwa [IntWalk.i64_in _ h] at this
theorem ro_add64' {r : Int} (hx : ρ x = .int .i64 a) (hy : ρ y = .int .i64 b) (he : a + b = r) (h : -9223372036854775808 ≤ r ∧ r ≤ 9223372036854775807) : RO P ρ (.binOp .add t x y yt) w (.int .i64 r) w := by
  subst he; exact ro_add64 hx hy h
theorem ro_sub64' {r : Int} (hx : ρ x = .int .i64 a) (hy : ρ y = .int .i64 b) (he : a - b = r) (h : -9223372036854775808 ≤ r ∧ r ≤ 9223372036854775807) : RO P ρ (.binOp .sub t x y yt) w (.int .i64 r) w := by
  subst he; exact ro_sub64 hx hy h
theorem ro_mul64' {r : Int} (hx : ρ x = .int .i64 a) (hy : ρ y = .int .i64 b) (he : a * b = r) (h : -9223372036854775808 ≤ r ∧ r ≤ 9223372036854775807) : RO P ρ (.binOp .mul t x y yt) w (.int .i64 r) w := by
  subst he; exact ro_mul64 hx hy h
theorem ro_quo (hx : ρ x = .int k a) (hy : ρ y = .int k b) (hb : b ≠ 0) : RO P ρ (.binOp .quo t x y yt) w (.int k (k.wrap (a.tdiv b))) w := ro_int hx hy (by simp [binOp, Op.intDiv, hb])
theorem ro_rem (hx : ρ x = .int k a) (hy : ρ y = .int k b) (hb : b ≠ 0) : RO P ρ (.binOp .rem t x y yt) w (.int k (a.tmod b)) w := ro_int hx hy (by simp [binOp, Op.intDiv, hb])
theorem ro_quo64 (hx : ρ x = .int .i64 a) (hy : ρ y = .int .i64 b) (h : 0 ≤ a ∧ a ≤ 9223372036854775807 ∧ 0 < b) : RO P ρ (.binOp .quo t x y yt) w (.int .i64 (a / b)) w := by
  have := ro_quo (P := P) (ρ := ρ) (w := w) (t := t) (yt := yt) hx hy (by omega)
  have h2 : a / b ≤ a := Int.ediv_le_self b h.1
  have h3 : 0 ≤ a / b := Int.ediv_nonneg h.1 (by omega)
  rwa [Int.tdiv_eq_ediv_of_nonneg h.1, IntWalk.i64_in _ (by omega)] at this
theorem ro_rem64 (hx : ρ x = .int .i64 a) (hy : ρ y = .int .i64 b) (h : 0 ≤ a ∧ 0 < b) : RO P ρ (.binOp .rem t x y yt) w (.int .i64 (a % b)) w := by
  have := ro_rem (P := P) (ρ := ρ) (w := w) (t := t) (yt := yt) hx hy (by omega)
  rwa [Int.tmod_eq_emod_of_nonneg h.1] at this
theorem ro_and (hx : ρ x = .int k a) (hy : ρ y = .int k b) : RO P ρ (.binOp .and t x y yt) w (.int k (bits .and k a b)) w := ro_int hx hy (by simp [binOp, intBits_and])
theorem ro_or (hx : ρ x = .int k a) (hy : ρ y = .int k b) : RO P ρ (.binOp .or t x y yt) w (.int k (bits .or k a b)) w := ro_int hx hy (by simp [binOp, intBits_or])
theorem ro_xor (hx : ρ x = .int k a) (hy : ρ y = .int k b) : RO P ρ (.binOp .xor t x y yt) w (.int k (bits .xor k a b)) w := ro_int hx hy (by simp [binOp, intBits_xor])
theorem ro_andNot (hx : ρ x = .int k a) (hy : ρ y = .int k b) : RO P ρ (.binOp .andNot t x y yt) w (.int k (bits .andNot k a b)) w := ro_int hx hy (by simp [binOp, intBits_andNot])
theorem ro_shl {k' : IntKind} (hx : ρ x = .int k a) (hy : ρ y = .int k' b) (h : 0 ≤ b) : RO P ρ (.binOp .shl t x y yt) w (.int k (k.wrap (a * 2 ^ (min b.toNat k.bits)))) w :=
  ro_bin hx hy (by unfold eqGuard; rfl) (by
    have : ¬ b < 0 := by omega
    simp [binOp, Op.shift, this])
theorem ro_shr {k' : IntKind} (hx : ρ x = .int k a) (hy : ρ y = .int k' b) (h : 0 ≤ b) : RO P ρ (.binOp .shr t x y yt) w (.int k (a.fdiv (2 ^ (min b.toNat k.bits)))) w :=
  ro_bin hx hy (by unfold eqGuard; rfl) (by
    have : ¬ b < 0 := by omega
    simp [binOp, Op.shift, this])
theorem ro_eql (hx : ρ x = .int k a) (hy : ρ y = .int k b) : RO P ρ (.binOp .eql t x y yt) w (.bool (a == b)) w := ro_int hx hy (by simp [binOp, Op.intCmp])
theorem ro_neq (hx : ρ x = .int k a) (hy : ρ y = .int k b) : RO P ρ (.binOp .neq t x y yt) w (.bool (a != b)) w := ro_int hx hy (by simp [binOp, Op.intCmp])
theorem ro_lss (hx : ρ x = .int k a) (hy : ρ y = .int k b) : RO P ρ (.binOp .lss t x y yt) w (.bool (decide (a < b))) w := ro_int hx hy (by simp [binOp, Op.intCmp])
theorem ro_leq (hx : ρ x = .int k a) (hy : ρ y = .int k b) : RO P ρ (.binOp .leq t x y yt) w (.bool (decide (a ≤ b))) w := ro_int hx hy (by simp [binOp, Op.intCmp])
theorem ro_gtr (hx : ρ x = .int k a) (hy : ρ y = .int k b) : RO P ρ (.binOp .gtr t x y yt) w (.bool (decide (a > b))) w := ro_int hx hy (by simp [binOp, Op.intCmp])
theorem ro_geq (hx : ρ x = .int k a) (hy : ρ y = .int k b) : RO P ρ (.binOp .geq t x y yt) w (.bool (decide (a ≥ b))) w := ro_int hx hy (by simp [binOp, Op.intCmp])
/-! ### bools, strings, pointers -/
variable {p q : Bool} {s s' : ByteArray}
theorem equalInB (m : Nat) (ht : P.underlying t = some .bool) : (Op.equalIn (m + 1) t (.bool p) (.bool q)).run P w = .ok (p == q) w := by
  simp [Op.equalIn, run_underlying ht]
theorem equalB (ht : P.underlying t = some .bool) : (Op.equal t (.bool p) (.bool q)).run P w = .ok (p == q) w := equalInB 9999 ht
theorem ro_eqlB (ht : P.underlying t = some .bool) (hx : ρ x = .bool p) (hy : ρ y = .bool q) : RO P ρ (.binOp .eql t x y yt) w (.bool (p == q)) w :=
  ro_bin hx hy (by unfold eqGuard; rfl) (by simp only [binOp]; simp [equalB ht])
theorem ro_neqB (ht : P.underlying t = some .bool) (hx : ρ x = .bool p) (hy : ρ y = .bool q) : RO P ρ (.binOp .neq t x y yt) w (.bool (!(p == q))) w :=
  ro_bin hx hy (by unfold eqGuard; rfl) (by simp only [binOp]; simp [equalB ht])
theorem ro_eqlS (hx : ρ x = .string s) (hy : ρ y = .string s') : RO P ρ (.binOp .eql t x y yt) w (.bool (s.toList == s'.toList)) w :=
  ro_bin hx hy (by unfold eqGuard; rfl) (by simp [binOp, Op.stringOp])
theorem ro_neqS (hx : ρ x = .string s) (hy : ρ y = .string s') : RO P ρ (.binOp .neq t x y yt) w (.bool (!(s.toList == s'.toList))) w :=
  ro_bin hx hy (by unfold eqGuard; rfl) (by simp [binOp, Op.stringOp])
theorem ro_eqlNil {r : Option Addr} (ht : P.underlying t = some (.pointer (P.pointee t))) (hx : ρ x = .pointer r) (hy : ρ y = .pointer none) : RO P ρ (.binOp .eql t x y yt) w (.bool r.isNone) w :=
  ro_bin hx hy (by unfold eqGuard; cases r <;> rfl) (run_eql_pointer_nil w t r ht)
theorem ro_neqNil {r : Option Addr} (ht : P.underlying t = some (.pointer (P.pointee t))) (hx : ρ x = .pointer r) (hy : ρ y = .pointer none) : RO P ρ (.binOp .neq t x y yt) w (.bool (!r.isNone)) w :=
  ro_bin hx hy (by unfold eqGuard; cases r <;> rfl) (run_neq_pointer_nil w t r ht)
theorem ro_not (hx : ρ x = .bool p) : RO P ρ (.unOp .not t x) w (.bool (!p)) w := fun _ _ _ _ _ => by simp [execOp, hx, Op.unary]
theorem ro_neg (hx : ρ x = .int k a) : RO P ρ (.unOp .neg t x) w (.int k (k.wrap (0 - a))) w := fun _ _ _ _ _ => by simp [execOp, hx, Op.unary, Op.intArith]
theorem ro_inv (hx : ρ x = .int k a) : RO P ρ (.unOp .xor t x) w (.int k (bits .xor k (if k.signed then -1 else k.max) a)) w := fun _ _ _ _ _ => by simp [execOp, hx, Op.unary, intBits_xor]
theorem ro_conv {src dst : TypeId} {k' : IntKind} (hs : (P.underlying src).isSome = true) (hd : P.underlying dst = some (.int k')) (hx : ρ x = .int k a) : RO P ρ (.convert src dst x) w (.int k' (k'.wrap a)) w := fun _ _ _ _ _ => by
  obtain ⟨d, hd'⟩ := Option.isSome_iff_exists.mp hs
  simp [execOp, hx, convert, run_underlying hd', run_underlying hd, Conv.intToInt]
/-- from one kind to the same, or to one that holds it -/
theorem ro_conv' {src dst : TypeId} {k' : IntKind} {r : Int} (hs : (P.underlying src).isSome = true) (hd : P.underlying dst = some (.int k')) (hx : ρ x = .int k a) (hr : k'.wrap a = r) : RO P ρ (.convert src dst x) w (.int k' r) w := by
  subst hr; exact ro_conv hs hd hx
theorem ro_convS {src dst : TypeId} (hs : (P.underlying src).isSome = true) (hd : P.underlying dst = some .string) (hx : ρ x = .string s) : RO P ρ (.convert src dst x) w (.string s) w := fun _ _ _ _ _ => by
  obtain ⟨d, hd'⟩ := Option.isSome_iff_exists.mp hs
  simp only [execOp, hx, convert, Sem.run_bind, run_underlying hd', run_underlying hd, Result.andThen_ok]
  cases d <;> rfl
/-! ### numbers that are casts of natural ones -/
theorem ro_addN {a b : Nat} (hx : ρ x = .int .i64 (a : Nat)) (hy : ρ y = .int .i64 (b : Nat)) (h : a + b ≤ 9223372036854775807) : RO P ρ (.binOp .add t x y yt) w (.int .i64 ((a + b : Nat) : Int)) w :=
  ro_add64' hx hy (by omega) (by omega)
theorem ro_subN {a b : Nat} (hx : ρ x = .int .i64 (a : Nat)) (hy : ρ y = .int .i64 (b : Nat)) (h : b ≤ a ∧ a ≤ 9223372036854775807) : RO P ρ (.binOp .sub t x y yt) w (.int .i64 ((a - b : Nat) : Int)) w :=
  ro_sub64' hx hy (by omega) (by omega)
theorem ro_mulN {a b : Nat} (hx : ρ x = .int .i64 (a : Nat)) (hy : ρ y = .int .i64 (b : Nat)) (h : a * b ≤ 9223372036854775807) : RO P ρ (.binOp .mul t x y yt) w (.int .i64 ((a * b : Nat) : Int)) w :=
  ro_mul64' hx hy (by rw [Int.natCast_mul]) (by omega)
theorem ro_quoN {a b : Nat} (hx : ρ x = .int .i64 (a : Nat)) (hy : ρ y = .int .i64 (b : Nat)) (h : 0 < b ∧ a ≤ 9223372036854775807) : RO P ρ (.binOp .quo t x y yt) w (.int .i64 ((a / b : Nat) : Int)) w := by
  have := ro_quo64 (P := P) (ρ := ρ) (w := w) (t := t) (yt := yt) hx hy (by omega)
  rwa [← Int.natCast_ediv] at this
theorem ro_remN {a b : Nat} (hx : ρ x = .int .i64 (a : Nat)) (hy : ρ y = .int .i64 (b : Nat)) (h : 0 < b) : RO P ρ (.binOp .rem t x y yt) w (.int .i64 ((a % b : Nat) : Int)) w := by
  have := ro_rem64 (P := P) (ρ := ρ) (w := w) (t := t) (yt := yt) hx hy (by omega)
  rwa [← Int.natCast_emod] at this
theorem ro_shrN {a b : Nat} {k k' : IntKind} (hx : ρ x = .int k (a : Nat)) (hy : ρ y = .int k' (b : Nat)) (h : b ≤ k.bits) : RO P ρ (.binOp .shr t x y yt) w (.int k ((a / 2 ^ b : Nat) : Int)) w := by
  have := ro_shr (P := P) (ρ := ρ) (w := w) (t := t) (yt := yt) hx hy (by omega)
  have e : min ((b : Nat) : Int).toNat k.bits = b := by rw [Int.toNat_natCast]; omega
  rw [e] at this
  have e2 : ((a : Nat) : Int).fdiv (2 ^ b) = ((a / 2 ^ b : Nat) : Int) := by
    rw [Int.fdiv_eq_ediv_of_nonneg _ (Int.pow_nonneg (by decide)), Int.natCast_ediv]
    norm_cast
  rwa [e2] at this
theorem ro_shlN {a b : Nat} {k' : IntKind} (hx : ρ x = .int .u64 (a : Nat)) (hy : ρ y = .int k' (b : Nat)) (h : b ≤ 64) : RO P ρ (.binOp .shl t x y yt) w (.int .u64 ((a * 2 ^ b % 2 ^ 64 : Nat) : Int)) w := by
  have := ro_shl (P := P) (ρ := ρ) (w := w) (t := t) (yt := yt) hx hy (by omega)
  have e : min ((b : Nat) : Int).toNat IntKind.u64.bits = b := by rw [Int.toNat_natCast]; show min b 64 = b; omega
  rw [e] at this
  have e2 : IntKind.u64.wrap (((a : Nat) : Int) * 2 ^ b) = ((a * 2 ^ b % 2 ^ 64 : Nat) : Int) := by
    have h : (a : Int) * 2 ^ b = ((a * 2 ^ b : Nat) : Int) := by norm_cast
    rw [h, IntKind.wrap_u64]
    generalize a * 2 ^ b = c
    omega
  rwa [e2] at this
theorem ro_shlN8 {a b : Nat} {k' : IntKind} (hx : ρ x = .int .u8 (a : Nat)) (hy : ρ y = .int k' (b : Nat)) (h : b ≤ 8) : RO P ρ (.binOp .shl t x y yt) w (.int .u8 ((a * 2 ^ b % 256 : Nat) : Int)) w := by
  have := ro_shl (P := P) (ρ := ρ) (w := w) (t := t) (yt := yt) hx hy (by omega)
  have e : min ((b : Nat) : Int).toNat IntKind.u8.bits = b := by rw [Int.toNat_natCast]; show min b 8 = b; omega
  rw [e] at this
  have e2 : IntKind.u8.wrap (((a : Nat) : Int) * 2 ^ b) = ((a * 2 ^ b % 256 : Nat) : Int) := by
    have h : (a : Int) * 2 ^ b = ((a * 2 ^ b : Nat) : Int) := by norm_cast
    rw [h, IntKind.wrap_u8]
    generalize a * 2 ^ b = c
    omega
  rwa [e2] at this
theorem bits_u64 {a b : Nat} (ha : a < 2 ^ 64) (hb : b < 2 ^ 64) : bits .and .u64 (a : Int) (b : Int) = ((a &&& b : Nat) : Int) ∧ bits .or .u64 (a : Int) (b : Int) = ((a ||| b : Nat) : Int) ∧ bits .xor .u64 (a : Int) (b : Int) = ((a ^^^ b : Nat) : Int) := by
  have e1 : (BitVec.ofInt 64 (a : Int)).toNat = a := by rw [BitVec.ofInt_natCast, BitVec.toNat_ofNat]; exact Nat.mod_eq_of_lt ha
  have e2 : (BitVec.ofInt 64 (b : Int)).toNat = b := by rw [BitVec.ofInt_natCast, BitVec.toNat_ofNat]; exact Nat.mod_eq_of_lt hb
  refine ⟨?_, ?_, ?_⟩
  · show IntKind.u64.wrap ((BitVec.ofInt 64 (a : Int) &&& BitVec.ofInt 64 (b : Int)).toNat : Int) = _
    have h : a &&& b < 2 ^ 64 := Nat.and_lt_two_pow _ hb
    rw [BitVec.toNat_and, e1, e2, IntKind.wrap_u64]; generalize a &&& b = c at *; omega
  · show IntKind.u64.wrap ((BitVec.ofInt 64 (a : Int) ||| BitVec.ofInt 64 (b : Int)).toNat : Int) = _
    have h := Nat.or_lt_two_pow ha hb
    rw [BitVec.toNat_or, e1, e2, IntKind.wrap_u64]; generalize a ||| b = c at *; omega
  · show IntKind.u64.wrap ((BitVec.ofInt 64 (a : Int) ^^^ BitVec.ofInt 64 (b : Int)).toNat : Int) = _
    have h := Nat.xor_lt_two_pow ha hb
    rw [BitVec.toNat_xor, e1, e2, IntKind.wrap_u64]; generalize a ^^^ b = c at *; omega
theorem bits_u8 {a b : Nat} (ha : a < 256) (hb : b < 256) : bits .and .u8 (a : Int) (b : Int) = ((a &&& b : Nat) : Int) ∧ bits .or .u8 (a : Int) (b : Int) = ((a ||| b : Nat) : Int) ∧ bits .xor .u8 (a : Int) (b : Int) = ((a ^^^ b : Nat) : Int) := by
  have e1 : (BitVec.ofInt 8 (a : Int)).toNat = a := by rw [BitVec.ofInt_natCast, BitVec.toNat_ofNat]; exact Nat.mod_eq_of_lt ha
  have e2 : (BitVec.ofInt 8 (b : Int)).toNat = b := by rw [BitVec.ofInt_natCast, BitVec.toNat_ofNat]; exact Nat.mod_eq_of_lt hb
  refine ⟨?_, ?_, ?_⟩
  · show IntKind.u8.wrap ((BitVec.ofInt 8 (a : Int) &&& BitVec.ofInt 8 (b : Int)).toNat : Int) = _
    have h : a &&& b < 2 ^ 8 := Nat.and_lt_two_pow _ hb
    rw [BitVec.toNat_and, e1, e2, IntKind.wrap_u8]; generalize a &&& b = c at *; omega
  · show IntKind.u8.wrap ((BitVec.ofInt 8 (a : Int) ||| BitVec.ofInt 8 (b : Int)).toNat : Int) = _
    have h : a ||| b < 2 ^ 8 := Nat.or_lt_two_pow ha hb
    rw [BitVec.toNat_or, e1, e2, IntKind.wrap_u8]; generalize a ||| b = c at *; omega
  · show IntKind.u8.wrap ((BitVec.ofInt 8 (a : Int) ^^^ BitVec.ofInt 8 (b : Int)).toNat : Int) = _
    have h : a ^^^ b < 2 ^ 8 := Nat.xor_lt_two_pow ha hb
    rw [BitVec.toNat_xor, e1, e2, IntKind.wrap_u8]; generalize a ^^^ b = c at *; omega
theorem ro_andN {a b : Nat} (hx : ρ x = .int .u64 (a : Nat)) (hy : ρ y = .int .u64 (b : Nat)) (h : a < 2 ^ 64 ∧ b < 2 ^ 64) : RO P ρ (.binOp .and t x y yt) w (.int .u64 ((a &&& b : Nat) : Int)) w := by
  have := ro_and (P := P) (ρ := ρ) (w := w) (t := t) (yt := yt) hx hy; rwa [(bits_u64 h.1 h.2).1] at this
theorem ro_orN {a b : Nat} (hx : ρ x = .int .u64 (a : Nat)) (hy : ρ y = .int .u64 (b : Nat)) (h : a < 2 ^ 64 ∧ b < 2 ^ 64) : RO P ρ (.binOp .or t x y yt) w (.int .u64 ((a ||| b : Nat) : Int)) w := by
  have := ro_or (P := P) (ρ := ρ) (w := w) (t := t) (yt := yt) hx hy; rwa [(bits_u64 h.1 h.2).2.1] at this
theorem ro_xorN {a b : Nat} (hx : ρ x = .int .u64 (a : Nat)) (hy : ρ y = .int .u64 (b : Nat)) (h : a < 2 ^ 64 ∧ b < 2 ^ 64) : RO P ρ (.binOp .xor t x y yt) w (.int .u64 ((a ^^^ b : Nat) : Int)) w := by
  have := ro_xor (P := P) (ρ := ρ) (w := w) (t := t) (yt := yt) hx hy; rwa [(bits_u64 h.1 h.2).2.2] at this
theorem ro_andN8 {a b : Nat} (hx : ρ x = .int .u8 (a : Nat)) (hy : ρ y = .int .u8 (b : Nat)) (h : a < 256 ∧ b < 256) : RO P ρ (.binOp .and t x y yt) w (.int .u8 ((a &&& b : Nat) : Int)) w := by
  have := ro_and (P := P) (ρ := ρ) (w := w) (t := t) (yt := yt) hx hy; rwa [(bits_u8 h.1 h.2).1] at this
theorem ro_orN8 {a b : Nat} (hx : ρ x = .int .u8 (a : Nat)) (hy : ρ y = .int .u8 (b : Nat)) (h : a < 256 ∧ b < 256) : RO P ρ (.binOp .or t x y yt) w (.int .u8 ((a ||| b : Nat) : Int)) w := by
  have := ro_or (P := P) (ρ := ρ) (w := w) (t := t) (yt := yt) hx hy; rwa [(bits_u8 h.1 h.2).2.1] at this
theorem ro_xorN8 {a b : Nat} (hx : ρ x = .int .u8 (a : Nat)) (hy : ρ y = .int .u8 (b : Nat)) (h : a < 256 ∧ b < 256) : RO P ρ (.binOp .xor t x y yt) w (.int .u8 ((a ^^^ b : Nat) : Int)) w := by
  have := ro_xor (P := P) (ρ := ρ) (w := w) (t := t) (yt := yt) hx hy; rwa [(bits_u8 h.1 h.2).2.2] at this
/-- a byte as a word -/
theorem ro_conv64 {src dst : TypeId} {a : Nat} {k : IntKind} (hs : (P.underlying src).isSome = true) (hd : P.underlying dst = some (.int .u64)) (hx : ρ x = .int k (a : Nat)) (h : a < 2 ^ 64) : RO P ρ (.convert src dst x) w (.int .u64 (a : Nat)) w :=
  ro_conv' hs hd hx (IntWalk.u64_in _ (by omega))
theorem ro_convI {src dst : TypeId} {a : Nat} {k : IntKind} (hs : (P.underlying src).isSome = true) (hd : P.underlying dst = some (.int .i64)) (hx : ρ x = .int k (a : Nat)) (h : a ≤ 9223372036854775807) : RO P ρ (.convert src dst x) w (.int .i64 (a : Nat)) w :=
  ro_conv' hs hd hx (IntWalk.i64_in _ (by omega))
theorem ro_conv8 {src dst : TypeId} {a : Nat} {k : IntKind} (hs : (P.underlying src).isSome = true) (hd : P.underlying dst = some (.int .u8)) (hx : ρ x = .int k (a : Nat)) : RO P ρ (.convert src dst x) w (.int .u8 ((a % 256 : Nat) : Int)) w :=
  ro_conv' hs hd hx (by rw [IntKind.wrap_u8]; omega)
/-! ### slices and memory -/
variable {A : Option Addr} {ad : Addr} {n c : Nat}
theorem ro_len (ht : (elemQ P t).isSome = true) (hx : ρ x = .slice A n c) : RO P ρ (.call { callee := .builtin .len, args := #[x], argTypes := #[t] }) w (.int .i64 n) w := fun _ _ _ _ _ => by
  obtain ⟨⟨e, sz⟩, he⟩ := Option.isSome_iff_exists.mp ht
  obtain ⟨hu, _⟩ := elem_of he
  simp [BigFrame.execOp_builtin, BigFrame.builtin_len, Builtin.len_, run_underlying hu, hx, goInt]
theorem ro_lenS (ht : P.underlying t = some .string) (hx : ρ x = .string s) : RO P ρ (.call { callee := .builtin .len, args := #[x], argTypes := #[t] }) w (.int .i64 s.size) w := fun _ _ _ _ _ => by
  simp [BigFrame.execOp_builtin, BigFrame.builtin_len, Builtin.len_, run_underlying ht, hx, goInt]
theorem ro_nilCheck (hx : ρ x = .pointer (some ad)) : RO P ρ (.nilCheck x) w (.pointer (some ad)) w := fun _ _ _ _ _ => by simp [execOp, hx]
theorem ro_fieldAddr {f o b off : Nat} (hf : fieldQ P t f = some o) (hx : ρ x = .pointer (some ⟨b, off, none⟩)) : RO P ρ (.fieldAddr t x f) w (.pointer (some ⟨b, off + o, none⟩)) w := fun _ _ _ _ _ => by
  unfold fieldQ at hf
  split at hf
  · rename_i fs hu
    split at hf
    · rename_i fl hfl
      split at hf
      · rename_i i hi
        split at hf
        · cases hf
        · rename_i hs
          obtain rfl := Option.some.inj hf
          simp [execOp, hx, Instr.fieldAt, run_underlying hu, hfl, Instr.sureAddr, fieldPlace, sizeOf, typeInfo, hi, hs, Addr.add_mid]
      · cases hf
    · cases hf
  · cases hf
theorem ro_indexAddr {e sz b off : Nat} {i : Int} {k : IntKind} (ht : elemQ P t = some (e, sz)) (hx : ρ x = .slice (some ⟨b, off, none⟩) n c) (hy : ρ y = .int k i) (h : 0 ≤ i ∧ i < n) :
    RO P ρ (.indexAddr t x y) w (.pointer (some ⟨b, off + i.toNat * sz, none⟩)) w := fun _ _ _ _ _ => by
  obtain ⟨hu, hs⟩ := elem_of ht
  simp [execOp, hx, hy, Instr.indexAt, asIntOf, run_underlying hu, h, sizeOf_of hs, Addr.add_mid]
/-- the index a Nat -/
theorem ro_indexAddrN {e sz b off i : Nat} {k : IntKind} (ht : elemQ P t = some (e, sz)) (hx : ρ x = .slice (some ⟨b, off, none⟩) n c) (hy : ρ y = .int k (i : Nat)) (h : i < n) :
    RO P ρ (.indexAddr t x y) w (.pointer (some ⟨b, off + i * sz, none⟩)) w := ro_indexAddr ht hx hy ⟨by omega, by omega⟩
/-- cells of one value -/
theorem ro_indexAddr1 {e b off i : Nat} {k : IntKind} (ht : elemQ P t = some (e, 1)) (hx : ρ x = .slice (some ⟨b, off, none⟩) n c) (hy : ρ y = .int k (i : Nat)) (h : i < n) :
    RO P ρ (.indexAddr t x y) w (.pointer (some ⟨b, off + i, none⟩)) w := by
  have := ro_indexAddrN (P := P) (ρ := ρ) (w := w) ht hx hy h
  rwa [Nat.mul_one] at this
/-- from the head of a block on -/
theorem ro_indexAddr0 {e b i : Nat} {k : IntKind} (ht : elemQ P t = some (e, 1)) (hx : ρ x = .slice (some ⟨b, 0, none⟩) n c) (hy : ρ y = .int k (i : Nat)) (h : i < n) :
    RO P ρ (.indexAddr t x y) w (.pointer (some ⟨b, i, none⟩)) w := by
  have := ro_indexAddr1 (P := P) (ρ := ρ) (w := w) ht hx hy h
  rwa [Nat.zero_add] at this
theorem ro_indexAddrA {m sz b off : Nat} {i : Int} {k : IntKind} (ht : arrQ P t = some (m, sz)) (hx : ρ x = .pointer (some ⟨b, off, none⟩)) (hy : ρ y = .int k i) (h : 0 ≤ i ∧ i < m) :
    RO P ρ (.indexAddr t x y) w (.pointer (some ⟨b, off + i.toNat * sz, none⟩)) w := fun _ _ _ _ _ => by
  obtain ⟨e, hu, hs⟩ := arr_of ht
  simp [execOp, hx, hy, Instr.indexAt, asIntOf, run_underlying hu, Instr.sureAddr, h, sizeOf_of hs, Addr.add_mid]
theorem ro_indexS {i : Int} {k : IntKind} (ht : P.underlying t = some .string) (hx : ρ x = .string s) (hy : ρ y = .int k i) (h0 : 0 ≤ i) {u : UInt8} (hu : s[i.toNat]? = some u) :
    RO P ρ (.index t x y) w (.int .u8 u.toNat) w := fun _ _ _ _ _ => by
  simp [execOp, hx, hy, Instr.index, asIntOf, run_underlying ht, h0, hu]
theorem ro_load {v : Value} (ht : aggQ P t = some false) (hx : ρ x = .pointer (some ad)) (hc : w.cell? ad = some v) : RO P ρ (.load t x) w v w := fun _ _ _ _ _ => by
  simp [execOp, hx, Instr.loadAt, Instr.sureAddr, loadVar, isAgg_of ht, hc]
theorem ro_loadA {b off : Nat} {cs : List Value} (ht : aggQ P t = some true) (hs : sizeQ P t = some cs.length) (hx : ρ x = .pointer (some ⟨b, off, none⟩)) (hc : w.rangeAt b off cs) : RO P ρ (.load t x) w (.agg cs.toArray) w := fun _ _ _ _ _ => by
  have hl : (loadCells ⟨b, off, none⟩ cs.length).run P w = .ok cs.toArray w :=
    run_loadCells_list (P := P) w ⟨b, off, none⟩ cs (fun j v hv => by rw [Addr.add_mid]; exact hc j v hv)
  simp [execOp, hx, Instr.loadAt, Instr.sureAddr, loadVar, isAgg_of ht, sizeOf_of hs, hl]
theorem rs_store {v u : Value} (ht : sizeQ P t = some 1) (hx : ρ x = .pointer (some ad)) (hy : ρ y = v) (h1 : v.oneCell' = true) (hc : w.cell? ad = some u) (hf : w.frozen? ad = false) : RS P ρ (.store t x y) w (w.setCell ad v) := fun _ _ _ _ _ => by
  have hcs : v.cells = #[v] := by cases v <;> first | rfl | (simp [Value.oneCell'] at h1)
  have hst := run_store P w ad v .plain h1
  rw [hc] at hst
  simp only [hf] at hst
  have e0 : ad.add 0 = ad := by unfold Addr.add; simp
  simp [execOp, hx, hy, Instr.storeAt, Instr.sureAddr, storeVar, sizeOf_of ht, hcs, storeCells, e0, hst]
theorem rs_storeA {b off : Nat} {cs : List Value} (hs : sizeQ P t = some cs.length) (hx : ρ x = .pointer (some ⟨b, off, none⟩)) (hy : ρ y = .agg cs.toArray) (h1 : ∀ v ∈ cs, v.oneCell' = true) (hc : w.there b off cs.length) :
    RS P ρ (.store t x y) w (w.setCells b off cs) := fun _ _ _ _ _ => by
  have hr := run_storeAt_mid (P := P) w b off t cs.toArray (by simpa using hc) (by simpa [sizeQ] using hs) (all_oneCell_toArray h1)
  simp [execOp, hx, hy, hr]
theorem ro_alloc {z : Value} (hz : zeroQ P t = some z) : RO P ρ (.alloc t) w (.pointer (some ⟨w.heap.size, 0, none⟩)) (w.alloc (.cells z.cells t)) := fun _ _ _ _ _ => by
  simp [execOp, Instr.alloc, zero_of hz, newVar, newRow]
theorem ro_box {v : Value} (hx : ρ x = v) : RO P ρ (.box t x) w (.pointer (some ⟨w.heap.size, 0, none⟩)) (w.alloc (.cells v.cells t)) := fun _ _ _ _ _ => by
  simp [execOp, Instr.box, hx, newVar, newRow]
theorem ro_build {l : List (Nat × Operand)} {cells : Array Value} (h : P.built t (l.map fun p => (p.1, ρ p.2)) = some cells) : RO P ρ (.build t l.toArray) w (.agg cells) w := fun _ _ _ _ _ => by
  have := run_build (P := P) w t ((l.map fun p => (p.1, ρ p.2)).toArray) cells (by simpa using h)
  simp only [execOp, List.map_toArray, Sem.run_bind]
  rw [this]
  rfl
theorem ro_buildSlice {e m : Nat} {l : List (Nat × Operand)} {cells : Array Value} {ie : TypeInfo} {z : Value} (hu : P.underlying t = some (.slice e)) (hie : P.info? e = some ie) (hz : ie.zero = some z) (hsmall : ¬ m * ie.size > 2 ^ 24) (hpos : ¬ m * ie.size = 0)
    (hf : Instr.fill (fun i => some (i * ie.size, ie.size)) ((Array.range (m * ie.size)).map (z.cells[· % z.cells.size]!)) (l.map fun p => (p.1, ρ p.2)) = some cells) :
    RO P ρ (.buildSlice t m l.toArray) w (.slice (some ⟨w.heap.size, 0, none⟩) m m) (w.alloc (.cells cells e)) := fun _ _ _ _ _ => by
  have := run_buildSlice (P := P) w t e m ((l.map fun p => (p.1, ρ p.2)).toArray) cells ie z hu hie hz hsmall hpos (by simpa using hf)
  simp only [execOp, List.map_toArray, Sem.run_bind]
  rw [this]
  rfl
theorem ro_extract {i : Nat} {l : List Value} {v : Value} (hx : ρ x = .tuple l.toArray) (hv : l[i]? = some v) : RO P ρ (.extract x i) w v w := fun _ _ _ _ _ => by
  simp [execOp, hx, Instr.extract, hv]
/-- a field of a struct that is a value -/
theorem ro_field {f : Nat} {cs : Array Value} {v : Value} (hx : ρ x = .agg cs) (h : (Instr.field t (.agg cs) f).run P w = .ok v w) : RO P ρ (.field t x f) w v w := fun _ _ _ _ _ => by
  simp [execOp, hx, h]
/-! ### pieces of a slice -/
theorem ro_slice {e sz b off l h : Nat} (ht : elemQ P t = some (e, sz)) {lo hi : Option Operand} (hx : ρ x = .slice (some ⟨b, off, none⟩) n c)
    (hl : (lo = none ∧ l = 0) ∨ ∃ y k, lo = some y ∧ ρ y = .int k (l : Nat)) (hh : (hi = none ∧ h = n) ∨ ∃ y k, hi = some y ∧ ρ y = .int k (h : Nat)) (h1 : l ≤ h) (h2 : h ≤ c) :
    RO P ρ (.slice t x lo hi none) w (.slice (some ⟨b, if c = l then off else off + l * sz, none⟩) (h - l) (c - l)) w := fun _ _ _ _ _ => by
  obtain ⟨hu, hs⟩ := elem_of ht
  have key : ∀ A : Addr, A = ⟨b, off, none⟩ → (Option.some (if c = l then A else A.add (l * sz))) = some ⟨b, if c = l then off else off + l * sz, none⟩ := fun A hA => by subst hA; split <;> simp [Addr.add_mid]
  have hE : P.elem t = e := by simp [Program.elem, hu]
  have hu' : P.underlying t = some (.slice (P.elem t)) := by rw [hE]; exact hu
  have fin : (Result.ok (sliced (some ⟨b, off, none⟩) l h c sz) w : Result Value) = .ok (.slice (some ⟨b, if c = l then off else off + l * sz, none⟩) (h - l) (c - l)) w := by
    simp only [sliced]
    split <;> simp [Addr.add_mid]
  rcases hl with ⟨rfl, rfl⟩ | ⟨y1, k1, rfl, hy1⟩ <;> rcases hh with ⟨rfl, rfl⟩ | ⟨y2, k2, rfl, hy2⟩
  · simp only [execOp, hx, Option.map_none, Sem.run_bind]
    rw [run_sliceAt_slice w t _ _ _ _ hu', run_slice_all w t _ _ c hu', hE, sizeOf_of hs, Result.andThen_ok, fin]; rfl
  · simp only [execOp, hx, hy2, Option.map_none, Option.map_some, Sem.run_bind]
    rw [run_sliceAt_slice w t _ _ _ _ hu', run_slice_h w t _ n c hu' k2 (h : Int) (by omega) (by omega), hE, sizeOf_of hs, Result.andThen_ok, Int.toNat_natCast, fin]; rfl
  · simp only [execOp, hx, hy1, Option.map_none, Option.map_some, Sem.run_bind]
    rw [run_sliceAt_slice w t _ _ _ _ hu', run_slice_l w t _ _ c hu' k1 (l : Int) (by omega) (by omega), hE, sizeOf_of hs, Result.andThen_ok, Int.toNat_natCast, fin]; rfl
  · simp only [execOp, hx, hy1, hy2, Option.map_none, Option.map_some, Sem.run_bind]
    rw [run_sliceAt_slice w t _ _ _ _ hu', run_slice_lh w t _ n c hu' k1 k2 (l : Int) (h : Int) (by omega) (by omega) (by omega), hE, sizeOf_of hs, Result.andThen_ok, Int.toNat_natCast, Int.toNat_natCast, fin]; rfl
end

/-! ### steps -/
section steps
variable {P : Program} {ops : Array Oper} {Q : Exit → Act → World → Prop} {rest : List Oper} {n : Fr} {L : List (Nat × Value)} {w w' : World} {op : Op} {ty : TypeId} {pos : String} {after : Array Edge} {d : Nat}
theorem st_val {v : Value} (hr : RO P (ev n L) op w v w') (k : St P ops Q rest n ((d, v) :: L) w') : St P ops Q (⟨some d, op, ty, pos, after, none⟩ :: rest) n L w := by
  refine ⟨wpList_plain rfl fun K hK => ?_⟩
  unfold Oper.wp
  rw [eval_mkA, hr]
  rw [Oper.upon_value, put_mkA]
  exact hK _ _ k.out
theorem st_store (hr : RS P (ev n L) op w w') (k : St P ops Q rest n L w') : St P ops Q (⟨none, op, ty, pos, after, none⟩ :: rest) n L w := by
  refine ⟨wpList_plain rfl fun K hK => ?_⟩
  unfold Oper.wp
  rw [eval_mkA, hr]
  rw [Oper.upon_skip]
  exact hK _ _ k.out
/-- what a guard's slot says -/
def nthDst : List Oper → Nat → Option Nat
  | [], _ => none
  | o :: _, 0 => o.dst
  | _ :: r, j + 1 => nthDst r j
theorem nthDst_eq : ∀ (l : List Oper) (j : Nat), nthDst l j = (l[j]?).bind (·.dst)
  | [], _ => by simp [nthDst]
  | o :: _, 0 => by simp [nthDst]
  | _ :: r, j + 1 => by simpa [nthDst] using nthDst_eq r j
def wantQ (ops : Array Oper) (n : Fr) (L : List (Nat × Value)) (j : Nat) : Value := match nthDst ops.toList j with | some t => ev n L (.tmp t) | none => undef
theorem yielded_mkT {j : Nat} {b : Bool} (h : wantQ ops n L j = .bool b) : yielded ops (mkT n.n L) j = some b := by
  unfold wantQ at h
  rw [nthDst_eq, Array.getElem?_toList] at h
  unfold yielded
  cases hd : (ops[j]?).bind (·.dst) with
  | none => rw [hd] at h; simp [undef] at h
  | some t =>
    rw [hd] at h
    simp only [Option.bind_some, mkT_get]
    simp only [ev, blt_iff] at h
    by_cases ht : t < n.n
    · simp only [ht, decide_true, cond_true] at h
      simp [ht, h]
    · simp [ht, undef] at h
theorem st_gyes {v : Value} {j : Nat} {b : Bool} (hg : wantQ ops n L j = .bool b) (hr : RO P (ev n L) op w v w') (k : St P ops Q rest n ((d, v) :: L) w') : St P ops Q (⟨some d, op, ty, pos, after, some (j, b)⟩ :: rest) n L w := by
  refine ⟨wpList_step fun K hK => ?_⟩
  have hw : Region.wanted ⟨some d, op, ty, pos, after, some (j, b)⟩ (yielded ops (mkA n L).tmps) = true := by
    show (yielded ops (mkT n.n L) j == some b) = true
    rw [yielded_mkT hg]; simp
  rw [if_pos hw]
  unfold Oper.wp
  rw [eval_mkA, hr]
  rw [Oper.upon_value, put_mkA]
  exact hK _ _ k.out
theorem st_gno {j : Nat} {b b' : Bool} (hg : wantQ ops n L j = .bool b') (hb : (b' == b) = false) (k : St P ops Q rest n ((d, undef) :: L) w) : St P ops Q (⟨some d, op, ty, pos, after, some (j, b)⟩ :: rest) n L w := by
  refine ⟨wpList_step fun K hK => ?_⟩
  have hw : Region.wanted ⟨some d, op, ty, pos, after, some (j, b)⟩ (yielded ops (mkA n L).tmps) = false := by
    show (yielded ops (mkT n.n L) j == some b) = false
    rw [yielded_mkT hg]; simpa using hb
  rw [if_neg (by rw [hw]; simp), put_mkA]
  exact hK _ _ k.out
theorem st_gnoN {j : Nat} {b b' : Bool} (hg : wantQ ops n L j = .bool b') (hb : (b' == b) = false) (k : St P ops Q rest n L w) : St P ops Q (⟨none, op, ty, pos, after, some (j, b)⟩ :: rest) n L w := by
  refine ⟨wpList_step fun K hK => ?_⟩
  have hw : Region.wanted ⟨none, op, ty, pos, after, some (j, b)⟩ (yielded ops (mkA n L).tmps) = false := by
    show (yielded ops (mkT n.n L) j == some b) = false
    rw [yielded_mkT hg]; simpa using hb
  rw [if_neg (by rw [hw]; simp)]
  exact hK _ _ k.out
/-- a guard over an operation that was passed over itself -/
theorem yielded_undef {j : Nat} (h : wantQ ops n L j = undef) : yielded ops (mkT n.n L) j = none := by
  unfold wantQ at h
  rw [nthDst_eq, Array.getElem?_toList] at h
  unfold yielded
  cases hd : (ops[j]?).bind (·.dst) with
  | none => rfl
  | some t =>
    rw [hd] at h
    simp only [Option.bind_some, mkT_get]
    simp only [ev, blt_iff] at h
    by_cases ht : t < n.n
    · simp only [ht, decide_true, cond_true] at h
      rw [if_pos ht, h]
      rfl
    · simp [ht]
theorem st_gund {j : Nat} {b : Bool} (hg : wantQ ops n L j = undef) (k : St P ops Q rest n ((d, undef) :: L) w) : St P ops Q (⟨some d, op, ty, pos, after, some (j, b)⟩ :: rest) n L w := by
  refine ⟨wpList_step fun K hK => ?_⟩
  have hw : Region.wanted ⟨some d, op, ty, pos, after, some (j, b)⟩ (yielded ops (mkA n L).tmps) = false := by
    show (yielded ops (mkT n.n L) j == some b) = false
    rw [yielded_undef hg]; rfl
  rw [if_neg (by rw [hw]; simp), put_mkA]
  exact hK _ _ k.out
/-- a guard that says yes -/
theorem st_unguard {dst : Option Tmp} {j : Nat} {b : Bool} (hg : wantQ ops n L j = .bool b) (k : St P ops Q (⟨dst, op, ty, pos, after, none⟩ :: rest) n L w) : St P ops Q (⟨dst, op, ty, pos, after, some (j, b)⟩ :: rest) n L w := by
  have hw : Region.wanted ⟨dst, op, ty, pos, after, some (j, b)⟩ (yielded ops (mkA n L).tmps) = true := by
    show (yielded ops (mkT n.n L) j == some b) = true
    rw [yielded_mkT hg]; simp
  have hk := k.out
  constructor
  unfold wpList at hk ⊢
  rw [if_pos hw]
  exact hk
/-- by cases on the bool that a slot holds -/
theorem st_split {t : Nat} {e : Bool} (h : look L t = .bool e) (hT : e = true → St P ops Q rest n ((t, .bool true) :: L) w) (hF : e = false → St P ops Q rest n ((t, .bool false) :: L) w) : St P ops Q rest n L w := by
  have key : ∀ v, look L t = v → mkA n ((t, v) :: L) = mkA n L := fun v hv => mkA_congr fun i _ => by
    rw [look_cons]
    split
    · rename_i hi; subst hi; exact hv.symm
    · rfl
  cases e with
  | true => have := (hT rfl).out; rw [key _ h] at this; exact ⟨this⟩
  | false => have := (hF rfl).out; rw [key _ h] at this; exact ⟨this⟩
/-- a slot's value, spelled otherwise -/
theorem st_spell {t : Nat} {v v' : Value} (h : look L t = v) (he : v = v') (k : St P ops Q rest n ((t, v') :: L) w) : St P ops Q rest n L w := by
  have key : mkA n ((t, v') :: L) = mkA n L := mkA_congr fun i _ => by
    rw [look_cons]
    split
    · rename_i hi; subst hi; rw [h, he]
    · rfl
  have := k.out
  rw [key] at this
  exact ⟨this⟩
/-! calls -/
def callable (P : Program) (f : FuncId) : Bool := match P.funcs[f]? with | some fn => !(fn.name == "runtime.NumGoroutine") && fn.body.isSome | none => false
theorem run_call {f : FuncId} (hf : callable P f = true) (args : Array Value) : (callFunc f args).run P w = .ok (.enter f args) w := by
  unfold callable at hf
  cases h : P.funcs[f]? with
  | none => simp [h] at hf
  | some fn =>
    simp only [h, Bool.and_eq_true, Bool.not_eq_true'] at hf
    have hb : fn.body.isNone = false := by cases hb : fn.body <;> simp_all
    simp only [callFunc, Sem.run_bind, run_program, Result.andThen_ok, h, hf.1, hb, Bool.false_eq_true, if_false]
    rfl
theorem exec_call {ρ : Operand → Value} (hρ : ∀ f, ρ (.func f) = .func (.func f) #[] #[]) {f : FuncId} {l : List Operand} {ats : Array TypeId} {g : Option (Nat × Bool)} {dst : Option Tmp} :
    execOp ρ ⟨dst, .call { callee := .value (.func f), args := l.toArray, argTypes := ats }, ty, pos, after, g⟩ = callFunc f (l.map ρ).toArray := by
  have : execOp ρ ⟨dst, .call { callee := .value (.func f), args := l.toArray, argTypes := ats }, ty, pos, after, g⟩ = (do let d ← Deferred.ofValue (ρ (.func f)) (l.toArray.map ρ); invoke d.target d.args) := rfl
  rw [this, hρ]
  show callFunc f (#[] ++ l.toArray.map ρ ++ #[]) = _
  simp
theorem st_call {f : FuncId} {l : List Operand} {ats : Array TypeId} {R : Value → World → Prop} (hf : callable P f = true) (hc : Rt P f (l.map (ev n L)) w R) (k : ∀ v w', R v w' → St P ops Q rest n ((d, v) :: L) w') :
    St P ops Q (⟨some d, .call { callee := .value (.func f), args := l.toArray, argTypes := ats }, ty, pos, after, none⟩ :: rest) n L w := by
  refine ⟨wpList_plain rfl fun K hK => ?_⟩
  unfold Oper.wp
  rw [eval_mkA, exec_call (fun _ => rfl), run_call hf, Oper.upon_enter]
  refine Calls.mono hc fun e w' ⟨v, he, hR⟩ => ?_
  subst he
  show K ((mkA n L).put (some d) v) w'
  rw [put_mkA]
  exact hK _ _ (k v w' hR).out
theorem st_callN {f : FuncId} {l : List Operand} {ats : Array TypeId} {R : Value → World → Prop} (hf : callable P f = true) (hc : Rt P f (l.map (ev n L)) w R) (k : ∀ v w', R v w' → St P ops Q rest n L w') :
    St P ops Q (⟨none, .call { callee := .value (.func f), args := l.toArray, argTypes := ats }, ty, pos, after, none⟩ :: rest) n L w := by
  refine ⟨wpList_plain rfl fun K hK => ?_⟩
  unfold Oper.wp
  rw [eval_mkA, exec_call (fun _ => rfl), run_call hf, Oper.upon_enter]
  refine Calls.mono hc fun e w' ⟨v, he, hR⟩ => ?_
  subst he
  exact hK _ _ (k v w' hR).out
theorem st_gcall {f : FuncId} {l : List Operand} {ats : Array TypeId} {R : Value → World → Prop} {j : Nat} {b : Bool} (hg : wantQ ops n L j = .bool b) (hf : callable P f = true) (hc : Rt P f (l.map (ev n L)) w R) (k : ∀ v w', R v w' → St P ops Q rest n ((d, v) :: L) w') :
    St P ops Q (⟨some d, .call { callee := .value (.func f), args := l.toArray, argTypes := ats }, ty, pos, after, some (j, b)⟩ :: rest) n L w := by
  refine ⟨wpList_step fun K hK => ?_⟩
  have hw : Region.wanted ⟨some d, .call { callee := .value (.func f), args := l.toArray, argTypes := ats }, ty, pos, after, some (j, b)⟩ (yielded ops (mkA n L).tmps) = true := by
    show (yielded ops (mkT n.n L) j == some b) = true
    rw [yielded_mkT hg]; simp
  rw [if_pos hw]
  unfold Oper.wp
  rw [eval_mkA, exec_call (fun _ => rfl), run_call hf, Oper.upon_enter]
  refine Calls.mono hc fun e w' ⟨v, he, hR⟩ => ?_
  subst he
  show K ((mkA n L).put (some d) v) w'
  rw [put_mkA]
  exact hK _ _ (k v w' hR).out
end steps
end Go.Proofs.Ytpafbgdbjambgaa

namespace Go.Proofs.Ytpafbgdbjambgaa
open Go.RowKit

/-- all that was there in a is in w as it was -/
abbrev From (a w : World) : Prop := Below a.heap.size a w

section
variable {a b w w' : World}
theorem From.rfl_ : From a a := Below.refl _ _
theorem From.new (h : From a w) (o : Obj) : From a (w.alloc o) := Below.alloc h h.size o
theorem From.dn (h : From a w) (n : Nat) : From a (w.drewN n) := below_drewN h n
theorem From.d1 (h : From a w) : From a w.drew := Below.drew h
theorem From.next (h : From a w) (k : From w w') : From a w' := Below.trans h (Below.mono k h.size)
theorem From.set_ (h : From a w) {p : Addr} (hp : a.heap.size ≤ p.block) (u : Value) : From a (w.setCell p u) := Below.setCell h hp u
theorem From.grew (h : From a w) {row : Option Nat} (hg : w.grownBy w' row) (hr : ∀ k, row = some k → a.heap.size ≤ k) : From a w' := Below.grown h hg h.size hr
theorem From.cells (h : From a w) : ∀ k o, k < a.heap.size → w.cell? ⟨k, o, none⟩ = a.cell? ⟨k, o, none⟩ := fun k o hk => Below.cell (p := ⟨k, o, none⟩) h hk
end

theorem ret_int {k : IntKind} {a b : Int} (h : a = b) : Ending.returned (.int k a) = .returned (.int k b) := by rw [h]

/-- a block that is known whole -/
def Blk (w : World) (g : Nat) (t : TypeId) (cs : Array Value) : Prop := w.heap[g]? = some (.cells cs t (0, 0))
section
variable {w w' : World} {g : Nat} {t : TypeId} {cs : Array Value}
theorem Blk.lt (h : Blk w g t cs) : g < w.heap.size := by
  rcases Nat.lt_or_ge g w.heap.size with hlt | hge
  · exact hlt
  · unfold Blk at h; rw [Array.getElem?_eq_none hge] at h; cases h
theorem Blk.cell (h : Blk w g t cs) (i : Nat) : w.cell? ⟨g, i, none⟩ = cs[i]? := cell_of_row w g i cs t (0, 0) h
theorem Blk.frozen (h : Blk w g t cs) (i : Nat) : w.frozen? ⟨g, i, none⟩ = false := by
  unfold Blk at h
  simp [World.frozen?, h]
theorem Blk.new (w : World) (t : TypeId) (cs : Array Value) : Blk (w.alloc (.cells cs t)) w.heap.size t cs := heap_alloc_new w _
theorem Blk.drewN (h : Blk w g t cs) (n : Nat) : Blk (w.drewN n) g t cs := h
theorem Blk.alloc (h : Blk w g t cs) (o : Obj) : Blk (w.alloc o) g t cs := (Below.heap_alloc w o g h.lt).trans h
theorem Blk.set_ (h : Blk w g t cs) (i : Nat) (u : Value) : Blk (w.setCell ⟨g, i, none⟩ u) g t (cs.setIfInBounds i u) := by
  unfold Blk at h ⊢
  simp [World.setCell, Array.getElem?_modify, h]
theorem Blk.far (h : Blk w g t cs) {p : Addr} (hp : g ≠ p.block) (u : Value) : Blk (w.setCell p u) g t cs := (Below.heap_setCell w p u g hp).trans h
theorem Blk.below {B : Nat} (h : Blk w g t cs) (hb : Below B w w') (hg : g < B) : Blk w' g t cs := (hb.block g hg).trans h
theorem Blk.from_ (h : Blk w g t cs) (hb : From w w') : Blk w' g t cs := h.below hb h.lt
end

/-- the slice value v reads as these one-cell values -/
def Row (w : World) (v : Value) (vs : List Value) : Prop :=
  ∃ (A : Option Addr) (cap : Nat), v = .slice A vs.length cap ∧ (0 < vs.length → ∃ b o, A = some ⟨b, o, none⟩ ∧ b < w.heap.size ∧ ∀ i u, vs[i]? = some u → w.cell? ⟨b, o + i, none⟩ = some u)
theorem Row.from_ {w w' : World} {v : Value} {vs : List Value} (h : Row w v vs) (hw : From w w') : Row w' v vs := by
  obtain ⟨A, cap, hv, hp⟩ := h
  refine ⟨A, cap, hv, fun h0 => ?_⟩
  obtain ⟨b, o, hA, hb, hc⟩ := hp h0
  exact ⟨b, o, hA, Nat.lt_of_lt_of_le hb hw.size, fun i u hu => (hw.cells _ _ hb).trans (hc i u hu)⟩
theorem Row.nil_ (w : World) : Row w (.slice none 0 0) [] := ⟨none, 0, rfl, fun h => absurd h (by simp)⟩
theorem Row.of_own {w : World} {base : Nat} {e : TypeId} {v : Value} {n : Nat} {xs : List Value} (h : w.ownsRow base e 1 v n xs) : Row w v xs := by
  have hl : xs.length = n := by simpa using h.1
  rcases h.2 with ⟨rfl, rfl⟩ | ⟨g, cap, cur, rfl, hg, hh, _⟩
  · have : xs = [] := List.eq_nil_of_length_eq_zero hl
    subst this
    exact Row.nil_ w
  · subst hl
    refine ⟨some ⟨g, 0, none⟩, cap, rfl, fun _ => ⟨g, 0, rfl, ?_, fun i u hu => ?_⟩⟩
    · rcases Nat.lt_or_ge g w.heap.size with hlt | hge
      · exact hlt
      · rw [Array.getElem?_eq_none hge] at hh; cases hh
    · have := h.cells (g := g) rfl i u hu
      rw [Addr.add_lit] at this
      exact this
theorem Row.blk {w : World} {g : Nat} {t : TypeId} {cs : Array Value} (h : Blk w g t cs) (cap : Nat) : Row w (.slice (some ⟨g, 0, none⟩) cs.size cap) cs.toList := by
  refine ⟨some ⟨g, 0, none⟩, cap, by simp, fun _ => ⟨g, 0, rfl, h.lt, fun i u hu => ?_⟩⟩
  rw [Nat.zero_add, h.cell i]
  simpa using hu

/-- the values that a slice value reads as, by index -/
theorem row_vals {α : Type} {f : α → Value} {w : World} {v : Value} {xs : List α} (hr : Row w v (xs.map f)) : ∃ A cap, v = .slice A xs.length cap ∧
    (0 < xs.length → ∃ b o, A = some ⟨b, o, none⟩ ∧ b < w.heap.size ∧ ∀ i (h : i < xs.length), w.cell? ⟨b, o + i, none⟩ = some (f xs[i])) := by
  obtain ⟨A, cap, rfl, hp⟩ := hr
  rw [List.length_map] at hp ⊢
  refine ⟨A, cap, rfl, fun h0 => ?_⟩
  obtain ⟨b, o, hA, hb, hc⟩ := hp h0
  refine ⟨b, o, hA, hb, fun i hi => hc i _ ?_⟩
  rw [List.getElem?_map, List.getElem?_eq_getElem hi]
  rfl

/-- append(s, u) onto a row of the call's own: the new one-cell block lies on top -/
theorem wpList_push {ops : Array Oper} {rest : List Oper} {o : Oper} {a : Act} {Q : Exit → Act → World → Prop} {wr : World} {u : Value} {te : TypeId} (a0 : World) (hgd : o.guard = none) (s x : Operand) (t : TypeId)
    (ho : o.op = .call { callee := .builtin .append, args := #[s, x], argTypes := #[t, t] }) (e : TypeId) (i : TypeInfo) (z : Value) (bytes : Nat)
    (ht : Try.prog.underlying t = some (.slice e)) (hi : Try.prog.info? e = some i) (hz : i.zero = some z) (hsize : i.size = 1) (hby : i.bytes = bytes) (hzs : z.cells.size = 1)
    (v : Value) (n : Nat) (xs : List Value) (hs : a.eval s = v) (hown : wr.ownsRow a0.heap.size e 1 v n xs) (hw : From a0 wr) (hx : a.eval x = .slice (some ⟨wr.heap.size, 0, none⟩) 1 1) (h1 : u.oneCell' = true)
    (hroom : (n + 1) * bytes ≤ 140737488355328) (hmax : n + 1 ≤ maxLen)
    (h : ∀ v' w', w'.ownsRow a0.heap.size e 1 v' (n + 1) (xs ++ [u]) → From a0 w' → wpList Try.prog ops Q rest (a.put o.dst v') w') : wpList Try.prog ops Q (o :: rest) a (wr.alloc (.cells #[u] te)) := by
  refine wpList_append_own (P := Try.prog) _ hgd s x t ho a0.heap.size e i z 1 bytes ht hi hz hsize hby hzs (by decide) v n xs hs (hown.alloc _) ⟨wr.heap.size, 0, none⟩ 1 1 [u] hx rfl ?_ ?_ hmax hroom ?_ ?_
  · intro j y hy
    cases j with
    | zero =>
      simp only [List.getElem?_cons_zero, Option.some.injEq] at hy
      subst hy
      rw [Addr.add_lit, (Blk.new wr te #[u]).cell]
      rfl
    | succ j => simp at hy
  · intro y hy
    simp only [List.mem_singleton] at hy
    subst hy
    exact h1
  · exact (hw.new _).size
  · intro v' w' hown' hg _
    exact h v' w' hown' ((hw.new _).grew hg (fun k hk => (hown.lt k hk).1))

theorem and1_i64 (x : Int) (h0 : 0 ≤ x) (h1 : x ≤ 9223372036854775807) : bits .and .i64 x 1 = x % 2 := by
  obtain ⟨a, rfl⟩ := Int.eq_ofNat_of_zero_le h0
  show IntKind.i64.wrap ((BitVec.ofInt 64 (a : Int) &&& BitVec.ofInt 64 1).toNat : Int) = _
  have e1 : (BitVec.ofInt 64 (a : Int)).toNat = a := by rw [BitVec.ofInt_natCast, BitVec.toNat_ofNat]; exact Nat.mod_eq_of_lt (by omega)
  have e2 : (BitVec.ofInt 64 1).toNat = 1 := rfl
  rw [BitVec.toNat_and, e1, e2, Nat.and_one_is_mod, IntKind.wrap_i64]
  omega

theorem own_form {w : World} {base : Nat} {e : TypeId} {size : Nat} {v : Value} {n : Nat} {xs : List Value} (h : w.ownsRow base e size v n xs) : ∃ A cap, v = .slice A n cap := by
  rcases h.2 with ⟨rfl, rfl⟩ | ⟨g, cap, cur, rfl, _⟩
  · exact ⟨none, 0, rfl⟩
  · exact ⟨_, cap, rfl⟩

theorem _root_.Go.World.ownsRow.kept_from {w w' : World} {base : Nat} {e : TypeId} {size : Nat} {v : Value} {n : Nat} {xs : List Value} (h : w.ownsRow base e size v n xs) (hw : From w w') : w'.ownsRow base e size v n xs := by
  refine ⟨h.1, ?_⟩
  rcases h.2 with h2 | ⟨g, cap, cur, hv, hg, hh, r⟩
  · exact .inl h2
  · refine .inr ⟨g, cap, cur, hv, hg, ?_, r⟩
    rw [hw.block g (by
      rcases Nat.lt_or_ge g w.heap.size with hlt | hge
      · exact hlt
      · rw [Array.getElem?_eq_none hge] at hh; cases hh)]
    exact hh
end Go.Proofs.Ytpafbgdbjambgaa

namespace Go.Proofs.Ytpafbgdbjambgaa
open Go.RowKit

/-- no more than this value -/
def eqp (x : Value) : Value → World → Prop := fun v _ => v = x
def lookR : List (Nat × (Value → World → Prop)) → Nat → Value → World → Prop
  | [], _ => fun _ _ => True
  | (k, R) :: r, i => bif Nat.beq i k then R else lookR r i
def MonoR : List (Nat × (Value → World → Prop)) → Prop
  | [] => True
  | (_, R) :: r => (∀ v w1 w2, From w1 w2 → R v w1 → R v w2) ∧ MonoR r
theorem eqp_mono (x : Value) : ∀ v w1 w2, From w1 w2 → eqp x v w1 → eqp x v w2 := fun _ _ _ _ h => h
theorem lookR_mono : ∀ {l : List (Nat × (Value → World → Prop))}, MonoR l → ∀ t v w1 w2, From w1 w2 → lookR l t v w1 → lookR l t v w2
  | [], _, _, _, _, _, _, _ => trivial
  | (k, R) :: r, ⟨h1, h2⟩, t, v, w1, w2, hF, h => by
    have e : lookR ((k, R) :: r) t = bif Nat.beq t k then R else lookR r t := rfl
    rw [e] at h ⊢
    cases hb : Nat.beq t k with
    | true => rw [hb] at h; exact h1 _ _ _ hF h
    | false => rw [hb] at h; exact lookR_mono h2 t v w1 w2 hF h
/-- for whatever values of these slots that fit -/
def AllF (R : Nat → Value → World → Prop) (w : World) : List Nat → (List (Nat × Value) → Prop) → Prop
  | [], K => K []
  | d :: r, K => ∀ v, R d v w → AllF R w r fun M => K ((d, v) :: M)
theorem allF_at {R : Nat → Value → World → Prop} {w : World} (ρ : Nat → Value) : ∀ (l : List Nat) {K : List (Nat × Value) → Prop}, (∀ d ∈ l, R d (ρ d) w) → AllF R w l K → K (l.map fun d => (d, ρ d))
  | [], _, _, h => h
  | d :: r, _, hr, h => allF_at ρ r (fun e he => hr e (List.mem_cons_of_mem _ he)) (h (ρ d) (hr d (List.mem_cons_self ..)))
theorem look_map (ρ : Nat → Value) (l : List Nat) (L : List (Nat × Value)) (t : Nat) : look (l.map (fun d => (d, ρ d)) ++ L) t = if l.elem t then ρ t else look L t := by
  induction l with
  | nil => rfl
  | cons d l ih =>
    show look ((d, ρ d) :: (l.map (fun d => (d, ρ d)) ++ L)) t = _
    rw [look_cons, ih]
    by_cases h : t = d
    · subst h; simp
    · have : (d :: l).elem t = l.elem t := by simp [List.elem_cons, h]
      rw [if_neg h, this]

/-- one operation: it yields a value that fits, and the world only grows -/
def OpOK (P : Program) (ops : Array Oper) (n : Fr) (L : List (Nat × Value)) (o : Oper) (w : World) (R : Value → World → Prop) : Prop :=
  (Region.wanted o (yielded ops (mkT n.n L)) = true ∧ ((∃ v w', (execOp (ev n L) o).run P w = .ok (.value v) w' ∧ From w w' ∧ R v w') ∨
    (∃ f l, (execOp (ev n L) o).run P w = .ok (.enter f (List.toArray l)) w ∧ Rt P f l w fun v w' => From w w' ∧ R v w'))) ∨
  (Region.wanted o (yielded ops (mkT n.n L)) = false ∧ R undef w)
section
variable {P : Program} {ops : Array Oper} {n : Fr} {L : List (Nat × Value)} {w w' : World} {op : Op} {ty : TypeId} {pos : String} {after : Array Edge} {d : Option Nat} {R : Value → World → Prop}
theorem ok_val {v : Value} (hr : RO P (ev n L) op w v w') (hF : From w w') (hR : R v w') : OpOK P ops n L ⟨d, op, ty, pos, after, none⟩ w R :=
  .inl ⟨rfl, .inl ⟨v, w', hr _ _ _ _ _, hF, hR⟩⟩
theorem ok_pure {v : Value} (hr : RO P (ev n L) op w v w) (hR : R v w) : OpOK P ops n L ⟨d, op, ty, pos, after, none⟩ w R := ok_val hr From.rfl_ hR
theorem ok_call {f : FuncId} {l : List Operand} {ats : Array TypeId} (hf : callable P f = true) (hc : Rt P f (l.map (ev n L)) w fun v w' => From w w' ∧ R v w') :
    OpOK P ops n L ⟨d, .call { callee := .value (.func f), args := l.toArray, argTypes := ats }, ty, pos, after, none⟩ w R :=
  .inl ⟨rfl, .inr ⟨f, l.map (ev n L), by rw [exec_call (fun _ => rfl), run_call hf], hc⟩⟩
theorem ok_gpure {v : Value} {j : Nat} {b : Bool} (hg : wantQ ops n L j = .bool b) (hr : RO P (ev n L) op w v w) (hR : R v w) : OpOK P ops n L ⟨d, op, ty, pos, after, some (j, b)⟩ w R :=
  .inl ⟨by show (yielded ops (mkT n.n L) j == some b) = true; rw [yielded_mkT hg]; simp, .inl ⟨v, w, hr _ _ _ _ _, From.rfl_, hR⟩⟩
theorem ok_gcall {f : FuncId} {l : List Operand} {ats : Array TypeId} {j : Nat} {b : Bool} (hg : wantQ ops n L j = .bool b) (hf : callable P f = true) (hc : Rt P f (l.map (ev n L)) w fun v w' => From w w' ∧ R v w') :
    OpOK P ops n L ⟨d, .call { callee := .value (.func f), args := l.toArray, argTypes := ats }, ty, pos, after, some (j, b)⟩ w R :=
  .inl ⟨by show (yielded ops (mkT n.n L) j == some b) = true; rw [yielded_mkT hg]; simp, .inr ⟨f, l.map (ev n L), by rw [exec_call (fun _ => rfl), run_call hf], hc⟩⟩
theorem ok_gno {j : Nat} {b b' : Bool} (hg : wantQ ops n L j = .bool b') (hb : (b' == b) = false) (hR : R undef w) : OpOK P ops n L ⟨d, op, ty, pos, after, some (j, b)⟩ w R :=
  .inr ⟨by show (yielded ops (mkT n.n L) j == some b) = false; rw [yielded_mkT hg]; simpa using hb, hR⟩
end

/-- the slots that an operation looks at, of those that the region's head writes -/
def slotsOf (ops : Array Oper) (pre : List Nat) (o : Oper) : List Nat := (pre.filter fun t => (o.looksAt ops).elem t)
def isSelect : Op → Bool | .select _ _ => true | _ => false
def hasEdge (o : Oper) (i : Nat) : Bool := o.after.toList.any fun e => Region.binds .any e && e.on == i
/-- the region's shape -/
def monoB (l : List Oper) (K : Nat) : Bool :=
  let ops := l.toArray
  let dst (i : Nat) : Option Nat := (l[i]?).bind (·.dst)
  decide (K ≤ l.length) &&
  (List.range l.length).all fun i => match l[i]? with
    | none => false
    | some o =>
      (o.after.toList.all fun e => !Region.binds .any e || decide (e.on < i)) && !isSelect o.op &&
      (if i < K then
        (match o.dst with
         | none => false
         | some d => (List.range K).all (fun j => j == i || dst j != some d) && !((o.looksAt ops).elem d)) &&
        (List.range K).all (fun j => match dst j with
          | none => false
          | some d => !(o.looksAt ops).elem d || (decide (j < i) && hasEdge o j))
       else (List.range i).all (fun j => hasEdge o j))
def OpsOK (P : Program) (ops : Array Oper) (n : Fr) (L : List (Nat × Value)) (w : World) (R : Nat → Value → World → Prop) (pre : List Nat) : List Oper → Prop
  | [] => True
  | o :: r => (∀ w', From w w' → AllF R w' (slotsOf ops pre o) fun M => OpOK P ops n (M ++ L) o w' (R (o.dst.getD 0))) ∧ OpsOK P ops n L w R pre r
theorem opsOK_at {P : Program} {ops : Array Oper} {n : Fr} {L : List (Nat × Value)} {w : World} {R : Nat → Value → World → Prop} {pre : List Nat} : ∀ {l : List Oper}, OpsOK P ops n L w R pre l → ∀ (i : Nat) (o : Oper), l[i]? = some o →
    ∀ w', From w w' → AllF R w' (slotsOf ops pre o) fun M => OpOK P ops n (M ++ L) o w' (R (o.dst.getD 0))
  | [], _, i, o, h => by simp at h
  | x :: r, ⟨h1, h2⟩, 0, o, h => by
    simp only [List.getElem?_cons_zero, Option.some.injEq] at h
    subst h
    exact h1
  | x :: r, ⟨h1, h2⟩, i + 1, o, h => opsOK_at h2 i o (by simpa using h)
def preOf (l : List Oper) (K : Nat) : List Nat := (l.take K).filterMap (·.dst)

theorem count_set_true : ∀ {l : List Bool} {i : Nat}, l[i]? = some false → (l.set i true).count false + 1 = l.count false
  | [], i, h => by simp at h
  | x :: r, 0, h => by
    simp only [List.getElem?_cons_zero, Option.some.injEq] at h
    subst h
    simp
  | x :: r, i + 1, h => by
    have := count_set_true (l := r) (i := i) (by simpa using h)
    simp only [List.set_cons_succ, List.count_cons]
    omega
section main
variable {P : Program} {Q : Exit → Act → World → Prop} {n : Fr} {L : List (Nat × Value)} {w : World} {l : List Oper} {K : Nat} {R : Nat → Value → World → Prop}
theorem getD_true_false {listed : Array Bool} {i : Nat} (h : i < listed.size) : listed.getD i true = listed.getD i false := by
  simp [Array.getD, h]
/-- behind the head there is one order only -/
theorem tail_seq (hc : monoB l K = true) : ∀ (m k : Nat) (listed : Array Bool) (a : Act) (w' : World), k + m = l.length → K ≤ k → listed.size = l.length → (∀ j, j < l.length → listed.getD j true = decide (j < k)) →
    wpList P l.toArray Q (l.drop k) a w' → wpAny P .any l.toArray Q m listed a w'
  | 0, k, listed, a, w', hk, hK, hs, hl, h => by
    have hd : l.drop k = [] := List.drop_eq_nil_of_le (by omega)
    rw [hd] at h
    refine ⟨?_, h⟩
    rw [List.eq_nil_iff_forall_not_mem]
    intro j hj
    obtain ⟨h0, o, ho, _⟩ := mem_ready.1 hj
    have hjl : j < l.length := by
      rw [List.getElem?_toArray] at ho
      exact (List.getElem?_eq_some_iff.1 ho).1
    rw [hl j hjl] at h0
    simp at h0
    omega
  | m + 1, k, listed, a, w', hk, hK, hs, hl, h => by
    have hkl : k < l.length := by omega
    have hdrop : l.drop k = l[k] :: l.drop (k + 1) := List.drop_eq_getElem_cons hkl
    have hck := (List.all_eq_true.1 (Bool.and_eq_true_iff.1 hc).2)
    have hrk : k ∈ Region.ready .any l.toArray listed := by
      refine mem_ready.2 ⟨by rw [hl k hkl]; simp, l[k], by rw [List.getElem?_toArray, List.getElem?_eq_getElem hkl], fun e he hb => ?_⟩
      have hx := hck k (List.mem_range.2 hkl)
      rw [List.getElem?_eq_getElem hkl] at hx
      simp only [Bool.and_eq_true] at hx
      have he2 := List.all_eq_true.1 hx.1.1 e (by simpa using he)
      rw [hb] at he2
      simp at he2
      rw [← getD_true_false (by omega), hl _ (by omega)]
      simpa using he2
    refine ⟨fun h0 => (by rw [h0] at hrk; cases hrk), fun j hj => ?_⟩
    obtain ⟨h0, o, ho, hall⟩ := mem_ready.1 hj
    rw [List.getElem?_toArray] at ho
    have hjl : j < l.length := (List.getElem?_eq_some_iff.1 ho).1
    rw [hl j hjl] at h0
    have hjk : j = k := by
      simp at h0
      rcases Nat.eq_or_lt_of_le h0 with e | hlt
      · exact e.symm
      · exfalso
        have hx := hck j (List.mem_range.2 hjl)
        rw [ho] at hx
        simp only [Bool.and_eq_true] at hx
        have h3 := hx.2
        rw [if_neg (by omega)] at h3
        have h4 := List.all_eq_true.1 h3 k (List.mem_range.2 hlt)
        obtain ⟨e, he, he2⟩ := List.any_eq_true.1 h4
        simp only [Bool.and_eq_true, beq_iff_eq] at he2
        have h5 := hall e (by simpa using he) he2.1
        rw [he2.2, ← getD_true_false (by omega), hl k hkl] at h5
        simp at h5
    subst hjk
    rw [hdrop] at h
    have hk2 : wpOp P l.toArray Q j (wpList P l.toArray Q (l.drop (j + 1))) a w' := by
      unfold wpOp
      rw [List.getElem?_toArray, List.getElem?_eq_getElem hkl]
      exact h
    refine wpOp_mono (fun a'' w'' h'' => tail_seq hc m (j + 1) _ a'' w'' (by omega) (by omega) (by simpa using hs) (fun i hi => ?_) h'') hk2
    by_cases e : j = i
    · subst e
      simp [hs, hkl]
    · rw [getD_set_ne true e, hl i hi]
      have : (i < j + 1) ↔ (i < j) := by omega
      simp [this]

theorem looksAt_agree {ops : Array Oper} {o : Oper} {L1 L2 : List (Nat × Value)} (hs : isSelect o.op = false) (h : ∀ t, (o.looksAt ops).elem t = true → look L1 t = look L2 t) :
    execOp (ev n L1) o = execOp (ev n L2) o ∧ Region.wanted o (yielded ops (mkT n.n L1)) = Region.wanted o (yielded ops (mkT n.n L2)) := by
  constructor
  · refine execOp_congr o (fun cs b e => by rw [e] at hs; simp [isSelect] at hs) fun x hx => ?_
    cases x with
    | tmp t =>
      have : look L1 t = look L2 t := h t (by
        simp only [List.elem_eq_mem, decide_eq_true_eq]
        exact List.mem_append_left _ (List.mem_filterMap.2 ⟨.tmp t, by simpa using hx, rfl⟩))
      simp only [ev, this]
    | _ => rfl
  · unfold Region.wanted
    cases hg : o.guard with
    | none => rfl
    | some gw =>
      obtain ⟨g, want⟩ := gw
      have hy : yielded ops (mkT n.n L1) g = yielded ops (mkT n.n L2) g := by
        unfold yielded
        cases ht : (ops[g]?).bind (·.dst) with
        | none => rfl
        | some t =>
          have : look L1 t = look L2 t := h t (by
            simp only [List.elem_eq_mem, decide_eq_true_eq]
            exact List.mem_append_right _ (by simp [hg, ht]))
          simp only [Option.bind_some, mkT_get, this]
      simp only [hy]

theorem mono_seq (hc : monoB l K = true) (hmono : ∀ t v w1 w2, From w1 w2 → R t v w1 → R t v w2) (hop : OpsOK P l.toArray n L w R (preOf l K) (l.take K))
    (hend : ∀ w', From w w' → AllF R w' (preOf l K) fun M => St P l.toArray Q (l.drop K) n (M ++ L) w') :
    ∀ (m : Nat) (listed : Array Bool) (L' : List (Nat × Value)) (w' : World), listed.toList.count false = m → listed.size = l.length → (∀ j, K ≤ j → j < l.length → listed.getD j true = false) → From w w' →
      (∀ t, (∀ i o, i < K → l[i]? = some o → listed.getD i true = true → o.dst ≠ some t) → look L' t = look L t) →
      (∀ i o d, i < K → l[i]? = some o → listed.getD i true = true → o.dst = some d → R d (look L' d) w') → wpAny P .any l.toArray Q m listed (mkA n L') w' := by
  have hKl : K ≤ l.length := of_decide_eq_true (Bool.and_eq_true_iff.1 hc).1
  have hck := (List.all_eq_true.1 (Bool.and_eq_true_iff.1 hc).2)
  intro m
  induction m with
  | zero =>
    intro listed L' w' hcount hs htail hF hfr hR
    have hall : ∀ j, j < l.length → listed.getD j true = true := by
      intro j hj
      have hm : listed[j]'(by omega) ∈ listed.toList := by simp
      cases hb : listed[j]'(by omega) with
      | true => simp [Array.getD, show j < listed.size by omega, hb]
      | false =>
        rw [hb] at hm
        exact absurd hcount (Nat.pos_iff_ne_zero.1 (List.count_pos_iff.2 hm))
    have hKe : K = l.length := by
      rcases Nat.lt_or_ge K l.length with h | h
      · have h1 := htail K (Nat.le_refl _) h
        rw [hall K h] at h1
        cases h1
      · omega
    have he := allF_at (look L') (preOf l K) (fun d hd => by
      obtain ⟨o, ho, hod⟩ := List.mem_filterMap.1 hd
      obtain ⟨i, hi⟩ := List.mem_iff_getElem?.1 ho
      rw [List.getElem?_take] at hi
      split at hi
      · exact hR i o d (by assumption) hi (hall i (List.getElem?_eq_some_iff.1 hi).1) hod
      · cases hi) (hend w' hF)
    have hL : mkA n ((preOf l K).map (fun d => (d, look L' d)) ++ L) = mkA n L' := mkA_congr fun t _ => by
      rw [look_map]
      split
      · rfl
      · rename_i hne
        refine (hfr t fun i o hi ho _ hod => hne ?_).symm
        simp only [List.elem_eq_mem, decide_eq_true_eq]
        exact List.mem_filterMap.2 ⟨o, List.mem_iff_getElem?.2 ⟨i, by rw [List.getElem?_take, if_pos hi]; exact ho⟩, hod⟩
    replace he := he.out
    rw [hL] at he
    exact tail_seq hc 0 l.length listed _ w' (by omega) (by omega) hs (fun j hj => by rw [hall j hj]; simp [hj]) (by rw [hKe] at he; exact he)
  | succ m ih =>
    intro listed L' w' hcount hs htail hF hfr hR
    by_cases hpre : ∀ i, i < K → listed.getD i true = true
    · -- the head is done
      have he := allF_at (look L') (preOf l K) (fun d hd => by
        obtain ⟨o, ho, hod⟩ := List.mem_filterMap.1 hd
        obtain ⟨i, hi⟩ := List.mem_iff_getElem?.1 ho
        rw [List.getElem?_take] at hi
        split at hi
        · exact hR i o d (by assumption) hi (hpre i (by assumption)) hod
        · cases hi) (hend w' hF)
      have hL : mkA n ((preOf l K).map (fun d => (d, look L' d)) ++ L) = mkA n L' := mkA_congr fun t _ => by
        rw [look_map]
        split
        · rfl
        · rename_i hne
          refine (hfr t fun i o hi ho _ hod => hne ?_).symm
          simp only [List.elem_eq_mem, decide_eq_true_eq]
          exact List.mem_filterMap.2 ⟨o, List.mem_iff_getElem?.2 ⟨i, by rw [List.getElem?_take, if_pos hi]; exact ho⟩, hod⟩
      replace he := he.out
      rw [hL] at he
      have hcnt : m + 1 = l.length - K := by
        have : listed.toList = List.replicate K true ++ List.replicate (l.length - K) false := by
          apply List.ext_getElem?
          intro j
          rw [Array.getElem?_toList]
          rw [List.getElem?_append]
          simp only [List.length_replicate, List.getElem?_replicate]
          by_cases hj : j < l.length
          · have hjs : j < listed.size := by omega
            by_cases hjK : j < K
            · have := hpre j hjK
              simp [Array.getD, hjs] at this
              simp [hjs, hjK, this]
            · have := htail j (by omega) hj
              simp [Array.getD, hjs] at this
              rw [if_neg hjK, if_pos (by omega), Array.getElem?_eq_getElem hjs, this]
          · rw [Array.getElem?_eq_none (by omega), if_neg (by omega), if_neg (by omega)]
        rw [this, List.count_append, List.count_replicate, List.count_replicate] at hcount
        simp at hcount
        exact hcount.symm
      refine tail_seq hc (m + 1) K listed _ w' (by omega) (Nat.le_refl _) hs (fun j hj => ?_) he
      by_cases hjK : j < K
      · rw [hpre j hjK]; simp [hjK]
      · rw [htail j (by omega) hj]; simp [hjK]
    · -- some operation of the head is still to come
      have hex : ∃ i, i < K ∧ listed.getD i true = false := by
        refine Classical.byContradiction fun hno => hpre fun i hi => ?_
        cases hb : listed.getD i true with
        | true => rfl
        | false => exact absurd ⟨i, hi, hb⟩ hno
      obtain ⟨i0, hi0, hmin⟩ := exists_least hex
      have hi0l : i0 < l.length := by omega
      have hready : i0 ∈ Region.ready .any l.toArray listed := by
        refine mem_ready.2 ⟨hi0.2, l[i0], by rw [List.getElem?_toArray, List.getElem?_eq_getElem hi0l], fun e he hb => ?_⟩
        have hx := hck i0 (List.mem_range.2 hi0l)
        rw [List.getElem?_eq_getElem hi0l] at hx
        simp only [Bool.and_eq_true] at hx
        have he2 := List.all_eq_true.1 hx.1.1 e (by simpa using he)
        rw [hb] at he2
        simp at he2
        rw [← getD_true_false (by omega)]
        cases hb2 : listed.getD e.on true with
        | true => rfl
        | false => exact absurd (hmin e.on ⟨by omega, hb2⟩) (by omega)
      refine ⟨fun h0 => (by rw [h0] at hready; cases hready), fun i hi => ?_⟩
      obtain ⟨h0, o, ho, hall⟩ := mem_ready.1 hi
      rw [List.getElem?_toArray] at ho
      have hil : i < l.length := (List.getElem?_eq_some_iff.1 ho).1
      have hx := hck i (List.mem_range.2 hil)
      rw [ho] at hx
      simp only [Bool.and_eq_true] at hx
      have hiK : i < K := by
        rcases Nat.lt_or_ge i K with h | h
        · exact h
        · exfalso
          have h3 := hx.2
          rw [if_neg (by omega)] at h3
          have h4 := List.all_eq_true.1 h3 i0 (List.mem_range.2 (by omega))
          obtain ⟨e, he, he2⟩ := List.any_eq_true.1 h4
          simp only [Bool.and_eq_true, beq_iff_eq] at he2
          have h5 := hall e (by simpa using he) he2.1
          rw [he2.2, ← getD_true_false (by omega), hi0.2] at h5
          cases h5
      have h3 := hx.2
      rw [if_pos hiK] at h3
      simp only [Bool.and_eq_true] at h3
      obtain ⟨h3a, h3b⟩ := h3
      cases hod : o.dst with
      | none => rw [hod] at h3a; cases h3a
      | some d =>
        rw [hod] at h3a
        simp only [Bool.and_eq_true] at h3a
        have hlooks : ∀ t, (o.looksAt l.toArray).elem t = true → look ((slotsOf l.toArray (preOf l K) o).map (fun d => (d, look L' d)) ++ L) t = look L' t := by
          intro t ht
          rw [look_map]
          split
          · rfl
          · rename_i hne
            refine (hfr t fun j oj hj hoj hlj hd => hne ?_).symm
            simp only [List.elem_eq_mem, decide_eq_true_eq]
            refine List.mem_filter.2 ⟨List.mem_filterMap.2 ⟨oj, List.mem_iff_getElem?.2 ⟨j, by rw [List.getElem?_take, if_pos hj]; exact hoj⟩, hd⟩, ht⟩
        have hfact : ∀ t ∈ slotsOf l.toArray (preOf l K) o, R t (look L' t) w' := by
          intro t ht
          obtain ⟨ht1, ht2⟩ := List.mem_filter.1 ht
          obtain ⟨oj, hoj, hd⟩ := List.mem_filterMap.1 ht1
          obtain ⟨j, hj⟩ := List.mem_iff_getElem?.1 hoj
          rw [List.getElem?_take] at hj
          split at hj
          · rename_i hjK
            have h5 := List.all_eq_true.1 h3b j (List.mem_range.2 hjK)
            rw [hj] at h5
            simp only [Option.bind_some, hd, ht2, Bool.not_true, Bool.false_or, Bool.and_eq_true, decide_eq_true_eq] at h5
            obtain ⟨e, he, he2⟩ := List.any_eq_true.1 h5.2
            simp only [Bool.and_eq_true, beq_iff_eq] at he2
            have h6 := hall e (by simpa using he) he2.1
            rw [he2.2] at h6
            exact hR j oj t hjK hj (by rw [getD_true_false (by omega)]; exact h6) hd
          · cases hj
        have hok := allF_at (look L') _ hfact (opsOK_at hop i o (by rw [List.getElem?_take, if_pos hiK]; exact ho) w' hF)
        have hsel : isSelect o.op = false := by simpa using hx.1.2
        obtain ⟨hE, hW⟩ := looksAt_agree (n := n) (ops := l.toArray) (o := o) hsel hlooks
        rw [hod] at hok
        simp only [Option.getD_some] at hok
        have next : ∀ v w'', From w' w'' → R d v w'' → wpAny P .any l.toArray Q m (listed.setIfInBounds i true) ((mkA n L').put (some d) v) w'' := by
          intro v w'' hF' hRv
          rw [put_mkA]
          have hne : ∀ j oj d', j < K → l[j]? = some oj → j ≠ i → oj.dst = some d' → d' ≠ d := by
            intro j oj d' hj hoj hji hd e
            have h5 := List.all_eq_true.1 h3a.1 j (List.mem_range.2 hj)
            rw [hoj] at h5
            simp [hji, hd, e] at h5
          refine ih _ _ w'' ?_ (by simpa using hs) (fun j hj1 hj2 => ?_) (hF.next hF') (fun t ht => ?_) (fun j oj d' hj hoj hlj hd => ?_)
          · have hil' : i < listed.size := by omega
            have hfalse : listed.toList[i]? = some false := by
              rw [Array.getElem?_toList, Array.getElem?_eq_getElem hil']
              simp [Array.getD, hil'] at h0
              rw [h0]
            rw [Array.toList_setIfInBounds]
            have := count_set_true (l := listed.toList) (i := i) hfalse
            omega
          · rw [getD_set_ne true (by omega)]
            exact htail j hj1 hj2
          · have htd : t ≠ d := fun e => ht i o hiK ho (by simp [show i < listed.size by omega]) (by rw [hod, e])
            rw [look_cons, if_neg htd]
            refine hfr t fun j oj hj hoj hlj => ht j oj hj hoj ?_
            by_cases e : i = j
            · subst e; rw [h0] at hlj; cases hlj
            · rw [getD_set_ne true e]; exact hlj
          · rw [look_cons]
            by_cases e : j = i
            · subst e
              rw [ho] at hoj
              cases hoj
              rw [hod] at hd
              cases hd
              rw [if_pos rfl]
              exact hRv
            · rw [if_neg (hne j oj d' hj hoj e hd)]
              rw [getD_set_ne true (Ne.symm e)] at hlj
              exact hmono _ _ _ _ hF' (hR j oj d' hj hoj hlj hd)
        unfold wpOp
        rw [List.getElem?_toArray, ho]
        show if Region.wanted o (yielded l.toArray (mkT n.n L')) = true then _ else _
        unfold OpOK at hok
        rw [hE, hW] at hok
        rcases hok with ⟨hw, ⟨v, w'', hr, hF', hRv⟩ | ⟨f, args, hr, hcall⟩⟩ | ⟨hw, hRv⟩
        · rw [if_pos hw]
          refine .inl ?_
          unfold Oper.wp
          rw [eval_mkA, hr, Oper.upon_value, hod]
          exact next v w'' hF' hRv
        · rw [if_pos hw]
          refine .inl ?_
          unfold Oper.wp
          rw [eval_mkA, hr, Oper.upon_enter, hod]
          refine Calls.mono hcall fun e w'' ⟨v, he, hF', hRv⟩ => ?_
          subst he
          exact next v w'' hF' hRv
        · rw [if_neg (by rw [hw]; simp), hod]
          exact next undef w' From.rfl_ hRv

theorem cd_drawn {id : Nat} (K : Nat) (RL : List (Nat × (Value → World → Prop))) (hm : P.follows .mixedOrders = true) (hc : monoB l K = true) (hmono : MonoR RL)
    (hop : OpsOK P l.toArray n L w (lookR RL) (preOf l K) (l.take K)) (hend : ∀ w', From w w' → AllF (lookR RL) w' (preOf l K) fun M => St P l.toArray Q (l.drop K) n (M ++ L) w') : Cd P (.region id l.toArray true) Q n L w := by
  refine ⟨wp_region_any hm ?_⟩
  have hKl : K ≤ l.length := of_decide_eq_true (Bool.and_eq_true_iff.1 hc).1
  have := mono_seq (Q := Q) (w := w) hc (lookR_mono hmono) hop hend l.length (Array.replicate l.length false) L { w with drawn := w.drawn + 1 } (by simp) (by simp)
    (fun j _ hj => by simp [Array.getD, hj]) (From.rfl_.d1) (fun _ _ => rfl) (fun i o d hi _ hl => by
      have : i < l.length := by omega
      simp [Array.getD, this] at hl)
  simpa using this
end main
end Go.Proofs.Ytpafbgdbjambgaa

namespace Go.Proofs.Ytpafbgdbjambgaa
open Go.RowKit

/-- nothing but block g has changed -/
structure Only (g : Nat) (w w' : World) : Prop where
  os : w'.os = w.os
  tape : w'.tape = w.tape
  output : w'.output = w.output
  size : w'.heap.size = w.heap.size
  block : ∀ k, k ≠ g → w'.heap[k]? = w.heap[k]?
theorem Only.setCell (w : World) (g i : Nat) (v : Value) : Only g w (w.setCell ⟨g, i, none⟩ v) := ⟨rfl, rfl, rfl, by simp, fun k hk => Below.heap_setCell w ⟨g, i, none⟩ v k hk⟩
theorem Only.trans {g : Nat} {w w1 w2 : World} (h : Only g w w1) (k : Only g w1 w2) : Only g w w2 := ⟨k.os.trans h.os, k.tape.trans h.tape, k.output.trans h.output, k.size.trans h.size, fun i hi => (k.block i hi).trans (h.block i hi)⟩
theorem Only.rfl_ {g : Nat} {w : World} : Only g w w := ⟨rfl, rfl, rfl, rfl, fun _ _ => rfl⟩
theorem From.only {a w w' : World} {g : Nat} (h : From a w) (o : Only g w w') (hg : a.heap.size ≤ g) : From a w' :=
  ⟨o.os.trans h.os, o.tape.trans h.tape, o.output.trans h.output, by rw [o.size]; exact h.size, fun k hk => (o.block k (by omega)).trans (h.block k hk)⟩
theorem Blk.only {w w' : World} {k g : Nat} {t : TypeId} {cs : Array Value} (h : Blk w k t cs) (o : Only g w w') (hk : k ≠ g) : Blk w' k t cs := (o.block k hk).trans h
theorem Only.cell {w w' : World} {g b i : Nat} (o : Only g w w') (hb : b ≠ g) : w'.cell? ⟨b, i, none⟩ = w.cell? ⟨b, i, none⟩ := World.cell?_of_block (w := w) (o.block b hb)
/-- a cell that is there stays as the world grows -/
theorem cellF {w w' : World} {a : Addr} {v : Value} (h : From w w') (hc : w.cell? a = some v) : w'.cell? a = some v :=
  (Below.cell h (World.block_lt_of_cell? w a hc)).trans hc
theorem Blk.rd {w : World} {g : Nat} {t : TypeId} {cs : Array Value} (h : Blk w g t cs) (i : Nat) {v : Value} (hv : cs[i]? = some v) : w.cell? ⟨g, i, none⟩ = some v := by rw [h.cell i]; exact hv
/-- some block that was made behind a -/
theorem Blk.ge {w : World} {g : Nat} {t : TypeId} {cs : Array Value} (_h : Blk w g t cs) {a : World} (hg : a.heap.size ≤ g) : a.heap.size ≤ g := hg

def over (cs : List Value) (o : Nat) (vs : List Value) : List Value := cs.take o ++ vs ++ cs.drop (o + vs.length)
theorem set_over (cs : List Value) (o : Nat) (v : Value) (vs : List Value) (h : o < cs.length) : over (cs.set o v) (o + 1) vs = over cs o (v :: vs) := by
  unfold over
  have h1 : (cs.set o v).take (o + 1) = cs.take o ++ [v] := by
    rw [List.take_set]
    have : cs.take (o + 1) = cs.take o ++ [cs[o]] := (List.take_append_getElem h).symm
    rw [this, List.set_append_right _ _ (by simp; omega)]
    have hm : min o cs.length = o := by omega
    simp [hm]
  have h2 : (cs.set o v).drop (o + 1 + vs.length) = cs.drop (o + (v :: vs).length) := by
    rw [List.drop_set_of_lt (by omega)]
    simp only [List.length_cons]
    congr 1
    omega
  rw [h1, h2]
  simp
theorem Blk.sets {t : TypeId} {g : Nat} : ∀ (vs : List Value) (o : Nat) {w : World} {cs : List Value}, Blk w g t cs.toArray → o + vs.length ≤ cs.length → Blk (w.setCells g o vs) g t (over cs o vs).toArray
  | [], o, w, cs, h, _ => by
    have : over cs o [] = cs := by simp [over]
    rw [this]
    exact h
  | v :: vs, o, w, cs, h, hl => by
    simp only [List.length_cons] at hl
    have h1 := h.set_ o v
    rw [List.setIfInBounds_toArray] at h1
    have := Blk.sets vs (o + 1) h1 (by simp; omega)
    rw [set_over cs o v vs (by omega)] at this
    exact this
theorem Only.sets {g : Nat} : ∀ (vs : List Value) (o : Nat) (w : World), Only g w (w.setCells g o vs)
  | [], _, _ => Only.rfl_
  | v :: vs, o, w => (Only.setCell w g o v).trans (Only.sets vs (o + 1) _)
theorem Blk.there {w : World} {g : Nat} {t : TypeId} {cs : Array Value} (h : Blk w g t cs) (o n : Nat) (hl : o + n ≤ cs.size) : w.there g o n := fun j hj =>
  ⟨by rw [h.cell]; simp [show o + j < cs.size by omega], h.frozen _⟩
theorem Blk.range {w : World} {g : Nat} {t : TypeId} {cs : List Value} (h : Blk w g t cs.toArray) (o : Nat) (vs : List Value) (hl : ∀ j v, vs[j]? = some v → cs[o + j]? = some v) : w.rangeAt g o vs := fun j v hv => by
  rw [h.cell]
  simpa using hl j v hv
theorem Blk.whole {w : World} {g : Nat} {t : TypeId} {cs : List Value} (h : Blk w g t cs.toArray) : w.rangeAt g 0 cs := h.range 0 cs fun j v hv => by rw [Nat.zero_add]; exact hv
theorem rangeF {w w' : World} {b o : Nat} {cs : List Value} (h : From w w') (hc : w.rangeAt b o cs) : w'.rangeAt b o cs := fun j v hv => cellF h (hc j v hv)

section
variable {P : Program} {ops : Array Oper} {Q : Exit → Act → World → Prop} {rest : List Oper} {n : Fr} {L : List (Nat × Value)} {w : World} {ty : TypeId} {pos : String} {after : Array Edge} {d : Nat} {t : TypeId} {x y : Operand}
theorem st_box {v : Value} (hx : ev n L x = v) (k : ∀ b w', From w w' → b = w.heap.size → Blk w' b t v.cells → St P ops Q rest n ((d, .pointer (some ⟨b, 0, none⟩)) :: L) w') :
    St P ops Q (⟨some d, .box t x, ty, pos, after, none⟩ :: rest) n L w :=
  st_val (ro_box hx) (k _ _ (From.rfl_.new _) rfl (Blk.new w t _))
theorem st_gbox {v : Value} {j : Nat} {b : Bool} (hg : wantQ ops n L j = .bool b) (hx : ev n L x = v) (k : ∀ b w', From w w' → b = w.heap.size → Blk w' b t v.cells → St P ops Q rest n ((d, .pointer (some ⟨b, 0, none⟩)) :: L) w') :
    St P ops Q (⟨some d, .box t x, ty, pos, after, some (j, b)⟩ :: rest) n L w :=
  st_gyes hg (ro_box hx) (k _ _ (From.rfl_.new _) rfl (Blk.new w t _))
theorem st_alloc {z : Value} (hz : zeroQ P t = some z) (k : ∀ b w', From w w' → b = w.heap.size → Blk w' b t z.cells → St P ops Q rest n ((d, .pointer (some ⟨b, 0, none⟩)) :: L) w') :
    St P ops Q (⟨some d, .alloc t, ty, pos, after, none⟩ :: rest) n L w :=
  st_val (ro_alloc hz) (k _ _ (From.rfl_.new _) rfl (Blk.new w t _))
/-- a store of one cell into a block that is known whole -/
theorem st_put {g i : Nat} {u : TypeId} {cs : Array Value} {v : Value} (ht : sizeQ P t = some 1) (hx : ev n L x = .pointer (some ⟨g, i, none⟩)) (hy : ev n L y = v) (h1 : v.oneCell' = true) (hb : Blk w g u cs) (hi : i < cs.size)
    (k : ∀ w', Only g w w' → Blk w' g u (cs.setIfInBounds i v) → St P ops Q rest n L w') : St P ops Q (⟨none, .store t x y, ty, pos, after, none⟩ :: rest) n L w := by
  have hc : w.cell? ⟨g, i, none⟩ = some (cs[i]'hi) := by rw [hb.cell]; simp [hi]
  exact st_store (rs_store ht hx hy h1 hc (hb.frozen i)) (k _ (Only.setCell w g i v) (hb.set_ i v))
/-- a store of many cells -/
theorem st_putA {g i : Nat} {u : TypeId} {cs vs : List Value} (ht : sizeQ P t = some vs.length) (hx : ev n L x = .pointer (some ⟨g, i, none⟩)) (hy : ev n L y = .agg vs.toArray) (h1 : ∀ v ∈ vs, v.oneCell' = true) (hb : Blk w g u cs.toArray) (hi : i + vs.length ≤ cs.length)
    (k : ∀ w', Only g w w' → Blk w' g u (over cs i vs).toArray → St P ops Q rest n L w') : St P ops Q (⟨none, .store t x y, ty, pos, after, none⟩ :: rest) n L w :=
  st_store (rs_storeA ht hx hy h1 (hb.there i vs.length (by simpa using hi))) (k _ (Only.sets vs i w) (Blk.sets vs i hb hi))
theorem over_all (cs vs : List Value) (h : vs.length = cs.length) : over cs 0 vs = vs := by
  unfold over
  simp [h]
/-- a store into a whole block -/
theorem st_putW {g : Nat} {u : TypeId} {cs : Array Value} {vs : List Value} (ht : sizeQ P t = some vs.length) (hx : ev n L x = .pointer (some ⟨g, 0, none⟩)) (hy : ev n L y = .agg vs.toArray) (h1 : ∀ v ∈ vs, v.oneCell' = true) (hb : Blk w g u cs) (hi : vs.length = cs.size)
    (k : ∀ w', Only g w w' → Blk w' g u vs.toArray → St P ops Q rest n L w') : St P ops Q (⟨none, .store t x y, ty, pos, after, none⟩ :: rest) n L w := by
  refine st_putA (cs := cs.toList) (u := u) ht hx hy h1 (by simpa using hb) (by simp; omega) fun w' o b => ?_
  rw [over_all cs.toList vs (by simp; omega)] at b
  exact k w' o b
/-- make -/
def makeQ (P : Program) (t : TypeId) : Option (TypeId × Nat × Value) := match P.underlying t with | some (.slice e) => (P.info? e).bind fun i => if i.size = 1 then i.zero.map fun z => (e, i.bytes, z) else none | _ => none
theorem st_make {e by_ m : Nat} {z : Value} {kl kc : IntKind} (ht : makeQ P t = some (e, by_, z)) (hz : z.cells = #[z]) (hx : ev n L x = .int kl (m : Nat)) (hy : ev n L y = .int kc (m : Nat)) (hm : m ≤ 9223372036854775807) (hb : by_ * m ≤ 281474976710656)
    (k : ∀ g w', From w w' → g = w.heap.size → Blk w' g e (List.replicate m z).toArray → St P ops Q rest n ((d, .slice (some ⟨g, 0, none⟩) m m) :: L) w') : St P ops Q (⟨some d, .makeSlice t x y, ty, pos, after, none⟩ :: rest) n L w := by
  unfold makeQ at ht
  split at ht
  · rename_i e' hu
    cases hi : P.info? e' with
    | none => simp [hi] at ht
    | some i =>
      rw [hi] at ht
      simp only [Option.bind_some] at ht
      split at ht
      · rename_i hs
        cases hzz : i.zero with
        | none => simp [hzz] at ht
        | some z' =>
          simp only [hzz, Option.map_some, Option.some.injEq, Prod.mk.injEq] at ht
          obtain ⟨rfl, rfl, rfl⟩ := ht
          have hr := run_make (P := P) w t e' i z' hu hi hzz kl kc (m : Int) (m : Int) (by omega) (Int.le_refl _) (by
            have : ((i.bytes * m : Nat) : Int) ≤ 281474976710656 := by omega
            rwa [Int.natCast_mul] at this) (by omega)
          have hcells : madeCells z'.cells ((m : Int).toNat * i.size) = (List.replicate m z').toArray := by
            rw [hs, Int.toNat_natCast, Nat.mul_one, hz]
            apply Array.ext_getElem?
            intro j
            simp only [madeCells, Array.getElem?_map]
            by_cases hj : j < m
            · simp [hj, Nat.mod_one]
            · simp [hj]
          rw [hcells, Int.toNat_natCast] at hr
          refine st_val (v := .slice (some ⟨w.heap.size, 0, none⟩) m m) (w' := w.alloc (.cells (List.replicate m z').toArray e')) (fun _ _ _ _ _ => ?_) (k _ _ (From.rfl_.new _) rfl (Blk.new w e' _))
          simp [execOp, hx, hy, hr]
      · cases ht
  · cases ht
end
end Go.Proofs.Ytpafbgdbjambgaa

namespace Go.Proofs.Ytpafbgdbjambgaa
open Go.RowKit

/-- from this address on lie these, a cell each -/
def RowOf {α : Type} (f : α → Value) (w : World) (A : Option Addr) (l : List α) : Prop :=
  0 < l.length → ∃ b o, A = some ⟨b, o, none⟩ ∧ ∀ i (h : i < l.length), w.cell? ⟨b, o + i, none⟩ = some (f l[i])
theorem RowOf.from_ {α : Type} {f : α → Value} {w w' : World} {A : Option Addr} {l : List α} (h : RowOf f w A l) (hw : From w w') : RowOf f w' A l := fun h0 =>
  let ⟨b, o, hA, hc⟩ := h h0
  ⟨b, o, hA, fun i hi => cellF hw (hc i hi)⟩
theorem RowOf.nil {α : Type} {f : α → Value} {w : World} {A : Option Addr} : RowOf f w A [] := fun h => absurd h (by simp)
theorem RowOf.of_row {α : Type} {f : α → Value} {w : World} {A : Option Addr} {n cap : Nat} {l : List α} (h : Row w (.slice A n cap) (l.map f)) : n = l.length ∧ RowOf f w A l := by
  obtain ⟨A', c', he, hp⟩ := row_vals h
  simp only [Value.slice.injEq] at he
  obtain ⟨rfl, rfl, rfl⟩ := he
  exact ⟨rfl, fun h0 => let ⟨b, o, hA, _, hc⟩ := hp h0; ⟨b, o, hA, hc⟩⟩
theorem RowOf.blk {α : Type} {f : α → Value} {w : World} {g : Nat} {t : TypeId} {cs : Array Value} {l : List α} (h : Blk w g t cs) (hl : ∀ i (hi : i < l.length), cs[i]? = some (f l[i])) : RowOf f w (some ⟨g, 0, none⟩) l := fun _ =>
  ⟨g, 0, rfl, fun i hi => by rw [Nat.zero_add, h.cell]; exact hl i hi⟩
theorem RowOf.own {α : Type} {f : α → Value} {w : World} {base : Nat} {e : TypeId} {A : Option Addr} {n cap : Nat} {l : List α} (h : w.ownsRow base e 1 (.slice A n cap) n (l.map f)) : n = l.length ∧ RowOf f w A l := RowOf.of_row (Row.of_own h)

/-- nothing but block g may have changed; more may be there -/
structure But (g : Nat) (w w' : World) : Prop where
  os : w'.os = w.os
  tape : w'.tape = w.tape
  output : w'.output = w.output
  size : w.heap.size ≤ w'.heap.size
  block : ∀ k, k < w.heap.size → k ≠ g → w'.heap[k]? = w.heap[k]?
theorem Only.but {g : Nat} {w w' : World} (h : Only g w w') : But g w w' := ⟨h.os, h.tape, h.output, by rw [h.size]; exact Nat.le_refl _, fun k _ hk => h.block k hk⟩
theorem But.rfl_ {g : Nat} {w : World} : But g w w := ⟨rfl, rfl, rfl, Nat.le_refl _, fun _ _ _ => rfl⟩
theorem But.of_from {g : Nat} {w w' : World} (h : From w w') : But g w w' := ⟨h.os, h.tape, h.output, h.size, fun k hk _ => h.block k hk⟩
theorem But.trans {g : Nat} {w w1 w2 : World} (h : But g w w1) (k : But g w1 w2) : But g w w2 :=
  ⟨k.os.trans h.os, k.tape.trans h.tape, k.output.trans h.output, Nat.le_trans h.size k.size, fun i hi hg => (k.block i (Nat.lt_of_lt_of_le hi h.size) hg).trans (h.block i hi hg)⟩
theorem But.grown {g : Nat} {w w' : World} (h : w.grownBy w' (some g)) : But g w w' := ⟨h.os, h.tape, h.output, h.size, fun k hk hg => h.block k hk (fun e => hg (Option.some.inj e))⟩
theorem From.but {a w w' : World} {g : Nat} (h : From a w) (o : But g w w') (hg : a.heap.size ≤ g) : From a w' :=
  ⟨o.os.trans h.os, o.tape.trans h.tape, o.output.trans h.output, Nat.le_trans h.size o.size, fun k hk => (o.block k (Nat.lt_of_lt_of_le hk h.size) (by omega)).trans (h.block k hk)⟩
theorem Blk.but {w w' : World} {k g : Nat} {t : TypeId} {cs : Array Value} (h : Blk w k t cs) (o : But g w w') (hk : k ≠ g) : Blk w' k t cs := (o.block k h.lt hk).trans h
theorem But.cell {w w' : World} {g b i : Nat} {v : Value} (o : But g w w') (hb : b ≠ g) (hc : w.cell? ⟨b, i, none⟩ = some v) : w'.cell? ⟨b, i, none⟩ = some v :=
  (World.cell?_of_block (w := w) (a := ⟨b, i, none⟩) (o.block b (World.block_lt_of_cell? w _ hc) hb)).trans hc

theorem map_take_succ {α β : Type} (f : α → β) {l : List α} {k : Nat} (h : k < l.length) : (l.take (k + 1)).map f = (l.take k).map f ++ [f l[k]] := by
  rw [List.take_succ_eq_append_getElem h, List.map_append]
  rfl
/-! ### bytes, words -/
abbrev bV (x : Nat) : Value := .int .u8 x
abbrev uV (x : Nat) : Value := .int .u64 x
abbrev iV (x : Int) : Value := .int .i64 x
end Go.Proofs.Ytpafbgdbjambgaa

namespace Go.Proofs.Ytpafbgdbjambgaa
open Go.RowKit

def litQ (P : Program) (t : TypeId) : Option (TypeId × Nat × Nat × Value) := match P.underlying t with | some (.slice e) => (P.info? e).bind fun i => i.zero.map fun z => (e, i.size, i.bytes, z) | _ => none
theorem lit_of {P : Program} {t e size by_ : Nat} {z : Value} (h : litQ P t = some (e, size, by_, z)) : ∃ i, P.underlying t = some (.slice e) ∧ P.info? e = some i ∧ i.size = size ∧ i.bytes = by_ ∧ i.zero = some z := by
  unfold litQ at h
  split at h
  · rename_i e' hu
    cases hi : P.info? e' with
    | none => simp [hi] at h
    | some i =>
      rw [hi] at h
      cases hz : i.zero with
      | none => simp [hz] at h
      | some z' =>
        simp only [Option.bind_some, hz, Option.map_some, Option.some.injEq, Prod.mk.injEq] at h
        obtain ⟨rfl, rfl, rfl, rfl⟩ := h
        exact ⟨i, hu, hi, rfl, rfl, hz⟩
  · cases h
section
variable {P : Program} {ops : Array Oper} {Q : Exit → Act → World → Prop} {rest : List Oper} {n : Fr} {L : List (Nat × Value)} {w : World} {ty : TypeId} {pos : String} {after : Array Edge} {d : Nat} {t : TypeId} {x s : Operand}
theorem ro_lit {ρ : Operand → Value} {e m size by_ : Nat} {l : List (Nat × Operand)} {cells : Array Value} {z : Value} (hq : litQ P t = some (e, size, by_, z)) (hsmall : Nat.ble (m * size) 16777216 = true) (hpos : Nat.beq (m * size) 0 = false)
    (hf : Instr.fill (fun i => some (i * size, size)) ((Array.range (m * size)).map (z.cells[· % z.cells.size]!)) (l.map fun p => (p.1, ρ p.2)) = some cells) :
    RO P ρ (.buildSlice t m l.toArray) w (.slice (some ⟨w.heap.size, 0, none⟩) m m) (w.alloc (.cells cells e)) := by
  obtain ⟨i, hu, hi, hs, _, hz⟩ := lit_of hq
  subst hs
  refine ro_buildSlice hu hi hz ?_ ?_ hf
  · have := Nat.le_of_ble_eq_true hsmall; omega
  · intro h0; rw [h0] at hpos; cases hpos
theorem st_lit {e m size by_ : Nat} {l : List (Nat × Operand)} {cells : Array Value} {z : Value} (hq : litQ P t = some (e, size, by_, z)) (hsmall : Nat.ble (m * size) 16777216 = true) (hpos : Nat.beq (m * size) 0 = false)
    (hf : Instr.fill (fun i => some (i * size, size)) ((Array.range (m * size)).map (z.cells[· % z.cells.size]!)) (l.map fun p => (p.1, ev n L p.2)) = some cells)
    (k : ∀ g w', From w w' → g = w.heap.size → Blk w' g e cells → St P ops Q rest n ((d, .slice (some ⟨g, 0, none⟩) m m) :: L) w') : St P ops Q (⟨some d, .buildSlice t m l.toArray, ty, pos, after, none⟩ :: rest) n L w :=
  st_val (ro_lit hq hsmall hpos hf) (k _ _ (From.rfl_.new _) rfl (Blk.new w e _))
/-- one element of one cell -/
theorem st_lit1 {e by_ : Nat} {z v : Value} (hq : litQ P t = some (e, 1, by_, z)) (hz : z.cells.size = 1) (hx : ev n L x = v) (hv : v.cells = #[v])
    (k : ∀ g w', From w w' → g = w.heap.size → Blk w' g e #[v] → St P ops Q rest n ((d, .slice (some ⟨g, 0, none⟩) 1 1) :: L) w') : St P ops Q (⟨some d, .buildSlice t 1 #[(0, x)], ty, pos, after, none⟩ :: rest) n L w := by
  refine st_lit (l := [(0, x)]) (cells := #[v]) hq rfl rfl ?_ k
  have e1 : (Array.range (1 * 1)).map (z.cells[· % z.cells.size]!) = #[z.cells[0]!] := by
    rw [show Array.range (1 * 1) = #[0] from rfl]
    simp
  rw [e1]
  simp [Instr.fill, hx, hv]

def litParts {α : Type} : Nat → List α → List (Nat × α)
  | _, [] => []
  | i, x :: r => (i, x) :: litParts (i + 1) r
theorem litParts_map {α β : Type} (f : α → β) : ∀ (i : Nat) (l : List α), (litParts i l).map (fun p => (p.1, f p.2)) = litParts i (l.map f)
  | _, [] => rfl
  | i, x :: r => by simp [litParts, litParts_map f (i + 1) r]
theorem fill_parts : ∀ (vs : List Value) (k : Nat) (cells : Array Value), (∀ v ∈ vs, v.cells = #[v]) → k + vs.length ≤ cells.size →
    ∃ R : Array Value, Instr.fill (fun i => some (i * 1, 1)) cells (litParts k vs) = some R ∧ R.size = cells.size ∧ ∀ j, R[j]? = if k ≤ j ∧ j < k + vs.length then vs[j - k]? else cells[j]?
  | [], k, cells, _, _ => ⟨cells, rfl, rfl, fun j => by rw [if_neg (by simp only [List.length_nil]; omega)]⟩
  | v :: r, k, cells, h, hl => by
    simp only [List.length_cons] at hl
    have hv : v.cells = #[v] := h v (List.mem_cons_self ..)
    obtain ⟨R, hR, hs, hc⟩ := fill_parts r (k + 1) (cells.setIfInBounds k v) (fun u hu => h u (List.mem_cons_of_mem _ hu)) (by rw [Array.size_setIfInBounds]; omega)
    have hcond : ¬ (cells.size < k + 1) := by omega
    refine ⟨R, ?_, by simpa using hs, fun j => ?_⟩
    · simp only [litParts, Instr.fill, Nat.mul_one, hv]
      simpa [hcond] using hR
    · rw [hc]
      by_cases hj : j = k
      · subst hj
        rw [if_neg (by omega), if_pos (by simp)]
        simp [show j < cells.size by omega]
      · by_cases h2 : k + 1 ≤ j ∧ j < k + 1 + r.length
        · rw [if_pos h2, if_pos (by simp; omega)]
          obtain ⟨d, hd⟩ : ∃ d, j - k = d + 1 := ⟨j - k - 1, by omega⟩
          rw [hd, show j - (k + 1) = d by omega, List.getElem?_cons_succ]
        · rw [if_neg h2, if_neg (by simp; omega), Array.getElem?_setIfInBounds_ne (fun e => hj e.symm)]
/-- a literal of one-cell elements -/
theorem st_lits {e by_ m : Nat} {z : Value} (xs : List Operand) (vs : List Value) (hq : litQ P t = some (e, 1, by_, z)) (hm : xs.length = m) (hsmall : Nat.ble m 16777216 = true) (hpos : Nat.beq m 0 = false) (hx : xs.map (ev n L) = vs) (hv : ∀ v ∈ vs, v.cells = #[v])
    (k : ∀ g w', From w w' → g = w.heap.size → Blk w' g e vs.toArray → St P ops Q rest n ((d, .slice (some ⟨g, 0, none⟩) m m) :: L) w') : St P ops Q (⟨some d, .buildSlice t m (litParts 0 xs).toArray, ty, pos, after, none⟩ :: rest) n L w := by
  have hlen : vs.length = m := by rw [← hx, List.length_map, hm]
  obtain ⟨R, hR, hs, hc⟩ := fill_parts vs 0 ((Array.range (m * 1)).map (z.cells[· % z.cells.size]!)) hv (by simp; omega)
  have hRe : R = vs.toArray := by
    apply Array.ext_getElem?
    intro j
    rw [hc]
    by_cases hj : j < m
    · rw [if_pos ⟨by omega, by omega⟩, Nat.sub_zero, List.getElem?_toArray]
    · rw [if_neg (by omega), Array.getElem?_eq_none (by rw [Array.size_map, Array.size_range]; omega), Array.getElem?_eq_none (by rw [List.size_toArray]; omega)]
  subst hRe
  refine st_lit hq (by rw [Nat.mul_one]; exact hsmall) (by rw [Nat.mul_one]; exact hpos) ?_ k
  rw [litParts_map, hx]
  exact hR
theorem st_appendB {base : Nat} {A A2 : Option Addr} {m j cap c2 e size by_ : Nat} {z : Value} {xs news : List Value} (hq : litQ P t = some (e, size, by_, z)) (hzs : z.cells.size = size) (hs0 : 0 < size)
    (hs : ev n L s = .slice A m cap) (hown : w.ownsRow base e size (.slice A m cap) m xs) (hB : base ≤ w.heap.size)
    (hx : ev n L x = .slice A2 j c2) (hl : news.length = j * size) (hsrc : 0 < j → ∃ b o, A2 = some ⟨b, o, none⟩ ∧ w.rangeAt b o news) (hnil : A2 = none → c2 = 0) (h1 : ∀ u ∈ news, u.oneCell' = true) (h63 : m + j ≤ 9223372036854775807) (hby : (m + j) * by_ ≤ 140737488355328)
    (k : ∀ A' cap' w', w'.ownsRow base e size (.slice A' (m + j) cap') (m + j) (xs ++ news) → w.grownBy w' (A.map (·.block)) → St P ops Q rest n ((d, .slice A' (m + j) cap') :: L) w') :
    St P ops Q (⟨some d, .call { callee := .builtin .append, args := #[s, x], argTypes := #[t, t] }, ty, pos, after, none⟩ :: rest) n L w := by
  obtain ⟨i, hu, hi, hsz, hb, hz⟩ := lit_of hq
  have hobl : (Value.slice A m cap).ownBlock = A.map (·.block) := by cases A <;> rfl
  cases A2 with
  | none =>
    have hj : j = 0 := by
      rcases Nat.eq_zero_or_pos j with h | h
      · exact h
      · obtain ⟨b, o, hA, _⟩ := hsrc h; cases hA
    subst hj
    have hnn : news = [] := List.eq_nil_of_length_eq_zero (by simpa using hl)
    subst hnn
    have hc := hnil rfl
    subst hc
    refine ⟨wpList_append_own_none (P := P) (a := mkA n L) rfl s x t rfl base e i size hu hi _ m xs (by rw [eval_mkA]; exact hs) hown (by rw [eval_mkA]; exact hx) ?_⟩
    rw [put_mkA]
    have := k A cap w (by simpa using hown) (World.grownBy.refl _ _)
    simpa using this.out
  | some ad =>
    by_cases hj : j = 0
    · subst hj
      have hnn : news = [] := List.eq_nil_of_length_eq_zero (by simpa using hl)
      subst hnn
      refine ⟨wpList_append_own (P := P) w (a := mkA n L) rfl s x t rfl base e i z size by_ hu hi hz hsz hb hzs hs0 _ m xs (by rw [eval_mkA]; exact hs) hown ad 0 c2 [] (by rw [eval_mkA]; exact hx) (by simp) (by simp) (by simp) (by unfold maxLen; omega) hby hB ?_⟩
      intro v' w' hown' hg _
      obtain ⟨A', cap', rfl⟩ := own_form hown'
      rw [put_mkA]
      exact (k A' cap' w' hown' (by rw [← hobl]; exact hg)).out
    · obtain ⟨b, o, hA, hr⟩ := hsrc (by omega)
      cases hA
      refine ⟨wpList_append_own (P := P) w (a := mkA n L) rfl s x t rfl base e i z size by_ hu hi hz hsz hb hzs hs0 _ m xs (by rw [eval_mkA]; exact hs) hown ⟨b, o, none⟩ j c2 news (by rw [eval_mkA]; exact hx) hl (fun i u hu => by rw [Addr.add_mid]; exact hr i u hu) h1 (by unfold maxLen; omega) hby hB ?_⟩
      intro v' w' hown' hg _
      obtain ⟨A', cap', rfl⟩ := own_form hown'
      rw [put_mkA]
      exact (k A' cap' w' hown' (by rw [← hobl]; exact hg)).out
theorem st_append {a0 : World} {A A2 : Option Addr} {m j cap c2 e size by_ : Nat} {z : Value} {xs news : List Value} (hq : litQ P t = some (e, size, by_, z)) (hzs : z.cells.size = size) (hs0 : 0 < size)
    (hs : ev n L s = .slice A m cap) (hown : w.ownsRow a0.heap.size e size (.slice A m cap) m xs) (hB : From a0 w)
    (hx : ev n L x = .slice A2 j c2) (hl : news.length = j * size) (hsrc : 0 < j → ∃ b o, A2 = some ⟨b, o, none⟩ ∧ w.rangeAt b o news) (hnil : A2 = none → c2 = 0) (h1 : ∀ u ∈ news, u.oneCell' = true) (h63 : m + j ≤ 9223372036854775807) (hby : (m + j) * by_ ≤ 140737488355328)
    (k : ∀ A' cap' w', w'.ownsRow a0.heap.size e size (.slice A' (m + j) cap') (m + j) (xs ++ news) → From a0 w' → w.grownBy w' (A.map (·.block)) → St P ops Q rest n ((d, .slice A' (m + j) cap') :: L) w') :
    St P ops Q (⟨some d, .call { callee := .builtin .append, args := #[s, x], argTypes := #[t, t] }, ty, pos, after, none⟩ :: rest) n L w :=
  st_appendB hq hzs hs0 hs hown hB.size hx hl hsrc hnil h1 h63 hby fun A' cap' w' ho hg => k A' cap' w' ho (hB.grew hg (fun k' hk => (hown.lt k' (by rw [← hk]; cases A <;> rfl)).1)) hg
/-- one more element of one cell, that lies in a block of its own -/
theorem st_push1 {a0 : World} {A : Option Addr} {m cap e by_ b : Nat} {z v : Value} {xs : List Value} (hq : litQ P t = some (e, 1, by_, z)) (hzs : z.cells.size = 1)
    (hs : ev n L s = .slice A m cap) (hown : w.ownsRow a0.heap.size e 1 (.slice A m cap) m xs) (hB : From a0 w)
    (hx : ev n L x = .slice (some ⟨b, 0, none⟩) 1 1) (hb : Blk w b e #[v]) (h1 : v.oneCell' = true) (h63 : m + 1 ≤ 9223372036854775807) (hby : (m + 1) * by_ ≤ 140737488355328)
    (k : ∀ A' cap' w', w'.ownsRow a0.heap.size e 1 (.slice A' (m + 1) cap') (m + 1) (xs ++ [v]) → From a0 w' → w.grownBy w' (A.map (·.block)) → St P ops Q rest n ((d, .slice A' (m + 1) cap') :: L) w') :
    St P ops Q (⟨some d, .call { callee := .builtin .append, args := #[s, x], argTypes := #[t, t] }, ty, pos, after, none⟩ :: rest) n L w :=
  st_append hq hzs (by decide) hs hown hB hx rfl (fun _ => ⟨b, 0, rfl, fun i u hu => by
    cases i with
    | zero => simp at hu; subst hu; rw [hb.cell]; rfl
    | succ i => simp at hu⟩) (fun h => by cases h) (by simpa using h1) h63 hby k
/-- a store into a row of the call's own -/
theorem st_putOwn {g i m cap e base : Nat} {xs : List Value} {v : Value} {y : Operand} (ht : sizeQ P t = some 1) (hx : ev n L x = .pointer (some ⟨g, i, none⟩)) (hy : ev n L y = v) (h1 : v.oneCell' = true)
    (ho : w.ownsRow base e 1 (.slice (some ⟨g, 0, none⟩) m cap) m xs) (hi : i < m)
    (k : ∀ w', Only g w w' → w'.ownsRow base e 1 (.slice (some ⟨g, 0, none⟩) m cap) m (xs.set i v) → St P ops Q rest n L w') : St P ops Q (⟨none, .store t x y, ty, pos, after, none⟩ :: rest) n L w := by
  have hlen : xs.length = m := by simpa using ho.1
  have hc : w.cell? ⟨g, i, none⟩ = some (xs[i]'(by omega)) := by rw [ho.cellAt i (by rw [Nat.mul_one]; exact hi)]; simp [hlen, hi]
  exact st_store (rs_store ht hx hy h1 hc (ho.frozenAt i)) (k _ (Only.setCell w g i v) (ho.stored i v).1)
end
theorem own_some {w : World} {base e s n c : Nat} {A : Option Addr} {xs : List Value} (h : w.ownsRow base e s (.slice A n c) n xs) (hn : 0 < n) : ∃ g, A = some ⟨g, 0, none⟩ := by
  rcases h.2 with ⟨_, h0⟩ | ⟨g, cap, cur, hv, _⟩
  · omega
  · simp only [Value.slice.injEq] at hv
    exact ⟨g, hv.1⟩
theorem own_len {α : Type} {f : α → Value} {w : World} {base e n : Nat} {v : Value} {l : List α} (h : w.ownsRow base e 1 v n (l.map f)) : l.length = n := by simpa using h.1
theorem own_cell {α : Type} {f : α → Value} {w : World} {base e g n c : Nat} {l : List α} (h : w.ownsRow base e 1 (.slice (some ⟨g, 0, none⟩) n c) n (l.map f)) (i : Nat) (hi : i < l.length) : w.cell? ⟨g, i, none⟩ = some (f l[i]) := by
  rw [h.cellAt i (by rw [← own_len h]; omega)]
  simp [hi]
theorem grown_trans {w w1 w2 : World} {r : Option Nat} (h : w.grownBy w1 r) (k : w1.grownBy w2 r) : w.grownBy w2 r :=
  ⟨k.os.trans h.os, k.tape.trans h.tape, k.output.trans h.output, Nat.le_trans h.size k.size, fun i hi hg => (k.block i (Nat.lt_of_lt_of_le hi h.size) hg).trans (h.block i hi hg)⟩
theorem Only.grown {g : Nat} {w w' : World} (h : Only g w w') : w.grownBy w' (some g) := ⟨h.os, h.tape, h.output, by rw [h.size]; exact Nat.le_refl _, fun k _ hk => h.block k (fun e => hk (by rw [e]))⟩
theorem From.grown {w w' : World} (h : From w w') (r : Option Nat) : w.grownBy w' r := ⟨h.os, h.tape, h.output, h.size, fun k hk _ => h.block k hk⟩
/-- a row that is not the one that may have changed -/
theorem own_kept {w w' : World} {r : Option Nat} {base e s n : Nat} {v : Value} {xs : List Value} (h : w.ownsRow base e s v n xs) (hg : w.grownBy w' r) (hne : ∀ k, r = some k → k < base) : w'.ownsRow base e s v n xs := by
  refine h.kept hg ?_
  cases hv : v.ownBlock with
  | none => exact .inl rfl
  | some k =>
    refine .inr fun e => ?_
    have := (h.lt k hv).1
    have := hne k e.symm
    omega
end Go.Proofs.Ytpafbgdbjambgaa

namespace Go.Proofs.Ytpafbgdbjambgaa
open Go.RowKit

/-- a result is read as v -/
structure RV (P : Program) (n : Fr) (L : List (Nat × Value)) (w : World) (r : ResultVar) (v : Value) : Prop where
  out : match r with
    | .tmp t => (mkT n.n L)[t]?.getD undef = v
    | .cell a t => ∃ ad, (mkT n.n L)[a]?.getD undef = .pointer (some ad) ∧ (loadVar t ad).run P w = .ok v w
section
variable {P : Program} {n : Fr} {L : List (Nat × Value)} {w : World} {fn : Func}
theorem ev_at {t : Nat} {v : Value} (h : ev n L (.tmp t) = v) : (mkT n.n L)[t]?.getD undef = v := by
  have := getD_mkT n.n L t
  rw [← Array.getD_eq_getD_getElem?, this]
  exact h
theorem rv_tmp {t : Nat} {v : Value} (h : ev n L (.tmp t) = v) : RV P n L w (.tmp t) v := ⟨ev_at h⟩
theorem rv_cell {t ty : Nat} {ad : Addr} {v : Value} (ht : aggQ P ty = some false) (hx : ev n L (.tmp t) = .pointer (some ad)) (hc : w.cell? ad = some v) : RV P n L w (.cell t ty) v := ⟨ad, ev_at hx, by simp [loadVar, isAgg_of ht, hc]⟩
theorem rv_cellA {t ty b off : Nat} {cs : List Value} (ht : aggQ P ty = some true) (hs : sizeQ P ty = some cs.length) (hx : ev n L (.tmp t) = .pointer (some ⟨b, off, none⟩)) (hc : w.rangeAt b off cs) : RV P n L w (.cell t ty) (.agg cs.toArray) := ⟨_, ev_at hx, by
  have hl : (loadCells ⟨b, off, none⟩ cs.length).run P w = .ok cs.toArray w :=
    run_loadCells_list (P := P) w ⟨b, off, none⟩ cs (fun j v hv => by rw [Addr.add_mid]; exact hc j v hv)
  simp [loadVar, isAgg_of ht, sizeOf_of hs, hl]⟩
theorem ro_eq {ρ : Operand → Value} {op : Op} {w' : World} {v v' : Value} (h : RO P ρ op w v w') (he : v = v') : RO P ρ op w v' w' := he ▸ h
theorem ro_bt {ρ : Operand → Value} {op : Op} {w' : World} {b : Bool} (h : RO P ρ op w (.bool b) w') (he : b = true) : RO P ρ op w (.bool true) w' := he ▸ h
theorem ro_bf {ρ : Operand → Value} {op : Op} {w' : World} {b : Bool} (h : RO P ρ op w (.bool b) w') (he : b = false) : RO P ρ op w (.bool false) w' := he ▸ h
theorem ro_min {ρ : Operand → Value} {x y : Operand} {k : IntKind} {a b : Int} {ats : Array TypeId} (hx : ρ x = .int k a) (hy : ρ y = .int k b) : RO P ρ (.call { callee := .builtin .min, args := #[x, y], argTypes := ats }) w (.int k (min a b)) w := fun _ _ _ _ _ => by
  have h : (if b < a then b else a) = min a b := by split <;> omega
  simp [BigFrame.execOp_builtin, BigFrame.builtin_min, hx, hy, run_min_int2, h]
theorem ro_max {ρ : Operand → Value} {x y : Operand} {k : IntKind} {a b : Int} {ats : Array TypeId} (hx : ρ x = .int k a) (hy : ρ y = .int k b) : RO P ρ (.call { callee := .builtin .max, args := #[x, y], argTypes := ats }) w (.int k (max a b)) w := fun _ _ _ _ _ => by
  have h : (if a < b then b else a) = max a b := by split <;> omega
  simp [BigFrame.execOp_builtin, BigFrame.builtin_max, hx, hy, run_max_int2, h]
def restOf (A : Option Addr) (c l sz : Nat) : Option Addr := if c = l then A else A.map fun x => x.add (l * sz)
/-- a piece of any slice; the bounds are integers that are casts -/
theorem ro_sliceO {ρ : Operand → Value} {x : Operand} {t e sz l h m c : Nat} {A : Option Addr} (ht : elemQ P t = some (e, sz)) {lo hi : Option Operand} (hx : ρ x = .slice A m c)
    (hl : (lo = none ∧ l = 0) ∨ ∃ y k i, lo = some y ∧ ρ y = .int k i ∧ i = (l : Int)) (hh : (hi = none ∧ h = m) ∨ ∃ y k i, hi = some y ∧ ρ y = .int k i ∧ i = (h : Int)) (h1 : l ≤ h) (h2 : h ≤ c) :
    RO P ρ (.slice t x lo hi none) w (.slice (restOf A c l sz) (h - l) (c - l)) w := fun _ _ _ _ _ => by
  obtain ⟨hu, hs⟩ := elem_of ht
  have hE : P.elem t = e := by simp [Program.elem, hu]
  have hu' : P.underlying t = some (.slice (P.elem t)) := by rw [hE]; exact hu
  have fin : (Result.ok (sliced A l h c sz) w : Result Value) = .ok (.slice (restOf A c l sz) (h - l) (c - l)) w := by
    simp only [sliced, restOf]
  rcases hl with ⟨rfl, rfl⟩ | ⟨y1, k1, _, rfl, hy1, rfl⟩ <;> rcases hh with ⟨rfl, rfl⟩ | ⟨y2, k2, _, rfl, hy2, rfl⟩
  · simp only [execOp, hx, Option.map_none, Sem.run_bind]
    rw [run_sliceAt_slice w t _ _ _ _ hu', run_slice_all w t _ _ c hu', hE, sizeOf_of hs, Result.andThen_ok, fin]; rfl
  · simp only [execOp, hx, hy2, Option.map_none, Option.map_some, Sem.run_bind]
    rw [run_sliceAt_slice w t _ _ _ _ hu', run_slice_h w t _ m c hu' k2 (h : Int) (by omega) (by omega), hE, sizeOf_of hs, Result.andThen_ok, Int.toNat_natCast, fin]; rfl
  · simp only [execOp, hx, hy1, Option.map_none, Option.map_some, Sem.run_bind]
    rw [run_sliceAt_slice w t _ _ _ _ hu', run_slice_l w t _ _ c hu' k1 (l : Int) (by omega) (by omega), hE, sizeOf_of hs, Result.andThen_ok, Int.toNat_natCast, fin]; rfl
  · simp only [execOp, hx, hy1, hy2, Option.map_none, Option.map_some, Sem.run_bind]
    rw [run_sliceAt_slice w t _ _ _ _ hu', run_slice_lh w t _ m c hu' k1 k2 (l : Int) (h : Int) (by omega) (by omega) (by omega), hE, sizeOf_of hs, Result.andThen_ok, Int.toNat_natCast, Int.toNat_natCast, fin]; rfl
theorem resr1 {m : Nat} {r : ResultVar} {R : Value → World → Prop} {v : Value} (hr : fn.results = #[r]) (h1 : RV P ⟨m, []⟩ L w r v) (h : R v w) :
    bodyPost P fn (fun e w' => ∃ v, e = .returned v ∧ R v w') .ret (mkA ⟨m, []⟩ L) w := by
  refine bodyPost_ret (v := v) ?_ rfl ⟨v, rfl, h⟩
  have e1 := h1.out
  show (results fn (mkT m L)).run P w = _
  cases r <;> simp_all only [] <;> (try obtain ⟨_, _, _⟩ := e1) <;> simp_all [results, asAddr]
theorem resr2 {m : Nat} {r r' : ResultVar} {R : Value → World → Prop} {v v' : Value} (hr : fn.results = #[r, r']) (h1 : RV P ⟨m, []⟩ L w r v) (h2 : RV P ⟨m, []⟩ L w r' v') (h : R (.tuple #[v, v']) w) :
    bodyPost P fn (fun e w' => ∃ v, e = .returned v ∧ R v w') .ret (mkA ⟨m, []⟩ L) w := by
  refine bodyPost_ret (v := .tuple #[v, v']) ?_ rfl ⟨_, rfl, h⟩
  have e1 := h1.out
  have e2 := h2.out
  show (results fn (mkT m L)).run P w = _
  cases r <;> cases r' <;> simp_all only [] <;> (try obtain ⟨_, _, _⟩ := e1) <;> (try obtain ⟨_, _, _⟩ := e2) <;> simp_all [results, asAddr]
theorem resr3 {m : Nat} {r r' r'' : ResultVar} {R : Value → World → Prop} {v v' v'' : Value} (hr : fn.results = #[r, r', r'']) (h1 : RV P ⟨m, []⟩ L w r v) (h2 : RV P ⟨m, []⟩ L w r' v') (h3 : RV P ⟨m, []⟩ L w r'' v'') (h : R (.tuple #[v, v', v'']) w) :
    bodyPost P fn (fun e w' => ∃ v, e = .returned v ∧ R v w') .ret (mkA ⟨m, []⟩ L) w := by
  refine bodyPost_ret (v := .tuple #[v, v', v'']) ?_ rfl ⟨_, rfl, h⟩
  have e1 := h1.out
  have e2 := h2.out
  have e3 := h3.out
  show (results fn (mkT m L)).run P w = _
  cases r <;> cases r' <;> cases r'' <;> simp_all only [] <;> (try obtain ⟨_, _, _⟩ := e1) <;> (try obtain ⟨_, _, _⟩ := e2) <;> (try obtain ⟨_, _, _⟩ := e3) <;> simp_all [results, asAddr]
end
end Go.Proofs.Ytpafbgdbjambgaa

namespace Go.Proofs.Ytpafbgdbjambgaa
open Go.RowKit

/-- a panic speaks of no slot -/
structure PQ (Q : Exit → Act → World → Prop) : Prop where
  out : ∀ (d : Option Nat) (v : Value) (c : List PanicEntry) (a : Act) (w : World), Q (.panic c) (a.put d v) w → Q (.panic c) a w
theorem pq_then {K : Act → World → Prop} {Q : Exit → Act → World → Prop} (h : PQ Q) : PQ (Exit.then K Q) := ⟨fun d v c a w hq => h.out d v c a w hq⟩
theorem pq_block {id : Nat} {Q : Exit → Act → World → Prop} (h : PQ Q) : PQ (Exit.inBlock id Q) := ⟨fun d v c a w hq => h.out d v c a w hq⟩
theorem pq_body {P : Program} {fn : Func} {R : Ending → World → Prop} : PQ (bodyPost P fn R) := ⟨fun d v c a w hq => by
  cases d with
  | none => exact hq
  | some d => exact hq⟩

/-- operations that reckon without memory -/
def lateK : Op → Bool | .move _ => true | .assign _ => true | .extract _ _ => true | _ => false
theorem late_run {P : Program} {ρ : Operand → Value} {o : Oper} (h : lateK o.op = true) {w w' : World} {r : Next} (hr : (execOp ρ o).run P w = .ok r w') : w' = w ∧ ∀ w2, (execOp ρ o).run P w2 = .ok r w2 := by
  obtain ⟨dst, op, ty, pos, after, guard⟩ := o
  cases op <;> simp only [lateK, Bool.false_eq_true] at h
  · simp only [execOp, Sem.run_pure, Result.ok.injEq] at hr ⊢
    exact ⟨hr.2.symm, fun w2 => ⟨hr.1, trivial⟩⟩
  · simp only [execOp, Sem.run_pure, Result.ok.injEq] at hr ⊢
    exact ⟨hr.2.symm, fun w2 => ⟨hr.1, trivial⟩⟩
  · rename_i x i
    simp only [execOp, Sem.run_bind] at hr ⊢
    cases hx : ρ x <;> simp only [hx, Instr.extract] at hr ⊢ <;> (try (simp at hr; done))
    rename_i vs
    cases hv : vs[i]? <;> simp [hv] at hr ⊢
    exact ⟨hr.2.symm, hr.1⟩

def isLate (l : List Oper) (K j : Nat) : Bool := (List.range l.length).any fun i => decide (K ≤ i) && (match l[i]? with | some o => !hasEdge o j | none => false)
def lateB (l : List Oper) (K : Nat) : Bool :=
  (List.range K).all fun j => !isLate l K j || match l[j]? with
    | none => false
    | some o => lateK o.op && o.guard.isNone && o.dst.isSome && (List.range l.length).all fun i => i == j || match l[i]? with
      | none => false
      | some y => (if i < K then !isLate l K i else hasEdge y j) || o.apart l.toArray y
/-- the region's shape -/
def monoL (l : List Oper) (K : Nat) : Bool :=
  let ops := l.toArray
  let dst (i : Nat) : Option Nat := (l[i]?).bind (·.dst)
  (decide (K ≤ l.length) &&
  (List.range l.length).all fun i => match l[i]? with
    | none => false
    | some o =>
      (o.after.toList.all fun e => !Region.binds .any e || decide (e.on < i)) && !isSelect o.op &&
      (if i < K then
        (match o.dst with
         | none => false
         | some d => (List.range K).all (fun j => j == i || dst j != some d) && !((o.looksAt ops).elem d)) &&
        (List.range K).all (fun j => match dst j with
          | none => false
          | some d => !(o.looksAt ops).elem d || (decide (j < i) && hasEdge o j))
       else (List.range i).all (fun j => hasEdge o j || decide (j < K)))) && lateB l K

section late
variable {P : Program} {Q : Exit → Act → World → Prop} {n : Fr} {L : List (Nat × Value)} {w : World} {l : List Oper} {K : Nat} {R : Nat → Value → World → Prop}
theorem late_spec (hc : lateB l K = true) {j : Nat} {o : Oper} (hj : j < K) (ho : l[j]? = some o) (hl : isLate l K j = true) :
    lateK o.op = true ∧ o.guard = none ∧ ∀ i y, l[i]? = some y → i ≠ j → ((i < K ∧ isLate l K i = true) ∨ (K ≤ i ∧ hasEdge y j = false)) → o.apart l.toArray y = true := by
  have h := List.all_eq_true.1 hc j (List.mem_range.2 hj)
  rw [hl, ho] at h
  simp only [Bool.not_true, Bool.false_or, Bool.and_eq_true] at h
  refine ⟨h.1.1.1, by simpa using h.1.1.2, fun i y hi hne hcase => ?_⟩
  have h2 := List.all_eq_true.1 h.2 i (List.mem_range.2 (List.getElem?_eq_some_iff.1 hi).1)
  rw [hi] at h2
  simp only [beq_iff_eq, hne, Bool.or_eq_true, false_or] at h2
  rcases hcase with ⟨h3, h4⟩ | ⟨h3, h4⟩
  · simp [h3, h4] at h2
    exact h2
  · simp [show ¬ i < K by omega, h4] at h2
    exact h2
theorem nonlate_edge {i j : Nat} {o : Oper} (hl : isLate l K j = false) (ho : l[i]? = some o) (hi : K ≤ i) : hasEdge o j = true := by
  unfold isLate at hl
  have := List.any_eq_false.1 hl i (List.mem_range.2 (List.getElem?_eq_some_iff.1 ho).1)
  rw [ho] at this
  simpa [hi] using this
/-- values that are still to be put -/
def pend (l : List Oper) (f : Nat → Value) : List Nat → Act → Act
  | [], a => a
  | i :: r, a => (pend l f r a).put ((l[i]?).bind (·.dst)) (f i)
theorem pend_put {f : Nat → Value} {x : Option Nat} {v : Value} : ∀ (U : List Nat) (a : Act), (∀ i ∈ U, ∀ d, x = some d → (l[i]?).bind (·.dst) ≠ some d) → pend l f U (a.put x v) = (pend l f U a).put x v
  | [], _, _ => rfl
  | i :: r, a, h => by
    show (pend l f r (a.put x v)).put _ _ = ((pend l f r a).put _ _).put _ _
    rw [pend_put r a (fun j hj => h j (List.mem_cons_of_mem _ hj))]
    exact Act.put_comm _ _ _ (h i (List.mem_cons_self ..))
theorem pend_erase {f : Nat → Value} {i : Nat} : ∀ (U : List Nat) (a : Act), i ∈ U → U.Nodup → (∀ j ∈ U, j ≠ i → ∀ d, (l[i]?).bind (·.dst) = some d → (l[j]?).bind (·.dst) ≠ some d) → pend l f (U.erase i) (a.put ((l[i]?).bind (·.dst)) (f i)) = pend l f U a
  | [], _, h, _, _ => by cases h
  | j :: r, a, h, hn, hd => by
    obtain ⟨hn1, hn2⟩ := List.nodup_cons.1 hn
    by_cases e : j = i
    · subst e
      rw [List.erase_cons_head]
      exact pend_put r a (fun k hk => hd k (List.mem_cons_of_mem _ hk) (fun e => hn1 (e ▸ hk)))
    · rw [List.erase_cons_tail (by simpa using e)]
      show (pend l f (r.erase i) _).put _ _ = (pend l f r a).put _ _
      rw [pend_erase r a ((List.mem_cons.1 h).resolve_left (fun h => e h.symm)) hn2 (fun k hk => hd k (List.mem_cons_of_mem _ hk))]
theorem yields_put {o y : Oper} {v u : Value} {a : Act} (hs : isSelect o.op = false) (hap : o.apart l.toArray y = true) : Yields P l.toArray o v (a.put y.dst u) ↔ Yields P l.toArray o v a := by
  have h3 := (Oper.apart_spec hap).2.2
  have hs' : ∀ cs b, o.op ≠ .select cs b := fun cs b e => by rw [e] at hs; simp [isSelect] at hs
  exact ⟨fun h => h.of_same (execOp_put o hs' a y.dst u h3).symm (wanted_put o a y.dst u h3).symm, fun h => h.of_same (execOp_put o hs' a y.dst u h3) (wanted_put o a y.dst u h3)⟩
theorem yields_pend {f : Nat → Value} {o : Oper} {v : Value} (hs : isSelect o.op = false) : ∀ (U : List Nat) (a : Act), (∀ i ∈ U, ∃ y, l[i]? = some y ∧ o.apart l.toArray y = true) → (Yields P l.toArray o v (pend l f U a) ↔ Yields P l.toArray o v a)
  | [], _, _ => Iff.rfl
  | i :: r, a, h => by
    obtain ⟨y, hy, hap⟩ := h i (List.mem_cons_self ..)
    show Yields P l.toArray o v ((pend l f r a).put _ _) ↔ _
    rw [hy]
    exact (yields_put hs hap).trans (yields_pend hs r a (fun j hj => h j (List.mem_cons_of_mem _ hj)))
theorem wpOp_pend (hQ : PQ Q) {f : Nat → Value} {k : Nat} {o : Oper} (ho : l[k]? = some o) (hs : isSelect o.op = false) : ∀ (U : List Nat) (Kk : Act → World → Prop) (a : Act), U.Nodup →
    (∀ i ∈ U, ∃ y, l[i]? = some y ∧ isSelect y.op = false ∧ y.apart l.toArray o = true ∧ Yields P l.toArray y (f i) a ∧ ∀ j ∈ U, j ≠ i → ∃ z, l[j]? = some z ∧ y.apart l.toArray z = true) →
    wpOp P l.toArray Q k Kk (pend l f U a) w → wpOp P l.toArray Q k (fun a' w' => (∀ i ∈ U, ∀ y, l[i]? = some y → Yields P l.toArray y (f i) a') ∧ Kk (pend l f U a') w') a w
  | [], Kk, a, _, _, h => wpOp_mono (fun a w h => ⟨by simp, h⟩) h
  | i :: r, Kk, a, hn, hU, h => by
    obtain ⟨hn1, hn2⟩ := List.nodup_cons.1 hn
    obtain ⟨y, hy, hsy, hap, hyl, hoth⟩ := hU i (List.mem_cons_self ..)
    have hr : ∀ j ∈ r, ∃ z, l[j]? = some z ∧ y.apart l.toArray z = true := fun j hj => hoth j (List.mem_cons_of_mem _ hj) (fun e => hn1 (e ▸ hj))
    have hsel : ∀ {x : Oper}, isSelect x.op = false → ∀ cs b, x.op ≠ .select cs b := fun hs cs b e => by rw [e] at hs; simp [isSelect] at hs
    have e0 : pend l f (i :: r) a = (pend l f r a).put y.dst (f i) := by
      show (pend l f r a).put _ _ = _
      rw [hy]; rfl
    rw [e0] at h
    have h1 := wpOp_put (P := P) (ops := l.toArray) (by rw [List.getElem?_toArray]; exact ho) hap (hsel hsy) (hsel hs) (fun c a w => hQ.out _ _ c a w) ((yields_pend hsy r a hr).2 hyl) h
    have h2 := wpOp_pend hQ ho hs r _ a hn2 (fun j hj => by
      obtain ⟨z, h1, h2, h3, h4, h5⟩ := hU j (List.mem_cons_of_mem _ hj)
      exact ⟨z, h1, h2, h3, h4, fun k hk => h5 k (List.mem_cons_of_mem _ hk)⟩) h1
    refine wpOp_mono (fun a' w' hh => ?_) h2
    obtain ⟨g1, g2, g3⟩ := hh
    refine ⟨fun j hj z hz => ?_, ?_⟩
    · rcases List.mem_cons.1 hj with rfl | hj
      · rw [hy] at hz
        cases hz
        exact (yields_pend hsy r a' hr).1 g2
      · exact g1 j hj z hz
    · show Kk ((pend l f r a').put _ _) w'
      rw [hy]
      exact g3
/-- behind the head: one order, but for the late ones -/
theorem tail_late (hQ : PQ Q) (hc : monoL l K = true) {f : Nat → Value} : ∀ (m k : Nat) (listed : Array Bool) (U : List Nat) (a : Act) (w' : World), listed.toList.count false = m → listed.size = l.length → K ≤ k → k ≤ l.length →
    (∀ j, K ≤ j → j < l.length → listed.getD j true = decide (j < k)) → U.Nodup → (∀ j, j < K → (listed.getD j true = false ↔ j ∈ U)) → (∀ j ∈ U, j < K ∧ isLate l K j = true ∧ ∃ o, l[j]? = some o ∧ Yields P l.toArray o (f j) a) →
    wpList P l.toArray Q (l.drop k) (pend l f U a) w' → wpAny P .any l.toArray Q m listed a w' := by
  have hc1 := (Bool.and_eq_true_iff.1 hc).1
  have hlate := (Bool.and_eq_true_iff.1 hc).2
  have hKl : K ≤ l.length := of_decide_eq_true (Bool.and_eq_true_iff.1 hc1).1
  have hck := (List.all_eq_true.1 (Bool.and_eq_true_iff.1 hc1).2)
  intro m
  induction m with
  | zero =>
    intro k listed U a w' hcount hs hK hkl htail hn hU hUl h
    have hall : ∀ j, j < l.length → listed.getD j true = true := by
      intro j hj
      have hm : listed[j]'(by omega) ∈ listed.toList := by simp
      cases hb : listed[j]'(by omega) with
      | true => simp [Array.getD, show j < listed.size by omega, hb]
      | false =>
        rw [hb] at hm
        exact absurd hcount (Nat.pos_iff_ne_zero.1 (List.count_pos_iff.2 hm))
    have hU0 : U = [] := by
      rw [List.eq_nil_iff_forall_not_mem]
      intro j hj
      have h1 := (hU j (hUl j hj).1).2 hj
      rw [hall j (by have := (hUl j hj).1; omega)] at h1
      cases h1
    have hke : k = l.length := by
      rcases Nat.lt_or_ge k l.length with hlt | hge
      · have h1 := htail k hK hlt
        rw [hall k hlt] at h1
        simp at h1
      · omega
    subst hU0 hke
    refine ⟨?_, by simpa [pend, wpList] using h⟩
    rw [List.eq_nil_iff_forall_not_mem]
    intro j hj
    obtain ⟨h0, o, ho, _⟩ := mem_ready.1 hj
    rw [List.getElem?_toArray] at ho
    rw [hall j (List.getElem?_eq_some_iff.1 ho).1] at h0
    cases h0
  | succ m ih =>
    intro k listed U a w' hcount hs hK hkl htail hn hU hUl h
    have hex : ∃ i, i < l.length ∧ listed.getD i true = false := by
      obtain ⟨i, hi, hb⟩ := List.mem_iff_getElem.1 (List.count_pos_iff.1 (by rw [hcount]; omega : 0 < listed.toList.count false))
      have hi' : i < listed.size := by simpa using hi
      exact ⟨i, by omega, by simpa [Array.getD, hi'] using hb⟩
    obtain ⟨i0, hi0, hmin⟩ := exists_least hex
    have hready : i0 ∈ Region.ready .any l.toArray listed := by
      refine mem_ready.2 ⟨hi0.2, l[i0]'hi0.1, by rw [List.getElem?_toArray, List.getElem?_eq_getElem hi0.1], fun e he hb => ?_⟩
      have hx := hck i0 (List.mem_range.2 hi0.1)
      rw [List.getElem?_eq_getElem hi0.1] at hx
      simp only [Bool.and_eq_true] at hx
      have he2 := List.all_eq_true.1 hx.1.1 e (by simpa using he)
      rw [hb] at he2
      simp at he2
      rw [← getD_true_false (by omega)]
      cases hb2 : listed.getD e.on true with
      | true => rfl
      | false => exact absurd (hmin e.on ⟨by omega, hb2⟩) (by omega)
    refine ⟨fun h0 => (by rw [h0] at hready; cases hready), fun i hi => ?_⟩
    obtain ⟨h0, o, ho, hall⟩ := mem_ready.1 hi
    rw [List.getElem?_toArray] at ho
    have hil : i < l.length := (List.getElem?_eq_some_iff.1 ho).1
    have hx := hck i (List.mem_range.2 hil)
    rw [ho] at hx
    simp only [Bool.and_eq_true] at hx
    have hsel : isSelect o.op = false := by simpa using hx.1.2
    have hcnt : (listed.setIfInBounds i true).toList.count false = m := by
      have hil' : i < listed.size := by omega
      have hfalse : listed.toList[i]? = some false := by
        rw [Array.getElem?_toList, Array.getElem?_eq_getElem hil']
        simp [Array.getD, hil'] at h0
        rw [h0]
      rw [Array.toList_setIfInBounds]
      have := count_set_true (l := listed.toList) (i := i) hfalse
      omega
    by_cases hiK : i < K
    · -- a late one
      have hiU := (hU i hiK).1 h0
      obtain ⟨_, hil8, o', ho', hy⟩ := hUl i hiU
      rw [ho] at ho'
      cases ho'
      obtain ⟨_, _, hap⟩ := late_spec hlate hiK ho hil8
      refine Yields.wpOp (by rw [List.getElem?_toArray]; exact ho) hy ?_
      have he : a.put o.dst (f i) = a.put ((l[i]?).bind (·.dst)) (f i) := by rw [ho]; rfl
      refine ih k _ (U.erase i) _ w' hcnt (by simpa using hs) hK hkl (fun j h1 h2 => by rw [getD_set_ne true (by omega)]; exact htail j h1 h2) (hn.erase i) (fun j hj => ?_) (fun j hj => ?_) ?_
      · by_cases e : i = j
        · subst e
          simp [hs, hil, hn.not_mem_erase]
        · rw [getD_set_ne true e, hU j hj]
          exact (List.mem_erase_of_ne (Ne.symm e)).symm
      · have hjU := List.mem_of_mem_erase hj
        obtain ⟨h1, h2, oj, h3, h4⟩ := hUl j hjU
        have hne : i ≠ j := fun e => by subst e; exact (hn.not_mem_erase) hj
        obtain ⟨_, _, hapj⟩ := late_spec hlate h1 h3 h2
        have hxj := hck j (List.mem_range.2 (by omega))
        rw [h3] at hxj
        simp only [Bool.and_eq_true] at hxj
        exact ⟨h1, h2, oj, h3, (yields_put (by simpa using hxj.1.2) (hapj i o ho hne (.inl ⟨hiK, hil8⟩))).2 h4⟩
      · rw [he, pend_erase U a hiU hn (fun j hj hne d hd => ?_)]
        · exact h
        · obtain ⟨h1, h2, oj, h3, h4⟩ := hUl j hj
          have h5 := (Oper.apart_spec (hap j oj h3 hne (.inl ⟨h1, h2⟩))).2.1 d (by rw [ho] at hd; exact hd)
          rw [h3]
          exact h5
    · -- the next of the tail
      have hik : i = k := by
        rw [htail i (by omega) hil] at h0
        have h0' : k ≤ i := by simpa using h0
        rcases Nat.eq_or_lt_of_le h0' with e | hlt
        · exact e.symm
        · exfalso
          have h3 := hx.2
          rw [if_neg hiK] at h3
          have h4 := List.all_eq_true.1 h3 k (List.mem_range.2 hlt)
          simp only [show ¬ k < K by omega, decide_false, Bool.or_false] at h4
          obtain ⟨e, he, he2⟩ := List.any_eq_true.1 h4
          simp only [Bool.and_eq_true, beq_iff_eq] at he2
          have h5 := hall e (by simpa using he) he2.1
          rw [he2.2, ← getD_true_false (by omega), htail k hK (by omega)] at h5
          simp at h5
      subst hik
      have hdrop : l.drop i = o :: l.drop (i + 1) := by
        rw [List.drop_eq_getElem_cons hil]
        rw [List.getElem?_eq_getElem hil] at ho
        cases ho
        rfl
      rw [hdrop] at h
      have hk2 : wpOp P l.toArray Q i (wpList P l.toArray Q (l.drop (i + 1))) (pend l f U a) w' := by
        unfold wpOp
        rw [List.getElem?_toArray, ho]
        exact h
      have hne : ∀ j ∈ U, j ≠ i := fun j hj e => by have := (hUl j hj).1; omega
      have hk3 := wpOp_pend hQ ho hsel U _ a hn (fun j hj => by
        obtain ⟨h1, h2, oj, h3, h4⟩ := hUl j hj
        obtain ⟨_, _, hapj⟩ := late_spec hlate h1 h3 h2
        have hxj := hck j (List.mem_range.2 (by omega))
        rw [h3] at hxj
        simp only [Bool.and_eq_true] at hxj
        refine ⟨oj, h3, by simpa using hxj.1.2, hapj i o ho (Ne.symm (hne j hj)) (.inr ⟨by omega, ?_⟩), h4, fun j' hj' hne' => ?_⟩
        · cases hE : hasEdge o j with
          | false => rfl
          | true =>
            obtain ⟨e, he, he2⟩ := List.any_eq_true.1 hE
            simp only [Bool.and_eq_true, beq_iff_eq] at he2
            have h5 := hall e (by simpa using he) he2.1
            rw [he2.2, ← getD_true_false (by omega), (hU j h1).2 hj] at h5
            cases h5
        · obtain ⟨h1', h2', oj', h3', _⟩ := hUl j' hj'
          exact ⟨oj', h3', hapj j' oj' h3' hne' (.inl ⟨h1', h2'⟩)⟩) hk2
      refine wpOp_mono (fun a' w'' hh => ?_) hk3
      refine ih (i + 1) _ U a' w'' hcnt (by simpa using hs) (by omega) (by omega) (fun j h1 h2 => ?_) hn (fun j hj => ?_) (fun j hj => ?_) hh.2
      · by_cases e : i = j
        · subst e
          simp [hs, hil]
        · rw [getD_set_ne true e, htail j h1 h2]
          have : (j < i + 1) ↔ (j < i) := by omega
          simp [this]
      · rw [getD_set_ne true (by omega)]
        exact hU j hj
      · obtain ⟨h1, h2, oj, h3, _⟩ := hUl j hj
        exact ⟨h1, h2, oj, h3, hh.1 j hj oj h3⟩
theorem pend_mkA {f : Nat → Value} : ∀ (U : List Nat) (L' : List (Nat × Value)), pend l f U (mkA n L') = mkA n ((U.filterMap fun i => ((l[i]?).bind (·.dst)).map fun d => (d, f i)) ++ L')
  | [], _ => rfl
  | i :: r, L' => by
    show (pend l f r (mkA n L')).put _ _ = _
    rw [pend_mkA r L', List.filterMap_cons]
    cases hd : (l[i]?).bind (·.dst) with
    | none => rfl
    | some d =>
      rw [put_mkA]
      rfl
theorem look_pend {f : Nat → Value} {L' : List (Nat × Value)} {t : Nat} : ∀ (U : List Nat), (∀ i ∈ U, (l[i]?).bind (·.dst) ≠ some t) → look ((U.filterMap fun i => ((l[i]?).bind (·.dst)).map fun d => (d, f i)) ++ L') t = look L' t
  | [], _ => rfl
  | i :: r, h => by
    rw [List.filterMap_cons]
    have h1 := h i (List.mem_cons_self ..)
    cases hd : (l[i]?).bind (·.dst) with
    | none => exact look_pend r (fun j hj => h j (List.mem_cons_of_mem _ hj))
    | some d =>
      simp only [Option.map_some, List.cons_append]
      rw [look_cons, if_neg (fun e => h1 (by rw [hd, e]))]
      exact look_pend r (fun j hj => h j (List.mem_cons_of_mem _ hj))
theorem look_pend_at {f : Nat → Value} {L' : List (Nat × Value)} {i d : Nat} : ∀ (U : List Nat), i ∈ U → (l[i]?).bind (·.dst) = some d → (∀ j ∈ U, j ≠ i → (l[j]?).bind (·.dst) ≠ some d) → look ((U.filterMap fun i => ((l[i]?).bind (·.dst)).map fun d => (d, f i)) ++ L') d = f i
  | [], h, _, _ => by cases h
  | j :: r, h, hd, hne => by
    rw [List.filterMap_cons]
    by_cases e : j = i
    · subst e
      rw [hd]
      simp only [Option.map_some, List.cons_append]
      rw [look_cons, if_pos rfl]
    · have h1 := hne j (List.mem_cons_self ..) e
      have ih := look_pend_at (f := f) (L' := L') r ((List.mem_cons.1 h).resolve_left (fun h => e h.symm)) hd (fun k hk => hne k (List.mem_cons_of_mem _ hk))
      cases hdj : (l[j]?).bind (·.dst) with
      | none => exact ih
      | some d' =>
        simp only [Option.map_some, List.cons_append]
        rw [look_cons, if_neg (fun e => h1 (by rw [hdj, e]))]
        exact ih
theorem late_fin (hQ : PQ Q) (hc : monoL l K = true) (hop : OpsOK P l.toArray n L w R (preOf l K) (l.take K))
    (hend : ∀ w', From w w' → AllF R w' (preOf l K) fun M => St P l.toArray Q (l.drop K) n (M ++ L) w') (m : Nat) (listed : Array Bool) (L' : List (Nat × Value)) (w' : World) (hcount : listed.toList.count false = m) (hs : listed.size = l.length)
    (htail : ∀ j, K ≤ j → j < l.length → listed.getD j true = false) (hF : From w w')
    (hfr : ∀ t, (∀ i o, i < K → l[i]? = some o → listed.getD i true = true → o.dst ≠ some t) → look L' t = look L t)
    (hR : ∀ i o d, i < K → l[i]? = some o → listed.getD i true = true → o.dst = some d → R d (look L' d) w') (hpre : ∀ i, i < K → listed.getD i true = false → isLate l K i = true) : wpAny P .any l.toArray Q m listed (mkA n L') w' := by
  have hc1 := (Bool.and_eq_true_iff.1 hc).1
  have hlate := (Bool.and_eq_true_iff.1 hc).2
  have hKl : K ≤ l.length := of_decide_eq_true (Bool.and_eq_true_iff.1 hc1).1
  have hck := (List.all_eq_true.1 (Bool.and_eq_true_iff.1 hc1).2)
  -- what is known of an operation of the head
  have hhead : ∀ i, i < K → ∃ o d, l[i]? = some o ∧ o.dst = some d ∧ isSelect o.op = false ∧ (∀ j oj, j < K → j ≠ i → l[j]? = some oj → oj.dst ≠ some d) ∧
      (∀ j oj t, j < K → l[j]? = some oj → oj.dst = some t → (o.looksAt l.toArray).elem t = true → j < i ∧ hasEdge o j = true) := by
    intro i hi
    have hil : i < l.length := by omega
    have hx := hck i (List.mem_range.2 hil)
    rw [List.getElem?_eq_getElem hil] at hx
    simp only [Bool.and_eq_true] at hx
    have h3 := hx.2
    rw [if_pos hi] at h3
    simp only [Bool.and_eq_true] at h3
    obtain ⟨h3a, h3b⟩ := h3
    cases hod : (l[i]).dst with
    | none => rw [hod] at h3a; cases h3a
    | some d =>
      rw [hod] at h3a
      simp only [Bool.and_eq_true] at h3a
      refine ⟨l[i], d, List.getElem?_eq_getElem hil, hod, by simpa using hx.1.2, fun j oj hj hne hoj e => ?_, fun j oj t hj hoj hd ht => ?_⟩
      · have h5 := List.all_eq_true.1 h3a.1 j (List.mem_range.2 hj)
        rw [hoj] at h5
        simp [hne, e] at h5
      · have h5 := List.all_eq_true.1 h3b j (List.mem_range.2 hj)
        rw [hoj] at h5
        have ht' : t ∈ (l[i]).looksAt l.toArray := by simpa using ht
        simpa [hd, ht'] using h5
  -- the values of those that are still to come
  have hval : ∀ i, i < K → listed.getD i true = false → ∃ v, ∀ o d, l[i]? = some o → o.dst = some d → Yields P l.toArray o v (mkA n L') ∧ R d v w' := by
    intro i hi hf
    have hil8 := hpre i hi hf
    obtain ⟨o, d, ho, hd, hsel, _, hlk⟩ := hhead i hi
    obtain ⟨hk, hg, hap⟩ := late_spec hlate hi ho hil8
    have hfact : ∀ t ∈ slotsOf l.toArray (preOf l K) o, R t (look L' t) w' := by
      intro t ht
      obtain ⟨ht1, ht2⟩ := List.mem_filter.1 ht
      obtain ⟨oj, hoj, hdj⟩ := List.mem_filterMap.1 ht1
      obtain ⟨j, hj⟩ := List.mem_iff_getElem?.1 hoj
      rw [List.getElem?_take] at hj
      split at hj
      · rename_i hjK
        have h5 := hlk j oj t hjK hj hdj ht2
        refine hR j oj t hjK hj ?_ hdj
        cases hb : listed.getD j true with
        | true => rfl
        | false =>
          have h6 := hpre j hjK hb
          have h7 := (Oper.apart_spec (hap j oj hj (by omega) (.inl ⟨hjK, h6⟩))).2.2 t hdj
          exact absurd (by simpa using ht2) h7
      · cases hj
    have hlooks : ∀ t, (o.looksAt l.toArray).elem t = true → look ((slotsOf l.toArray (preOf l K) o).map (fun d => (d, look L' d)) ++ L) t = look L' t := by
      intro t ht
      rw [look_map]
      split
      · rfl
      · rename_i hne
        refine (hfr t fun j oj hj hoj hlj hd => hne ?_).symm
        simp only [List.elem_eq_mem, decide_eq_true_eq]
        refine List.mem_filter.2 ⟨List.mem_filterMap.2 ⟨oj, List.mem_iff_getElem?.2 ⟨j, by rw [List.getElem?_take, if_pos hj]; exact hoj⟩, hd⟩, ht⟩
    have hok := allF_at (look L') _ hfact (opsOK_at hop i o (by rw [List.getElem?_take, if_pos hi]; exact ho) w' hF)
    obtain ⟨hE, hW⟩ := looksAt_agree (n := n) (ops := l.toArray) (o := o) hsel hlooks
    rw [hd] at hok
    simp only [Option.getD_some] at hok
    have hyl : ∃ v, Yields P l.toArray o v (mkA n L') ∧ R d v w' := by
      unfold OpOK at hok
      rw [hE, hW] at hok
      rcases hok with ⟨hw, ⟨v, w'', hr, hF', hRv⟩ | ⟨f, args, hr, hcall⟩⟩ | ⟨hw, hRv⟩
      · obtain ⟨rfl, hall⟩ := late_run hk hr
        refine ⟨v, .inl ⟨hw, fun w2 => ?_⟩, hRv⟩
        rw [eval_mkA]
        exact hall w2
      · exfalso
        obtain ⟨dst, op, ty, pos, after, guard⟩ := o
        cases op <;> simp only [lateK, Bool.false_eq_true] at hk <;> simp only [execOp, Sem.run_pure, Sem.run_bind, Result.ok.injEq] at hr
        · cases hr.1
        · cases hr.1
        · rename_i x i'
          cases hx : ev n L' x <;> simp only [hx, Instr.extract] at hr <;> (try (simp at hr; done))
          rename_i vs
          cases hv : vs[i']? <;> simp [hv] at hr
      · exact ⟨undef, .inr ⟨hw, rfl⟩, hRv⟩
    obtain ⟨v, hv1, hv2⟩ := hyl
    refine ⟨v, fun o' d' ho' hd' => ?_⟩
    rw [ho] at ho'
    cases ho'
    rw [hd] at hd'
    cases hd'
    exact ⟨hv1, hv2⟩
  obtain ⟨f, hf⟩ : ∃ f : Nat → Value, ∀ i, i < K → listed.getD i true = false → ∀ o d, l[i]? = some o → o.dst = some d → Yields P l.toArray o (f i) (mkA n L') ∧ R d (f i) w' := by
    refine ⟨fun i => open Classical in if h : ∃ v, ∀ o d, l[i]? = some o → o.dst = some d → Yields P l.toArray o v (mkA n L') ∧ R d v w' then h.choose else undef, fun i hi hl => ?_⟩
    have h := hval i hi hl
    simp only [dif_pos h]
    exact h.choose_spec
  have hUm : ∀ i, i ∈ (List.range K).filter (fun i => !listed.getD i true) ↔ i < K ∧ listed.getD i true = false := fun i => by
    rw [List.mem_filter, List.mem_range]
    simp
  obtain ⟨U, hU, hUn⟩ : ∃ U : List Nat, (∀ i, i ∈ U ↔ i < K ∧ listed.getD i true = false) ∧ U.Nodup := ⟨_, hUm, List.nodup_range.sublist (List.filter_sublist ..)⟩
  have hbind : ∀ {i : Nat} {o : Oper}, l[i]? = some o → (l[i]?).bind (·.dst) = o.dst := fun h => by rw [h]; rfl
  -- the frame with all of them
  have hRall : ∀ d ∈ preOf l K, R d (look ((U.filterMap fun i => ((l[i]?).bind (·.dst)).map fun d => (d, f i)) ++ L') d) w' := by
    intro d hd
    obtain ⟨o, ho, hod⟩ := List.mem_filterMap.1 hd
    obtain ⟨i, hi⟩ := List.mem_iff_getElem?.1 ho
    rw [List.getElem?_take] at hi
    split at hi
    · rename_i hiK
      obtain ⟨o', d', ho', hd', _, hdist, _⟩ := hhead i hiK
      rw [hi] at ho'
      cases ho'
      rw [hod] at hd'
      cases hd'
      have hne : ∀ j ∈ U, j ≠ i → (l[j]?).bind (·.dst) ≠ some d := fun j hj hji => by
        have hjK := ((hU j).1 hj).1
        obtain ⟨oj, dj, hoj, _⟩ := hhead j hjK
        rw [hbind hoj]
        exact hdist j oj hjK hji hoj
      cases hb : listed.getD i true with
      | true =>
        rw [look_pend U fun j hj => hne j hj (fun e => by subst e; have := ((hU j).1 hj).2; rw [hb] at this; cases this)]
        exact hR i o d hiK hi hb hod
      | false =>
        rw [look_pend_at U ((hU i).2 ⟨hiK, hb⟩) ((hbind hi).trans hod) hne]
        exact (hf i hiK hb o d hi hod).2
    · cases hi
  have he := allF_at _ (preOf l K) hRall (hend w' hF)
  have hL : mkA n ((preOf l K).map (fun d => (d, look ((U.filterMap fun i => ((l[i]?).bind (·.dst)).map fun d => (d, f i)) ++ L') d)) ++ L) = pend l f U (mkA n L') := by
    rw [pend_mkA]
    refine mkA_congr fun t _ => ?_
    rw [look_map]
    split
    · rfl
    · rename_i hne
      have hnd : ∀ i, i < K → ∀ o, l[i]? = some o → o.dst ≠ some t := fun i hi o ho hod => hne (by
        simp only [List.elem_eq_mem, decide_eq_true_eq]
        exact List.mem_filterMap.2 ⟨o, List.mem_iff_getElem?.2 ⟨i, by rw [List.getElem?_take, if_pos hi]; exact ho⟩, hod⟩)
      rw [look_pend U fun j hj => by
        have hjK := ((hU j).1 hj).1
        obtain ⟨oj, dj, hoj, _⟩ := hhead j hjK
        rw [hbind hoj]
        exact hnd j hjK oj hoj]
      exact (hfr t fun i o hi ho _ hod => hnd i hi o ho hod).symm
  replace he := he.out
  rw [hL] at he
  refine tail_late hQ hc m K listed U _ w' hcount hs (Nat.le_refl _) hKl (fun j h1 h2 => by rw [htail j h1 h2]; simp [h1]) hUn (fun j hj => ⟨fun h => (hU j).2 ⟨hj, h⟩, fun h => ((hU j).1 h).2⟩) (fun j hj => ?_) he
  obtain ⟨h1, h2⟩ := (hU j).1 hj
  obtain ⟨oj, dj, hoj, hdj, _⟩ := hhead j h1
  exact ⟨h1, hpre j h1 h2, oj, hoj, (hf j h1 h2 oj dj hoj hdj).1⟩
theorem mono_late (hQ : PQ Q) (hc : monoL l K = true) (hmono : ∀ t v w1 w2, From w1 w2 → R t v w1 → R t v w2) (hop : OpsOK P l.toArray n L w R (preOf l K) (l.take K))
    (hend : ∀ w', From w w' → AllF R w' (preOf l K) fun M => St P l.toArray Q (l.drop K) n (M ++ L) w') :
    ∀ (m : Nat) (listed : Array Bool) (L' : List (Nat × Value)) (w' : World), listed.toList.count false = m → listed.size = l.length → (∀ j, K ≤ j → j < l.length → listed.getD j true = false) → From w w' →
      (∀ t, (∀ i o, i < K → l[i]? = some o → listed.getD i true = true → o.dst ≠ some t) → look L' t = look L t) →
      (∀ i o d, i < K → l[i]? = some o → listed.getD i true = true → o.dst = some d → R d (look L' d) w') → wpAny P .any l.toArray Q m listed (mkA n L') w' := by
  have hc1 := (Bool.and_eq_true_iff.1 hc).1
  have hlate := (Bool.and_eq_true_iff.1 hc).2
  have hKl : K ≤ l.length := of_decide_eq_true (Bool.and_eq_true_iff.1 hc1).1
  have hck := (List.all_eq_true.1 (Bool.and_eq_true_iff.1 hc1).2)
  intro m
  induction m with
  | zero =>
    intro listed L' w' hcount hs htail hF hfr hR
    exact late_fin hQ hc hop hend 0 listed L' w' hcount hs htail hF hfr hR (fun i hi h => by
      have hm : listed[i]'(by omega) ∈ listed.toList := by simp
      have hb : listed[i]'(by omega) = false := by simpa [Array.getD, show i < listed.size by omega] using h
      rw [hb] at hm
      exact absurd hcount (Nat.pos_iff_ne_zero.1 (List.count_pos_iff.2 hm)))
  | succ m ih =>
    intro listed L' w' hcount hs htail hF hfr hR
    by_cases hpre : ∀ i, i < K → listed.getD i true = false → isLate l K i = true
    · exact late_fin hQ hc hop hend (m + 1) listed L' w' hcount hs htail hF hfr hR hpre
    · -- some operation of the head is still to come
      have hn0 : ∃ i, i < K ∧ listed.getD i true = false ∧ isLate l K i = false := by
        refine Classical.byContradiction fun hno => hpre fun i hi hf => ?_
        cases hb : isLate l K i with
        | true => rfl
        | false => exact absurd ⟨i, hi, hf, hb⟩ hno
      obtain ⟨n0, hn0⟩ := hn0
      obtain ⟨i0, hi0, hmin⟩ := exists_least (p := fun i => i < K ∧ listed.getD i true = false) ⟨n0, hn0.1, hn0.2.1⟩
      have hi0l : i0 < l.length := by omega
      have hready : i0 ∈ Region.ready .any l.toArray listed := by
        refine mem_ready.2 ⟨hi0.2, l[i0], by rw [List.getElem?_toArray, List.getElem?_eq_getElem hi0l], fun e he hb => ?_⟩
        have hx := hck i0 (List.mem_range.2 hi0l)
        rw [List.getElem?_eq_getElem hi0l] at hx
        simp only [Bool.and_eq_true] at hx
        have he2 := List.all_eq_true.1 hx.1.1 e (by simpa using he)
        rw [hb] at he2
        simp at he2
        rw [← getD_true_false (by omega)]
        cases hb2 : listed.getD e.on true with
        | true => rfl
        | false => exact absurd (hmin e.on ⟨by omega, hb2⟩) (by omega)
      refine ⟨fun h0 => (by rw [h0] at hready; cases hready), fun i hi => ?_⟩
      obtain ⟨h0, o, ho, hall⟩ := mem_ready.1 hi
      rw [List.getElem?_toArray] at ho
      have hil : i < l.length := (List.getElem?_eq_some_iff.1 ho).1
      have hx := hck i (List.mem_range.2 hil)
      rw [ho] at hx
      simp only [Bool.and_eq_true] at hx
      have hiK : i < K := by
        rcases Nat.lt_or_ge i K with h | h
        · exact h
        · exfalso
          obtain ⟨e, he, he2⟩ := List.any_eq_true.1 (nonlate_edge hn0.2.2 ho h)
          simp only [Bool.and_eq_true, beq_iff_eq] at he2
          have h5 := hall e (by simpa using he) he2.1
          rw [he2.2, ← getD_true_false (by omega), hn0.2.1] at h5
          cases h5
      have h3 := hx.2
      rw [if_pos hiK] at h3
      simp only [Bool.and_eq_true] at h3
      obtain ⟨h3a, h3b⟩ := h3
      cases hod : o.dst with
      | none => rw [hod] at h3a; cases h3a
      | some d =>
        rw [hod] at h3a
        simp only [Bool.and_eq_true] at h3a
        have hlooks : ∀ t, (o.looksAt l.toArray).elem t = true → look ((slotsOf l.toArray (preOf l K) o).map (fun d => (d, look L' d)) ++ L) t = look L' t := by
          intro t ht
          rw [look_map]
          split
          · rfl
          · rename_i hne
            refine (hfr t fun j oj hj hoj hlj hd => hne ?_).symm
            simp only [List.elem_eq_mem, decide_eq_true_eq]
            refine List.mem_filter.2 ⟨List.mem_filterMap.2 ⟨oj, List.mem_iff_getElem?.2 ⟨j, by rw [List.getElem?_take, if_pos hj]; exact hoj⟩, hd⟩, ht⟩
        have hfact : ∀ t ∈ slotsOf l.toArray (preOf l K) o, R t (look L' t) w' := by
          intro t ht
          obtain ⟨ht1, ht2⟩ := List.mem_filter.1 ht
          obtain ⟨oj, hoj, hd⟩ := List.mem_filterMap.1 ht1
          obtain ⟨j, hj⟩ := List.mem_iff_getElem?.1 hoj
          rw [List.getElem?_take] at hj
          split at hj
          · rename_i hjK
            have h5 := List.all_eq_true.1 h3b j (List.mem_range.2 hjK)
            rw [hj] at h5
            simp only [Option.bind_some, hd, ht2, Bool.not_true, Bool.false_or, Bool.and_eq_true, decide_eq_true_eq] at h5
            obtain ⟨e, he, he2⟩ := List.any_eq_true.1 h5.2
            simp only [Bool.and_eq_true, beq_iff_eq] at he2
            have h6 := hall e (by simpa using he) he2.1
            rw [he2.2] at h6
            exact hR j oj t hjK hj (by rw [getD_true_false (by omega)]; exact h6) hd
          · cases hj
        have hok := allF_at (look L') _ hfact (opsOK_at hop i o (by rw [List.getElem?_take, if_pos hiK]; exact ho) w' hF)
        have hsel : isSelect o.op = false := by simpa using hx.1.2
        obtain ⟨hE, hW⟩ := looksAt_agree (n := n) (ops := l.toArray) (o := o) hsel hlooks
        rw [hod] at hok
        simp only [Option.getD_some] at hok
        have next : ∀ v w'', From w' w'' → R d v w'' → wpAny P .any l.toArray Q m (listed.setIfInBounds i true) ((mkA n L').put (some d) v) w'' := by
          intro v w'' hF' hRv
          rw [put_mkA]
          have hne : ∀ j oj d', j < K → l[j]? = some oj → j ≠ i → oj.dst = some d' → d' ≠ d := by
            intro j oj d' hj hoj hji hd e
            have h5 := List.all_eq_true.1 h3a.1 j (List.mem_range.2 hj)
            rw [hoj] at h5
            simp [hji, hd, e] at h5
          refine ih _ _ w'' ?_ (by simpa using hs) (fun j hj1 hj2 => ?_) (hF.next hF') (fun t ht => ?_) (fun j oj d' hj hoj hlj hd => ?_)
          · have hil' : i < listed.size := by omega
            have hfalse : listed.toList[i]? = some false := by
              rw [Array.getElem?_toList, Array.getElem?_eq_getElem hil']
              simp [Array.getD, hil'] at h0
              rw [h0]
            rw [Array.toList_setIfInBounds]
            have := count_set_true (l := listed.toList) (i := i) hfalse
            omega
          · rw [getD_set_ne true (by omega)]
            exact htail j hj1 hj2
          · have htd : t ≠ d := fun e => ht i o hiK ho (by simp [show i < listed.size by omega]) (by rw [hod, e])
            rw [look_cons, if_neg htd]
            refine hfr t fun j oj hj hoj hlj => ht j oj hj hoj ?_
            by_cases e : i = j
            · subst e; rw [h0] at hlj; cases hlj
            · rw [getD_set_ne true e]; exact hlj
          · rw [look_cons]
            by_cases e : j = i
            · subst e
              rw [ho] at hoj
              cases hoj
              rw [hod] at hd
              cases hd
              rw [if_pos rfl]
              exact hRv
            · rw [if_neg (hne j oj d' hj hoj e hd)]
              rw [getD_set_ne true (Ne.symm e)] at hlj
              exact hmono _ _ _ _ hF' (hR j oj d' hj hoj hlj hd)
        unfold wpOp
        rw [List.getElem?_toArray, ho]
        show if Region.wanted o (yielded l.toArray (mkT n.n L')) = true then _ else _
        unfold OpOK at hok
        rw [hE, hW] at hok
        rcases hok with ⟨hw, ⟨v, w'', hr, hF', hRv⟩ | ⟨f, args, hr, hcall⟩⟩ | ⟨hw, hRv⟩
        · rw [if_pos hw]
          refine .inl ?_
          unfold Oper.wp
          rw [eval_mkA, hr, Oper.upon_value, hod]
          exact next v w'' hF' hRv
        · rw [if_pos hw]
          refine .inl ?_
          unfold Oper.wp
          rw [eval_mkA, hr, Oper.upon_enter, hod]
          refine Calls.mono hcall fun e w'' ⟨v, he, hF', hRv⟩ => ?_
          subst he
          exact next v w'' hF' hRv
        · rw [if_neg (by rw [hw]; simp), hod]
          exact next undef w' From.rfl_ hRv

/-- a region that draws its order -/
theorem cd_drawnL {id : Nat} (K : Nat) (RL : List (Nat × (Value → World → Prop))) (hQ : PQ Q) (hm : P.follows .mixedOrders = true) (hc : monoL l K = true) (hmono : MonoR RL)
    (hop : OpsOK P l.toArray n L w (lookR RL) (preOf l K) (l.take K)) (hend : ∀ w', From w w' → AllF (lookR RL) w' (preOf l K) fun M => St P l.toArray Q (l.drop K) n (M ++ L) w') : Cd P (.region id l.toArray true) Q n L w := by
  refine ⟨wp_region_any hm ?_⟩
  have hKl : K ≤ l.length := of_decide_eq_true (Bool.and_eq_true_iff.1 (Bool.and_eq_true_iff.1 hc).1).1
  have := mono_late (Q := Q) (w := w) hQ hc (lookR_mono hmono) hop hend l.length (Array.replicate l.length false) L { w with drawn := w.drawn + 1 } (by simp) (by simp)
    (fun j _ hj => by simp [Array.getD, hj]) (From.rfl_.d1) (fun _ _ => rfl) (fun i o d hi _ hl => by
      have : i < l.length := by omega
      simp [Array.getD, this] at hl)
  simpa using this
end late
end Go.Proofs.Ytpafbgdbjambgaa
