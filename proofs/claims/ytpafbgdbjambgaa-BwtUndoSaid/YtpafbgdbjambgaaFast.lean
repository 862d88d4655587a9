/- A WALK BY LAWS THAT ARE NAMED ONE BY ONE: the frame is a list of slots and values, every step is one law, nothing is searched for. -/
import Derived.WalkKit
import Derived.WalkSpells
import Derived.OwnWalk
import Derived.Lib.Hide
import Derived.Still
import Derived.Deep.Draws
import Derived.Deep.LoopGhost
namespace Go.Proofs.Ytpafbgdbjambgaa
open Go.RowKit

/-! ### the frame -/
def look : List (Nat × Value) → Nat → Value
  | [], _ => undef
  | (k, v) :: r, i => bif Nat.beq i k then v else look r i
theorem look_cons (k : Nat) (v : Value) (r : List (Nat × Value)) (i : Nat) : look ((k, v) :: r) i = if i = k then v else look r i := by
  show cond (Nat.beq i k) v (look r i) = _
  by_cases h : i = k
  · subst h; simp
  · have : Nat.beq i k = false := by rw [← Bool.not_eq_true, Nat.beq_eq]; exact h
    rw [this, if_neg h]; rfl
def mkT (n : Nat) (L : List (Nat × Value)) : Array Value := Array.ofFn (n := n) fun i => look L i
/-- a frame: how many slots, and what waits for its end (behind a loop over an iterator: the block of the rounds' own) -/
structure Fr where
  n : Nat
  ds : List Deferred
instance (k : Nat) : OfNat Fr k := ⟨⟨k, []⟩⟩
def mkA (n : Fr) (L : List (Nat × Value)) : Act := { tmps := mkT n.n L, defers := n.ds }
theorem mkT_get (n : Nat) (L : List (Nat × Value)) (t : Nat) : (mkT n L)[t]? = if t < n then some (look L t) else none := by
  unfold mkT
  rw [Array.getElem?_ofFn]
  rfl
def ev (n : Fr) (L : List (Nat × Value)) : Operand → Value
  | .tmp t => bif Nat.blt t n.n then look L t else undef
  | .const v => v
  | .global g => .pointer (some ⟨g, 0, none⟩)
  | .func f => .func (.func f) #[] #[]
theorem blt_iff (t n : Nat) : Nat.blt t n = decide (t < n) := by
  by_cases h : t < n
  · rw [decide_eq_true h]; exact Nat.ble_eq_true_of_le h
  · rw [decide_eq_false h, ← Bool.not_eq_true]; intro h2; exact h (Nat.le_of_ble_eq_true h2)
theorem getD_mkT (n : Nat) (L : List (Nat × Value)) (t : Nat) : (mkT n L).getD t undef = bif Nat.blt t n then look L t else undef := by
  rw [Array.getD_eq_getD_getElem?, mkT_get, blt_iff]
  by_cases h : t < n
  · simp [h]
  · simp [h]
theorem eval_mkA (n : Fr) (L : List (Nat × Value)) : (mkA n L).eval = ev n L := by
  funext x
  cases x with
  | tmp t => exact getD_mkT n.n L t
  | _ => rfl
theorem mkT_congr {n : Nat} {L L' : List (Nat × Value)} (h : ∀ t, t < n → look L t = look L' t) : mkT n L = mkT n L' := by
  unfold mkT
  congr 1
  funext i
  exact h i i.2
theorem mkA_congr {n : Fr} {L L' : List (Nat × Value)} (h : ∀ t, t < n.n → look L t = look L' t) : mkA n L = mkA n L' := by
  unfold mkA
  rw [mkT_congr h]
theorem put_mkA (n : Fr) (L : List (Nat × Value)) (d : Nat) (v : Value) : (mkA n L).put (some d) v = mkA n ((d, v) :: L) := by
  show (⟨(mkT n.n L).setIfInBounds d v, n.ds⟩ : Act) = ⟨mkT n.n ((d, v) :: L), n.ds⟩
  obtain ⟨n, ds⟩ := n
  show (⟨(mkT n L).setIfInBounds d v, ds⟩ : Act) = ⟨mkT n ((d, v) :: L), ds⟩
  congr 1
  apply Array.ext_getElem?
  intro i
  rw [Array.getElem?_setIfInBounds, mkT_get, mkT_get, look_cons]
  by_cases h : i < n
  · by_cases hd : d = i
    · subst hd
      have hs : (mkT n L).size = n := by simp [mkT]
      simp [h, hs]
    · have hd' : ¬ i = d := fun e => hd e.symm
      simp [hd, hd', h]
  · by_cases hd : d = i
    · subst hd
      have hs : (mkT n L).size = n := by simp [mkT]
      simp [h, hs]
    · simp [hd, h]
def putL : Option Nat → Value → List (Nat × Value) → List (Nat × Value)
  | some d, v, L => (d, v) :: L
  | none, _, L => L
theorem put_mkA' (n : Fr) (L : List (Nat × Value)) (d : Option Nat) (v : Value) : (mkA n L).put d v = mkA n (putL d v L) := by
  cases d with
  | none => rfl
  | some d => exact put_mkA n L d v
def argsL : Nat → List Value → List (Nat × Value)
  | _, [] => []
  | i, v :: r => (i, v) :: argsL (i + 1) r
theorem look_argsL (l : List Value) : ∀ (i t : Nat), look (argsL i l) t = if i ≤ t then (l[t - i]?).getD undef else undef := by
  induction l with
  | nil => intro i t; simp [argsL, look]
  | cons v r ih =>
    intro i t
    rw [argsL, look_cons, ih]
    by_cases h : t = i
    · subst h; simp
    · by_cases h2 : i ≤ t
      · have : t - i = (t - (i + 1)) + 1 := by omega
        rw [if_neg h, if_pos h2, if_pos (by omega), this, List.getElem?_cons_succ]
      · rw [if_neg h, if_neg h2, if_neg (by omega)]
theorem args_mkT (n : Nat) (l : List Value) (h : l.length ≤ n) : l.toArray ++ Array.replicate (n - l.toArray.size) undef = mkT n (argsL 0 l) := by
  apply Array.ext_getElem?
  intro i
  rw [mkT_get, look_argsL, Array.getElem?_append]
  simp only [List.size_toArray, List.getElem?_toArray, Nat.zero_le, if_true, Nat.sub_zero, Array.getElem?_replicate]
  by_cases h1 : i < l.length
  · rw [if_pos h1, if_pos (by omega), List.getElem?_eq_getElem h1]; rfl
  · rw [if_neg h1]
    by_cases h2 : i < n
    · rw [if_pos h2, if_pos (by omega), List.getElem?_eq_none (by omega)]; rfl
    · rw [if_neg h2, if_neg (by omega)]

theorem int_eq {k : IntKind} {a b : Int} (h : a = b) : Value.int k a = Value.int k b := by rw [h]
/-! ### what a test's Bool says -/
theorem bn_t {b : Bool} (h : (!b) = true) : b = false := by cases b <;> simp_all
theorem bn_f {b : Bool} (h : (!b) = false) : b = true := by cases b <;> simp_all
theorem be_t {α : Type} [BEq α] [LawfulBEq α] {a b : α} (h : (a == b) = true) : a = b := eq_of_beq h
theorem be_f {α : Type} [BEq α] [LawfulBEq α] {a b : α} (h : (a == b) = false) : ¬ a = b := ne_of_beq_false h
theorem bx_t {α : Type} [BEq α] [LawfulBEq α] {a b : α} (h : (a != b) = true) : ¬ a = b := by simpa using h
theorem bx_f {α : Type} [BEq α] [LawfulBEq α] {a b : α} (h : (a != b) = false) : a = b := by simpa using h
/-! ### the judgements -/
structure Cd (P : Program) (c : Code) (Q : Exit → Act → World → Prop) (n : Fr) (L : List (Nat × Value)) (w : World) : Prop where
  out : c.wp P Q (mkA n L) w
structure St (P : Program) (ops : Array Oper) (Q : Exit → Act → World → Prop) (rest : List Oper) (n : Fr) (L : List (Nat × Value)) (w : World) : Prop where
  out : wpList P ops Q rest (mkA n L) w
/-- what is asked of a function: it returns, so -/
def Rt (P : Program) (f : FuncId) (l : List Value) (w : World) (R : Value → World → Prop) : Prop := Calls P f l.toArray w fun e w' => ∃ v, e = .returned v ∧ R v w'
theorem Rt.mono {P : Program} {f : FuncId} {l : List Value} {w : World} {R R' : Value → World → Prop} (h : Rt P f l w R) (hr : ∀ v w', R v w' → R' v w') : Rt P f l w R' :=
  Calls.mono h fun _ _ ⟨v, e, r⟩ => ⟨v, e, hr v _ r⟩
/-- from a contract of the elder form -/
theorem Rt.of {P : Program} {f : FuncId} {l : List Value} {w : World} {v : Value} {R : World → Prop} (h : Calls P f l.toArray w fun e w' => e = .returned v ∧ R w') : Rt P f l w fun v' w' => v' = v ∧ R w' :=
  Calls.mono h fun _ _ ⟨e, r⟩ => ⟨v, e, rfl, r⟩
theorem Rt.to {P : Program} {f : FuncId} {l : List Value} {w : World} {v : Value} {R : World → Prop} (h : Rt P f l w fun v' w' => v' = v ∧ R w') : Calls P f l.toArray w fun e w' => e = .returned v ∧ R w' :=
  Calls.mono h fun _ _ ⟨_, e, e2, r⟩ => ⟨by rw [e, e2], r⟩

section control
variable {P : Program} {Q : Exit → Act → World → Prop} {n : Fr} {L : List (Nat × Value)} {w : World}
theorem enter {f : FuncId} {fn : Func} {c : Code} {l : List Value} {R : Value → World → Prop} {n : Nat} (hf : P.funcs[f]? = some fn) (hb : fn.body = some c) (hn : fn.ntmps = n) (hl : Nat.ble l.length n = true)
    (h : Cd P c (bodyPost P fn fun e w' => ∃ v, e = .returned v ∧ R v w') ⟨n, []⟩ (argsL 0 l) w) : Rt P f l w R := by
  refine calls_of_wp hf hb ?_
  rw [hn, args_mkT n l (Nat.le_of_ble_eq_true hl)]
  exact h.out
theorem cd_skip (h : Q .normal (mkA n L) w) : Cd P .skip Q n L w := ⟨wp_skip h⟩
theorem cd_seq {x y : Code} (h : Cd P x (Exit.then (fun a w => y.wp P Q a w) Q) n L w) : Cd P (.seq x y) Q n L w := ⟨wp_seq h.out⟩
theorem cd_block {id : Nat} {c : Code} (h : Cd P c (Exit.inBlock id Q) n L w) : Cd P (.block id c) Q n L w := ⟨wp_block h.out⟩
theorem cd_exit {id : Nat} (h : Q (.exit id) (mkA n L) w) : Cd P (.exit id) Q n L w := ⟨wp_exit h⟩
theorem cd_ret (h : Q .ret (mkA n L) w) : Cd P .ret Q n L w := ⟨wp_ret h⟩
theorem cd_cond {c : Operand} {x y : Code} {t : Bool} (hc : ev n L c = .bool t) (ht : t = true → Cd P x Q n L w) (hf : t = false → Cd P y Q n L w) : Cd P (.cond c x y) Q n L w :=
  ⟨wp_cond_split (by rw [eval_mkA]; exact hc) (fun h => (ht h).out) (fun h => (hf h).out)⟩
theorem cd_condT {c : Operand} {x y : Code} (hc : ev n L c = .bool true) (ht : Cd P x Q n L w) : Cd P (.cond c x y) Q n L w :=
  ⟨wp_cond_true (by rw [eval_mkA]; exact hc) ht.out⟩
theorem cd_condF {c : Operand} {x y : Code} (hc : ev n L c = .bool false) (ht : Cd P y Q n L w) : Cd P (.cond c x y) Q n L w :=
  ⟨wp_cond_false (by rw [eval_mkA]; exact hc) ht.out⟩
theorem cd_region {id : Nat} {l : List Oper} (h : St P l.toArray Q l n L w) : Cd P (.region id l.toArray false) Q n L w := ⟨wp_region_lit h.out⟩
theorem st_nil {ops : Array Oper} (h : Q .normal (mkA n L) w) : St P ops Q [] n L w := ⟨h⟩
variable {y : Code} {K : Act → World → Prop} {a : Act}
theorem nx_then (h : Cd P y Q n L w) : Exit.then (fun a w => y.wp P Q a w) Q .normal (mkA n L) w := h.out
theorem nx_block {id : Nat} (h : Q .normal a w) : Exit.inBlock id Q .normal a w := h
theorem ex_then {id : Nat} (h : Q (.exit id) a w) : Exit.then K Q (.exit id) a w := h
theorem ex_block {id : Nat} (h : Q .normal a w) : Exit.inBlock id Q (.exit id) a w := by
  show (if id = id then Q .normal a w else Q (.exit id) a w)
  rw [if_pos rfl]
  exact h
theorem ex_past {id j : Nat} (hj : Nat.beq j id = false) (h : Q (.exit j) a w) : Exit.inBlock id Q (.exit j) a w := by
  show (if j = id then Q .normal a w else Q (.exit j) a w)
  rw [if_neg (fun e => by subst e; simp at hj)]
  exact h
theorem rt_then (h : Q .ret a w) : Exit.then K Q .ret a w := h
theorem rt_block {id : Nat} (h : Q .ret a w) : Exit.inBlock id Q .ret a w := h
/-- the ends -/
theorem res1 {fn : Func} {m : Nat} {t : Nat} {R : Value → World → Prop} {v : Value} (hr : fn.results = #[.tmp t]) (hv : ev ⟨m, []⟩ L (.tmp t) = v) (h : R v w) :
    bodyPost P fn (fun e w' => ∃ v, e = .returned v ∧ R v w') .ret (mkA ⟨m, []⟩ L) w :=
  bodyPost_ret (results_tmp hr _ _ _) rfl ⟨v, by rw [← hv]; exact congrArg Ending.returned (getD_mkT m L t), h⟩
theorem res2 {fn : Func} {m : Nat} {t u : Nat} {R : Value → World → Prop} {v v' : Value} (hr : fn.results = #[.tmp t, .tmp u]) (hv : ev ⟨m, []⟩ L (.tmp t) = v) (hv' : ev ⟨m, []⟩ L (.tmp u) = v') (h : R (.tuple #[v, v']) w) :
    bodyPost P fn (fun e w' => ∃ v, e = .returned v ∧ R v w') .ret (mkA ⟨m, []⟩ L) w :=
  bodyPost_ret (results_tmp2 hr _ _ _) rfl ⟨.tuple #[v, v'], by rw [← hv, ← hv']; show Ending.returned (.tuple #[(mkT m L).getD t undef, (mkT m L).getD u undef]) = _; rw [getD_mkT, getD_mkT]; rfl, h⟩
theorem res3 {fn : Func} {m : Nat} {t u s : Nat} {R : Value → World → Prop} {v v' v'' : Value} (hr : fn.results = #[.tmp t, .tmp u, .tmp s]) (hv : ev ⟨m, []⟩ L (.tmp t) = v) (hv' : ev ⟨m, []⟩ L (.tmp u) = v') (hv'' : ev ⟨m, []⟩ L (.tmp s) = v'') (h : R (.tuple #[v, v', v'']) w) :
    bodyPost P fn (fun e w' => ∃ v, e = .returned v ∧ R v w') .ret (mkA ⟨m, []⟩ L) w :=
  bodyPost_ret (results_tmp3 hr _ _ _) rfl ⟨.tuple #[v, v', v''], by rw [← hv, ← hv', ← hv'']; show Ending.returned (.tuple #[(mkT m L).getD t undef, (mkT m L).getD u undef, (mkT m L).getD s undef]) = _; rw [getD_mkT, getD_mkT, getD_mkT]; rfl, h⟩
theorem res0 {fn : Func} {m : Nat} {R : Value → World → Prop} (hr : fn.results = #[]) (h : R (.tuple #[]) w) :
    bodyPost P fn (fun e w' => ∃ v, e = .returned v ∧ R v w') .ret (mkA ⟨m, []⟩ L) w :=
  bodyPost_ret (results_none hr _ _ _) rfl ⟨_, rfl, h⟩
theorem end_ret {fn : Func} {R : Ending → World → Prop} (h : bodyPost P fn R .ret a w) : bodyPost P fn R .normal a w := h
end control

/-! ### loops and meeting points -/
def Agr (Wr : List Nat) (L' L : List (Nat × Value)) : Prop := ∀ t, Wr.elem t = false → look L' t = look L t
theorem agr_rfl {Wr : List Nat} {L : List (Nat × Value)} : Agr Wr L L := fun _ _ => rfl
theorem agr_cons {Wr : List Nat} {L' L : List (Nat × Value)} {d : Nat} {v : Value} (hd : Wr.elem d = true) (h : Agr Wr L' L) : Agr Wr ((d, v) :: L') L := fun t ht => by
  rw [look_cons, if_neg (fun e => by subst e; rw [hd] at ht; cases ht)]
  exact h t ht
def AllV (L' : List (Nat × Value)) : List (Nat × Value) → Prop
  | [] => True
  | (t, v) :: r => look L' t = v ∧ AllV L' r
def junk (J : List Nat) (ρ : Nat → Value) (L : List (Nat × Value)) : List (Nat × Value) := J.foldr (fun t r => (t, ρ t) :: r) L
theorem look_junk (J : List Nat) (ρ : Nat → Value) (L : List (Nat × Value)) (t : Nat) : look (junk J ρ L) t = if J.elem t then ρ t else look L t := by
  induction J with
  | nil => rfl
  | cons j J ih =>
    show look ((j, ρ j) :: junk J ρ L) t = _
    rw [look_cons, ih]
    by_cases h : t = j
    · subst h; simp
    · have : (j :: J).elem t = J.elem t := by simp [List.elem_cons, h]
      rw [if_neg h, this]
theorem look_app (V L : List (Nat × Value)) (t : Nat) : look (V ++ L) t = if (V.map (·.1)).elem t then look V t else look L t := by
  induction V with
  | nil => rfl
  | cons x V ih =>
    obtain ⟨k, v⟩ := x
    show look ((k, v) :: (V ++ L)) t = if ((k :: V.map (·.1)).elem t) then look ((k, v) :: V) t else _
    rw [look_cons, look_cons, ih]
    by_cases h : t = k
    · subst h; simp
    · have : (k :: V.map (·.1)).elem t = (V.map (·.1)).elem t := by simp [List.elem_cons, h]
      rw [if_neg h, this, if_neg h]
theorem allV_look {L' : List (Nat × Value)} : ∀ {V : List (Nat × Value)}, AllV L' V → ∀ t, (V.map (·.1)).elem t = true → look L' t = look V t
  | [], _, t, h => by simp at h
  | (k, v) :: V, ⟨h1, h2⟩, t, h => by
    rw [look_cons]
    by_cases e : t = k
    · subst e; rw [if_pos rfl]; exact h1
    · rw [if_neg e]
      exact allV_look h2 t (by simpa [List.elem_cons, e] using h)
/-- the frame at a head: these slots hold these values, those hold anything, the others hold what L has -/
def hd (V : List (Nat × Value)) (J : List Nat) (ρ : Nat → Value) (L : List (Nat × Value)) : List (Nat × Value) := V ++ junk J ρ L
theorem hd_of {n : Fr} {V : List (Nat × Value)} {J : List Nat} {L' L : List (Nat × Value)} (hv : AllV L' V) (hj : Agr (V.map (·.1) ++ J) L' L) : mkA n L' = mkA n (hd V J (look L') L) := by
  refine mkA_congr fun t _ => ?_
  unfold hd
  rw [look_app, look_junk]
  by_cases h1 : (V.map (·.1)).elem t = true
  · rw [if_pos h1]; exact allV_look hv t h1
  · rw [if_neg h1]
    by_cases h2 : J.elem t = true
    · rw [if_pos h2]
    · rw [if_neg h2]
      refine hj t ?_
      rw [Bool.not_eq_true] at h1 h2
      simp only [List.elem_eq_mem, decide_eq_false_iff_not] at h1 h2 ⊢
      simp only [List.mem_append, not_or]
      exact ⟨h1, h2⟩
/-- what is known at a head -/
def At (n : Fr) (L : List (Nat × Value)) (J : List Nat) {G : Type} (V : G → List (Nat × Value)) (F : G → World → Prop) (a : Act) (w : World) : Prop := ∃ g ρ, a = mkA n (hd (V g) J ρ L) ∧ F g w
theorem at_mk {n : Fr} {L L' : List (Nat × Value)} {J : List Nat} {G : Type} {V : G → List (Nat × Value)} {F : G → World → Prop} {w : World} (g : G) (hv : AllV L' (V g)) (hj : Agr ((V g).map (·.1) ++ J) L' L) (hF : F g w) :
    At n L J V F (mkA n L') w := ⟨g, look L', hd_of hv hj, hF⟩
section
variable {P : Program} {Q : Exit → Act → World → Prop} {n : Fr} {L : List (Nat × Value)} {w : World} {G : Type}
theorem cd_cut {x y : Code} (J : List Nat) (V : G → List (Nat × Value)) (F : G → World → Prop) (hx : Cd P x (Exit.then (At n L J V F) Q) n L w)
    (hy : ∀ g ρ w', F g w' → Cd P y Q n (hd (V g) J ρ L) w') : Cd P (.seq x y) Q n L w := by
  refine ⟨wp_seq (wp_mono hx.out fun e a w' q => ?_)⟩
  cases e <;> first
    | exact q
    | (obtain ⟨g, ρ, rfl, hF⟩ := q; exact (hy g ρ w' hF).out)
theorem nx_cut {L0 : List (Nat × Value)} {J : List Nat} {V : G → List (Nat × Value)} {F : G → World → Prop} (g : G) (hv : AllV L (V g)) (hj : Agr ((V g).map (·.1) ++ J) L L0) (hF : F g w) : Exit.then (At n L0 J V F) Q .normal (mkA n L) w :=
  at_mk g hv hj hF
/-- a loop: its head, a measure on what is named there -/
theorem cd_loop {c : Code} (J : List Nat) (V : G → List (Nat × Value)) (F : G → World → Prop) (μ : G → Nat) (g0 : G) (hv : AllV L (V g0)) (hF : F g0 w)
    (round : ∀ g ρ w', F g w' → Cd P c (Exit.then (At n L J V (fun g' w'' => F g' w'' ∧ μ g' < μ g)) Q) n (hd (V g) J ρ L) w') : Cd P (.loop c) Q n L w := by
  refine ⟨wp_loop_ghost (fun m a w => At n L J V (fun g w => F g w ∧ μ g = m) a w) (μ g0) ⟨g0, look L, hd_of hv fun t _ => rfl, hF, rfl⟩ ?_⟩
  rintro m a w ⟨g, ρ, rfl, hF, rfl⟩
  refine wp_mono (round g ρ w hF).out fun e a' w' q => ?_
  cases e <;> first
    | exact q
    | (obtain ⟨g', ρ', rfl, hF', hlt⟩ := q; exact ⟨μ g', hlt, g', ρ', rfl, hF', rfl⟩)
end
end Go.Proofs.Ytpafbgdbjambgaa
