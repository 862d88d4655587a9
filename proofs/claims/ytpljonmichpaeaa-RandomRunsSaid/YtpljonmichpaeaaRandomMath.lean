/- PLAIN MATHEMATICS of the xorshift step: it is linear over bits, one-to-one, without a fixed point; 65 successors do not all agree in their lowest bit. -/
import Derived.Laws.BitsAllLaws
namespace Go.Proofs.Ytpljonmichpaeaa.XM

abbrev W64 := BitVec 64

/-- the sum of the columns where x has a bit, from bit i on -/
def comb : List W64 → Nat → W64 → W64
  | [], _, _ => 0#64
  | c :: r, i, x => (if x.getLsbD i then c else 0#64) ^^^ comb r (i + 1) x

structure Add (f : W64 → W64) : Prop where
  zero : f 0#64 = 0#64
  add : ∀ a b, f (a ^^^ b) = f a ^^^ f b

theorem xor_assoc4 (a b c d : W64) : (a ^^^ b) ^^^ (c ^^^ d) = (a ^^^ c) ^^^ (b ^^^ d) := by
  rw [BitVec.xor_assoc, BitVec.xor_assoc, ← BitVec.xor_assoc b, ← BitVec.xor_assoc c, BitVec.xor_comm b c]

theorem Add.id_ : Add (fun x => x) := ⟨rfl, fun _ _ => rfl⟩
theorem Add.comp {f g : W64 → W64} (hf : Add f) (hg : Add g) : Add (fun x => f (g x)) := ⟨by rw [hg.zero, hf.zero], fun a b => by rw [hg.add, hf.add]⟩
theorem Add.plus {f g : W64 → W64} (hf : Add f) (hg : Add g) : Add (fun x => f x ^^^ g x) :=
  ⟨by rw [hf.zero, hg.zero]; rfl, fun a b => by rw [hf.add, hg.add, xor_assoc4]⟩
theorem Add.shl (n : Nat) : Add (fun x => x <<< n) := ⟨by simp, fun a b => by rw [BitVec.shiftLeft_xor_distrib]⟩
theorem Add.shr (n : Nat) : Add (fun x => x >>> n) := ⟨by simp, fun a b => by rw [BitVec.ushiftRight_xor_distrib]⟩

theorem comb_zero : ∀ (l : List W64) (i : Nat), comb l i 0#64 = 0#64
  | [], _ => rfl
  | c :: r, i => by simp [comb, comb_zero r]
theorem comb_add : ∀ (l : List W64) (i : Nat) (a b : W64), comb l i (a ^^^ b) = comb l i a ^^^ comb l i b
  | [], _, _, _ => by simp [comb]
  | c :: r, i, a, b => by
    simp only [comb, comb_add r, BitVec.getLsbD_xor]
    rw [xor_assoc4]
    cases a.getLsbD i <;> cases b.getLsbD i <;> simp
theorem Add.comb (l : List W64) (i : Nat) : Add (comb l i) := ⟨comb_zero l i, comb_add l i⟩

theorem top (x : W64) (i : Nat) : (x >>> i) <<< i = (if x.getLsbD i then (1#64 <<< i) else 0#64) ^^^ ((x >>> (i + 1)) <<< (i + 1)) := by
  apply BitVec.eq_of_getLsbD_eq
  intro j hj
  rw [BitVec.getLsbD_xor]
  have e : (if x.getLsbD i then (1#64 <<< i) else 0#64).getLsbD j = (x.getLsbD i && decide (j = i)) := by
    by_cases h : x.getLsbD i
    · simp only [h, if_true, Bool.true_and]
      simp [BitVec.getLsbD_shiftLeft, hj]
      by_cases hji : j = i
      · simp [hji]
      · by_cases hlt : j < i
        · simp [hlt, hji]
        · have : j - i ≠ 0 := by omega
          simp [hlt, hji, this]
    · simp [h]
  rw [e]
  simp only [BitVec.getLsbD_shiftLeft, BitVec.getLsbD_ushiftRight, hj, decide_true, Bool.true_and]
  by_cases h1 : j < i
  · have h2 : j < i + 1 := by omega
    have h3 : ¬ j = i := by omega
    simp [h1, h2, h3]
  · by_cases h3 : j = i
    · subst h3
      simp
    · have h2 : ¬ j < i + 1 := by omega
      have h4 : i + (j - i) = j := by omega
      have h5 : i + 1 + (j - (i + 1)) = j := by omega
      simp [h1, h2, h3, h4, h5]

/-- an additive map is the sum of its columns -/
theorem Add.eq_comb {f : W64 → W64} (hf : Add f) : ∀ (m i : Nat), i + m = 64 → ∀ x : W64, f ((x >>> i) <<< i) = XM.comb ((List.range' i m).map fun k => f (1#64 <<< k)) i x
  | 0, i, h, x => by
    have : x >>> i = 0#64 := by
      apply BitVec.eq_of_getLsbD_eq
      intro j hj
      rw [BitVec.getLsbD_ushiftRight]
      have : x.getLsbD (i + j) = false := BitVec.getLsbD_of_ge x _ (by omega)
      simp [this]
    rw [this]
    simp [XM.comb, hf.zero]
  | m + 1, i, h, x => by
    rw [top, hf.add, Add.eq_comb hf m (i + 1) (by omega) x]
    simp only [List.range'_succ, List.map_cons, XM.comb]
    congr 1
    by_cases hx : x.getLsbD i
    · simp [hx]
    · simp [hx, hf.zero]

def basis : List W64 := (List.range' 0 64).map fun k => 1#64 <<< k

theorem Add.ext {f g : W64 → W64} (hf : Add f) (hg : Add g) (h : basis.map f = basis.map g) : f = g := by
  funext x
  have e1 := hf.eq_comb 64 0 rfl x
  have e2 := hg.eq_comb 64 0 rfl x
  simp only [BitVec.ushiftRight_zero, BitVec.shiftLeft_zero] at e1 e2
  have h' : (List.range' 0 64).map (fun k => f (1#64 <<< k)) = (List.range' 0 64).map (fun k => g (1#64 <<< k)) := by simpa [basis, List.map_map] using h
  rw [e1, e2, h']

def step (x : W64) : W64 :=
  let a := x ^^^ (x <<< 13)
  let b := a ^^^ (a >>> 7)
  b ^^^ (b <<< 17)

theorem step_add : Add step :=
  Add.comp (f := fun b => b ^^^ (b <<< 17)) (g := fun x => (x ^^^ (x <<< 13)) ^^^ ((x ^^^ (x <<< 13)) >>> 7)) (Add.id_.plus (Add.shl 17))
    (Add.comp (f := fun a => a ^^^ (a >>> 7)) (g := fun x => x ^^^ (x <<< 13)) (Add.id_.plus (Add.shr 7)) (Add.id_.plus (Add.shl 13)))

/-- gauss, to find an inverse's columns (what it finds is checked, not trusted) -/
def pivot (r : W64 × W64) (l : List (W64 × W64)) (i : Nat) : List (W64 × W64) := l.map fun p => if p.1.getLsbD i then (p.1 ^^^ r.1, p.2 ^^^ r.2) else p
def gauss : Nat → Nat → List (W64 × W64) → List (W64 × W64) → List (W64 × W64)
  | 0, _, done, _ => done
  | n + 1, i, done, todo =>
    match todo.find? (fun p => p.1.getLsbD i) with
    | none => done
    | some r => gauss n (i + 1) (pivot r done i ++ [r]) (pivot r (todo.filter fun p => p.1 != r.1) i)
def invCols (f : W64 → W64) : List W64 := (gauss 64 0 [] (basis.map fun e => (f e, e))).map (·.2)


def stepInv : W64 → W64 := comb (invCols step) 0
theorem step_left : (fun x => stepInv (step x)) = fun x => x :=
  Add.ext ((Add.comb _ _).comp step_add) Add.id_ (by decide +kernel)
theorem step_inj {a b : W64} (h : step a = step b) : a = b := by
  have ha : stepInv (step a) = a := congrFun step_left a
  have hb : stepInv (step b) = b := congrFun step_left b
  rw [← ha, ← hb, h]

def gap (x : W64) : W64 := step x ^^^ x
theorem gap_add : Add gap := step_add.plus Add.id_
def gapInv : W64 → W64 := comb (invCols gap) 0
theorem gap_left : (fun x => gapInv (gap x)) = fun x => x :=
  Add.ext ((Add.comb _ _).comp gap_add) Add.id_ (by decide +kernel)
theorem gap_inj {a b : W64} (h : gap a = gap b) : a = b := by
  have ha : gapInv (gap a) = a := congrFun gap_left a
  have hb : gapInv (gap b) = b := congrFun gap_left b
  rw [← ha, ← hb, h]
theorem step_ne {a : W64} (h : a ≠ 0#64) : step a ≠ a := by
  intro e
  apply h
  apply gap_inj
  simp [gap, e, gap_add.zero]
  rfl
theorem step_ne_zero {a : W64} (h : a ≠ 0#64) : step a ≠ 0#64 := by
  intro e
  apply h
  apply step_inj
  rw [e, step_add.zero]

def iter : Nat → W64 → W64
  | 0, x => x
  | n + 1, x => iter n (step x)
theorem iter_add : ∀ n, Add (iter n)
  | 0 => Add.id_
  | n + 1 => (iter_add n).comp step_add

/-- the lowest bits' changes of 64 successors in a row -/
def seen : Nat → W64 → W64
  | 0, _ => 0#64
  | n + 1, x => (if (gap x).getLsbD 0 then 1#64 <<< n else 0#64) ^^^ seen n (step x)
theorem seen_add : ∀ n, Add (seen n)
  | 0 => ⟨rfl, fun _ _ => by simp [seen]⟩
  | n + 1 => by
    have h := (seen_add n).comp step_add
    refine ⟨?_, fun a b => ?_⟩
    · simp only [seen, gap_add.zero]
      rw [h.zero]
      simp
    · simp only [seen, gap_add.add, BitVec.getLsbD_xor]
      rw [h.add, xor_assoc4]
      cases (gap a).getLsbD 0 <;> cases (gap b).getLsbD 0 <;> simp
def seenInv : W64 → W64 := comb (invCols (seen 64)) 0
theorem seen_left : (fun x => seenInv (seen 64 x)) = fun x => x :=
  Add.ext ((Add.comb _ _).comp (seen_add 64)) Add.id_ (by decide +kernel)
theorem seen_zero : ∀ n x, (∀ k, k < n → (gap (iter k x)).getLsbD 0 = false) → seen n x = 0#64
  | 0, _, _ => rfl
  | n + 1, x, h => by
    have h0 : (gap x).getLsbD 0 = false := h 0 (by omega)
    simp only [seen, h0]
    rw [seen_zero n (step x) (fun k hk => h (k + 1) (by omega))]
    simp
/-- 65 successors of a number that is not 0 don't all have one lowest bit -/
theorem not_same {x : W64} (hx : x ≠ 0#64) : ∃ k, k < 64 ∧ (iter (k + 1) x).getLsbD 0 ≠ (iter k x).getLsbD 0 := by
  refine Classical.byContradiction fun hn => hx ?_
  have hz : seen 64 x = 0#64 := by
    refine seen_zero 64 x fun k hk => ?_
    have : (iter (k + 1) x).getLsbD 0 = (iter k x).getLsbD 0 := by
      refine Classical.byContradiction fun hne => hn ⟨k, hk, hne⟩
    have e : iter (k + 1) x = step (iter k x) := by
      have : ∀ k x, iter (k + 1) x = step (iter k x) := by
        intro k
        induction k with
        | zero => intro x; rfl
        | succ k ih => intro x; show iter (k + 1) (step x) = _; rw [ih]; rfl
      exact this k x
    rw [e] at this
    show (step (iter k x) ^^^ iter k x).getLsbD 0 = false
    rw [BitVec.getLsbD_xor, this, Bool.xor_self]
  have := congrFun seen_left x
  simp only [hz] at this
  rw [← this]
  exact (Add.comb _ _).zero
end Go.Proofs.Ytpljonmichpaeaa.XM
