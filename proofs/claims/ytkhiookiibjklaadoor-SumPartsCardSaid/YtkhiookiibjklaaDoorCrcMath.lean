/- PLAIN MATHEMATICS of CRC-32: a step by a table of sixteen remainders is four steps by one bit; a step by eight bits is one-to-one. -/
import Derived.Laws.BitsAllLaws
namespace Go.Proofs.YtkhiookiibjklaaDoor.CM

abbrev W32 := BitVec 32

/-- the sum of the columns where x has a bit, from bit i on -/
def comb : List W32 → Nat → W32 → W32
  | [], _, _ => 0#32
  | c :: r, i, x => (if x.getLsbD i then c else 0#32) ^^^ comb r (i + 1) x

structure Add (f : W32 → W32) : Prop where
  zero : f 0#32 = 0#32
  add : ∀ a b, f (a ^^^ b) = f a ^^^ f b

theorem xor_assoc4 (a b c d : W32) : (a ^^^ b) ^^^ (c ^^^ d) = (a ^^^ c) ^^^ (b ^^^ d) := by
  rw [BitVec.xor_assoc, BitVec.xor_assoc, ← BitVec.xor_assoc b, ← BitVec.xor_assoc c, BitVec.xor_comm b c]

theorem Add.id_ : Add (fun x => x) := ⟨rfl, fun _ _ => rfl⟩
theorem Add.comp {f g : W32 → W32} (hf : Add f) (hg : Add g) : Add (fun x => f (g x)) := ⟨by rw [hg.zero, hf.zero], fun a b => by rw [hg.add, hf.add]⟩
theorem Add.plus {f g : W32 → W32} (hf : Add f) (hg : Add g) : Add (fun x => f x ^^^ g x) :=
  ⟨by rw [hf.zero, hg.zero]; rfl, fun a b => by rw [hf.add, hg.add, xor_assoc4]⟩
theorem Add.shl (n : Nat) : Add (fun x => x <<< n) := ⟨by simp, fun a b => by rw [BitVec.shiftLeft_xor_distrib]⟩
theorem Add.shr (n : Nat) : Add (fun x => x >>> n) := ⟨by simp, fun a b => by rw [BitVec.ushiftRight_xor_distrib]⟩

theorem comb_zero : ∀ (l : List W32) (i : Nat), comb l i 0#32 = 0#32
  | [], _ => rfl
  | c :: r, i => by simp [comb, comb_zero r]
theorem comb_add : ∀ (l : List W32) (i : Nat) (a b : W32), comb l i (a ^^^ b) = comb l i a ^^^ comb l i b
  | [], _, _, _ => by simp [comb]
  | c :: r, i, a, b => by
    simp only [comb, comb_add r, BitVec.getLsbD_xor]
    rw [xor_assoc4]
    cases a.getLsbD i <;> cases b.getLsbD i <;> simp
theorem Add.comb (l : List W32) (i : Nat) : Add (comb l i) := ⟨comb_zero l i, comb_add l i⟩

theorem top (x : W32) (i : Nat) : (x >>> i) <<< i = (if x.getLsbD i then (1#32 <<< i) else 0#32) ^^^ ((x >>> (i + 1)) <<< (i + 1)) := by
  apply BitVec.eq_of_getLsbD_eq
  intro j hj
  rw [BitVec.getLsbD_xor]
  have e : (if x.getLsbD i then (1#32 <<< i) else 0#32).getLsbD j = (x.getLsbD i && decide (j = i)) := by
    by_cases h : x.getLsbD i
    · simp only [h, if_true, Bool.true_and]
      simp [BitVec.getLsbD_shiftLeft, hj]
      by_cases hji : j = i
      · simp [hji]
      · by_cases hlt : j < i
        · simp [hlt, hji]
        · have : j - i ≠ 0 := by omega
          simp [hlt, hji, this]
    · simp [h]
  rw [e]
  simp only [BitVec.getLsbD_shiftLeft, BitVec.getLsbD_ushiftRight, hj, decide_true, Bool.true_and]
  by_cases h1 : j < i
  · have h2 : j < i + 1 := by omega
    have h3 : ¬ j = i := by omega
    simp [h1, h2, h3]
  · by_cases h3 : j = i
    · subst h3
      simp
    · have h2 : ¬ j < i + 1 := by omega
      have h4 : i + (j - i) = j := by omega
      have h5 : i + 1 + (j - (i + 1)) = j := by omega
      simp [h1, h2, h3, h4, h5]

/-- an additive map is the sum of its columns -/
theorem Add.eq_comb {f : W32 → W32} (hf : Add f) : ∀ (m i : Nat), i + m = 32 → ∀ x : W32, f ((x >>> i) <<< i) = CM.comb ((List.range' i m).map fun k => f (1#32 <<< k)) i x
  | 0, i, h, x => by
    have : x >>> i = 0#32 := by
      apply BitVec.eq_of_getLsbD_eq
      intro j hj
      rw [BitVec.getLsbD_ushiftRight]
      have : x.getLsbD (i + j) = false := BitVec.getLsbD_of_ge x _ (by omega)
      simp [this]
    rw [this]
    simp [CM.comb, hf.zero]
  | m + 1, i, h, x => by
    rw [top, hf.add, Add.eq_comb hf m (i + 1) (by omega) x]
    simp only [List.range'_succ, List.map_cons, CM.comb]
    congr 1
    by_cases hx : x.getLsbD i
    · simp [hx]
    · simp [hx, hf.zero]

def basis : List W32 := (List.range' 0 32).map fun k => 1#32 <<< k

theorem Add.ext {f g : W32 → W32} (hf : Add f) (hg : Add g) (h : basis.map f = basis.map g) : f = g := by
  funext x
  have e1 := hf.eq_comb 32 0 rfl x
  have e2 := hg.eq_comb 32 0 rfl x
  simp only [BitVec.ushiftRight_zero, BitVec.shiftLeft_zero] at e1 e2
  have h' : (List.range' 0 32).map (fun k => f (1#32 <<< k)) = (List.range' 0 32).map (fun k => g (1#32 <<< k)) := by simpa [basis, List.map_map] using h
  rw [e1, e2, h']

/-- gauss, to find an inverse's columns (what it finds is checked, not trusted) -/
def pivot (r : W32 × W32) (l : List (W32 × W32)) (i : Nat) : List (W32 × W32) := l.map fun p => if p.1.getLsbD i then (p.1 ^^^ r.1, p.2 ^^^ r.2) else p
def gauss : Nat → Nat → List (W32 × W32) → List (W32 × W32) → List (W32 × W32)
  | 0, _, done, _ => done
  | n + 1, i, done, todo =>
    match todo.find? (fun p => p.1.getLsbD i) with
    | none => done
    | some r => gauss n (i + 1) (pivot r done i ++ [r]) (pivot r (todo.filter fun p => p.1 != r.1) i)
def invCols (f : W32 → W32) : List W32 := (gauss 32 0 [] (basis.map fun e => (f e, e))).map (·.2)

def tabL : List W32 := [0, 498536548, 997073096, 651767980, 1994146192, 1802195444, 1303535960, 1342533948, 3988292384, 4027552580, 3604390888, 3412177804, 2607071920, 2262029012, 2685067896, 3183342108]
def tab (i : Nat) : W32 := tabL.getD i 0
def half (c : W32) : W32 := (c >>> 4) ^^^ tab (c &&& 15#32).toNat
def bstep (c : W32) : W32 := if c &&& 1#32 = 1#32 then (c >>> 1) ^^^ 3988292384#32 else c >>> 1

theorem and_add (m : W32) : Add (fun x => x &&& m) := ⟨by simp, fun a b => by
  apply BitVec.eq_of_getLsbD_eq
  intro j _
  simp only [BitVec.getLsbD_and, BitVec.getLsbD_xor]
  cases a.getLsbD j <;> cases b.getLsbD j <;> cases m.getLsbD j <;> rfl⟩

theorem tab_add : ∀ a : Fin 16, ∀ b : Fin 16, tab (BitVec.ofNat 32 a.val ^^^ BitVec.ofNat 32 b.val).toNat = tab a.val ^^^ tab b.val := by decide +kernel
theorem low4 (a : W32) : (a &&& 15#32).toNat < 16 := by
  rw [BitVec.toNat_and]
  exact Nat.lt_of_le_of_lt Nat.and_le_right (by decide)
theorem half_add : Add half := by
  refine Add.plus (Add.shr 4) ⟨by decide +kernel, fun a b => ?_⟩
  show tab ((a ^^^ b) &&& 15#32).toNat = tab (a &&& 15#32).toNat ^^^ tab (b &&& 15#32).toNat
  rw [(and_add 15#32).add]
  have ha : BitVec.ofNat 32 (a &&& 15#32).toNat = a &&& 15#32 := by simp
  have hb : BitVec.ofNat 32 (b &&& 15#32).toNat = b &&& 15#32 := by simp
  have := tab_add ⟨_, low4 a⟩ ⟨_, low4 b⟩
  simp only [ha, hb] at this
  exact this
theorem bit_add : Add (fun x : W32 => if x.getLsbD 0 then 3988292384#32 else 0#32) := ⟨by simp, fun a b => by
  simp only [BitVec.getLsbD_xor]
  cases a.getLsbD 0 <;> cases b.getLsbD 0 <;> simp⟩
theorem and_one (c : W32) : (c &&& 1#32 = 1#32) ↔ c.getLsbD 0 = true := by
  constructor
  · intro h
    have : (c &&& 1#32).getLsbD 0 = (1#32).getLsbD 0 := by rw [h]
    simpa [BitVec.getLsbD_and] using this
  · intro h
    apply BitVec.eq_of_getLsbD_eq
    intro j hj
    rw [BitVec.getLsbD_and]
    cases j with
    | zero => rw [h]; rfl
    | succ j => simp
theorem bstep_eq (c : W32) : bstep c = (c >>> 1) ^^^ (if c.getLsbD 0 then 3988292384#32 else 0#32) := by
  unfold bstep
  by_cases h : c.getLsbD 0 = true
  · rw [if_pos ((and_one c).2 h), if_pos h]
  · rw [if_neg (fun e => h ((and_one c).1 e)), if_neg h]
    simp
theorem bstep_add : Add bstep := by
  have : bstep = fun c : W32 => (c >>> 1) ^^^ (if c.getLsbD 0 then 3988292384#32 else 0#32) := funext bstep_eq
  rw [this]
  exact Add.plus (Add.shr 1) bit_add
theorem half_is : half = fun c => bstep (bstep (bstep (bstep c))) :=
  half_add.ext (bstep_add.comp (bstep_add.comp (bstep_add.comp bstep_add))) (by decide +kernel)

def step8 (c : W32) : W32 := half (half c)
theorem step8_add : Add step8 := half_add.comp half_add
def inv8 : W32 → W32 := comb (invCols step8) 0
theorem inv8_left : (fun x => inv8 (step8 x)) = fun x => x := Add.ext ((Add.comb _ _).comp step8_add) Add.id_ (by decide +kernel)
theorem step8_inj {a b : W32} (h : step8 a = step8 b) : a = b := by
  have ha : inv8 (step8 a) = a := congrFun inv8_left a
  have hb : inv8 (step8 b) = b := congrFun inv8_left b
  rw [← ha, ← hb, h]

/-- the register behind these bytes -/
def reg : W32 → List Nat → W32
  | c, [] => c
  | c, b :: r => reg (step8 (c ^^^ BitVec.ofNat 32 b)) r
theorem reg_app : ∀ (l m : List Nat) (c : W32), reg c (l ++ m) = reg (reg c l) m
  | [], _, _ => rfl
  | x :: r, m, c => by simp only [List.cons_append, reg]; exact reg_app r m _
theorem xor_cancel {a b c : W32} (h : a ^^^ c = b ^^^ c) : a = b := by
  have h2 : (a ^^^ c) ^^^ c = (b ^^^ c) ^^^ c := by rw [h]
  rwa [BitVec.xor_assoc, BitVec.xor_assoc, BitVec.xor_self, BitVec.xor_zero, BitVec.xor_zero] at h2
theorem reg_inj : ∀ (l : List Nat) {a b : W32}, reg a l = reg b l → a = b
  | [], _, _, h => h
  | x :: r, a, b, h => xor_cancel (step8_inj (reg_inj r h))
theorem xor_cancel_left {a b c : W32} (h : c ^^^ a = c ^^^ b) : a = b := xor_cancel (c := c) (by rw [BitVec.xor_comm a, BitVec.xor_comm b]; exact h)
/-- one byte that is another one: another register -/
theorem reg_turn {l m : List Nat} {x y : Nat} {c : W32} (hx : x < 256) (hy : y < 256) (h : x ≠ y) : reg c (l ++ x :: m) ≠ reg c (l ++ y :: m) := by
  intro e
  rw [reg_app, reg_app] at e
  simp only [reg] at e
  have e2 := xor_cancel_left (step8_inj (reg_inj m e))
  apply h
  have := congrArg BitVec.toNat e2
  rw [BitVec.toNat_ofNat, BitVec.toNat_ofNat, Nat.mod_eq_of_lt (by omega), Nat.mod_eq_of_lt (by omega)] at this
  exact this
end Go.Proofs.YtkhiookiibjklaaDoor.CM
