/- fm: start. -/
import Derived.Test.YtllmocjfllbbfaaGreatMgSegLawD1
import Derived.Test.YtllmocjfllbbfaaGreatMgSegLawD2
import Derived.Shelf.Small.Bits
import Derived.Shelf.Small.Strs
import Derived.Shelf.Small.Wraps
import Derived.Shelf.Strconv.Itoa0
import Derived.Shelf.Sort.Plain
import Derived.Ground.Names2Prog
import Derived.Shelf.Slices.SearchI
import Derived.Shelf.Slices.In.SortNone
import Derived.Test.YtllmocjfllbbfaaGreatProg
import Derived.Test.YtllmocjfllbbfaaGreatMgSegLawD3
set_option maxRecDepth 100000
namespace Go.Proofs.YtllmocjfllbbfaaGreat
/-- how many of f 0 .. f (n - 1) hold -/
def cntB (f : Nat → Bool) : Nat → Nat
  | 0 => 0
  | n + 1 => cntB f n + (f n).toNat
theorem cntB_congr {f g : Nat → Bool} : ∀ {n : Nat}, (∀ i, i < n → f i = g i) → cntB f n = cntB g n
  | 0, _ => rfl
  | n + 1, h => by
    show cntB f n + (f n).toNat = cntB g n + (g n).toNat
    rw [cntB_congr fun i hi => h i (Nat.lt_succ_of_lt hi), h n (Nat.lt_succ_self n)]
theorem cntB_add (f : Nat → Bool) (m : Nat) : ∀ k, cntB f (m + k) = cntB f m + cntB (fun i => f (m + i)) k
  | 0 => rfl
  | k + 1 => by
    show cntB f (m + k) + (f (m + k)).toNat = cntB f m + (cntB (fun i => f (m + i)) k + (f (m + k)).toNat)
    rw [cntB_add f m k, Nat.add_assoc]
theorem cntB_false (n : Nat) : cntB (fun _ => false) n = 0 := by
  induction n with
  | zero => rfl
  | succ n ih => show cntB _ n + 0 = 0; rw [ih]
theorem cntB_le (f : Nat → Bool) : ∀ n, cntB f n ≤ n
  | 0 => Nat.le_refl _
  | n + 1 => by
    have := cntB_le f n
    show cntB f n + (f n).toNat ≤ n + 1
    have : (f n).toNat ≤ 1 := Bool.toNat_le _
    omega
/-- the bits of a word -/
def pop (x n : Nat) : Nat := cntB x.testBit n
theorem pop_split (x n : Nat) : pop x (8 + n) = pop (x % 256) 8 + pop (x / 256) n := by
  unfold pop
  rw [cntB_add]
  congr 1
  · exact cntB_congr fun i hi => by rw [show (256 : Nat) = 2 ^ 8 from rfl, Nat.testBit_mod_two_pow]; simp [hi]
  · exact cntB_congr fun i hi => by
      rw [show (256 : Nat) = 2 ^ 8 from rfl, ← Nat.shiftRight_eq_div_pow, Nat.testBit_shiftRight]
theorem and_split (a y c d : Nat) (ha : a < 256) (hc : c < 256) : (a + 256 * y) &&& (c + 256 * d) = (a &&& c) + 256 * (y &&& d) := by
  have h1 : ((a + 256 * y) &&& (c + 256 * d)) % 2 ^ 8 = a &&& c := by
    rw [Nat.and_mod_two_pow]
    congr 1 <;> omega
  have h2 : ((a + 256 * y) &&& (c + 256 * d)) / 2 ^ 8 = y &&& d := by
    rw [Nat.and_div_two_pow]
    congr 1 <;> omega
  have h3 := Nat.div_add_mod ((a + 256 * y) &&& (c + 256 * d)) (2 ^ 8)
  rw [h1, h2] at h3
  omega
def msk (c : Nat) : Nat → Nat
  | 0 => 0
  | n + 1 => c + 256 * msk c n
def q1 (n x : Nat) : Nat := (x / 2 &&& msk 85 n) + (x &&& msk 85 n)
def q2 (n x : Nat) : Nat := (x / 4 &&& msk 51 n) + (x &&& msk 51 n)
def q3 (n x : Nat) : Nat := (x / 16 + x) &&& msk 15 n
def b1 (b : Nat) : Nat := (b / 2 &&& 85) + (b &&& 85)
def b2 (b : Nat) : Nat := (b / 4 &&& 51) + (b &&& 51)
def b3 (b : Nat) : Nat := (b / 16 + b) &&& 15
def allB (p : Nat → Bool) : Nat → Bool
  | 0 => true
  | n + 1 => allB p n && p n
theorem allB_at {p : Nat → Bool} : ∀ {n : Nat}, allB p n = true → ∀ i, i < n → p i = true
  | 0, _, i, h => by omega
  | n + 1, h, i, hi => by
    have h' : (allB p n && p n) = true := h
    rw [Bool.and_eq_true] at h'
    rcases Nat.eq_or_lt_of_le (Nat.le_of_lt_succ hi) with e | e
    · subst e; exact h'.2
    · exact allB_at h'.1 i e
theorem b1_hi : allB (fun b => allB (fun y => ((b / 2 + 128 * y) &&& 85) == (b / 2 &&& 85)) 2) 256 = true := by decide +kernel
theorem b2_hi : allB (fun b => allB (fun y => ((b / 4 + 64 * y) &&& 51) == (b / 4 &&& 51)) 4) 256 = true := by decide +kernel
theorem b1_lt : allB (fun b => decide (b1 b < 256)) 256 = true := by decide +kernel
theorem b2_lt : allB (fun b => decide (b2 (b1 b) ≤ 68) && decide (b2 (b1 b) % 16 ≤ 4)) 256 = true := by decide +kernel
theorem b3_hi : allB (fun b => allB (fun y => ((b / 16 + 16 * y + b) &&& 15) == b3 b) 5) 69 = true := by decide +kernel
theorem b3_pop : allB (fun b => b3 (b2 (b1 b)) == pop b 8) 256 = true := by decide +kernel
def sp : Nat → Nat → Nat
  | 0, _ => 0
  | n + 1, x => pop (x % 256) 8 + 256 * sp n (x / 256)
theorem q1_step (n b y : Nat) (hb : b < 256) : q1 (n + 1) (b + 256 * y) = b1 b + 256 * q1 n y := by
  unfold q1
  show ((b + 256 * y) / 2 &&& (85 + 256 * msk 85 n)) + ((b + 256 * y) &&& (85 + 256 * msk 85 n)) = _
  have e : (b + 256 * y) / 2 = (b / 2 + 128 * (y % 2)) + 256 * (y / 2) := by omega
  rw [e, and_split _ _ _ _ (by omega) (by omega), and_split _ _ _ _ hb (by omega), eq_of_beq (allB_at (allB_at b1_hi b hb) (y % 2) (by omega))]
  unfold b1
  omega
theorem q2_step (n b y : Nat) (hb : b < 256) : q2 (n + 1) (b + 256 * y) = b2 b + 256 * q2 n y := by
  unfold q2
  show ((b + 256 * y) / 4 &&& (51 + 256 * msk 51 n)) + ((b + 256 * y) &&& (51 + 256 * msk 51 n)) = _
  have e : (b + 256 * y) / 4 = (b / 4 + 64 * (y % 4)) + 256 * (y / 4) := by omega
  rw [e, and_split _ _ _ _ (by omega) (by omega), and_split _ _ _ _ hb (by omega), eq_of_beq (allB_at (allB_at b2_hi b hb) (y % 4) (by omega))]
  unfold b2
  omega
theorem q3_step (n b y : Nat) (hb : b ≤ 68) (hy : y % 16 ≤ 4) : q3 (n + 1) (b + 256 * y) = b3 b + 256 * q3 n y := by
  unfold q3
  show ((b + 256 * y) / 16 + (b + 256 * y) &&& (15 + 256 * msk 15 n)) = _
  have e : (b + 256 * y) / 16 + (b + 256 * y) = (b / 16 + 16 * (y % 16) + b) + 256 * (y / 16 + y) := by omega
  rw [e, and_split _ _ _ _ (by omega) (by omega), eq_of_beq (allB_at (allB_at b3_hi b (by omega)) (y % 16) (by omega))]
theorem q_all : ∀ (n x : Nat), x < 256 ^ n → q2 n (q1 n x) % 16 ≤ 4 ∧ q3 n (q2 n (q1 n x)) = sp n x
  | 0, x, h => by
    have : x = 0 := by simp at h; omega
    subst this
    exact ⟨by decide, by decide⟩
  | n + 1, x, h => by
    have hx : x = x % 256 + 256 * (x / 256) := by omega
    have hb : x % 256 < 256 := by omega
    have hy : x / 256 < 256 ^ n := by rw [Nat.pow_succ] at h; omega
    obtain ⟨h1, h2⟩ := q_all n (x / 256) hy
    have k1 := of_decide_eq_true (allB_at b1_lt _ hb)
    have k2 := allB_at b2_lt _ hb
    simp only [Bool.and_eq_true, decide_eq_true_eq] at k2
    have k3 := eq_of_beq (allB_at b3_pop _ hb)
    have e : q2 (n + 1) (q1 (n + 1) x) = b2 (b1 (x % 256)) + 256 * q2 n (q1 n (x / 256)) := by
      conv => lhs; rw [hx]
      rw [q1_step n _ _ hb, q2_step n _ _ k1]
    rw [e]
    refine ⟨by omega, ?_⟩
    rw [q3_step n _ _ k2.1 h1, h2, k3]
    rfl
theorem pop_le (x n : Nat) : pop x n ≤ n := cntB_le _ _
theorem dv (K r q : Nat) (h : r < K) : (r + K * q) / K = q := by
  rw [Nat.add_mul_div_left _ _ (by omega), Nat.div_eq_of_lt h, Nat.zero_add]
theorem swar (v0 v1 v2 v3 v4 v5 v6 v7 : Nat) (p0 : v0 ≤ 8) (p1 : v1 ≤ 8) (p2 : v2 ≤ 8) (p3 : v3 ≤ 8) (p4 : v4 ≤ 8) (p5 : v5 ≤ 8) (p6 : v6 ≤ 8) (p7 : v7 ≤ 8)
    (a b c d : Nat) (ha : a = v0 + 256 * (v1 + 256 * (v2 + 256 * (v3 + 256 * (v4 + 256 * (v5 + 256 * (v6 + 256 * (v7 + 256 * 0)))))))) (hb : b = a + a / 256) (hc : c = b + b / 65536) (hd : d = c + c / 4294967296) :
    d % 128 = v0 + (v1 + (v2 + (v3 + (v4 + (v5 + (v6 + (v7 + 0))))))) := by
  have ea : a / 256 = v1 + 256 * (v2 + 256 * (v3 + 256 * (v4 + 256 * (v5 + 256 * (v6 + 256 * v7))))) := by
    rw [show a = v0 + 256 * (v1 + 256 * (v2 + 256 * (v3 + 256 * (v4 + 256 * (v5 + 256 * (v6 + 256 * v7)))))) by omega]
    exact dv _ _ _ (by omega)
  have eb : b = (v0 + v1) + 256 * ((v1 + v2) + 256 * ((v2 + v3) + 256 * ((v3 + v4) + 256 * ((v4 + v5) + 256 * ((v5 + v6) + 256 * ((v6 + v7) + 256 * v7)))))) := by
    rw [hb, ea, ha]; omega
  have eb2 : b / 65536 = (v2 + v3) + 256 * ((v3 + v4) + 256 * ((v4 + v5) + 256 * ((v5 + v6) + 256 * ((v6 + v7) + 256 * v7)))) := by
    rw [show b = ((v0 + v1) + 256 * (v1 + v2)) + 65536 * ((v2 + v3) + 256 * ((v3 + v4) + 256 * ((v4 + v5) + 256 * ((v5 + v6) + 256 * ((v6 + v7) + 256 * v7))))) by rw [eb]; omega]
    exact dv _ _ _ (by omega)
  have ec : c = ((v0 + v1 + v2 + v3) + 256 * (v1 + v2 + v3 + v4) + 65536 * (v2 + v3 + v4 + v5) + 16777216 * (v3 + v4 + v5 + v6)) + 4294967296 * ((v4 + v5 + v6 + v7) + 256 * ((v5 + v6 + v7) + 256 * ((v6 + v7) + 256 * v7))) := by
    rw [hc, eb2, eb]; omega
  have ec2 : c / 4294967296 = (v4 + v5 + v6 + v7) + 256 * ((v5 + v6 + v7) + 256 * ((v6 + v7) + 256 * v7)) := by
    rw [ec]
    exact dv _ _ _ (by omega)
  have ed : d = (v0 + v1 + v2 + v3 + v4 + v5 + v6 + v7) + 128 * (2 * (v1 + v2 + v3 + v4 + v5 + v6 + v7) + 512 * (v2 + v3 + v4 + v5 + v6 + v7) + 131072 * (v3 + v4 + v5 + v6 + v7) + 33554432 * ((v4 + v5 + v6 + v7) + 256 * ((v5 + v6 + v7) + 256 * ((v6 + v7) + 256 * v7)))) := by
    rw [hd, ec2, ec]; clear hd hc hb ha ea eb eb2 ec ec2 p0 p1 p2 p3 p4 p5 p6 p7; omega
  rw [ed]
  clear hd hc hb ha ea eb eb2 ec ec2 ed
  rw [Nat.add_mul_mod_self_left, Nat.mod_eq_of_lt (by omega)]
  omega
/-- the bits of a word, as the library counts them -/
def ones (x : Nat) : Nat :=
  let a := q3 8 (q2 8 (q1 8 x))
  let b := a + a / 256
  let c := b + b / 65536
  let d := c + c / 4294967296
  d % 128
theorem ones_pop {x : Nat} (h : x < 2 ^ 64) : ones x = pop x 64 := by
  have h2 := (q_all 8 x (by simpa using h)).2
  unfold ones
  rw [h2]
  have e : pop x 64 = pop (x % 256) 8 + (pop (x / 256 % 256) 8 + (pop (x / 256 / 256 % 256) 8 + (pop (x / 256 / 256 / 256 % 256) 8 + (pop (x / 256 / 256 / 256 / 256 % 256) 8 + (pop (x / 256 / 256 / 256 / 256 / 256 % 256) 8 + (pop (x / 256 / 256 / 256 / 256 / 256 / 256 % 256) 8 + (pop (x / 256 / 256 / 256 / 256 / 256 / 256 / 256 % 256) 8 + pop (x / 256 / 256 / 256 / 256 / 256 / 256 / 256 / 256) 0))))))) := by
    rw [show 64 = 8 + 56 from rfl, pop_split, show 56 = 8 + 48 from rfl, pop_split, show 48 = 8 + 40 from rfl, pop_split, show 40 = 8 + 32 from rfl, pop_split, show 32 = 8 + 24 from rfl, pop_split,
      show 24 = 8 + 16 from rfl, pop_split, show 16 = 8 + 8 from rfl, pop_split, show pop (x / 256 / 256 / 256 / 256 / 256 / 256 / 256) 8 = pop (x / 256 / 256 / 256 / 256 / 256 / 256 / 256) (8 + 0) from rfl, pop_split]
  rw [e]
  have p0 := pop_le (x % 256) 8
  have p1 := pop_le (x / 256 % 256) 8
  have p2 := pop_le (x / 256 / 256 % 256) 8
  have p3 := pop_le (x / 256 / 256 / 256 % 256) 8
  have p4 := pop_le (x / 256 / 256 / 256 / 256 % 256) 8
  have p5 := pop_le (x / 256 / 256 / 256 / 256 / 256 % 256) 8
  have p6 := pop_le (x / 256 / 256 / 256 / 256 / 256 / 256 % 256) 8
  have p7 := pop_le (x / 256 / 256 / 256 / 256 / 256 / 256 / 256 % 256) 8
  show (let a := pop (x % 256) 8 + 256 * (pop (x / 256 % 256) 8 + 256 * (pop (x / 256 / 256 % 256) 8 + 256 * (pop (x / 256 / 256 / 256 % 256) 8 + 256 * (pop (x / 256 / 256 / 256 / 256 % 256) 8 + 256 * (pop (x / 256 / 256 / 256 / 256 / 256 % 256) 8 + 256 * (pop (x / 256 / 256 / 256 / 256 / 256 / 256 % 256) 8 + 256 * (pop (x / 256 / 256 / 256 / 256 / 256 / 256 / 256 % 256) 8 + 256 * 0)))))));
    let b := a + a / 256; let c := b + b / 65536; let d := c + c / 4294967296; d % 128) = _
  have p8 : pop (x / 256 / 256 / 256 / 256 / 256 / 256 / 256 / 256) 0 = 0 := rfl
  rw [p8]
  generalize pop (x % 256) 8 = v0 at *
  generalize pop (x / 256 % 256) 8 = v1 at *
  generalize pop (x / 256 / 256 % 256) 8 = v2 at *
  generalize pop (x / 256 / 256 / 256 % 256) 8 = v3 at *
  generalize pop (x / 256 / 256 / 256 / 256 % 256) 8 = v4 at *
  generalize pop (x / 256 / 256 / 256 / 256 / 256 % 256) 8 = v5 at *
  generalize pop (x / 256 / 256 / 256 / 256 / 256 / 256 % 256) 8 = v6 at *
  generalize pop (x / 256 / 256 / 256 / 256 / 256 / 256 / 256 % 256) 8 = v7 at *
  clear h h2 e
  exact swar v0 v1 v2 v3 v4 v5 v6 v7 p0 p1 p2 p3 p4 p5 p6 p7 _ _ _ _ rfl rfl rfl rfl
/-! ### words of a list of bits; ranks -/
def bt (l : List Bool) (k : Nat) : Bool := l.getD k false
theorem bt_past {l : List Bool} {k : Nat} (h : l.length ≤ k) : bt l k = false := by
  unfold bt
  rw [List.getD_eq_getElem?_getD, List.getElem?_eq_none h]
  rfl
theorem bt_at {l : List Bool} {k : Nat} (h : k < l.length) : bt l k = l[k] := by
  unfold bt
  rw [List.getD_eq_getElem?_getD, List.getElem?_eq_getElem h]
  rfl
def rk (l : List Bool) (i : Nat) : Nat := cntB (bt l) i
theorem rk_le (l : List Bool) (i : Nat) : rk l i ≤ i := cntB_le _ _
theorem rk_past {l : List Bool} {i : Nat} (h : l.length ≤ i) : rk l i = rk l l.length := by
  obtain ⟨k, rfl⟩ := Nat.exists_eq_add_of_le h
  unfold rk
  rw [cntB_add, show cntB (fun i => bt l (l.length + i)) k = cntB (fun _ => false) k from cntB_congr fun i _ => bt_past (by omega), cntB_false, Nat.add_zero]
/-- these words hold the first k bits -/
structure WP (ws : List Nat) (l : List Bool) (k : Nat) : Prop where
  len : ws.length = (l.length + 63) / 64
  lt : ∀ x ∈ ws, x < 2 ^ 64
  bit : ∀ j (h : j < ws.length) i, i < 64 → ws[j].testBit i = (decide (64 * j + i < k) && bt l (64 * j + i))
theorem WP.zero (l : List Bool) : WP (List.replicate ((l.length + 63) / 64) 0) l 0 := by
  refine ⟨by simp, fun x hx => ?_, fun j h i hi => ?_⟩
  · rw [List.eq_of_mem_replicate hx]; decide
  · simp
theorem WP.skip {ws : List Nat} {l : List Bool} {k : Nat} (h : WP ws l k) (hb : bt l k = false) : WP ws l (k + 1) := by
  refine ⟨h.len, h.lt, fun j hj i hi => ?_⟩
  rw [h.bit j hj i hi]
  by_cases e : 64 * j + i = k
  · rw [e, hb]; simp
  · congr 1
    exact decide_eq_decide.2 (by omega)
theorem WP.put {ws : List Nat} {l : List Bool} {k : Nat} (h : WP ws l k) (hb : bt l k = true) (hk : k / 64 < ws.length) : WP (ws.set (k / 64) (ws[k / 64] ||| 1 * 2 ^ (k % 64) % 2 ^ 64)) l (k + 1) := by
  have hlt : ws[k / 64] ||| 1 * 2 ^ (k % 64) % 2 ^ 64 < 2 ^ 64 := Nat.or_lt_two_pow (h.lt _ (List.getElem_mem hk)) (Nat.mod_lt _ (by decide))
  refine ⟨by rw [List.length_set]; exact h.len, fun x hx => ?_, fun j hj i hi => ?_⟩
  · rcases List.mem_or_eq_of_mem_set hx with hx | rfl
    · exact h.lt x hx
    · exact hlt
  · rw [List.length_set] at hj
    have hk6 : k % 64 < 64 := Nat.mod_lt _ (by decide)
    by_cases e : j = k / 64
    · subst e
      rw [List.getElem_set_self, Nat.testBit_or, h.bit _ hj i hi, Nat.testBit_mod_two_pow, Nat.one_mul, Nat.testBit_two_pow]
      by_cases e2 : 64 * (k / 64) + i = k
      · rw [e2, hb]
        have : k % 64 = i := by omega
        simp [this, hi]
      · have h3 : ¬ k % 64 = i := by omega
        simp only [h3, decide_false, Bool.and_false, Bool.or_false]
        congr 1
        exact decide_eq_decide.2 (by omega)
    · rw [List.getElem_set_ne (fun e' => e e'.symm), h.bit j hj i hi]
      congr 1
      exact decide_eq_decide.2 (by omega)
theorem WP.bits {ws : List Nat} {l : List Bool} (h : WP ws l l.length) {j : Nat} (hj : j < ws.length) {i : Nat} (hi : i < 64) : ws[j].testBit i = bt l (64 * j + i) := by
  rw [h.bit j hj i hi]
  by_cases e : 64 * j + i < l.length
  · simp [e]
  · rw [bt_past (by omega)]; simp
theorem WP.rank {ws : List Nat} {l : List Bool} (h : WP ws l l.length) {j r : Nat} (hj : j < ws.length) (hr : r ≤ 64) : rk l (64 * j + r) = rk l (64 * j) + pop ws[j] r := by
  unfold rk pop
  rw [cntB_add]
  congr 1
  exact cntB_congr fun i hi => (h.bits hj (by omega)).symm
theorem pop_mod (x r : Nat) (hr : r ≤ 64) : pop (x % 2 ^ r) 64 = pop x r := by
  unfold pop
  rw [show 64 = r + (64 - r) by omega, cntB_add, show cntB (fun i => (x % 2 ^ r).testBit (r + i)) (64 - r) = cntB (fun _ => false) (64 - r) from cntB_congr fun i _ => by rw [Nat.testBit_mod_two_pow, decide_eq_false (show ¬ r + i < r by omega), Bool.false_and], cntB_false, Nat.add_zero]
  exact cntB_congr fun i hi => by rw [Nat.testBit_mod_two_pow]; simp [hi]
theorem pop_and (x r : Nat) (hr : r ≤ 64) : pop (x &&& (2 ^ r - 1)) 64 = pop x r := by
  rw [Nat.and_two_pow_sub_one_eq_mod, pop_mod x r hr]
theorem one_shl (r : Nat) (hr : r < 64) : 1 * 2 ^ r % 2 ^ 64 = 2 ^ r := by
  rw [Nat.one_mul, Nat.mod_eq_of_lt (Nat.pow_lt_pow_right (by decide) hr)]
theorem WP.rankm {ws : List Nat} {l : List Bool} (h : WP ws l l.length) {i : Nat} (hj : i / 64 < ws.length) : rk l i = rk l (64 * (i / 64)) + pop (ws[i / 64] &&& (1 * 2 ^ (i % 64) % 2 ^ 64 - 1)) 64 := by
  rw [one_shl _ (by omega), pop_and _ _ (by omega), ← h.rank hj (by omega), Nat.div_add_mod]
theorem WP.rankw {ws : List Nat} {l : List Bool} (h : WP ws l l.length) {j : Nat} (hj : j < ws.length) : rk l (64 * (j + 1)) = rk l (64 * j) + pop ws[j] 64 := by
  rw [← h.rank hj (Nat.le_refl _), Nat.mul_succ]
theorem q1_eq (x : Nat) : q1 8 x = (x / 2 ^ 1 &&& 6148914691236517205) + (x &&& 6148914691236517205) := rfl
theorem q2_eq (x : Nat) : q2 8 x = (x / 2 ^ 2 &&& 3689348814741910323) + (x &&& 3689348814741910323) := rfl
theorem q3_eq (x : Nat) : q3 8 x = (x / 2 ^ 4 + x) &&& 1085102592571150095 := rfl
theorem and_le2 (a b m : Nat) : (a &&& m) + (b &&& m) ≤ 2 * m := by
  have h1 : a &&& m ≤ m := Nat.and_le_right
  have h2 : b &&& m ≤ m := Nat.and_le_right
  omega

end Go.Proofs.YtllmocjfllbbfaaGreat

namespace Go.Proofs.YtllmocjfllbbfaaGreat
open Go.RowKit

theorem BitsNew_s118 : (Tryz.prog.underlying 118).isSome = true := by kernel_rfl
theorem BitsNew_i3 : Tryz.prog.underlying 3 = some (.int .i64) := by kernel_rfl
theorem BitsNew_o142 : zeroQ Tryz.prog 142 = some (.agg #[.slice none 0 0, .int .i64 0]) := by kernel_rfl
theorem BitsNew_l119 : (elemQ Tryz.prog 119).isSome = true := by kernel_rfl
theorem BitsNew_m140 : makeQ Tryz.prog 140 = some (118, 8, (.int .u64 0)) := by kernel_rfl
theorem BitsNew_b142_0_1 : ∀ (a0 : Option Addr) (a1 a2 : Nat) (a3 : Int), Tryz.prog.built 142 [(0, .slice a0 a1 a2), (1, .int .i64 a3)] = some #[.slice a0 a1 a2, .int .i64 a3] := by intros; kernel_rfl
theorem BitsNew_z142 : sizeQ Tryz.prog 142 = some 2 := by kernel_rfl
theorem BitsNew_e119 : elemQ Tryz.prog 119 = some (4, 1) := by kernel_rfl
theorem BitsNew_g4 : aggQ Tryz.prog 4 = some false := by kernel_rfl
theorem BitsNew_f142_0 : fieldQ Tryz.prog 142 0 = some 0 := by kernel_rfl
theorem BitsNew_g140 : aggQ Tryz.prog 140 = some false := by kernel_rfl
theorem BitsNew_e140 : elemQ Tryz.prog 140 = some (118, 1) := by kernel_rfl
theorem BitsNew_g118 : aggQ Tryz.prog 118 = some false := by kernel_rfl
theorem BitsNew_z118 : sizeQ Tryz.prog 118 = some 1 := by kernel_rfl
theorem BitsNew_g142 : aggQ Tryz.prog 142 = some true := by kernel_rfl
theorem BitsNew_q46 : litQ Tryz.prog 53 = some (21, 1, 4, (.int .i32 0)) := by kernel_rfl
theorem BitsNew_k83 : callable Tryz.prog 83 = true := by kernel_rfl
theorem BitsNew_b145_0 : ∀ (a0 : Option Addr) (a1 a2 : Nat) (a3 : Int), Tryz.prog.built 145 [(0, .agg #[.slice a0 a1 a2, .int .i64 a3])] = some #[.slice a0 a1 a2, .int .i64 a3, .slice none 0 0, .int .i64 0] := by intros; kernel_rfl
theorem BitsNew_f145_0 : fieldQ Tryz.prog 145 0 = some 0 := by kernel_rfl
theorem BitsNew_l140 : (elemQ Tryz.prog 140).isSome = true := by kernel_rfl
theorem BitsNew_f145_1 : fieldQ Tryz.prog 145 1 = some 2 := by kernel_rfl
theorem BitsNew_g53 : aggQ Tryz.prog 53 = some false := by kernel_rfl
theorem BitsNew_f145_2 : fieldQ Tryz.prog 145 2 = some 3 := by kernel_rfl
theorem BitsNew_g3 : aggQ Tryz.prog 3 = some false := by kernel_rfl
theorem BitsNew_z53 : sizeQ Tryz.prog 53 = some 1 := by kernel_rfl
theorem BitsNew_k84 : callable Tryz.prog 84 = true := by kernel_rfl
theorem BitsNew_z3 : sizeQ Tryz.prog 3 = some 1 := by kernel_rfl
abbrev boV (x : Bool) : Value := .bool x
abbrev jN (x : Nat) : Value := .int .i32 x
/-- a vector of these bits; all that it holds lies at base or above -/
def Vec (w : World) (base b : Nat) (l : List Bool) : Prop := ∃ (gw : Nat) (Aa : Option Addr) (ca : Nat) (ws rs : List Nat), base ≤ b ∧ base ≤ gw ∧
  Blk w b 145 #[.slice (some ⟨gw, 0, none⟩) ws.length ws.length, .int .i64 (l.length : Nat), .slice Aa rs.length ca, .int .i64 (rk l l.length : Nat)] ∧ Blk w gw 118 (ws.map uV).toArray ∧ w.ownsRow base 21 1 (.slice Aa rs.length ca) rs.length (rs.map jN) ∧
  WP ws l l.length ∧ rs.length = (ws.length + 7) / 8 ∧ (∀ j (h : j < rs.length), rs[j] = rk l (512 * j)) ∧ l.length ≤ 1048576
theorem Vec.from_ {w w' : World} {base b : Nat} {l : List Bool} (h : Vec w base b l) (hF : From w w') : Vec w' base b l := by
  obtain ⟨gw, Aa, ca, ws, rs, h1, h2, h3, h4, h5, h6⟩ := h
  exact ⟨gw, Aa, ca, ws, rs, h1, h2, h3.from_ hF, h4.from_ hF, h5.kept_from hF, h6⟩
theorem Vec.grown {w w' : World} {base b : Nat} {l : List Bool} {r : Option Nat} (h : Vec w base b l) (hg : w.grownBy w' r) (hne : ∀ k, r = some k → k < base) : Vec w' base b l := by
  obtain ⟨gw, Aa, ca, ws, rs, h1, h2, h3, h4, h5, h6⟩ := h
  exact ⟨gw, Aa, ca, ws, rs, h1, h2, h3.grown hg (fun k hk => by have := hne k hk; omega), h4.grown hg (fun k hk => by have := hne k hk; omega), own_kept h5 hg hne, h6⟩
theorem arr_at {α : Type} {f : α → Value} {l : List α} (i : Nat) (h : i < l.length) : (l.map f).toArray[i]? = some (f l[i]) := by simp [h]
theorem arr_set {α : Type} {f : α → Value} {l : List α} (i : Nat) (x : α) : ((l.map f).toArray.setIfInBounds i (f x)) = ((l.set i x).map f).toArray := by
  rw [List.setIfInBounds_toArray, List.map_set]
set_option maxHeartbeats 400000 in
theorem onesCount (x : Nat) (w : World) (hx : x < 2 ^ 64) :
    Rt Tryz.prog 84 [.int .u64 (x : Nat)] w (fun v w' => v = .int .i64 (pop x 64 : Nat) ∧ w = w') := by
  have h1 := and_le2 (x / 2 ^ 1) x 6148914691236517205
  rw [← q1_eq] at h1
  have h2 := and_le2 (q1 8 x / 2 ^ 2) (q1 8 x) 3689348814741910323
  rw [← q2_eq] at h2
  obtain ⟨a, ha⟩ : ∃ a, a = q3 8 (q2 8 (q1 8 x)) := ⟨_, rfl⟩
  have h3 : a ≤ 1085102592571150095 := by rw [ha, q3_eq]; exact Nat.and_le_right
  have ho := ones_pop hx
  unfold ones at ho
  rw [← ha] at ho
  simp only at ho
  obtain ⟨x1, hx1⟩ : ∃ x1, x1 = q1 8 x := ⟨_, rfl⟩
  rw [← hx1] at h1 h2 ha
  obtain ⟨x2, hx2⟩ : ∃ x2, x2 = q2 8 x1 := ⟨_, rfl⟩
  rw [← hx2] at h2 ha
  refine enter (n := 35) Tryz.func84 rfl rfl rfl ?_
  refine cd_seq (cd_region ?_)
  refine asi rfl ?_
  refine st_nil (nx_then (cd_seq (cd_region ?_)))
  refine mvi rfl ?_
  refine st_val (ro_shrN (b := 1) rfl rfl (by decide)) ?_
  refine st_val (ro_andN (b := 6148914691236517205) rfl rfl (by exact ⟨by omega, by decide⟩)) ?_
  refine mvi rfl ?_
  refine st_val (ro_andN (b := 6148914691236517205) rfl rfl (by exact ⟨hx, by decide⟩)) ?_
  refine st_val (ro_addU rfl rfl (by have h := h1; rw [hx1, q1_eq] at h; omega)) ?_
  refine st_spell (t := 8) (v := .int _ _) (v' := .int .u64 (x1 : Nat)) rfl (by rw [hx1, q1_eq]) ?_
  refine asi rfl ?_
  refine st_nil (nx_then (cd_seq (cd_region ?_)))
  refine mvi rfl ?_
  refine st_val (ro_shrN (b := 2) rfl rfl (by decide)) ?_
  refine st_val (ro_andN (b := 3689348814741910323) rfl rfl (by exact ⟨by omega, by decide⟩)) ?_
  refine mvi rfl ?_
  refine st_val (ro_andN (b := 3689348814741910323) rfl rfl (by exact ⟨by omega, by decide⟩)) ?_
  refine st_val (ro_addU rfl rfl (by have h := h2; rw [hx2, q2_eq] at h; omega)) ?_
  refine st_spell (t := 14) (v := .int _ _) (v' := .int .u64 (x2 : Nat)) rfl (by rw [hx2, q2_eq]) ?_
  refine asi rfl ?_
  refine st_nil (nx_then (cd_seq (cd_region ?_)))
  refine mvi rfl ?_
  refine st_val (ro_shrN (b := 4) rfl rfl (by decide)) ?_
  refine mvi rfl ?_
  refine st_val (ro_addU rfl rfl (by omega)) ?_
  refine st_val (ro_andN (b := 1085102592571150095) rfl rfl (by exact ⟨by omega, by decide⟩)) ?_
  refine st_spell (t := 19) (v := .int _ _) (v' := .int .u64 (a : Nat)) rfl (by rw [ha, q3_eq]) ?_
  refine asi rfl ?_
  refine st_nil (nx_then (cd_seq (cd_region ?_)))
  refine mvi rfl ?_
  refine mvi rfl ?_
  refine st_val (ro_shrN (b := 8) rfl rfl (by decide)) ?_
  refine st_val (ro_addU rfl rfl (by omega)) ?_
  refine asi rfl ?_
  refine st_nil (nx_then (cd_seq (cd_region ?_)))
  refine mvi rfl ?_
  refine mvi rfl ?_
  refine st_val (ro_shrN (b := 16) rfl rfl (by decide)) ?_
  refine st_val (ro_addU rfl rfl (by omega)) ?_
  refine asi rfl ?_
  refine st_nil (nx_then (cd_seq (cd_region ?_)))
  refine mvi rfl ?_
  refine mvi rfl ?_
  refine st_val (ro_shrN (b := 32) rfl rfl (by decide)) ?_
  refine st_val (ro_addU rfl rfl (by omega)) ?_
  refine asi rfl ?_
  refine st_nil (nx_then (cd_seq (cd_region ?_)))
  refine mvi rfl ?_
  refine st_val (ro_convI BitsNew_s118 BitsNew_i3 rfl (by omega)) ?_
  refine st_val (ro_andI (b := 127) rfl rfl ⟨by omega, by decide⟩) ?_
  refine asi rfl ?_
  refine st_nil (nx_then (cd_ret ?_))
  refine res1 (v := .int _ _) rfl rfl ?_
  refine ⟨?_, rfl⟩
  rw [show (127 : Nat) = 2 ^ 7 - 1 from rfl, Nat.and_two_pow_sub_one_eq_mod, ← ho]
set_option maxHeartbeats 400000 in
theorem pack_rt (A : Option Addr) (c : Nat) (l : List Bool) (w : World) (hr : RowOf boV w A l) (hl : l.length ≤ 1048576) :
    Rt Tryz.prog 83 [.slice A l.length c] w (fun v w' => ∃ gw ws, v = .agg #[.slice (some ⟨gw, 0, none⟩) ws.length ws.length, .int .i64 (l.length : Nat)] ∧ w.heap.size ≤ gw ∧ Blk w' gw 118 (ws.map uV).toArray ∧ WP ws l l.length ∧ From w w') := by
  refine enter (n := 36) Tryz.func83 rfl rfl rfl ?_
  refine cd_seq (cd_region ?_)
  refine st_alloc BitsNew_o142 ?_
  intro b2 w1 E2 hb2 hk2
  have hl2 := hk2.lt
  refine st_nil (nx_then (cd_seq (cd_region ?_)))
  refine mvs rfl ?_
  refine st_val (ro_len BitsNew_l119 rfl) ?_
  refine st_val (ro_addN (b := 64) rfl rfl (by omega)) ?_
  refine st_val (ro_subN (b := 1) rfl rfl (by omega)) ?_
  refine st_val (ro_quoN (b := 64) rfl rfl (by omega)) ?_
  refine st_make BitsNew_m140 rfl rfl rfl (by omega) (by omega) ?_
  intro b11 w2 E11 hb11 hk11
  have hl11 := hk11.lt
  replace hk2 := hk2.from_ E11
  have hg11 : w.heap.size ≤ b11 := by rw [hb11]; exact ((From.rfl_.next E2)).size
  refine mvs rfl ?_
  refine st_val (ro_len BitsNew_l119 rfl) ?_
  refine st_val (ro_build (l := [(0, .tmp 11), (1, .tmp 13)]) (BitsNew_b142_0_1 _ _ _ _)) ?_
  refine st_alloc BitsNew_o142 ?_
  intro b3 w3 E3 hb3 hk3
  have hl3 := hk3.lt
  replace hk2 := hk2.from_ E3
  have hg3 : w.heap.size ≤ b3 := by rw [hb3]; exact (((From.rfl_.next E2).next E11)).size
  have hg2 : w.heap.size ≤ b2 := by rw [hb2]; exact Nat.le_refl _
  refine st_putW (vs := [_, _]) BitsNew_z142 rfl rfl (by simp [Value.oneCell']) (hk3) rfl ?_
  intro w4 O1 P1
  replace hk2 := hk2.only O1 (by omega)
  refine st_nil (nx_then (cd_seq (cd_seq (cd_region ?_))))
  refine mvs rfl ?_
  refine st_val (ro_len BitsNew_l119 rfl) ?_
  refine mvi rfl ?_
  refine st_nil (nx_then (cd_block ?_))
  refine cd_loop (G := List Nat × Nat) [4, 5, 18, 19, 20, 21, 22, 23, 24, 25, 26, 27, 28, 29, 30, 31, 32, 33, 34] (fun (_, k) => [(17, .int .i64 (k : Nat))]) (fun (ws, k) w' => k ≤ l.length ∧ WP ws l k ∧ Blk w' b3 142 #[.slice (some ⟨b11, 0, none⟩) ((l.length + 63) / 64) ((l.length + 63) / 64), .int .i64 (l.length : Nat)] ∧ Blk w' b11 118 (ws.map uV).toArray ∧ Blk w' b2 142 #[.slice none 0 0, .int .i64 0] ∧ From w w') (fun (_, k) => l.length - k) ((List.replicate ((l.length + 63) / 64) 0, 0)) ⟨rfl, trivial⟩ ?_ ?_
  · refine ⟨Nat.zero_le _, WP.zero l, P1, ?_, hk2, ((((From.rfl_.next E2).next E11).next E3).only O1 (hg3))⟩
    rw [List.map_replicate]
    exact (hk11.from_ E3).only O1 (by omega)
  rintro ⟨ws, k⟩ ρ5 w5 ⟨hk, hW, hP3, hP11, hP2, hB⟩
  refine cd_seq (cd_region ?_)
  refine st_val (ro_lss rfl rfl) ?_
  refine st_nil (nx_then (cd_seq ?_))
  refine cd_cond rfl (fun Q6 => ?_) (fun Q6 => ?_)
  · replace Q6 := of_decide_eq_true Q6
    obtain ⟨ba, oa, rfl, ca⟩ := hr (by omega)
    refine cd_skip (nx_then (cd_seq (cd_block (cd_seq (cd_region ?_)))))
    refine mvi rfl ?_
    refine st_val (ro_indexAddr1 BitsNew_e119 rfl rfl (by omega)) ?_
    refine st_val (ro_load BitsNew_g4 rfl (by exact cellF hB (ca k (by omega)))) ?_
    refine asi rfl ?_
    refine asb rfl ?_
    refine st_nil (nx_then (cd_seq (cd_region ?_)))
    refine mvb rfl ?_
    refine st_nil (nx_then ?_)
    refine cd_cond rfl (fun Q7 => ?_) (fun Q7 => ?_)
    · have hbk : bt l k = true := (bt_at (by omega)).trans Q7
      apply cd_drawn 11 [(23, eqp _), (24, eqp _), (25, eqp _), (26, eqp _), (27, eqp _), (28, eqp _), (29, eqp _), (30, eqp _), (31, eqp _), (32, eqp _), (33, eqp _)] (by kernel_rfl) (by kernel_rfl) ⟨eqp_mono _, eqp_mono _, eqp_mono _, eqp_mono _, eqp_mono _, eqp_mono _, eqp_mono _, eqp_mono _, eqp_mono _, eqp_mono _, eqp_mono _, trivial⟩
      case hop =>
       refine ⟨?_, ?_⟩
       · intro w9 D9
         show OpOK _ _ _ _ _ _ _
         exact ok_pure (ro_fieldAddr BitsNew_f142_0 rfl) rfl
       refine ⟨?_, ?_⟩
       · intro w10 D10
         rintro _ rfl
         show OpOK _ _ _ _ _ _ _
         exact ok_pure (ro_load BitsNew_g140 rfl (by exact (hP3.from_ (From.rfl_.next D10)).rd 0 rfl)) rfl
       refine ⟨?_, ?_⟩
       · intro w11 D11
         show OpOK _ _ _ _ _ _ _
         exact ok_pure (ro_move (v := .int _ _) rfl) rfl
       refine ⟨?_, ?_⟩
       · intro w12 D12
         rintro _ rfl
         show OpOK _ _ _ _ _ _ _
         exact ok_pure (ro_quoN (b := 64) rfl rfl (by omega)) rfl
       refine ⟨?_, ?_⟩
       · intro w13 D13
         rintro _ rfl _ rfl
         show OpOK _ _ _ _ _ _ _
         exact ok_pure (ro_indexAddr0 BitsNew_e140 rfl rfl (by omega)) rfl
       refine ⟨?_, ?_⟩
       · intro w14 D14
         rintro _ rfl
         show OpOK _ _ _ _ _ _ _
         exact ok_pure (ro_load BitsNew_g118 rfl (by exact (hP11.from_ (From.rfl_.next D14)).rd _ (arr_at (k / 64) (by rw [hW.len]; omega)))) rfl
       refine ⟨?_, ?_⟩
       · intro w15 D15
         show OpOK _ _ _ _ _ _ _
         exact ok_pure (ro_move (v := .int _ _) rfl) rfl
       refine ⟨?_, ?_⟩
       · intro w16 D16
         rintro _ rfl
         show OpOK _ _ _ _ _ _ _
         exact ok_pure (ro_remN (b := 64) rfl rfl (by decide)) rfl
       refine ⟨?_, ?_⟩
       · intro w17 D17
         rintro _ rfl
         show OpOK _ _ _ _ _ _ _
         exact ok_pure (ro_shlN (a := 1) rfl rfl (by exact Nat.le_of_lt (Nat.mod_lt _ (by decide)))) rfl
       refine ⟨?_, ?_⟩
       · intro w18 D18
         rintro _ rfl _ rfl
         show OpOK _ _ _ _ _ _ _
         exact ok_pure (ro_orN rfl rfl (by exact ⟨hW.lt _ (List.getElem_mem _), Nat.mod_lt _ (by decide)⟩)) rfl
       refine ⟨?_, ?_⟩
       · intro w19 D19
         rintro _ rfl _ rfl
         show OpOK _ _ _ _ _ _ _
         exact ok_pure (ro_indexAddr0 BitsNew_e140 rfl rfl (by omega)) rfl
       exact trivial
      case hend =>
       intro w20 D20
       rintro _ rfl _ rfl _ rfl _ rfl _ rfl _ rfl _ rfl _ rfl _ rfl _ rfl _ rfl
       show St _ _ _ _ _ _ _
       replace hP3 := hP3.from_ (From.rfl_.next D20)
       replace hP2 := hP2.from_ (From.rfl_.next D20)
       replace hP11 := hP11.from_ (From.rfl_.next D20)
       refine st_put (v := .int _ _) BitsNew_z118 rfl rfl rfl (hP11) (by simp; rw [hW.len]; omega) ?_
       intro w21 O6 P6
       rw [arr_set] at P6
       obtain ⟨ws2, hW2, hQ2⟩ : ∃ ws2, WP ws2 l (k + 1) ∧ Blk w21 b11 118 (ws2.map uV).toArray := ⟨_, hW.put hbk (by rw [hW.len]; omega), P6⟩
       refine st_nil (nx_block (nx_then (cd_region ?_)))
       refine st_val (ro_addN (b := 1) rfl rfl (by omega)) ?_
       refine mvi rfl ?_
       refine st_nil ?_
       refine nx_cut ((ws2, k + 1)) ⟨(by first | rfl | (refine int_eq ?_; omega)), trivial⟩ (by (iterate 40 refine agr_cons rfl ?_); exact agr_rfl) ⟨?_, ?_⟩
       · first | exact ⟨by omega, hW2, hP3.only O6 (by omega), hQ2, hP2.only O6 (by omega), ((hB.next D20).only O6 hg11)⟩ | exact ⟨by omega, hW2, hP3, hQ2, hP2, ((hB.next D20).only O6 hg11)⟩
       · show l.length - (k + 1) < l.length - k; omega
    have hbk : bt l k = false := (bt_at (by omega)).trans Q7
    obtain ⟨ws2, hW2, hQ2⟩ : ∃ ws2, WP ws2 l (k + 1) ∧ Blk w5 b11 118 (ws2.map uV).toArray := ⟨ws, hW.skip hbk, hP11⟩
    refine cd_skip (nx_block (nx_then (cd_region ?_)))
    refine st_val (ro_addN (b := 1) rfl rfl (by omega)) ?_
    refine mvi rfl ?_
    refine st_nil ?_
    refine nx_cut ((ws2, k + 1)) ⟨(by first | rfl | (refine int_eq ?_; omega)), trivial⟩ (by (iterate 29 refine agr_cons rfl ?_); exact agr_rfl) ⟨?_, ?_⟩
    · first | exact ⟨by omega, hW2, hP3.only O6 (by omega), hQ2, hP2.only O6 (by omega), hB⟩ | exact ⟨by omega, hW2, hP3, hQ2, hP2, hB⟩
    · show l.length - (k + 1) < l.length - k; omega
  replace Q6 := of_decide_eq_false Q6
  refine cd_exit ?_
  refine ex_then (ex_then (ex_block (nx_then (cd_seq (cd_region ?_)))))
  refine st_val (ro_loadA (cs := [_, _]) BitsNew_g142 BitsNew_z142 rfl (by exact hP3.whole)) ?_
  refine st_putW (vs := [_, _]) BitsNew_z142 rfl rfl (by simp [Value.oneCell']) (hP2) rfl ?_
  intro w22 O8 P8
  refine st_nil (nx_then (cd_ret ?_))
  refine resr1 rfl (rv_cellA (cs := [_, _]) BitsNew_g142 BitsNew_z142 rfl (by exact P8.whole)) ?_
  obtain rfl : k = l.length := by omega
  exact ⟨b11, ws, by rw [hW.len], hg11, hP11.only O8 (by omega), hW, (hB.only O8 (hg2))⟩
theorem own_only2 {w w' : World} {base e s n c g : Nat} {A : Option Addr} {xs : List Value} (h : w.ownsRow base e s (.slice A n c) n xs) (o : Only g w w') (hne : ∀ k, A.map (·.block) = some k → k ≠ g) : w'.ownsRow base e s (.slice A n c) n xs := by
  refine ⟨h.1, ?_⟩
  rcases h.2 with h2 | ⟨g', cap, cur, hv, hg, hh, r⟩
  · exact .inl h2
  · refine .inr ⟨g', cap, cur, hv, hg, ?_, r⟩
    simp only [Value.slice.injEq] at hv
    rw [o.block g' (hne g' (by rw [hv.1]; rfl))]
    exact hh
theorem own_ne {w : World} {base e s n c m g t : Nat} {A : Option Addr} {xs : List Value} {cs : Array Value} (h : w.ownsRow base e s (.slice A n c) m xs) (hb : Blk w g t cs) (hne : t ≠ e) : ∀ k, A.map (·.block) = some k → k ≠ g := by
  rintro k hk rfl
  rcases h.2 with ⟨h0, _⟩ | ⟨g', cap, cur, hv, hg, hh, r⟩
  · simp only [Value.slice.injEq] at h0
    rw [h0.1] at hk
    cases hk
  · simp only [Value.slice.injEq] at hv
    rw [hv.1] at hk
    simp only [Option.map_some, Option.some.injEq] at hk
    subst hk
    unfold Blk at hb
    rw [hh] at hb
    simp only [Option.some.injEq, Obj.cells.injEq] at hb
    exact hne hb.2.1.symm
set_option maxHeartbeats 1000000 in
theorem new_rt (A : Option Addr) (c : Nat) (l : List Bool) (w : World) (hr : RowOf boV w A l) (hl : l.length ≤ 1048576) :
    Rt Tryz.prog 63 [.slice A l.length c] w (fun v w' => ∃ b, v = .tuple #[.pointer (some ⟨b, 0, none⟩), .int .i64 0] ∧ Vec w' w.heap.size b l ∧ From w w') := by
  refine enter (n := 53) Tryz.func63 rfl rfl rfl ?_
  refine cd_seq (cd_region ?_)
  refine asp rfl ?_
  refine asi rfl ?_
  refine st_nil (nx_then (cd_seq (cd_seq (cd_region ?_))))
  refine mvs rfl ?_
  refine st_val (ro_len BitsNew_l119 rfl) ?_
  refine st_val (ro_gtr rfl rfl) ?_
  refine st_nil (nx_then ?_)
  refine cd_cond rfl (fun Q1 => ?_) (fun Q1 => ?_)
  · replace Q1 := of_decide_eq_true Q1
    exfalso; omega
  replace Q1 := of_decide_eq_false Q1
  refine cd_skip (nx_then (cd_seq (cd_region ?_)))
  refine mvs rfl ?_
  refine st_call BitsNew_k83 (pack_rt A c l _ hr hl) ?_
  rintro v11 w2 ⟨gw, ws, rfl, hgw0, hgw, hW, E11⟩
  refine st_val (ro_build (l := [(0, .tmp 11)]) (BitsNew_b145_0 _ _ _ _)) ?_
  refine st_box (v := .agg _) rfl ?_
  intro b13 w3 E13 hb13 hk13
  have hg13 : w.heap.size ≤ b13 := by rw [hb13]; exact ((From.rfl_.next E11)).size
  have hl13 := hgw.lt
  have hlen := hW.len
  refine asp rfl ?_
  refine st_nil (nx_then (cd_seq (cd_seq (cd_region ?_))))
  refine mvp rfl ?_
  refine st_val (ro_nilCheck rfl) ?_
  refine st_val (ro_fieldAddr BitsNew_f145_0 rfl) ?_
  refine st_val (ro_fieldAddr BitsNew_f142_0 rfl) ?_
  refine st_val (ro_load BitsNew_g140 rfl (by exact hk13.rd 0 rfl)) ?_
  refine st_val (ro_len BitsNew_l140 rfl) ?_
  refine mvi rfl ?_
  refine st_nil (nx_then (cd_block ?_))
  refine cd_loop (G := Nat × Option Addr × Nat × List Nat) [5, 6, 21, 22, 23, 24, 25, 26, 27, 28, 29, 30, 31, 32, 33, 34, 35, 36, 37, 38, 39, 40, 41, 42, 43, 44, 45, 46, 47, 48, 49, 50, 51] (fun (k, Aa, ca, rs) => [(20, .int .i64 (k : Nat))]) (fun (k, Aa, ca, rs) w' => k ≤ ws.length ∧ Blk w' b13 145 #[.slice (some ⟨gw, 0, none⟩) ws.length ws.length, .int .i64 (l.length : Nat), .slice Aa rs.length ca, .int .i64 (rk l (64 * k) : Nat)] ∧ Blk w' gw 118 (ws.map uV).toArray ∧ w'.ownsRow w.heap.size 21 1 (.slice Aa rs.length ca) rs.length (rs.map jN) ∧ rs.length = (k + 7) / 8 ∧ (∀ j (h : j < rs.length), rs[j] = rk l (512 * j)) ∧ From w w') (fun (k, _, _, _) => ws.length - k) ((0, none, 0, [])) ⟨rfl, trivial⟩ ?_ ?_
  · exact ⟨Nat.zero_le _, hk13, hgw.from_ E13, World.ownsRow_nil _ _ _ _, rfl, (fun j h => by simp at h), ((From.rfl_.next E11).next E13)⟩
  rintro ⟨k, Aa, ca, rs⟩ ρ4 w4 ⟨hk, hV, hgw, ho, hrl, hrs, hB⟩
  refine cd_seq (cd_region ?_)
  refine st_val (ro_lss rfl rfl) ?_
  refine st_nil (nx_then (cd_seq ?_))
  refine cd_cond rfl (fun Q5 => ?_) (fun Q5 => ?_)
  · replace Q5 := of_decide_eq_true Q5
    have hkw : k < ws.length := by omega
    refine cd_skip (nx_then (cd_seq (cd_block (cd_seq (cd_region ?_)))))
    refine mvi rfl ?_
    refine st_val (ro_indexAddr0 BitsNew_e140 rfl rfl (by omega)) ?_
    refine st_val (ro_load BitsNew_g118 rfl (by exact hgw.rd _ (arr_at k hkw))) ?_
    refine asi rfl ?_
    refine asi rfl ?_
    refine st_nil (nx_then ?_)
    refine cd_cut (G := Option Addr × Nat × List Nat) [25, 26, 27, 28, 29, 30, 31, 32, 33, 34, 35, 36, 37, 38, 39, 40, 41] (fun _ => []) (fun (A2, c2, rs2) w' => Blk w' b13 145 #[.slice (some ⟨gw, 0, none⟩) ws.length ws.length, .int .i64 (l.length : Nat), .slice A2 rs2.length c2, .int .i64 (rk l (64 * k) : Nat)] ∧ Blk w' gw 118 (ws.map uV).toArray ∧ w'.ownsRow w.heap.size 21 1 (.slice A2 rs2.length c2) rs2.length (rs2.map jN) ∧ rs2.length = (k + 1 + 7) / 8 ∧ (∀ j (h : j < rs2.length), rs2[j] = rk l (512 * j)) ∧ From w w') ?_ ?_
    · refine cd_seq (cd_region ?_)
      refine mvi rfl ?_
      refine st_val (ro_remN (b := 8) rfl rfl (by decide)) ?_
      refine st_val (ro_eql rfl rfl) ?_
      refine st_nil (nx_then ?_)
      refine cd_cond rfl (fun Q6 => ?_) (fun Q6 => ?_)
      · replace Q6 := be_t Q6
        have hk8 : k % 8 = 0 := by omega
        apply cd_mu 14 11 [38] [(28, eqp _), (29, eqp _), (30, eqp _), (31, eqp _), (32, eqp _), (33, eqp _), (34, eqp _), (35, eqp _), (36, eqp _), (37, eqp _), (38, fun v w' => ∃ g, v = .slice (some ⟨g, 0, none⟩) 1 1 ∧ Blk w' g 21 #[jN (rk l (64 * k))]), (39, fun v w' => ∃ A2 c2, v = .slice A2 (rs.length + 1) c2 ∧ w'.ownsRow w.heap.size 21 1 (.slice A2 (rs.length + 1) c2) (rs.length + 1) (rs.map jN ++ [jN (rk l (64 * k))])), (40, eqp _), (41, eqp _)] (fun w' => From w w' ∧ Blk w' b13 145 #[.slice (some ⟨gw, 0, none⟩) ws.length ws.length, .int .i64 (l.length : Nat), .slice Aa rs.length ca, .int .i64 (rk l (64 * k) : Nat)] ∧ Blk w' gw 118 (ws.map uV).toArray ∧ w'.ownsRow w.heap.size 21 1 (.slice Aa rs.length ca) rs.length (rs.map jN)) (fun w' => From w w' ∧ Blk w' b13 145 #[.slice (some ⟨gw, 0, none⟩) ws.length ws.length, .int .i64 (l.length : Nat), .slice Aa rs.length ca, .int .i64 (rk l (64 * k) : Nat)] ∧ Blk w' gw 118 (ws.map uV).toArray) (by repeat first | exact pq_body | refine pq_then ?_ | refine pq_block ?_) (by kernel_rfl) (by kernel_rfl) (by kernel_rfl) ⟨eqp_mono _, eqp_mono _, eqp_mono _, eqp_mono _, eqp_mono _, eqp_mono _, eqp_mono _, eqp_mono _, eqp_mono _, eqp_mono _, (fun _ _ _ hF ⟨g, h1, h2⟩ => ⟨g, h1, h2.from_ hF⟩), (fun _ _ _ hF ⟨A2, c2, h1, h2⟩ => ⟨A2, c2, h1, h2.kept_from hF⟩), eqp_mono _, eqp_mono _, trivial⟩ (⟨hB.d1, hV, hgw, ho⟩) (⟨hB.d1, hV, hgw⟩) (fun _ _ hF h => ⟨h.1.next hF, h.2.1.from_ hF, h.2.2.1.from_ hF, h.2.2.2.kept_from hF⟩) (fun _ _ hF h => ⟨h.1.next hF, h.2.1.from_ hF, h.2.2.from_ hF⟩)
        case hop =>
         refine ⟨?_, ?_⟩
         · rintro - w8 ⟨D8, hVd8, hgwd8⟩
           show OpOK _ _ _ _ _ _ _
           exact ok_pure (ro_move (v := .pointer _) rfl) rfl
         refine ⟨?_, ?_⟩
         · rintro - w9 ⟨D9, hVd9, hgwd9⟩
           show OpOK _ _ _ _ _ _ _
           exact ok_pure (ro_move (v := .pointer _) rfl) rfl
         refine ⟨?_, ?_⟩
         · rintro - w10 ⟨D10, hVd10, hgwd10⟩
           rintro _ rfl
           show OpOK _ _ _ _ _ _ _
           exact ok_pure (ro_nilCheck rfl) rfl
         refine ⟨?_, ?_⟩
         · rintro - w11 ⟨D11, hVd11, hgwd11⟩
           rintro _ rfl
           show OpOK _ _ _ _ _ _ _
           exact ok_pure (ro_fieldAddr BitsNew_f145_1 rfl) rfl
         refine ⟨?_, ?_⟩
         · rintro - w12 ⟨D12, hVd12, hgwd12⟩
           rintro _ rfl
           show OpOK _ _ _ _ _ _ _
           exact ok_pure (ro_load BitsNew_g53 rfl (by exact hVd12.rd 2 rfl)) rfl
         refine ⟨?_, ?_⟩
         · rintro - w13 ⟨D13, hVd13, hgwd13⟩
           show OpOK _ _ _ _ _ _ _
           exact ok_pure (ro_move (v := .pointer _) rfl) rfl
         refine ⟨?_, ?_⟩
         · rintro - w14 ⟨D14, hVd14, hgwd14⟩
           rintro _ rfl
           show OpOK _ _ _ _ _ _ _
           exact ok_pure (ro_nilCheck rfl) rfl
         refine ⟨?_, ?_⟩
         · rintro - w15 ⟨D15, hVd15, hgwd15⟩
           rintro _ rfl
           show OpOK _ _ _ _ _ _ _
           exact ok_pure (ro_fieldAddr BitsNew_f145_2 rfl) rfl
         refine ⟨?_, ?_⟩
         · rintro - w16 ⟨D16, hVd16, hgwd16⟩
           rintro _ rfl
           show OpOK _ _ _ _ _ _ _
           exact ok_pure (ro_load BitsNew_g3 rfl (by exact hVd16.rd 3 rfl)) rfl
         refine ⟨?_, ?_⟩
         · rintro - w17 ⟨D17, hVd17, hgwd17⟩
           rintro _ rfl
           show OpOK _ _ _ _ _ _ _
           exact ok_pure (ro_conv' (k' := .i32) (r := ((rk l (64 * k) : Nat) : Int)) (by kernel_rfl) (by kernel_rfl) rfl (IntWalk.i32_in _ (by have := rk_le l (64 * k); omega))) rfl
         refine ⟨?_, ?_⟩
         · rintro - w18 ⟨D18, hVd18, hgwd18⟩
           rintro _ rfl
           show OpOK _ _ _ _ _ _ _
           exact ok_val (ro_lit1 BitsNew_q46 rfl rfl rfl) (From.rfl_.new _) ⟨_, rfl, Blk.new _ _ _⟩
         refine ⟨?_, ?_⟩
         · intro h; cases h
         refine ⟨?_, ?_⟩
         · rintro - w20 ⟨D20, hVd20, hgwd20⟩
           rintro _ rfl
           show OpOK _ _ _ _ _ _ _
           exact ok_pure (ro_nilCheck rfl) rfl
         refine ⟨?_, ?_⟩
         · rintro - w21 ⟨D21, hVd21, hgwd21⟩
           rintro _ rfl
           show OpOK _ _ _ _ _ _ _
           exact ok_pure (ro_fieldAddr BitsNew_f145_1 rfl) rfl
         exact trivial
        case hmu =>
         rintro w22 ⟨D22, hVd22, hgwd22, ho22⟩
         rintro _ rfl v22_38 ⟨g22, rfl, hg22⟩
         show MuOK _ _ _ _ _ _ _
         refine mu_append BitsNew_q46 rfl (by decide) rfl ho22 D22.size rfl rfl ⟨_, _, rfl, hg22.whole⟩ (by simp [Value.oneCell']) (by omega) (by omega) ?_
         intro A3 c3 w3 ho3 hg3
         have hbl := own_at ho22
         have hF3 : From w w3 := D22.grew hg3 (fun k hk => (hbl k hk).1)
         exact ⟨⟨hF3, hVd22.grown hg3 (own_ne ho22 hVd22 (by decide)), hgwd22.grown hg3 (own_ne ho22 hgwd22 (by decide))⟩, ⟨A3, c3, rfl, ho3⟩, fun t u ht h => muR_look (by repeat first | exact trivial | refine ⟨.inl rfl, ?_⟩ | refine ⟨.inr (fun _ h => h), ?_⟩) t u ht h⟩
        case hend =>
         rintro w23 ⟨D23, hVd23, hgwd23⟩
         rintro _ rfl _ rfl _ rfl _ rfl _ rfl _ rfl _ rfl _ rfl _ rfl _ rfl v38 _ v39 ⟨A39, c39, rfl, ho39⟩ _ rfl _ rfl
         show St _ _ _ _ _ _ _
         have hVq := hVd23
         have hgq := hgwd23
         refine st_put (v := .slice _ _ _) BitsNew_z53 rfl rfl rfl (hVq) (by simp) ?_
         intro w24 O8 P8
         refine st_nil ?_
         refine nx_cut ((A39, c39, rs ++ [rk l (64 * k)])) trivial (by (iterate 17 refine agr_cons rfl ?_); exact agr_rfl) ?_
         refine ⟨by simpa using P8, hgq.only O8 (by omega), by rw [List.length_append, List.map_append]; exact own_only2 ho39 O8 (own_ne ho39 hVq (by decide)), by rw [List.length_append, List.length_singleton]; omega, ?_, (D23.only O8 (hg13))⟩
         intro j h
         rw [List.length_append, List.length_singleton] at h
         by_cases hj : j < rs.length
         · rw [List.getElem_append_left hj]; exact hrs j hj
         · rw [List.getElem_append_right (by omega)]
           simp only [List.getElem_singleton]
           congr 1
           omega
      replace Q6 := be_f Q6
      have hk8 : ¬ k % 8 = 0 := by omega
      refine cd_skip ?_
      refine nx_cut ((Aa, ca, rs)) trivial (by (iterate 3 refine agr_cons rfl ?_); exact agr_rfl) ?_
      exact ⟨hV, hgw, ho, by omega, hrs, hB⟩
    rintro ⟨A2, c2, rs2⟩ ρ25 w25 ⟨hV, hgw, ho, hrl, hrs, hB⟩
    apply cd_drawnD 9 [(42, eqp _), (43, eqp _), (44, eqp _), (45, eqp _), (46, eqp _), (47, eqp _), (48, eqp _), (49, eqp _), (50, eqp _)] (by repeat first | exact pq_body | refine pq_then ?_ | refine pq_block ?_) (by kernel_rfl) (by kernel_rfl) ⟨eqp_mono _, eqp_mono _, eqp_mono _, eqp_mono _, eqp_mono _, eqp_mono _, eqp_mono _, eqp_mono _, eqp_mono _, trivial⟩
    case hop =>
     refine ⟨?_, ?_⟩
     · rintro - w27 D27
       show OpOK _ _ _ _ _ _ _
       exact ok_pure (ro_move (v := .pointer _) rfl) rfl
     refine ⟨?_, ?_⟩
     · rintro - w28 D28
       rintro _ rfl
       show OpOK _ _ _ _ _ _ _
       exact ok_pure (ro_nilCheck rfl) rfl
     refine ⟨?_, ?_⟩
     · rintro - w29 D29
       rintro _ rfl
       show OpOK _ _ _ _ _ _ _
       exact ok_pure (ro_fieldAddr BitsNew_f145_2 rfl) rfl
     refine ⟨?_, ?_⟩
     · rintro - w30 D30
       rintro _ rfl
       show OpOK _ _ _ _ _ _ _
       exact ok_pure (ro_load BitsNew_g3 rfl (by exact (hV.from_ (From.rfl_.next D30)).rd 3 rfl)) rfl
     refine ⟨?_, ?_⟩
     · rintro - w31 D31
       show OpOK _ _ _ _ _ _ _
       exact ok_pure (ro_move (v := .int _ _) rfl) rfl
     refine ⟨?_, ?_⟩
     · rintro - w32 D32
       rintro _ rfl
       show OpOK _ _ _ _ _ _ _
       refine ok_call BitsNew_k84 ((onesCount ws[k] _ (hW.lt _ (List.getElem_mem hkw))).mono ?_)
       rintro v _ ⟨rfl, rfl⟩; exact ⟨From.rfl_, rfl⟩
     refine ⟨?_, ?_⟩
     · rintro - w33 D33
       rintro _ rfl _ rfl
       show OpOK _ _ _ _ _ _ _
       exact ok_pure (ro_addN rfl rfl (by have := rk_le l (64 * k); have := pop_le ws[k] 64; omega)) rfl
     refine ⟨?_, ?_⟩
     · rintro - w34 D34
       rintro _ rfl
       show OpOK _ _ _ _ _ _ _
       exact ok_pure (ro_nilCheck rfl) rfl
     refine ⟨?_, ?_⟩
     · rintro - w35 D35
       rintro _ rfl
       show OpOK _ _ _ _ _ _ _
       exact ok_pure (ro_fieldAddr BitsNew_f145_2 rfl) rfl
     exact trivial
    case hend =>
     intro w36 D36
     rintro _ rfl _ rfl _ rfl _ rfl _ rfl _ rfl _ rfl _ rfl _ rfl
     show St _ _ _ _ _ _ _
     replace hV := hV.from_ (From.rfl_.next D36)
     replace hgw := hgw.from_ (From.rfl_.next D36)
     replace ho := ho.kept_from (From.rfl_.next D36)
     refine st_put (v := .int _ _) BitsNew_z3 rfl rfl rfl (hV) (by simp) ?_
     intro w37 O9 P9
     refine st_nil (nx_block (nx_then (cd_region ?_)))
     refine st_val (ro_addN (b := 1) rfl rfl (by omega)) ?_
     refine mvi rfl ?_
     refine st_nil ?_
     refine nx_cut ((k + 1, A2, c2, rs2)) ⟨(by first | rfl | (refine int_eq ?_; omega)), trivial⟩ (by (iterate 68 refine agr_cons rfl ?_); exact agr_rfl) ⟨?_, ?_⟩
     · refine ⟨by omega, ?_, hgw.only O9 (by omega), own_only2 ho O9 (own_ne ho hV (by decide)), hrl, hrs, ((hB.next D36).only O9 (hg13))⟩
       rw [hW.rankw hkw]
       simpa using P9
     · show ws.length - (k + 1) < ws.length - k; omega
  replace Q5 := of_decide_eq_false Q5
  refine cd_exit ?_
  refine ex_then (ex_then (ex_block (nx_then (cd_seq (cd_region ?_)))))
  refine mvp rfl ?_
  refine asp rfl ?_
  refine asi rfl ?_
  refine st_nil (nx_then (cd_ret ?_))
  refine res2 (v := .pointer _) (v' := .int _ _) rfl rfl rfl ?_
  obtain rfl : k = ws.length := by omega
  exact ⟨b13, rfl, ⟨gw, Aa, ca, ws, rs, hg13, hgw0, by rw [← rk_past (show l.length ≤ 64 * ws.length by omega)]; exact hV, hgw, ho, hW, hrl, hrs, hl⟩, hB⟩
end Go.Proofs.YtllmocjfllbbfaaGreat

namespace Go.Proofs.YtllmocjfllbbfaaGreat
open Go.RowKit

theorem BitsRank_f142_0 : fieldQ Tryz.prog 142 0 = some 0 := by kernel_rfl
theorem BitsRank_g140 : aggQ Tryz.prog 140 = some false := by kernel_rfl
theorem BitsRank_e140 : elemQ Tryz.prog 140 = some (118, 1) := by kernel_rfl
theorem BitsRank_g118 : aggQ Tryz.prog 118 = some false := by kernel_rfl
theorem BitsRank_f145_0 : fieldQ Tryz.prog 145 0 = some 0 := by kernel_rfl
theorem BitsRank_f142_1 : fieldQ Tryz.prog 142 1 = some 1 := by kernel_rfl
theorem BitsRank_g3 : aggQ Tryz.prog 3 = some false := by kernel_rfl
theorem BitsRank_k102 : callable Tryz.prog 102 = true := by kernel_rfl
theorem BitsRank_f145_2 : fieldQ Tryz.prog 145 2 = some 3 := by kernel_rfl
theorem BitsRank_f145_1 : fieldQ Tryz.prog 145 1 = some 2 := by kernel_rfl
theorem BitsRank_g53 : aggQ Tryz.prog 53 = some false := by kernel_rfl
theorem BitsRank_e53 : elemQ Tryz.prog 53 = some (21, 1) := by kernel_rfl
theorem BitsRank_g21 : aggQ Tryz.prog 21 = some false := by kernel_rfl
theorem BitsRank_s21 : (Tryz.prog.underlying 21).isSome = true := by kernel_rfl
theorem BitsRank_i3 : Tryz.prog.underlying 3 = some (.int .i64) := by kernel_rfl
theorem BitsRank_l140 : (elemQ Tryz.prog 140).isSome = true := by kernel_rfl
theorem BitsRank_k84 : callable Tryz.prog 84 = true := by kernel_rfl
theorem shr_and_one (x k : Nat) : x / 2 ^ k &&& 1 = (x.testBit k).toNat := by
  rw [show (1 : Nat) = 2 ^ 1 - 1 from rfl, Nat.and_two_pow_sub_one_eq_mod, ← Nat.shiftRight_eq_div_pow]
  have h : x.testBit k = ((x >>> k) % 2 == 1) := by
    rw [Nat.testBit, Nat.and_comm, Nat.and_one_is_mod]
    rcases Nat.mod_two_eq_zero_or_one (x >>> k) with e | e <;> rw [e] <;> rfl
  rw [h]
  rcases Nat.mod_two_eq_zero_or_one (x >>> k) with e | e <;> simp [e]
def gB (l : List Bool) (i : Int) : Bool := if 0 ≤ i ∧ i < l.length then bt l i.toNat else false
def gE (l : List Bool) (i : Int) : Int := if 0 ≤ i ∧ i < l.length then 0 else 3
def rB (l : List Bool) (i : Int) : Int := if 0 ≤ i ∧ i ≤ l.length then (rk l i.toNat : Nat) else 0
def rE (l : List Bool) (i : Int) : Int := if 0 ≤ i ∧ i ≤ l.length then 0 else 3
theorem Vec.le {w : World} {base base' b : Nat} {l : List Bool} (h : Vec w base b l) (hb : base' ≤ base) : Vec w base' b l := by
  obtain ⟨gw, Aa, ca, ws, rs, h1, h2, h3, h4, h5, h6⟩ := h
  refine ⟨gw, Aa, ca, ws, rs, by omega, by omega, h3, h4, ⟨h5.1, ?_⟩, h6⟩
  rcases h5.2 with h0 | ⟨g, cap, cur, hv, hg, r⟩
  · exact .inl h0
  · exact .inr ⟨g, cap, cur, hv, by omega, r⟩
set_option maxHeartbeats 400000 in
theorem bit_rt (base b i : Nat) (l : List Bool) (w : World) (hv : Vec w base b l) (hi : i < l.length) :
    Rt Tryz.prog 102 [.pointer (some ⟨b, 0, none⟩), .int .i64 (i : Nat)] w (fun v w' => v = .bool (bt l i) ∧ w = w') := by
  obtain ⟨gw, Aa, ca, ws, rs, hb0, hg0, hV, hgw, ho, hW, hrl, hrs, hl⟩ := hv
  have hlen := hW.len
  refine enter (n := 18) Tryz.func102 rfl rfl rfl ?_
  refine cd_seq (cd_region ?_)
  refine asb rfl ?_
  refine st_nil (nx_then (cd_seq (cd_region ?_)))
  refine mvp rfl ?_
  refine st_val (ro_nilCheck rfl) ?_
  refine st_val (ro_fieldAddr BitsRank_f142_0 rfl) ?_
  refine st_val (ro_load BitsRank_g140 rfl (by exact hV.rd 0 rfl)) ?_
  refine mvi rfl ?_
  refine st_val (ro_quoN (b := 64) rfl rfl (by omega)) ?_
  refine st_val (ro_indexAddr0 BitsRank_e140 rfl rfl (by omega)) ?_
  refine st_val (ro_load BitsRank_g118 rfl (by exact hgw.rd _ (arr_at (i / 64) (by omega)))) ?_
  refine mvi rfl ?_
  refine st_val (ro_remN (b := 64) rfl rfl (by decide)) ?_
  refine st_val (ro_shrN rfl rfl (by exact Nat.le_of_lt (Nat.mod_lt _ (by decide)))) ?_
  refine st_val (ro_andN (b := 1) rfl rfl (by exact ⟨Nat.lt_of_le_of_lt (Nat.div_le_self _ _) (hW.lt _ (List.getElem_mem _)), by decide⟩)) ?_
  refine st_val (ro_eql rfl rfl) ?_
  refine asb rfl ?_
  refine st_nil (nx_then (cd_ret ?_))
  refine res1 (v := .bool _) rfl rfl ?_
  refine ⟨congrArg Value.bool ?_, rfl⟩
  rw [shr_and_one, hW.bits (by omega) (Nat.mod_lt _ (by decide)), Nat.div_add_mod]
  cases bt l i <;> rfl
set_option maxHeartbeats 400000 in
theorem get_rt (base b : Nat) (i : Int) (l : List Bool) (w : World) (hv : Vec w base b l) :
    Rt Tryz.prog 92 [.pointer (some ⟨b, 0, none⟩), .int .i64 i] w (fun v w' => v = .tuple #[.bool (gB l i), .int .i64 (gE l i)] ∧ w = w') := by
  have hvv := hv
  obtain ⟨gw, Aa, ca, ws, rs, hb0, hg0, hV, hgw, ho, hW, hrl, hrs, hl⟩ := hv
  have hlen := hW.len
  refine enter (n := 22) Tryz.func92 rfl rfl rfl ?_
  refine cd_seq (cd_region ?_)
  refine asb rfl ?_
  refine asi rfl ?_
  refine st_nil (nx_then (cd_seq (cd_seq (cd_region ?_))))
  refine mvi rfl ?_
  refine st_val (ro_lss rfl rfl) ?_
  refine mvb rfl ?_
  refine st_split (t := 8) rfl (fun Q1 => ?_) (fun Q1 => ?_)
  · replace Q1 := of_decide_eq_true Q1
    refine st_gno rfl rfl ?_
    refine st_gno rfl rfl ?_
    refine st_gno rfl rfl ?_
    refine st_gno rfl rfl ?_
    refine st_gno rfl rfl ?_
    refine st_gno rfl rfl ?_
    refine st_gno rfl rfl ?_
    refine st_val (ro_pickT (v := .bool _) rfl rfl) ?_
    refine st_nil (nx_then ?_)
    refine cd_condT rfl ?_
    refine cd_seq (cd_region ?_)
    refine asb rfl ?_
    refine asi rfl ?_
    refine st_nil (nx_then (cd_ret (rt_then ?_)))
    refine res2 (v := .bool _) (v' := .int _ _) rfl rfl rfl ?_
    refine ⟨?_, rfl⟩
    unfold gB gE
    rw [if_neg (by omega), if_neg (by omega)]
  replace Q1 := of_decide_eq_false Q1
  refine st_unguard rfl ?_
  refine mvi rfl ?_
  refine st_unguard rfl ?_
  refine mvp rfl ?_
  refine st_unguard rfl ?_
  refine st_val (ro_nilCheck rfl) ?_
  refine st_unguard rfl ?_
  refine st_val (ro_fieldAddr BitsRank_f145_0 rfl) ?_
  refine st_unguard rfl ?_
  refine st_val (ro_fieldAddr BitsRank_f142_1 rfl) ?_
  refine st_unguard rfl ?_
  refine st_val (ro_load BitsRank_g3 rfl (by exact hV.rd 1 rfl)) ?_
  refine st_unguard rfl ?_
  refine st_val (ro_geq rfl rfl) ?_
  refine st_val (ro_pickF (v := .bool _) rfl rfl) ?_
  refine st_nil (nx_then ?_)
  refine cd_cond rfl (fun Q2 => ?_) (fun Q2 => ?_)
  · replace Q2 := of_decide_eq_true Q2
    refine cd_seq (cd_region ?_)
    refine asb rfl ?_
    refine asi rfl ?_
    refine st_nil (nx_then (cd_ret (rt_then ?_)))
    refine res2 (v := .bool _) (v' := .int _ _) rfl rfl rfl ?_
    refine ⟨?_, rfl⟩
    unfold gB gE
    rw [if_neg (by omega), if_neg (by omega)]
  replace Q2 := of_decide_eq_false Q2
  refine cd_skip (nx_then (cd_seq (cd_region ?_)))
  obtain ⟨q, rfl⟩ : ∃ q : Nat, i = (q : Int) := ⟨i.toNat, by omega⟩
  refine mvp rfl ?_
  refine st_val (ro_nilCheck rfl) ?_
  refine st_val (ro_fieldAddr BitsRank_f145_0 rfl) ?_
  refine mvi rfl ?_
  refine st_call BitsRank_k102 (bit_rt base b q l _ hvv (by omega)) ?_
  rintro v21 w3 ⟨rfl, rfl⟩
  refine asb rfl ?_
  refine asi rfl ?_
  refine st_nil (nx_then (cd_ret ?_))
  refine res2 (v := .bool _) (v' := .int _ _) rfl rfl rfl ?_
  refine ⟨?_, rfl⟩
  unfold gB gE
  rw [if_pos (by omega), if_pos (by omega)]
  rfl
set_option maxHeartbeats 1000000 in
theorem rank_rt (base b : Nat) (i : Int) (l : List Bool) (w : World) (hv : Vec w base b l) :
    Rt Tryz.prog 104 [.pointer (some ⟨b, 0, none⟩), .int .i64 i] w (fun v w' => v = .tuple #[.int .i64 (rB l i), .int .i64 (rE l i)] ∧ From w w') := by
  obtain ⟨gw, Aa, ca, ws, rs, hb0, hg0, hV, hgw, ho, hW, hrl, hrs, hl⟩ := hv
  have hlen := hW.len
  refine enter (n := 80) Tryz.func104 rfl rfl rfl ?_
  refine cd_seq (cd_region ?_)
  refine asi rfl ?_
  refine asi rfl ?_
  refine st_nil (nx_then (cd_seq (cd_seq (cd_region ?_))))
  refine mvi rfl ?_
  refine st_val (ro_lss rfl rfl) ?_
  refine mvb rfl ?_
  refine st_split (t := 13) rfl (fun Q1 => ?_) (fun Q1 => ?_)
  · replace Q1 := of_decide_eq_true Q1
    refine st_gno rfl rfl ?_
    refine st_gno rfl rfl ?_
    refine st_gno rfl rfl ?_
    refine st_gno rfl rfl ?_
    refine st_gno rfl rfl ?_
    refine st_gno rfl rfl ?_
    refine st_gno rfl rfl ?_
    refine st_val (ro_pickT (v := .bool _) rfl rfl) ?_
    refine st_nil (nx_then ?_)
    refine cd_condT rfl ?_
    refine cd_seq (cd_region ?_)
    refine asi rfl ?_
    refine asi rfl ?_
    refine st_nil (nx_then (cd_ret (rt_then ?_)))
    refine res2 (v := .int _ _) (v' := .int _ _) rfl rfl rfl ?_
    refine ⟨?_, From.rfl_⟩
    unfold rB rE
    rw [if_neg (by omega), if_neg (by omega)]
  replace Q1 := of_decide_eq_false Q1
  refine st_unguard rfl ?_
  refine mvi rfl ?_
  refine st_unguard rfl ?_
  refine mvp rfl ?_
  refine st_unguard rfl ?_
  refine st_val (ro_nilCheck rfl) ?_
  refine st_unguard rfl ?_
  refine st_val (ro_fieldAddr BitsRank_f145_0 rfl) ?_
  refine st_unguard rfl ?_
  refine st_val (ro_fieldAddr BitsRank_f142_1 rfl) ?_
  refine st_unguard rfl ?_
  refine st_val (ro_load BitsRank_g3 rfl (by exact hV.rd 1 rfl)) ?_
  refine st_unguard rfl ?_
  refine st_val (ro_gtr rfl rfl) ?_
  refine st_val (ro_pickF (v := .bool _) rfl rfl) ?_
  refine st_nil (nx_then ?_)
  refine cd_cond rfl (fun Q2 => ?_) (fun Q2 => ?_)
  · replace Q2 := of_decide_eq_true Q2
    refine cd_seq (cd_region ?_)
    refine asi rfl ?_
    refine asi rfl ?_
    refine st_nil (nx_then (cd_ret (rt_then ?_)))
    refine res2 (v := .int _ _) (v' := .int _ _) rfl rfl rfl ?_
    refine ⟨?_, From.rfl_⟩
    unfold rB rE
    rw [if_neg (by omega), if_neg (by omega)]
  replace Q2 := of_decide_eq_false Q2
  refine cd_skip (nx_then (cd_seq (cd_seq (cd_region ?_))))
  obtain ⟨q, rfl⟩ : ∃ q : Nat, i = (q : Int) := ⟨i.toNat, by omega⟩
  refine mvi rfl ?_
  refine mvp rfl ?_
  refine st_val (ro_nilCheck rfl) ?_
  refine st_val (ro_fieldAddr BitsRank_f145_0 rfl) ?_
  refine st_val (ro_fieldAddr BitsRank_f142_1 rfl) ?_
  refine st_val (ro_load BitsRank_g3 rfl (by exact hV.rd 1 rfl)) ?_
  refine st_val (ro_eql rfl rfl) ?_
  refine st_nil (nx_then ?_)
  refine cd_cond rfl (fun Q3 => ?_) (fun Q3 => ?_)
  · replace Q3 := be_t Q3
    refine cd_seq (cd_region ?_)
    refine mvp rfl ?_
    refine st_val (ro_nilCheck rfl) ?_
    refine st_val (ro_fieldAddr BitsRank_f145_2 rfl) ?_
    refine st_val (ro_load BitsRank_g3 rfl (by exact hV.rd 3 rfl)) ?_
    refine asi rfl ?_
    refine asi rfl ?_
    refine st_nil (nx_then (cd_ret (rt_then ?_)))
    refine res2 (v := .int _ _) (v' := .int _ _) rfl rfl rfl ?_
    refine ⟨?_, From.rfl_⟩
    unfold rB rE
    rw [if_pos (by omega), if_pos (by omega), show q = l.length by omega]
    rfl
  replace Q3 := be_f Q3
  refine cd_skip (nx_then (cd_seq (cd_region ?_)))
  refine mvi rfl ?_
  refine st_val (ro_quoN (b := 64) rfl rfl (by omega)) ?_
  refine asi rfl ?_
  refine st_nil (nx_then (cd_seq (cd_region ?_)))
  refine mvi rfl ?_
  refine st_val (ro_quoN (b := 8) rfl rfl (by omega)) ?_
  refine asi rfl ?_
  refine st_nil (nx_then (cd_seq (cd_region ?_)))
  obtain ⟨ga, rfl⟩ := own_some ho (by omega)
  refine mvp rfl ?_
  refine st_val (ro_nilCheck rfl) ?_
  refine st_val (ro_fieldAddr BitsRank_f145_1 rfl) ?_
  refine st_val (ro_load BitsRank_g53 rfl (by exact hV.rd 2 rfl)) ?_
  refine mvi rfl ?_
  refine st_val (ro_indexAddr0 BitsRank_e53 rfl rfl (by omega)) ?_
  refine st_val (ro_load BitsRank_g21 rfl (by exact own_cell ho (q / 64 / 8) (by omega))) ?_
  refine st_val (ro_convI BitsRank_s21 BitsRank_i3 rfl (by rw [hrs]; have := rk_le l (512 * (q / 64 / 8)); omega)) ?_
  refine st_spell (t := 44) (v := .int _ _) (v' := .int .i64 ((rk l (512 * (q / 64 / 8)) : Nat) : Int)) rfl (by rw [hrs]) ?_
  refine asi rfl ?_
  refine st_nil (nx_then (cd_seq (cd_seq (cd_region ?_))))
  refine mvp rfl ?_
  refine st_val (ro_nilCheck rfl) ?_
  refine st_val (ro_fieldAddr BitsRank_f145_0 rfl) ?_
  refine st_val (ro_fieldAddr BitsRank_f142_0 rfl) ?_
  refine st_val (ro_load BitsRank_g140 rfl (by exact hV.rd 0 rfl)) ?_
  refine mvi rfl ?_
  refine st_val (ro_mulN (b := 8) rfl rfl (by omega)) ?_
  refine mvi rfl ?_
  refine st_val (ro_eq (v' := .slice (some ⟨gw, q / 64 / 8 * 8, none⟩) (q / 64 - q / 64 / 8 * 8) (ws.length - q / 64 / 8 * 8)) (ro_slice (l := q / 64 / 8 * 8) (h := q / 64) BitsRank_e140 rfl (.inr ⟨_, _, rfl, rfl⟩) (.inr ⟨_, _, rfl, rfl⟩) (by omega) (by omega)) (by rw [if_neg (by omega), Nat.zero_add, Nat.mul_one])) ?_
  refine st_val (ro_len BitsRank_l140 rfl) ?_
  refine mvi rfl ?_
  refine st_nil (nx_then (cd_block ?_))
  refine cd_loop (G := Nat) [10, 56, 57, 58, 59, 60, 61, 62, 63] (fun j => [(55, .int .i64 (j : Nat)), (8, .int .i64 (rk l (64 * (q / 64 / 8 * 8 + j)) : Nat))]) (fun j w' => j ≤ q / 64 - q / 64 / 8 * 8 ∧ w = w') (fun j => q / 64 - q / 64 / 8 * 8 - j) (0) ⟨rfl, (congrArg (fun x : Nat => Value.int .i64 (x : Int)) (congrArg (rk l) (by omega))), trivial⟩ ?_ ?_
  · exact ⟨Nat.zero_le _, rfl⟩
  rintro j ρ4 w4 ⟨hj, rfl⟩
  refine cd_seq (cd_region ?_)
  refine st_val (ro_lss rfl rfl) ?_
  refine st_nil (nx_then (cd_seq ?_))
  refine cd_cond rfl (fun Q5 => ?_) (fun Q5 => ?_)
  · replace Q5 := of_decide_eq_true Q5
    refine cd_skip (nx_then (cd_seq (cd_block (cd_seq (cd_region ?_)))))
    refine st_val (ro_indexAddr1 BitsRank_e140 rfl rfl (by omega)) ?_
    refine st_val (ro_load BitsRank_g118 rfl (by exact hgw.rd _ (arr_at (q / 64 / 8 * 8 + j) (by omega)))) ?_
    refine asi rfl ?_
    refine st_nil (nx_then (cd_region ?_))
    refine mvi rfl ?_
    refine mvi rfl ?_
    refine st_call BitsRank_k84 (onesCount ws[q / 64 / 8 * 8 + j] _ (hW.lt _ (List.getElem_mem _))) ?_
    rintro v61 w6 ⟨rfl, rfl⟩
    refine st_val (ro_addN rfl rfl (by have := rk_le l (64 * (q / 64 / 8 * 8 + j)); have := pop_le ws[q / 64 / 8 * 8 + j] 64; omega)) ?_
    refine asi rfl ?_
    refine st_nil (nx_block (nx_then (cd_region ?_)))
    refine st_val (ro_addN (b := 1) rfl rfl (by omega)) ?_
    refine mvi rfl ?_
    refine st_nil ?_
    refine nx_cut (j + 1) ⟨rfl, (congrArg (fun x : Nat => Value.int .i64 (x : Int)) (hW.rankw (j := q / 64 / 8 * 8 + j) (by omega)).symm), trivial⟩ (by (iterate 22 refine agr_cons rfl ?_); exact agr_rfl) ⟨?_, ?_⟩
    · exact ⟨by omega, rfl⟩
    · omega
  replace Q5 := of_decide_eq_false Q5
  have hj2 : q / 64 / 8 * 8 + j = q / 64 := by omega
  have hrk : rk l (64 * (q / 64 / 8 * 8 + j)) = rk l (64 * (q / 64)) := by rw [hj2]
  refine cd_exit ?_
  refine ex_then (ex_then (ex_block (nx_then (cd_seq ?_))))
  apply cd_drawn 18 [(64, eqp _), (65, eqp _), (66, eqp _), (67, eqp _), (68, eqp _), (69, eqp _), (70, eqp _), (71, eqp _), (72, eqp _), (73, eqp _), (74, eqp _), (75, eqp _), (76, eqp _), (77, eqp _), (78, eqp _), (79, eqp _), (4, eqp _), (5, eqp _)] (by kernel_rfl) (by kernel_rfl) ⟨eqp_mono _, eqp_mono _, eqp_mono _, eqp_mono _, eqp_mono _, eqp_mono _, eqp_mono _, eqp_mono _, eqp_mono _, eqp_mono _, eqp_mono _, eqp_mono _, eqp_mono _, eqp_mono _, eqp_mono _, eqp_mono _, eqp_mono _, eqp_mono _, trivial⟩
  case hop =>
   refine ⟨?_, ?_⟩
   · intro w8 D8
     show OpOK _ _ _ _ _ _ _
     exact ok_pure (ro_move (v := .int _ _) rfl) rfl
   refine ⟨?_, ?_⟩
   · intro w9 D9
     show OpOK _ _ _ _ _ _ _
     exact ok_pure (ro_move (v := .pointer _) rfl) rfl
   refine ⟨?_, ?_⟩
   · intro w10 D10
     rintro _ rfl
     show OpOK _ _ _ _ _ _ _
     exact ok_pure (ro_nilCheck rfl) rfl
   refine ⟨?_, ?_⟩
   · intro w11 D11
     rintro _ rfl
     show OpOK _ _ _ _ _ _ _
     exact ok_pure (ro_fieldAddr BitsRank_f145_0 rfl) rfl
   refine ⟨?_, ?_⟩
   · intro w12 D12
     rintro _ rfl
     show OpOK _ _ _ _ _ _ _
     exact ok_pure (ro_fieldAddr BitsRank_f142_0 rfl) rfl
   refine ⟨?_, ?_⟩
   · intro w13 D13
     rintro _ rfl
     show OpOK _ _ _ _ _ _ _
     exact ok_pure (ro_load BitsRank_g140 rfl (by exact cellF (From.rfl_.next D13) (hV.rd 0 rfl))) rfl
   refine ⟨?_, ?_⟩
   · intro w14 D14
     show OpOK _ _ _ _ _ _ _
     exact ok_pure (ro_move (v := .int _ _) rfl) rfl
   refine ⟨?_, ?_⟩
   · intro w15 D15
     rintro _ rfl _ rfl
     show OpOK _ _ _ _ _ _ _
     exact ok_pure (ro_indexAddr0 BitsRank_e140 rfl rfl (by omega)) rfl
   refine ⟨?_, ?_⟩
   · intro w16 D16
     rintro _ rfl
     show OpOK _ _ _ _ _ _ _
     exact ok_pure (ro_load BitsRank_g118 rfl (by exact (hgw.from_ (From.rfl_.next D16)).rd _ (arr_at (l := ws) (q / 64) (by omega)))) rfl
   refine ⟨?_, ?_⟩
   · intro w17 D17
     show OpOK _ _ _ _ _ _ _
     exact ok_pure (ro_move (v := .int _ _) rfl) rfl
   refine ⟨?_, ?_⟩
   · intro w18 D18
     rintro _ rfl
     show OpOK _ _ _ _ _ _ _
     exact ok_pure (ro_remN (b := 64) rfl rfl (by decide)) rfl
   refine ⟨?_, ?_⟩
   · intro w19 D19
     rintro _ rfl
     show OpOK _ _ _ _ _ _ _
     exact ok_pure (ro_shlN (a := 1) rfl rfl (by exact Nat.le_of_lt (Nat.mod_lt _ (by decide)))) rfl
   refine ⟨?_, ?_⟩
   · intro w20 D20
     rintro _ rfl
     show OpOK _ _ _ _ _ _ _
     exact ok_pure (ro_subU (b := 1) rfl rfl ⟨by rw [one_shl _ (Nat.mod_lt _ (by decide))]; exact Nat.pow_pos (by decide), Nat.mod_lt _ (by decide)⟩) rfl
   refine ⟨?_, ?_⟩
   · intro w21 D21
     rintro _ rfl _ rfl
     show OpOK _ _ _ _ _ _ _
     exact ok_pure (ro_andN rfl rfl (by exact ⟨hW.lt _ (List.getElem_mem _), Nat.lt_of_le_of_lt (Nat.sub_le _ _) (Nat.mod_lt _ (by decide))⟩)) rfl
   refine ⟨?_, ?_⟩
   · intro w22 D22
     rintro _ rfl
     show OpOK _ _ _ _ _ _ _
     refine ok_call BitsRank_k84 ((onesCount (ws[q / 64] &&& (1 * 2 ^ (q % 64) % 2 ^ 64 - 1)) _ (Nat.lt_of_le_of_lt Nat.and_le_left (hW.lt _ (List.getElem_mem _)))).mono ?_)
     rintro v _ ⟨rfl, rfl⟩; exact ⟨From.rfl_, rfl⟩
   refine ⟨?_, ?_⟩
   · intro w23 D23
     rintro _ rfl _ rfl
     show OpOK _ _ _ _ _ _ _
     exact ok_pure (ro_addN rfl rfl (by have := rk_le l (64 * (q / 64 / 8 * 8 + j)); have := pop_le (ws[q / 64] &&& (1 * 2 ^ (q % 64) % 2 ^ 64 - 1)) 64; omega)) rfl
   refine ⟨?_, ?_⟩
   · intro w24 D24
     rintro _ rfl
     show OpOK _ _ _ _ _ _ _
     exact ok_pure (ro_assign (v := .int _ _) rfl) rfl
   refine ⟨?_, ?_⟩
   · intro w25 D25
     show OpOK _ _ _ _ _ _ _
     exact ok_pure (ro_assign (v := .int _ _) rfl) rfl
   exact trivial
  case hend =>
   intro w26 D26
   rintro _ rfl _ rfl _ rfl _ rfl _ rfl _ rfl _ rfl _ rfl _ rfl _ rfl _ rfl _ rfl _ rfl _ rfl _ rfl _ rfl _ rfl _ rfl
   show St _ _ _ _ _ _ _
   refine st_nil (nx_then (cd_ret ?_))
   refine res2 (v := .int _ _) (v' := .int _ _) rfl rfl rfl ?_
   refine ⟨?_, ?_⟩
   · unfold rB rE
     rw [if_pos (by omega), if_pos (by omega), Int.toNat_natCast, hW.rankm (i := q) (by omega), hrk]
   · exact (From.rfl_.next D26)
end Go.Proofs.YtllmocjfllbbfaaGreat

namespace Go.Proofs.YtllmocjfllbbfaaGreat

def bitN (s x : Nat) : Bool := decide (x / 2 ^ s % 2 = 1)
def zerosL (s : Nat) (M : List Nat) : List Nat := M.filter fun x => !bitN s x
def onesL (s : Nat) (M : List Nat) : List Nat := M.filter (bitN s)
def partL (s : Nat) (M : List Nat) : List Nat := zerosL s M ++ onesL s M
/-- the list in the order of level j, of n levels -/
def lvl (n : Nat) (L : List Nat) : Nat → List Nat
  | 0 => L
  | j + 1 => partL (n - 1 - j) (lvl n L j)
theorem part_len (s : Nat) (M : List Nat) : (partL s M).length = M.length := by
  unfold partL zerosL onesL
  rw [List.length_append]
  induction M with
  | nil => rfl
  | cons x r ih =>
    simp only [List.filter_cons]
    cases bitN s x <;> simp only [Bool.not_true, Bool.not_false, if_true, if_false, Bool.false_eq_true, List.length_cons] <;> omega
theorem lvl_len (n : Nat) (L : List Nat) : ∀ j, (lvl n L j).length = L.length
  | 0 => rfl
  | j + 1 => by rw [lvl, part_len, lvl_len n L j]
theorem part_mem {s : Nat} {M : List Nat} {x : Nat} (h : x ∈ partL s M) : x ∈ M := by
  unfold partL zerosL onesL at h
  rcases List.mem_append.1 h with a | a <;> exact (List.mem_filter.1 a).1
theorem lvl_mem {n : Nat} {L : List Nat} : ∀ {j x}, x ∈ lvl n L j → x ∈ L
  | 0, _, h => h
  | _ + 1, _, h => lvl_mem (part_mem h)
theorem zo_len (s : Nat) (M : List Nat) : (zerosL s M).length + (onesL s M).length = M.length := by
  rw [← part_len s M, partL, List.length_append]
theorem zeros_app (s : Nat) (X Y : List Nat) : zerosL s (X ++ Y) = zerosL s X ++ zerosL s Y := by unfold zerosL; rw [List.filter_append]
theorem ones_app (s : Nat) (X Y : List Nat) : onesL s (X ++ Y) = onesL s X ++ onesL s Y := by unfold onesL; rw [List.filter_append]
/-- where what stands behind X goes -/
def downN (s : Nat) (M : List Nat) (i : Nat) (b : Bool) : Nat := if b then (zerosL s M).length + (onesL s (M.take i)).length else i - (onesL s (M.take i)).length
theorem down_app (s : Nat) (X Y : List Nat) (b : Bool) : downN s (X ++ Y) X.length b = if b then (zerosL s (X ++ Y)).length + (onesL s X).length else (zerosL s X).length := by
  unfold downN
  rw [List.take_append_of_le_length (Nat.le_refl _), List.take_length]
  cases b
  · have := zo_len s X
    simp
    omega
  · rfl
/-- a segment, one level below -/
theorem seg_down (s : Nat) (X Y Z : List Nat) (b : Bool) : ∃ X' Z', partL s (X ++ Y ++ Z) = X' ++ Y.filter (fun x => bitN s x == b) ++ Z' ∧ X'.length = downN s (X ++ Y ++ Z) X.length b ∧ X'.length + (Y.filter fun x => bitN s x == b).length = downN s (X ++ Y ++ Z) (X.length + Y.length) b := by
  have e1 : downN s (X ++ Y ++ Z) X.length b = if b then (zerosL s (X ++ Y ++ Z)).length + (onesL s X).length else (zerosL s X).length := by
    have := down_app s X (Y ++ Z) b
    rwa [← List.append_assoc] at this
  have e2 : downN s (X ++ Y ++ Z) (X.length + Y.length) b = if b then (zerosL s (X ++ Y ++ Z)).length + (onesL s (X ++ Y)).length else (zerosL s (X ++ Y)).length := by
    have := down_app s (X ++ Y) Z b
    rwa [List.length_append] at this
  cases b
  · have hf : Y.filter (fun x => bitN s x == false) = zerosL s Y := by unfold zerosL; congr 1; funext x; cases bitN s x <;> rfl
    refine ⟨zerosL s X, zerosL s Z ++ onesL s (X ++ Y ++ Z), ?_, ?_, ?_⟩
    · rw [hf, partL, zeros_app, zeros_app]; simp
    · rw [e1]; simp
    · rw [e2, hf]; simp only [Bool.false_eq_true, if_false]; rw [zeros_app, List.length_append]
  · have hf : Y.filter (fun x => bitN s x == true) = onesL s Y := by unfold onesL; congr 1; funext x; cases bitN s x <;> rfl
    refine ⟨zerosL s (X ++ Y ++ Z) ++ onesL s X, onesL s Z, ?_, ?_, ?_⟩
    · rw [hf, partL, ones_app, ones_app]; simp
    · rw [e1, List.append_assoc X Y Z]; simp
    · rw [e2, hf, ones_app]; simp; omega
/-- an element, one level below -/
theorem one_down (s : Nat) (X Z : List Nat) (x : Nat) : ∃ X' Z', partL s (X ++ [x] ++ Z) = X' ++ [x] ++ Z' ∧ X'.length = downN s (X ++ [x] ++ Z) X.length (bitN s x) := by
  obtain ⟨X', Z', h1, h2, _⟩ := seg_down s X [x] Z (bitN s x)
  refine ⟨X', Z', ?_, h2⟩
  have : [x].filter (fun y => bitN s y == bitN s x) = [x] := by simp
  rwa [this] at h1
/-- high digits -/
theorem high_step (x c s : Nat) : (x / 2 ^ (s + 1) = c / 2 ^ (s + 1) ∧ bitN s x = bitN s c) ↔ x / 2 ^ s = c / 2 ^ s := by
  have e : ∀ y : Nat, y / 2 ^ (s + 1) = y / 2 ^ s / 2 := fun y => by rw [Nat.div_div_eq_div_mul, ← Nat.pow_succ]
  rw [e, e]
  unfold bitN
  generalize x / 2 ^ s = a
  generalize c / 2 ^ s = b
  constructor
  · rintro ⟨h1, h2⟩
    have : (a % 2 = 1) ↔ (b % 2 = 1) := by simpa using h2
    omega
  · rintro rfl
    exact ⟨rfl, rfl⟩
/-- those of the first ones of L that have c's high digits -/
def hiL (L : List Nat) (c s : Nat) : List Nat := L.filter fun x => decide (x / 2 ^ s = c / 2 ^ s)
theorem hi_step (L : List Nat) (c s : Nat) : (hiL L c (s + 1)).filter (fun x => bitN s x == bitN s c) = hiL L c s := by
  unfold hiL
  rw [List.filter_filter]
  congr 1
  funext x
  rw [Bool.eq_iff_iff]
  simp only [Bool.and_eq_true, beq_iff_eq, decide_eq_true_eq]
  rw [and_comm]
  exact high_step x c s
theorem hi_zero (L : List Nat) (c : Nat) : (hiL L c 0).length = L.countP (fun x => decide (x = c)) := by
  unfold hiL
  rw [List.countP_eq_length_filter]
  simp
theorem hi_all (L : List Nat) (c n : Nat) (h : ∀ x ∈ L, x < 2 ^ n) (hc : c < 2 ^ n) : hiL L c n = L := by
  unfold hiL
  rw [List.filter_eq_self]
  intro x hx
  rw [Nat.div_eq_of_lt (h x hx), Nat.div_eq_of_lt hc]
  simp
/-- a rank in a list of bits is a number of ones -/
theorem rk_ones (s : Nat) (M : List Nat) (i : Nat) (hi : i ≤ M.length) : rk (M.map (bitN s)) i = (onesL s (M.take i)).length := by
  induction i with
  | zero => simp [rk, cntB, onesL]
  | succ i ih =>
    have h := ih (by omega)
    have e : rk (M.map (bitN s)) (i + 1) = rk (M.map (bitN s)) i + if bitN s M[i] then 1 else 0 := by
      unfold rk
      rw [cntB]
      have : bt (M.map (bitN s)) i = bitN s M[i] := by unfold bt; rw [List.getD_eq_getElem?_getD, List.getElem?_map, List.getElem?_eq_getElem (by omega)]; rfl
      rw [this]
      cases bitN s M[i] <;> rfl
    rw [e, h, List.take_succ_eq_append_getElem (by omega), ones_app, List.length_append]
    congr 1
    unfold onesL
    cases hb : bitN s M[i] <;> simp [hb]
/-- digits put together from above -/
theorem digit_step (x s : Nat) : x / 2 ^ (s + 1) * 2 ^ (s + 1) ||| (if bitN s x then 2 ^ s else 0) = x / 2 ^ s * 2 ^ s := by
  have e : x / 2 ^ (s + 1) = x / 2 ^ s / 2 := by rw [Nat.div_div_eq_div_mul, ← Nat.pow_succ]
  have e2 : x / 2 ^ s * 2 ^ s = x / 2 ^ (s + 1) * 2 ^ (s + 1) + if bitN s x then 2 ^ s else 0 := by
    rw [e, Nat.pow_succ, ← Nat.mul_assoc, Nat.mul_right_comm]
    unfold bitN
    generalize x / 2 ^ s = a
    by_cases h : a % 2 = 1
    · rw [if_pos (by simpa using h)]
      have : a = a / 2 * 2 + 1 := by omega
      conv => lhs; rw [this, Nat.add_mul, Nat.one_mul]
    · rw [if_neg (by simpa using h)]
      have : a = a / 2 * 2 := by omega
      conv => lhs; rw [this]
      rfl
  rw [e2]
  have hlt : (if bitN s x then 2 ^ s else 0) < 2 ^ (s + 1) := by
    have : 0 < 2 ^ s := Nat.pow_pos (by decide)
    rw [Nat.pow_succ]
    split <;> omega
  rw [Nat.mul_comm (x / 2 ^ (s + 1)), Nat.two_pow_add_eq_or_of_lt hlt]
end Go.Proofs.YtllmocjfllbbfaaGreat

namespace Go.Proofs.YtllmocjfllbbfaaGreat
open Go.RowKit
open Go.ChangeShapes Go.WideShapes Go.ChangeAt
theorem WavWalks_e68 : elemQ Tryz.prog 68 = some (3, 1) := by kernel_rfl
theorem WavWalks_l68 : (elemQ Tryz.prog 68).isSome = true := by kernel_rfl
theorem WavWalks_g3 : aggQ Tryz.prog 3 = some false := by kernel_rfl
theorem WavWalks_m68 : makeQ Tryz.prog 68 = some (3, 8, (.int .i64 0)) := by kernel_rfl
theorem WavWalks_z3 : sizeQ Tryz.prog 3 = some 1 := by kernel_rfl
abbrev nV (x : Nat) : Value := .int .i64 (x : Nat)
def badSym (k : Int) (x : Int) : Bool := decide (x < 0 ∨ k ≤ x)
def chkW (k : Int) (xs : List Int) : Int := if k < 1 ∨ 512 < k then 1 else if xs.any (badSym k) then 1 else if 131072 < xs.length then 2 else 0
theorem any_take {xs : List Int} {k : Int} {i : Nat} (hi : i < xs.length) (h : (xs.take i).any (badSym k) = false) (hb : badSym k xs[i] = false) : (xs.take (i + 1)).any (badSym k) = false := by
  rw [List.take_succ_eq_append_getElem hi, List.any_append, h]
  simp [hb]
theorem any_at {xs : List Int} {k : Int} {i : Nat} (hi : i < xs.length) (hb : badSym k xs[i] = true) : xs.any (badSym k) = true := List.any_eq_true.2 ⟨_, List.getElem_mem hi, hb⟩
def cntLt (L : List Nat) (c : Nat) : Nat := L.countP fun x => decide (x < c)
def cntS (L : List Nat) (c : Nat) : Nat := L.countP fun x => decide (x + 1 = c)
theorem cntS_succ {L : List Nat} {i : Nat} (h : i < L.length) (c : Nat) : cntS (L.take (i + 1)) c = cntS (L.take i) c + if c = L[i] + 1 then 1 else 0 := by
  unfold cntS
  rw [List.take_succ_eq_append_getElem h, List.countP_append]
  by_cases hc : c = L[i] + 1
  · rw [if_pos hc]; simp [hc]
  · rw [if_neg hc]
    have : ¬ L[i] + 1 = c := fun e => hc e.symm
    simp [this]
theorem cntLt_succ (L : List Nat) (c : Nat) : cntLt L (c + 1) = cntS L (c + 1) + cntLt L c := by
  unfold cntLt cntS
  induction L with
  | nil => rfl
  | cons x r ih =>
    simp only [List.countP_cons, ih]
    rcases Nat.lt_trichotomy x c with h | h | h
    · rw [decide_eq_true (show x < c + 1 by omega), decide_eq_false (show ¬ x + 1 = c + 1 by omega), decide_eq_true h]
      simp only [if_true, Bool.false_eq_true, if_false]
      omega
    · rw [decide_eq_true (show x < c + 1 by omega), decide_eq_true (show x + 1 = c + 1 by omega), decide_eq_false (show ¬ x < c by omega)]
      simp only [if_true, Bool.false_eq_true, if_false]
      omega
    · rw [decide_eq_false (show ¬ x < c + 1 by omega), decide_eq_false (show ¬ x + 1 = c + 1 by omega), decide_eq_false (show ¬ x < c by omega)]
      simp only [Bool.false_eq_true, if_false]
      omega
theorem cntLt_zero (L : List Nat) : cntLt L 0 = 0 := by unfold cntLt; simp
theorem cntS_le (L : List Nat) (c : Nat) : cntS L c ≤ L.length := List.countP_le_length
theorem cntLt_le (L : List Nat) (c : Nat) : cntLt L c ≤ L.length := List.countP_le_length
def tab (n : Nat) (F : Nat → Nat) : Array Value := ((List.range n).map fun c => nV (F c)).toArray
theorem tab_get {n : Nat} {F : Nat → Nat} {i : Nat} (h : i < n) : (tab n F)[i]? = some (nV (F i)) := by simp [tab, h]
theorem tab_set {n : Nat} {F : Nat → Nat} (i : Nat) (v : Nat) : (tab n F).setIfInBounds i (nV v) = tab n fun c => if c = i then v else F c := by
  unfold tab
  rw [List.setIfInBounds_toArray]
  congr 1
  apply List.ext_getElem
  · simp
  · intro j h1 h2
    simp only [List.length_set, List.length_map, List.length_range] at h1
    rw [List.getElem_set]
    simp only [List.getElem_map, List.getElem_range]
    by_cases hj : i = j
    · subst hj; simp
    · rw [if_neg hj, if_neg (fun e => hj e.symm)]
theorem tab_congr {n : Nat} {F G : Nat → Nat} (h : ∀ c, c < n → F c = G c) : tab n F = tab n G := by
  unfold tab
  congr 1
  apply List.map_congr_left
  intro c hc
  rw [h c (by simpa using hc)]
theorem tab_size (n : Nat) (F : Nat → Nat) : (tab n F).size = n := by simp [tab]
theorem tab_zero (n : Nat) : (List.replicate n (Value.int .i64 0)).toArray = tab n fun _ => 0 := by
  unfold tab
  congr 1
  apply List.ext_getElem
  · simp
  · intro i h1 h2; simp
set_option maxHeartbeats 400000 in
theorem check_rt (k : Int) (A : Option Addr) (c : Nat) (xs : List Int) (w : World) (hr : RowOf iV w A xs) (hl : xs.length * 8 ≤ 140737488351232) :
    Rt Tryz.prog 46 [.int .i64 k, .slice A xs.length c] w (fun v w' => v = .int .i64 (chkW k xs) ∧ w = w') := by
  refine enter (n := 30) Tryz.func46 rfl rfl rfl ?_
  refine cd_seq (cd_region ?_)
  refine asi rfl ?_
  refine st_nil (nx_then (cd_seq (cd_seq (cd_region ?_))))
  refine mvi rfl ?_
  refine st_val (ro_lss rfl rfl) ?_
  refine mvb rfl ?_
  refine st_split (t := 9) rfl (fun Q1 => ?_) (fun Q1 => ?_)
  · with_reducible replace Q1 := of_decide_eq_true Q1
    refine st_gno rfl rfl ?_
    refine st_gno rfl rfl ?_
    refine st_val (ro_pickT (v := .bool _) rfl rfl) ?_
    refine st_nil (nx_then ?_)
    refine cd_condT rfl ?_
    refine cd_seq (cd_region ?_)
    refine asi rfl ?_
    refine st_nil (nx_then (cd_ret (rt_then ?_)))
    refine res1 (v := .int _ _) rfl rfl ?_
    exact ⟨int_eq (by unfold chkW; rw [if_pos (by omega)]), rfl⟩
  with_reducible replace Q1 := of_decide_eq_false Q1
  refine st_unguard rfl ?_
  refine mvi rfl ?_
  refine st_unguard rfl ?_
  refine st_val (ro_gtr rfl rfl) ?_
  refine st_val (ro_pickF (v := .bool _) rfl rfl) ?_
  refine st_nil (nx_then ?_)
  refine cd_cond rfl (fun Q2 => ?_) (fun Q2 => ?_)
  · with_reducible replace Q2 := of_decide_eq_true Q2
    refine cd_seq (cd_region ?_)
    refine asi rfl ?_
    refine st_nil (nx_then (cd_ret (rt_then ?_)))
    refine res1 (v := .int _ _) rfl rfl ?_
    exact ⟨int_eq (by unfold chkW; rw [if_pos (by omega)]), rfl⟩
  with_reducible replace Q2 := of_decide_eq_false Q2
  refine cd_skip (nx_then (cd_seq (cd_seq (cd_region ?_))))
  refine mvs rfl ?_
  refine st_val (ro_len WavWalks_l68 rfl) ?_
  refine mvi rfl ?_
  refine st_nil (nx_then (cd_block ?_))
  refine cd_loop (G := Nat) [4, 6, 16, 17, 18, 19, 20, 21, 22, 23, 24, 25, 26] (fun i => [(15, .int .i64 (i : Nat))]) (fun i w' => i ≤ xs.length ∧ (xs.take i).any (badSym k) = false ∧ w = w') (fun i => xs.length - i) (0) ⟨rfl, trivial⟩ ?_ ?_
  · exact ⟨Nat.zero_le _, rfl, rfl⟩
  rintro i ρ3 w3 ⟨hi, han, rfl⟩
  refine cd_seq (cd_region ?_)
  refine st_val (ro_lss rfl rfl) ?_
  refine st_nil (nx_then (cd_seq ?_))
  refine cd_cond rfl (fun Q4 => ?_) (fun Q4 => ?_)
  · with_reducible replace Q4 := of_decide_eq_true Q4
    have hiL : i < xs.length := by omega
    obtain ⟨ba, oa, hA, hca⟩ := hr (by omega)
    subst hA
    refine cd_skip (nx_then (cd_seq (cd_block (cd_seq (cd_region ?_)))))
    refine st_val (ro_indexAddr1 WavWalks_e68 rfl rfl (by omega)) ?_
    refine st_val (ro_load WavWalks_g3 rfl (by exact hca i hiL)) ?_
    refine asi rfl ?_
    refine st_nil (nx_then (cd_seq (cd_region ?_)))
    refine mvi rfl ?_
    refine st_val (ro_lss rfl rfl) ?_
    refine mvb rfl ?_
    refine st_split (t := 21) rfl (fun Q5 => ?_) (fun Q5 => ?_)
    · with_reducible replace Q5 := of_decide_eq_true Q5
      have hbd : badSym k xs[i] = true := decide_eq_true (by omega)
      refine st_gno rfl rfl ?_
      refine st_gno rfl rfl ?_
      refine st_gno rfl rfl ?_
      refine st_val (ro_pickT (v := .bool _) rfl rfl) ?_
      refine st_nil (nx_then ?_)
      refine cd_condT rfl ?_
      refine cd_seq (cd_region ?_)
      refine asi rfl ?_
      refine st_nil (nx_then (cd_ret (rt_block (rt_then (rt_then (rt_block (rt_then ?_)))))))
      refine res1 (v := .int _ _) rfl rfl ?_
      exact ⟨int_eq (by unfold chkW; rw [if_neg (by omega), if_pos (any_at hiL hbd)]), rfl⟩
    with_reducible replace Q5 := of_decide_eq_false Q5
    refine st_unguard rfl ?_
    refine mvi rfl ?_
    refine st_unguard rfl ?_
    refine mvi rfl ?_
    refine st_unguard rfl ?_
    refine st_val (ro_geq rfl rfl) ?_
    refine st_val (ro_pickF (v := .bool _) rfl rfl) ?_
    refine st_nil (nx_then ?_)
    refine cd_cond rfl (fun Q6 => ?_) (fun Q6 => ?_)
    · with_reducible replace Q6 := of_decide_eq_true Q6
      have hbd : badSym k xs[i] = true := decide_eq_true (by omega)
      refine cd_seq (cd_region ?_)
      refine asi rfl ?_
      refine st_nil (nx_then (cd_ret (rt_block (rt_then (rt_then (rt_block (rt_then ?_)))))))
      refine res1 (v := .int _ _) rfl rfl ?_
      exact ⟨int_eq (by unfold chkW; rw [if_neg (by omega), if_pos (any_at hiL hbd)]), rfl⟩
    with_reducible replace Q6 := of_decide_eq_false Q6
    have hbd : badSym k xs[i] = false := decide_eq_false (by omega)
    refine cd_skip (nx_block (nx_then (cd_region ?_)))
    refine st_val (ro_addN (b := 1) rfl rfl (by omega)) ?_
    refine mvi rfl ?_
    refine st_nil ?_
    refine nx_cut (i + 1) ⟨(by first | rfl | (refine int_eq ?_; omega)), trivial⟩ (by (iterate 28 refine agr_cons rfl ?_); exact agr_rfl) ⟨?_, ?_⟩
    · exact ⟨by omega, any_take hiL han hbd, rfl⟩
    · omega
  with_reducible replace Q4 := of_decide_eq_false Q4
  refine cd_exit ?_
  refine ex_then (ex_then (ex_block (nx_then (cd_seq (cd_seq (cd_region ?_))))))
  refine mvs rfl ?_
  refine st_val (ro_len WavWalks_l68 rfl) ?_
  refine st_val (ro_gtr rfl rfl) ?_
  refine st_nil (nx_then ?_)
  refine cd_cond rfl (fun Q7 => ?_) (fun Q7 => ?_)
  · with_reducible replace Q7 := of_decide_eq_true Q7
    refine cd_seq (cd_region ?_)
    refine asi rfl ?_
    refine st_nil (nx_then (cd_ret (rt_then ?_)))
    refine res1 (v := .int _ _) rfl rfl ?_
    obtain rfl : i = xs.length := by omega
    rw [List.take_length] at han
    exact ⟨int_eq (by unfold chkW; rw [if_neg (by omega), if_neg (by rw [han]; simp), if_pos (by omega)]), rfl⟩
  with_reducible replace Q7 := of_decide_eq_false Q7
  refine cd_skip (nx_then (cd_seq (cd_region ?_)))
  refine asi rfl ?_
  refine st_nil (nx_then (cd_ret ?_))
  refine res1 (v := .int _ _) rfl rfl ?_
  obtain rfl : i = xs.length := by omega
  rw [List.take_length] at han
  exact ⟨int_eq (by unfold chkW; rw [if_neg (by omega), if_neg (by rw [han]; simp), if_neg (by omega)]), rfl⟩
set_option maxHeartbeats 1000000 in
theorem countLess_rt (k : Nat) (hk : k ≤ 512) (A : Option Addr) (c : Nat) (L : List Nat) (w : World) (hr : RowOf nV w A L) (hl : L.length ≤ 131072) (hlt : ∀ x ∈ L, x < k) :
    Rt Tryz.prog 47 [.int .i64 (k : Nat), .slice A L.length c] w (fun v w' => (∃ g, v = .slice (some ⟨g, 0, none⟩) (k + 1) (k + 1) ∧ w.heap.size ≤ g ∧ Blk w' g 3 (tab (k + 1) (cntLt L))) ∧ From w w') := by
  refine enter (n := 43) Tryz.func47 rfl rfl rfl ?_
  refine cd_seq (cd_region ?_)
  refine ass rfl ?_
  refine st_nil (nx_then (cd_seq (cd_region ?_)))
  refine mvi rfl ?_
  refine st_val (ro_addN (b := 1) rfl rfl (by omega)) ?_
  refine st_make WavWalks_m68 rfl rfl rfl (by omega) (by omega) ?_
  intro b11 w1 E11 hb11 hk11
  have hg11 : w.heap.size ≤ b11 := Nat.le_of_eq hb11.symm
  refine ass rfl ?_
  refine st_nil (nx_then (cd_seq (cd_seq (cd_region ?_))))
  refine mvs rfl ?_
  refine st_val (ro_len WavWalks_l68 rfl) ?_
  refine mvi rfl ?_
  refine st_nil (nx_then (cd_block ?_))
  refine cd_loop (G := Nat) [7, 15, 16, 17, 18, 19, 20, 21, 22, 23, 24, 25] (fun i => [(14, .int .i64 (i : Nat))]) (fun i w' => i ≤ L.length ∧ Blk w' b11 3 (tab (k + 1) (cntS (L.take i))) ∧ From w w') (fun i => L.length - i) (0) ⟨rfl, trivial⟩ ?_ ?_
  · exact ⟨Nat.zero_le _, by rw [show (tab (k + 1) (cntS (L.take 0))) = _ from (tab_congr fun c _ => by simp [cntS]).trans (tab_zero (k + 1)).symm]; exact hk11, (From.rfl_.next E11)⟩
  rintro i ρ2 w2 ⟨hi, hT, hB⟩
  refine cd_seq (cd_region ?_)
  refine st_val (ro_lss rfl rfl) ?_
  refine st_nil (nx_then (cd_seq ?_))
  refine cd_cond rfl (fun Q3 => ?_) (fun Q3 => ?_)
  · with_reducible replace Q3 := of_decide_eq_true Q3
    have hiL : i < L.length := by omega
    obtain ⟨ba, oa, hA, hca⟩ := hr (by omega)
    subst hA
    have hLk : L[i] < k := hlt _ (List.getElem_mem _)
    refine cd_skip (nx_then (cd_seq (cd_block (cd_seq (cd_region ?_)))))
    refine st_val (ro_indexAddr1 WavWalks_e68 rfl rfl (by omega)) ?_
    refine st_val (ro_load WavWalks_g3 rfl (by exact cellF hB (hca i hiL))) ?_
    refine asi rfl ?_
    refine st_nil (nx_then (cd_region ?_))
    refine mvs rfl ?_
    refine mvi rfl ?_
    refine st_val (ro_addN (b := 1) rfl rfl (by omega)) ?_
    refine st_val (ro_indexAddr0 WavWalks_e68 rfl rfl (by omega)) ?_
    refine st_val (ro_load WavWalks_g3 rfl (by exact hT.rd _ (tab_get (by omega)))) ?_
    refine st_val (ro_addN (b := 1) rfl rfl (by have := cntS_le (L.take i) (L[i] + 1); rw [List.length_take] at this; omega)) ?_
    refine st_val (ro_indexAddr0 WavWalks_e68 rfl rfl (by omega)) ?_
    refine st_put (v := .int _ _) WavWalks_z3 rfl rfl rfl (hT) (by rw [tab_size]; omega) ?_
    intro w4 O5 P5
    refine st_nil (nx_block (nx_then (cd_region ?_)))
    refine st_val (ro_addN (b := 1) rfl rfl (by omega)) ?_
    refine mvi rfl ?_
    refine st_nil ?_
    refine nx_cut (i + 1) ⟨(by first | rfl | (refine int_eq ?_; omega)), trivial⟩ (by (iterate 26 refine agr_cons rfl ?_); exact agr_rfl) ⟨?_, ?_⟩
    · refine ⟨by omega, ?_, (hB.only O5 (hg11))⟩
      have e : tab (k + 1) (fun c => if c = L[i] + 1 then cntS (L.take i) (L[i] + 1) + 1 else cntS (L.take i) c) = tab (k + 1) (cntS (L.take (i + 1))) := tab_congr fun c _ => by rw [cntS_succ hiL]; by_cases hc : c = L[i] + 1 <;> simp [hc]
      rw [← e, ← tab_set]
      exact P5
    · omega
  with_reducible replace Q3 := of_decide_eq_false Q3
  refine cd_exit ?_
  refine ex_then (ex_then (ex_block (nx_then (cd_seq (cd_seq (cd_region ?_))))))
  refine mvi rfl ?_
  refine mvi rfl ?_
  refine st_nil (nx_then (cd_block ?_))
  refine cd_loop (G := Nat) [8, 28, 29, 30, 31, 32, 33, 34, 35, 36, 37, 38, 39, 40, 41] (fun j => [(27, .int .i64 (j : Nat))]) (fun j w' => j ≤ k ∧ Blk w' b11 3 (tab (k + 1) (fun c => if c ≤ j then cntLt L c else cntS L c)) ∧ From w w') (fun j => k - j) (0) ⟨rfl, trivial⟩ ?_ ?_
  · refine ⟨Nat.zero_le _, ?_, hB⟩
    obtain rfl : i = L.length := by omega
    rw [List.take_length] at hT
    have e : tab (k + 1) (fun c => if c ≤ 0 then cntLt L c else cntS L c) = tab (k + 1) (cntS L) := tab_congr fun c _ => by
      split
      · rename_i h; obtain rfl : c = 0 := by omega
        rw [cntLt_zero]; unfold cntS; simp
      · rfl
    rw [e]
    exact hT
  rintro j ρ5 w5 ⟨hj, hT2, hB⟩
  refine cd_seq (cd_region ?_)
  refine st_val (ro_lss rfl rfl) ?_
  refine st_nil (nx_then (cd_seq ?_))
  refine cd_cond rfl (fun Q6 => ?_) (fun Q6 => ?_)
  · with_reducible replace Q6 := of_decide_eq_true Q6
    have hjk : j < k := by omega
    refine cd_skip (nx_then (cd_seq (cd_block (cd_seq (cd_region ?_)))))
    refine mvi rfl ?_
    refine asi rfl ?_
    refine st_nil (nx_then ?_)
    apply cd_drawnD 11 [(30, eqp _), (31, eqp _), (32, eqp _), (33, eqp _), (34, eqp (nV (cntS L (j + 1)))), (35, eqp _), (36, eqp _), (37, eqp _), (38, eqp (nV (cntLt L j))), (39, eqp (nV (cntS L (j + 1) + cntLt L j))), (40, eqp _)] (by repeat first | exact pq_body | refine pq_then ?_ | refine pq_block ?_) (by kernel_rfl) (by kernel_rfl) ⟨eqp_mono _, eqp_mono _, eqp_mono _, eqp_mono _, eqp_mono _, eqp_mono _, eqp_mono _, eqp_mono _, eqp_mono _, eqp_mono _, eqp_mono _, trivial⟩
    case hop =>
     refine ⟨?_, ?_⟩
     · rintro - w8 D8
       show OpOK _ _ _ _ _ _ _
       exact ok_pure (ro_move (v := .slice _ _ _) rfl) rfl
     refine ⟨?_, ?_⟩
     · rintro - w9 D9
       show OpOK _ _ _ _ _ _ _
       exact ok_pure (ro_move (v := .int _ _) rfl) rfl
     refine ⟨?_, ?_⟩
     · rintro - w10 D10
       rintro _ rfl
       show OpOK _ _ _ _ _ _ _
       exact ok_pure (ro_addN (b := 1) rfl rfl (by omega)) rfl
     refine ⟨?_, ?_⟩
     · rintro - w11 D11
       rintro _ rfl _ rfl
       show OpOK _ _ _ _ _ _ _
       exact ok_pure (ro_indexAddr0 WavWalks_e68 rfl rfl (by omega)) rfl
     refine ⟨?_, ?_⟩
     · rintro - w12 D12
       rintro _ rfl
       show OpOK _ _ _ _ _ _ _
       exact ok_pure (ro_load WavWalks_g3 rfl ((hT2.from_ D12).rd _ (by rw [tab_get (by omega), if_neg (by omega)]))) rfl
     refine ⟨?_, ?_⟩
     · rintro - w13 D13
       show OpOK _ _ _ _ _ _ _
       exact ok_pure (ro_move (v := .slice _ _ _) rfl) rfl
     refine ⟨?_, ?_⟩
     · rintro - w14 D14
       show OpOK _ _ _ _ _ _ _
       exact ok_pure (ro_move (v := .int _ _) rfl) rfl
     refine ⟨?_, ?_⟩
     · rintro - w15 D15
       rintro _ rfl _ rfl
       show OpOK _ _ _ _ _ _ _
       exact ok_pure (ro_indexAddr0 WavWalks_e68 rfl rfl (by omega)) rfl
     refine ⟨?_, ?_⟩
     · rintro - w16 D16
       rintro _ rfl
       show OpOK _ _ _ _ _ _ _
       exact ok_pure (ro_load WavWalks_g3 rfl ((hT2.from_ D16).rd _ (by rw [tab_get (by omega), if_pos (Nat.le_refl _)]))) rfl
     refine ⟨?_, ?_⟩
     · rintro - w17 D17
       rintro v17_34 rfl v17_38 rfl
       show OpOK _ _ _ _ _ _ _
       exact ok_pure (ro_addN rfl rfl (by have := cntS_le L (j + 1); have := cntLt_le L j; omega)) rfl
     refine ⟨?_, ?_⟩
     · rintro - w18 D18
       rintro _ rfl _ rfl
       show OpOK _ _ _ _ _ _ _
       exact ok_pure (ro_indexAddr0 WavWalks_e68 rfl rfl (by omega)) rfl
     exact trivial
    case hend =>
     intro w19 D19
     rintro _ rfl _ rfl _ rfl _ rfl v34 rfl _ rfl _ rfl _ rfl v38 rfl v39 rfl _ rfl
     show St _ _ _ _ _ _ _
     have hT3 := hT2.from_ D19
     refine st_put (v := .int _ _) WavWalks_z3 rfl rfl rfl (hT3) (by rw [tab_size]; omega) ?_
     intro w20 O10 P10
     refine st_nil (nx_block (nx_then (cd_region ?_)))
     refine st_val (ro_addN (b := 1) rfl rfl (by omega)) ?_
     refine mvi rfl ?_
     refine st_nil ?_
     refine nx_cut (j + 1) ⟨(by first | rfl | (refine int_eq ?_; omega)), trivial⟩ (by (iterate 32 refine agr_cons rfl ?_); exact agr_rfl) ⟨?_, ?_⟩
     · refine ⟨by omega, ?_, ((hB.next D19).only O10 (hg11))⟩
       have e : tab (k + 1) (fun c => if c = j + 1 then cntS L (j + 1) + cntLt L j else if c ≤ j then cntLt L c else cntS L c) = tab (k + 1) (fun c => if c ≤ j + 1 then cntLt L c else cntS L c) := tab_congr fun c _ => by
         by_cases h1 : c = j + 1
         · subst h1; rw [if_pos rfl, if_pos (Nat.le_refl _), cntLt_succ]
         · rw [if_neg h1]
           by_cases h2 : c ≤ j
           · rw [if_pos h2, if_pos (by omega)]
           · rw [if_neg h2, if_neg (by omega)]
       rw [← e, ← tab_set]
       exact P10
     · omega
  with_reducible replace Q6 := of_decide_eq_false Q6
  refine cd_exit ?_
  refine ex_then (ex_then (ex_block (nx_then (cd_seq (cd_region ?_)))))
  refine mvs rfl ?_
  refine ass rfl ?_
  refine st_nil (nx_then (cd_ret ?_))
  refine res1 (v := .slice _ _ _) rfl rfl ?_
  obtain rfl : j = k := by omega
  have e : tab (j + 1) (fun c => if c ≤ j then cntLt L c else cntS L c) = tab (j + 1) (cntLt L) := tab_congr fun c hc => if_pos (by omega)
  rw [e] at hT2
  exact ⟨⟨b11, rfl, hg11, hT2⟩, hB⟩
end Go.Proofs.YtllmocjfllbbfaaGreat

namespace Go.Proofs.YtllmocjfllbbfaaGreat
open Go.RowKit
open Go.ChangeShapes Go.WideShapes Go.ChangeAt
theorem WavSplit_e68 : elemQ Tryz.prog 68 = some (3, 1) := by kernel_rfl
theorem WavSplit_e119 : elemQ Tryz.prog 119 = some (4, 1) := by kernel_rfl
theorem WavSplit_m68 : makeQ Tryz.prog 68 = some (3, 8, (.int .i64 0)) := by kernel_rfl
theorem WavSplit_f99_0 : fieldQ Tryz.prog 99 0 = some 0 := by kernel_rfl
theorem WavSplit_g97 : aggQ Tryz.prog 97 = some false := by kernel_rfl
theorem WavSplit_k104 : callable Tryz.prog 104 = true := by kernel_rfl
theorem WavSplit_g99 : aggQ Tryz.prog 99 = some true := by kernel_rfl
theorem WavSplit_z99 : sizeQ Tryz.prog 99 = some 3 := by kernel_rfl
theorem WavSplit_k101 : callable Tryz.prog 101 = true := by kernel_rfl
theorem WavSplit_f99_1 : fieldQ Tryz.prog 99 1 = some 1 := by kernel_rfl
theorem WavSplit_g3 : aggQ Tryz.prog 3 = some false := by kernel_rfl
theorem WavSplit_f99_2 : fieldQ Tryz.prog 99 2 = some 2 := by kernel_rfl
theorem WavSplit_g4 : aggQ Tryz.prog 4 = some false := by kernel_rfl
theorem WavSplit_o99 : zeroQ Tryz.prog 99 = some (.agg #[.pointer none, .int .i64 0, .int .i64 0]) := by kernel_rfl
theorem WavSplit_l68 : (elemQ Tryz.prog 68).isSome = true := by kernel_rfl
theorem WavSplit_m119 : makeQ Tryz.prog 119 = some (4, 1, (.bool false)) := by kernel_rfl
theorem WavSplit_z4 : sizeQ Tryz.prog 4 = some 1 := by kernel_rfl
theorem WavSplit_q68 : litQ Tryz.prog 68 = some (3, 1, 8, (.int .i64 0)) := by kernel_rfl
theorem WavSplit_k63 : callable Tryz.prog 63 = true := by kernel_rfl
theorem WavSplit_b99_0_1_2 : ∀ (a0 : Option Addr) (a1 : Int) (a2 : Int), Tryz.prog.built 99 [(0, .pointer a0), (1, .int .i64 a1), (2, .int .i64 a2)] = some #[.pointer a0, .int .i64 a1, .int .i64 a2] := by intros; kernel_rfl
theorem and_one_bit (s c : Nat) : ((((c / 2 ^ s &&& 1 : Nat) : Int)) == 1) = bitN s c := by
  rw [Nat.and_one_is_mod]
  unfold bitN
  generalize c / 2 ^ s % 2 = r
  rw [Bool.eq_iff_iff]
  simp only [beq_iff_eq, decide_eq_true_eq]
  omega
theorem rB_in {l : List Bool} {i : Nat} (h : i ≤ l.length) : rB l (i : Nat) = (rk l i : Nat) := by
  unfold rB
  rw [if_pos (by omega)]
  simp
theorem ones_le (s : Nat) (M : List Nat) (i : Nat) : (onesL s (M.take i)).length ≤ i := by
  have := zo_len s (M.take i)
  rw [List.length_take] at this
  omega
section
variable {P : Program} {ops : Array Oper} {Q : Exit → Act → World → Prop} {rest : List Oper} {n : Fr} {L : List (Nat × Value)} {w : World} {ty : TypeId} {pos : String} {after : Array Edge} {d : Nat} {t : TypeId} {x y : Operand}
theorem st_make0 {e by_ m base : Nat} {z : Value} {kl kc : IntKind} (ht : makeQ P t = some (e, by_, z)) (hz : z.cells = #[z]) (hx : ev n L x = .int kl 0) (hy : ev n L y = .int kc (m : Nat)) (hm : m ≤ 9007199254740992) (hb : by_ * m ≤ 281474976710656) (hbs : base ≤ w.heap.size)
    (k : ∀ g w', From w w' → g = w.heap.size → w'.ownsRow base e 1 (.slice (some ⟨g, 0, none⟩) 0 m) 0 [] → St P ops Q rest n ((d, .slice (some ⟨g, 0, none⟩) 0 m) :: L) w') : St P ops Q (⟨some d, .makeSlice t x y, ty, pos, after, none⟩ :: rest) n L w := by
  unfold makeQ at ht
  split at ht
  · rename_i e' hu
    cases hi : P.info? e' with
    | none => simp [hi] at ht
    | some i =>
      rw [hi] at ht
      simp only [Option.bind_some] at ht
      split at ht
      · rename_i hs
        cases hzz : i.zero with
        | none => simp [hzz] at ht
        | some z' =>
          simp only [hzz, Option.map_some, Option.some.injEq, Prod.mk.injEq] at ht
          obtain ⟨rfl, rfl, rfl⟩ := ht
          have hr := run_make (P := P) w t e' i z' hu hi hzz kl kc 0 (m : Int) (by omega) (by omega) (by
            have : ((i.bytes * m : Nat) : Int) ≤ 281474976710656 := by omega
            rwa [Int.natCast_mul] at this) (by omega)
          rw [Int.toNat_natCast] at hr
          refine st_val (v := .slice (some ⟨w.heap.size, 0, none⟩) 0 m) (w' := w.alloc (.cells (madeCells z'.cells (m * i.size)) e')) (fun _ _ _ _ _ => ?_) (k _ _ (From.rfl_.new _) rfl ⟨by simp, .inr ⟨w.heap.size, m, _, rfl, hbs, heap_alloc_new w _, Nat.zero_le _, by unfold maxLen; omega, by simp [madeCells, hs], by simp⟩⟩)
          simp [execOp, hx, hy, hr]
      · cases ht
  · cases ht
end
def lvlV (v z s : Nat) : List Value := [.pointer (some ⟨v, 0, none⟩), .int .i64 (z : Nat), .int .i64 (s : Nat)]
set_option maxHeartbeats 400000 in
theorem rank_l (base v z s i : Nat) (M : List Nat) (w : World) (hv : Vec w base v (M.map (bitN s))) (hi : i ≤ M.length) (hz : z = (zerosL s M).length) (hM : M.length ≤ 131072) :
    Rt Tryz.prog 101 [.agg (lvlV v z s).toArray, .int .i64 (i : Nat)] w (fun v w' => v = .int .i64 ((onesL s (M.take i)).length : Nat) ∧ From w w') := by
  refine enter (n := 15) Tryz.func101 rfl rfl rfl ?_
  refine cd_seq (cd_region ?_)
  refine st_box (v := .agg _) rfl ?_
  intro b2 w1 E2 hb2 hk2
  refine asi rfl ?_
  refine st_nil (nx_then (cd_seq (cd_region ?_)))
  refine st_val (ro_fieldAddr WavSplit_f99_0 rfl) ?_
  refine st_val (ro_load WavSplit_g97 rfl (by exact (hk2.from_ From.rfl_).rd 0 rfl)) ?_
  refine mvi rfl ?_
  refine st_call WavSplit_k104 (rank_rt base v (i : Nat) (M.map (bitN s)) _ (hv.from_ (From.rfl_.next E2))) ?_
  rintro v11 w2 ⟨rfl, E11⟩
  refine mvt rfl ?_
  refine st_val (ro_extract rfl rfl) ?_
  refine st_val (ro_extract rfl rfl) ?_
  refine asi rfl ?_
  refine asi rfl ?_
  refine st_nil (nx_then (cd_seq (cd_region ?_)))
  refine mvi rfl ?_
  refine asi rfl ?_
  refine st_nil (nx_then (cd_ret ?_))
  refine res1 (v := .int _ _) rfl rfl ?_
  exact ⟨int_eq (by rw [rB_in (by rw [List.length_map]; exact hi), rk_ones s M i hi]), ((From.rfl_.next E2).next E11)⟩
set_option maxHeartbeats 400000 in
theorem down_l (base v z s i : Nat) (M : List Nat) (w : World) (hv : Vec w base v (M.map (bitN s))) (hi : i ≤ M.length) (hz : z = (zerosL s M).length) (hM : M.length ≤ 131072) (b : Bool) :
    Rt Tryz.prog 91 [.agg (lvlV v z s).toArray, .int .i64 (i : Nat), .bool b] w (fun v w' => v = .int .i64 (downN s M i b : Nat) ∧ From w w') := by
  refine enter (n := 19) Tryz.func91 rfl rfl rfl ?_
  refine cd_seq (cd_region ?_)
  refine st_box (v := .agg _) rfl ?_
  intro b3 w1 E3 hb3 hk3
  refine asi rfl ?_
  refine st_nil (nx_then (cd_seq (cd_region ?_)))
  refine st_val (ro_loadA (cs := [_, _, _]) WavSplit_g99 WavSplit_z99 rfl (by exact (hk3.from_ From.rfl_).whole)) ?_
  refine mvi rfl ?_
  refine st_call WavSplit_k101 (rank_l base v z s i M _ (hv.from_ (From.rfl_.next E3)) hi hz hM) ?_
  rintro v10 w2 ⟨rfl, E10⟩
  refine asi rfl ?_
  refine st_nil (nx_then (cd_seq (cd_seq (cd_region ?_))))
  refine mvb rfl ?_
  refine st_nil (nx_then ?_)
  refine cd_cond rfl (fun Q3 => ?_) (fun Q3 => ?_)
  · (try first | (replace Q3 := bn_t Q3; trace "@MK N down_l:c11+ 1.1") | (replace Q3 := bn_f Q3; trace "@MK N down_l:c11+ 1.2"))
    (try first | (replace Q3 := bx_t Q3; trace "@MK N down_l:c11+ 2.1") | (replace Q3 := bx_f Q3; trace "@MK N down_l:c11+ 2.2") | (replace Q3 := be_t Q3; trace "@MK N down_l:c11+ 2.3") | (replace Q3 := be_f Q3; trace "@MK N down_l:c11+ 2.4") | (replace Q3 := of_decide_eq_true Q3; trace "@MK N down_l:c11+ 2.5") | (replace Q3 := of_decide_eq_false Q3; trace "@MK N down_l:c11+ 2.6"))
    refine cd_seq (cd_region ?_)
    refine st_val (ro_fieldAddr WavSplit_f99_1 rfl) ?_
    refine st_val (ro_load WavSplit_g3 rfl (by exact (hk3.from_ (From.rfl_.next E10)).rd 1 rfl)) ?_
    refine mvi rfl ?_
    refine st_val (ro_addN rfl rfl (by have := zo_len s M; have := ones_le s M i; omega)) ?_
    refine asi rfl ?_
    refine st_nil (nx_then (cd_ret (rt_then ?_)))
    refine res1 (v := .int _ _) rfl rfl ?_
    refine ⟨int_eq ?_, ((From.rfl_.next E3).next E10)⟩
    unfold downN
    first | rw [if_pos (by assumption), hz] | (simp_all; done)
  (try first | (replace Q3 := bn_t Q3; trace "@MK N down_l:c11- 1.1") | (replace Q3 := bn_f Q3; trace "@MK N down_l:c11- 1.2"))
  (try first | (replace Q3 := bx_t Q3; trace "@MK N down_l:c11- 2.1") | (replace Q3 := bx_f Q3; trace "@MK N down_l:c11- 2.2") | (replace Q3 := be_t Q3; trace "@MK N down_l:c11- 2.3") | (replace Q3 := be_f Q3; trace "@MK N down_l:c11- 2.4") | (replace Q3 := of_decide_eq_true Q3; trace "@MK N down_l:c11- 2.5") | (replace Q3 := of_decide_eq_false Q3; trace "@MK N down_l:c11- 2.6"))
  refine cd_skip (nx_then (cd_seq (cd_region ?_)))
  refine mvi rfl ?_
  refine mvi rfl ?_
  refine st_val (ro_subN rfl rfl (by have := ones_le s M i; omega)) ?_
  refine asi rfl ?_
  refine st_nil (nx_then (cd_ret ?_))
  refine res1 (v := .int _ _) rfl rfl ?_
  refine ⟨int_eq ?_, ((From.rfl_.next E3).next E10)⟩
  unfold downN
  first | rw [if_neg (by simp_all)] | (simp_all; done)
set_option maxHeartbeats 400000 in
theorem one_l (v z s c : Nat) (w : World) (hs : s ≤ 9) (hc : c < 1024) :
    Rt Tryz.prog 90 [.agg (lvlV v z s).toArray, .int .i64 (c : Nat)] w (fun v w' => v = .bool (bitN s c) ∧ From w w') := by
  refine enter (n := 11) Tryz.func90 rfl rfl rfl ?_
  refine cd_seq (cd_region ?_)
  refine st_box (v := .agg _) rfl ?_
  intro b2 w1 E2 hb2 hk2
  refine asb rfl ?_
  refine st_nil (nx_then (cd_seq (cd_region ?_)))
  refine mvi rfl ?_
  refine st_val (ro_fieldAddr WavSplit_f99_2 rfl) ?_
  refine st_val (ro_load WavSplit_g3 rfl (by exact (hk2.from_ From.rfl_).rd 2 rfl)) ?_
  refine st_val (ro_shrN rfl rfl (by show s ≤ 64; omega)) ?_
  refine st_val (ro_andI (b := 1) rfl rfl ⟨by have := Nat.div_le_self c (2 ^ s); omega, by decide⟩) ?_
  refine st_val (ro_eql rfl rfl) ?_
  refine asb rfl ?_
  refine st_nil (nx_then (cd_ret ?_))
  refine res1 (v := .bool _) rfl rfl ?_
  exact ⟨congrArg Value.bool (and_one_bit s c), (From.rfl_.next E2)⟩
/-- the bits, as far as they are known -/
def bitsTo (s : Nat) (L : List Nat) (i : Nat) : List Bool := (L.take i).map (bitN s) ++ List.replicate (L.length - i) false
theorem bitsTo_len {s : Nat} {L : List Nat} {i : Nat} (h : i ≤ L.length) : (bitsTo s L i).length = L.length := by simp [bitsTo]; omega
theorem bitsTo_set {s : Nat} {L : List Nat} {i : Nat} (h : i < L.length) : (bitsTo s L i).set i (bitN s L[i]) = bitsTo s L (i + 1) := by
  unfold bitsTo
  have e : ((L.take i).map (bitN s)).length = i := by simp; omega
  rw [List.set_append_right _ _ (by omega), e, Nat.sub_self, show L.length - i = (L.length - (i + 1)) + 1 by omega, List.replicate_succ, List.set_cons_zero, List.take_succ_eq_append_getElem h, List.map_append]
  simp
theorem bitsTo_all {s : Nat} {L : List Nat} : bitsTo s L L.length = L.map (bitN s) := by simp [bitsTo]
theorem zeros_succ {s : Nat} {L : List Nat} {i : Nat} (h : i < L.length) : zerosL s (L.take (i + 1)) = zerosL s (L.take i) ++ if bitN s L[i] then [] else [L[i]] := by
  rw [List.take_succ_eq_append_getElem h, zeros_app]
  congr 1
  unfold zerosL
  cases hb : bitN s L[i] <;> simp [hb]
theorem ones_succ {s : Nat} {L : List Nat} {i : Nat} (h : i < L.length) : onesL s (L.take (i + 1)) = onesL s (L.take i) ++ if bitN s L[i] then [L[i]] else [] := by
  rw [List.take_succ_eq_append_getElem h, ones_app]
  congr 1
  unfold onesL
  cases hb : bitN s L[i] <;> simp [hb]
theorem boV_map (l : List Bool) (i : Nat) (h : i < l.length) : (l.map boV).toArray[i]? = some (boV l[i]) := by simp [h]
theorem bo_set {l : List Bool} (i : Nat) (x : Bool) : ((l.map boV).toArray.setIfInBounds i (boV x)) = ((l.set i x).map boV).toArray := by
  rw [List.setIfInBounds_toArray, List.map_set]
theorem bits_at {s : Nat} {L : List Nat} {i : Nat} (h : i < L.length) : ((bitsTo s L (i + 1)).map boV).toArray[i]? = some (boV (bitN s L[i])) := by
  rw [← bitsTo_set h, boV_map _ i (by rw [List.length_set, bitsTo_len (by omega)]; exact h), List.getElem_set_self]
theorem bits_full {s : Nat} {L : List Nat} {i : Nat} (h : i < L.length) : ((L.map (bitN s)).map boV).toArray[i]? = some (boV (bitN s L[i])) := by
  rw [boV_map _ i (by rw [List.length_map]; exact h), List.getElem_map]
theorem new_n (A : Option Addr) (c n : Nat) (l : List Bool) (w : World) (hn : n = l.length) (hr : RowOf boV w A l) (hl : n ≤ 1048576) : Rt Tryz.prog 63 [.slice A n c] w fun v w' => ∃ b, v = .tuple #[.pointer (some ⟨b, 0, none⟩), .int .i64 0] ∧ Vec w' w.heap.size b l ∧ From w w' := by
  subst hn
  exact new_rt A c l w hr hl
theorem repl_bo (n : Nat) : (List.replicate n (Value.bool false)).toArray = ((List.replicate n false).map boV).toArray := by rw [List.map_replicate]
set_option maxHeartbeats 600000 in
theorem split_rt (A : Option Addr) (c : Nat) (L : List Nat) (w : World) (hr : RowOf nV w A L) (hl : L.length ≤ 131072) (s : Nat) (hs : s ≤ 9) (h10 : ∀ x ∈ L, x < 1024) :
    Rt Tryz.prog 49 [.slice A L.length c, .int .i64 (s : Nat)] w (fun v w' => (∃ b A' c', v = .tuple #[.agg (lvlV b (zerosL s L).length s).toArray, .slice A' L.length c', .int .i64 0] ∧ Vec w' w.heap.size b (L.map (bitN s)) ∧ w'.ownsRow w.heap.size 3 1 (.slice A' L.length c') L.length ((partL s L).map nV)) ∧ From w w') := by
  refine enter (n := 76) Tryz.func49 rfl rfl rfl ?_
  refine cd_seq (cd_region ?_)
  refine st_alloc WavSplit_o99 ?_
  intro b4 w1 E4 hb4 hk4
  have hl4 := hk4.lt
  have hg4 : w.heap.size ≤ b4 := Nat.le_of_eq hb4.symm
  refine ass rfl ?_
  refine asi rfl ?_
  refine st_nil (nx_then (cd_seq (cd_region ?_)))
  refine mvs rfl ?_
  refine st_val (ro_len WavSplit_l68 rfl) ?_
  refine st_make WavSplit_m119 rfl rfl rfl (by omega) (by omega) ?_
  intro b18 w2 E18 hb18 hk18
  have hg18 : w.heap.size ≤ b18 := by rw [hb18]; exact Nat.le_trans hg4 (Nat.le_of_lt hl4)
  have h418 : b4 ≠ b18 := by omega
  refine ass rfl ?_
  refine st_nil (nx_then (cd_seq (cd_region ?_)))
  refine mvs rfl ?_
  refine st_val (ro_len WavSplit_l68 rfl) ?_
  refine st_make0 (base := w.heap.size) WavSplit_m68 rfl rfl rfl (by omega) (by omega) ((From.rfl_.next E4).next E18).size ?_
  intro b21 w3 E21 hb21 ho21
  refine ass rfl ?_
  refine st_nil (nx_then (cd_seq (cd_seq (cd_region ?_))))
  refine mvs rfl ?_
  refine st_val (ro_len WavSplit_l68 rfl) ?_
  refine mvi rfl ?_
  refine st_nil (nx_then (cd_block ?_))
  refine cd_loop (G := Nat × Option Addr × Nat × Nat) [9, 10, 25, 26, 27, 28, 29, 30, 31, 32, 33, 34, 35, 36, 37, 38, 39, 40, 41, 42, 43, 44, 45, 46] (fun (i, A8, c8, m) => [(8, .slice A8 m c8), (24, .int .i64 (i : Nat))]) (fun (i, A8, c8, m) w' => i ≤ L.length ∧ m = (zerosL s (L.take i)).length ∧ Blk w' b18 4 ((bitsTo s L i).map boV).toArray ∧ w'.ownsRow w.heap.size 3 1 (.slice A8 m c8) m ((zerosL s (L.take i)).map nV) ∧ Blk w' b4 99 #[.pointer none, .int .i64 0, .int .i64 0] ∧ From w w') (fun (i, _, _, _) => L.length - i) ((0, some ⟨b21, 0, none⟩, L.length, 0)) ⟨rfl, rfl, trivial⟩ ?_ ?_
  · refine ⟨Nat.zero_le _, rfl, ?_, ho21, hk4.from_ (E18.next E21), (((From.rfl_.next E4).next E18).next E21)⟩
    have e : bitsTo s L 0 = List.replicate L.length false := by simp [bitsTo]
    rw [e, ← repl_bo]
    exact hk18.from_ E21
  rintro ⟨i, A8, c8, m⟩ ρ4 w4 ⟨hi, hm, hT, ho8, hR4, hB⟩
  refine cd_seq (cd_region ?_)
  refine st_val (ro_lss rfl rfl) ?_
  refine st_nil (nx_then (cd_seq ?_))
  refine cd_cond rfl (fun Q5 => ?_) (fun Q5 => ?_)
  · with_reducible replace Q5 := of_decide_eq_true Q5
    have hiL : i < L.length := by omega
    have hmb : m ≤ L.length := by rw [hm]; have := zo_len s (L.take i); rw [List.length_take] at this; omega
    obtain ⟨ba, oa, hA, hca⟩ := hr (by omega)
    subst hA
    refine cd_skip (nx_then ?_)
    refine cd_cut (G := Option Addr × Nat × Nat) [9, 10, 26, 27, 28, 29, 30, 31, 32, 33, 34, 35, 36, 37, 38, 39, 40, 41, 42, 43, 44, 45] (fun (A8, c8, m) => [(8, .slice A8 m c8)]) (fun (A8, c8, m) w' => m = (zerosL s (L.take (i + 1))).length ∧ Blk w' b18 4 ((bitsTo s L (i + 1)).map boV).toArray ∧ w'.ownsRow w.heap.size 3 1 (.slice A8 m c8) m ((zerosL s (L.take (i + 1))).map nV) ∧ Blk w' b4 99 #[.pointer none, .int .i64 0, .int .i64 0] ∧ From w w') ?_ ?_
    · refine cd_block (cd_seq (cd_region ?_))
      refine mvi rfl ?_
      refine st_val (ro_indexAddr1 WavSplit_e68 rfl rfl (by omega)) ?_
      refine st_val (ro_load WavSplit_g3 rfl (by exact cellF hB (hca i hiL))) ?_
      refine asi rfl ?_
      refine asi rfl ?_
      refine st_nil (nx_then (cd_seq (cd_region ?_)))
      refine mvs rfl ?_
      refine mvi rfl ?_
      refine mvi rfl ?_
      refine mvi rfl ?_
      refine st_val (ro_shrN rfl rfl (by show s ≤ 64; omega)) ?_
      refine st_val (ro_andI (b := 1) rfl rfl ⟨by have := Nat.div_le_self (L[i]) (2 ^ s); have := h10 _ (List.getElem_mem hiL); omega, by decide⟩) ?_
      refine st_val (ro_eq (ro_eql rfl rfl) (congrArg Value.bool (and_one_bit s L[i]))) ?_
      refine st_val (ro_indexAddr0 WavSplit_e119 rfl rfl (by omega)) ?_
      refine st_put (v := .bool _) WavSplit_z4 rfl rfl rfl (hT) (by simp; rw [bitsTo_len hi]; exact hiL) ?_
      intro w6 O6 P6
      have P6b : Blk w6 b18 4 ((bitsTo s L (i + 1)).map boV).toArray := by rw [← bitsTo_set hiL, ← bo_set]; exact P6
      refine st_nil (nx_then (cd_seq (cd_region ?_)))
      refine mvs rfl ?_
      refine mvi rfl ?_
      refine st_val (ro_indexAddr0 WavSplit_e119 rfl rfl (by omega)) ?_
      refine st_val (ro_load (v := boV (bitN s L[i])) WavSplit_g4 rfl (P6b.rd i (bits_at hiL))) ?_
      refine st_val (ro_not rfl) ?_
      refine st_nil (nx_then ?_)
      refine cd_cond rfl (fun Q7 => ?_) (fun Q7 => ?_)
      · with_reducible replace Q7 := bn_t Q7
        have hbt : bitN s L[i] = false := by simpa using Q7
        refine cd_region ?_
        refine mvs rfl ?_
        refine mvi rfl ?_
        refine st_lit1 (v := .int _ _) WavSplit_q68 rfl rfl rfl ?_
        intro b44 w8 E44 hb44 hk44
        have hTq := P6b.from_ E44
        have hRq := (hR4.only O6 (by omega)).from_ E44
        have hoq := (own_only3 ho8 O6 (own_off ho8 hT (by decide))).kept_from E44
        refine st_push1 (a0 := w) WavSplit_q68 rfl rfl (hoq) ((hB.only O6 (hg18)).next E44) rfl hk44 rfl (by omega) (by omega) ?_
        intro A45 c45 w9 ho45 B45 hg45
        refine ass rfl ?_
        refine st_nil (nx_block ?_)
        refine nx_cut ((A45, c45, m + 1)) ⟨(by first | rfl | (refine int_eq ?_; omega)), trivial⟩ (by (iterate 23 refine agr_cons rfl ?_); exact agr_rfl) ?_
        exact ⟨by rw [zeros_succ hiL, hbt, hm]; simp, hTq.grown hg45 (own_off hoq hTq (by decide)), by rw [zeros_succ hiL, hbt, List.map_append]; exact ho45, hRq.grown hg45 (own_off hoq hRq (by decide)), B45⟩
      with_reducible replace Q7 := bn_f Q7
      have hbt : bitN s L[i] = true := by simpa using Q7
      refine cd_skip (nx_block ?_)
      refine nx_cut ((A8, c8, m)) ⟨(by first | rfl | (refine int_eq ?_; omega)), trivial⟩ (by (iterate 18 refine agr_cons rfl ?_); exact agr_rfl) ?_
      exact ⟨by rw [zeros_succ hiL, hbt, hm]; simp, P6b, by rw [zeros_succ hiL, hbt]; simpa using own_only3 ho8 O6 (own_off ho8 hT (by decide)), hR4.only O6 (by omega), (hB.only O6 (hg18))⟩
    rintro ⟨A8', c8', m'⟩ ρ10 w10 ⟨hm2, hT2, ho82, hR42, hB⟩
    refine cd_region ?_
    refine st_val (ro_addN (b := 1) rfl rfl (by omega)) ?_
    refine mvi rfl ?_
    refine st_nil ?_
    refine nx_cut ((i + 1, A8', c8', m')) ⟨(by first | rfl | (refine int_eq ?_; omega)), (by first | rfl | (refine int_eq ?_; omega)), trivial⟩ (by (iterate 52 refine agr_cons rfl ?_); exact agr_rfl) ⟨?_, ?_⟩
    · exact ⟨by omega, hm2, hT2, ho82, hR42, hB⟩
    · show L.length - (i + 1) < L.length - i; omega
  with_reducible replace Q5 := of_decide_eq_false Q5
  refine cd_exit ?_
  refine ex_then (ex_then (ex_block (nx_then (cd_seq (cd_region ?_)))))
  refine mvs rfl ?_
  refine st_val (ro_len WavSplit_l68 rfl) ?_
  refine asi rfl ?_
  refine st_nil (nx_then (cd_seq (cd_seq (cd_region ?_))))
  refine mvs rfl ?_
  refine st_val (ro_len WavSplit_l68 rfl) ?_
  refine mvi rfl ?_
  refine st_nil (nx_then (cd_block ?_))
  refine cd_loop (G := Nat × Option Addr × Nat × Nat) [12, 13, 52, 53, 54, 55, 56, 57, 58, 59, 60, 61, 62, 63, 64] (fun (i, A8, c8, m) => [(8, .slice A8 m c8), (51, .int .i64 (i : Nat))]) (fun (i, A8, c8, m) w' => i ≤ L.length ∧ m = ((zerosL s L) ++ onesL s (L.take i)).length ∧ Blk w' b18 4 ((L.map (bitN s)).map boV).toArray ∧ w'.ownsRow w.heap.size 3 1 (.slice A8 m c8) m (((zerosL s L) ++ onesL s (L.take i)).map nV) ∧ Blk w' b4 99 #[.pointer none, .int .i64 0, .int .i64 0] ∧ From w w') (fun (i, _, _, _) => L.length - i) ((0, A8, c8, m)) ⟨rfl, rfl, trivial⟩ ?_ ?_
  · obtain rfl : i = L.length := by omega
    rw [bitsTo_all] at hT
    rw [List.take_length] at ho8 hm
    exact ⟨Nat.zero_le _, by simpa [onesL] using hm, hT, by simpa [onesL] using ho8, hR4, hB⟩
  rintro ⟨i2, A9, c9, m2⟩ ρ11 w11 ⟨hi2, hm3, hT3, ho9, hR5, hB⟩
  refine cd_seq (cd_region ?_)
  refine st_val (ro_lss rfl rfl) ?_
  refine st_nil (nx_then (cd_seq ?_))
  refine cd_cond rfl (fun Q12 => ?_) (fun Q12 => ?_)
  · with_reducible replace Q12 := of_decide_eq_true Q12
    have hiL2 : i2 < L.length := by omega
    have hmb2 : m2 ≤ 262144 := by rw [hm3, List.length_append]; have := zo_len s L; have := ones_le s L i2; omega
    obtain ⟨ba, oa, hA, hca⟩ := hr (by omega)
    subst hA
    refine cd_skip (nx_then ?_)
    refine cd_cut (G := Option Addr × Nat × Nat) [12, 13, 53, 54, 55, 56, 57, 58, 59, 60, 61, 62, 63] (fun (A8, c8, m) => [(8, .slice A8 m c8)]) (fun (A8, c8, m) w' => m = ((zerosL s L) ++ onesL s (L.take (i2 + 1))).length ∧ Blk w' b18 4 ((L.map (bitN s)).map boV).toArray ∧ w'.ownsRow w.heap.size 3 1 (.slice A8 m c8) m (((zerosL s L) ++ onesL s (L.take (i2 + 1))).map nV) ∧ Blk w' b4 99 #[.pointer none, .int .i64 0, .int .i64 0] ∧ From w w') ?_ ?_
    · refine cd_block (cd_seq (cd_region ?_))
      refine mvi rfl ?_
      refine st_val (ro_indexAddr1 WavSplit_e68 rfl rfl (by omega)) ?_
      refine st_val (ro_load WavSplit_g3 rfl (by exact cellF hB (hca i2 hiL2))) ?_
      refine asi rfl ?_
      refine asi rfl ?_
      refine st_nil (nx_then (cd_seq (cd_region ?_)))
      refine mvs rfl ?_
      refine mvi rfl ?_
      refine st_val (ro_indexAddr0 WavSplit_e119 rfl rfl (by omega)) ?_
      refine st_val (ro_load (v := boV (bitN s L[i2])) WavSplit_g4 rfl (hT3.rd i2 (bits_full hiL2))) ?_
      refine st_nil (nx_then ?_)
      refine cd_cond rfl (fun Q13 => ?_) (fun Q13 => ?_)
      · (try with_reducible first | (replace Q13 := of_decide_eq_true Q13; trace "@MK N split_rt:c25-.c52+.c59+ 1.1") | (replace Q13 := of_decide_eq_false Q13; trace "@MK N split_rt:c25-.c52+.c59+ 1.2") | (replace Q13 := bn_t Q13; trace "@MK N split_rt:c25-.c52+.c59+ 1.3") | (replace Q13 := bn_f Q13; trace "@MK N split_rt:c25-.c52+.c59+ 1.4"))
        (try with_reducible first | (replace Q13 := of_decide_eq_true Q13; trace "@MK N split_rt:c25-.c52+.c59+ 2.1") | (replace Q13 := of_decide_eq_false Q13; trace "@MK N split_rt:c25-.c52+.c59+ 2.2") | (replace Q13 := bx_t Q13; trace "@MK N split_rt:c25-.c52+.c59+ 2.3") | (replace Q13 := bx_f Q13; trace "@MK N split_rt:c25-.c52+.c59+ 2.4") | (replace Q13 := be_t Q13; trace "@MK N split_rt:c25-.c52+.c59+ 2.5") | (replace Q13 := be_f Q13; trace "@MK N split_rt:c25-.c52+.c59+ 2.6"))
        have hbt2 : bitN s L[i2] = true := Q13
        refine cd_region ?_
        refine mvs rfl ?_
        refine mvi rfl ?_
        refine st_lit1 (v := .int _ _) WavSplit_q68 rfl rfl rfl ?_
        intro b62 w14 E62 hb62 hk62
        refine st_push1 (a0 := w) WavSplit_q68 rfl rfl ((ho9.kept_from E62)) (hB.next E62) rfl hk62 rfl (by omega) (by omega) ?_
        intro A63 c63 w15 ho63 B63 hg63
        refine ass rfl ?_
        refine st_nil (nx_block ?_)
        refine nx_cut ((A63, c63, m2 + 1)) ⟨(by first | rfl | (refine int_eq ?_; omega)), trivial⟩ (by (iterate 14 refine agr_cons rfl ?_); exact agr_rfl) ?_
        exact ⟨by rw [ones_succ hiL2, hbt2, hm3]; simp; omega, (hT3.from_ E62).grown hg63 (own_off (ho9.kept_from E62) (hT3.from_ E62) (by decide)), by rw [ones_succ hiL2, hbt2]; simpa using ho63, (hR5.from_ E62).grown hg63 (own_off (ho9.kept_from E62) (hR5.from_ E62) (by decide)), B63⟩
      (try with_reducible first | (replace Q13 := of_decide_eq_true Q13; trace "@MK N split_rt:c25-.c52+.c59- 1.1") | (replace Q13 := of_decide_eq_false Q13; trace "@MK N split_rt:c25-.c52+.c59- 1.2") | (replace Q13 := bn_t Q13; trace "@MK N split_rt:c25-.c52+.c59- 1.3") | (replace Q13 := bn_f Q13; trace "@MK N split_rt:c25-.c52+.c59- 1.4"))
      (try with_reducible first | (replace Q13 := of_decide_eq_true Q13; trace "@MK N split_rt:c25-.c52+.c59- 2.1") | (replace Q13 := of_decide_eq_false Q13; trace "@MK N split_rt:c25-.c52+.c59- 2.2") | (replace Q13 := bx_t Q13; trace "@MK N split_rt:c25-.c52+.c59- 2.3") | (replace Q13 := bx_f Q13; trace "@MK N split_rt:c25-.c52+.c59- 2.4") | (replace Q13 := be_t Q13; trace "@MK N split_rt:c25-.c52+.c59- 2.5") | (replace Q13 := be_f Q13; trace "@MK N split_rt:c25-.c52+.c59- 2.6"))
      have hbt2 : bitN s L[i2] = false := by simpa using Q13
      refine cd_skip (nx_block ?_)
      refine nx_cut ((A9, c9, m2)) ⟨(by first | rfl | (refine int_eq ?_; omega)), trivial⟩ (by (iterate 9 refine agr_cons rfl ?_); exact agr_rfl) ?_
      exact ⟨by rw [ones_succ hiL2, hbt2, hm3]; simp, hT3, by rw [ones_succ hiL2, hbt2]; simpa using ho9, hR5, hB⟩
    rintro ⟨A9', c9', m3⟩ ρ16 w16 ⟨hm4, hT4, ho94, hR54, hB⟩
    refine cd_region ?_
    refine st_val (ro_addN (b := 1) rfl rfl (by omega)) ?_
    refine mvi rfl ?_
    refine st_nil ?_
    refine nx_cut ((i2 + 1, A9', c9', m3)) ⟨(by first | rfl | (refine int_eq ?_; omega)), (by first | rfl | (refine int_eq ?_; omega)), trivial⟩ (by (iterate 34 refine agr_cons rfl ?_); exact agr_rfl) ⟨?_, ?_⟩
    · exact ⟨by omega, hm4, hT4, ho94, hR54, hB⟩
    · show L.length - (i2 + 1) < L.length - i2; omega
  with_reducible replace Q12 := of_decide_eq_false Q12
  refine cd_exit ?_
  refine ex_then (ex_then (ex_block (nx_then (cd_seq (cd_region ?_)))))
  refine mvs rfl ?_
  have hB67 : From w w11 := hB
  refine st_call WavSplit_k63 (new_n (some ⟨b18, 0, none⟩) L.length L.length (L.map (bitN s)) _ (by rw [List.length_map]) (RowOf.blk hT3 (fun i hi => boV_map _ i hi)) (by omega)) ?_
  rintro v67 w17 ⟨v67, rfl, hV67, E67⟩
  refine mvt rfl ?_
  refine st_val (ro_extract rfl rfl) ?_
  refine st_val (ro_extract rfl rfl) ?_
  refine asp rfl ?_
  refine asi rfl ?_
  refine st_nil (nx_then (cd_seq (cd_region ?_)))
  refine mvp rfl ?_
  refine mvi rfl ?_
  refine mvi rfl ?_
  refine st_val (ro_build (l := [(0, .tmp 70), (1, .tmp 71), (2, .tmp 72)]) (WavSplit_b99_0_1_2 _ _ _)) ?_
  refine mvs rfl ?_
  refine mvi rfl ?_
  refine st_putW (vs := [_, _, _]) WavSplit_z99 rfl rfl (by simp [Value.oneCell']) ((hR5.from_ E67)) rfl ?_
  intro w18 O18 P18
  refine ass rfl ?_
  refine asi rfl ?_
  refine st_nil (nx_then (cd_ret ?_))
  refine resr3 rfl (rv_cellA (cs := [_, _, _]) WavSplit_g99 WavSplit_z99 rfl (by exact P18.whole)) (rv_tmp (v := .slice _ _ _) rfl) (rv_tmp (v := .int _ _) rfl) ?_
  obtain rfl : i2 = L.length := by omega
  rw [List.take_length] at ho9 hm3
  have hpl : m2 = L.length := by rw [hm3]; exact part_len s L
  subst hpl
  have hiE : i = L.length := by omega
  rw [hiE, List.take_length] at hm
  exact ⟨⟨v67, A9, c9, by rw [hm]; rfl, (hV67.grown (Only.grown O18) (fun k hk => by simp only [Option.some.injEq] at hk; have := hR5.lt; omega)).le hB67.size, own_only3 (ho9.kept_from E67) O18 (own_off (ho9.kept_from E67) (hR5.from_ E67) (by decide))⟩, ((hB.next E67).only O18 (hg4))⟩
end Go.Proofs.YtllmocjfllbbfaaGreat

namespace Go.Proofs
open Go.Shelf
def Tryz.lays128_ren : Go.Shelf.Ren := ⟨fun | 128 => 61 | n => n, fun | 51 => 116 | 3 => 3 | 4 => 4 | 46 => 78 | 5 => 5 | 9 => 9 | n => n, fun | n => n⟩
def Tryz.lays125_ren : Go.Shelf.Ren := ⟨fun | 125 => 48 | 128 => 61 | 129 => 62 | n => n, fun | 46 => 78 | 3 => 3 | 51 => 116 | 53 => 118 | 4 => 4 | 5 => 5 | 9 => 9 | n => n, fun | n => n⟩
theorem Tryz.lays125 : Go.Proofs.Lays.n125 Tryz.prog Tryz.lays125_ren := {
  mixed := by kernel_rfl
  f125 := Tryz.func48.trans (congrArg some (by kernel_rfl))
  f128 := Tryz.func61.trans (congrArg some (by kernel_rfl))
  f129 := Tryz.func62.trans (congrArg some (by kernel_rfl))
  t3 := Tryz.underlying3
  a3 := Tryz.isAgg3
  z3 := Tryz.sizeOf3
  v3 := Tryz.zeroValue3
  t4 := Tryz.underlying4
  a4 := Tryz.isAgg4
  z4 := Tryz.sizeOf4
  v4 := Tryz.zeroValue4
  t5 := Tryz.underlying5
  a5 := Tryz.isAgg5
  z5 := Tryz.sizeOf5
  v5 := Tryz.zeroValue5
  t9 := Tryz.underlying9
  a9 := Tryz.isAgg9
  z9 := Tryz.sizeOf9
  v9 := Tryz.zeroValue9
  t46 := Tryz.underlying78
  a46 := Tryz.isAgg78
  z46 := Tryz.sizeOf78
  v46 := Tryz.zeroValue78
  t51 := Tryz.underlying116
  a51 := Tryz.isAgg116
  z51 := Tryz.sizeOf116
  v51 := Tryz.zeroValue116
  t53 := Tryz.underlying118
  a53 := Tryz.isAgg118
  z53 := Tryz.sizeOf118
  v53 := Tryz.zeroValue118 }
/-- bits.Len: "Len returns the minimum number of bits required to represent x; the result is 0 for x == 0.": IT RETURNS 'Lib.bitLen x'; the world is as it was. (A uint has 64 bits in the model.) ITS CALLEE bits.Len64 IS MET BY ITS OWN CONTRACT OFF THE SHELF (lay that first). (LAID: no walk: one application.) -/
theorem Tryz.bits_Len (x : Int) (w : World) (h0 : 0 ≤ x) (h1 : x ≤ 18446744073709551615) :
    Calls Tryz.prog 48 #[.int .u64 x] w fun e w' => e = .returned (.int .i64 (Lib.bitLen x.toNat)) ∧ w' = w := Any.bits_Len Tryz.lays125 x w h0 h1
def Tryz.lays213_ren : Go.Shelf.Ren := ⟨fun | 213 => 33 | 265 => 45 | n => n, fun | 9 => 9 | 3 => 3 | n => n, fun | n => n⟩
def Tryz.lays106_ren : Go.Shelf.Ren := ⟨fun | 106 => 25 | 213 => 33 | 265 => 45 | n => n, fun | 9 => 9 | 3 => 3 | n => n, fun | n => n⟩
theorem Tryz.lays106 : Go.Proofs.Lays.n106 Tryz.prog Tryz.lays106_ren := {
  mixed := by kernel_rfl
  f106 := Tryz.func25.trans (congrArg some (by kernel_rfl))
  f213 := Tryz.func33.trans (congrArg some (by kernel_rfl))
  f265 := Tryz.func45.trans (congrArg some (by kernel_rfl))
  t3 := Tryz.underlying3
  a3 := Tryz.isAgg3
  z3 := Tryz.sizeOf3
  v3 := Tryz.zeroValue3
  t9 := Tryz.underlying9
  a9 := Tryz.isAgg9
  z9 := Tryz.sizeOf9
  v9 := Tryz.zeroValue9 }
open Go.RowKit in
/-- strings.Compare: "Compare returns an integer comparing two strings lexicographically. The result will be 0 if a == b, -1 if a < b, and +1 if a > b.": IT RETURNS 'Lib.compareBytes a b'; the world is as it was. (LAID: no walk: one application.) -/
theorem Tryz.strings_Compare (a b : ByteArray) (w : World) :
    Calls Tryz.prog 25 #[.string a, .string b] w fun e w' => e = .returned (.int .i64 (Lib.compareBytes a.data.toList b.data.toList)) ∧ w' = w := Any.strings_Compare Tryz.lays106 a b w
def Tryz.lays215_ren : Go.Shelf.Ren := ⟨fun | 215 => 98 | n => n, fun | 3 => 3 | 4 => 4 | n => n, fun | n => n⟩
def Tryz.lays129_ren : Go.Shelf.Ren := ⟨fun | 129 => 62 | n => n, fun | 53 => 118 | 3 => 3 | 4 => 4 | 46 => 78 | 5 => 5 | 9 => 9 | n => n, fun | n => n⟩
def Tryz.lays189_ren : Go.Shelf.Ren := ⟨fun | 189 => 40 | 125 => 48 | 257 => 60 | 128 => 61 | 129 => 62 | 294 => 74 | 295 => 75 | 296 => 76 | 297 => 77 | 298 => 78 | 299 => 79 | 216 => 80 | 300 => 81 | 301 => 82 | 328 => 93 | 329 => 94 | 330 => 95 | 331 => 96 | 332 => 97 | 215 => 98 | 343 => 103 | n => n, fun | 28 => 68 | 3 => 3 | 46 => 78 | 0 => 0 | 51 => 116 | 53 => 118 | 4 => 4 | 183 => 135 | 182 => 134 | 131 => 62 | 5 => 5 | 9 => 9 | 218 => 156 | 222 => 160 | 228 => 164 | 229 => 112 | n => n, fun | n => n⟩
theorem Tryz.lays189 : Go.Proofs.Lays.n189 Tryz.prog Tryz.lays189_ren := {
  mixed := by kernel_rfl
  f125 := Tryz.func48.trans (congrArg some (by kernel_rfl))
  f128 := Tryz.func61.trans (congrArg some (by kernel_rfl))
  f129 := Tryz.func62.trans (congrArg some (by kernel_rfl))
  f189 := Tryz.func40.trans (congrArg some (by kernel_rfl))
  f215 := Tryz.func98.trans (congrArg some (by kernel_rfl))
  f216 := Tryz.func80.trans (congrArg some (by kernel_rfl))
  f257 := Tryz.func60.trans (congrArg some (by kernel_rfl))
  f294 := Tryz.func74.trans (congrArg some (by kernel_rfl))
  f295 := Tryz.func75.trans (congrArg some (by kernel_rfl))
  f296 := Tryz.func76.trans (congrArg some (by kernel_rfl))
  f297 := Tryz.func77.trans (congrArg some (by kernel_rfl))
  f298 := Tryz.func78.trans (congrArg some (by kernel_rfl))
  f299 := Tryz.func79.trans (congrArg some (by kernel_rfl))
  f300 := Tryz.func81.trans (congrArg some (by kernel_rfl))
  f301 := Tryz.func82.trans (congrArg some (by kernel_rfl))
  f328 := Tryz.func93.trans (congrArg some (by kernel_rfl))
  f329 := Tryz.func94.trans (congrArg some (by kernel_rfl))
  f330 := Tryz.func95.trans (congrArg some (by kernel_rfl))
  f331 := Tryz.func96.trans (congrArg some (by kernel_rfl))
  f332 := Tryz.func97.trans (congrArg some (by kernel_rfl))
  f343 := Tryz.func103.trans (congrArg some (by kernel_rfl))
  t0 := Tryz.underlying0
  a0 := Tryz.isAgg0
  z0 := Tryz.sizeOf0
  v0 := Tryz.zeroValue0
  t3 := Tryz.underlying3
  a3 := Tryz.isAgg3
  z3 := Tryz.sizeOf3
  v3 := Tryz.zeroValue3
  t4 := Tryz.underlying4
  a4 := Tryz.isAgg4
  z4 := Tryz.sizeOf4
  v4 := Tryz.zeroValue4
  t5 := Tryz.underlying5
  a5 := Tryz.isAgg5
  z5 := Tryz.sizeOf5
  v5 := Tryz.zeroValue5
  t9 := Tryz.underlying9
  a9 := Tryz.isAgg9
  z9 := Tryz.sizeOf9
  v9 := Tryz.zeroValue9
  t28 := Tryz.underlying68
  a28 := Tryz.isAgg68
  z28 := Tryz.sizeOf68
  v28 := Tryz.zeroValue68
  t46 := Tryz.underlying78
  a46 := Tryz.isAgg78
  z46 := Tryz.sizeOf78
  v46 := Tryz.zeroValue78
  t51 := Tryz.underlying116
  a51 := Tryz.isAgg116
  z51 := Tryz.sizeOf116
  v51 := Tryz.zeroValue116
  t53 := Tryz.underlying118
  a53 := Tryz.isAgg118
  z53 := Tryz.sizeOf118
  v53 := Tryz.zeroValue118
  t131 := Tryz.underlying62
  a131 := Tryz.isAgg62
  z131 := Tryz.sizeOf62
  v131 := Tryz.zeroValue62
  t182 := Tryz.underlying134
  a182 := Tryz.isAgg134
  z182 := Tryz.sizeOf134
  v182 := Tryz.zeroValue134
  t183 := Tryz.underlying135
  a183 := Tryz.isAgg135
  z183 := Tryz.sizeOf135
  v183 := Tryz.zeroValue135
  t218 := Tryz.underlying156
  a218 := Tryz.isAgg156
  z218 := Tryz.sizeOf156
  v218 := Tryz.zeroValue156
  t222 := Tryz.underlying160
  a222 := Tryz.isAgg160
  z222 := Tryz.sizeOf160
  v222 := Tryz.zeroValue160
  t228 := Tryz.underlying164
  a228 := Tryz.isAgg164
  z228 := Tryz.sizeOf164
  v228 := Tryz.zeroValue164
  t229 := Tryz.underlying112
  a229 := Tryz.isAgg112
  z229 := Tryz.sizeOf112
  v229 := Tryz.zeroValue112 }
open Go.Sort Go.RowKit in
theorem Tryz.slices_Sort_int (blk off cap : Nat) (zs : List Int) (w : World) (hH : Holds (Value.int .i64) w blk off zs.toArray) (hblk : blk < w.heap.size) (hsz : zs.length < 4611686018427387904) :
    Calls Tryz.prog 40 #[.slice (some ⟨blk, off, none⟩) zs.length cap] w fun e w' =>
      e = .returned (.tuple #[]) ∧ ∃ n os, w' = grow (putRow (Value.int .i64) (Sort.ahead w n) blk off (zs.mergeSort fun x y => decide (x ≤ y)).toArray) os := Any.slices_Sort_int Tryz.lays189 blk off cap zs w hH hblk hsz
def Tryz.laysNm237_ren : Go.Shelf.Ren := ⟨fun | 37 => 98 | n => n, fun | 3 => 3 | 4 => 4 | n => n, fun | n => n⟩
def Tryz.laysNm231_ren : Go.Shelf.Ren := ⟨fun | 31 => 80 | 37 => 98 | n => n, fun | 3 => 3 | 4 => 4 | n => n, fun | n => n⟩
end Go.Proofs

namespace Go.Proofs.YtllmocjfllbbfaaGreat
open Go.RowKit
open Go.ChangeShapes Go.WideShapes Go.ChangeAt
theorem bl_lt : ∀ f x, x < 2 ^ f → x < 2 ^ (Lib.bitLenAux f x)
  | 0, x, h => by simpa [Lib.bitLenAux] using h
  | f + 1, x, h => by
    unfold Lib.bitLenAux
    by_cases h0 : x = 0
    · subst h0; simp
    · rw [if_neg h0]
      have := bl_lt f (x / 2) (by rw [Nat.pow_succ] at h; omega)
      rw [Nat.add_comm, Nat.pow_succ]
      omega
theorem bl_le : ∀ f m x, x < 2 ^ m → Lib.bitLenAux f x ≤ m
  | 0, _, _, _ => by simp [Lib.bitLenAux]
  | f + 1, m, x, h => by
    unfold Lib.bitLenAux
    by_cases h0 : x = 0
    · rw [if_pos h0]; omega
    · rw [if_neg h0]
      cases m with
      | zero => simp at h; omega
      | succ m =>
        have := bl_le f m (x / 2) (by rw [Nat.pow_succ] at h; omega)
        omega
/-- how many levels -/
def nlv (k : Nat) : Nat := Lib.bitLen (k - 1)
theorem nlv_le {k : Nat} (h : k ≤ 512) : nlv k ≤ 9 := bl_le 64 9 (k - 1) (by omega)
theorem nlv_lt {k : Nat} (h1 : 1 ≤ k) (h : k ≤ 512) : k ≤ 2 ^ nlv k := by
  have := bl_lt 64 (k - 1) (by omega)
  show k ≤ 2 ^ Lib.bitLenAux 64 (k - 1)
  omega
theorem len_rt (x : Nat) (w : World) (h : x < 1024) : Rt Tryz.prog 48 [.int .u64 (x : Nat)] w fun v w' => v = .int .i64 (Lib.bitLen x : Nat) ∧ w = w' :=
  Calls.mono (Go.Proofs.Tryz.bits_Len (x : Nat) w (by omega) (by omega)) fun e w' ⟨he, hw⟩ => ⟨_, he, by rw [Int.toNat_natCast], hw.symm⟩
def lvlsV (n : Nat) (L : List Nat) (vs : Nat → Nat) (j : Nat) : List Value := (List.range j).flatMap fun i => lvlV (vs i) (zerosL (n - 1 - i) (lvl n L i)).length (n - 1 - i)
theorem lvls_succ (n : Nat) (L : List Nat) (vs : Nat → Nat) (j v : Nat) : lvlsV n L (fun i => if i = j then v else vs i) (j + 1) = lvlsV n L vs j ++ lvlV v (zerosL (n - 1 - j) (lvl n L j)).length (n - 1 - j) := by
  unfold lvlsV
  rw [List.range_succ, List.flatMap_append, List.flatMap_singleton]
  show _ ++ lvlV (if j = j then v else vs j) _ _ = _
  rw [if_pos rfl]
  congr 1
  have key : ∀ l : List Nat, (∀ i ∈ l, i < j) → (l.flatMap fun i => lvlV (if i = j then v else vs i) (zerosL (n - 1 - i) (lvl n L i)).length (n - 1 - i)) = l.flatMap fun i => lvlV (vs i) (zerosL (n - 1 - i) (lvl n L i)).length (n - 1 - i) := by
    intro l
    induction l with
    | nil => intro _; rfl
    | cons a r ih =>
      intro h
      rw [List.flatMap_cons, List.flatMap_cons, ih (fun i hi => h i (List.mem_cons_of_mem _ hi)), if_neg (by have := h a (List.mem_cons_self ..); omega)]
  exact key _ fun i hi => by simpa using hi
/-- a tree over L -/
def TreeAt (w : World) (base b k : Nat) (L : List Nat) : Prop := base ≤ b ∧ ∃ (A : Option Addr) (c g : Nat) (vs : Nat → Nat), Blk w b 95 #[.slice A (nlv k) c, .slice (some ⟨g, 0, none⟩) (k + 1) (k + 1), .int .i64 (k : Nat)] ∧
  w.ownsRow base 99 3 (.slice A (nlv k) c) (nlv k) (lvlsV (nlv k) L vs (nlv k)) ∧ (∀ j, j < nlv k → Vec w base (vs j) ((lvl (nlv k) L j).map (bitN (nlv k - 1 - j)))) ∧ base ≤ g ∧ Blk w g 3 (tab (k + 1) (cntLt L)) ∧ 1 ≤ k ∧ k ≤ 512 ∧ (∀ x ∈ L, x < k) ∧ L.length ≤ 131072
theorem own_two {w : World} {base base2 e e2 s s2 n m c c2 : Nat} {A B : Option Addr} {xs ys : List Value} (h : w.ownsRow base e s (.slice A n c) n xs) (k : w.ownsRow base2 e2 s2 (.slice B m c2) m ys) (hne : e ≠ e2) : (Value.slice A n c).ownBlock = none ∨ (Value.slice A n c).ownBlock ≠ B.map (·.block) := by
  rcases h.2 with ⟨h0, _⟩ | ⟨g, cap, cur, hv, hg, hh, r⟩
  · exact .inl (by rw [h0]; rfl)
  · refine .inr fun e0 => ?_
    have hb : Blk w g e cur := hh
    have := own_off k hb hne g (by rw [← e0, hv]; rfl)
    exact this rfl
/-- a vector, while a row of levels grows -/
theorem Vec.off {w w' : World} {base b bs m c : Nat} {l : List Bool} {A : Option Addr} {xs : List Value} (h : Vec w base b l) (ho : w.ownsRow bs 99 3 (.slice A m c) m xs) (hg : w.grownBy w' (A.map (·.block))) : Vec w' base b l := by
  obtain ⟨gw, Aa, ca, ws, rs, h1, h2, h3, h4, h5, h6⟩ := h
  exact ⟨gw, Aa, ca, ws, rs, h1, h2, h3.grown hg (own_off ho h3 (by decide)), h4.grown hg (own_off ho h4 (by decide)), h5.kept hg (own_two h5 ho (by decide)), h6⟩
theorem Vec.only {w w' : World} {base b g t : Nat} {l : List Bool} {cs : Array Value} (h : Vec w base b l) (o : Only g w w') (hb : Blk w g t cs) (h1' : t ≠ 145) (h2' : t ≠ 118) (h3' : t ≠ 21) : Vec w' base b l := by
  obtain ⟨gw, Aa, ca, ws, rs, h1, h2, h3, h4, h5, h6⟩ := h
  have ne : ∀ {x t' cs'}, Blk w x t' cs' → t ≠ t' → x ≠ g := fun hx hne e => by
    subst e
    unfold Blk at hx hb
    rw [hx] at hb
    simp only [Option.some.injEq, Obj.cells.injEq] at hb
    exact hne hb.2.1.symm
  exact ⟨gw, Aa, ca, ws, rs, h1, h2, h3.only o (ne h3 h1'), h4.only o (ne h4 h2'), own_only3 h5 o (own_off h5 hb h3'), h6⟩
/-- symbols that lie in memory of the caller's, or in a row of numbers -/
def SymR (w0 w : World) (A : Option Addr) (L : List Nat) : Prop := RowOf nV w A L ∧ (∀ q, 0 < L.length → A.map (·.block) = some q → q < w0.heap.size ∨ ∃ cs, Blk w q 3 cs)
theorem SymR.from_ {w0 w w' : World} {A : Option Addr} {L : List Nat} (h : SymR w0 w A L) (hF : From w w') : SymR w0 w' A L := ⟨h.1.from_ hF, fun q h0 hq => (h.2 q h0 hq).imp id fun ⟨cs, hb⟩ => ⟨cs, hb.from_ hF⟩⟩
theorem symR_own {w0 w : World} {base n c : Nat} {A : Option Addr} {L : List Nat} (h : w.ownsRow base 3 1 (.slice A n c) n (L.map nV)) : SymR w0 w A L := by
  refine ⟨(RowOf.own h).2, fun q _ hq => .inr ?_⟩
  rcases h.2 with ⟨h0, _⟩ | ⟨g, cap, cur, hv, hg, hh, r⟩
  · simp only [Value.slice.injEq] at h0
    rw [h0.1] at hq; cases hq
  · simp only [Value.slice.injEq] at hv
    rw [hv.1] at hq
    simp only [Option.map_some, Option.some.injEq] at hq
    subst hq
    exact ⟨cur, hh⟩
theorem xs_nat {k : Int} {xs : List Int} (h : chkW k xs = 0) : ∃ (K : Nat) (L : List Nat), k = (K : Nat) ∧ xs = L.map (fun x : Nat => (x : Int)) ∧ 1 ≤ K ∧ K ≤ 512 ∧ (∀ x ∈ L, x < K) ∧ L.length ≤ 131072 := by
  unfold chkW at h
  split at h
  · cases h
  · rename_i h1
    split at h
    · cases h
    · rename_i h2
      split at h
      · cases h
      · rename_i h3
        have hb : ∀ x ∈ xs, 0 ≤ x ∧ x < k := fun x hx => by
          have h4 : badSym k x = false := by
            rw [← Bool.not_eq_true]
            intro hb
            exact h2 (List.any_eq_true.2 ⟨x, hx, hb⟩)
          have := of_decide_eq_false h4
          omega
        refine ⟨k.toNat, xs.map Int.toNat, by omega, ?_, by omega, by omega, fun x hx => ?_, by rw [List.length_map]; omega⟩
        · rw [List.map_map]
          refine ((List.map_congr_left fun x hx => ?_).trans (List.map_id xs)).symm
          have := hb x hx
          simp only [Function.comp, id]
          omega
        · obtain ⟨y, hy, rfl⟩ := List.mem_map.1 hx
          have := hb y hy
          omega
theorem row_nat {w : World} {A : Option Addr} {L : List Nat} (h : RowOf iV w A (L.map fun x : Nat => (x : Int))) : RowOf nV w A L := fun h0 => by
  obtain ⟨b, o, hA, hc⟩ := h (by simpa using h0)
  refine ⟨b, o, hA, fun i hi => ?_⟩
  have := hc i (by simpa using hi)
  rwa [List.getElem_map] at this
end Go.Proofs.YtllmocjfllbbfaaGreat

namespace Go.Proofs.YtllmocjfllbbfaaGreat
open Go.RowKit
open Go.ChangeShapes Go.WideShapes Go.ChangeAt
theorem WavTree_g68 : aggQ Tryz.prog 68 = some false := by kernel_rfl
theorem WavTree_g3 : aggQ Tryz.prog 3 = some false := by kernel_rfl
theorem WavTree_f95_1 : fieldQ Tryz.prog 95 1 = some 1 := by kernel_rfl
theorem WavTree_l68 : (elemQ Tryz.prog 68).isSome = true := by kernel_rfl
theorem WavTree_f95_2 : fieldQ Tryz.prog 95 2 = some 2 := by kernel_rfl
theorem WavTree_e68 : elemQ Tryz.prog 68 = some (3, 1) := by kernel_rfl
theorem WavTree_k54 : callable Tryz.prog 54 = true := by kernel_rfl
theorem WavTree_f95_0 : fieldQ Tryz.prog 95 0 = some 0 := by kernel_rfl
theorem WavTree_g93 : aggQ Tryz.prog 93 = some false := by kernel_rfl
theorem WavTree_l93 : (elemQ Tryz.prog 93).isSome = true := by kernel_rfl
theorem WavTree_e93 : elemQ Tryz.prog 93 = some (99, 3) := by kernel_rfl
theorem WavTree_g99 : aggQ Tryz.prog 99 = some true := by kernel_rfl
theorem WavTree_z99 : sizeQ Tryz.prog 99 = some 3 := by kernel_rfl
theorem WavTree_o99 : zeroQ Tryz.prog 99 = some (.agg #[.pointer none, .int .i64 0, .int .i64 0]) := by kernel_rfl
theorem WavTree_f99_0 : fieldQ Tryz.prog 99 0 = some 0 := by kernel_rfl
theorem WavTree_g97 : aggQ Tryz.prog 97 = some false := by kernel_rfl
theorem WavTree_k92 : callable Tryz.prog 92 = true := by kernel_rfl
theorem WavTree_f99_2 : fieldQ Tryz.prog 99 2 = some 2 := by kernel_rfl
theorem WavTree_k91 : callable Tryz.prog 91 = true := by kernel_rfl
theorem cntLt_all {L : List Nat} {k : Nat} (h : ∀ x ∈ L, x < k) : cntLt L k = L.length := List.countP_eq_length.2 fun x hx => decide_eq_true (h x hx)
theorem TreeAt.from_ {w w' : World} {base b k : Nat} {L : List Nat} (h : TreeAt w base b k L) (hF : From w w') : TreeAt w' base b k L := by
  obtain ⟨hb0, AT, cT, g, vs, hT, ho, hVs, hg0, hg2, hrest⟩ := h
  exact ⟨hb0, AT, cT, g, vs, hT.from_ hF, ho.kept_from hF, fun j hj => (hVs j hj).from_ hF, hg0, hg2.from_ hF, hrest⟩
def sE (k : Nat) (c : Int) : Int := if 0 ≤ c ∧ c ≤ k then 0 else 1
def sV (k : Nat) (L : List Nat) (c : Int) : Int := if 0 ≤ c ∧ c ≤ k then (cntLt L c.toNat : Nat) else 0
def aE (L : List Nat) (i : Int) : Int := if 0 ≤ i ∧ i < L.length then 0 else 3
def aV (L : List Nat) (i : Int) : Int := if 0 ≤ i ∧ i < L.length then (L.getD i.toNat 0 : Nat) else 0
def hiD (n x j : Nat) : Nat := x / 2 ^ (n - j) * 2 ^ (n - j)
theorem dig_step {n x j : Nat} (hj : j < n) : hiD n x j ||| (if bitN (n - 1 - j) x then 2 ^ (n - 1 - j) else 0) = hiD n x (j + 1) := by
  have h := digit_step x (n - 1 - j)
  rw [show n - 1 - j + 1 = n - j by omega] at h
  unfold hiD
  rw [show n - (j + 1) = n - 1 - j by omega]
  exact h
theorem dig_t {n x j : Nat} (hj : j < n) (hb : bitN (n - 1 - j) x = true) : hiD n x j ||| 2 ^ (n - 1 - j) = hiD n x (j + 1) := by
  have := dig_step (x := x) hj
  rwa [if_pos hb] at this
theorem dig_f {n x j : Nat} (hj : j < n) (hb : bitN (n - 1 - j) x = false) : hiD n x j = hiD n x (j + 1) := by
  have := dig_step (x := x) hj
  rwa [if_neg (by simp [hb]), Nat.or_zero] at this
theorem hiD_le (n x j : Nat) : hiD n x j ≤ x := Nat.div_mul_le_self _ _
theorem hiD_zero {n x : Nat} (h : x < 2 ^ n) : hiD n x 0 = 0 := by unfold hiD; rw [Nat.sub_zero, Nat.div_eq_of_lt h, Nat.zero_mul]
theorem hiD_all {n x : Nat} : hiD n x n = x := by unfold hiD; rw [Nat.sub_self, Nat.pow_zero, Nat.div_one, Nat.mul_one]
section
variable {P : Program} {ρ : Operand → Value} {w : World} {t yt : TypeId} {x y : Operand}
theorem or_i64 {a b : Nat} (ha : a < 2 ^ 63) (hb : b < 2 ^ 63) : Go.bits .or .i64 (a : Int) (b : Int) = ((a ||| b : Nat) : Int) := by
  have e1 : (BitVec.ofInt 64 (a : Int)).toNat = a := by rw [BitVec.ofInt_natCast, BitVec.toNat_ofNat]; exact Nat.mod_eq_of_lt (by omega)
  have e2 : (BitVec.ofInt 64 (b : Int)).toNat = b := by rw [BitVec.ofInt_natCast, BitVec.toNat_ofNat]; exact Nat.mod_eq_of_lt (by omega)
  show IntKind.i64.wrap ((BitVec.ofInt 64 (a : Int) ||| BitVec.ofInt 64 (b : Int)).toNat : Int) = _
  have h : a ||| b < 2 ^ 63 := Nat.or_lt_two_pow ha hb
  rw [BitVec.toNat_or, e1, e2, IntKind.wrap_i64]; generalize a ||| b = c at *; omega
theorem ro_orI {a b : Nat} (hx : ρ x = .int .i64 (a : Nat)) (hy : ρ y = .int .i64 (b : Nat)) (h : a < 2 ^ 63 ∧ b < 2 ^ 63) : RO P ρ (.binOp .or t x y yt) w (.int .i64 ((a ||| b : Nat) : Int)) w := by
  have := ro_or (P := P) (ρ := ρ) (w := w) (t := t) (yt := yt) hx hy; rwa [or_i64 h.1 h.2] at this
theorem ro_shl1 {b : Nat} (hx : ρ x = .int .i64 1) (hy : ρ y = .int .i64 (b : Nat)) (h : b ≤ 9) : RO P ρ (.binOp .shl t x y yt) w (.int .i64 ((2 ^ b : Nat) : Int)) w := by
  have := ro_shl (P := P) (ρ := ρ) (w := w) (t := t) (yt := yt) hx hy (by omega)
  have e : min ((b : Nat) : Int).toNat IntKind.i64.bits = b := by rw [Int.toNat_natCast]; show min b 64 = b; omega
  rw [e] at this
  have e2 : IntKind.i64.wrap ((1 : Int) * 2 ^ b) = ((2 ^ b : Nat) : Int) := by
    have h1 : (1 : Int) * 2 ^ b = ((2 ^ b : Nat) : Int) := by rw [Int.one_mul]; norm_cast
    have h2 : 2 ^ b ≤ 2 ^ 9 := Nat.pow_le_pow_right (by decide) h
    rw [h1, IntKind.wrap_i64]
    generalize 2 ^ b = c at *
    omega
  rwa [e2] at this
end
theorem ix1 (q : Nat) : 0 + ((q : Nat) : Int).toNat * 1 = q := by simp
theorem ix3 (q : Nat) : 0 + ((q : Nat) : Int).toNat * 3 = q * 3 := by simp
theorem lvls_at (n : Nat) (L : List Nat) (vs : Nat → Nat) (j i : Nat) (hi : i < j) (q : Nat) (hq : q < 3) : (lvlsV n L vs j)[i * 3 + q]? = (lvlV (vs i) (zerosL (n - 1 - i) (lvl n L i)).length (n - 1 - i))[q]? := by
  unfold lvlsV
  have := flat_at (s := 3) (f := fun i => lvlV (vs i) (zerosL (n - 1 - i) (lvl n L i)).length (n - 1 - i)) (fun x => rfl) (List.range j) i (by simpa using hi) q hq
  rw [this, List.getElem_range]
theorem lvls_own {w : World} {base c n : Nat} {A : Option Addr} {L : List Nat} {vs : Nat → Nat} (h : w.ownsRow base 99 3 (.slice A n c) n (lvlsV n L vs n)) (hn : 0 < n) :
    ∃ g, A = some ⟨g, 0, none⟩ ∧ ∀ i, i < n → w.rangeAt g (i * 3) (lvlV (vs i) (zerosL (n - 1 - i) (lvl n L i)).length (n - 1 - i)) := by
  obtain ⟨g, cur, rfl, _, hb, h1, _, h3, h4⟩ := own_blk h hn
  refine ⟨g, rfl, fun i hi => hb.range _ _ fun q v hv => ?_⟩
  have hq : q < 3 := by
    obtain ⟨hq, _⟩ := List.getElem?_eq_some_iff.1 hv
    exact hq
  rw [← lvls_at n L vs n i hi q hq, ← h4, List.getElem?_take_of_lt (by omega)] at hv
  exact hv
theorem get_x (base v s x : Nat) (X Z M : List Nat) (w : World) (hv : Vec w base v (M.map (bitN s))) (hM : M = X ++ [x] ++ Z) : Rt Tryz.prog 92 [.pointer (some ⟨v, 0, none⟩), .int .i64 (X.length : Nat)] w fun u w' => u = .tuple #[.bool (bitN s x), .int .i64 0] ∧ w = w' := by
  subst hM
  have := get_rt base v (X.length : Nat) _ w hv
  have hl : (0 : Int) ≤ (X.length : Nat) ∧ ((X.length : Nat) : Int) < ((X ++ [x] ++ Z).map (bitN s)).length := by simp; omega
  unfold gB gE at this
  rw [if_pos hl, if_pos hl, Int.toNat_natCast] at this
  have e : bt ((X ++ [x] ++ Z).map (bitN s)) X.length = bitN s x := by
    unfold bt
    simp
  rwa [e] at this
theorem down_x (base v z s x : Nat) (X Z M : List Nat) (w : World) (hv : Vec w base v (M.map (bitN s))) (hM : M = X ++ [x] ++ Z) (hz : z = (zerosL s M).length) (hl : M.length ≤ 131072) : Rt Tryz.prog 91 [.agg (lvlV v z s).toArray, .int .i64 (X.length : Nat), .bool (bitN s x)] w
    fun u w' => (∃ X' Z', u = .int .i64 (X'.length : Nat) ∧ partL s M = X' ++ [x] ++ Z') ∧ From w w' := by
  subst hM
  obtain ⟨X', Z', h1, h2⟩ := one_down s X Z x
  exact (down_l base v z s X.length _ w hv (by simp) hz hl (bitN s x)).mono fun u w' ⟨h, hF⟩ => ⟨⟨X', Z', by rw [h2]; exact h, h1⟩, hF⟩
set_option maxHeartbeats 400000 in
theorem lenT (base b K : Nat) (L : List Nat) (w : World) (ht : TreeAt w base b K L) :
    Rt Tryz.prog 54 [.pointer (some ⟨b, 0, none⟩)] w (fun v w' => v = .int .i64 (L.length : Nat) ∧ From w w') := by
  obtain ⟨hb0, AT, cT, g, vs, hT, ho, hVs, hg0, hg2, hK1, hK2, hlt, hLl⟩ := ht
  refine enter (n := 19) Tryz.func54 rfl rfl rfl ?_
  refine cd_seq (cd_region ?_)
  refine asi rfl ?_
  refine st_nil (nx_then (cd_seq (cd_seq (cd_region ?_))))
  refine mvp rfl ?_
  refine st_val (ro_nilCheck rfl) ?_
  refine st_val (ro_fieldAddr WavTree_f95_1 rfl) ?_
  refine st_val (ro_load WavTree_g68 rfl (by exact hT.rd 1 rfl)) ?_
  refine st_val (ro_len WavTree_l68 rfl) ?_
  refine st_val (ro_eql rfl rfl) ?_
  refine st_nil (nx_then ?_)
  refine cd_cond rfl (fun Q1 => ?_) (fun Q1 => ?_)
  · replace Q1 := be_t Q1
    exfalso; omega
  replace Q1 := be_f Q1
  refine cd_skip (nx_then (cd_seq ?_))
  apply cd_drawnD 11 [(9, eqp _), (10, eqp _), (11, eqp _), (12, eqp (.slice (some ⟨g, 0, none⟩) (K + 1) (K + 1))), (13, eqp _), (14, eqp _), (15, eqp _), (16, eqp (.int .i64 (K : Nat))), (17, eqp _), (18, eqp (nV (cntLt L K))), (2, eqp _)] (by repeat first | exact pq_body | refine pq_then ?_ | refine pq_block ?_) (by kernel_rfl) (by kernel_rfl) ⟨eqp_mono _, eqp_mono _, eqp_mono _, eqp_mono _, eqp_mono _, eqp_mono _, eqp_mono _, eqp_mono _, eqp_mono _, eqp_mono _, eqp_mono _, trivial⟩
  case hop =>
   refine ⟨?_, ?_⟩
   · rintro - w3 D3
     show OpOK _ _ _ _ _ _ _
     exact ok_pure (ro_move (v := .pointer _) rfl) rfl
   refine ⟨?_, ?_⟩
   · rintro - w4 D4
     rintro _ rfl
     show OpOK _ _ _ _ _ _ _
     exact ok_pure (ro_nilCheck rfl) rfl
   refine ⟨?_, ?_⟩
   · rintro - w5 D5
     rintro _ rfl
     show OpOK _ _ _ _ _ _ _
     exact ok_pure (ro_fieldAddr WavTree_f95_1 rfl) rfl
   refine ⟨?_, ?_⟩
   · rintro - w6 D6
     rintro _ rfl
     show OpOK _ _ _ _ _ _ _
     exact ok_pure (ro_load WavTree_g68 rfl (by exact (hT.from_ D6).rd 1 rfl)) rfl
   refine ⟨?_, ?_⟩
   · rintro - w7 D7
     show OpOK _ _ _ _ _ _ _
     exact ok_pure (ro_move (v := .pointer _) rfl) rfl
   refine ⟨?_, ?_⟩
   · rintro - w8 D8
     rintro _ rfl
     show OpOK _ _ _ _ _ _ _
     exact ok_pure (ro_nilCheck rfl) rfl
   refine ⟨?_, ?_⟩
   · rintro - w9 D9
     rintro _ rfl
     show OpOK _ _ _ _ _ _ _
     exact ok_pure (ro_fieldAddr WavTree_f95_2 rfl) rfl
   refine ⟨?_, ?_⟩
   · rintro - w10 D10
     rintro _ rfl
     show OpOK _ _ _ _ _ _ _
     exact ok_pure (ro_load WavTree_g3 rfl (by exact (hT.from_ D10).rd 2 rfl)) rfl
   refine ⟨?_, ?_⟩
   · rintro - w11 D11
     rintro v11_12 rfl v11_16 rfl
     show OpOK _ _ _ _ _ _ _
     exact ok_pure (ro_indexAddr WavTree_e68 rfl rfl (by omega)) rfl
   refine ⟨?_, ?_⟩
   · rintro - w12 D12
     rintro _ rfl
     show OpOK _ _ _ _ _ _ _
     exact ok_pure (ro_load WavTree_g3 rfl (by rw [ix1]; exact (hg2.from_ D12).rd K (tab_get (by omega)))) rfl
   refine ⟨?_, ?_⟩
   · rintro - w13 D13
     rintro v13_18 rfl
     show OpOK _ _ _ _ _ _ _
     exact ok_pure (ro_assign (v := .int _ _) rfl) rfl
   exact trivial
  case hend =>
   intro w14 D14
   rintro _ rfl _ rfl _ rfl v12 rfl _ rfl _ rfl _ rfl v16 rfl _ rfl v18 rfl _ rfl
   show St _ _ _ _ _ _ _
   refine st_nil (nx_then (cd_ret ?_))
   refine res1 (v := .int _ _) rfl rfl ?_
   exact ⟨int_eq (by rw [cntLt_all hlt]), (From.rfl_.next D14)⟩
set_option maxHeartbeats 400000 in
theorem kindsT (base b K : Nat) (L : List Nat) (w : World) (ht : TreeAt w base b K L) :
    Rt Tryz.prog 53 [.pointer (some ⟨b, 0, none⟩)] w (fun v w' => v = .int .i64 (K : Nat) ∧ w = w') := by
  obtain ⟨hb0, AT, cT, g, vs, hT, ho, hVs, hg0, hg2, hK1, hK2, hlt, hLl⟩ := ht
  refine enter (n := 7) Tryz.func53 rfl rfl rfl ?_
  refine cd_seq (cd_region ?_)
  refine asi rfl ?_
  refine st_nil (nx_then (cd_seq (cd_region ?_)))
  refine mvp rfl ?_
  refine st_val (ro_nilCheck rfl) ?_
  refine st_val (ro_fieldAddr WavTree_f95_2 rfl) ?_
  refine st_val (ro_load WavTree_g3 rfl (by exact hT.rd 2 rfl)) ?_
  refine asi rfl ?_
  refine st_nil (nx_then (cd_ret ?_))
  refine res1 (v := .int _ _) rfl rfl ?_
  exact ⟨rfl, rfl⟩
set_option maxHeartbeats 400000 in
theorem knownT (base b K : Nat) (L : List Nat) (w : World) (ht : TreeAt w base b K L) (c : Int) :
    Rt Tryz.prog 89 [.pointer (some ⟨b, 0, none⟩), .int .i64 c] w (fun v w' => v = .bool (decide (0 ≤ c ∧ c < (K : Nat))) ∧ w = w') := by
  obtain ⟨hb0, AT, cT, g, vs, hT, ho, hVs, hg0, hg2, hK1, hK2, hlt, hLl⟩ := ht
  refine enter (n := 15) Tryz.func89 rfl rfl rfl ?_
  refine cd_seq (cd_region ?_)
  refine asb rfl ?_
  refine st_nil (nx_then (cd_seq (cd_region ?_)))
  refine mvi rfl ?_
  refine st_val (ro_geq rfl rfl) ?_
  refine mvb rfl ?_
  refine st_split (t := 7) rfl (fun Q1 => ?_) (fun Q1 => ?_)
  · replace Q1 := of_decide_eq_true Q1
    refine st_unguard rfl ?_
    refine mvi rfl ?_
    refine st_unguard rfl ?_
    refine mvp rfl ?_
    refine st_unguard rfl ?_
    refine st_val (ro_nilCheck rfl) ?_
    refine st_unguard rfl ?_
    refine st_val (ro_fieldAddr WavTree_f95_2 rfl) ?_
    refine st_unguard rfl ?_
    refine st_val (ro_load WavTree_g3 rfl (by exact hT.rd 2 rfl)) ?_
    refine st_unguard rfl ?_
    refine st_val (ro_lss rfl rfl) ?_
    refine st_val (ro_pickT (v := .bool _) rfl rfl) ?_
    refine asb rfl ?_
    refine st_nil (nx_then (cd_ret ?_))
    refine res1 (v := .bool _) rfl rfl ?_
    exact ⟨congrArg Value.bool (by first | (symm; rw [decide_eq_decide]; omega) | (rw [eq_comm, decide_eq_false_iff_not]; omega) | (simp; omega)), rfl⟩
  replace Q1 := of_decide_eq_false Q1
  refine st_gno rfl rfl ?_
  refine st_gno rfl rfl ?_
  refine st_gno rfl rfl ?_
  refine st_gno rfl rfl ?_
  refine st_gno rfl rfl ?_
  refine st_gno rfl rfl ?_
  refine st_val (ro_pickF (v := .bool _) rfl rfl) ?_
  refine asb rfl ?_
  refine st_nil (nx_then (cd_ret ?_))
  refine res1 (v := .bool _) rfl rfl ?_
  exact ⟨congrArg Value.bool (by first | (symm; rw [decide_eq_decide]; omega) | (rw [eq_comm, decide_eq_false_iff_not]; omega) | (simp; omega)), rfl⟩
set_option maxHeartbeats 400000 in
theorem lessT (base b K : Nat) (L : List Nat) (w : World) (ht : TreeAt w base b K L) (c : Int) :
    Rt Tryz.prog 70 [.pointer (some ⟨b, 0, none⟩), .int .i64 c] w (fun v w' => v = .tuple #[.int .i64 (sV K L c), .int .i64 (sE K c)] ∧ w = w') := by
  obtain ⟨hb0, AT, cT, g, vs, hT, ho, hVs, hg0, hg2, hK1, hK2, hlt, hLl⟩ := ht
  refine enter (n := 29) Tryz.func70 rfl rfl rfl ?_
  refine cd_seq (cd_region ?_)
  refine asi rfl ?_
  refine asi rfl ?_
  refine st_nil (nx_then (cd_seq (cd_seq (cd_region ?_))))
  refine mvi rfl ?_
  refine st_val (ro_lss rfl rfl) ?_
  refine mvb rfl ?_
  refine st_split (t := 8) rfl (fun Q1 => ?_) (fun Q1 => ?_)
  · replace Q1 := of_decide_eq_true Q1
    refine st_gno rfl rfl ?_
    refine st_gno rfl rfl ?_
    refine st_gno rfl rfl ?_
    refine st_gno rfl rfl ?_
    refine st_gno rfl rfl ?_
    refine st_gno rfl rfl ?_
    refine st_val (ro_pickT (v := .bool _) rfl rfl) ?_
    refine st_nil (nx_then ?_)
    refine cd_condT rfl ?_
    refine cd_seq (cd_region ?_)
    refine asi rfl ?_
    refine asi rfl ?_
    refine st_nil (nx_then (cd_ret (rt_then ?_)))
    refine res2 (v := .int _ _) (v' := .int _ _) rfl rfl rfl ?_
    refine ⟨?_, rfl⟩
    unfold sV sE
    rw [if_neg (by omega), if_neg (by omega)]
  replace Q1 := of_decide_eq_false Q1
  refine st_unguard rfl ?_
  refine mvi rfl ?_
  refine st_unguard rfl ?_
  refine mvp rfl ?_
  refine st_unguard rfl ?_
  refine st_val (ro_nilCheck rfl) ?_
  refine st_unguard rfl ?_
  refine st_val (ro_fieldAddr WavTree_f95_2 rfl) ?_
  refine st_unguard rfl ?_
  refine st_val (ro_load WavTree_g3 rfl (by exact hT.rd 2 rfl)) ?_
  refine st_unguard rfl ?_
  refine st_val (ro_gtr rfl rfl) ?_
  refine st_val (ro_pickF (v := .bool _) rfl rfl) ?_
  refine st_nil (nx_then ?_)
  refine cd_cond rfl (fun Q2 => ?_) (fun Q2 => ?_)
  · replace Q2 := of_decide_eq_true Q2
    refine cd_seq (cd_region ?_)
    refine asi rfl ?_
    refine asi rfl ?_
    refine st_nil (nx_then (cd_ret (rt_then ?_)))
    refine res2 (v := .int _ _) (v' := .int _ _) rfl rfl rfl ?_
    refine ⟨?_, rfl⟩
    unfold sV sE
    rw [if_neg (by omega), if_neg (by omega)]
  replace Q2 := of_decide_eq_false Q2
  refine cd_skip (nx_then (cd_seq (cd_seq (cd_region ?_))))
  refine mvp rfl ?_
  refine st_val (ro_nilCheck rfl) ?_
  refine st_val (ro_fieldAddr WavTree_f95_1 rfl) ?_
  refine st_val (ro_load WavTree_g68 rfl (by exact hT.rd 1 rfl)) ?_
  refine st_val (ro_len WavTree_l68 rfl) ?_
  refine st_val (ro_eql rfl rfl) ?_
  refine st_nil (nx_then ?_)
  refine cd_cond rfl (fun Q3 => ?_) (fun Q3 => ?_)
  · replace Q3 := be_t Q3
    exfalso; omega
  replace Q3 := be_f Q3
  refine cd_skip (nx_then (cd_seq (cd_region ?_)))
  obtain ⟨q, rfl⟩ : ∃ q : Nat, c = (q : Int) := ⟨c.toNat, by omega⟩
  refine mvp rfl ?_
  refine st_val (ro_nilCheck rfl) ?_
  refine st_val (ro_fieldAddr WavTree_f95_1 rfl) ?_
  refine st_val (ro_load WavTree_g68 rfl (by exact hT.rd 1 rfl)) ?_
  refine mvi rfl ?_
  refine st_val (ro_indexAddr WavTree_e68 rfl rfl (by omega)) ?_
  refine st_val (ro_load WavTree_g3 rfl (by rw [ix1]; exact hg2.rd q (tab_get (by omega)))) ?_
  refine asi rfl ?_
  refine asi rfl ?_
  refine st_nil (nx_then (cd_ret ?_))
  refine res2 (v := .int _ _) (v' := .int _ _) rfl rfl rfl ?_
  refine ⟨?_, rfl⟩
  unfold sV sE
  rw [if_pos (by omega), if_pos (by omega)]
  rfl
set_option maxHeartbeats 400000 in
theorem accessT (base b K : Nat) (L : List Nat) (w : World) (ht : TreeAt w base b K L) (i : Int) :
    Rt Tryz.prog 73 [.pointer (some ⟨b, 0, none⟩), .int .i64 i] w (fun v w' => v = .tuple #[.int .i64 (aV L i), .int .i64 (aE L i)] ∧ From w w') := by
  have htt := ht
  obtain ⟨hb0, AT, cT, g, vs, hT, ho, hVs, hg0, hg2, hK1, hK2, hlt, hLl⟩ := ht
  refine enter (n := 47) Tryz.func73 rfl rfl rfl ?_
  refine cd_seq (cd_region ?_)
  refine asi rfl ?_
  refine asi rfl ?_
  refine st_nil (nx_then (cd_seq (cd_seq (cd_region ?_))))
  refine mvi rfl ?_
  refine st_val (ro_lss rfl rfl) ?_
  refine mvb rfl ?_
  refine st_split (t := 13) rfl (fun Q1 => ?_) (fun Q1 => ?_)
  · replace Q1 := of_decide_eq_true Q1
    refine st_gno rfl rfl ?_
    refine st_gno rfl rfl ?_
    refine st_gno rfl rfl ?_
    refine st_gno rfl rfl ?_
    refine st_val (ro_pickT (v := .bool _) rfl rfl) ?_
    refine st_nil (nx_then ?_)
    refine cd_condT rfl ?_
    refine cd_seq (cd_region ?_)
    refine asi rfl ?_
    refine asi rfl ?_
    refine st_nil (nx_then (cd_ret (rt_then ?_)))
    refine res2 (v := .int _ _) (v' := .int _ _) rfl rfl rfl ?_
    refine ⟨?_, From.rfl_⟩
    unfold aV aE
    rw [if_neg (by omega), if_neg (by omega)]
  replace Q1 := of_decide_eq_false Q1
  refine st_unguard rfl ?_
  refine mvi rfl ?_
  refine st_unguard rfl ?_
  refine mvp rfl ?_
  refine st_unguard rfl ?_
  refine st_call WavTree_k54 (lenT base b K L _ (htt.from_ From.rfl_)) ?_
  rintro v16 w2 ⟨rfl, E16⟩
  refine st_unguard rfl ?_
  refine st_val (ro_geq rfl rfl) ?_
  refine st_val (ro_pickF (v := .bool _) rfl rfl) ?_
  refine st_nil (nx_then ?_)
  refine cd_cond rfl (fun Q3 => ?_) (fun Q3 => ?_)
  · replace Q3 := of_decide_eq_true Q3
    refine cd_seq (cd_region ?_)
    refine asi rfl ?_
    refine asi rfl ?_
    refine st_nil (nx_then (cd_ret (rt_then ?_)))
    refine res2 (v := .int _ _) (v' := .int _ _) rfl rfl rfl ?_
    refine ⟨?_, (From.rfl_.next E16)⟩
    unfold aV aE
    rw [if_neg (by omega), if_neg (by omega)]
  replace Q3 := of_decide_eq_false Q3
  obtain ⟨q, rfl⟩ : ∃ q : Nat, i = (q : Int) := ⟨i.toNat, by omega⟩
  have hq : q < L.length := by omega
  obtain ⟨x, hxe⟩ : ∃ x, x = L[q] := ⟨_, rfl⟩
  have hxL : x ∈ L := hxe ▸ List.getElem_mem hq
  have hx2 : x < 2 ^ nlv K := Nat.lt_of_lt_of_le (hlt x hxL) (nlv_lt hK1 hK2)
  have hLx : lvl (nlv K) L 0 = L.take q ++ [x] ++ L.drop (q + 1) := by rw [hxe]; show L = _; simp
  refine cd_skip (nx_then (cd_seq (cd_region ?_)))
  refine asi rfl ?_
  refine st_nil (nx_then (cd_seq (cd_seq (cd_region ?_))))
  refine mvp rfl ?_
  refine st_val (ro_nilCheck rfl) ?_
  refine st_val (ro_fieldAddr WavTree_f95_0 rfl) ?_
  refine st_val (ro_load WavTree_g93 rfl (by exact (hT.from_ (From.rfl_.next E16)).rd 0 rfl)) ?_
  refine st_val (ro_len WavTree_l93 rfl) ?_
  refine mvi rfl ?_
  refine st_nil (nx_then (cd_block ?_))
  refine cd_loop (G := Nat × List Nat × List Nat) [8, 9, 10, 25, 26, 27, 28, 29, 30, 31, 32, 33, 34, 35, 36, 37, 38, 39, 40, 41, 42, 43, 44, 45] (fun (j, X, Z) => [(1, .int .i64 (X.length : Nat)), (6, .int .i64 (hiD (nlv K) x j : Nat)), (24, .int .i64 (j : Nat))]) (fun (j, X, Z) w' => j ≤ nlv K ∧ lvl (nlv K) L j = X ++ [x] ++ Z ∧ From w w') (fun (j, _, _) => nlv K - j) ((0, L.take q, L.drop (q + 1))) ⟨(int_eq (by rw [List.length_take]; omega)), (int_eq (by rw [hiD_zero hx2]; rfl)), rfl, trivial⟩ ?_ ?_
  · exact ⟨Nat.zero_le _, hLx, (From.rfl_.next E16)⟩
  rintro ⟨j, X, Z⟩ ρ4 w4 ⟨hj, hX, hB⟩
  refine cd_seq (cd_region ?_)
  refine st_val (ro_lss rfl rfl) ?_
  refine st_nil (nx_then (cd_seq ?_))
  refine cd_cond rfl (fun Q5 => ?_) (fun Q5 => ?_)
  · replace Q5 := of_decide_eq_true Q5
    have hjn : j < nlv K := by omega
    obtain ⟨gA, rfl, hlv⟩ := lvls_own ho (by omega)
    refine cd_skip (nx_then (cd_seq (cd_block (cd_seq (cd_region ?_)))))
    refine st_val (ro_indexAddr WavTree_e93 rfl rfl (by omega)) ?_
    refine st_val (ro_loadA (cs := [_, _, _]) WavTree_g99 WavTree_z99 rfl (by rw [ix3]; exact rangeF hB (hlv j hjn))) ?_
    refine st_alloc WavTree_o99 ?_
    intro b8 w6 E8 hb8 hk8
    refine st_putW (vs := [_, _, _]) WavTree_z99 rfl rfl (by simp [Value.oneCell']) (hk8) rfl ?_
    intro w7 O6 P6
    refine st_nil (nx_then (cd_seq (cd_region ?_)))
    refine st_val (ro_fieldAddr WavTree_f99_0 rfl) ?_
    refine st_val (ro_load WavTree_g97 rfl (by exact (P6.from_ From.rfl_).rd 0 rfl)) ?_
    refine mvi rfl ?_
    refine st_call WavTree_k92 (get_x base (vs j) (nlv K - 1 - j) x X Z (lvl (nlv K) L j) _ ((hVs j hjn).from_ ((hB.next E8).only O6 (by rw [hb8]; exact hB.size))) hX) ?_
    rintro v32 w8 ⟨rfl, rfl⟩
    refine mvt rfl ?_
    refine st_val (ro_extract rfl rfl) ?_
    refine st_val (ro_extract rfl rfl) ?_
    refine asb rfl ?_
    refine asi rfl ?_
    refine st_nil (nx_then (cd_seq (cd_seq (cd_region ?_))))
    refine mvb rfl ?_
    refine st_nil (nx_then ?_)
    refine cd_cond rfl (fun Q9 => ?_) (fun Q9 => ?_)
    · replace Q9 := of_decide_eq_true Q9
      have hbb : bitN (nlv K - 1 - j) x = true := by unfold bitN; simpa using Q9
      refine cd_region ?_
      refine mvi rfl ?_
      refine st_val (ro_fieldAddr WavTree_f99_2 rfl) ?_
      refine st_val (ro_load WavTree_g3 rfl (by exact (P6.from_ From.rfl_).rd 2 rfl)) ?_
      refine st_val (ro_shl1 (b := nlv K - 1 - j) rfl rfl (by have := nlv_le hK2; omega)) ?_
      refine st_val (ro_orI (a := hiD (nlv K) x j) (b := 2 ^ (nlv K - 1 - j)) rfl rfl ⟨by have := hiD_le (nlv K) x j; have := hlt x hxL; omega, by have := Nat.pow_le_pow_right (n := 2) (by decide) (show nlv K - 1 - j ≤ 9 by have := nlv_le hK2; omega); omega⟩) ?_
      refine asi rfl ?_
      refine st_nil (nx_then (cd_region ?_))
      refine st_val (ro_loadA (cs := [_, _, _]) WavTree_g99 WavTree_z99 rfl (by exact (P6.from_ From.rfl_).whole)) ?_
      refine mvi rfl ?_
      refine mvb rfl ?_
      refine st_call WavTree_k91 (down_x base (vs j) _ (nlv K - 1 - j) x X Z (lvl (nlv K) L j) _ ((hVs j hjn).from_ ((hB.next E8).only O6 (by rw [hb8]; exact hB.size))) hX rfl (by rw [lvl_len]; exact hLl)) ?_
      rintro v44 w10 ⟨⟨X2, Z2, rfl, hP2⟩, E44⟩
      refine asi rfl ?_
      refine st_nil (nx_block (nx_then (cd_region ?_)))
      refine st_val (ro_add64 rfl rfl (by have := nlv_le hK2; omega)) ?_
      refine mvi rfl ?_
      refine st_nil ?_
      refine nx_cut ((j + 1, X2, Z2)) ⟨rfl, (by first | exact int_eq (congrArg Nat.cast (dig_t hjn hbb)) | exact int_eq (congrArg Nat.cast (dig_f hjn hbb))), rfl, trivial⟩ (by (iterate 54 refine agr_cons rfl ?_); exact agr_rfl) ⟨?_, ?_⟩
      · exact ⟨by omega, hP2, (((hB.next E8).only O6 (by rw [hb8]; exact hB.size)).next E44)⟩
      · show nlv K - (j + 1) < nlv K - j; omega
    replace Q9 := of_decide_eq_false Q9
    have hbb : bitN (nlv K - 1 - j) x = false := by unfold bitN; simpa using Q9
    refine cd_skip (nx_then (cd_region ?_))
    refine st_val (ro_loadA (cs := [_, _, _]) WavTree_g99 WavTree_z99 rfl (by exact (P6.from_ From.rfl_).whole)) ?_
    refine mvi rfl ?_
    refine mvb rfl ?_
    refine st_call WavTree_k91 (down_x base (vs j) _ (nlv K - 1 - j) x X Z (lvl (nlv K) L j) _ ((hVs j hjn).from_ ((hB.next E8).only O6 (by rw [hb8]; exact hB.size))) hX rfl (by rw [lvl_len]; exact hLl)) ?_
    rintro v44 w11 ⟨⟨X2, Z2, rfl, hP2⟩, E44⟩
    refine asi rfl ?_
    refine st_nil (nx_block (nx_then (cd_region ?_)))
    refine st_val (ro_add64 rfl rfl (by have := nlv_le hK2; omega)) ?_
    refine mvi rfl ?_
    refine st_nil ?_
    refine nx_cut ((j + 1, X2, Z2)) ⟨rfl, (by first | exact int_eq (congrArg Nat.cast (dig_t hjn hbb)) | exact int_eq (congrArg Nat.cast (dig_f hjn hbb))), rfl, trivial⟩ (by (iterate 48 refine agr_cons rfl ?_); exact agr_rfl) ⟨?_, ?_⟩
    · exact ⟨by omega, hP2, (((hB.next E8).only O6 (by rw [hb8]; exact hB.size)).next E44)⟩
    · show nlv K - (j + 1) < nlv K - j; omega
  replace Q5 := of_decide_eq_false Q5
  refine cd_exit ?_
  refine ex_then (ex_then (ex_block (nx_then (cd_seq (cd_region ?_)))))
  refine mvi rfl ?_
  refine asi rfl ?_
  refine asi rfl ?_
  refine st_nil (nx_then (cd_ret ?_))
  refine res2 (v := .int _ _) (v' := .int _ _) rfl rfl rfl ?_
  obtain rfl : j = nlv K := by omega
  refine ⟨?_, hB⟩
  unfold aV aE
  rw [if_pos (by omega), if_pos (by omega), Int.toNat_natCast, List.getD_eq_getElem?_getD, List.getElem?_eq_getElem hq, ← hxe, hiD_all]
  rfl
end Go.Proofs.YtllmocjfllbbfaaGreat

namespace Go.Proofs.YtllmocjfllbbfaaGreat
open Go.RowKit
open Go.ChangeShapes Go.WideShapes Go.ChangeAt
theorem WavRank_g99 : aggQ Tryz.prog 99 = some true := by kernel_rfl
theorem WavRank_z99 : sizeQ Tryz.prog 99 = some 3 := by kernel_rfl
theorem WavRank_kdown : callable Tryz.prog 91 = true := by kernel_rfl
theorem WavRank_k89 : callable Tryz.prog 89 = true := by kernel_rfl
theorem WavRank_k54 : callable Tryz.prog 54 = true := by kernel_rfl
theorem WavRank_f95_0 : fieldQ Tryz.prog 95 0 = some 0 := by kernel_rfl
theorem WavRank_g93 : aggQ Tryz.prog 93 = some false := by kernel_rfl
theorem WavRank_l93 : (elemQ Tryz.prog 93).isSome = true := by kernel_rfl
theorem WavRank_e93 : elemQ Tryz.prog 93 = some (99, 3) := by kernel_rfl
theorem WavRank_o99 : zeroQ Tryz.prog 99 = some (.agg #[.pointer none, .int .i64 0, .int .i64 0]) := by kernel_rfl
theorem WavRank_k90 : callable Tryz.prog 90 = true := by kernel_rfl
def cntC (L : List Nat) (c q : Nat) : Nat := (L.take q).countP fun x => decide (x = c)
def kE (K : Nat) (L : List Nat) (c i : Int) : Int := if 0 ≤ c ∧ c < K then (if 0 ≤ i ∧ i ≤ L.length then 0 else 3) else 1
def kV (K : Nat) (L : List Nat) (c i : Int) : Int := if 0 ≤ c ∧ c < K then (if 0 ≤ i ∧ i ≤ L.length then (cntC L c.toNat i.toNat : Nat) else 0) else 0
/-- those of the first ones that still go with c -/
def yL (L : List Nat) (q c n j : Nat) : List Nat := hiL (L.take q) c (n - j)
theorem yL_zero {L : List Nat} {q c n : Nat} (h : ∀ x ∈ L, x < 2 ^ n) (hc : c < 2 ^ n) : yL L q c n 0 = L.take q := hi_all _ _ _ (fun x hx => h x (List.mem_of_mem_take hx)) hc
theorem yL_step {L : List Nat} {q c n j : Nat} (hj : j < n) : (yL L q c n j).filter (fun x => bitN (n - 1 - j) x == bitN (n - 1 - j) c) = yL L q c n (j + 1) := by
  have h := hi_step (L.take q) c (n - 1 - j)
  unfold yL
  rw [show n - (j + 1) = n - 1 - j by omega, ← h, show n - 1 - j + 1 = n - j by omega]
theorem yL_all {L : List Nat} {q c n : Nat} : (yL L q c n n).length = cntC L c q := by
  unfold yL cntC
  rw [Nat.sub_self, hi_zero]
theorem seg_len {X Y Z M : List Nat} (h : M = X ++ Y ++ Z) : X.length + Y.length ≤ M.length := by rw [h]; simp
set_option maxHeartbeats 400000 in
theorem rankT (base b K : Nat) (L : List Nat) (w : World) (ht : TreeAt w base b K L) (c i : Int) :
    Rt Tryz.prog 71 [.pointer (some ⟨b, 0, none⟩), .int .i64 c, .int .i64 i] w (fun v w' => v = .tuple #[.int .i64 (kV K L c i), .int .i64 (kE K L c i)] ∧ From w w') := by
  have htt := ht
  obtain ⟨hb0, AT, cT, g, vs, hT, ho, hVs, hg0, hg2, hK1, hK2, hlt, hLl⟩ := ht
  refine enter (n := 48) Tryz.func71 rfl rfl rfl ?_
  refine cd_seq (cd_region ?_)
  refine asi rfl ?_
  refine asi rfl ?_
  refine st_nil (nx_then (cd_seq (cd_seq (cd_region ?_))))
  refine mvp rfl ?_
  refine mvi rfl ?_
  refine st_call WavRank_k89 (knownT base b K L _ htt c) ?_
  rintro v14 w1 ⟨rfl, rfl⟩
  refine st_val (ro_not rfl) ?_
  refine st_nil (nx_then ?_)
  refine cd_cond rfl (fun Q2 => ?_) (fun Q2 => ?_)
  · replace Q2 := bn_t Q2; replace Q2 := of_decide_eq_false Q2
    have hkn : ¬ (0 ≤ c ∧ c < (K : Nat)) := by simpa using Q2
    refine cd_seq (cd_region ?_)
    refine asi rfl ?_
    refine asi rfl ?_
    refine st_nil (nx_then (cd_ret (rt_then ?_)))
    refine res2 (v := .int _ _) (v' := .int _ _) rfl rfl rfl ?_
    refine ⟨?_, From.rfl_⟩
    unfold kV kE
    rw [if_neg hkn, if_neg hkn]
  replace Q2 := bn_f Q2; replace Q2 := of_decide_eq_true Q2
  have hkn : 0 ≤ c ∧ c < (K : Nat) := by simpa using Q2
  obtain ⟨cc, rfl⟩ : ∃ cc : Nat, c = (cc : Int) := ⟨c.toNat, by omega⟩
  refine cd_skip (nx_then (cd_seq (cd_seq (cd_region ?_))))
  refine mvi rfl ?_
  refine st_val (ro_lss rfl rfl) ?_
  refine mvb rfl ?_
  refine st_split (t := 18) rfl (fun Q3 => ?_) (fun Q3 => ?_)
  · replace Q3 := of_decide_eq_true Q3
    refine st_gno rfl rfl ?_
    refine st_gno rfl rfl ?_
    refine st_gno rfl rfl ?_
    refine st_gno rfl rfl ?_
    refine st_val (ro_pickT (v := .bool _) rfl rfl) ?_
    refine st_nil (nx_then ?_)
    refine cd_condT rfl ?_
    refine cd_seq (cd_region ?_)
    refine asi rfl ?_
    refine asi rfl ?_
    refine st_nil (nx_then (cd_ret (rt_then ?_)))
    refine res2 (v := .int _ _) (v' := .int _ _) rfl rfl rfl ?_
    refine ⟨?_, From.rfl_⟩
    unfold kV kE
    rw [if_pos hkn, if_pos hkn, if_neg (by omega), if_neg (by omega)]
  replace Q3 := of_decide_eq_false Q3
  refine st_unguard rfl ?_
  refine mvi rfl ?_
  refine st_unguard rfl ?_
  refine mvp rfl ?_
  refine st_unguard rfl ?_
  refine st_call WavRank_k54 (lenT base b K L _ (htt.from_ From.rfl_)) ?_
  rintro v21 w4 ⟨rfl, E21⟩
  refine st_unguard rfl ?_
  refine st_val (ro_gtr rfl rfl) ?_
  refine st_val (ro_pickF (v := .bool _) rfl rfl) ?_
  refine st_nil (nx_then ?_)
  refine cd_cond rfl (fun Q5 => ?_) (fun Q5 => ?_)
  · replace Q5 := of_decide_eq_true Q5
    refine cd_seq (cd_region ?_)
    refine asi rfl ?_
    refine asi rfl ?_
    refine st_nil (nx_then (cd_ret (rt_then ?_)))
    refine res2 (v := .int _ _) (v' := .int _ _) rfl rfl rfl ?_
    refine ⟨?_, (From.rfl_.next E21)⟩
    unfold kV kE
    rw [if_pos hkn, if_pos hkn, if_neg (by omega), if_neg (by omega)]
  replace Q5 := of_decide_eq_false Q5
  obtain ⟨q, rfl⟩ : ∃ q : Nat, i = (q : Int) := ⟨i.toNat, by omega⟩
  have hy0 : yL L q cc (nlv K) 0 = L.take q := yL_zero (fun x hx => Nat.lt_of_lt_of_le (hlt x hx) (nlv_lt hK1 hK2)) (Nat.lt_of_lt_of_le (by omega) (nlv_lt hK1 hK2))
  refine cd_skip (nx_then (cd_seq (cd_region ?_)))
  refine asi rfl ?_
  refine st_nil (nx_then (cd_seq (cd_seq (cd_region ?_))))
  refine mvp rfl ?_
  refine st_val (ro_nilCheck rfl) ?_
  refine st_val (ro_fieldAddr WavRank_f95_0 rfl) ?_
  refine st_val (ro_load WavRank_g93 rfl (by exact (hT.from_ (From.rfl_.next E21)).rd 0 rfl)) ?_
  refine st_val (ro_len WavRank_l93 rfl) ?_
  refine mvi rfl ?_
  refine st_nil (nx_then (cd_block ?_))
  refine cd_loop (G := Nat × List Nat × List Nat) [10, 11, 30, 31, 32, 33, 34, 35, 36, 37, 38, 39, 40, 41, 42, 43, 44] (fun (j, X, Z) => [(2, .int .i64 ((X.length + (yL L q cc (nlv K) j).length : Nat) : Int)), (8, .int .i64 (X.length : Nat)), (29, .int .i64 (j : Nat))]) (fun (j, X, Z) w' => j ≤ nlv K ∧ lvl (nlv K) L j = X ++ (yL L q cc (nlv K) j) ++ Z ∧ From w w') (fun (j, _, _) => nlv K - j) ((0, [], L.drop q)) ⟨(int_eq (by rw [hy0, List.length_take, List.length_nil]; omega)), rfl, rfl, trivial⟩ ?_ ?_
  · exact ⟨Nat.zero_le _, by rw [hy0]; show L = _; simp, (From.rfl_.next E21)⟩
  rintro ⟨j, X, Z⟩ ρ6 w6 ⟨hj, hX, hB⟩
  refine cd_seq (cd_region ?_)
  refine st_val (ro_lss rfl rfl) ?_
  refine st_nil (nx_then (cd_seq ?_))
  refine cd_cond rfl (fun Q7 => ?_) (fun Q7 => ?_)
  · replace Q7 := of_decide_eq_true Q7
    have hjn : j < nlv K := by omega
    obtain ⟨gA, rfl, hlv⟩ := lvls_own ho (by omega)
    obtain ⟨X2, Z2, hP2, hx2, hy2⟩ := seg_down (nlv K - 1 - j) X (yL L q cc (nlv K) j) Z (bitN (nlv K - 1 - j) cc)
    rw [yL_step hjn] at hP2 hy2
    rw [← hX] at hP2 hx2 hy2
    have hsl := seg_len hX
    refine cd_skip (nx_then (cd_seq (cd_block (cd_seq (cd_region ?_)))))
    refine st_val (ro_indexAddr WavRank_e93 rfl rfl (by omega)) ?_
    refine st_val (ro_loadA (cs := [_, _, _]) WavRank_g99 WavRank_z99 rfl (by rw [ix3]; exact rangeF hB (hlv j hjn))) ?_
    refine st_alloc WavRank_o99 ?_
    intro b10 w8 E10 hb10 hk10
    refine st_putW (vs := [_, _, _]) WavRank_z99 rfl rfl (by simp [Value.oneCell']) (hk10) rfl ?_
    intro w9 O8 P8
    refine st_nil (nx_then (cd_seq (cd_region ?_)))
    refine st_val (ro_loadA (cs := [_, _, _]) WavRank_g99 WavRank_z99 rfl (by exact (P8.from_ From.rfl_).whole)) ?_
    refine mvi rfl ?_
    refine st_call WavRank_k90 (one_l (vs j) _ (nlv K - 1 - j) cc _ (by have := nlv_le hK2; omega) (by omega)) ?_
    rintro v35 w10 ⟨rfl, E35⟩
    have hB35 : From w w10 := (((hB.next E10).only O8 (by rw [hb10]; exact hB.size)).next E35)
    have P8b := P8.from_ (From.rfl_.next E35)
    refine asb rfl ?_
    refine st_nil (nx_then ?_)
    apply cd_drawnD 10 [(36, eqp (.agg (lvlV (vs j) (zerosL (nlv K - 1 - j) (lvl (nlv K) L j)).length (nlv K - 1 - j)).toArray)), (37, eqp _), (38, eqp _), (39, eqp (.int .i64 (X2.length : Nat))), (40, eqp (.agg (lvlV (vs j) (zerosL (nlv K - 1 - j) (lvl (nlv K) L j)).length (nlv K - 1 - j)).toArray)), (41, eqp _), (42, eqp _), (43, eqp (.int .i64 ((X2.length + (yL L q cc (nlv K) (j + 1)).length : Nat) : Int))), (8, eqp _), (2, eqp _)] (by repeat first | exact pq_body | refine pq_then ?_ | refine pq_block ?_) (by kernel_rfl) (by kernel_rfl) ⟨eqp_mono _, eqp_mono _, eqp_mono _, eqp_mono _, eqp_mono _, eqp_mono _, eqp_mono _, eqp_mono _, eqp_mono _, eqp_mono _, trivial⟩
    case hop =>
     refine ⟨?_, ?_⟩
     · rintro - w12 D12
       show OpOK _ _ _ _ _ _ _
       exact ok_pure (ro_loadA (cs := (lvlV (vs j) (zerosL (nlv K - 1 - j) (lvl (nlv K) L j)).length (nlv K - 1 - j))) WavRank_g99 WavRank_z99 rfl ((P8b.from_ D12).whole)) rfl
     refine ⟨?_, ?_⟩
     · rintro - w13 D13
       show OpOK _ _ _ _ _ _ _
       exact ok_pure (ro_move (v := .int _ _) rfl) rfl
     refine ⟨?_, ?_⟩
     · rintro - w14 D14
       show OpOK _ _ _ _ _ _ _
       exact ok_pure (ro_move (v := .bool _) rfl) rfl
     refine ⟨?_, ?_⟩
     · rintro - w15 D15
       rintro v15_36 rfl _ rfl _ rfl
       show OpOK _ _ _ _ _ _ _
       refine ok_call WavRank_kdown ((down_l base (vs j) _ (nlv K - 1 - j) X.length (lvl (nlv K) L j) _ ((hVs j hjn).from_ (hB35.next D15)) (by omega) rfl (by rw [lvl_len]; exact hLl) (bitN (nlv K - 1 - j) cc)).mono ?_)
       rintro v w2 ⟨rfl, hE2⟩
       exact ⟨hE2, by rw [hx2]; rfl⟩
     refine ⟨?_, ?_⟩
     · rintro - w16 D16
       show OpOK _ _ _ _ _ _ _
       exact ok_pure (ro_loadA (cs := (lvlV (vs j) (zerosL (nlv K - 1 - j) (lvl (nlv K) L j)).length (nlv K - 1 - j))) WavRank_g99 WavRank_z99 rfl ((P8b.from_ D16).whole)) rfl
     refine ⟨?_, ?_⟩
     · rintro - w17 D17
       show OpOK _ _ _ _ _ _ _
       exact ok_pure (ro_move (v := .int _ _) rfl) rfl
     refine ⟨?_, ?_⟩
     · rintro - w18 D18
       show OpOK _ _ _ _ _ _ _
       exact ok_pure (ro_move (v := .bool _) rfl) rfl
     refine ⟨?_, ?_⟩
     · rintro - w19 D19
       rintro v19_40 rfl _ rfl _ rfl
       show OpOK _ _ _ _ _ _ _
       refine ok_call WavRank_kdown ((down_l base (vs j) _ (nlv K - 1 - j) (X.length + (yL L q cc (nlv K) j).length) (lvl (nlv K) L j) _ ((hVs j hjn).from_ (hB35.next D19)) (by omega) rfl (by rw [lvl_len]; exact hLl) (bitN (nlv K - 1 - j) cc)).mono ?_)
       rintro v w2 ⟨rfl, hE2⟩
       exact ⟨hE2, by rw [hy2]; rfl⟩
     refine ⟨?_, ?_⟩
     · rintro - w20 D20
       rintro v20_39 rfl
       show OpOK _ _ _ _ _ _ _
       exact ok_pure (ro_assign (v := .int _ _) rfl) rfl
     refine ⟨?_, ?_⟩
     · rintro - w21 D21
       rintro v21_43 rfl
       show OpOK _ _ _ _ _ _ _
       exact ok_pure (ro_assign (v := .int _ _) rfl) rfl
     exact trivial
    case hend =>
     intro w22 D22
     rintro v36 rfl _ rfl _ rfl v39 rfl v40 rfl _ rfl _ rfl v43 rfl _ rfl _ rfl
     show St _ _ _ _ _ _ _
     refine st_nil (nx_block (nx_then (cd_region ?_)))
     refine st_val (ro_add64 rfl rfl (by have := nlv_le hK2; omega)) ?_
     refine mvi rfl ?_
     refine st_nil ?_
     refine nx_cut ((j + 1, X2, Z2)) ⟨(by first | rfl | (refine int_eq ?_; omega)), (by first | rfl | (refine int_eq ?_; omega)), (by first | rfl | (refine int_eq ?_; omega)), trivial⟩ (by (iterate 40 refine agr_cons rfl ?_); exact agr_rfl) ⟨?_, ?_⟩
     · exact ⟨by omega, hP2, ((((hB.next E10).only O8 (by rw [hb10]; exact hB.size)).next E35).next D22)⟩
     · show nlv K - (j + 1) < nlv K - j; omega
  replace Q7 := of_decide_eq_false Q7
  refine cd_exit ?_
  refine ex_then (ex_then (ex_block (nx_then (cd_seq (cd_region ?_)))))
  refine mvi rfl ?_
  refine mvi rfl ?_
  refine st_val (ro_subN rfl rfl (by have hs7 := seg_len hX; rw [lvl_len] at hs7; omega)) ?_
  refine asi rfl ?_
  refine asi rfl ?_
  refine st_nil (nx_then (cd_ret ?_))
  refine res2 (v := .int _ _) (v' := .int _ _) rfl rfl rfl ?_
  obtain rfl : j = nlv K := by omega
  have hya := yL_all (L := L) (q := q) (c := cc) (n := nlv K)
  refine ⟨?_, hB⟩
  unfold kV kE
  rw [if_pos hkn, if_pos hkn, if_pos (by omega), if_pos (by omega), Int.toNat_natCast, Int.toNat_natCast, ← hya, Nat.add_sub_cancel_left]
end Go.Proofs.YtllmocjfllbbfaaGreat

namespace Go.Proofs.YtllmocjfllbbfaaGreat
open Go.RowKit
open Go.ChangeShapes Go.WideShapes Go.ChangeAt
open Go.Proofs.YtllmocjfllbbfaaGreat.SA
theorem FmWalks_f55_0 : fieldQ Tryz.prog 55 0 = some 0 := by kernel_rfl
theorem FmWalks_g51 : aggQ Tryz.prog 51 = some false := by kernel_rfl
theorem FmWalks_k54 : callable Tryz.prog 54 = true := by kernel_rfl
theorem FmWalks_f55_1 : fieldQ Tryz.prog 55 1 = some 1 := by kernel_rfl
theorem FmWalks_g3 : aggQ Tryz.prog 3 = some false := by kernel_rfl
theorem FmWalks_k70 : callable Tryz.prog 70 = true := by kernel_rfl
theorem FmWalks_k72 : callable Tryz.prog 72 = true := by kernel_rfl
theorem FmWalks_k71 : callable Tryz.prog 71 = true := by kernel_rfl
theorem FmWalks_e52 : elemQ Tryz.prog 52 = some (105, 2) := by kernel_rfl
theorem FmWalks_k73 : callable Tryz.prog 73 = true := by kernel_rfl
theorem FmWalks_k56 : callable Tryz.prog 56 = true := by kernel_rfl
theorem FmWalks_f105_0 : fieldQ Tryz.prog 105 0 = some 0 := by kernel_rfl
theorem FmWalks_g21 : aggQ Tryz.prog 21 = some false := by kernel_rfl
theorem FmWalks_s21 : (Tryz.prog.underlying 21).isSome = true := by kernel_rfl
theorem FmWalks_i3 : Tryz.prog.underlying 3 = some (.int .i64) := by kernel_rfl
theorem FmWalks_kcmp : callable Tryz.prog 58 = true := by kernel_rfl
theorem FmWalks_l52 : (elemQ Tryz.prog 52).isSome = true := by kernel_rfl
theorem FmWalks_s3 : (Tryz.prog.underlying 3).isSome = true := by kernel_rfl
theorem FmWalks_i78 : Tryz.prog.underlying 78 = some (.int .u64) := by kernel_rfl
theorem FmWalks_s78 : (Tryz.prog.underlying 78).isSome = true := by kernel_rfl
theorem FmWalks_g105 : aggQ Tryz.prog 105 = some true := by kernel_rfl
theorem FmWalks_z105 : sizeQ Tryz.prog 105 = some 2 := by kernel_rfl
theorem countP_cnt (p : Nat → Prop) [DecidablePred p] (L : List Nat) : ∀ k, k ≤ L.length → (L.take k).countP (fun x => decide (p x)) = cnt k fun i => p (L.getD i 0)
  | 0, _ => by simp [cnt]
  | k + 1, h => by
    have ih := countP_cnt p L k (by omega)
    have hk : k < L.length := by omega
    have e : L.getD k 0 = L[k] := by rw [List.getD_eq_getElem?_getD, List.getElem?_eq_getElem hk]; rfl
    rw [List.take_succ_eq_append_getElem hk, List.countP_append, ih, List.countP_singleton]
    by_cases hp : p L[k]
    · rw [cnt_yes (p := fun i => p (L.getD i 0)) (by rw [e]; exact hp), if_pos (by simpa using hp)]
    · rw [cnt_no (p := fun i => p (L.getD i 0)) (by rw [e]; exact hp), if_neg (by simpa using hp)]
      rfl
theorem cntLt_les (B : List Nat) (c : Nat) : cntLt B c = les B.length (fun i => B.getD i 0) c := by
  have := countP_cnt (fun x => x < c) B B.length (Nat.le_refl _)
  rw [List.take_length] at this
  exact this
theorem cntC_occ (B : List Nat) (c i : Nat) (h : i ≤ B.length) : cntC B c i = occ (fun i => B.getD i 0) i c := by
  have := countP_cnt (fun x => x = c) B i h
  unfold occ
  rw [← this]
  unfold cntC
  congr 1
/-- the samples' cells -/
noncomputable def smpV (L F : List Nat) (l : List Nat) : List Value := l.flatMap fun r => [jV ((r : Nat) : Int), jV ((rowS L F r : Nat) : Int)]
theorem smpV_at (L F l : List Nat) (i : Nat) (hi : i < l.length) (q : Nat) (hq : q < 2) : (smpV L F l)[i * 2 + q]? = [jV ((l.getD i 0 : Nat) : Int), jV ((rowS L F (l.getD i 0) : Nat) : Int)][q]? := by
  have := flat_at (s := 2) (f := fun r => [jV ((r : Nat) : Int), jV ((rowS L F r : Nat) : Int)]) (fun x => rfl) l i hi q hq
  unfold smpV
  rw [this, List.getD_eq_getElem?_getD, List.getElem?_eq_getElem hi]
  rfl
/-- an index over a list -/
def FmAt (w : World) (base b K a : Nat) (L B F : List Nat) : Prop := base ≤ b ∧ IsSA L F ∧ IsBw L B a ∧ L.length ≤ 131072 ∧ K ≤ 512 ∧ ∃ (tb : Nat) (AS : Option Addr) (cs gr : Nat),
  Blk w b 55 #[.pointer (some ⟨tb, 0, none⟩), .int .i64 (a : Nat), .slice AS (smp L F (L.length + 1)).length cs, .slice (some ⟨gr, 0, none⟩) (L.length / 8 + 1) (L.length / 8 + 1)] ∧
  TreeAt w base tb K B ∧ w.ownsRow base 105 2 (.slice AS (smp L F (L.length + 1)).length cs) (smp L F (L.length + 1)).length (smpV L F (smp L F (L.length + 1))) ∧
  Blk w gr 21 (tabJ (L.length / 8 + 1) fun j => ((rank (L.length + 1) (endT L) (8 * j) : Nat) : Int)) ∧ base ≤ gr
theorem FmAt.from_ {w w' : World} {base b K a : Nat} {L B F : List Nat} (h : FmAt w base b K a L B F) (hF : From w w') : FmAt w' base b K a L B F := by
  obtain ⟨hb0, hSA, hbw, hLn, hK, tb, AS, cs, gr, hI, hT, ho, hR, hgr⟩ := h
  exact ⟨hb0, hSA, hbw, hLn, hK, tb, AS, cs, gr, hI.from_ hF, hT.from_ hF, ho.kept_from hF, hR.from_ hF, hgr⟩
theorem sV_les {K c : Nat} {B : List Nat} (hc : c ≤ K) : sV K B (c : Nat) = ((les B.length (fun i => B.getD i 0) c : Nat) : Int) := by
  unfold sV
  rw [if_pos (by omega), Int.toNat_natCast, cntLt_les]
theorem kV_occ {K c i : Nat} {B : List Nat} (hc : c < K) (hi : i ≤ B.length) : kV K B (c : Nat) (i : Nat) = ((occ (fun i => B.getD i 0) i c : Nat) : Int) := by
  unfold kV
  rw [if_pos (by omega), if_pos (by omega), Int.toNat_natCast, Int.toNat_natCast, cntC_occ _ _ _ hi]
theorem aV_get {i : Nat} {B : List Nat} (hi : i < B.length) : aV B (i : Nat) = ((B.getD i 0 : Nat) : Int) := by
  unfold aV
  rw [if_pos (by omega), Int.toNat_natCast]
set_option maxHeartbeats 400000 in
theorem size_rt (base b K a : Nat) (L B F : List Nat) (w : World) (hf : FmAt w base b K a L B F) :
    Rt Tryz.prog 52 [.pointer (some ⟨b, 0, none⟩)] w (fun v w' => v = .int .i64 ((L.length : Nat) : Int) ∧ From w w') := by
  obtain ⟨hb0, hSA, hbw, hLn, hK, tb, AS, cs, gr, hI, hT, ho, hR, hgr⟩ := hf
  have hBl := hbw.len
  refine enter (n := 13) Tryz.func52 rfl rfl rfl ?_
  refine cd_seq (cd_region ?_)
  refine asi rfl ?_
  refine st_nil (nx_then (cd_seq (cd_seq (cd_region ?_))))
  refine mvp rfl ?_
  refine st_val (ro_nilCheck rfl) ?_
  refine st_val (ro_fieldAddr FmWalks_f55_0 rfl) ?_
  refine st_val (ro_load FmWalks_g51 rfl (by exact (hI.from_ From.rfl_).rd 0 rfl)) ?_
  refine st_val (ro_bf (ro_eqlNil (by kernel_rfl) rfl rfl) rfl) ?_
  refine st_nil (nx_then ?_)
  refine cd_condF rfl ?_
  refine cd_skip (nx_then (cd_seq (cd_region ?_)))
  refine mvp rfl ?_
  refine st_val (ro_nilCheck rfl) ?_
  refine st_val (ro_fieldAddr FmWalks_f55_0 rfl) ?_
  refine st_val (ro_load FmWalks_g51 rfl (by exact (hI.from_ From.rfl_).rd 0 rfl)) ?_
  refine st_call FmWalks_k54 (lenT base tb K B _ (hT.from_ From.rfl_)) ?_
  rintro v12 w1 ⟨rfl, E12⟩
  refine asi rfl ?_
  refine st_nil (nx_then (cd_ret ?_))
  refine res1 (v := .int _ _) rfl rfl ?_
  exact ⟨int_eq (by rw [hBl]), (From.rfl_.next E12)⟩
set_option maxHeartbeats 400000 in
theorem place_rt (base b K a : Nat) (L B F : List Nat) (w : World) (hf : FmAt w base b K a L B F) (r : Nat) (hr : r ≤ L.length + 1) :
    Rt Tryz.prog 72 [.pointer (some ⟨b, 0, none⟩), .int .i64 (r : Nat)] w (fun v w' => v = .int .i64 ((sy a r : Nat) : Int) ∧ w = w') := by
  obtain ⟨hb0, hSA, hbw, hLn, hK, tb, AS, cs, gr, hI, hT, ho, hR, hgr⟩ := hf
  refine enter (n := 14) Tryz.func72 rfl rfl rfl ?_
  refine cd_seq (cd_region ?_)
  refine asi rfl ?_
  refine st_nil (nx_then (cd_seq (cd_seq (cd_region ?_))))
  refine mvi rfl ?_
  refine mvp rfl ?_
  refine st_val (ro_nilCheck rfl) ?_
  refine st_val (ro_fieldAddr FmWalks_f55_1 rfl) ?_
  refine st_val (ro_load FmWalks_g3 rfl (by exact hI.rd 1 rfl)) ?_
  refine st_val (ro_gtr rfl rfl) ?_
  refine st_nil (nx_then ?_)
  refine cd_cond rfl (fun Q1 => ?_) (fun Q1 => ?_)
  · replace Q1 := of_decide_eq_true Q1
    refine cd_seq (cd_region ?_)
    refine mvi rfl ?_
    refine st_val (ro_subN (b := 1) rfl rfl (by omega)) ?_
    refine asi rfl ?_
    refine st_nil (nx_then (cd_ret (rt_then ?_)))
    refine res1 (v := .int _ _) rfl rfl ?_
    exact ⟨int_eq (by rw [sy_gt (by omega)]), rfl⟩
  replace Q1 := of_decide_eq_false Q1
  refine cd_skip (nx_then (cd_seq (cd_region ?_)))
  refine mvi rfl ?_
  refine asi rfl ?_
  refine st_nil (nx_then (cd_ret ?_))
  refine res1 (v := .int _ _) rfl rfl ?_
  exact ⟨int_eq (by rw [sy_le (by omega)]), rfl⟩
theorem sy_le_n {a r n : Nat} (ha : a ≤ n) (hr : r ≤ n + 1) : sy a r ≤ n := by unfold sy; split <;> omega
set_option maxHeartbeats 1000000 in
theorem back_rt (base b K a : Nat) (L B F : List Nat) (w : World) (hf : FmAt w base b K a L B F) (c r : Nat) (hc : c < K) (hr : r ≤ L.length + 1) :
    Rt Tryz.prog 56 [.pointer (some ⟨b, 0, none⟩), .int .i64 (c : Nat), .int .i64 (r : Nat)] w (fun v w' => v = .int .i64 ((1 + les L.length (fun i => B.getD i 0) c + occ (fun i => B.getD i 0) (sy a r) c : Nat) : Int) ∧ From w w') := by
  have hff := hf
  obtain ⟨hb0, hSA, hbw, hLn, hK, tb, AS, cs, gr, hI, hT, ho, hR, hgr⟩ := hf
  have hBl := hbw.len
  have hsl := sy_le_n hbw.le hr
  have hl1 := les_le (n := L.length) (b := (fun i => B.getD i 0)) c
  have ho1 := occ_le (b := (fun i => B.getD i 0)) (sy a r) c
  refine enter (n := 36) Tryz.func56 rfl rfl rfl ?_
  refine cd_seq (cd_region ?_)
  refine asi rfl ?_
  refine st_nil (nx_then (cd_seq (cd_region ?_)))
  refine mvp rfl ?_
  refine st_val (ro_nilCheck rfl) ?_
  refine st_val (ro_fieldAddr FmWalks_f55_0 rfl) ?_
  refine st_val (ro_load FmWalks_g51 rfl (by exact (hI.from_ From.rfl_).rd 0 rfl)) ?_
  refine mvi rfl ?_
  refine st_call FmWalks_k70 (lessT base tb K B _ (hT.from_ From.rfl_) (c : Nat)) ?_
  rintro v17 w1 ⟨rfl, rfl⟩
  refine mvt rfl ?_
  refine st_val (ro_extract rfl rfl) ?_
  refine st_spell (t := 18) (v := .int _ _) (v' := .int .i64 ((les L.length (fun i => B.getD i 0) c : Nat) : Int)) rfl (by rw [← hBl]; exact int_eq (sV_les (by omega))) ?_
  refine st_val (ro_extract rfl rfl) ?_
  refine asi rfl ?_
  refine asi rfl ?_
  refine st_nil (nx_then (cd_seq ?_))
  apply cd_drawn 14 [(21, eqp _), (22, eqp _), (23, eqp _), (24, eqp _), (25, eqp _), (26, eqp _), (27, eqp _), (28, eqp _), (29, eqp _), (20, eqp _), (30, eqp _), (31, eqp _), (9, eqp _), (10, eqp _)] (by kernel_rfl) (by kernel_rfl) ⟨eqp_mono _, eqp_mono _, eqp_mono _, eqp_mono _, eqp_mono _, eqp_mono _, eqp_mono _, eqp_mono _, eqp_mono _, eqp_mono _, eqp_mono _, eqp_mono _, eqp_mono _, eqp_mono _, trivial⟩
  case hop =>
   refine ⟨?_, ?_⟩
   · intro w3 D3
     show OpOK _ _ _ _ _ _ _
     exact ok_pure (ro_move (v := .pointer _) rfl) rfl
   refine ⟨?_, ?_⟩
   · intro w4 D4
     rintro _ rfl
     show OpOK _ _ _ _ _ _ _
     exact ok_pure (ro_nilCheck rfl) rfl
   refine ⟨?_, ?_⟩
   · intro w5 D5
     rintro _ rfl
     show OpOK _ _ _ _ _ _ _
     exact ok_pure (ro_fieldAddr FmWalks_f55_0 rfl) rfl
   refine ⟨?_, ?_⟩
   · intro w6 D6
     rintro _ rfl
     show OpOK _ _ _ _ _ _ _
     exact ok_pure (ro_load FmWalks_g51 rfl (by exact (hI.from_ (From.rfl_.next D6)).rd 0 rfl)) rfl
   refine ⟨?_, ?_⟩
   · intro w7 D7
     show OpOK _ _ _ _ _ _ _
     exact ok_pure (ro_move (v := .int _ _) rfl) rfl
   refine ⟨?_, ?_⟩
   · intro w8 D8
     show OpOK _ _ _ _ _ _ _
     exact ok_pure (ro_move (v := .pointer _) rfl) rfl
   refine ⟨?_, ?_⟩
   · intro w9 D9
     show OpOK _ _ _ _ _ _ _
     exact ok_pure (ro_move (v := .int _ _) rfl) rfl
   refine ⟨?_, ?_⟩
   · intro w10 D10
     rintro _ rfl _ rfl
     show OpOK _ _ _ _ _ _ _
     refine ok_call FmWalks_k72 ((place_rt base b K a L B F _ (hff.from_ (From.rfl_.next D10)) r hr).mono ?_)
     rintro v _ ⟨rfl, rfl⟩; exact ⟨From.rfl_, rfl⟩
   refine ⟨?_, ?_⟩
   · intro w11 D11
     rintro _ rfl _ rfl _ rfl
     show OpOK _ _ _ _ _ _ _
     refine ok_call FmWalks_k71 ((rankT base tb K B _ (hT.from_ (From.rfl_.next D11)) (c : Nat) ((sy a r : Nat) : Int)).mono ?_)
     rintro v _ ⟨rfl, E11'⟩; exact ⟨E11', rfl⟩
   refine ⟨?_, ?_⟩
   · intro w12 D12
     rintro _ rfl
     show OpOK _ _ _ _ _ _ _
     exact ok_pure (ro_move (v := .tuple _) rfl) rfl
   refine ⟨?_, ?_⟩
   · intro w13 D13
     rintro _ rfl
     show OpOK _ _ _ _ _ _ _
     exact ok_pure (ro_extract rfl rfl) rfl
   refine ⟨?_, ?_⟩
   · intro w14 D14
     rintro _ rfl
     show OpOK _ _ _ _ _ _ _
     exact ok_pure (ro_extract rfl rfl) rfl
   refine ⟨?_, ?_⟩
   · intro w15 D15
     rintro _ rfl
     show OpOK _ _ _ _ _ _ _
     exact ok_pure (ro_assign (v := .int _ _) rfl) rfl
   refine ⟨?_, ?_⟩
   · intro w16 D16
     rintro _ rfl
     show OpOK _ _ _ _ _ _ _
     exact ok_pure (ro_assign (v := .int _ _) rfl) rfl
   exact trivial
  case hend =>
   intro w17 D17
   rintro _ rfl _ rfl _ rfl _ rfl _ rfl _ rfl _ rfl _ rfl _ rfl _ rfl _ rfl _ rfl _ rfl _ rfl
   show St _ _ _ _ _ _ _
   refine st_nil (nx_then (cd_seq (cd_region ?_)))
   refine mvi rfl ?_
   refine st_val (ro_addN (a := 1) (b := les L.length (fun i => B.getD i 0) c) rfl rfl (by omega)) ?_
   refine mvi rfl ?_
   refine st_val (ro_eq (v' := .int .i64 ((1 + les L.length (fun i => B.getD i 0) c + occ (fun i => B.getD i 0) (sy a r) c : Nat) : Int)) (ro_addN (a := 1 + les L.length (fun i => B.getD i 0) c) (b := occ (fun i => B.getD i 0) (sy a r) c) rfl (by rw [kV_occ hc (by omega)]; rfl) (by omega)) rfl) ?_
   refine asi rfl ?_
   refine st_nil (nx_then (cd_ret ?_))
   refine res1 (v := .int _ _) rfl rfl ?_
   exact ⟨rfl, (From.rfl_.next D17)⟩
theorem tree_lt {w : World} {base b k : Nat} {B : List Nat} (ht : TreeAt w base b k B) : ∀ x ∈ B, x < k := by
  obtain ⟨hb0, AT, cT, g, vs, hT, ho, hVs, hg0, hg2, hK1, hK2, hlt, hLl⟩ := ht
  exact hlt
theorem getD_lt {B : List Nat} {k i : Nat} (h : ∀ x ∈ B, x < k) (hi : i < B.length) : B.getD i 0 < k := by
  rw [List.getD_eq_getElem?_getD, List.getElem?_eq_getElem hi]
  exact h _ (List.getElem_mem hi)
theorem smp_range {w : World} {base m c : Nat} {A : Option Addr} {L F l : List Nat} (h : w.ownsRow base 105 2 (.slice A m c) m (smpV L F l)) (hm : m = l.length) (h0 : 0 < m) : ∃ g, A = some ⟨g, 0, none⟩ ∧ ∀ i, i < m → w.rangeAt g (i * 2) [jV ((l.getD i 0 : Nat) : Int), jV ((rowS L F (l.getD i 0) : Nat) : Int)] := by
  obtain ⟨g, cur, rfl, _, hb, h1, _, h3, h4⟩ := own_blk h h0
  refine ⟨g, rfl, fun i hi => hb.range _ _ fun q v hv => ?_⟩
  have hq : q < 2 := (List.getElem?_eq_some_iff.1 hv).1
  rw [← smpV_at L F l i (by omega) q hq, ← h4, List.getElem?_take_of_lt (by omega)] at hv
  exact hv
set_option maxHeartbeats 1000000 in
theorem fmAhead_rt (base b K a : Nat) (L B F : List Nat) (w : World) (hf : FmAt w base b K a L B F) (r : Nat) (hr : r ≤ L.length) (hra : r ≠ a) :
    Rt Tryz.prog 59 [.pointer (some ⟨b, 0, none⟩), .int .i64 (r : Nat)] w (fun v w' => v = .tuple #[.int .i64 ((B.getD (sy a r) 0 : Nat) : Int), .int .i64 ((lf L.length (fun i => B.getD i 0) a r : Nat) : Int)] ∧ From w w') := by
  have hff := hf
  obtain ⟨hb0, hSA, hbw, hLn, hK, tb, AS, cs, gr, hI, hT, ho, hR, hgr⟩ := hf
  have hBl := hbw.len
  have hsl := sy_lt hbw.le hr hra
  have hcK := getD_lt (tree_lt hT) (show sy a r < B.length by omega)
  have hv := lf_val (b := (fun i => B.getD i 0)) (c := B.getD (sy a r) 0) hbw.le hr hra rfl
  refine enter (n := 22) Tryz.func59 rfl rfl rfl ?_
  refine cd_seq (cd_region ?_)
  refine asi rfl ?_
  refine asi rfl ?_
  refine st_nil (nx_then (cd_seq ?_))
  apply cd_drawn 12 [(7, eqp _), (8, eqp _), (9, eqp _), (10, eqp _), (11, eqp _), (12, eqp _), (13, eqp _), (14, eqp _), (6, eqp _), (15, eqp _), (16, eqp _), (4, eqp _)] (by kernel_rfl) (by kernel_rfl) ⟨eqp_mono _, eqp_mono _, eqp_mono _, eqp_mono _, eqp_mono _, eqp_mono _, eqp_mono _, eqp_mono _, eqp_mono _, eqp_mono _, eqp_mono _, eqp_mono _, trivial⟩
  case hop =>
   refine ⟨?_, ?_⟩
   · intro w2 D2
     show OpOK _ _ _ _ _ _ _
     exact ok_pure (ro_move (v := .pointer _) rfl) rfl
   refine ⟨?_, ?_⟩
   · intro w3 D3
     rintro _ rfl
     show OpOK _ _ _ _ _ _ _
     exact ok_pure (ro_nilCheck rfl) rfl
   refine ⟨?_, ?_⟩
   · intro w4 D4
     rintro _ rfl
     show OpOK _ _ _ _ _ _ _
     exact ok_pure (ro_fieldAddr FmWalks_f55_0 rfl) rfl
   refine ⟨?_, ?_⟩
   · intro w5 D5
     rintro _ rfl
     show OpOK _ _ _ _ _ _ _
     exact ok_pure (ro_load FmWalks_g51 rfl (by exact (hI.from_ (From.rfl_.next D5)).rd 0 rfl)) rfl
   refine ⟨?_, ?_⟩
   · intro w6 D6
     show OpOK _ _ _ _ _ _ _
     exact ok_pure (ro_move (v := .pointer _) rfl) rfl
   refine ⟨?_, ?_⟩
   · intro w7 D7
     show OpOK _ _ _ _ _ _ _
     exact ok_pure (ro_move (v := .int _ _) rfl) rfl
   refine ⟨?_, ?_⟩
   · intro w8 D8
     rintro _ rfl _ rfl
     show OpOK _ _ _ _ _ _ _
     refine ok_call FmWalks_k72 ((place_rt base b K a L B F _ (hff.from_ (From.rfl_.next D8)) r (by omega)).mono ?_)
     rintro v _ ⟨rfl, rfl⟩; exact ⟨From.rfl_, rfl⟩
   refine ⟨?_, ?_⟩
   · intro w9 D9
     rintro _ rfl _ rfl
     show OpOK _ _ _ _ _ _ _
     refine ok_call FmWalks_k73 ((accessT base tb K B _ (hT.from_ (From.rfl_.next D9)) ((sy a r : Nat) : Int)).mono ?_)
     rintro v _ ⟨rfl, E9'⟩; exact ⟨E9', rfl⟩
   refine ⟨?_, ?_⟩
   · intro w10 D10
     rintro _ rfl
     show OpOK _ _ _ _ _ _ _
     exact ok_pure (ro_move (v := .tuple _) rfl) rfl
   refine ⟨?_, ?_⟩
   · intro w11 D11
     rintro _ rfl
     show OpOK _ _ _ _ _ _ _
     exact ok_pure (ro_eq (ro_extract rfl rfl) (int_eq (aV_get (by omega)))) rfl
   refine ⟨?_, ?_⟩
   · intro w12 D12
     rintro _ rfl
     show OpOK _ _ _ _ _ _ _
     exact ok_pure (ro_extract rfl rfl) rfl
   refine ⟨?_, ?_⟩
   · intro w13 D13
     rintro _ rfl
     show OpOK _ _ _ _ _ _ _
     exact ok_pure (ro_assign (v := .int _ _) rfl) rfl
   exact trivial
  case hend =>
   intro w14 D14
   rintro _ rfl _ rfl _ rfl _ rfl _ rfl _ rfl _ rfl _ rfl _ rfl _ rfl _ rfl _ rfl
   show St _ _ _ _ _ _ _
   refine st_nil (nx_then (cd_seq (cd_region ?_)))
   refine mvi rfl ?_
   refine mvp rfl ?_
   refine mvi rfl ?_
   refine mvi rfl ?_
   refine st_call FmWalks_k56 (back_rt base b K a L B F _ (hff.from_ (From.rfl_.next D14)) (B.getD (sy a r) 0) r hcK (by omega)) ?_
   rintro v21 w15 ⟨rfl, E21⟩
   refine asi rfl ?_
   refine asi rfl ?_
   refine st_nil (nx_then (cd_ret ?_))
   refine res2 (v := .int _ _) (v' := .int _ _) rfl rfl rfl ?_
   exact ⟨by rw [← hv], ((From.rfl_.next D14).next E21)⟩
set_option maxHeartbeats 400000 in
theorem cmp_rt (x y r : Nat) (w : World) (hx : x ≤ 1000000) (hr : r ≤ 1000000) :
    Rt Tryz.prog 58 [.agg #[.int .i32 (x : Nat), .int .i32 (y : Nat)], .int .i64 (r : Nat)] w (fun v w' => v = .int .i64 ((x : Int) - r) ∧ From w w') := by
  refine enter (n := 10) Tryz.func58 rfl rfl rfl ?_
  refine cd_seq (cd_region ?_)
  refine st_box (v := .agg _) rfl ?_
  intro b2 w1 E2 hb2 hk2
  refine asi rfl ?_
  refine st_nil (nx_then (cd_seq (cd_region ?_)))
  refine st_val (ro_fieldAddr FmWalks_f105_0 rfl) ?_
  refine st_val (ro_load FmWalks_g21 rfl (by exact hk2.rd 0 rfl)) ?_
  refine st_val (ro_convI FmWalks_s21 FmWalks_i3 rfl (by omega)) ?_
  refine mvi rfl ?_
  refine st_val (ro_sub64 rfl rfl (by omega)) ?_
  refine asi rfl ?_
  refine st_nil (nx_then (cd_ret ?_))
  refine res1 (v := .int _ _) rfl rfl ?_
  exact ⟨rfl, (From.rfl_.next E2)⟩
set_option maxHeartbeats 2000000 in
theorem bsearch_rt (base : Nat) (A : Option Addr) (c m r : Nat) (L F l : List Nat) (w : World) (ho : w.ownsRow base 105 2 (.slice A m c) m (smpV L F l)) (hm : m = l.length) (hm2 : m ≤ 1000000) (hr : r ≤ 1000000) (hl : ∀ i, i < m → l.getD i 0 ≤ 1000000) (hasc : ∀ i j, i < j → j < m → l.getD i 0 < l.getD j 0) :
    Rt Tryz.prog 57 [.slice A m c, .int .i64 (r : Nat), .func (.func 58) #[] #[]] w (fun v w' => (∃ (i : Nat) (fd : Bool), v = .tuple #[.int .i64 (i : Nat), .bool fd] ∧ i ≤ m ∧ (∀ x, x < i → l.getD x 0 < r) ∧ (∀ x, i ≤ x → x < m → r ≤ l.getD x 0) ∧ (fd = true ↔ i < m ∧ l.getD i 0 = r)) ∧ From w w') := by
  refine enter (n := 49) Tryz.func57 rfl rfl rfl ?_
  refine cd_seq (cd_region ?_)
  refine asi rfl ?_
  refine asb rfl ?_
  refine st_nil (nx_then (cd_seq (cd_region ?_)))
  refine mvs rfl ?_
  refine st_val (ro_len FmWalks_l52 rfl) ?_
  refine asi rfl ?_
  refine st_nil (nx_then (cd_seq (cd_region ?_)))
  refine mvi rfl ?_
  refine asi rfl ?_
  refine asi rfl ?_
  refine st_nil (nx_then (cd_seq (cd_block ?_)))
  refine cd_loop (G := Nat × Nat) [11, 15, 16, 17, 18, 19, 20, 21, 22, 23, 24, 25, 26, 27, 28, 29, 30, 31, 32, 33, 34] (fun (i, j) => [(9, .int .i64 (i : Nat)), (10, .int .i64 (j : Nat))]) (fun (i, j) w' => i ≤ j ∧ j ≤ m ∧ (∀ x, x < i → l.getD x 0 < r) ∧ (∀ x, j ≤ x → x < m → r ≤ l.getD x 0) ∧ From w w') (fun (i, j) => j - i) ((0, m)) ⟨rfl, rfl, trivial⟩ ?_ ?_
  · exact ⟨Nat.zero_le _, Nat.le_refl _, fun x h => absurd h (by omega), fun x h1 h2 => absurd h1 (by omega), From.rfl_⟩
  rintro ⟨i, j⟩ ρ1 w1 ⟨hij, hjn, hlo, hhi, hB⟩
  refine cd_seq (cd_seq (cd_region ?_))
  refine mvi rfl ?_
  refine mvi rfl ?_
  refine st_val (ro_lss rfl rfl) ?_
  refine st_nil (nx_then ?_)
  refine cd_cond rfl (fun Q2 => ?_) (fun Q2 => ?_)
  · with_reducible replace Q2 := of_decide_eq_true Q2
    obtain ⟨g, rfl, hrg⟩ := smp_range ho hm (by omega)
    refine cd_skip (nx_then (cd_block (cd_seq (cd_region ?_))))
    refine mvi rfl ?_
    refine mvi rfl ?_
    refine st_val (ro_addN rfl rfl (by omega)) ?_
    obtain ⟨h, hh⟩ : ∃ h, h = (i + j) / 2 ^ 1 := ⟨_, rfl⟩
    refine st_val (ro_conv64 FmWalks_s3 FmWalks_i78 rfl (by omega)) ?_
    refine st_val (ro_shrN (b := 1) rfl rfl (by decide)) ?_
    refine st_val (ro_convI FmWalks_s78 FmWalks_i3 rfl (by omega)) ?_
    refine st_spell (t := 23) (v := .int _ _) (v' := .int .i64 (h : Nat)) rfl (by rw [hh]) ?_
    refine asi rfl ?_
    refine st_nil (nx_then (cd_seq (cd_region ?_)))
    refine st_val (ro_move (v := .func _ _ _) rfl) ?_
    refine mvs rfl ?_
    refine mvi rfl ?_
    refine st_val (ro_indexAddrN FmWalks_e52 rfl rfl (by omega)) ?_
    refine st_val (ro_loadA (cs := [_, _]) FmWalks_g105 FmWalks_z105 rfl (by rw [Nat.zero_add]; exact rangeF hB (hrg h (by omega)))) ?_
    refine mvi rfl ?_
    refine st_callF (caps := []) rfl FmWalks_kcmp (cmp_rt (l.getD h 0) (rowS L F (l.getD h 0)) r _ (hl _ (by omega)) hr) ?_
    rintro v3 w3 ⟨rfl, E30⟩
    refine st_val (ro_lss rfl rfl) ?_
    refine st_nil (nx_then ?_)
    refine cd_cond rfl (fun Q4 => ?_) (fun Q4 => ?_)
    · with_reducible replace Q4 := of_decide_eq_true Q4
      refine cd_region ?_
      refine mvi rfl ?_
      refine st_val (ro_addN (b := 1) rfl rfl (by omega)) ?_
      refine asi rfl ?_
      refine st_nil (nx_block ?_)
      refine nx_cut ((h + 1, j)) ⟨(by first | rfl | (refine int_eq ?_; omega)), (by first | rfl | (refine int_eq ?_; omega)), trivial⟩ (by (iterate 45 refine agr_cons rfl ?_); exact agr_rfl) ⟨?_, ?_⟩
      · exact ⟨by omega, hjn, fun x hx => by
          rcases Nat.eq_or_lt_of_le (Nat.le_of_lt_succ hx) with e | e
          · subst e; omega
          · have := hasc x h e (by omega); omega, hhi, (hB.next E30)⟩
      · show j - (h + 1) < j - i; omega
    with_reducible replace Q4 := of_decide_eq_false Q4
    refine cd_region ?_
    refine mvi rfl ?_
    refine asi rfl ?_
    refine st_nil (nx_block ?_)
    refine nx_cut ((i, h)) ⟨(by first | rfl | (refine int_eq ?_; omega)), (by first | rfl | (refine int_eq ?_; omega)), trivial⟩ (by (iterate 44 refine agr_cons rfl ?_); exact agr_rfl) ⟨?_, ?_⟩
    · exact ⟨by omega, by omega, hlo, fun x h1 h2 => by
        rcases Nat.eq_or_lt_of_le h1 with e | e
        · subst e; omega
        · have := hasc h x e h2; omega, (hB.next E30)⟩
    · show h - i < j - i; omega
  with_reducible replace Q2 := of_decide_eq_false Q2
  refine cd_exit ?_
  refine ex_then (ex_then (ex_block (nx_then (cd_seq (cd_region ?_)))))
  refine mvi rfl ?_
  refine mvi rfl ?_
  refine mvi rfl ?_
  refine st_val (ro_lss rfl rfl) ?_
  refine mvb rfl ?_
  refine st_split (t := 39) rfl (fun Q5 => ?_) (fun Q5 => ?_)
  · with_reducible replace Q5 := of_decide_eq_true Q5
    obtain ⟨g, rfl, hrg⟩ := smp_range ho hm (by omega)
    refine st_unguard rfl ?_
    refine st_val (ro_move (v := .func _ _ _) rfl) ?_
    refine st_unguard rfl ?_
    refine mvs rfl ?_
    refine st_unguard rfl ?_
    refine mvi rfl ?_
    refine st_unguard rfl ?_
    refine st_val (ro_indexAddrN FmWalks_e52 rfl rfl (by omega)) ?_
    refine st_unguard rfl ?_
    refine st_val (ro_loadA (cs := [_, _]) FmWalks_g105 FmWalks_z105 rfl (by rw [Nat.zero_add]; exact rangeF hB (hrg i (by omega)))) ?_
    refine st_unguard rfl ?_
    refine mvi rfl ?_
    refine st_unguard rfl ?_
    refine st_callF (caps := []) rfl FmWalks_kcmp (cmp_rt (l.getD i 0) (rowS L F (l.getD i 0)) r _ (hl _ (by omega)) hr) ?_
    rintro v6 w6 ⟨rfl, E46⟩
    refine st_unguard rfl ?_
    refine st_val (ro_eql rfl rfl) ?_
    refine st_val (ro_pickT (v := .bool _) rfl rfl) ?_
    refine asi rfl ?_
    refine asb rfl ?_
    refine st_nil (nx_then (cd_ret ?_))
    refine res2 (v := .int _ _) (v' := .bool _) rfl rfl rfl ?_
    obtain rfl : i = j := by omega
    refine ⟨⟨i, _, rfl, hjn, hlo, hhi, ?_⟩, (hB.next E46)⟩
    first
      | (rw [decide_eq_true_iff]; constructor <;> intro hq <;> omega)
      | (constructor <;> intro hq <;> simp_all <;> omega)
  with_reducible replace Q5 := of_decide_eq_false Q5
  refine st_gno rfl rfl ?_
  refine st_gno rfl rfl ?_
  refine st_gno rfl rfl ?_
  refine st_gno rfl rfl ?_
  refine st_gno rfl rfl ?_
  refine st_gno rfl rfl ?_
  refine st_gno rfl rfl ?_
  refine st_gno rfl rfl ?_
  refine st_val (ro_pickF (v := .bool _) rfl rfl) ?_
  refine asi rfl ?_
  refine asb rfl ?_
  refine st_nil (nx_then (cd_ret ?_))
  refine res2 (v := .int _ _) (v' := .bool _) rfl rfl rfl ?_
  obtain rfl : i = j := by omega
  refine ⟨⟨i, _, rfl, hjn, hlo, hhi, ?_⟩, hB⟩
  first
    | (rw [decide_eq_true_iff]; constructor <;> intro hq <;> omega)
    | (constructor <;> intro hq <;> simp_all <;> omega)
end Go.Proofs.YtllmocjfllbbfaaGreat

namespace Go.Proofs.YtllmocjfllbbfaaGreat
open Go.RowKit
open Go.ChangeShapes Go.WideShapes Go.ChangeAt
theorem WavMake_q93 : litQ Tryz.prog 93 = some (99, 3, 24, (.agg #[.pointer none, .int .i64 0, .int .i64 0])) := by kernel_rfl
theorem WavMake_g99 : aggQ Tryz.prog 99 = some true := by kernel_rfl
theorem WavMake_z99 : sizeQ Tryz.prog 99 = some 3 := by kernel_rfl
theorem WavMake_g93 : aggQ Tryz.prog 93 = some false := by kernel_rfl
theorem WavMake_s3 : (Tryz.prog.underlying 3).isSome = true := by kernel_rfl
theorem WavMake_i78 : Tryz.prog.underlying 78 = some (.int .u64) := by kernel_rfl
theorem WavMake_k46 : callable Tryz.prog 46 = true := by kernel_rfl
theorem WavMake_k47 : callable Tryz.prog 47 = true := by kernel_rfl
theorem WavMake_b95_1_2 : ∀ (a0 : Option Addr) (a1 a2 : Nat) (a3 : Int), Tryz.prog.built 95 [(1, .slice a0 a1 a2), (2, .int .i64 a3)] = some #[.slice none 0 0, .slice a0 a1 a2, .int .i64 a3] := by intros; kernel_rfl
theorem WavMake_k48 : callable Tryz.prog 48 = true := by kernel_rfl
theorem WavMake_k49 : callable Tryz.prog 49 = true := by kernel_rfl
theorem WavMake_o99 : zeroQ Tryz.prog 99 = some (.agg #[.pointer none, .int .i64 0, .int .i64 0]) := by kernel_rfl
theorem WavMake_f95_0 : fieldQ Tryz.prog 95 0 = some 0 := by kernel_rfl
theorem WavMake_z93 : sizeQ Tryz.prog 93 = some 1 := by kernel_rfl
theorem fillL (v z s : Nat) : Instr.fill (fun i => some (i * 3, 3)) ((Array.range (1 * 3)).map ((Value.agg #[.pointer none, .int .i64 0, .int .i64 0]).cells[· % (Value.agg #[.pointer none, .int .i64 0, .int .i64 0]).cells.size]!)) [(0, .agg (lvlV v z s).toArray)] = some (lvlV v z s).toArray := by
  first
    | kernel_rfl
    | rfl
theorem SymR.off {w0 w w' : World} {A B : Option Addr} {L : List Nat} {bs m c : Nat} {xs : List Value} (h : SymR w0 w A L) (ho : w.ownsRow bs 99 3 (.slice B m c) m xs) (hbs : w0.heap.size ≤ bs) (hg : w.grownBy w' (B.map (·.block))) : SymR w0 w' A L := by
  have hne : ∀ q, 0 < L.length → A.map (·.block) = some q → some q ≠ B.map (·.block) := fun q h0 hq e => by
    rcases h.2 q h0 hq with a | ⟨cs, hb⟩
    · have := (own_at ho q e.symm).1; omega
    · exact own_off ho hb (by decide) q e.symm rfl
  refine ⟨fun h0 => ?_, fun q h0 hq => (h.2 q h0 hq).imp id fun ⟨cs, hb⟩ => ⟨cs, hb.grown hg fun k hk e => hne q h0 hq (by rw [hk, e])⟩⟩
  obtain ⟨b, o, hA, hc⟩ := h.1 h0
  exact ⟨b, o, hA, fun i hi => hg.cell (hc i hi) (hne b h0 (by rw [hA]; rfl))⟩
theorem SymR.only {w0 w w' : World} {A : Option Addr} {L : List Nat} {g t : Nat} {cs0 : Array Value} (h : SymR w0 w A L) (o : Only g w w') (hb : Blk w g t cs0) (ht : t ≠ 3) (hg : w0.heap.size ≤ g) : SymR w0 w' A L := by
  have hne : ∀ q, 0 < L.length → A.map (·.block) = some q → q ≠ g := fun q h0 hq e => by
    subst e
    rcases h.2 q h0 hq with a | ⟨cs, hb2⟩
    · omega
    · unfold Blk at hb hb2
      rw [hb] at hb2
      simp only [Option.some.injEq, Obj.cells.injEq] at hb2
      exact ht hb2.2.1
  refine ⟨fun h0 => ?_, fun q h0 hq => (h.2 q h0 hq).imp id fun ⟨cs, hb2⟩ => ⟨cs, hb2.only o (hne q h0 hq)⟩⟩
  obtain ⟨b, o', hA, hc⟩ := h.1 h0
  exact ⟨b, o', hA, fun i hi => (o.cell (hne b h0 (by rw [hA]; rfl))).trans (hc i hi)⟩
theorem split_n (A : Option Addr) (c n : Nat) (L : List Nat) (w : World) (hn : n = L.length) (hr : RowOf nV w A L) (hl : n ≤ 131072) (s : Nat) (hs : s ≤ 9) (h10 : ∀ x ∈ L, x < 1024) : Rt Tryz.prog 49 [.slice A n c, .int .i64 (s : Nat)] w
    fun v w' => (∃ b A' c', v = .tuple #[.agg (lvlV b (zerosL s L).length s).toArray, .slice A' n c', .int .i64 0] ∧ Vec w' w.heap.size b (L.map (bitN s)) ∧ w'.ownsRow w.heap.size 3 1 (.slice A' n c') n ((partL s L).map nV)) ∧ From w w' := by
  subst hn
  exact split_rt A c L w hr hl s hs h10
theorem less_n (k : Nat) (hk : k ≤ 512) (A : Option Addr) (c n : Nat) (L : List Nat) (w : World) (hn : n = L.length) (hr : RowOf nV w A L) (hl : n ≤ 131072) (hlt : ∀ x ∈ L, x < k) : Rt Tryz.prog 47 [.int .i64 (k : Nat), .slice A n c] w
    fun v w' => (∃ g, v = .slice (some ⟨g, 0, none⟩) (k + 1) (k + 1) ∧ w.heap.size ≤ g ∧ Blk w' g 3 (tab (k + 1) (cntLt L))) ∧ From w w' := by
  subst hn
  exact countLess_rt k hk A c L w hr hl hlt
theorem check_n (k : Int) (A : Option Addr) (c n : Nat) (xs : List Int) (w : World) (hn : n = xs.length) (hr : RowOf iV w A xs) (hl : xs.length * 8 ≤ 140737488351232) : Rt Tryz.prog 46 [.int .i64 k, .slice A n c] w fun v w' => v = .int .i64 (chkW k xs) ∧ w = w' := by
  subst hn
  exact check_rt k A c xs w hr hl
set_option maxHeartbeats 1500000 in
theorem new_w (k : Int) (A : Option Addr) (c nn : Nat) (xs : List Int) (w : World) (hr : RowOf iV w A xs) (hnn : nn = xs.length) (hl : xs.length * 8 ≤ 140737488351232) (hA0 : ∀ q, 0 < xs.length → A.map (·.block) = some q → q < w.heap.size) :
    Rt Tryz.prog 35 [.int .i64 k, .slice A nn c] w (fun v w' => ((chkW k xs ≠ 0 ∧ v = .tuple #[.pointer none, .int .i64 (chkW k xs)]) ∨ (∃ (K : Nat) (L : List Nat) (b : Nat), k = (K : Nat) ∧ xs = L.map (fun x : Nat => (x : Int)) ∧ v = .tuple #[.pointer (some ⟨b, 0, none⟩), .int .i64 0] ∧ TreeAt w' w.heap.size b K L)) ∧ From w w') := by
  refine enter (n := 57) Tryz.func35 rfl rfl rfl ?_
  refine cd_seq (cd_region ?_)
  refine asp rfl ?_
  refine asi rfl ?_
  refine st_nil (nx_then (cd_seq (cd_seq (cd_region ?_))))
  refine mvi rfl ?_
  refine mvs rfl ?_
  refine st_call WavMake_k46 (check_n k A c nn xs _ hnn (hr.from_ From.rfl_) hl) ?_
  rintro v15 w1 ⟨rfl, rfl⟩
  refine asi rfl ?_
  refine st_nil (nx_then (cd_seq (cd_region ?_)))
  refine mvi rfl ?_
  refine st_val (ro_neq rfl rfl) ?_
  refine st_nil (nx_then ?_)
  refine cd_cond rfl (fun Q2 => ?_) (fun Q2 => ?_)
  · with_reducible replace Q2 := bx_t Q2
    have hch1 : chkW k xs ≠ 0 := by simpa using Q2
    refine cd_seq (cd_region ?_)
    refine mvi rfl ?_
    refine asp rfl ?_
    refine asi rfl ?_
    refine st_nil (nx_then (cd_ret (rt_then ?_)))
    refine res2 (v := .pointer _) (v' := .int _ _) rfl rfl rfl ?_
    exact ⟨.inl ⟨hch1, rfl⟩, From.rfl_⟩
  with_reducible replace Q2 := bx_f Q2
  have hch0 : chkW k xs = 0 := by simpa using Q2
  obtain ⟨K, L, rfl, hxs, hK1, hK2, hlt, hLl⟩ := xs_nat hch0
  have hrn : RowOf nV w A L := row_nat (hxs ▸ hr)
  have hnL : nn = L.length := by rw [hnn, hxs, List.length_map]
  have hnl : nn ≤ 131072 := by omega
  have hArow : ∀ q, 0 < L.length → A.map (·.block) = some q → q < w.heap.size ∨ ∃ cs, Blk w q 3 cs := fun q h0 hq => .inl (hA0 q (by rw [hxs, List.length_map]; exact h0) hq)
  refine cd_skip (nx_then (cd_seq (cd_region ?_)))
  refine mvi rfl ?_
  refine mvs rfl ?_
  refine st_call WavMake_k47 (less_n K hK2 A c nn L _ hnL (hrn.from_ From.rfl_) hnl hlt) ?_
  rintro v21 w3 ⟨⟨g, rfl, hg0, hgB⟩, E21⟩
  refine mvi rfl ?_
  refine st_val (ro_build (l := [(1, .tmp 21), (2, .tmp 22)]) (WavMake_b95_1_2 _ _ _ _)) ?_
  refine st_box (v := .agg _) rfl ?_
  intro b24 w4 E24 hb24 hk24
  have hl24 := hk24.lt
  have hg24 : w.heap.size ≤ b24 := by rw [hb24]; exact ((From.rfl_.next E21)).size
  have hgb : g ≠ b24 := by have := hgB.lt; omega
  have hArow : ∀ q, 0 < L.length → A.map (·.block) = some q → q < w.heap.size ∨ ∃ cs, Blk w4 q 3 cs := fun q h0 hq => .inl (hA0 q (by rw [hxs, List.length_map]; exact h0) hq)
  refine asp rfl ?_
  refine st_nil (nx_then (cd_seq (cd_region ?_)))
  refine mvs rfl ?_
  refine ass rfl ?_
  refine st_nil (nx_then (cd_seq (cd_seq (cd_region ?_))))
  refine mvi rfl ?_
  refine st_val (ro_subN (a := K) (b := 1) rfl rfl ⟨hK1, by omega⟩) ?_
  refine st_val (ro_conv64 WavMake_s3 WavMake_i78 rfl (by omega)) ?_
  refine st_call WavMake_k48 (len_rt (K - 1) _ (by omega)) ?_
  rintro v29 w5 ⟨rfl, rfl⟩
  refine st_val (ro_sub64 rfl rfl (by show _ ≤ ((nlv K : Nat) : Int) - 1 ∧ ((nlv K : Nat) : Int) - 1 ≤ _; have := nlv_le hK2; omega)) ?_
  refine asi rfl ?_
  refine st_nil (nx_then (cd_block ?_))
  refine cd_loop (G := Nat × Option Addr × Nat × Option Addr × Nat × (Nat → Nat)) [4, 5, 10, 11, 12, 31, 32, 33, 34, 35, 36, 37, 38, 39, 40, 41, 42, 43, 44, 45, 46, 47, 48, 49, 50, 51, 52, 53, 54, 55] (fun (j, A8, c8, _, _, _) => [(8, .slice A8 nn c8), (9, .int .i64 ((nlv K : Nat) - 1 - (j : Nat) : Int))]) (fun (j, A8, c8, AT, cT, vs) w' => j ≤ nlv K ∧ SymR w w' A8 (lvl (nlv K) L j) ∧ Blk w' b24 95 #[.slice AT j cT, .slice (some ⟨g, 0, none⟩) (K + 1) (K + 1), .int .i64 (K : Nat)] ∧ w'.ownsRow w.heap.size 99 3 (.slice AT j cT) j (lvlsV (nlv K) L vs j) ∧ (∀ i, i < j → Vec w' w.heap.size (vs i) ((lvl (nlv K) L i).map (bitN (nlv K - 1 - i)))) ∧ Blk w' g 3 (tab (K + 1) (cntLt L)) ∧ From w w') (fun (j, _, _, _, _, _) => nlv K - j) ((0, A, c, none, 0, fun _ => 0)) ⟨rfl, (int_eq (by show _ = _; simp [nlv])), trivial⟩ ?_ ?_
  · exact ⟨Nat.zero_le _, ⟨hrn.from_ ((From.rfl_.next E21).next E24), hArow⟩, hk24, World.ownsRow_nil _ _ _ _, fun i h => absurd h (by omega), hgB.from_ E24, ((From.rfl_.next E21).next E24)⟩
  rintro ⟨j, A8, c8, AT, cT, vs⟩ ρ6 w6 ⟨hj, hS, hT, ho, hVs, hg2, hB⟩
  refine cd_seq (cd_seq (cd_region ?_))
  refine mvi rfl ?_
  refine st_val (ro_geq rfl rfl) ?_
  refine st_nil (nx_then ?_)
  refine cd_cond rfl (fun Q7 => ?_) (fun Q7 => ?_)
  · with_reducible replace Q7 := of_decide_eq_true Q7
    have hjn : j < nlv K := by omega
    refine cd_skip (nx_then (cd_seq (cd_block (cd_seq (cd_region ?_)))))
    refine mvs rfl ?_
    refine mvi rfl ?_
    refine st_spell (t := 37) (v := .int _ _) (v' := .int .i64 ((nlv K - 1 - j : Nat) : Int)) rfl (by refine int_eq ?_; omega) ?_
    have hB38 : From w w6 := hB
    refine st_call WavMake_k49 (split_n A8 c8 nn (lvl (nlv K) L j) _ (by rw [lvl_len]; exact hnL) (hS.from_ From.rfl_).1 hnl (nlv K - 1 - j) (by have := nlv_le hK2; omega) (fun x hx => by have := hlt x (lvl_mem hx); omega)) ?_
    rintro v38 w8 ⟨⟨v38, A40, c40, rfl, hV38, hn40⟩, E38⟩
    refine mvt rfl ?_
    refine st_val (ro_extract rfl rfl) ?_
    refine st_val (ro_extract rfl rfl) ?_
    refine st_val (ro_extract rfl rfl) ?_
    refine st_alloc WavMake_o99 ?_
    intro b10 w9 E10 hb10 hk10
    have hF10 := E38.next E10
    refine st_putW (vs := [_, _, _]) WavMake_z99 rfl rfl (by simp [Value.oneCell']) (hk10) rfl ?_
    intro w10 O9 P9
    have hF9 : From _ w10 := hF10.only O9 (by rw [hb10]; exact E38.size)
    have hF9n : From _ w10 := E10.only O9 (by rw [hb10]; exact Nat.le_refl _)
    have hTq := hT.from_ hF9
    have hoq := ho.kept_from hF9
    have hVq : ∀ i, i < j → Vec w10 w.heap.size (vs i) ((lvl (nlv K) L i).map (bitN (nlv K - 1 - i))) := fun i hi => (hVs i hi).from_ hF9
    have hg2q := hg2.from_ hF9
    have hVn := (hV38.from_ hF9n).le hB38.size
    replace hn40 := (own_le hn40 hB38.size).kept_from hF9n
    have hBq : From w w10 := hB38.next hF9
    refine ass rfl ?_
    refine asi rfl ?_
    refine st_nil (nx_then (cd_seq (cd_seq (cd_region ?_))))
    refine mvi rfl ?_
    refine st_val (ro_bf (ro_neq rfl rfl) rfl) ?_
    refine st_nil (nx_then ?_)
    refine cd_condF rfl ?_
    refine cd_skip (nx_then (cd_seq ?_))
    apply cd_mu9 10 7 [51] [(45, eqp _), (46, eqp _), (47, eqp _), (48, eqp _), (49, eqp _), (50, eqp (.agg (lvlV v38 (zerosL (nlv K - 1 - j) (lvl (nlv K) L j)).length (nlv K - 1 - j)).toArray)), (51, fun v w' => ∃ q, v = .slice (some ⟨q, 0, none⟩) 1 1 ∧ Blk w' q 99 (lvlV v38 (zerosL (nlv K - 1 - j) (lvl (nlv K) L j)).length (nlv K - 1 - j)).toArray), (52, fun v w' => ∃ A2 c2, v = .slice A2 (j + 1) c2 ∧ w'.ownsRow w.heap.size 99 3 (.slice A2 (j + 1) c2) (j + 1) (lvlsV (nlv K) L vs j ++ (lvlV v38 (zerosL (nlv K - 1 - j) (lvl (nlv K) L j)).length (nlv K - 1 - j)))), (53, eqp _), (54, eqp _)] (fun w' => From w10 w') (fun w' => (w10).grownBy w' (AT.map (·.block))) (by repeat first | exact pq_body | refine pq_then ?_ | refine pq_block ?_) (by kernel_rfl) (by kernel_rfl) (by kernel_rfl) ⟨eqp_mono _, eqp_mono _, eqp_mono _, eqp_mono _, eqp_mono _, eqp_mono _, (fun _ _ _ hF ⟨q, h1, h2⟩ => ⟨q, h1, h2.from_ hF⟩), (fun _ _ _ hF ⟨A2, c2, h1, h2⟩ => ⟨A2, c2, h1, h2.kept_from hF⟩), eqp_mono _, eqp_mono _, trivial⟩ (From.rfl_.d1) (From.rfl_.d1.grown _) (fun _ _ hF h => h.next hF) (fun _ _ hF h => grown_trans h (hF.grown _))
    case hop =>
     refine ⟨?_, ?_⟩
     · rintro - w12 hG12
       show OpOK _ _ _ _ _ _ _
       exact ok_pure (ro_move (v := .pointer _) rfl) rfl
     refine ⟨?_, ?_⟩
     · rintro - w13 hG13
       show OpOK _ _ _ _ _ _ _
       exact ok_pure (ro_move (v := .pointer _) rfl) rfl
     refine ⟨?_, ?_⟩
     · rintro - w14 hG14
       rintro _ rfl
       show OpOK _ _ _ _ _ _ _
       exact ok_pure (ro_nilCheck rfl) rfl
     refine ⟨?_, ?_⟩
     · rintro - w15 D15
       rintro _ rfl
       show OpOK _ _ _ _ _ _ _
       exact ok_pure (ro_fieldAddr WavMake_f95_0 rfl) rfl
     refine ⟨?_, ?_⟩
     · rintro - w16 D16
       rintro _ rfl
       show OpOK _ _ _ _ _ _ _
       exact ok_pure (ro_load WavMake_g93 rfl ((hTq.from_ D16).rd 0 rfl)) rfl
     refine ⟨?_, ?_⟩
     · rintro - w17 D17
       show OpOK _ _ _ _ _ _ _
       exact ok_pure (ro_loadA (cs := (lvlV v38 (zerosL (nlv K - 1 - j) (lvl (nlv K) L j)).length (nlv K - 1 - j))) WavMake_g99 WavMake_z99 rfl ((P9.from_ D17).whole)) rfl
     refine ⟨?_, ?_⟩
     · rintro - w18 D18
       rintro v18_50 rfl
       show OpOK _ _ _ _ _ _ _
       exact ok_val (ro_lit (l := [(0, .tmp 50)]) (cells := (lvlV v38 (zerosL (nlv K - 1 - j) (lvl (nlv K) L j)).length (nlv K - 1 - j)).toArray) WavMake_q93 rfl rfl (fillL _ _ _)) (From.rfl_.new _) ⟨_, rfl, Blk.new _ _ _⟩
     refine ⟨?_, ?_⟩
     · intro h; cases h
     refine ⟨?_, ?_⟩
     · rintro - w20 hG20
       rintro _ rfl
       show OpOK _ _ _ _ _ _ _
       exact ok_pure (ro_nilCheck rfl) rfl
     refine ⟨?_, ?_⟩
     · rintro - w21 hG21
       rintro _ rfl
       show OpOK _ _ _ _ _ _ _
       exact ok_pure (ro_fieldAddr WavMake_f95_0 rfl) rfl
     exact trivial
    case hmu =>
     rintro w22 D22
     rintro _ rfl v22_51 ⟨q22, rfl, hq22⟩
     show MuOK _ _ _ _ _ _ _
     have hoD := hoq.kept_from D22
     have hbz : w.heap.size ≤ (w10).heap.size := hBq.size
     refine mu_append WavMake_q93 rfl (by decide) rfl hoD (Nat.le_trans hbz D22.size) rfl rfl ⟨_, _, rfl, hq22.whole⟩ (by simp [lvlV, Value.oneCell']) (by have := nlv_le hK2; omega) (by have := nlv_le hK2; omega) ?_
     intro A3 c3 w3 ho3 hg3
     exact ⟨grown_trans (D22.grown _) hg3, ⟨A3, c3, rfl, ho3⟩, fun t u ht h => muR_look (by repeat first | exact trivial | refine ⟨.inl rfl, ?_⟩ | refine ⟨.inr (fun _ h => h), ?_⟩) t u ht h⟩
    case hend =>
     rintro w23 hG23
     rintro _ rfl _ rfl _ rfl _ rfl _ rfl v50 rfl v51 _ v52 ⟨A52, c52, rfl, ho52⟩ _ rfl _ rfl
     show St _ _ _ _ _ _ _
     have hgq := hG23
     have hTb2 := hTq.grown hgq (own_off hoq hTq (by decide))
     have hBg : From w _ := hBq.grew hgq (fun k hk => (own_at hoq k hk).1)
     refine st_put (v := .slice _ _ _) WavMake_z93 rfl rfl rfl (hTb2) (by show 0 < 3; decide) ?_
     intro w24 O12 P12
     refine st_nil (nx_then (cd_region ?_))
     refine mvs rfl ?_
     refine ass rfl ?_
     refine st_nil (nx_block (nx_then (cd_region ?_)))
     refine mvi rfl ?_
     refine st_val (ro_sub64 rfl rfl (by have := nlv_le hK2; omega)) ?_
     refine asi rfl ?_
     refine st_nil ?_
     refine nx_cut ((j + 1, A40, c40, A52, c52, fun i => if i = j then v38 else vs i)) ⟨rfl, (by first | rfl | (refine int_eq ?_; omega)), trivial⟩ (by (iterate 62 refine agr_cons rfl ?_); exact agr_rfl) ⟨?_, ?_⟩
     · have hTb := hTq
       refine ⟨by omega, ?_, P12, ?_, fun i hi => ?_, ?_, (hBg.only O12 hg24)⟩
       · exact ((symR_own (w0 := w) hn40).off hoq (Nat.le_refl _) hgq).only O12 hTb2 (by decide) hg24
       · rw [lvls_succ]; exact own_only3 ho52 O12 (own_off ho52 hTb2 (by decide))
       · by_cases hij : i = j
         · subst hij; simp only [if_true]; exact (hVn.off hoq hgq).only O12 hTb2 (by decide) (by decide) (by decide)
         · simp only [if_neg hij]; exact ((hVq i (by omega)).off hoq hgq).only O12 hTb2 (by decide) (by decide) (by decide)
       · exact (hg2q.grown hgq (own_off hoq hg2q (by decide))).only O12 hgb
     · show nlv K - (j + 1) < nlv K - j; omega
  with_reducible replace Q7 := of_decide_eq_false Q7
  refine cd_exit ?_
  refine ex_then (ex_then (ex_block (nx_then (cd_seq (cd_region ?_)))))
  refine mvp rfl ?_
  refine asp rfl ?_
  refine asi rfl ?_
  refine st_nil (nx_then (cd_ret ?_))
  refine res2 (v := .pointer _) (v' := .int _ _) rfl rfl rfl ?_
  obtain rfl : j = nlv K := by omega
  exact ⟨.inr ⟨K, L, b24, rfl, hxs, rfl, hg24, AT, cT, g, vs, hT, ho, hVs, hg0, hg2, hK1, hK2, hlt, by omega⟩, hB⟩
end Go.Proofs.YtllmocjfllbbfaaGreat

namespace Go.Proofs.YtllmocjfllbbfaaGreat
open Go.RowKit
open Go.ChangeShapes Go.WideShapes Go.ChangeAt
open Go.Proofs.YtllmocjfllbbfaaGreat.SA
theorem FmBuild_q52 : litQ Tryz.prog 52 = some (105, 2, 8, (.agg #[.int .i32 0, .int .i32 0])) := by kernel_rfl
theorem FmBuild_f55_2 : fieldQ Tryz.prog 55 2 = some 2 := by kernel_rfl
theorem FmBuild_g52 : aggQ Tryz.prog 52 = some false := by kernel_rfl
theorem FmBuild_b105_0_1 : ∀ (a0 : Int) (a1 : Int), Tryz.prog.built 105 [(0, .int .i32 a0), (1, .int .i32 a1)] = some #[.int .i32 a0, .int .i32 a1] := by intros; kernel_rfl
theorem FmBuild_z52 : sizeQ Tryz.prog 52 = some 1 := by kernel_rfl
theorem FmBuild_f55_3 : fieldQ Tryz.prog 55 3 = some 3 := by kernel_rfl
theorem FmBuild_g53 : aggQ Tryz.prog 53 = some false := by kernel_rfl
theorem FmBuild_e53 : elemQ Tryz.prog 53 = some (21, 1) := by kernel_rfl
theorem FmBuild_z21 : sizeQ Tryz.prog 21 = some 1 := by kernel_rfl
noncomputable def rwJ (L : List Nat) (k j : Nat) : Nat := if rank (L.length + 1) (endT L) (8 * j) < k then rank (L.length + 1) (endT L) (8 * j) else 0
theorem rwJ_zero (L : List Nat) (j : Nat) : rwJ L 0 j = 0 := by unfold rwJ; rw [if_neg (by omega)]
theorem rwJ_all {L : List Nat} {j : Nat} (h : j < L.length / 8 + 1) : rwJ L (L.length + 1) j = rank (L.length + 1) (endT L) (8 * j) := by
  unfold rwJ
  rw [if_pos (rank_lt (by omega))]
theorem rwJ_eq {L F : List Nat} (hS : IsSA L F) {k j : Nat} (hk : k ≤ L.length) (hj : 8 * j ≤ L.length) : rank (L.length + 1) (endT L) (8 * j) = k ↔ 8 * j = rowS L F k := by
  constructor
  · intro e
    rw [← e, rowS_rank hS hj]
  · intro e
    rw [e]
    exact (rank_rowS hS hk).2
theorem rwJ_no {L F : List Nat} (hS : IsSA L F) {k j : Nat} (hk : k ≤ L.length) (hj : j < L.length / 8 + 1) (h : rowS L F k % 8 ≠ 0) : rwJ L (k + 1) j = rwJ L k j := by
  have := rwJ_eq hS hk (show 8 * j ≤ L.length by omega)
  unfold rwJ
  have hne : rank (L.length + 1) (endT L) (8 * j) ≠ k := fun e => by have := this.1 e; omega
  by_cases x : rank (L.length + 1) (endT L) (8 * j) < k
  · rw [if_pos x, if_pos (by omega)]
  · rw [if_neg x, if_neg (by omega)]
theorem rwJ_yes {L F : List Nat} (hS : IsSA L F) {k : Nat} (hk : k ≤ L.length) (h : rowS L F k % 8 = 0) (j : Nat) (hj : j < L.length / 8 + 1) : upd (fun j => ((rwJ L k j : Nat) : Int)) (rowS L F k / 8) ((k : Nat) : Int) j = ((rwJ L (k + 1) j : Nat) : Int) := by
  have := rwJ_eq hS hk (show 8 * j ≤ L.length by omega)
  unfold upd
  split
  · rename_i e
    have e2 := this.2 (by omega)
    unfold rwJ
    rw [e2, if_pos (by omega)]
  · rename_i e
    have hne : rank (L.length + 1) (endT L) (8 * j) ≠ k := fun e2 => by have := this.1 e2; omega
    show ((rwJ L k j : Nat) : Int) = _
    unfold rwJ
    by_cases x : rank (L.length + 1) (endT L) (8 * j) < k
    · rw [if_pos x, if_pos (by omega)]
    · rw [if_neg x, if_neg (by omega)]
section
variable {P : Program} {ops : Array Oper} {Q : Exit → Act → World → Prop} {rest : List Oper} {n : Fr} {L : List (Nat × Value)} {w : World} {ty : TypeId} {pos : String} {after : Array Edge} {d : Nat} {t : TypeId} {x : Operand}
/-- one element of two cells -/
theorem st_lit2 {e by_ : Nat} {z v z0 z1 u0 u1 : Value} (hq : litQ P t = some (e, 2, by_, z)) (hz : z.cells = #[z0, z1]) (hx : ev n L x = v) (hv : v.cells = #[u0, u1])
    (k : ∀ g w', From w w' → g = w.heap.size → Blk w' g e #[u0, u1] → St P ops Q rest n ((d, .slice (some ⟨g, 0, none⟩) 1 1) :: L) w') : St P ops Q (⟨some d, .buildSlice t 1 #[(0, x)], ty, pos, after, none⟩ :: rest) n L w := by
  refine st_lit (l := [(0, x)]) (cells := #[u0, u1]) hq rfl rfl ?_ k
  have e1 : (Array.range (1 * 2)).map (z.cells[· % z.cells.size]!) = #[z0, z1] := by
    rw [hz, show Array.range (1 * 2) = #[0, 1] from rfl]
    simp
  rw [e1]
  simp [Instr.fill, hx, hv]
end
/-- an index, as far as its rows are stored -/
def StAt (w W0 : World) (b tb k a : Nat) (L F : List Nat) : Prop := From W0 w ∧ W0.heap.size ≤ b ∧ ∃ (AS : Option Addr) (cs gr : Nat), W0.heap.size ≤ gr ∧
  Blk w b 55 #[.pointer (some ⟨tb, 0, none⟩), .int .i64 (a : Nat), .slice AS (smp L F k).length cs, .slice (some ⟨gr, 0, none⟩) (L.length / 8 + 1) (L.length / 8 + 1)] ∧
  w.ownsRow W0.heap.size 105 2 (.slice AS (smp L F k).length cs) (smp L F k).length (smpV L F (smp L F k)) ∧
  Blk w gr 21 (tabJ (L.length / 8 + 1) fun j => ((rwJ L k j : Nat) : Int))
theorem smpV_push {L F l : List Nat} {k : Nat} : smpV L F (l ++ [k]) = smpV L F l ++ [jV ((k : Nat) : Int), jV ((rowS L F k : Nat) : Int)] := by simp [smpV]
set_option maxHeartbeats 2000000 in
theorem store_rt (W0 : World) (b tb a k : Nat) (L F : List Nat) (w : World) (hS : IsSA L F) (hk : k ≤ L.length) (hn : L.length ≤ 131072) (h : StAt w W0 b tb k a L F) :
    Rt Tryz.prog 37 [.pointer (some ⟨b, 0, none⟩), .int .i64 (k : Nat), .int .i64 ((rowS L F k : Nat) : Int)] w (fun _ w' => StAt w' W0 b tb (k + 1) a L F) := by
  obtain ⟨hFz, hb0, AS, cs, gr, hg0, hI, ho, hJ⟩ := h
  have hrk := (rank_rowS hS hk).1
  have hsl := smp_le (L := L) (F := F) (k := k)
  refine enter (n := 32) Tryz.func37 rfl rfl rfl ?_
  refine cd_seq (cd_seq (cd_region ?_))
  refine mvi rfl ?_
  refine st_val (ro_remN (b := 8) rfl rfl (by omega)) ?_
  refine st_val (ro_neq rfl rfl) ?_
  refine st_nil (nx_then ?_)
  refine cd_cond rfl (fun Q1 => ?_) (fun Q1 => ?_)
  · with_reducible replace Q1 := bx_t Q1
    refine cd_ret (rt_then ?_)
    refine res0 rfl ?_
    have hno : rowS L F k % 8 ≠ 0 := by omega
    refine ⟨hFz, hb0, AS, cs, gr, hg0, ?_, ?_, ?_⟩
    · rw [smp_no hno]; exact hI
    · rw [smp_no hno]; exact ho
    · rw [tabJ_congr (fun j hj => by rw [rwJ_no hS hk hj hno])]; exact hJ
  with_reducible replace Q1 := bx_f Q1
  refine cd_skip (nx_then (cd_seq (cd_region ?_)))
  refine mvp rfl ?_
  refine mvp rfl ?_
  refine st_val (ro_nilCheck rfl) ?_
  refine st_val (ro_fieldAddr FmBuild_f55_2 rfl) ?_
  refine st_val (ro_load FmBuild_g52 rfl (by exact (hI.from_ From.rfl_).rd 2 rfl)) ?_
  refine mvi rfl ?_
  refine st_val (ro_conv32 (by kernel_rfl) (by kernel_rfl) rfl (by omega)) ?_
  refine mvi rfl ?_
  refine st_val (ro_conv32 (by kernel_rfl) (by kernel_rfl) rfl (by omega)) ?_
  refine st_val (ro_build (l := [(0, .tmp 15), (1, .tmp 17)]) (FmBuild_b105_0_1 _ _)) ?_
  refine st_lit2 FmBuild_q52 rfl rfl rfl ?_
  intro b19 w2 E19 hb19 hk19
  refine st_appendB FmBuild_q52 rfl (by decide) rfl (A := AS) (xs := smpV L F (smp L F k)) (news := [jV ((k : Nat) : Int), jV ((rowS L F k : Nat) : Int)]) (ho.kept_from E19) ((hFz.next E19).size) rfl rfl (fun _ => ⟨b19, 0, rfl, hk19.whole⟩) (fun h => by cases h) (by simp [Value.oneCell']) (by omega) (by omega) ?_
  intro A20 c20 w3 ho20 hg20
  have HF20 := (hFz.next E19).grew hg20 (fun k hk => (own_at ho k hk).1)
  have hI20 := (hI.from_ E19).grown hg20 (own_ne (ho.kept_from E19) (hI.from_ E19) (by decide))
  have hJ20 := (hJ.from_ E19).grown hg20 (own_ne (ho.kept_from E19) (hJ.from_ E19) (by decide))
  refine st_val (ro_nilCheck rfl) ?_
  refine st_val (ro_fieldAddr FmBuild_f55_2 rfl) ?_
  refine st_put (v := .slice _ _ _) FmBuild_z52 rfl rfl rfl (hI20) (by simp) ?_
  intro w4 O1 P1
  have hgb : gr ≠ b := fun e => by subst e; exact absurd (hJ20.symm.trans hI20) (by simp)
  have ho1 := own_only3 ho20 O1 (own_off ho20 hI20 (by decide))
  have hJ1 := hJ20.only O1 hgb
  have hI1 := P1
  have HF1 := HF20.only O1 hb0
  refine st_nil (nx_then (cd_region ?_))
  refine mvp rfl ?_
  refine st_val (ro_nilCheck rfl) ?_
  refine st_val (ro_fieldAddr FmBuild_f55_3 rfl) ?_
  refine st_val (ro_load FmBuild_g53 rfl (by exact hI1.rd 3 rfl)) ?_
  refine mvi rfl ?_
  refine st_val (ro_quoN (b := 8) rfl rfl (by omega)) ?_
  refine mvi rfl ?_
  refine st_val (ro_conv32 (by kernel_rfl) (by kernel_rfl) rfl (by omega)) ?_
  refine st_val (ro_indexAddr0 FmBuild_e53 rfl rfl (by omega)) ?_
  refine st_put (v := .int _ _) FmBuild_z21 rfl rfl rfl (hJ1) (by rw [tabJ_size]; omega) ?_
  intro w5 O2 P2
  refine st_nil ?_
  refine end_ret ?_
  refine res0 rfl ?_
  have hy : rowS L F k % 8 = 0 := by omega
  refine ⟨HF1.only O2 hg0, hb0, A20, c20, gr, hg0, ?_, ?_, ?_⟩
  · rw [smp_yes hy, List.length_append]; exact hI1.only O2 (Ne.symm hgb)
  · rw [smp_yes hy, List.length_append, smpV_push]; exact own_only3 ho1 O2 (own_off ho1 hJ1 (by decide))
  · rw [← tabJ_congr (fun j hj => rwJ_yes hS hk hy j hj), ← tabJ_set]; exact P2
end Go.Proofs.YtllmocjfllbbfaaGreat

namespace Go.Proofs.YtllmocjfllbbfaaGreat
open Go.RowKit
open Go.ChangeShapes Go.WideShapes Go.ChangeAt
open Go.Proofs.YtllmocjfllbbfaaGreat.SA
theorem FmStart_e52 : elemQ Tryz.prog 52 = some (105, 2) := by kernel_rfl
theorem FmStart_f55_2 : fieldQ Tryz.prog 55 2 = some 2 := by kernel_rfl
theorem FmStart_g52 : aggQ Tryz.prog 52 = some false := by kernel_rfl
theorem FmStart_k57 : callable Tryz.prog 57 = true := by kernel_rfl
theorem FmStart_f105_1 : fieldQ Tryz.prog 105 1 = some 1 := by kernel_rfl
theorem FmStart_g21 : aggQ Tryz.prog 21 = some false := by kernel_rfl
theorem FmStart_s21 : (Tryz.prog.underlying 21).isSome = true := by kernel_rfl
theorem FmStart_i3 : Tryz.prog.underlying 3 = some (.int .i64) := by kernel_rfl
theorem FmStart_k59 : callable Tryz.prog 59 = true := by kernel_rfl
theorem not_smp {L F : List Nat} {n i r : Nat} {fd : Bool} (hi : i ≤ (smp L F (n + 1)).length) (hlo : ∀ x, x < i → (smp L F (n + 1)).getD x 0 < r) (hhi : ∀ x, i ≤ x → x < (smp L F (n + 1)).length → r ≤ (smp L F (n + 1)).getD x 0) (hfd : fd = true ↔ i < (smp L F (n + 1)).length ∧ (smp L F (n + 1)).getD i 0 = r) (hf : fd = false) (hr : r ≤ n) : rowS L F r % 8 ≠ 0 := fun h => by
  have := hfd.2 (smp_find hi hlo hhi (by omega) h)
  rw [hf] at this
  cases this
set_option maxHeartbeats 2000000 in
theorem start_rt (base b K a : Nat) (L B F : List Nat) (w : World) (hf : FmAt w base b K a L B F) (r : Nat) (hr : r ≤ L.length) :
    Rt Tryz.prog 39 [.pointer (some ⟨b, 0, none⟩), .int .i64 (r : Nat)] w (fun v w' => v = .int .i64 ((rowS L F r : Nat) : Int) ∧ From w w') := by
  have hff := hf
  obtain ⟨hb0, hSA, hbw, hLn, hK, tb, AS, cs, gr, hI, hT, ho, hR, hgr⟩ := hf
  have hsm := smp_le (L := L) (F := F) (k := L.length + 1)
  have hrS := (rank_rowS hSA hr).1
  refine enter (n := 39) Tryz.func39 rfl rfl rfl ?_
  refine cd_seq (cd_region ?_)
  refine asi rfl ?_
  refine st_nil (nx_then (cd_seq (cd_seq (cd_region ?_))))
  refine mvi rfl ?_
  refine st_nil (nx_then (cd_block ?_))
  refine cd_loop (G := Nat × Nat) [4, 5, 6, 7, 9, 10, 11, 12, 13, 14, 15, 16, 17, 18, 19, 20, 21, 22, 23, 24, 25, 26, 27, 28, 29, 30, 31, 32, 33, 34, 35, 36, 37, 38] (fun (q, k) => [(1, .int .i64 (q : Nat)), (8, .int .i64 (k : Nat))]) (fun (q, k) w' => k ≤ 8 ∧ q ≤ L.length ∧ rowS L F q + k = rowS L F r ∧ k ≤ rowS L F r % 8 ∧ From w w') (fun (_, k) => 8 - k) ((r, 0)) ⟨rfl, rfl, trivial⟩ ?_ ?_
  · exact ⟨by omega, hr, by omega, by omega, From.rfl_⟩
  rintro ⟨q, k⟩ ρ1 w1 ⟨hk, hq, hS, hk8, hB⟩
  refine cd_seq (cd_region ?_)
  refine st_val (ro_lss rfl rfl) ?_
  refine st_nil (nx_then (cd_seq ?_))
  refine cd_cond rfl (fun Q2 => ?_) (fun Q2 => ?_)
  rotate_left
  · with_reducible replace Q2 := of_decide_eq_false Q2
    exfalso; omega
  with_reducible replace Q2 := of_decide_eq_true Q2
  refine cd_skip (nx_then (cd_seq (cd_block (cd_seq (cd_region ?_)))))
  refine mvi rfl ?_
  refine asi rfl ?_
  refine st_nil (nx_then (cd_seq (cd_region ?_)))
  refine mvp rfl ?_
  refine st_val (ro_nilCheck rfl) ?_
  refine st_val (ro_fieldAddr FmStart_f55_2 rfl) ?_
  refine st_val (ro_load FmStart_g52 rfl (by exact (hI.from_ hB).rd 2 rfl)) ?_
  refine mvi rfl ?_
  refine st_call FmStart_k57 (bsearch_rt base AS cs (smp L F (L.length + 1)).length q L F (smp L F (L.length + 1)) _ (ho.kept_from hB) rfl (by omega) (by omega) (fun i hi => by have := (smp_get hi).1; omega) (fun i j hij hj => smp_lt hij hj)) ?_
  rintro v17 w3 ⟨⟨i, fd, rfl, hi, hlo, hhi, hfd⟩, E17⟩
  refine mvt rfl ?_
  refine st_val (ro_extract rfl rfl) ?_
  refine st_val (ro_extract rfl rfl) ?_
  refine asi rfl ?_
  refine asb rfl ?_
  refine st_nil (nx_then (cd_seq (cd_seq (cd_region ?_))))
  refine mvb rfl ?_
  refine st_nil (nx_then ?_)
  refine cd_cond rfl (fun Q4 => ?_) (fun Q4 => ?_)
  · obtain ⟨hi1, hi2⟩ := hfd.1 (by simpa using Q4)
    have hi3 := congrArg (rowS L F) hi2
    obtain ⟨g, rfl, hrg⟩ := smp_range ho rfl (by omega)
    refine cd_seq (cd_region ?_)
    refine mvp rfl ?_
    refine st_val (ro_nilCheck rfl) ?_
    refine st_val (ro_fieldAddr FmStart_f55_2 rfl) ?_
    refine st_val (ro_load FmStart_g52 rfl (by exact (hI.from_ (hB.next E17)).rd 2 rfl)) ?_
    refine mvi rfl ?_
    refine st_val (ro_indexAddrN FmStart_e52 rfl rfl (by omega)) ?_
    refine st_val (ro_fieldAddr FmStart_f105_1 rfl) ?_
    refine st_val (ro_load FmStart_g21 rfl (by rw [Nat.zero_add]; exact cellF (hB.next E17) ((hrg i hi1) 1 _ rfl))) ?_
    refine st_val (ro_convI FmStart_s21 FmStart_i3 rfl (by omega)) ?_
    refine mvi rfl ?_
    refine st_val (ro_addN rfl rfl (by omega)) ?_
    refine asi rfl ?_
    refine st_nil (nx_then (cd_ret (rt_then (rt_block (rt_then (rt_then (rt_block (rt_then ?_))))))))
    refine res1 (v := .int _ _) rfl rfl ?_
    exact ⟨int_eq (by rw [hi2]; omega), (hB.next E17)⟩
  have hns := not_smp hi hlo hhi hfd (by simpa using Q4) hq
  have hqa : q ≠ a := fun e => by rw [e, rowS_at hSA hbw] at hns; exact hns rfl
  have hlf := rowS_lf hSA hbw hq hqa
  refine cd_skip (nx_then (cd_region ?_))
  refine mvp rfl ?_
  refine mvi rfl ?_
  refine st_call FmStart_k59 (fmAhead_rt base b K a L B F _ (hff.from_ (hB.next E17)) q hq hqa) ?_
  rintro v35 w5 ⟨rfl, E35⟩
  refine mvt rfl ?_
  refine st_val (ro_extract rfl rfl) ?_
  refine st_val (ro_extract rfl rfl) ?_
  refine asi rfl ?_
  refine st_nil (nx_block (nx_then (cd_region ?_)))
  refine st_val (ro_addN (b := 1) rfl rfl (by omega)) ?_
  refine mvi rfl ?_
  refine st_nil ?_
  refine nx_cut ((lf L.length (fun i => B.getD i 0) a q, k + 1)) ⟨(by first | rfl | (refine int_eq ?_; omega)), (by first | rfl | (refine int_eq ?_; omega)), trivial⟩ (by (iterate 60 refine agr_cons rfl ?_); exact agr_rfl) ⟨?_, ?_⟩
  · exact ⟨by omega, hlf.1, by omega, by omega, ((hB.next E17).next E35)⟩
  · show 8 - (k + 1) < 8 - k; omega
end Go.Proofs.YtllmocjfllbbfaaGreat
