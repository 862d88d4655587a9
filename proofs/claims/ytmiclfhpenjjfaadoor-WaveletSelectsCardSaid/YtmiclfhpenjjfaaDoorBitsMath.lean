/- Bits of words, how many there are, and ranks in a list of bits; pure. -/
import Derived.Test.YtmiclfhpenjjfaaDoorFast8
namespace Go.Proofs.YtmiclfhpenjjfaaDoor
/-- how many of f 0 .. f (n - 1) hold -/
def cntB (f : Nat → Bool) : Nat → Nat
  | 0 => 0
  | n + 1 => cntB f n + (f n).toNat
theorem cntB_congr {f g : Nat → Bool} : ∀ {n : Nat}, (∀ i, i < n → f i = g i) → cntB f n = cntB g n
  | 0, _ => rfl
  | n + 1, h => by
    show cntB f n + (f n).toNat = cntB g n + (g n).toNat
    rw [cntB_congr fun i hi => h i (Nat.lt_succ_of_lt hi), h n (Nat.lt_succ_self n)]
theorem cntB_add (f : Nat → Bool) (m : Nat) : ∀ k, cntB f (m + k) = cntB f m + cntB (fun i => f (m + i)) k
  | 0 => rfl
  | k + 1 => by
    show cntB f (m + k) + (f (m + k)).toNat = cntB f m + (cntB (fun i => f (m + i)) k + (f (m + k)).toNat)
    rw [cntB_add f m k, Nat.add_assoc]
theorem cntB_false (n : Nat) : cntB (fun _ => false) n = 0 := by
  induction n with
  | zero => rfl
  | succ n ih => show cntB _ n + 0 = 0; rw [ih]
theorem cntB_le (f : Nat → Bool) : ∀ n, cntB f n ≤ n
  | 0 => Nat.le_refl _
  | n + 1 => by
    have := cntB_le f n
    show cntB f n + (f n).toNat ≤ n + 1
    have : (f n).toNat ≤ 1 := Bool.toNat_le _
    omega
theorem cntB_mono (f : Nat → Bool) {m n : Nat} (h : m ≤ n) : cntB f m ≤ cntB f n := by
  obtain ⟨k, rfl⟩ := Nat.exists_eq_add_of_le h
  rw [cntB_add]
  exact Nat.le_add_right _ _
/-- the bits of a word -/
def pop (x n : Nat) : Nat := cntB x.testBit n
theorem pop_split (x n : Nat) : pop x (8 + n) = pop (x % 256) 8 + pop (x / 256) n := by
  unfold pop
  rw [cntB_add]
  congr 1
  · exact cntB_congr fun i hi => by rw [show (256 : Nat) = 2 ^ 8 from rfl, Nat.testBit_mod_two_pow]; simp [hi]
  · exact cntB_congr fun i hi => by
      rw [show (256 : Nat) = 2 ^ 8 from rfl, ← Nat.shiftRight_eq_div_pow, Nat.testBit_shiftRight]
theorem and_split (a y c d : Nat) (ha : a < 256) (hc : c < 256) : (a + 256 * y) &&& (c + 256 * d) = (a &&& c) + 256 * (y &&& d) := by
  have h1 : ((a + 256 * y) &&& (c + 256 * d)) % 2 ^ 8 = a &&& c := by
    rw [Nat.and_mod_two_pow]
    congr 1 <;> omega
  have h2 : ((a + 256 * y) &&& (c + 256 * d)) / 2 ^ 8 = y &&& d := by
    rw [Nat.and_div_two_pow]
    congr 1 <;> omega
  have h3 := Nat.div_add_mod ((a + 256 * y) &&& (c + 256 * d)) (2 ^ 8)
  rw [h1, h2] at h3
  omega
def msk (c : Nat) : Nat → Nat
  | 0 => 0
  | n + 1 => c + 256 * msk c n
def q1 (n x : Nat) : Nat := (x / 2 &&& msk 85 n) + (x &&& msk 85 n)
def q2 (n x : Nat) : Nat := (x / 4 &&& msk 51 n) + (x &&& msk 51 n)
def q3 (n x : Nat) : Nat := (x / 16 + x) &&& msk 15 n
def b1 (b : Nat) : Nat := (b / 2 &&& 85) + (b &&& 85)
def b2 (b : Nat) : Nat := (b / 4 &&& 51) + (b &&& 51)
def b3 (b : Nat) : Nat := (b / 16 + b) &&& 15
def allB (p : Nat → Bool) : Nat → Bool
  | 0 => true
  | n + 1 => allB p n && p n
theorem allB_at {p : Nat → Bool} : ∀ {n : Nat}, allB p n = true → ∀ i, i < n → p i = true
  | 0, _, i, h => by omega
  | n + 1, h, i, hi => by
    have h' : (allB p n && p n) = true := h
    rw [Bool.and_eq_true] at h'
    rcases Nat.eq_or_lt_of_le (Nat.le_of_lt_succ hi) with e | e
    · subst e; exact h'.2
    · exact allB_at h'.1 i e
set_option maxRecDepth 100000 in
theorem b1_hi : allB (fun b => allB (fun y => ((b / 2 + 128 * y) &&& 85) == (b / 2 &&& 85)) 2) 256 = true := by decide +kernel
set_option maxRecDepth 100000 in
theorem b2_hi : allB (fun b => allB (fun y => ((b / 4 + 64 * y) &&& 51) == (b / 4 &&& 51)) 4) 256 = true := by decide +kernel
set_option maxRecDepth 100000 in
theorem b1_lt : allB (fun b => decide (b1 b < 256)) 256 = true := by decide +kernel
set_option maxRecDepth 100000 in
theorem b2_lt : allB (fun b => decide (b2 (b1 b) ≤ 68) && decide (b2 (b1 b) % 16 ≤ 4)) 256 = true := by decide +kernel
set_option maxRecDepth 100000 in
theorem b3_hi : allB (fun b => allB (fun y => ((b / 16 + 16 * y + b) &&& 15) == b3 b) 5) 69 = true := by decide +kernel
set_option maxRecDepth 100000 in
theorem b3_pop : allB (fun b => b3 (b2 (b1 b)) == pop b 8) 256 = true := by decide +kernel
def sp : Nat → Nat → Nat
  | 0, _ => 0
  | n + 1, x => pop (x % 256) 8 + 256 * sp n (x / 256)
theorem q1_step (n b y : Nat) (hb : b < 256) : q1 (n + 1) (b + 256 * y) = b1 b + 256 * q1 n y := by
  unfold q1
  show ((b + 256 * y) / 2 &&& (85 + 256 * msk 85 n)) + ((b + 256 * y) &&& (85 + 256 * msk 85 n)) = _
  have e : (b + 256 * y) / 2 = (b / 2 + 128 * (y % 2)) + 256 * (y / 2) := by omega
  rw [e, and_split _ _ _ _ (by omega) (by omega), and_split _ _ _ _ hb (by omega), eq_of_beq (allB_at (allB_at b1_hi b hb) (y % 2) (by omega))]
  unfold b1
  omega
theorem q2_step (n b y : Nat) (hb : b < 256) : q2 (n + 1) (b + 256 * y) = b2 b + 256 * q2 n y := by
  unfold q2
  show ((b + 256 * y) / 4 &&& (51 + 256 * msk 51 n)) + ((b + 256 * y) &&& (51 + 256 * msk 51 n)) = _
  have e : (b + 256 * y) / 4 = (b / 4 + 64 * (y % 4)) + 256 * (y / 4) := by omega
  rw [e, and_split _ _ _ _ (by omega) (by omega), and_split _ _ _ _ hb (by omega), eq_of_beq (allB_at (allB_at b2_hi b hb) (y % 4) (by omega))]
  unfold b2
  omega
theorem q3_step (n b y : Nat) (hb : b ≤ 68) (hy : y % 16 ≤ 4) : q3 (n + 1) (b + 256 * y) = b3 b + 256 * q3 n y := by
  unfold q3
  show ((b + 256 * y) / 16 + (b + 256 * y) &&& (15 + 256 * msk 15 n)) = _
  have e : (b + 256 * y) / 16 + (b + 256 * y) = (b / 16 + 16 * (y % 16) + b) + 256 * (y / 16 + y) := by omega
  rw [e, and_split _ _ _ _ (by omega) (by omega), eq_of_beq (allB_at (allB_at b3_hi b (by omega)) (y % 16) (by omega))]
theorem q_all : ∀ (n x : Nat), x < 256 ^ n → q2 n (q1 n x) % 16 ≤ 4 ∧ q3 n (q2 n (q1 n x)) = sp n x
  | 0, x, h => by
    have : x = 0 := by simp at h; omega
    subst this
    exact ⟨by decide, by decide⟩
  | n + 1, x, h => by
    have hx : x = x % 256 + 256 * (x / 256) := by omega
    have hb : x % 256 < 256 := by omega
    have hy : x / 256 < 256 ^ n := by rw [Nat.pow_succ] at h; omega
    obtain ⟨h1, h2⟩ := q_all n (x / 256) hy
    have k1 := of_decide_eq_true (allB_at b1_lt _ hb)
    have k2 := allB_at b2_lt _ hb
    simp only [Bool.and_eq_true, decide_eq_true_eq] at k2
    have k3 := eq_of_beq (allB_at b3_pop _ hb)
    have e : q2 (n + 1) (q1 (n + 1) x) = b2 (b1 (x % 256)) + 256 * q2 n (q1 n (x / 256)) := by
      conv => lhs; rw [hx]
      rw [q1_step n _ _ hb, q2_step n _ _ k1]
    rw [e]
    refine ⟨by omega, ?_⟩
    rw [q3_step n _ _ k2.1 h1, h2, k3]
    rfl
theorem pop_le (x n : Nat) : pop x n ≤ n := cntB_le _ _
theorem dv (K r q : Nat) (h : r < K) : (r + K * q) / K = q := by
  rw [Nat.add_mul_div_left _ _ (by omega), Nat.div_eq_of_lt h, Nat.zero_add]
theorem swar (v0 v1 v2 v3 v4 v5 v6 v7 : Nat) (p0 : v0 ≤ 8) (p1 : v1 ≤ 8) (p2 : v2 ≤ 8) (p3 : v3 ≤ 8) (p4 : v4 ≤ 8) (p5 : v5 ≤ 8) (p6 : v6 ≤ 8) (p7 : v7 ≤ 8)
    (a b c d : Nat) (ha : a = v0 + 256 * (v1 + 256 * (v2 + 256 * (v3 + 256 * (v4 + 256 * (v5 + 256 * (v6 + 256 * (v7 + 256 * 0)))))))) (hb : b = a + a / 256) (hc : c = b + b / 65536) (hd : d = c + c / 4294967296) :
    d % 128 = v0 + (v1 + (v2 + (v3 + (v4 + (v5 + (v6 + (v7 + 0))))))) := by
  have ea : a / 256 = v1 + 256 * (v2 + 256 * (v3 + 256 * (v4 + 256 * (v5 + 256 * (v6 + 256 * v7))))) := by
    rw [show a = v0 + 256 * (v1 + 256 * (v2 + 256 * (v3 + 256 * (v4 + 256 * (v5 + 256 * (v6 + 256 * v7)))))) by omega]
    exact dv _ _ _ (by omega)
  have eb : b = (v0 + v1) + 256 * ((v1 + v2) + 256 * ((v2 + v3) + 256 * ((v3 + v4) + 256 * ((v4 + v5) + 256 * ((v5 + v6) + 256 * ((v6 + v7) + 256 * v7)))))) := by
    rw [hb, ea, ha]; omega
  have eb2 : b / 65536 = (v2 + v3) + 256 * ((v3 + v4) + 256 * ((v4 + v5) + 256 * ((v5 + v6) + 256 * ((v6 + v7) + 256 * v7)))) := by
    rw [show b = ((v0 + v1) + 256 * (v1 + v2)) + 65536 * ((v2 + v3) + 256 * ((v3 + v4) + 256 * ((v4 + v5) + 256 * ((v5 + v6) + 256 * ((v6 + v7) + 256 * v7))))) by rw [eb]; omega]
    exact dv _ _ _ (by omega)
  have ec : c = ((v0 + v1 + v2 + v3) + 256 * (v1 + v2 + v3 + v4) + 65536 * (v2 + v3 + v4 + v5) + 16777216 * (v3 + v4 + v5 + v6)) + 4294967296 * ((v4 + v5 + v6 + v7) + 256 * ((v5 + v6 + v7) + 256 * ((v6 + v7) + 256 * v7))) := by
    rw [hc, eb2, eb]; omega
  have ec2 : c / 4294967296 = (v4 + v5 + v6 + v7) + 256 * ((v5 + v6 + v7) + 256 * ((v6 + v7) + 256 * v7)) := by
    rw [ec]
    exact dv _ _ _ (by omega)
  have ed : d = (v0 + v1 + v2 + v3 + v4 + v5 + v6 + v7) + 128 * (2 * (v1 + v2 + v3 + v4 + v5 + v6 + v7) + 512 * (v2 + v3 + v4 + v5 + v6 + v7) + 131072 * (v3 + v4 + v5 + v6 + v7) + 33554432 * ((v4 + v5 + v6 + v7) + 256 * ((v5 + v6 + v7) + 256 * ((v6 + v7) + 256 * v7)))) := by
    rw [hd, ec2, ec]; clear hd hc hb ha ea eb eb2 ec ec2 p0 p1 p2 p3 p4 p5 p6 p7; omega
  rw [ed]
  clear hd hc hb ha ea eb eb2 ec ec2 ed
  rw [Nat.add_mul_mod_self_left, Nat.mod_eq_of_lt (by omega)]
  omega
/-- the bits of a word, as the library counts them -/
def ones (x : Nat) : Nat :=
  let a := q3 8 (q2 8 (q1 8 x))
  let b := a + a / 256
  let c := b + b / 65536
  let d := c + c / 4294967296
  d % 128
theorem ones_pop {x : Nat} (h : x < 2 ^ 64) : ones x = pop x 64 := by
  have h2 := (q_all 8 x (by simpa using h)).2
  unfold ones
  rw [h2]
  have e : pop x 64 = pop (x % 256) 8 + (pop (x / 256 % 256) 8 + (pop (x / 256 / 256 % 256) 8 + (pop (x / 256 / 256 / 256 % 256) 8 + (pop (x / 256 / 256 / 256 / 256 % 256) 8 + (pop (x / 256 / 256 / 256 / 256 / 256 % 256) 8 + (pop (x / 256 / 256 / 256 / 256 / 256 / 256 % 256) 8 + (pop (x / 256 / 256 / 256 / 256 / 256 / 256 / 256 % 256) 8 + pop (x / 256 / 256 / 256 / 256 / 256 / 256 / 256 / 256) 0))))))) := by
    rw [show 64 = 8 + 56 from rfl, pop_split, show 56 = 8 + 48 from rfl, pop_split, show 48 = 8 + 40 from rfl, pop_split, show 40 = 8 + 32 from rfl, pop_split, show 32 = 8 + 24 from rfl, pop_split,
      show 24 = 8 + 16 from rfl, pop_split, show 16 = 8 + 8 from rfl, pop_split, show pop (x / 256 / 256 / 256 / 256 / 256 / 256 / 256) 8 = pop (x / 256 / 256 / 256 / 256 / 256 / 256 / 256) (8 + 0) from rfl, pop_split]
  rw [e]
  have p0 := pop_le (x % 256) 8
  have p1 := pop_le (x / 256 % 256) 8
  have p2 := pop_le (x / 256 / 256 % 256) 8
  have p3 := pop_le (x / 256 / 256 / 256 % 256) 8
  have p4 := pop_le (x / 256 / 256 / 256 / 256 % 256) 8
  have p5 := pop_le (x / 256 / 256 / 256 / 256 / 256 % 256) 8
  have p6 := pop_le (x / 256 / 256 / 256 / 256 / 256 / 256 % 256) 8
  have p7 := pop_le (x / 256 / 256 / 256 / 256 / 256 / 256 / 256 % 256) 8
  show (let a := pop (x % 256) 8 + 256 * (pop (x / 256 % 256) 8 + 256 * (pop (x / 256 / 256 % 256) 8 + 256 * (pop (x / 256 / 256 / 256 % 256) 8 + 256 * (pop (x / 256 / 256 / 256 / 256 % 256) 8 + 256 * (pop (x / 256 / 256 / 256 / 256 / 256 % 256) 8 + 256 * (pop (x / 256 / 256 / 256 / 256 / 256 / 256 % 256) 8 + 256 * (pop (x / 256 / 256 / 256 / 256 / 256 / 256 / 256 % 256) 8 + 256 * 0)))))));
    let b := a + a / 256; let c := b + b / 65536; let d := c + c / 4294967296; d % 128) = _
  have p8 : pop (x / 256 / 256 / 256 / 256 / 256 / 256 / 256 / 256) 0 = 0 := rfl
  rw [p8]
  generalize pop (x % 256) 8 = v0 at *
  generalize pop (x / 256 % 256) 8 = v1 at *
  generalize pop (x / 256 / 256 % 256) 8 = v2 at *
  generalize pop (x / 256 / 256 / 256 % 256) 8 = v3 at *
  generalize pop (x / 256 / 256 / 256 / 256 % 256) 8 = v4 at *
  generalize pop (x / 256 / 256 / 256 / 256 / 256 % 256) 8 = v5 at *
  generalize pop (x / 256 / 256 / 256 / 256 / 256 / 256 % 256) 8 = v6 at *
  generalize pop (x / 256 / 256 / 256 / 256 / 256 / 256 / 256 % 256) 8 = v7 at *
  clear h h2 e
  exact swar v0 v1 v2 v3 v4 v5 v6 v7 p0 p1 p2 p3 p4 p5 p6 p7 _ _ _ _ rfl rfl rfl rfl
/-! ### words of a list of bits; ranks -/
def bt (l : List Bool) (k : Nat) : Bool := l.getD k false
theorem bt_past {l : List Bool} {k : Nat} (h : l.length ≤ k) : bt l k = false := by
  unfold bt
  rw [List.getD_eq_getElem?_getD, List.getElem?_eq_none h]
  rfl
theorem bt_at {l : List Bool} {k : Nat} (h : k < l.length) : bt l k = l[k] := by
  unfold bt
  rw [List.getD_eq_getElem?_getD, List.getElem?_eq_getElem h]
  rfl
def rk (l : List Bool) (i : Nat) : Nat := cntB (bt l) i
theorem rk_le (l : List Bool) (i : Nat) : rk l i ≤ i := cntB_le _ _
theorem rk_mono (l : List Bool) {i j : Nat} (h : i ≤ j) : rk l i ≤ rk l j := cntB_mono _ h
theorem rk_succ (l : List Bool) (i : Nat) : rk l (i + 1) = rk l i + (bt l i).toNat := rfl
theorem rk_past {l : List Bool} {i : Nat} (h : l.length ≤ i) : rk l i = rk l l.length := by
  obtain ⟨k, rfl⟩ := Nat.exists_eq_add_of_le h
  unfold rk
  rw [cntB_add, show cntB (fun i => bt l (l.length + i)) k = cntB (fun _ => false) k from cntB_congr fun i _ => bt_past (by omega), cntB_false, Nat.add_zero]
/-- these words hold the first k bits -/
structure WP (ws : List Nat) (l : List Bool) (k : Nat) : Prop where
  len : ws.length = (l.length + 63) / 64
  lt : ∀ x ∈ ws, x < 2 ^ 64
  bit : ∀ j (h : j < ws.length) i, i < 64 → ws[j].testBit i = (decide (64 * j + i < k) && bt l (64 * j + i))
theorem WP.zero (l : List Bool) : WP (List.replicate ((l.length + 63) / 64) 0) l 0 := by
  refine ⟨by simp, fun x hx => ?_, fun j h i hi => ?_⟩
  · rw [List.eq_of_mem_replicate hx]; decide
  · simp
theorem WP.skip {ws : List Nat} {l : List Bool} {k : Nat} (h : WP ws l k) (hb : bt l k = false) : WP ws l (k + 1) := by
  refine ⟨h.len, h.lt, fun j hj i hi => ?_⟩
  rw [h.bit j hj i hi]
  by_cases e : 64 * j + i = k
  · rw [e, hb]; simp
  · congr 1
    exact decide_eq_decide.2 (by omega)
theorem WP.put {ws : List Nat} {l : List Bool} {k : Nat} (h : WP ws l k) (hb : bt l k = true) (hk : k / 64 < ws.length) : WP (ws.set (k / 64) (ws[k / 64] ||| 1 * 2 ^ (k % 64) % 2 ^ 64)) l (k + 1) := by
  have hlt : ws[k / 64] ||| 1 * 2 ^ (k % 64) % 2 ^ 64 < 2 ^ 64 := Nat.or_lt_two_pow (h.lt _ (List.getElem_mem hk)) (Nat.mod_lt _ (by decide))
  refine ⟨by rw [List.length_set]; exact h.len, fun x hx => ?_, fun j hj i hi => ?_⟩
  · rcases List.mem_or_eq_of_mem_set hx with hx | rfl
    · exact h.lt x hx
    · exact hlt
  · rw [List.length_set] at hj
    have hk6 : k % 64 < 64 := Nat.mod_lt _ (by decide)
    by_cases e : j = k / 64
    · subst e
      rw [List.getElem_set_self, Nat.testBit_or, h.bit _ hj i hi, Nat.testBit_mod_two_pow, Nat.one_mul, Nat.testBit_two_pow]
      by_cases e2 : 64 * (k / 64) + i = k
      · rw [e2, hb]
        have : k % 64 = i := by omega
        simp [this, hi]
      · have h3 : ¬ k % 64 = i := by omega
        simp only [h3, decide_false, Bool.and_false, Bool.or_false]
        congr 1
        exact decide_eq_decide.2 (by omega)
    · rw [List.getElem_set_ne (fun e' => e e'.symm), h.bit j hj i hi]
      congr 1
      exact decide_eq_decide.2 (by omega)
theorem WP.bits {ws : List Nat} {l : List Bool} (h : WP ws l l.length) {j : Nat} (hj : j < ws.length) {i : Nat} (hi : i < 64) : ws[j].testBit i = bt l (64 * j + i) := by
  rw [h.bit j hj i hi]
  by_cases e : 64 * j + i < l.length
  · simp [e]
  · rw [bt_past (by omega)]; simp
theorem WP.rank {ws : List Nat} {l : List Bool} (h : WP ws l l.length) {j r : Nat} (hj : j < ws.length) (hr : r ≤ 64) : rk l (64 * j + r) = rk l (64 * j) + pop ws[j] r := by
  unfold rk pop
  rw [cntB_add]
  congr 1
  exact cntB_congr fun i hi => (h.bits hj (by omega)).symm
theorem pop_mod (x r : Nat) (hr : r ≤ 64) : pop (x % 2 ^ r) 64 = pop x r := by
  unfold pop
  rw [show 64 = r + (64 - r) by omega, cntB_add, show cntB (fun i => (x % 2 ^ r).testBit (r + i)) (64 - r) = cntB (fun _ => false) (64 - r) from cntB_congr fun i _ => by rw [Nat.testBit_mod_two_pow, decide_eq_false (show ¬ r + i < r by omega), Bool.false_and], cntB_false, Nat.add_zero]
  exact cntB_congr fun i hi => by rw [Nat.testBit_mod_two_pow]; simp [hi]
theorem pop_and (x r : Nat) (hr : r ≤ 64) : pop (x &&& (2 ^ r - 1)) 64 = pop x r := by
  rw [Nat.and_two_pow_sub_one_eq_mod, pop_mod x r hr]
theorem one_shl (r : Nat) (hr : r < 64) : 1 * 2 ^ r % 2 ^ 64 = 2 ^ r := by
  rw [Nat.one_mul, Nat.mod_eq_of_lt (Nat.pow_lt_pow_right (by decide) hr)]
theorem WP.rankm {ws : List Nat} {l : List Bool} (h : WP ws l l.length) {i : Nat} (hj : i / 64 < ws.length) : rk l i = rk l (64 * (i / 64)) + pop (ws[i / 64] &&& (1 * 2 ^ (i % 64) % 2 ^ 64 - 1)) 64 := by
  rw [one_shl _ (by omega), pop_and _ _ (by omega), ← h.rank hj (by omega), Nat.div_add_mod]
theorem WP.rankw {ws : List Nat} {l : List Bool} (h : WP ws l l.length) {j : Nat} (hj : j < ws.length) : rk l (64 * (j + 1)) = rk l (64 * j) + pop ws[j] 64 := by
  rw [← h.rank hj (Nat.le_refl _), Nat.mul_succ]
theorem q1_eq (x : Nat) : q1 8 x = (x / 2 ^ 1 &&& 6148914691236517205) + (x &&& 6148914691236517205) := rfl
theorem q2_eq (x : Nat) : q2 8 x = (x / 2 ^ 2 &&& 3689348814741910323) + (x &&& 3689348814741910323) := rfl
theorem q3_eq (x : Nat) : q3 8 x = (x / 2 ^ 4 + x) &&& 1085102592571150095 := rfl
theorem and_le2 (a b m : Nat) : (a &&& m) + (b &&& m) ≤ 2 * m := by
  have h1 : a &&& m ≤ m := Nat.and_le_right
  have h2 : b &&& m ≤ m := Nat.and_le_right
  omega

end Go.Proofs.YtmiclfhpenjjfaaDoor
