/- Packed integers as bytes: what the bytes are, bit by bit; pure. -/
import Derived.Test.YtgnmmifolhoaeaaIntsBytes
namespace Go.Proofs.Ytgnmmifolhoaeaa

/-- these bytes hold the first p bits of these numbers, and nothing else -/
def PBp (bs : List Nat) (W : Nat) (l : List Nat) (p : Nat) : Prop := (∀ x ∈ bs, x < 256) ∧ ∀ t, bitAt 8 bs t = if t < p then bitAt W l t else false
theorem bitAt_past {s : Nat} {l : List Nat} {k : Nat} (h : l.length ≤ k / s) : bitAt s l k = false := by
  unfold bitAt
  rw [List.getD_eq_getElem?_getD, List.getElem?_eq_none h]
  simp
theorem bitAt_in {s : Nat} {l : List Nat} {k : Nat} (h : k / s < l.length) : bitAt s l k = l[k / s].testBit (k % s) := by
  unfold bitAt
  rw [List.getD_eq_getElem?_getD, List.getElem?_eq_getElem h]
  rfl
theorem bitAt_mk {s : Nat} {l : List Nat} {i j : Nat} (hj : j < s) (hi : i < l.length) : bitAt s l (i * s + j) = l[i].testBit j := by
  have e1 : (i * s + j) / s = i := by rw [Nat.mul_comm, Nat.mul_add_div (by omega), Nat.div_eq_of_lt hj, Nat.add_zero]
  have e2 : (i * s + j) % s = j := by rw [Nat.mul_comm, Nat.mul_add_mod, Nat.mod_eq_of_lt hj]
  rw [bitAt_in (by rw [e1]; exact hi)]
  simp only [e1, e2]
theorem pbp_zero (m W : Nat) (l : List Nat) : PBp (List.replicate m 0) W l 0 := by
  refine ⟨fun x hx => ?_, fun t => ?_⟩
  · obtain ⟨_, rfl⟩ := List.mem_replicate.1 hx; decide
  · rw [if_neg (by omega)]
    by_cases h : t / 8 < m
    · rw [bitAt_in (by simpa using h)]; simp
    · exact bitAt_past (by simp; omega)
theorem pbp_unique {a b : List Nat} {W p : Nat} {l : List Nat} (ha : PBp a W l p) (hb : PBp b W l p) (hl : a.length = b.length) : a = b :=
  bitAt_ext (s := 8) (by decide) hl ha.1 hb.1 fun k _ => by rw [ha.2, hb.2]
theorem pbp_skip {bs l : List Nat} {W p : Nat} (h : PBp bs W l p) (hb : bitAt W l p = false) : PBp bs W l (p + 1) := by
  refine ⟨h.1, fun t => ?_⟩
  rw [h.2]
  by_cases e : t = p
  · subst e; rw [if_neg (by omega), if_pos (by omega), hb]
  · have : t < p + 1 ↔ t < p := by omega
    simp [this]
theorem pbp_set {bs l : List Nat} {W p : Nat} (h : PBp bs W l p) (hb : bitAt W l p = true) (hp : p / 8 < bs.length) : PBp (bs.set (p / 8) (bs[p / 8] ||| 1 * 2 ^ (p % 8) % 256)) W l (p + 1) := by
  have h8 : p % 8 < 8 := Nat.mod_lt _ (by decide)
  have hpow : 1 * 2 ^ (p % 8) % 256 = 2 ^ (p % 8) := by
    rw [Nat.one_mul]
    exact Nat.mod_eq_of_lt (Nat.pow_lt_pow_right (a := 2) (n := 8) (by decide) h8)
  rw [hpow]
  refine ⟨fun x hx => ?_, fun t => ?_⟩
  · rcases List.mem_or_eq_of_mem_set hx with h1 | rfl
    · exact h.1 x h1
    · exact Nat.or_lt_two_pow (n := 8) (h.1 _ (List.getElem_mem _)) (Nat.pow_lt_pow_right (a := 2) (n := 8) (by decide) h8)
  · rw [bitAt_set (by decide) hp]
    by_cases e : t / 8 = p / 8
    · rw [if_pos e, Nat.testBit_or]
      have h1 : (bs[p / 8]).testBit (t % 8) = bitAt 8 bs t := by
        rw [bitAt_in (by rw [e]; exact hp)]
        simp only [e]
      rw [h1, h.2, Nat.testBit_two_pow]
      by_cases e2 : t = p
      · subst e2
        rw [if_neg (by omega), if_pos (by omega), hb]
        simp
      · have h3 : ¬ p % 8 = t % 8 := by omega
        have h4 : t < p + 1 ↔ t < p := by omega
        simp [h3, h4]
    · rw [if_neg e, h.2]
      have h4 : t < p + 1 ↔ t < p := by
        constructor
        · intro h5
          rcases Nat.lt_or_ge t p with h6 | h6
          · exact h6
          · have : t = p := by omega
            subst this; exact absurd rfl e
        · omega
      simp [h4]
theorem shr_and_one (x k : Nat) : x / 2 ^ k &&& 1 = if x.testBit k then 1 else 0 := by
  rw [Nat.and_one_is_mod, Nat.testBit_eq_decide_div_mod_eq]
  have h2 : x / 2 ^ k % 2 < 2 := Nat.mod_lt _ (by decide)
  by_cases h : x / 2 ^ k % 2 = 1
  · simp [h]
  · simp [h]; omega
/-- the program's bytes -/
theorem bytesW_len (ws : List Nat) (m : Nat) : (bytesW ws m).length = m := by simp [bytesW]
theorem bytesW_bit (ws : List Nat) (m t : Nat) (h : t < 8 * m) : bitAt 8 (bytesW ws m) t = bitAt 64 ws t := by
  have h8 : t / 8 < m := by omega
  rw [bitAt_in (by rw [bytesW_len]; exact h8)]
  have e1 : t / 8 / 8 = t / 64 := by rw [Nat.div_div_eq_div_mul]
  have e2 : t / 8 % 8 * 8 + t % 8 = t % 64 := by omega
  have h256 : (256 : Nat) = 2 ^ 8 := rfl
  simp only [bytesW, List.getElem_map, List.getElem_range]
  rw [h256, Nat.testBit_mod_two_pow, Nat.testBit_div_two_pow, e1]
  unfold bitAt
  have h3 : t % 8 < 8 := Nat.mod_lt _ (by decide)
  simp only [h3, decide_true, Bool.true_and]
  congr 1
  omega
theorem byteCnt_ge (W n : Nat) : n * W ≤ 8 * byteCnt W n ∧ 8 * byteCnt W n < n * W + 8 := by
  unfold byteCnt
  rw [Nat.mul_comm W n]
  omega
theorem bytesW_pbp {ws l : List Nat} {W : Nat} (h : Packs ws W l) : PBp (bytesW ws (byteCnt W l.length)) W l (l.length * W) := by
  refine ⟨fun x hx => ?_, fun t => ?_⟩
  · simp only [bytesW, List.mem_map] at hx
    obtain ⟨_, _, rfl⟩ := hx
    exact Nat.mod_lt _ (by decide)
  · have hb := byteCnt_ge W l.length
    by_cases ht : t < 8 * byteCnt W l.length
    · rw [bytesW_bit ws _ t ht, h.2]
    · rw [bitAt_past (by rw [bytesW_len]; omega), if_neg (by omega)]
/-- the words that a list of bytes fills -/
def WBp (ws bs : List Nat) (i : Nat) : Prop := (∀ x ∈ ws, x < 2 ^ 64) ∧ ∀ t, bitAt 64 ws t = if t < 8 * i then bitAt 8 bs t else false
theorem wbp_zero (m : Nat) (bs : List Nat) : WBp (List.replicate m 0) bs 0 := by
  refine ⟨fun x hx => ?_, fun t => ?_⟩
  · obtain ⟨_, rfl⟩ := List.mem_replicate.1 hx; decide
  · rw [if_neg (by omega)]
    by_cases h : t / 64 < m
    · rw [bitAt_in (by simpa using h)]; simp
    · exact bitAt_past (by simp; omega)
theorem wbp_set {ws bs : List Nat} {i : Nat} (h : WBp ws bs i) (hi : i < bs.length) (h8 : ∀ x ∈ bs, x < 256) (hw : i / 8 < ws.length) :
    WBp (ws.set (i / 8) (ws[i / 8] ||| bs[i] * 2 ^ (i % 8 * 8) % 2 ^ 64)) bs (i + 1) := by
  refine ⟨fun x hx => ?_, fun t => ?_⟩
  · rcases List.mem_or_eq_of_mem_set hx with h1 | rfl
    · exact h.1 x h1
    · exact Nat.or_lt_two_pow (h.1 _ (List.getElem_mem _)) (Nat.mod_lt _ (by decide))
  · rw [bitAt_set (by decide) hw]
    have hbig : ∀ j, 8 ≤ j → (bs[i]).testBit j = false := fun j hj => testBit_big (W := 8) (h8 _ (List.getElem_mem _)) hj
    by_cases e : t / 64 = i / 8
    · rw [if_pos e, Nat.testBit_or, testBit_shl]
      have h1 : (ws[i / 8]).testBit (t % 64) = bitAt 64 ws t := by
        rw [bitAt_in (by rw [e]; exact hw)]
        simp only [e]
      rw [h1, h.2]
      have h64 : t % 64 < 64 := Nat.mod_lt _ (by decide)
      by_cases h2 : t / 8 = i
      · have e3 : i % 8 * 8 ≤ t % 64 := by omega
        have e4 : t % 64 - i % 8 * 8 = t % 8 := by omega
        have h5 : bitAt 8 bs t = bs[i].testBit (t % 8) := by
          rw [bitAt_in (by omega)]
          simp only [h2]
        rw [if_neg (by omega), if_pos (by omega), h5, e4]
        simp [h64, e3]
      · by_cases h3 : t < 8 * i
        · rw [if_pos h3, if_pos (by omega)]
          have : ¬ i % 8 * 8 ≤ t % 64 := by omega
          simp [this]
        · rw [if_neg h3, if_neg (by omega)]
          have := hbig (t % 64 - i % 8 * 8) (by omega)
          simp [this]
    · rw [if_neg e, h.2]
      have h4 : t < 8 * (i + 1) ↔ t < 8 * i := by omega
      simp [h4]
/-- one number out of its bits -/
theorem numOf_bit {ws : List Nat} {W p j : Nat} (hlt : ∀ x ∈ ws, x < 2 ^ 64) (hW : W ≤ 64) : (numOf ws W p).testBit j = (decide (j < W) && bitAt 64 ws (p + j)) := by
  unfold numOf
  rw [Nat.testBit_mod_two_pow]
  by_cases hj : j < W
  · simp only [hj, decide_true, Bool.true_and]
    have hr : p % 64 < 64 := Nat.mod_lt _ (by decide)
    by_cases hs : p % 64 + j < 64
    · have e1 : (p + j) / 64 = p / 64 := by omega
      have e2 : (p + j) % 64 = p % 64 + j := by omega
      have key : (ws.getD (p / 64) 0 / 2 ^ (p % 64)).testBit j = bitAt 64 ws (p + j) := by
        unfold bitAt
        rw [Nat.testBit_div_two_pow, e1, e2, Nat.add_comm]
      split
      · rw [Nat.testBit_or, testBit_shl, key]
        have : ¬ 64 - p % 64 ≤ j := by omega
        simp [this]
      · exact key
    · have e1 : (p + j) / 64 = p / 64 + 1 := by omega
      have e2 : (p + j) % 64 = j - (64 - p % 64) := by omega
      have h0 : (ws.getD (p / 64) 0 / 2 ^ (p % 64)).testBit j = false := by
        rw [Nat.testBit_div_two_pow]
        exact testBit_big (W := 64) (getD_lt hlt) (by omega)
      rw [if_pos (by omega), Nat.testBit_or, testBit_shl, h0]
      have h1 : j < 64 := by omega
      have h2 : 64 - p % 64 ≤ j := by omega
      unfold bitAt
      rw [e1, e2]
      simp [h1, h2]
  · simp [hj]
def numsOf (ws : List Nat) (W n : Nat) : List Nat := (List.range n).map fun i => if W = 0 then 0 else numOf ws W (i * W)
theorem numsOf_len (ws : List Nat) (W n : Nat) : (numsOf ws W n).length = n := by simp [numsOf]
theorem numOf_lt (ws : List Nat) (W p : Nat) : numOf ws W p < 2 ^ W := by unfold numOf; exact Nat.mod_lt _ (Nat.pow_pos (by decide))
theorem numsOf_lt {ws : List Nat} {W n : Nat} : ∀ x ∈ numsOf ws W n, x < 2 ^ W := fun x hx => by
  simp only [numsOf, List.mem_map] at hx
  obtain ⟨i, _, rfl⟩ := hx
  split
  · exact Nat.pow_pos (by decide)
  · exact numOf_lt _ _ _
theorem numsOf_bit {ws : List Nat} {W n t : Nat} (hlt : ∀ x ∈ ws, x < 2 ^ 64) (hW : W ≤ 64) (hW0 : 0 < W) (ht : t < n * W) : bitAt W (numsOf ws W n) t = bitAt 64 ws t := by
  have hq : t / W < n := (Nat.div_lt_iff_lt_mul hW0).2 ht
  rw [bitAt_in (by rw [numsOf_len]; exact hq)]
  simp only [numsOf, List.getElem_map, List.getElem_range, if_neg (show ¬ W = 0 by omega)]
  rw [numOf_bit hlt hW]
  have h1 : t % W < W := Nat.mod_lt _ hW0
  simp only [h1, decide_true, Bool.true_and]
  congr 1
  rw [Nat.mul_comm]
  exact Nat.div_add_mod t W
/-- two lists of numbers with the same bits -/
theorem nums_ext {l m : List Nat} {W : Nat} (hl : l.length = m.length) (h1 : ∀ x ∈ l, x < 2 ^ W) (h2 : ∀ x ∈ m, x < 2 ^ W) (h : ∀ t, t < l.length * W → bitAt W l t = bitAt W m t) : l = m := by
  rcases Nat.eq_zero_or_pos W with h0 | h0
  · subst h0
    have z : ∀ l : List Nat, (∀ x ∈ l, x < 2 ^ 0) → l = List.replicate l.length 0 := fun l hl => List.eq_replicate_iff.2 ⟨rfl, fun x hx => by have := hl x hx; omega⟩
    rw [z l h1, z m h2, hl]
  · exact bitAt_ext h0 hl h1 h2 h
/-- nothing is left over -/
def Spare0 (bs : List Nat) (W n : Nat) : Prop := ∀ t, n * W ≤ t → bitAt 8 bs t = false
theorem packs_of {ws bs : List Nat} {W n : Nat} (h : WBp ws bs bs.length) (hb : bs.length = byteCnt W n) (hs : Spare0 bs W n) (hW : W ≤ 64) (hW0 : 0 < W) : Packs ws W (numsOf ws W n) := by
  refine ⟨h.1, fun t => ?_⟩
  rw [numsOf_len]
  have hc := byteCnt_ge W n
  by_cases ht : t < n * W
  · rw [if_pos ht, numsOf_bit h.1 hW hW0 ht]
  · rw [if_neg ht, h.2]
    split
    · exact hs t (by omega)
    · rfl
/-- the last byte's bits that belong to no number -/
theorem spare_iff {bs : List Nat} {W n : Nat} (h8 : ∀ x ∈ bs, x < 256) (hb : bs.length = byteCnt W n) (hpos : n * W < bs.length * 8) (hl : bs.length - 1 < bs.length) :
    bs[bs.length - 1] / 2 ^ (8 - (bs.length * 8 - n * W)) = 0 ↔ Spare0 bs W n := by
  have hc := byteCnt_ge W n
  have hu : bs.length * 8 - n * W < 8 := by omega
  constructor
  · intro h t ht
    by_cases h1 : t / 8 < bs.length
    · have e1 : t / 8 = bs.length - 1 := by omega
      rw [bitAt_in h1]
      simp only [e1]
      have h2 : (bs[bs.length - 1] / 2 ^ (8 - (bs.length * 8 - n * W))).testBit (t % 8 - (8 - (bs.length * 8 - n * W))) = false := by rw [h]; simp
      rw [Nat.testBit_div_two_pow] at h2
      rwa [show t % 8 - (8 - (bs.length * 8 - n * W)) + (8 - (bs.length * 8 - n * W)) = t % 8 by omega] at h2
    · exact bitAt_past (by omega)
  · intro h
    apply Nat.eq_of_testBit_eq
    intro j
    rw [Nat.testBit_div_two_pow, Nat.zero_testBit]
    by_cases hj : j + (8 - (bs.length * 8 - n * W)) < 8
    · have h1 := h ((bs.length - 1) * 8 + (j + (8 - (bs.length * 8 - n * W)))) (by omega)
      rwa [bitAt_mk hj hl] at h1
    · exact testBit_big (W := 8) (h8 _ (List.getElem_mem _)) (by omega)
theorem spare_full {bs : List Nat} {W n : Nat} (hpos : ¬ n * W < bs.length * 8) : Spare0 bs W n := fun t ht => bitAt_past (by omega)
theorem div_ne_iff (x W : Nat) : x / 2 ^ W = 0 ↔ x < 2 ^ W := Nat.div_eq_zero_iff_lt (Nat.pow_pos (by decide))
end Go.Proofs.Ytgnmmifolhoaeaa
namespace Go.Proofs.Ytgnmmifolhoaeaa
/-- the numbers that the first p bits of these bytes are -/
def PNp (ls : List Nat) (W n : Nat) (b : List Nat) (p : Nat) : Prop := ls.length = n ∧ ∀ i j, (ls.getD i 0).testBit j = (decide (i < n) && decide (j < W) && decide (i * W + j < p) && bitAt 8 b (i * W + j))
theorem pnp_zero (n W : Nat) (b : List Nat) : PNp (List.replicate n 0) W n b 0 := by
  refine ⟨List.length_replicate .., fun i j => ?_⟩
  have : (List.replicate n 0).getD i 0 = 0 := by
    rw [List.getD_eq_getElem?_getD, List.getElem?_replicate]
    split <;> rfl
  rw [this]
  simp
theorem pos_unique {i j i' j' W : Nat} (hj : j < W) (hj' : j' < W) (h : i * W + j = i' * W + j') : i = i' ∧ j = j' := by
  have e : ∀ a c : Nat, c < W → (a * W + c) / W = a := fun a c hc => by rw [Nat.mul_comm, Nat.mul_add_div (by omega), Nat.div_eq_of_lt hc, Nat.add_zero]
  have h1 : i = i' := by rw [← e i j hj, ← e i' j' hj', h]
  subst h1
  exact ⟨rfl, by omega⟩
theorem pnp_skip {ls b : List Nat} {W n i k : Nat} (h : PNp ls W n b (i * W + k)) (hk : k < W) (hb : bitAt 8 b (i * W + k) = false) : PNp ls W n b (i * W + (k + 1)) := by
  refine ⟨h.1, fun i' j' => ?_⟩
  rw [h.2]
  by_cases e : j' < W
  · by_cases e2 : i' * W + j' = i * W + k
    · rw [e2, hb]; simp
    · have : i' * W + j' < i * W + (k + 1) ↔ i' * W + j' < i * W + k := by omega
      simp [this]
  · simp [e]
theorem pnp_set {ls b : List Nat} {W n i k : Nat} (h : PNp ls W n b (i * W + k)) (hk : k < W) (hW : W ≤ 64) (hi : i < ls.length) (hb : bitAt 8 b (i * W + k) = true) : PNp (ls.set i (ls[i] ||| 1 * 2 ^ k % 2 ^ 64)) W n b (i * W + (k + 1)) := by
  have hpow : 1 * 2 ^ k % 2 ^ 64 = 2 ^ k := by
    rw [Nat.one_mul]
    exact Nat.mod_eq_of_lt (Nat.pow_lt_pow_right (by decide) (by omega))
  rw [hpow]
  have hn := h.1
  refine ⟨by rw [List.length_set]; exact h.1, fun i' j' => ?_⟩
  have hin : i < n := by omega
  by_cases e1 : i' = i
  · subst e1
    have hg : (ls.set i' (ls[i'] ||| 2 ^ k)).getD i' 0 = ls[i'] ||| 2 ^ k := by simp [List.getD_eq_getElem?_getD, hi]
    have hg2 : ls.getD i' 0 = ls[i'] := by simp [List.getD_eq_getElem?_getD, hi]
    rw [hg, Nat.testBit_or, ← hg2, h.2, Nat.testBit_two_pow]
    by_cases e2 : k = j'
    · subst e2
      simp [hk, hin, hb]
    · by_cases e : j' < W
      · have : i' * W + j' < i' * W + (k + 1) ↔ i' * W + j' < i' * W + k := by omega
        simp [this, e2]
      · simp [e, e2]
  · have hg : (ls.set i (ls[i] ||| 2 ^ k)).getD i' 0 = ls.getD i' 0 := by
      simp only [List.getD_eq_getElem?_getD]
      rw [List.getElem?_set_ne (fun e => e1 e.symm)]
    rw [hg, h.2]
    by_cases e : j' < W
    · have : i' * W + j' < i * W + (k + 1) ↔ i' * W + j' < i * W + k := by
        constructor
        · intro h1
          rcases Nat.lt_or_ge (i' * W + j') (i * W + k) with h2 | h2
          · exact h2
          · exact absurd (pos_unique e hk (show i' * W + j' = i * W + k by omega)).1 e1
        · omega
      simp [this]
    · simp [e]
theorem pnp_lt {ls b : List Nat} {W n p : Nat} (h : PNp ls W n b p) : ∀ x ∈ ls, x < 2 ^ W := fun x hx => by
  obtain ⟨i, hi, rfl⟩ := List.mem_iff_getElem.1 hx
  apply Nat.lt_pow_two_of_testBit
  intro j hj
  have := h.2 i j
  rw [List.getD_eq_getElem?_getD, List.getElem?_eq_getElem hi] at this
  simp only [Option.getD_some] at this
  rw [this]
  simp [show ¬ j < W by omega]
theorem pnp_bits {ls b : List Nat} {W n : Nat} (h : PNp ls W n b (n * W)) : ∀ t, t < n * W → bitAt W ls t = bitAt 8 b t := fun t ht => by
  have hW0 : 0 < W := by
    rcases Nat.eq_zero_or_pos W with h0 | h0
    · subst h0; simp at ht
    · exact h0
  have hq : t / W < n := (Nat.div_lt_iff_lt_mul hW0).2 ht
  have e : t / W * W + t % W = t := by rw [Nat.mul_comm]; exact Nat.div_add_mod t W
  have := h.2 (t / W) (t % W)
  rw [e] at this
  unfold bitAt at this ⊢
  rw [this]
  simp [hq, Nat.mod_lt _ hW0, ht]
/-- the bytes of the numbers are these bytes where nothing is left over -/
theorem pbp_spare {bs b ls : List Nat} {W n : Nat} (h : PBp bs W ls (n * W)) (hl : bs.length = b.length) (hb : ∀ t, t < n * W → bitAt W ls t = bitAt 8 b t) (h8 : ∀ x ∈ b, x < 256) : bs = b ↔ Spare0 b W n := by
  constructor
  · rintro rfl t ht
    rw [h.2, if_neg (by omega)]
  · intro hs
    refine bitAt_ext (s := 8) (by decide) hl h.1 h8 fun t _ => ?_
    rw [h.2]
    split
    · exact hb t (by assumption)
    · exact (hs t (by omega)).symm
end Go.Proofs.Ytgnmmifolhoaeaa
