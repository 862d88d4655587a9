/- THE WAVELET MATRIX: levels as stable partitions; where an element goes; segments. -/
import Derived.Test.YtmiclfhpenjjfaaDoorBitsMath
namespace Go.Proofs.YtmiclfhpenjjfaaDoor

def bitN (s x : Nat) : Bool := decide (x / 2 ^ s % 2 = 1)
def zerosL (s : Nat) (M : List Nat) : List Nat := M.filter fun x => !bitN s x
def onesL (s : Nat) (M : List Nat) : List Nat := M.filter (bitN s)
def partL (s : Nat) (M : List Nat) : List Nat := zerosL s M ++ onesL s M
/-- the list in the order of level j, of n levels -/
def lvl (n : Nat) (L : List Nat) : Nat → List Nat
  | 0 => L
  | j + 1 => partL (n - 1 - j) (lvl n L j)
theorem part_len (s : Nat) (M : List Nat) : (partL s M).length = M.length := by
  unfold partL zerosL onesL
  rw [List.length_append]
  induction M with
  | nil => rfl
  | cons x r ih =>
    simp only [List.filter_cons]
    cases bitN s x <;> simp only [Bool.not_true, Bool.not_false, if_true, if_false, Bool.false_eq_true, List.length_cons] <;> omega
theorem lvl_len (n : Nat) (L : List Nat) : ∀ j, (lvl n L j).length = L.length
  | 0 => rfl
  | j + 1 => by rw [lvl, part_len, lvl_len n L j]
theorem part_mem {s : Nat} {M : List Nat} {x : Nat} (h : x ∈ partL s M) : x ∈ M := by
  unfold partL zerosL onesL at h
  rcases List.mem_append.1 h with a | a <;> exact (List.mem_filter.1 a).1
theorem lvl_mem {n : Nat} {L : List Nat} : ∀ {j x}, x ∈ lvl n L j → x ∈ L
  | 0, _, h => h
  | _ + 1, _, h => lvl_mem (part_mem h)
theorem zo_len (s : Nat) (M : List Nat) : (zerosL s M).length + (onesL s M).length = M.length := by
  rw [← part_len s M, partL, List.length_append]
theorem zeros_app (s : Nat) (X Y : List Nat) : zerosL s (X ++ Y) = zerosL s X ++ zerosL s Y := by unfold zerosL; rw [List.filter_append]
theorem ones_app (s : Nat) (X Y : List Nat) : onesL s (X ++ Y) = onesL s X ++ onesL s Y := by unfold onesL; rw [List.filter_append]
/-- where what stands behind X goes -/
def downN (s : Nat) (M : List Nat) (i : Nat) (b : Bool) : Nat := if b then (zerosL s M).length + (onesL s (M.take i)).length else i - (onesL s (M.take i)).length
theorem down_app (s : Nat) (X Y : List Nat) (b : Bool) : downN s (X ++ Y) X.length b = if b then (zerosL s (X ++ Y)).length + (onesL s X).length else (zerosL s X).length := by
  unfold downN
  rw [List.take_append_of_le_length (Nat.le_refl _), List.take_length]
  cases b
  · have := zo_len s X
    simp
    omega
  · rfl
/-- a segment, one level below -/
theorem seg_down (s : Nat) (X Y Z : List Nat) (b : Bool) : ∃ X' Z', partL s (X ++ Y ++ Z) = X' ++ Y.filter (fun x => bitN s x == b) ++ Z' ∧ X'.length = downN s (X ++ Y ++ Z) X.length b ∧ X'.length + (Y.filter fun x => bitN s x == b).length = downN s (X ++ Y ++ Z) (X.length + Y.length) b := by
  have e1 : downN s (X ++ Y ++ Z) X.length b = if b then (zerosL s (X ++ Y ++ Z)).length + (onesL s X).length else (zerosL s X).length := by
    have := down_app s X (Y ++ Z) b
    rwa [← List.append_assoc] at this
  have e2 : downN s (X ++ Y ++ Z) (X.length + Y.length) b = if b then (zerosL s (X ++ Y ++ Z)).length + (onesL s (X ++ Y)).length else (zerosL s (X ++ Y)).length := by
    have := down_app s (X ++ Y) Z b
    rwa [List.length_append] at this
  cases b
  · have hf : Y.filter (fun x => bitN s x == false) = zerosL s Y := by unfold zerosL; congr 1; funext x; cases bitN s x <;> rfl
    refine ⟨zerosL s X, zerosL s Z ++ onesL s (X ++ Y ++ Z), ?_, ?_, ?_⟩
    · rw [hf, partL, zeros_app, zeros_app]; simp
    · rw [e1]; simp
    · rw [e2, hf]; simp only [Bool.false_eq_true, if_false]; rw [zeros_app, List.length_append]
  · have hf : Y.filter (fun x => bitN s x == true) = onesL s Y := by unfold onesL; congr 1; funext x; cases bitN s x <;> rfl
    refine ⟨zerosL s (X ++ Y ++ Z) ++ onesL s X, onesL s Z, ?_, ?_, ?_⟩
    · rw [hf, partL, ones_app, ones_app]; simp
    · rw [e1, List.append_assoc X Y Z]; simp
    · rw [e2, hf, ones_app]; simp; omega
/-- an element, one level below -/
theorem one_down (s : Nat) (X Z : List Nat) (x : Nat) : ∃ X' Z', partL s (X ++ [x] ++ Z) = X' ++ [x] ++ Z' ∧ X'.length = downN s (X ++ [x] ++ Z) X.length (bitN s x) := by
  obtain ⟨X', Z', h1, h2, _⟩ := seg_down s X [x] Z (bitN s x)
  refine ⟨X', Z', ?_, h2⟩
  have : [x].filter (fun y => bitN s y == bitN s x) = [x] := by simp
  rwa [this] at h1
/-- high digits -/
theorem high_step (x c s : Nat) : (x / 2 ^ (s + 1) = c / 2 ^ (s + 1) ∧ bitN s x = bitN s c) ↔ x / 2 ^ s = c / 2 ^ s := by
  have e : ∀ y : Nat, y / 2 ^ (s + 1) = y / 2 ^ s / 2 := fun y => by rw [Nat.div_div_eq_div_mul, ← Nat.pow_succ]
  rw [e, e]
  unfold bitN
  generalize x / 2 ^ s = a
  generalize c / 2 ^ s = b
  constructor
  · rintro ⟨h1, h2⟩
    have : (a % 2 = 1) ↔ (b % 2 = 1) := by simpa using h2
    omega
  · rintro rfl
    exact ⟨rfl, rfl⟩
/-- those of the first ones of L that have c's high digits -/
def hiL (L : List Nat) (c s : Nat) : List Nat := L.filter fun x => decide (x / 2 ^ s = c / 2 ^ s)
theorem hi_step (L : List Nat) (c s : Nat) : (hiL L c (s + 1)).filter (fun x => bitN s x == bitN s c) = hiL L c s := by
  unfold hiL
  rw [List.filter_filter]
  congr 1
  funext x
  rw [Bool.eq_iff_iff]
  simp only [Bool.and_eq_true, beq_iff_eq, decide_eq_true_eq]
  rw [and_comm]
  exact high_step x c s
theorem hi_zero (L : List Nat) (c : Nat) : (hiL L c 0).length = L.countP (fun x => decide (x = c)) := by
  unfold hiL
  rw [List.countP_eq_length_filter]
  simp
theorem hi_all (L : List Nat) (c n : Nat) (h : ∀ x ∈ L, x < 2 ^ n) (hc : c < 2 ^ n) : hiL L c n = L := by
  unfold hiL
  rw [List.filter_eq_self]
  intro x hx
  rw [Nat.div_eq_of_lt (h x hx), Nat.div_eq_of_lt hc]
  simp
/-- a rank in a list of bits is a number of ones -/
theorem rk_ones (s : Nat) (M : List Nat) (i : Nat) (hi : i ≤ M.length) : rk (M.map (bitN s)) i = (onesL s (M.take i)).length := by
  induction i with
  | zero => simp [rk, cntB, onesL]
  | succ i ih =>
    have h := ih (by omega)
    have e : rk (M.map (bitN s)) (i + 1) = rk (M.map (bitN s)) i + if bitN s M[i] then 1 else 0 := by
      unfold rk
      rw [cntB]
      have : bt (M.map (bitN s)) i = bitN s M[i] := by unfold bt; rw [List.getD_eq_getElem?_getD, List.getElem?_map, List.getElem?_eq_getElem (by omega)]; rfl
      rw [this]
      cases bitN s M[i] <;> rfl
    rw [e, h, List.take_succ_eq_append_getElem (by omega), ones_app, List.length_append]
    congr 1
    unfold onesL
    cases hb : bitN s M[i] <;> simp [hb]
/-- digits put together from above -/
theorem digit_step (x s : Nat) : x / 2 ^ (s + 1) * 2 ^ (s + 1) ||| (if bitN s x then 2 ^ s else 0) = x / 2 ^ s * 2 ^ s := by
  have e : x / 2 ^ (s + 1) = x / 2 ^ s / 2 := by rw [Nat.div_div_eq_div_mul, ← Nat.pow_succ]
  have e2 : x / 2 ^ s * 2 ^ s = x / 2 ^ (s + 1) * 2 ^ (s + 1) + if bitN s x then 2 ^ s else 0 := by
    rw [e, Nat.pow_succ, ← Nat.mul_assoc, Nat.mul_right_comm]
    unfold bitN
    generalize x / 2 ^ s = a
    by_cases h : a % 2 = 1
    · rw [if_pos (by simpa using h)]
      have : a = a / 2 * 2 + 1 := by omega
      conv => lhs; rw [this, Nat.add_mul, Nat.one_mul]
    · rw [if_neg (by simpa using h)]
      have : a = a / 2 * 2 := by omega
      conv => lhs; rw [this]
      rfl
  rw [e2]
  have hlt : (if bitN s x then 2 ^ s else 0) < 2 ^ (s + 1) := by
    have : 0 < 2 ^ s := Nat.pow_pos (by decide)
    rw [Nat.pow_succ]
    split <;> omega
  rw [Nat.mul_comm (x / 2 ^ (s + 1)), Nat.two_pow_add_eq_or_of_lt hlt]
end Go.Proofs.YtmiclfhpenjjfaaDoor
