/- Lists of texts as bytes, and back: pure. -/
import Derived.Test.YthacjhdodjgojaaWirePut
namespace Go.Proofs.Ythacjhdodjgojaa

def strOf (l : List Nat) : ByteArray := ⟨(l.map UInt8.ofNat).toArray⟩
theorem strOf_strB (s : ByteArray) : strOf (strB s) = s := by
  unfold strOf strB
  rw [List.map_map]
  have : (UInt8.ofNat ∘ fun x : UInt8 => x.toNat) = id := by funext x; simp
  rw [this, List.map_id]
theorem strB_strOf {l : List Nat} (h : ∀ b ∈ l, b < 256) : strB (strOf l) = l := by
  unfold strOf strB
  simp only [List.map_map]
  conv => rhs; rw [← List.map_id l]
  refine List.map_congr_left fun x hx => ?_
  simp only [Function.comp, id]
  have := h x hx
  simp only [UInt8.toNat_ofNat']
  omega
theorem strOf_size (l : List Nat) : (strOf l).size = l.length := by
  show ((l.map UInt8.ofNat).toArray).size = _
  simp

theorem getAt_more : ∀ (l t : List Nat) (i n : Nat) {r : Nat × Nat}, getAt i n l = some r → getAt i n (l ++ t) = some r
  | [], t, i, n, r, h => by simp [getAt] at h
  | x :: l, t, i, n, r, h => by
    simp only [getAt, List.cons_append] at h ⊢
    split at h
    · cases h
    · rename_i h9
      rw [if_neg h9]
      split at h
      · rename_i h128
        rw [if_pos h128]
        exact getAt_more l t _ _ h
      · rename_i h128
        rw [if_neg h128]
        exact h
theorem getNum_more {l : List Nat} {r : Nat × Nat} (h : getNum l = some r) (t : List Nat) : getNum (l ++ t) = some r := getAt_more l t 0 0 h

/-- so many texts off a list of bytes: they, and what is left -/
def getStrs : Nat → List Nat → Option (List ByteArray × List Nat)
  | 0, l => some ([], l)
  | c + 1, l =>
    match getNum l with
    | none => none
    | some (n, k) =>
      if l.length - k < n then none
      else match getStrs c (l.drop (k + n)) with
        | none => none
        | some (ss, r) => some (strOf ((l.drop k).take n) :: ss, r)
def getB (l : List Nat) : Option (List ByteArray) :=
  if 1048576 < l.length then none
  else match getNum l with
    | none => none
    | some (c, k) =>
      if l.length < c then none
      else match getStrs c (l.drop k) with
        | some (ss, []) => some ss
        | _ => none

theorem getStrs_enc : ∀ (ts : List ByteArray) (t : List Nat), (∀ s ∈ ts, s.size ≤ 140737488351232) → getStrs ts.length (encL ts ++ t) = some (ts, t)
  | [], t, _ => rfl
  | s :: r, t, h => by
    have hs := h s (by simp)
    have ih := getStrs_enc r t (fun x hx => h x (by simp [hx]))
    simp only [encL, encS, List.length_cons, getStrs, List.append_assoc]
    rw [getNum_nums (by omega)]
    have hl := strB_length s
    simp only
    rw [if_neg (by simp only [List.length_append]; omega)]
    have e1 : List.drop ((nums s.size).length + s.size) (nums s.size ++ (strB s ++ (encL r ++ t))) = encL r ++ t := by
      rw [← List.append_assoc, List.drop_append_of_le_length (by simp [hl]), List.drop_eq_nil_of_le (by simp [hl]), List.nil_append]
    have e2 : List.take s.size (List.drop (nums s.size).length (nums s.size ++ (strB s ++ (encL r ++ t)))) = strB s := by
      rw [List.drop_append_of_le_length (Nat.le_refl _), List.drop_length, List.nil_append, List.take_append_of_le_length (by omega), List.take_of_length_le (by omega)]
    rw [e1, e2, ih, strOf_strB]
theorem getB_putB {ts : List ByteArray} (h : ∀ s ∈ ts, s.size ≤ 140737488351232) (hfit : (putB ts).length ≤ 1048576) : getB (putB ts) = some ts := by
  have hc := encL_count ts
  have hl : (putB ts).length = (nums ts.length).length + (encL ts).length := by rw [putB, List.length_append]
  unfold getB
  rw [if_neg (by omega)]
  have e : getNum (putB ts) = some (ts.length, (nums ts.length).length) := getNum_nums (by omega) _
  have hs := getStrs_enc ts [] h
  rw [List.append_nil] at hs
  rw [e]
  simp only
  rw [if_neg (by omega), putB, List.drop_append_of_le_length (Nat.le_refl _), List.drop_length, List.nil_append, hs]

theorem getStrs_more : ∀ (c : Nat) (l t : List Nat) {ss : List ByteArray} {r : List Nat}, (∀ b ∈ l, b < 256) → getStrs c l = some (ss, r) → getStrs c (l ++ t) = some (ss, r ++ t)
  | 0, l, t, ss, r, _, h => by
    simp only [getStrs, Option.some.injEq, Prod.mk.injEq] at h ⊢
    obtain ⟨rfl, rfl⟩ := h
    exact ⟨rfl, rfl⟩
  | c + 1, l, t, ss, r, hb, h => by
    simp only [getStrs] at h ⊢
    split at h
    · cases h
    · rename_i n k hg
      have hk := getNum_bound hb hg
      rw [getNum_more hg t]
      simp only
      split at h
      · cases h
      · rename_i hn
        rw [if_neg (by rw [List.length_append]; omega)]
        split at h
        · cases h
        · rename_i ss' r' hs
          simp only [Option.some.injEq, Prod.mk.injEq] at h
          obtain ⟨rfl, rfl⟩ := h
          have ih := getStrs_more c (l.drop (k + n)) t (fun b h => hb b (List.mem_of_mem_drop h)) hs
          rw [List.drop_append_of_le_length (by omega), ih]
          simp only [Option.some.injEq, Prod.mk.injEq, List.cons.injEq, and_true]
          rw [List.drop_append_of_le_length (by omega), List.take_append_of_le_length (by rw [List.length_drop]; omega)]
/-- what is read is told by just these bytes -/
theorem getStrs_back : ∀ (c : Nat) (l : List Nat) {ss : List ByteArray} {r : List Nat}, (∀ b ∈ l, b < 256) → getStrs c l = some (ss, r) → ss.length = c ∧ l = encL ss ++ r
  | 0, l, ss, r, _, h => by
    simp only [getStrs, Option.some.injEq, Prod.mk.injEq] at h
    obtain ⟨rfl, rfl⟩ := h
    exact ⟨rfl, rfl⟩
  | c + 1, l, ss, r, hb, h => by
    simp only [getStrs] at h
    split at h
    · cases h
    · rename_i n k hg
      have hk := getNum_bound hb hg
      have hback := getNum_back hb hg
      split at h
      · cases h
      · rename_i hn
        split at h
        · cases h
        · rename_i ss' r' hs
          simp only [Option.some.injEq, Prod.mk.injEq] at h
          obtain ⟨rfl, rfl⟩ := h
          obtain ⟨h1, h2⟩ := getStrs_back c _ (fun b h => hb b (List.mem_of_mem_drop h)) hs
          have hlt : ((l.drop k).take n).length = n := by rw [List.length_take, List.length_drop]; omega
          refine ⟨by simp [h1], ?_⟩
          simp only [encL, encS]
          rw [strOf_size, hlt, strB_strOf (fun b h => hb b (List.mem_of_mem_drop (List.mem_of_mem_take h))), ← hback, List.append_assoc, List.append_assoc, ← h2]
          conv => lhs; rw [← List.take_append_drop k l, ← List.take_append_drop n (l.drop k), List.drop_drop]
theorem getB_back {l : List Nat} {ss : List ByteArray} (hb : ∀ b ∈ l, b < 256) (h : getB l = some ss) : putB ss = l ∧ l.length ≤ 1048576 := by
  unfold getB at h
  split at h
  · cases h
  · split at h
    · cases h
    · rename_i c k hg
      split at h
      · cases h
      · split at h
        · rename_i ss' hs
          simp only [Option.some.injEq] at h
          subst h
          obtain ⟨h1, h2⟩ := getStrs_back c _ (fun b h => hb b (List.mem_of_mem_drop h)) hs
          rw [List.append_nil] at h2
          refine ⟨?_, by omega⟩
          rw [putB, h1, ← h2, ← getNum_back hb hg, List.take_append_drop]
        · cases h
/-- what a beginning reads as, the whole does not -/
theorem getB_begin {l t : List Nat} {ss : List ByteArray} (hb : ∀ b ∈ l, b < 256) (h : getB l = some ss) (ht : t ≠ []) : getB (l ++ t) = none := by
  unfold getB at h ⊢
  split
  · rfl
  · split at h
    · cases h
    · split at h
      · cases h
      · rename_i c k hg
        have hk := getNum_bound hb hg
        rw [getNum_more hg t]
        simp only
        split at h
        · cases h
        · rw [if_neg (by rw [List.length_append]; omega)]
          split at h
          · rename_i ss' hs
            have := getStrs_more c (l.drop k) t (fun b h => hb b (List.mem_of_mem_drop h)) hs
            rw [List.drop_append_of_le_length (by omega), this]
            cases t with
            | nil => exact absurd rfl ht
            | cons x t => rfl
          · cases h
end Go.Proofs.Ythacjhdodjgojaa
