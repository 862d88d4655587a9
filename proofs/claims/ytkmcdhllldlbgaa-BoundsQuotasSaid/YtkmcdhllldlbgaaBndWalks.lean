/- Walks of package bounds and of its reference. -/
import Derived.Test.YtkmcdhllldlbgaaFast10
namespace Go.Proofs.Ytkmcdhllldlbgaa
open Go.RowKit

theorem BndWalks_l22 : (elemQ Try.prog 22).isSome = true := by kernel_rfl
theorem BndWalks_e22 : elemQ Try.prog 22 = some (3, 1) := by kernel_rfl
theorem BndWalks_g3 : aggQ Try.prog 3 = some false := by kernel_rfl
theorem BndWalks_b46_ : Try.prog.built 46 [] = some #[.slice none 0 0] := by kernel_rfl
theorem BndWalks_f46_0 : fieldQ Try.prog 46 0 = some 0 := by kernel_rfl
theorem BndWalks_g22 : aggQ Try.prog 22 = some false := by kernel_rfl
theorem BndWalks_q22 : litQ Try.prog 22 = some (3, 1, 8, (.int .i64 0)) := by kernel_rfl
theorem BndWalks_z22 : sizeQ Try.prog 22 = some 1 := by kernel_rfl
theorem BndWalks_k22 : callable Try.prog 22 = true := by kernel_rfl
theorem BndWalks_s3 : (Try.prog.underlying 3).isSome = true := by kernel_rfl
theorem BndWalks_i50 : Try.prog.underlying 50 = some (.int .u64) := by kernel_rfl
theorem BndWalks_s50 : (Try.prog.underlying 50).isSome = true := by kernel_rfl
theorem BndWalks_i3 : Try.prog.underlying 3 = some (.int .i64) := by kernel_rfl
theorem BndWalks_k24 : callable Try.prog 24 = true := by kernel_rfl
theorem BndWalks_g26 : aggQ Try.prog 26 = some false := by kernel_rfl
theorem BndWalks_k11 : callable Try.prog 11 = true := by kernel_rfl
theorem BndWalks_k23 : callable Try.prog 23 = true := by kernel_rfl
/-- where text i begins -/
def st (L : List Int) : Nat → Int
  | 0 => 0
  | i + 1 => st L i + L.getD i 0 + 1
theorem st_succ {L : List Int} {i : Nat} (h : i < L.length) : st L (i + 1) = st L i + L[i] + 1 := by
  show st L i + L.getD i 0 + 1 = _
  rw [List.getD_eq_getElem?_getD, List.getElem?_eq_getElem h]
  rfl
def neg (L : List Int) : Bool := L.any fun x => decide (x < 0)
def fits (L : List Int) : Bool := (List.range L.length).all fun i => decide (L.getD i 0 < 131072 - st L i)
def lensE (L : List Int) : Int := if neg L = true then 1 else if 64 < L.length then 2 else if fits L = true then 0 else 2
structure Gd (L : List Int) : Prop where
  pos : ∀ i (h : i < L.length), 0 ≤ L[i]
  len : L.length ≤ 64
  fit : ∀ i (h : i < L.length), L[i] < 131072 - st L i
theorem neg_of {L : List Int} (h : ∀ i (h : i < L.length), 0 ≤ L[i]) : neg L = false := by
  unfold neg
  rw [List.any_eq_false]
  intro x hx
  obtain ⟨i, hi, rfl⟩ := List.mem_iff_getElem.1 hx
  have := h i hi
  simp; omega
theorem neg_at {L : List Int} {i : Nat} (h : i < L.length) (hn : L[i] < 0) : neg L = true := List.any_eq_true.2 ⟨L[i], List.getElem_mem h, by simpa using hn⟩
theorem lens1 {L : List Int} {i : Nat} (h : i < L.length) (hn : L[i] < 0) : lensE L = 1 := by unfold lensE; rw [if_pos (neg_at h hn)]
theorem lens2 {L : List Int} (h : ∀ i (h : i < L.length), 0 ≤ L[i]) (hl : 64 < L.length) : lensE L = 2 := by unfold lensE; rw [if_neg (by rw [neg_of h]; decide), if_pos hl]
theorem lens3 {L : List Int} (h : ∀ i (h : i < L.length), 0 ≤ L[i]) (hl : L.length ≤ 64) {i : Nat} (hi : i < L.length) (hn : ¬ L[i] < 131072 - st L i) : lensE L = 2 := by
  unfold lensE
  have hf : fits L = false := by
    rw [← Bool.not_eq_true]
    intro hf
    have := List.all_eq_true.1 hf i (List.mem_range.2 hi)
    rw [decide_eq_true_eq, List.getD_eq_getElem?_getD, List.getElem?_eq_getElem hi] at this
    exact hn this
  rw [if_neg (by rw [neg_of h]; decide), if_neg (by omega), if_neg (by rw [hf]; decide)]
theorem lens0 {L : List Int} (h : Gd L) : lensE L = 0 := by
  unfold lensE
  have hf : fits L = true := List.all_eq_true.2 fun i hi => by
    have hi' := List.mem_range.1 hi
    rw [decide_eq_true_eq, List.getD_eq_getElem?_getD, List.getElem?_eq_getElem hi']
    exact h.fit i hi'
  rw [if_neg (by rw [neg_of h.pos]; decide), if_neg (by have := h.len; omega), if_pos hf]
theorem gd_of {L : List Int} (h : lensE L = 0) : Gd L := by
  unfold lensE at h
  split at h
  · omega
  · split at h
    · omega
    · split at h
      · rename_i h1 h2 h3
        refine ⟨fun i hi => ?_, by omega, fun i hi => ?_⟩
        · rcases Int.lt_or_le L[i] 0 with a | a
          · exact absurd (neg_at hi a) h1
          · exact a
        · have := List.all_eq_true.1 h3 i (List.mem_range.2 hi)
          rw [decide_eq_true_eq, List.getD_eq_getElem?_getD, List.getElem?_eq_getElem hi] at this
          exact this
      · omega
theorem st_part {L : List Int} (hp : ∀ i (h : i < L.length), 0 ≤ L[i]) : ∀ k, k ≤ L.length → (∀ i (h : i < L.length), i < k → L[i] < 131072 - st L i) → 0 ≤ st L k ∧ st L k ≤ 131072
  | 0, _, _ => by simp [st]
  | k + 1, hk, hf => by
    have h1 := st_part hp k (by omega) (fun i h hi => hf i h (by omega))
    have h2 := hp k (by omega)
    have h3 := hf k (by omega) (by omega)
    rw [st_succ (by omega)]
    omega
theorem Gd.st {L : List Int} (h : Gd L) {k : Nat} (hk : k ≤ L.length) : 0 ≤ st L k ∧ st L k ≤ 131072 := st_part h.pos k hk fun i hi _ => h.fit i hi
theorem st_mono1 {L : List Int} (hp : ∀ i (h : i < L.length), 0 ≤ L[i]) (i : Nat) : st L i < st L (i + 1) := by
  show st L i < st L i + L.getD i 0 + 1
  rw [List.getD_eq_getElem?_getD]
  by_cases h : i < L.length
  · rw [List.getElem?_eq_getElem h]
    have := hp i h
    show _ < _ + L[i] + 1
    omega
  · rw [List.getElem?_eq_none (by omega)]
    show _ < _ + 0 + 1
    omega
theorem st_mono {L : List Int} (hp : ∀ i (h : i < L.length), 0 ≤ L[i]) {i j : Nat} (h : i ≤ j) : st L i ≤ st L j := by
  obtain ⟨k, rfl⟩ := Nat.exists_eq_add_of_le h
  induction k with
  | zero => exact Int.le_refl _
  | succ k ih => have h1 := st_mono1 hp (i + k); have h2 := ih (by omega); rw [← Nat.add_assoc]; omega
theorem st_find {L : List Int} {at_ : Int} (h0 : 0 ≤ at_) : ∀ k, at_ < st L k → ∃ i, i < k ∧ st L i ≤ at_ ∧ at_ < st L (i + 1)
  | 0, h => by simp [st] at h; omega
  | k + 1, h => by
    by_cases h1 : at_ < st L k
    · obtain ⟨i, a, b, c⟩ := st_find h0 k h1
      exact ⟨i, by omega, b, c⟩
    · exact ⟨k, by omega, by omega, h⟩
def endsOf (L : List Int) (k : Nat) : List Int := (List.range k).map fun i => st L (i + 1)
theorem ends_len (L : List Int) (k : Nat) : (endsOf L k).length = k := by simp [endsOf]
theorem ends_at (L : List Int) (k i : Nat) (h : i < (endsOf L k).length) : (endsOf L k)[i] = st L (i + 1) := by simp [endsOf]
theorem ends_succ (L : List Int) (k : Nat) : (endsOf L (k + 1)).map iV = (endsOf L k).map iV ++ [iV (st L (k + 1))] := by
  unfold endsOf
  rw [List.range_succ, List.map_append, List.map_append]
  rfl
/-- bounds of these lengths; all that they hold lies at base or above -/
def BAt (w : World) (base b : Nat) (L : List Int) : Prop := ∃ (E : Option Addr) (c : Nat), base ≤ b ∧ Blk w b 46 #[.slice E L.length c] ∧ w.ownsRow base 3 1 (.slice E L.length c) L.length ((endsOf L L.length).map iV) ∧ Gd L
theorem BAt.from_ {w w' : World} {base b : Nat} {L : List Int} (h : BAt w base b L) (hF : From w w') : BAt w' base b L :=
  let ⟨E, c, h1, h2, h3, h4⟩ := h
  ⟨E, c, h1, h2.from_ hF, h3.kept_from hF, h4⟩
theorem BAt.grown {w w' : World} {base b : Nat} {L : List Int} {r : Option Nat} (h : BAt w base b L) (hg : w.grownBy w' r) (hne : ∀ k, r = some k → k < base) : BAt w' base b L :=
  let ⟨E, c, h1, h2, h3, h4⟩ := h
  ⟨E, c, h1, h2.grown hg (fun k hk => by have := hne k hk; omega), own_kept h3 hg hne, h4⟩
theorem BAt.le {w : World} {base base' b : Nat} {L : List Int} (h : BAt w base b L) (hb : base' ≤ base) : BAt w base' b L :=
  let ⟨E, c, h1, h2, h3, h4⟩ := h
  ⟨E, c, Nat.le_trans hb h1, h2, own_le h3 hb, h4⟩
def NewGot (w w' : World) (L : List Int) (v : Value) : Prop := (lensE L ≠ 0 ∧ v = .tuple #[.pointer none, .int .i64 (lensE L)]) ∨ (lensE L = 0 ∧ ∃ b, v = .tuple #[.pointer (some ⟨b, 0, none⟩), .int .i64 0] ∧ BAt w' w.heap.size b L)
set_option maxRecDepth 100000 in
set_option maxHeartbeats 1000000 in
theorem new_rt (A : Option Addr) (c : Nat) (L : List Int) (w : World) (hr : RowOf iV w A L) (hb64 : ∀ x ∈ L, -9223372036854775808 ≤ x ∧ x ≤ 9223372036854775807) (hl : L.length ≤ 1000000000000) :
    Rt Try.prog 18 [.slice A L.length c] w (fun v w' => NewGot w w' L v ∧ From w w') := by
  refine enter (n := 50) Try.func18 rfl rfl rfl ?_
  refine cd_seq ?_
  refine cd_region ?_
  refine st_val (ro_assign (v := .pointer _) rfl) ?_
  refine st_val (ro_assign (v := .int _ _) rfl) ?_
  refine st_nil ?_
  refine nx_then ?_
  refine cd_seq ?_
  refine cd_seq ?_
  refine cd_region ?_
  refine st_val (ro_move (v := .slice _ _ _) rfl) ?_
  refine st_val (ro_len BndWalks_l22 rfl) ?_
  refine st_val (ro_move (v := .int _ _) rfl) ?_
  refine st_nil ?_
  refine nx_then ?_
  refine cd_block ?_
  refine cd_loop (G := Nat) [2, 3, 5, 13, 14, 15, 16, 17, 18] (fun k => [(12, .int .i64 (k : Nat))]) (fun k w' => k ≤ L.length ∧ (∀ i (h : i < L.length), i < k → 0 ≤ L[i]) ∧ From w w') (fun k => L.length - k) (0) ⟨rfl, trivial⟩ ?_ ?_
  · exact ⟨Nat.zero_le _, fun i h h0 => absurd h0 (by omega), From.rfl_⟩
  rintro k ρ1 w1 ⟨hk, hp, hB⟩
  refine cd_seq ?_
  refine cd_region ?_
  refine st_val (ro_lss rfl rfl) ?_
  refine st_nil ?_
  refine nx_then ?_
  refine cd_seq ?_
  refine cd_cond rfl (fun Q2 => ?_) (fun Q2 => ?_)
  · (try first | replace Q2 := bn_t Q2 | replace Q2 := bn_f Q2)
    (try first | replace Q2 := bx_t Q2 | replace Q2 := bx_f Q2 | replace Q2 := be_t Q2 | replace Q2 := be_f Q2 | replace Q2 := of_decide_eq_true Q2 | replace Q2 := of_decide_eq_false Q2)
    obtain ⟨ba, oa, rfl, hca⟩ := hr (by omega)
    first
     | (exfalso; first | omega | contradiction | (cases Q2; done))
     | skip
       refine cd_skip ?_
       refine nx_then ?_
       refine cd_seq ?_
       refine cd_block ?_
       refine cd_seq ?_
       refine cd_region ?_
       refine st_val (ro_indexAddr1 BndWalks_e22 rfl rfl (by omega)) ?_
       refine st_val (ro_load BndWalks_g3 rfl (by exact cellF hB (hca k (by omega)))) ?_
       refine st_val (ro_assign (v := .int _ _) rfl) ?_
       refine st_nil ?_
       refine nx_then ?_
       refine cd_seq ?_
       refine cd_region ?_
       refine st_val (ro_move (v := .int _ _) rfl) ?_
       refine st_val (ro_lss rfl rfl) ?_
       refine st_nil ?_
       refine nx_then ?_
       refine cd_cond rfl (fun Q3 => ?_) (fun Q3 => ?_)
       · (try first | replace Q3 := bn_t Q3 | replace Q3 := bn_f Q3)
         (try first | replace Q3 := bx_t Q3 | replace Q3 := bx_f Q3 | replace Q3 := be_t Q3 | replace Q3 := be_f Q3 | replace Q3 := of_decide_eq_true Q3 | replace Q3 := of_decide_eq_false Q3)
         first
          | (exfalso; first | omega | contradiction | (cases Q3; done))
          | skip
            refine cd_seq ?_
            refine cd_region ?_
            refine st_val (ro_assign (v := .pointer _) rfl) ?_
            refine st_val (ro_assign (v := .int _ _) rfl) ?_
            refine st_nil ?_
            refine nx_then ?_
            refine cd_ret ?_
            refine rt_block ?_
            refine rt_then ?_
            refine rt_then ?_
            refine rt_block ?_
            refine rt_then ?_
            refine res2 (v := .pointer _) (v' := .int _ _) rfl rfl rfl ?_
            exact ⟨.inl ⟨by rw [lens1 (i := k) (by omega) (by omega)]; decide, by rw [lens1 (i := k) (by omega) (by omega)]⟩, hB⟩
       · (try first | replace Q3 := bn_t Q3 | replace Q3 := bn_f Q3)
         (try first | replace Q3 := bx_t Q3 | replace Q3 := bx_f Q3 | replace Q3 := be_t Q3 | replace Q3 := be_f Q3 | replace Q3 := of_decide_eq_true Q3 | replace Q3 := of_decide_eq_false Q3)
         first
          | (exfalso; first | omega | contradiction | (cases Q3; done))
          | skip
            refine cd_skip ?_
            refine nx_block ?_
            refine nx_then ?_
            refine cd_region ?_
            refine st_val (ro_addN (b := 1) rfl rfl (by omega)) ?_
            refine st_val (ro_move (v := .int _ _) rfl) ?_
            refine st_nil ?_
            refine nx_cut (k + 1) ⟨(by first | rfl | (refine int_eq ?_; omega)), trivial⟩ (by (iterate 18 refine agr_cons rfl ?_); exact agr_rfl) ⟨?_, ?_⟩
            · refine ⟨by omega, fun i h hi => ?_, hB⟩
              rcases Nat.lt_or_ge i k with a | a
              · exact hp i h a
              · obtain rfl : i = k := by omega
                omega
            · omega
  · (try first | replace Q2 := bn_t Q2 | replace Q2 := bn_f Q2)
    (try first | replace Q2 := bx_t Q2 | replace Q2 := bx_f Q2 | replace Q2 := be_t Q2 | replace Q2 := be_f Q2 | replace Q2 := of_decide_eq_true Q2 | replace Q2 := of_decide_eq_false Q2)
    first
     | (exfalso; first | omega | contradiction | (cases Q2; done))
     | skip
       refine cd_exit ?_
       refine ex_then ?_
       refine ex_then ?_
       refine ex_block ?_
       refine nx_then ?_
       refine cd_seq ?_
       refine cd_seq ?_
       refine cd_region ?_
       have hpos : ∀ i (h : i < L.length), 0 ≤ L[i] := fun i h => hp i h (by omega)
       refine st_val (ro_move (v := .slice _ _ _) rfl) ?_
       refine st_val (ro_len BndWalks_l22 rfl) ?_
       refine st_val (ro_gtr rfl rfl) ?_
       refine st_nil ?_
       refine nx_then ?_
       refine cd_cond rfl (fun Q4 => ?_) (fun Q4 => ?_)
       · (try first | replace Q4 := bn_t Q4 | replace Q4 := bn_f Q4)
         (try first | replace Q4 := bx_t Q4 | replace Q4 := bx_f Q4 | replace Q4 := be_t Q4 | replace Q4 := be_f Q4 | replace Q4 := of_decide_eq_true Q4 | replace Q4 := of_decide_eq_false Q4)
         first
          | (exfalso; first | omega | contradiction | (cases Q4; done))
          | skip
            refine cd_seq ?_
            refine cd_region ?_
            refine st_val (ro_assign (v := .pointer _) rfl) ?_
            refine st_val (ro_assign (v := .int _ _) rfl) ?_
            refine st_nil ?_
            refine nx_then ?_
            refine cd_ret ?_
            refine rt_then ?_
            refine res2 (v := .pointer _) (v' := .int _ _) rfl rfl rfl ?_
            exact ⟨.inl ⟨by rw [lens2 hpos (by omega)]; decide, by rw [lens2 hpos (by omega)]⟩, hB⟩
       · (try first | replace Q4 := bn_t Q4 | replace Q4 := bn_f Q4)
         (try first | replace Q4 := bx_t Q4 | replace Q4 := bx_f Q4 | replace Q4 := be_t Q4 | replace Q4 := be_f Q4 | replace Q4 := of_decide_eq_true Q4 | replace Q4 := of_decide_eq_false Q4)
         first
          | (exfalso; first | omega | contradiction | (cases Q4; done))
          | skip
            refine cd_skip ?_
            refine nx_then ?_
            refine cd_seq ?_
            refine cd_region ?_
            refine st_val (ro_build (l := []) (BndWalks_b46_)) ?_
            refine st_box (v := .agg _) rfl ?_
            intro b23 w5 E23 hb23 hk23
            have hg23 : w.heap.size ≤ b23 := by rw [hb23]; exact (hB).size
            refine st_val (ro_assign (v := .pointer _) rfl) ?_
            refine st_nil ?_
            refine nx_then ?_
            refine cd_seq ?_
            refine cd_region ?_
            refine st_val (ro_assign (v := .int _ _) rfl) ?_
            refine st_nil ?_
            refine nx_then ?_
            refine cd_seq ?_
            refine cd_seq ?_
            refine cd_region ?_
            refine st_val (ro_move (v := .slice _ _ _) rfl) ?_
            refine st_val (ro_len BndWalks_l22 rfl) ?_
            refine st_val (ro_move (v := .int _ _) rfl) ?_
            refine st_nil ?_
            refine nx_then ?_
            refine cd_block ?_
            refine cd_loop (G := Nat × Option Addr × Nat) [2, 3, 9, 27, 28, 29, 30, 31, 32, 33, 34, 35, 36, 37, 38, 39, 40, 41, 42, 43, 44, 45, 46, 47, 48] (fun (k, E, c2) => [(26, .int .i64 (k : Nat)), (7, .int .i64 (st L k))]) (fun (k, E, c2) w' => k ≤ L.length ∧ (∀ i (h : i < L.length), i < k → L[i] < 131072 - st L i) ∧ Blk w' b23 46 #[.slice E k c2] ∧ w'.ownsRow w.heap.size 3 1 (.slice E k c2) k ((endsOf L k).map iV) ∧ From w w') (fun (k, _, _) => L.length - k) ((0, none, 0)) ⟨rfl, rfl, trivial⟩ ?_ ?_
            · exact ⟨Nat.zero_le _, fun i h h0 => absurd h0 (by omega), hk23, World.ownsRow_nil _ _ _ _, (hB.next E23)⟩
            rintro ⟨k, E, c2⟩ ρ6 w6 ⟨hk, hf, hV, ho, hB⟩
            have hst := st_part hpos k hk hf
            refine cd_seq ?_
            refine cd_region ?_
            refine st_val (ro_lss rfl rfl) ?_
            refine st_nil ?_
            refine nx_then ?_
            refine cd_seq ?_
            refine cd_cond rfl (fun Q7 => ?_) (fun Q7 => ?_)
            · (try first | replace Q7 := bn_t Q7 | replace Q7 := bn_f Q7)
              (try first | replace Q7 := bx_t Q7 | replace Q7 := bx_f Q7 | replace Q7 := be_t Q7 | replace Q7 := be_f Q7 | replace Q7 := of_decide_eq_true Q7 | replace Q7 := of_decide_eq_false Q7)
              obtain ⟨ba, oa, rfl, hca⟩ := hr (by omega)
              have hpk := hpos k (by omega)
              first
               | (exfalso; first | omega | contradiction | (cases Q7; done))
               | skip
                 refine cd_skip ?_
                 refine nx_then ?_
                 refine cd_seq ?_
                 refine cd_block ?_
                 refine cd_seq ?_
                 refine cd_region ?_
                 refine st_val (ro_indexAddr1 BndWalks_e22 rfl rfl (by omega)) ?_
                 refine st_val (ro_load BndWalks_g3 rfl (by exact cellF hB (hca k (by omega)))) ?_
                 refine st_val (ro_assign (v := .int _ _) rfl) ?_
                 refine st_nil ?_
                 refine nx_then ?_
                 refine cd_seq ?_
                 refine cd_seq ?_
                 refine cd_region ?_
                 refine st_val (ro_move (v := .int _ _) rfl) ?_
                 refine st_val (ro_move (v := .int _ _) rfl) ?_
                 refine st_val (ro_sub64 rfl rfl (by omega)) ?_
                 refine st_val (ro_geq rfl rfl) ?_
                 refine st_nil ?_
                 refine nx_then ?_
                 refine cd_cond rfl (fun Q8 => ?_) (fun Q8 => ?_)
                 · (try first | replace Q8 := bn_t Q8 | replace Q8 := bn_f Q8)
                   (try first | replace Q8 := bx_t Q8 | replace Q8 := bx_f Q8 | replace Q8 := be_t Q8 | replace Q8 := be_f Q8 | replace Q8 := of_decide_eq_true Q8 | replace Q8 := of_decide_eq_false Q8)
                   first
                    | (exfalso; first | omega | contradiction | (cases Q8; done))
                    | skip
                      refine cd_seq ?_
                      refine cd_region ?_
                      refine st_val (ro_assign (v := .pointer _) rfl) ?_
                      refine st_val (ro_assign (v := .int _ _) rfl) ?_
                      refine st_nil ?_
                      refine nx_then ?_
                      refine cd_ret ?_
                      refine rt_then ?_
                      refine rt_block ?_
                      refine rt_then ?_
                      refine rt_then ?_
                      refine rt_block ?_
                      refine rt_then ?_
                      refine res2 (v := .pointer _) (v' := .int _ _) rfl rfl rfl ?_
                      exact ⟨.inl ⟨by rw [lens3 hpos (by omega) (i := k) (by omega) (by omega)]; decide, by rw [lens3 hpos (by omega) (i := k) (by omega) (by omega)]⟩, hB⟩
                 · (try first | replace Q8 := bn_t Q8 | replace Q8 := bn_f Q8)
                   (try first | replace Q8 := bx_t Q8 | replace Q8 := bx_f Q8 | replace Q8 := be_t Q8 | replace Q8 := be_f Q8 | replace Q8 := of_decide_eq_true Q8 | replace Q8 := of_decide_eq_false Q8)
                   first
                    | (exfalso; first | omega | contradiction | (cases Q8; done))
                    | skip
                      refine cd_skip ?_
                      refine nx_then ?_
                      refine cd_seq ?_
                      refine cd_region ?_
                      refine st_val (ro_move (v := .int _ _) rfl) ?_
                      refine st_val (ro_move (v := .int _ _) rfl) ?_
                      refine st_val (ro_add64 rfl rfl (by omega)) ?_
                      refine st_val (ro_add64 rfl rfl (by omega)) ?_
                      refine st_val (ro_assign (v := .int _ _) rfl) ?_
                      refine st_nil ?_
                      refine nx_then ?_
                      refine cd_region ?_
                      refine st_val (ro_move (v := .pointer _) rfl) ?_
                      refine st_val (ro_move (v := .pointer _) rfl) ?_
                      refine st_val (ro_nilCheck rfl) ?_
                      refine st_val (ro_fieldAddr BndWalks_f46_0 rfl) ?_
                      refine st_val (ro_load BndWalks_g22 rfl (by exact hV.rd 0 rfl)) ?_
                      refine st_val (ro_move (v := .int _ _) rfl) ?_
                      refine st_lit1 (v := .int _ _) BndWalks_q22 rfl rfl rfl ?_
                      intro b44 w9 E44 hb44 hk44
                      refine st_push1 (a0 := w) BndWalks_q22 rfl rfl (ho.kept_from E44) (hB.next E44) rfl hk44 rfl (by omega) (by omega) ?_
                      intro A45 c45 w10 ho45 B45 hg45
                      replace hV := (hV.from_ E44).grown hg45 (own_off (ho.kept_from E44) (hV.from_ E44) (by decide))
                      refine st_val (ro_nilCheck rfl) ?_
                      refine st_val (ro_fieldAddr BndWalks_f46_0 rfl) ?_
                      refine st_put (v := .slice _ _ _) BndWalks_z22 rfl rfl rfl (hV) (by simp) ?_
                      intro w11 O17 P17
                      refine st_nil ?_
                      refine nx_block ?_
                      refine nx_then ?_
                      refine cd_region ?_
                      refine st_val (ro_addN (b := 1) rfl rfl (by omega)) ?_
                      refine st_val (ro_move (v := .int _ _) rfl) ?_
                      refine st_nil ?_
                      refine nx_cut ((k + 1, A45, c45)) ⟨rfl, (int_eq (by rw [st_succ (by omega)]; omega)), trivial⟩ (by (iterate 52 refine agr_cons rfl ?_); exact agr_rfl) ⟨?_, ?_⟩
                      · refine ⟨by omega, fun i h hi => ?_, by simpa using P17, ?_, (B45.only O17 (hg23))⟩
                        · rcases Nat.lt_or_ge i k with a | a
                          · exact hf i h a
                          · obtain rfl : i = k := by omega
                            omega
                        · rw [ends_succ, st_succ (by omega), show st L k + L[k] + 1 = st L k + (L[k] + 1) by omega]
                          exact own_only3 ho45 O17 (own_off ho45 hV (by decide))
                      · show L.length - (k + 1) < L.length - k; omega
            · (try first | replace Q7 := bn_t Q7 | replace Q7 := bn_f Q7)
              (try first | replace Q7 := bx_t Q7 | replace Q7 := bx_f Q7 | replace Q7 := be_t Q7 | replace Q7 := be_f Q7 | replace Q7 := of_decide_eq_true Q7 | replace Q7 := of_decide_eq_false Q7)
              first
               | (exfalso; first | omega | contradiction | (cases Q7; done))
               | skip
                 refine cd_exit ?_
                 refine ex_then ?_
                 refine ex_then ?_
                 refine ex_block ?_
                 refine nx_then ?_
                 refine cd_seq ?_
                 refine cd_region ?_
                 refine st_val (ro_move (v := .pointer _) rfl) ?_
                 refine st_val (ro_assign (v := .pointer _) rfl) ?_
                 refine st_val (ro_assign (v := .int _ _) rfl) ?_
                 refine st_nil ?_
                 refine nx_then ?_
                 refine cd_ret ?_
                 refine res2 (v := .pointer _) (v' := .int _ _) rfl rfl rfl ?_
                 obtain rfl : k = L.length := by omega
                 have hG : Gd L := ⟨hpos, by omega, fun i h => hf i h h⟩
                 exact ⟨.inr ⟨lens0 hG, b23, rfl, E, c2, hg23, hV, ho, hG⟩, hB⟩
set_option maxRecDepth 100000 in
set_option maxHeartbeats 400000 in
theorem count_rt (base b : Nat) (L : List Int) (w : World) (hv : BAt w base b L) :
    Rt Try.prog 10 [.pointer (some ⟨b, 0, none⟩)] w (fun v w' => v = .int .i64 (L.length : Nat) ∧ w = w') := by
  obtain ⟨E, ce, hb0, hV, ho, hG⟩ := hv
  refine enter (n := 8) Try.func10 rfl rfl rfl ?_
  refine cd_seq ?_
  refine cd_region ?_
  refine st_val (ro_assign (v := .int _ _) rfl) ?_
  refine st_nil ?_
  refine nx_then ?_
  refine cd_seq ?_
  refine cd_region ?_
  refine st_val (ro_move (v := .pointer _) rfl) ?_
  refine st_val (ro_nilCheck rfl) ?_
  refine st_val (ro_fieldAddr BndWalks_f46_0 rfl) ?_
  refine st_val (ro_load BndWalks_g22 rfl (by exact hV.rd 0 rfl)) ?_
  refine st_val (ro_len BndWalks_l22 rfl) ?_
  refine st_val (ro_assign (v := .int _ _) rfl) ?_
  refine st_nil ?_
  refine nx_then ?_
  refine cd_ret ?_
  refine res1 (v := .int _ _) rfl rfl ?_
  exact ⟨rfl, rfl⟩
set_option maxRecDepth 100000 in
set_option maxHeartbeats 400000 in
theorem start_rt (base b : Nat) (L : List Int) (w : World) (hv : BAt w base b L) (i : Nat) (hi : i ≤ L.length) :
    Rt Try.prog 22 [.pointer (some ⟨b, 0, none⟩), .int .i64 (i : Nat)] w (fun v w' => v = .int .i64 (st L i) ∧ w = w') := by
  obtain ⟨E, ce, hb0, hV, ho, hG⟩ := hv
  have hGl := hG.len
  refine enter (n := 15) Try.func22 rfl rfl rfl ?_
  refine cd_seq ?_
  refine cd_region ?_
  refine st_val (ro_assign (v := .int _ _) rfl) ?_
  refine st_nil ?_
  refine nx_then ?_
  refine cd_seq ?_
  refine cd_seq ?_
  refine cd_region ?_
  refine st_val (ro_move (v := .int _ _) rfl) ?_
  refine st_val (ro_eql rfl rfl) ?_
  refine st_nil ?_
  refine nx_then ?_
  refine cd_cond rfl (fun Q1 => ?_) (fun Q1 => ?_)
  · (try first | replace Q1 := bn_t Q1 | replace Q1 := bn_f Q1)
    (try first | replace Q1 := bx_t Q1 | replace Q1 := bx_f Q1 | replace Q1 := be_t Q1 | replace Q1 := be_f Q1 | replace Q1 := of_decide_eq_true Q1 | replace Q1 := of_decide_eq_false Q1)
    first
     | (exfalso; first | omega | contradiction | (cases Q1; done))
     | skip
       refine cd_seq ?_
       refine cd_region ?_
       refine st_val (ro_assign (v := .int _ _) rfl) ?_
       refine st_nil ?_
       refine nx_then ?_
       refine cd_ret ?_
       refine rt_then ?_
       refine res1 (v := .int _ _) rfl rfl ?_
       obtain rfl : i = 0 := by omega
       exact ⟨rfl, rfl⟩
  · (try first | replace Q1 := bn_t Q1 | replace Q1 := bn_f Q1)
    (try first | replace Q1 := bx_t Q1 | replace Q1 := bx_f Q1 | replace Q1 := be_t Q1 | replace Q1 := be_f Q1 | replace Q1 := of_decide_eq_true Q1 | replace Q1 := of_decide_eq_false Q1)
    first
     | (exfalso; first | omega | contradiction | (cases Q1; done))
     | skip
       refine cd_skip ?_
       refine nx_then ?_
       refine cd_seq ?_
       refine cd_region ?_
       obtain ⟨ge, rfl⟩ := own_some ho (by omega)
       refine st_val (ro_move (v := .pointer _) rfl) ?_
       refine st_val (ro_nilCheck rfl) ?_
       refine st_val (ro_fieldAddr BndWalks_f46_0 rfl) ?_
       refine st_val (ro_load BndWalks_g22 rfl (by exact hV.rd 0 rfl)) ?_
       refine st_val (ro_move (v := .int _ _) rfl) ?_
       refine st_val (ro_subN (b := 1) rfl rfl (by omega)) ?_
       refine st_val (ro_indexAddr0 BndWalks_e22 rfl rfl (by omega)) ?_
       refine st_val (ro_load BndWalks_g3 rfl (by exact own_cell ho (i - 1) (by rw [ends_len]; omega))) ?_
       refine st_spell (t := 14) (v := .int _ _) (v' := .int .i64 (st L i)) rfl (by rw [ends_at, show i - 1 + 1 = i by omega]) ?_
       refine st_val (ro_assign (v := .int _ _) rfl) ?_
       refine st_nil ?_
       refine nx_then ?_
       refine cd_ret ?_
       refine res1 (v := .int _ _) rfl rfl ?_
       exact ⟨rfl, rfl⟩
set_option maxRecDepth 100000 in
set_option maxHeartbeats 400000 in
theorem all_rt (base b : Nat) (L : List Int) (w : World) (hv : BAt w base b L) :
    Rt Try.prog 11 [.pointer (some ⟨b, 0, none⟩)] w (fun v w' => v = .int .i64 (st L L.length) ∧ w = w') := by
  have hvv := hv
  obtain ⟨E, ce, hb0, hV, ho, hG⟩ := hv
  refine enter (n := 10) Try.func11 rfl rfl rfl ?_
  refine cd_seq ?_
  refine cd_region ?_
  refine st_val (ro_assign (v := .int _ _) rfl) ?_
  refine st_nil ?_
  refine nx_then ?_
  refine cd_seq ?_
  refine cd_region ?_
  refine st_val (ro_move (v := .pointer _) rfl) ?_
  refine st_val (ro_move (v := .pointer _) rfl) ?_
  refine st_val (ro_nilCheck rfl) ?_
  refine st_val (ro_fieldAddr BndWalks_f46_0 rfl) ?_
  refine st_val (ro_load BndWalks_g22 rfl (by exact hV.rd 0 rfl)) ?_
  refine st_val (ro_len BndWalks_l22 rfl) ?_
  refine st_call BndWalks_k22 (start_rt base b L _ hvv L.length (Nat.le_refl _)) ?_
  rintro v9 w1 ⟨rfl, rfl⟩
  refine st_val (ro_assign (v := .int _ _) rfl) ?_
  refine st_nil ?_
  refine nx_then ?_
  refine cd_ret ?_
  refine res1 (v := .int _ _) rfl rfl ?_
  exact ⟨rfl, rfl⟩
def sV (L : List Int) (i : Int) : Int := if 0 ≤ i ∧ i < L.length then st L i.toNat else 0
def nV (L : List Int) (i : Int) : Int := if 0 ≤ i ∧ i < L.length then L.getD i.toNat 0 else 0
def sE (L : List Int) (i : Int) : Int := if 0 ≤ i ∧ i < L.length then 0 else 3
set_option maxRecDepth 100000 in
set_option maxHeartbeats 400000 in
theorem starts_rt (base b : Nat) (L : List Int) (w : World) (hv : BAt w base b L) (i : Int) :
    Rt Try.prog 13 [.pointer (some ⟨b, 0, none⟩), .int .i64 i] w (fun v w' => v = .tuple #[.int .i64 (sV L i), .int .i64 (sE L i)] ∧ From w w') := by
  have hvv := hv
  obtain ⟨E, ce, hb0, hV, ho, hG⟩ := hv
  refine enter (n := 20) Try.func13 rfl rfl rfl ?_
  refine cd_seq ?_
  refine cd_region ?_
  refine st_val (ro_assign (v := .int _ _) rfl) ?_
  refine st_val (ro_assign (v := .int _ _) rfl) ?_
  refine st_nil ?_
  refine nx_then ?_
  refine cd_seq ?_
  refine cd_seq ?_
  refine cd_region ?_
  refine st_val (ro_move (v := .int _ _) rfl) ?_
  refine st_val (ro_lss rfl rfl) ?_
  refine st_val (ro_move (v := .bool _) rfl) ?_
  refine st_split (t := 8) rfl (fun Q1 => ?_) (fun Q1 => ?_)
  · (try first | replace Q1 := bn_t Q1 | replace Q1 := bn_f Q1)
    (try first | replace Q1 := bx_t Q1 | replace Q1 := bx_f Q1 | replace Q1 := be_t Q1 | replace Q1 := be_f Q1 | replace Q1 := of_decide_eq_true Q1 | replace Q1 := of_decide_eq_false Q1)
    first
     | (exfalso; first | omega | contradiction | (cases Q1; done))
     | skip
       refine st_gno rfl rfl ?_
       refine st_gno rfl rfl ?_
       refine st_gno rfl rfl ?_
       refine st_gno rfl rfl ?_
       refine st_gno rfl rfl ?_
       refine st_gno rfl rfl ?_
       refine st_gno rfl rfl ?_
       refine st_val (ro_pickT (v := .bool _) rfl rfl) ?_
       refine st_nil ?_
       refine nx_then ?_
       refine cd_condT rfl ?_
       refine cd_seq ?_
       refine cd_region ?_
       refine st_val (ro_assign (v := .int _ _) rfl) ?_
       refine st_val (ro_assign (v := .int _ _) rfl) ?_
       refine st_nil ?_
       refine nx_then ?_
       refine cd_ret ?_
       refine rt_then ?_
       refine res2 (v := .int _ _) (v' := .int _ _) rfl rfl rfl ?_
       refine ⟨?_, From.rfl_⟩
       unfold sE sV
       rw [if_neg (by omega), if_neg (by omega)]
  · (try first | replace Q1 := bn_t Q1 | replace Q1 := bn_f Q1)
    (try first | replace Q1 := bx_t Q1 | replace Q1 := bx_f Q1 | replace Q1 := be_t Q1 | replace Q1 := be_f Q1 | replace Q1 := of_decide_eq_true Q1 | replace Q1 := of_decide_eq_false Q1)
    first
     | (exfalso; first | omega | contradiction | (cases Q1; done))
     | skip
       refine st_unguard rfl ?_
       refine st_val (ro_move (v := .int _ _) rfl) ?_
       refine st_unguard rfl ?_
       refine st_val (ro_move (v := .pointer _) rfl) ?_
       refine st_unguard rfl ?_
       refine st_val (ro_nilCheck rfl) ?_
       refine st_unguard rfl ?_
       refine st_val (ro_fieldAddr BndWalks_f46_0 rfl) ?_
       refine st_unguard rfl ?_
       refine st_val (ro_load BndWalks_g22 rfl (by exact hV.rd 0 rfl)) ?_
       refine st_unguard rfl ?_
       refine st_val (ro_len BndWalks_l22 rfl) ?_
       refine st_unguard rfl ?_
       refine st_val (ro_geq rfl rfl) ?_
       refine st_val (ro_pickF (v := .bool _) rfl rfl) ?_
       refine st_nil ?_
       refine nx_then ?_
       refine cd_cond rfl (fun Q2 => ?_) (fun Q2 => ?_)
       · (try first | replace Q2 := bn_t Q2 | replace Q2 := bn_f Q2)
         (try first | replace Q2 := bx_t Q2 | replace Q2 := bx_f Q2 | replace Q2 := be_t Q2 | replace Q2 := be_f Q2 | replace Q2 := of_decide_eq_true Q2 | replace Q2 := of_decide_eq_false Q2)
         first
          | (exfalso; first | omega | contradiction | (cases Q2; done))
          | skip
            refine cd_seq ?_
            refine cd_region ?_
            refine st_val (ro_assign (v := .int _ _) rfl) ?_
            refine st_val (ro_assign (v := .int _ _) rfl) ?_
            refine st_nil ?_
            refine nx_then ?_
            refine cd_ret ?_
            refine rt_then ?_
            refine res2 (v := .int _ _) (v' := .int _ _) rfl rfl rfl ?_
            refine ⟨?_, From.rfl_⟩
            unfold sE sV
            rw [if_neg (by omega), if_neg (by omega)]
       · (try first | replace Q2 := bn_t Q2 | replace Q2 := bn_f Q2)
         (try first | replace Q2 := bx_t Q2 | replace Q2 := bx_f Q2 | replace Q2 := be_t Q2 | replace Q2 := be_f Q2 | replace Q2 := of_decide_eq_true Q2 | replace Q2 := of_decide_eq_false Q2)
         first
          | (exfalso; first | omega | contradiction | (cases Q2; done))
          | skip
            refine cd_skip ?_
            refine nx_then ?_
            refine cd_seq ?_
            refine cd_region ?_
            obtain ⟨q, rfl⟩ : ∃ q : Nat, i = (q : Int) := ⟨i.toNat, by omega⟩
            refine st_val (ro_move (v := .pointer _) rfl) ?_
            refine st_val (ro_move (v := .int _ _) rfl) ?_
            refine st_call BndWalks_k22 (start_rt base b L _ hvv q (by omega)) ?_
            rintro v19 w3 ⟨rfl, rfl⟩
            refine st_val (ro_assign (v := .int _ _) rfl) ?_
            refine st_val (ro_assign (v := .int _ _) rfl) ?_
            refine st_nil ?_
            refine nx_then ?_
            refine cd_ret ?_
            refine res2 (v := .int _ _) (v' := .int _ _) rfl rfl rfl ?_
            refine ⟨?_, From.rfl_⟩
            unfold sE sV
            rw [if_pos (by omega), if_pos (by omega)]
            rfl
set_option maxRecDepth 100000 in
set_option maxHeartbeats 400000 in
theorem size_in (base b : Nat) (L : List Int) (w : World) (hv : BAt w base b L) (q : Nat) (hq : q < L.length) :
    Rt Try.prog 14 [.pointer (some ⟨b, 0, none⟩), .int .i64 (q : Nat)] w (fun v w' => v = .tuple #[.int .i64 (L[q]), .int .i64 0] ∧ From w w') := by
  have hvv := hv
  obtain ⟨E, ce, hb0, hV, ho, hG⟩ := hv
  obtain ⟨ge, rfl⟩ := own_some ho (by omega)
  have hs1 := hG.st (k := q) (by omega)
  have hs2 := hG.st (k := q + 1) (by omega)
  have hs3 := st_succ hq
  refine enter (n := 29) Try.func14 rfl rfl rfl ?_
  refine cd_seq ?_
  refine cd_region ?_
  refine st_val (ro_assign (v := .int _ _) rfl) ?_
  refine st_val (ro_assign (v := .int _ _) rfl) ?_
  refine st_nil ?_
  refine nx_then ?_
  refine cd_seq ?_
  refine cd_seq ?_
  refine cd_region ?_
  refine st_val (ro_move (v := .int _ _) rfl) ?_
  refine st_val (ro_lss rfl rfl) ?_
  refine st_val (ro_move (v := .bool _) rfl) ?_
  refine st_split (t := 8) rfl (fun Q1 => ?_) (fun Q1 => ?_)
  · (try first | replace Q1 := bn_t Q1 | replace Q1 := bn_f Q1)
    (try first | replace Q1 := bx_t Q1 | replace Q1 := bx_f Q1 | replace Q1 := be_t Q1 | replace Q1 := be_f Q1 | replace Q1 := of_decide_eq_true Q1 | replace Q1 := of_decide_eq_false Q1)
    first
     | (exfalso; first | omega | contradiction | (cases Q1; done))
     | skip
       refine st_gno rfl rfl ?_
       refine st_gno rfl rfl ?_
       refine st_gno rfl rfl ?_
       refine st_gno rfl rfl ?_
       refine st_gno rfl rfl ?_
       refine st_gno rfl rfl ?_
       refine st_gno rfl rfl ?_
       refine st_val (ro_pickT (v := .bool _) rfl rfl) ?_
       refine st_nil ?_
       refine nx_then ?_
       refine cd_condT rfl ?_
       refine cd_seq ?_
       refine cd_region ?_
       refine st_val (ro_assign (v := .int _ _) rfl) ?_
       refine st_val (ro_assign (v := .int _ _) rfl) ?_
       refine st_nil ?_
       refine nx_then ?_
       refine cd_ret ?_
       refine rt_then ?_
       refine res2 (v := .int _ _) (v' := .int _ _) rfl rfl rfl ?_
       exfalso; omega
  · (try first | replace Q1 := bn_t Q1 | replace Q1 := bn_f Q1)
    (try first | replace Q1 := bx_t Q1 | replace Q1 := bx_f Q1 | replace Q1 := be_t Q1 | replace Q1 := be_f Q1 | replace Q1 := of_decide_eq_true Q1 | replace Q1 := of_decide_eq_false Q1)
    first
     | (exfalso; first | omega | contradiction | (cases Q1; done))
     | skip
       refine st_unguard rfl ?_
       refine st_val (ro_move (v := .int _ _) rfl) ?_
       refine st_unguard rfl ?_
       refine st_val (ro_move (v := .pointer _) rfl) ?_
       refine st_unguard rfl ?_
       refine st_val (ro_nilCheck rfl) ?_
       refine st_unguard rfl ?_
       refine st_val (ro_fieldAddr BndWalks_f46_0 rfl) ?_
       refine st_unguard rfl ?_
       refine st_val (ro_load BndWalks_g22 rfl (by exact hV.rd 0 rfl)) ?_
       refine st_unguard rfl ?_
       refine st_val (ro_len BndWalks_l22 rfl) ?_
       refine st_unguard rfl ?_
       refine st_val (ro_geq rfl rfl) ?_
       refine st_val (ro_pickF (v := .bool _) rfl rfl) ?_
       refine st_nil ?_
       refine nx_then ?_
       refine cd_cond rfl (fun Q2 => ?_) (fun Q2 => ?_)
       · (try first | replace Q2 := bn_t Q2 | replace Q2 := bn_f Q2)
         (try first | replace Q2 := bx_t Q2 | replace Q2 := bx_f Q2 | replace Q2 := be_t Q2 | replace Q2 := be_f Q2 | replace Q2 := of_decide_eq_true Q2 | replace Q2 := of_decide_eq_false Q2)
         first
          | (exfalso; first | omega | contradiction | (cases Q2; done))
          | skip
            refine cd_seq ?_
            refine cd_region ?_
            refine st_val (ro_assign (v := .int _ _) rfl) ?_
            refine st_val (ro_assign (v := .int _ _) rfl) ?_
            refine st_nil ?_
            refine nx_then ?_
            refine cd_ret ?_
            refine rt_then ?_
            refine res2 (v := .int _ _) (v' := .int _ _) rfl rfl rfl ?_
            exfalso; omega
       · (try first | replace Q2 := bn_t Q2 | replace Q2 := bn_f Q2)
         (try first | replace Q2 := bx_t Q2 | replace Q2 := bx_f Q2 | replace Q2 := be_t Q2 | replace Q2 := be_f Q2 | replace Q2 := of_decide_eq_true Q2 | replace Q2 := of_decide_eq_false Q2)
         first
          | (exfalso; first | omega | contradiction | (cases Q2; done))
          | skip
            refine cd_skip ?_
            refine nx_then ?_
            refine cd_seq ?_
            apply cd_drawn 14 [(17, eqp _), (18, eqp _), (19, eqp _), (20, eqp _), (21, eqp _), (22, eqp _), (23, eqp _), (24, eqp _), (25, eqp _), (26, eqp _), (27, eqp _), (28, eqp _), (4, eqp _), (5, eqp _)] (by kernel_rfl) (by kernel_rfl) ⟨eqp_mono _, eqp_mono _, eqp_mono _, eqp_mono _, eqp_mono _, eqp_mono _, eqp_mono _, eqp_mono _, eqp_mono _, eqp_mono _, eqp_mono _, eqp_mono _, eqp_mono _, eqp_mono _, trivial⟩
            case hop =>
             refine ⟨?_, ?_⟩
             · intro w4 D4
               show OpOK _ _ _ _ _ _ _
               exact ok_pure (ro_move (v := .pointer _) rfl) rfl
             refine ⟨?_, ?_⟩
             · intro w5 D5
               rintro _ rfl
               show OpOK _ _ _ _ _ _ _
               exact ok_pure (ro_nilCheck rfl) rfl
             refine ⟨?_, ?_⟩
             · intro w6 D6
               rintro _ rfl
               show OpOK _ _ _ _ _ _ _
               exact ok_pure (ro_fieldAddr BndWalks_f46_0 rfl) rfl
             refine ⟨?_, ?_⟩
             · intro w7 D7
               rintro _ rfl
               show OpOK _ _ _ _ _ _ _
               exact ok_pure (ro_load BndWalks_g22 rfl (by exact (hV.from_ (From.rfl_.next D7)).rd 0 rfl)) rfl
             refine ⟨?_, ?_⟩
             · intro w8 D8
               show OpOK _ _ _ _ _ _ _
               exact ok_pure (ro_move (v := .int _ _) rfl) rfl
             refine ⟨?_, ?_⟩
             · intro w9 D9
               rintro _ rfl _ rfl
               show OpOK _ _ _ _ _ _ _
               exact ok_pure (ro_indexAddr0 BndWalks_e22 rfl rfl (by omega)) rfl
             refine ⟨?_, ?_⟩
             · intro w10 D10
               rintro _ rfl
               show OpOK _ _ _ _ _ _ _
               exact ok_pure (ro_load BndWalks_g3 rfl (by exact own_cell (ho.kept_from (From.rfl_.next D10)) q (by rw [ends_len]; omega))) rfl
             refine ⟨?_, ?_⟩
             · intro w11 D11
               show OpOK _ _ _ _ _ _ _
               exact ok_pure (ro_move (v := .pointer _) rfl) rfl
             refine ⟨?_, ?_⟩
             · intro w12 D12
               show OpOK _ _ _ _ _ _ _
               exact ok_pure (ro_move (v := .int _ _) rfl) rfl
             refine ⟨?_, ?_⟩
             · intro w13 D13
               rintro _ rfl _ rfl
               show OpOK _ _ _ _ _ _ _
               refine ok_call BndWalks_k22 ((start_rt base b L _ (hvv.from_ (From.rfl_.next D13)) q (by omega)).mono ?_)
               rintro v _ ⟨rfl, rfl⟩; exact ⟨From.rfl_, rfl⟩
             refine ⟨?_, ?_⟩
             · intro w14 D14
               rintro _ rfl _ rfl
               show OpOK _ _ _ _ _ _ _
               exact ok_pure (ro_sub64 rfl rfl (by rw [ends_at]; omega)) rfl
             refine ⟨?_, ?_⟩
             · intro w15 D15
               rintro _ rfl
               show OpOK _ _ _ _ _ _ _
               exact ok_pure (ro_sub64 rfl rfl (by rw [ends_at]; omega)) rfl
             refine ⟨?_, ?_⟩
             · intro w16 D16
               rintro _ rfl
               show OpOK _ _ _ _ _ _ _
               exact ok_pure (ro_assign (v := .int _ _) rfl) rfl
             refine ⟨?_, ?_⟩
             · intro w17 D17
               show OpOK _ _ _ _ _ _ _
               exact ok_pure (ro_assign (v := .int _ _) rfl) rfl
             exact trivial
            case hend =>
             intro w18 D18
             rintro _ rfl _ rfl _ rfl _ rfl _ rfl _ rfl _ rfl _ rfl _ rfl _ rfl _ rfl _ rfl _ rfl _ rfl
             show St _ _ _ _ _ _ _
             refine st_nil ?_
             refine nx_then ?_
             refine cd_ret ?_
             refine res2 (v := .int _ _) (v' := .int _ _) rfl rfl rfl ?_
             refine ⟨?_, (From.rfl_.next D18)⟩
             rw [ends_at, hs3, show st L q + L[q] + 1 - st L q - 1 = L[q] by omega]
set_option maxRecDepth 100000 in
set_option maxHeartbeats 400000 in
theorem size_out (base b : Nat) (L : List Int) (w : World) (hv : BAt w base b L) (i : Int) (hi : ¬ (0 ≤ i ∧ i < L.length)) :
    Rt Try.prog 14 [.pointer (some ⟨b, 0, none⟩), .int .i64 i] w (fun v w' => v = .tuple #[.int .i64 0, .int .i64 3] ∧ From w w') := by
  obtain ⟨E, ce, hb0, hV, ho, hG⟩ := hv
  refine enter (n := 29) Try.func14 rfl rfl rfl ?_
  refine cd_seq ?_
  refine cd_region ?_
  refine st_val (ro_assign (v := .int _ _) rfl) ?_
  refine st_val (ro_assign (v := .int _ _) rfl) ?_
  refine st_nil ?_
  refine nx_then ?_
  refine cd_seq ?_
  refine cd_seq ?_
  refine cd_region ?_
  refine st_val (ro_move (v := .int _ _) rfl) ?_
  refine st_val (ro_lss rfl rfl) ?_
  refine st_val (ro_move (v := .bool _) rfl) ?_
  refine st_split (t := 8) rfl (fun Q1 => ?_) (fun Q1 => ?_)
  · (try first | replace Q1 := bn_t Q1 | replace Q1 := bn_f Q1)
    (try first | replace Q1 := bx_t Q1 | replace Q1 := bx_f Q1 | replace Q1 := be_t Q1 | replace Q1 := be_f Q1 | replace Q1 := of_decide_eq_true Q1 | replace Q1 := of_decide_eq_false Q1)
    first
     | (exfalso; first | omega | contradiction | (cases Q1; done))
     | skip
       refine st_gno rfl rfl ?_
       refine st_gno rfl rfl ?_
       refine st_gno rfl rfl ?_
       refine st_gno rfl rfl ?_
       refine st_gno rfl rfl ?_
       refine st_gno rfl rfl ?_
       refine st_gno rfl rfl ?_
       refine st_val (ro_pickT (v := .bool _) rfl rfl) ?_
       refine st_nil ?_
       refine nx_then ?_
       refine cd_condT rfl ?_
       refine cd_seq ?_
       refine cd_region ?_
       refine st_val (ro_assign (v := .int _ _) rfl) ?_
       refine st_val (ro_assign (v := .int _ _) rfl) ?_
       refine st_nil ?_
       refine nx_then ?_
       refine cd_ret ?_
       refine rt_then ?_
       refine res2 (v := .int _ _) (v' := .int _ _) rfl rfl rfl ?_
       exact ⟨rfl, From.rfl_⟩
  · (try first | replace Q1 := bn_t Q1 | replace Q1 := bn_f Q1)
    (try first | replace Q1 := bx_t Q1 | replace Q1 := bx_f Q1 | replace Q1 := be_t Q1 | replace Q1 := be_f Q1 | replace Q1 := of_decide_eq_true Q1 | replace Q1 := of_decide_eq_false Q1)
    first
     | (exfalso; first | omega | contradiction | (cases Q1; done))
     | skip
       refine st_unguard rfl ?_
       refine st_val (ro_move (v := .int _ _) rfl) ?_
       refine st_unguard rfl ?_
       refine st_val (ro_move (v := .pointer _) rfl) ?_
       refine st_unguard rfl ?_
       refine st_val (ro_nilCheck rfl) ?_
       refine st_unguard rfl ?_
       refine st_val (ro_fieldAddr BndWalks_f46_0 rfl) ?_
       refine st_unguard rfl ?_
       refine st_val (ro_load BndWalks_g22 rfl (by exact hV.rd 0 rfl)) ?_
       refine st_unguard rfl ?_
       refine st_val (ro_len BndWalks_l22 rfl) ?_
       refine st_unguard rfl ?_
       refine st_val (ro_geq rfl rfl) ?_
       refine st_val (ro_pickF (v := .bool _) rfl rfl) ?_
       refine st_nil ?_
       refine nx_then ?_
       refine cd_cond rfl (fun Q2 => ?_) (fun Q2 => ?_)
       · (try first | replace Q2 := bn_t Q2 | replace Q2 := bn_f Q2)
         (try first | replace Q2 := bx_t Q2 | replace Q2 := bx_f Q2 | replace Q2 := be_t Q2 | replace Q2 := be_f Q2 | replace Q2 := of_decide_eq_true Q2 | replace Q2 := of_decide_eq_false Q2)
         first
          | (exfalso; first | omega | contradiction | (cases Q2; done))
          | skip
            refine cd_seq ?_
            refine cd_region ?_
            refine st_val (ro_assign (v := .int _ _) rfl) ?_
            refine st_val (ro_assign (v := .int _ _) rfl) ?_
            refine st_nil ?_
            refine nx_then ?_
            refine cd_ret ?_
            refine rt_then ?_
            refine res2 (v := .int _ _) (v' := .int _ _) rfl rfl rfl ?_
            exact ⟨rfl, From.rfl_⟩
       · (try first | replace Q2 := bn_t Q2 | replace Q2 := bn_f Q2)
         (try first | replace Q2 := bx_t Q2 | replace Q2 := bx_f Q2 | replace Q2 := be_t Q2 | replace Q2 := be_f Q2 | replace Q2 := of_decide_eq_true Q2 | replace Q2 := of_decide_eq_false Q2)
         first
          | (exfalso; first | omega | contradiction | (cases Q2; done))
          | skip
            refine cd_skip ?_
            refine nx_then ?_
            refine cd_seq ?_
            apply cd_drawn 14 [(17, eqp _), (18, eqp _), (19, eqp _), (20, eqp _), (21, eqp _), (22, eqp _), (23, eqp _), (24, eqp _), (25, eqp _), (26, eqp _), (27, eqp _), (28, eqp _), (4, eqp _), (5, eqp _)] (by kernel_rfl) (by kernel_rfl) ⟨eqp_mono _, eqp_mono _, eqp_mono _, eqp_mono _, eqp_mono _, eqp_mono _, eqp_mono _, eqp_mono _, eqp_mono _, eqp_mono _, eqp_mono _, eqp_mono _, eqp_mono _, eqp_mono _, trivial⟩
            case hop =>
             refine ⟨?_, ?_⟩
             · intro w4 D4
               show OpOK _ _ _ _ _ _ _
               exact ok_pure (ro_move (v := .pointer _) rfl) rfl
             refine ⟨?_, ?_⟩
             · intro w5 D5
               rintro _ rfl
               show OpOK _ _ _ _ _ _ _
               exact ok_pure (ro_nilCheck rfl) rfl
             refine ⟨?_, ?_⟩
             · intro w6 D6
               rintro _ rfl
               show OpOK _ _ _ _ _ _ _
               exact ok_pure (ro_fieldAddr BndWalks_f46_0 rfl) rfl
             refine ⟨?_, ?_⟩
             · intro w7 D7
               rintro _ rfl
               show OpOK _ _ _ _ _ _ _
               exact ok_pure (ro_load BndWalks_g22 rfl (by assumption)) rfl
             refine ⟨?_, ?_⟩
             · intro w8 D8
               show OpOK _ _ _ _ _ _ _
               exact ok_pure (ro_move (v := .int _ _) rfl) rfl
             refine ⟨?_, ?_⟩
             · intro w9 D9
               rintro _ rfl _ rfl
               show OpOK _ _ _ _ _ _ _
               exact ok_pure (ro_indexAddr BndWalks_e22 rfl rfl (by omega)) rfl
             refine ⟨?_, ?_⟩
             · intro w10 D10
               rintro _ rfl
               show OpOK _ _ _ _ _ _ _
               exact ok_pure (ro_load BndWalks_g3 rfl (by assumption)) rfl
             refine ⟨?_, ?_⟩
             · intro w11 D11
               show OpOK _ _ _ _ _ _ _
               exact ok_pure (ro_move (v := .pointer _) rfl) rfl
             refine ⟨?_, ?_⟩
             · intro w12 D12
               show OpOK _ _ _ _ _ _ _
               exact ok_pure (ro_move (v := .int _ _) rfl) rfl
             refine ⟨?_, ?_⟩
             · intro w13 D13
               rintro _ rfl _ rfl
               show OpOK _ _ _ _ _ _ _
               refine ok_call BndWalks_k22 ((start_rt).mono ?_)
               rintro v _ ⟨rfl, rfl⟩; exact ⟨From.rfl_, rfl⟩
             refine ⟨?_, ?_⟩
             · intro w14 D14
               rintro _ rfl _ rfl
               show OpOK _ _ _ _ _ _ _
               exact ok_pure (ro_sub64 rfl rfl (by omega)) rfl
             refine ⟨?_, ?_⟩
             · intro w15 D15
               rintro _ rfl
               show OpOK _ _ _ _ _ _ _
               exact ok_pure (ro_sub64 rfl rfl (by omega)) rfl
             refine ⟨?_, ?_⟩
             · intro w16 D16
               rintro _ rfl
               show OpOK _ _ _ _ _ _ _
               exact ok_pure (ro_assign (v := .int _ _) rfl) rfl
             refine ⟨?_, ?_⟩
             · intro w17 D17
               show OpOK _ _ _ _ _ _ _
               exact ok_pure (ro_assign (v := .int _ _) rfl) rfl
             exact trivial
            case hend =>
             intro w18 D18
             rintro _ rfl _ rfl _ rfl _ rfl _ rfl _ rfl _ rfl _ rfl _ rfl _ rfl _ rfl _ rfl _ rfl _ rfl
             show St _ _ _ _ _ _ _
             refine st_nil ?_
             refine nx_then ?_
             refine cd_ret ?_
             refine res2 (v := .int _ _) (v' := .int _ _) rfl rfl rfl ?_
             exfalso; omega
set_option maxRecDepth 100000 in
set_option maxHeartbeats 400000 in
theorem search_rt (n : Nat) (g : FuncId) (caps : List Value) (p : Nat → Bool) (w : World) (hn : n ≤ 1000000000000) (hcal : callable Try.prog g = true) (hp : ∀ w' h, From w w' → h < n → Rt Try.prog g ([.int .i64 (h : Nat)] ++ caps) w' fun v w'' => v = .bool (p h) ∧ From w' w'') (hm : ∀ i j, i ≤ j → p i = true → p j = true) :
    Rt Try.prog 23 [.int .i64 (n : Nat), .func (.func g) #[] caps.toArray] w (fun v w' => ∃ r : Nat, v = .int .i64 (r : Nat) ∧ r ≤ n ∧ (∀ x, x < r → p x = false) ∧ (∀ x, r ≤ x → x < n → p x = true) ∧ From w w') := by
  refine enter (n := 26) Try.func23 rfl rfl rfl ?_
  refine cd_seq ?_
  refine cd_region ?_
  refine st_val (ro_assign (v := .int _ _) rfl) ?_
  refine st_nil ?_
  refine nx_then ?_
  refine cd_seq ?_
  refine cd_region ?_
  refine st_val (ro_move (v := .int _ _) rfl) ?_
  refine st_val (ro_assign (v := .int _ _) rfl) ?_
  refine st_val (ro_assign (v := .int _ _) rfl) ?_
  refine st_nil ?_
  refine nx_then ?_
  refine cd_seq ?_
  refine cd_block ?_
  refine cd_loop (G := Nat × Nat) [7, 9, 10, 11, 12, 13, 14, 15, 16, 17, 18, 19, 20, 21, 22, 23, 24] (fun (i, j) => [(5, .int .i64 (i : Nat)), (6, .int .i64 (j : Nat))]) (fun (i, j) w' => i ≤ j ∧ j ≤ n ∧ (∀ x, x < i → p x = false) ∧ (∀ x, j ≤ x → x < n → p x = true) ∧ From w w') (fun (i, j) => j - i) ((0, n)) ⟨rfl, rfl, trivial⟩ ?_ ?_
  · exact ⟨Nat.zero_le _, Nat.le_refl _, fun x h => absurd h (by omega), fun x h1 h2 => absurd h1 (by omega), From.rfl_⟩
  rintro ⟨i, j⟩ ρ1 w1 ⟨hij, hjn, hlo, hhi, hB⟩
  refine cd_seq ?_
  refine cd_seq ?_
  refine cd_region ?_
  refine st_val (ro_move (v := .int _ _) rfl) ?_
  refine st_val (ro_move (v := .int _ _) rfl) ?_
  refine st_val (ro_lss rfl rfl) ?_
  refine st_nil ?_
  refine nx_then ?_
  refine cd_cond rfl (fun Q2 => ?_) (fun Q2 => ?_)
  · (try first | replace Q2 := bn_t Q2 | replace Q2 := bn_f Q2)
    (try first | replace Q2 := bx_t Q2 | replace Q2 := bx_f Q2 | replace Q2 := be_t Q2 | replace Q2 := be_f Q2 | replace Q2 := of_decide_eq_true Q2 | replace Q2 := of_decide_eq_false Q2)
    first
     | (exfalso; first | omega | contradiction | (cases Q2; done))
     | skip
       refine cd_skip ?_
       refine nx_then ?_
       refine cd_block ?_
       refine cd_seq ?_
       refine cd_region ?_
       refine st_val (ro_move (v := .int _ _) rfl) ?_
       refine st_val (ro_move (v := .int _ _) rfl) ?_
       refine st_val (ro_addN rfl rfl (by omega)) ?_
       obtain ⟨h, hh⟩ : ∃ h, h = (i + j) / 2 ^ 1 := ⟨_, rfl⟩
       refine st_val (ro_conv64 BndWalks_s3 BndWalks_i50 rfl (by omega)) ?_
       refine st_val (ro_shrN (b := 1) rfl rfl (by decide)) ?_
       refine st_val (ro_convI BndWalks_s50 BndWalks_i3 rfl (by omega)) ?_
       refine st_spell (t := 17) (v := .int _ _) (v' := .int .i64 (h : Nat)) rfl (by rw [hh]) ?_
       refine st_val (ro_assign (v := .int _ _) rfl) ?_
       refine st_nil ?_
       refine nx_then ?_
       refine cd_seq ?_
       refine cd_region ?_
       refine st_val (ro_move (v := .func _ _ _) rfl) ?_
       refine st_val (ro_move (v := .int _ _) rfl) ?_
       refine st_callF (caps := caps) rfl hcal (hp _ h hB (by omega)) ?_
       rintro v20 w3 ⟨rfl, E20⟩
       refine st_val (ro_not rfl) ?_
       refine st_nil ?_
       refine nx_then ?_
       refine cd_cond rfl (fun Q4 => ?_) (fun Q4 => ?_)
       · (try first | replace Q4 := bn_t Q4 | replace Q4 := bn_f Q4)
         (try first | replace Q4 := bx_t Q4 | replace Q4 := bx_f Q4 | replace Q4 := be_t Q4 | replace Q4 := be_f Q4 | replace Q4 := of_decide_eq_true Q4 | replace Q4 := of_decide_eq_false Q4)
         first
          | (exfalso; first | omega | contradiction | (cases Q4; done))
          | skip
            refine cd_region ?_
            refine st_val (ro_move (v := .int _ _) rfl) ?_
            refine st_val (ro_addN (b := 1) rfl rfl (by omega)) ?_
            refine st_val (ro_assign (v := .int _ _) rfl) ?_
            refine st_nil ?_
            refine nx_block ?_
            refine nx_cut ((h + 1, j)) ⟨(by first | rfl | (refine int_eq ?_; omega)), (by first | rfl | (refine int_eq ?_; omega)), trivial⟩ (by (iterate 37 refine agr_cons rfl ?_); exact agr_rfl) ⟨?_, ?_⟩
            · refine ⟨by omega, hjn, fun x hx => ?_, hhi, (hB.next E20)⟩
              rcases Nat.lt_or_ge x i with a | a
              · exact hlo x a
              · cases hb : p x with
                | false => rfl
                | true =>
                  have := hm x h (by omega) hb
                  simp_all
            · show j - (h + 1) < j - i; omega
       · (try first | replace Q4 := bn_t Q4 | replace Q4 := bn_f Q4)
         (try first | replace Q4 := bx_t Q4 | replace Q4 := bx_f Q4 | replace Q4 := be_t Q4 | replace Q4 := be_f Q4 | replace Q4 := of_decide_eq_true Q4 | replace Q4 := of_decide_eq_false Q4)
         first
          | (exfalso; first | omega | contradiction | (cases Q4; done))
          | skip
            refine cd_region ?_
            refine st_val (ro_move (v := .int _ _) rfl) ?_
            refine st_val (ro_assign (v := .int _ _) rfl) ?_
            refine st_nil ?_
            refine nx_block ?_
            refine nx_cut ((i, h)) ⟨(by first | rfl | (refine int_eq ?_; omega)), (by first | rfl | (refine int_eq ?_; omega)), trivial⟩ (by (iterate 36 refine agr_cons rfl ?_); exact agr_rfl) ⟨?_, ?_⟩
            · refine ⟨by omega, by omega, hlo, fun x h1 h2 => hm h x h1 ?_, (hB.next E20)⟩
              assumption
            · show h - i < j - i; omega
  · (try first | replace Q2 := bn_t Q2 | replace Q2 := bn_f Q2)
    (try first | replace Q2 := bx_t Q2 | replace Q2 := bx_f Q2 | replace Q2 := be_t Q2 | replace Q2 := be_f Q2 | replace Q2 := of_decide_eq_true Q2 | replace Q2 := of_decide_eq_false Q2)
    first
     | (exfalso; first | omega | contradiction | (cases Q2; done))
     | skip
       refine cd_exit ?_
       refine ex_then ?_
       refine ex_then ?_
       refine ex_block ?_
       refine nx_then ?_
       refine cd_seq ?_
       refine cd_region ?_
       refine st_val (ro_move (v := .int _ _) rfl) ?_
       refine st_val (ro_assign (v := .int _ _) rfl) ?_
       refine st_nil ?_
       refine nx_then ?_
       refine cd_ret ?_
       refine res1 (v := .int _ _) rfl rfl ?_
       obtain rfl : i = j := by omega
       exact ⟨i, rfl, hjn, hlo, hhi, hB⟩
set_option maxRecDepth 100000 in
set_option maxHeartbeats 400000 in
theorem where1_rt (base b p2 p3 i : Nat) (at_ : Int) (L : List Int) (w : World) (hv : BAt w base b L) (h2 : w.cell? ⟨p2, 0, none⟩ = some (.pointer (some ⟨b, 0, none⟩))) (h3 : w.cell? ⟨p3, 0, none⟩ = some (.int .i64 at_)) (hi : i < L.length) :
    Rt Try.prog 24 [.int .i64 (i : Nat), .pointer (some ⟨p2, 0, none⟩), .pointer (some ⟨p3, 0, none⟩)] w (fun v w' => v = .bool (decide (at_ < st L (i + 1))) ∧ From w w') := by
  obtain ⟨E, ce, hb0, hV, ho, hG⟩ := hv
  obtain ⟨ge, rfl⟩ := own_some ho (by omega)
  refine enter (n := 14) Try.func24 rfl rfl rfl ?_
  refine cd_seq ?_
  refine cd_region ?_
  refine st_val (ro_assign (v := .bool _) rfl) ?_
  refine st_nil ?_
  refine nx_then ?_
  refine cd_seq ?_
  apply cd_drawn 10 [(5, eqp _), (6, eqp _), (7, eqp _), (8, eqp _), (9, eqp _), (10, eqp _), (11, eqp _), (12, eqp _), (13, eqp _), (4, eqp _)] (by kernel_rfl) (by kernel_rfl) ⟨eqp_mono _, eqp_mono _, eqp_mono _, eqp_mono _, eqp_mono _, eqp_mono _, eqp_mono _, eqp_mono _, eqp_mono _, eqp_mono _, trivial⟩
  case hop =>
   refine ⟨?_, ?_⟩
   · intro w2 D2
     show OpOK _ _ _ _ _ _ _
     exact ok_pure (ro_load BndWalks_g26 rfl (by exact cellF (From.rfl_.next D2) h2)) rfl
   refine ⟨?_, ?_⟩
   · intro w3 D3
     rintro _ rfl
     show OpOK _ _ _ _ _ _ _
     exact ok_pure (ro_nilCheck rfl) rfl
   refine ⟨?_, ?_⟩
   · intro w4 D4
     rintro _ rfl
     show OpOK _ _ _ _ _ _ _
     exact ok_pure (ro_fieldAddr BndWalks_f46_0 rfl) rfl
   refine ⟨?_, ?_⟩
   · intro w5 D5
     rintro _ rfl
     show OpOK _ _ _ _ _ _ _
     exact ok_pure (ro_load BndWalks_g22 rfl (by exact (hV.from_ (From.rfl_.next D5)).rd 0 rfl)) rfl
   refine ⟨?_, ?_⟩
   · intro w6 D6
     show OpOK _ _ _ _ _ _ _
     exact ok_pure (ro_move (v := .int _ _) rfl) rfl
   refine ⟨?_, ?_⟩
   · intro w7 D7
     rintro _ rfl _ rfl
     show OpOK _ _ _ _ _ _ _
     exact ok_pure (ro_indexAddr0 BndWalks_e22 rfl rfl (by omega)) rfl
   refine ⟨?_, ?_⟩
   · intro w8 D8
     rintro _ rfl
     show OpOK _ _ _ _ _ _ _
     exact ok_pure (ro_load BndWalks_g3 rfl (by exact own_cell (ho.kept_from (From.rfl_.next D8)) i (by rw [ends_len]; omega))) rfl
   refine ⟨?_, ?_⟩
   · intro w9 D9
     show OpOK _ _ _ _ _ _ _
     exact ok_pure (ro_load BndWalks_g3 rfl (by exact cellF (From.rfl_.next D9) h3)) rfl
   refine ⟨?_, ?_⟩
   · intro w10 D10
     rintro _ rfl _ rfl
     show OpOK _ _ _ _ _ _ _
     exact ok_pure (ro_gtr rfl rfl) rfl
   refine ⟨?_, ?_⟩
   · intro w11 D11
     rintro _ rfl
     show OpOK _ _ _ _ _ _ _
     exact ok_pure (ro_assign (v := .bool _) rfl) rfl
   exact trivial
  case hend =>
   intro w12 D12
   rintro _ rfl _ rfl _ rfl _ rfl _ rfl _ rfl _ rfl _ rfl _ rfl _ rfl
   show St _ _ _ _ _ _ _
   refine st_nil ?_
   refine nx_then ?_
   refine cd_ret ?_
   refine res1 (v := .bool _) rfl rfl ?_
   refine ⟨congrArg Value.bool (decide_eq_decide.2 ?_), (From.rfl_.next D12)⟩
   rw [ends_at]
set_option maxRecDepth 100000 in
set_option maxHeartbeats 1000000 in
theorem where_is (base b : Nat) (L : List Int) (w : World) (hv : BAt w base b L) (at_ : Int) (q : Nat) (hq : q < L.length) (h1 : st L q ≤ at_) (h2 : at_ < st L (q + 1)) :
    Rt Try.prog 16 [.pointer (some ⟨b, 0, none⟩), .int .i64 at_] w (fun v w' => v = .tuple #[.int .i64 (q : Nat), .int .i64 (at_ - st L q), .int .i64 0] ∧ From w w') := by
  have hvv := hv
  obtain ⟨E, ce, hb0, hV, ho, hG⟩ := hv
  have hs1 := hG.st (k := q) (by omega)
  have hs2 := hG.st (k := q + 1) (by omega)
  have hs3 := st_mono hG.pos (show q + 1 ≤ L.length by omega)
  refine enter (n := 28) Try.func16 rfl rfl rfl ?_
  refine cd_seq ?_
  refine cd_region ?_
  refine st_box (v := .pointer _) rfl ?_
  intro b2 w1 E2 hb2 hk2
  have hq2 := hk2.lt
  refine st_box (v := .int _ _) rfl ?_
  intro b3 w2 E3 hb3 hk3
  replace hk2 := hk2.from_ E3
  refine st_val (ro_assign (v := .int _ _) rfl) ?_
  refine st_val (ro_assign (v := .int _ _) rfl) ?_
  refine st_val (ro_assign (v := .int _ _) rfl) ?_
  refine st_nil ?_
  refine nx_then ?_
  refine cd_seq ?_
  refine cd_seq ?_
  have hz : (0 : Nat) = 0 := rfl
  · apply cd_drawn 8 [(7, eqp _), (8, eqp _), (9, eqp _), (10, eqp _), (11, eqp _), (12, eqp _), (13, eqp _), (14, eqp _)] (by kernel_rfl) (by kernel_rfl) ⟨eqp_mono _, eqp_mono _, eqp_mono _, eqp_mono _, eqp_mono _, eqp_mono _, eqp_mono _, eqp_mono _, trivial⟩
    case hop =>
     refine ⟨?_, ?_⟩
     · intro w4 D4
       show OpOK _ _ _ _ _ _ _
       exact ok_pure (ro_load BndWalks_g3 rfl (by exact (hk3.from_ (From.rfl_.next D4)).rd 0 rfl)) rfl
     refine ⟨?_, ?_⟩
     · intro w5 D5
       rintro _ rfl
       show OpOK _ _ _ _ _ _ _
       exact ok_pure (ro_bf (ro_lss rfl rfl) (decide_eq_false (by omega))) rfl
     refine ⟨?_, ?_⟩
     · intro w6 D6
       rintro _ rfl
       show OpOK _ _ _ _ _ _ _
       exact ok_pure (ro_move (v := .bool _) rfl) rfl
     refine ⟨?_, ?_⟩
     · intro w7 D7
       rintro _ rfl
       show OpOK _ _ _ _ _ _ _
       exact ok_gpure rfl (ro_load BndWalks_g3 rfl (by exact (hk3.from_ (From.rfl_.next D7)).rd 0 rfl)) rfl
     refine ⟨?_, ?_⟩
     · intro w8 D8
       rintro _ rfl
       show OpOK _ _ _ _ _ _ _
       exact ok_gpure rfl (ro_load BndWalks_g26 rfl (by exact (hk2.from_ (From.rfl_.next D8)).rd 0 rfl)) rfl
     refine ⟨?_, ?_⟩
     · intro w9 D9
       rintro _ rfl _ rfl
       show OpOK _ _ _ _ _ _ _
       refine ok_gcall rfl BndWalks_k11 ((all_rt base b L _ (hvv.from_ (((From.rfl_.next E2).next E3).next D9))).mono ?_)
       rintro v _ ⟨rfl, rfl⟩; exact ⟨From.rfl_, rfl⟩
     refine ⟨?_, ?_⟩
     · intro w10 D10
       rintro _ rfl _ rfl _ rfl
       show OpOK _ _ _ _ _ _ _
       exact ok_gpure rfl (ro_geq rfl rfl) rfl
     refine ⟨?_, ?_⟩
     · intro w11 D11
       rintro _ rfl _ rfl
       show OpOK _ _ _ _ _ _ _
       exact ok_pure (ro_pickF (v := .bool _) rfl rfl) rfl
     exact trivial
    case hend =>
     intro w12 D12
     rintro _ rfl _ rfl _ rfl _ rfl _ rfl _ rfl _ rfl _ rfl
     show St _ _ _ _ _ _ _
     refine st_nil ?_
     refine nx_then ?_
     refine cd_cond rfl (fun Q13 => ?_) (fun Q13 => ?_)
     · (try first | replace Q13 := bn_t Q13 | replace Q13 := bn_f Q13)
       (try first | replace Q13 := bx_t Q13 | replace Q13 := bx_f Q13 | replace Q13 := be_t Q13 | replace Q13 := be_f Q13 | replace Q13 := of_decide_eq_true Q13 | replace Q13 := of_decide_eq_false Q13)
       first
        | (exfalso; first | omega | contradiction | (cases Q13; done))
        | skip
          refine cd_seq ?_
          refine cd_region ?_
          refine st_val (ro_assign (v := .int _ _) rfl) ?_
          refine st_val (ro_assign (v := .int _ _) rfl) ?_
          refine st_val (ro_assign (v := .int _ _) rfl) ?_
          refine st_nil ?_
          refine nx_then ?_
          refine cd_ret ?_
          refine rt_then ?_
          refine res3 (v := .int _ _) (v' := .int _ _) (v'' := .int _ _) rfl rfl rfl rfl ?_
          exfalso; omega
     · (try first | replace Q13 := bn_t Q13 | replace Q13 := bn_f Q13)
       (try first | replace Q13 := bx_t Q13 | replace Q13 := bx_f Q13 | replace Q13 := be_t Q13 | replace Q13 := be_f Q13 | replace Q13 := of_decide_eq_true Q13 | replace Q13 := of_decide_eq_false Q13)
       first
        | (exfalso; first | omega | contradiction | (cases Q13; done))
        | skip
          refine cd_skip ?_
          refine nx_then ?_
          refine cd_seq ?_
          refine cd_region ?_
          refine st_val (ro_load BndWalks_g26 rfl (by exact (hk2.from_ (From.rfl_.next D12)).rd 0 rfl)) ?_
          refine st_val (ro_nilCheck rfl) ?_
          refine st_val (ro_fieldAddr BndWalks_f46_0 rfl) ?_
          refine st_val (ro_load BndWalks_g22 rfl (by exact (hV.from_ (((From.rfl_.next E2).next E3).next D12)).rd 0 rfl)) ?_
          refine st_val (ro_len BndWalks_l22 rfl) ?_
          refine st_val (ro_makeFunc (l1 := []) (l2 := [.tmp 2, .tmp 3])) ?_
          refine st_call BndWalks_k23 (search_rt L.length 24 [.pointer (some ⟨b2, 0, none⟩), .pointer (some ⟨b3, 0, none⟩)] (fun i => decide (at_ < st L (i + 1))) _ (by have := hG.len; omega) BndWalks_k24 (fun w2 h hF hh => where1_rt base b b2 b3 h at_ L w2 (hvv.from_ ((((From.rfl_.next E2).next E3).next D12).next hF)) (cellF ((From.rfl_.next D12).next hF) (hk2.rd 0 rfl)) (cellF ((From.rfl_.next D12).next hF) (hk3.rd 0 rfl)) hh) (fun i j hij hi => decide_eq_true (Int.lt_of_lt_of_le (of_decide_eq_true hi) (st_mono hG.pos (by omega))))) ?_
          rintro v21 w14 ⟨r, rfl, hrn, hlo, hhi, E21⟩
          obtain rfl : r = q := by
            rcases Nat.lt_trichotomy r q with a | a | a
            · have h5 := of_decide_eq_true (hhi r (Nat.le_refl _) (by omega))
              have h6 := st_mono hG.pos (show r + 1 ≤ q by omega)
              omega
            · exact a
            · have h5 := of_decide_eq_false (hlo q a)
              omega
          refine st_val (ro_assign (v := .int _ _) rfl) ?_
          refine st_nil ?_
          refine nx_then ?_
          refine cd_seq ?_
          apply cd_drawnD 9 [(22, eqp _), (23, eqp _), (24, eqp _), (25, eqp _), (26, eqp _), (27, eqp _), (4, eqp _), (5, eqp _), (6, eqp _)] (by repeat first | exact pq_body | refine pq_then ?_ | refine pq_block ?_) (by kernel_rfl) (by kernel_rfl) ⟨eqp_mono _, eqp_mono _, eqp_mono _, eqp_mono _, eqp_mono _, eqp_mono _, eqp_mono _, eqp_mono _, eqp_mono _, trivial⟩
          case hop =>
           refine ⟨?_, ?_⟩
           · rintro - w16 D16
             show OpOK _ _ _ _ _ _ _
             exact ok_pure (ro_move (v := .int _ _) rfl) rfl
           refine ⟨?_, ?_⟩
           · rintro - w17 D17
             show OpOK _ _ _ _ _ _ _
             exact ok_pure (ro_load BndWalks_g3 rfl (by exact (hk3.from_ (((From.rfl_.next D12).next E21).next D17)).rd 0 rfl)) rfl
           refine ⟨?_, ?_⟩
           · rintro - w18 D18
             show OpOK _ _ _ _ _ _ _
             exact ok_pure (ro_load BndWalks_g26 rfl (by exact (hk2.from_ (((From.rfl_.next D12).next E21).next D18)).rd 0 rfl)) rfl
           refine ⟨?_, ?_⟩
           · rintro - w19 D19
             show OpOK _ _ _ _ _ _ _
             exact ok_pure (ro_move (v := .int _ _) rfl) rfl
           refine ⟨?_, ?_⟩
           · rintro - w20 D20
             rintro _ rfl _ rfl
             show OpOK _ _ _ _ _ _ _
             refine ok_call BndWalks_k22 ((start_rt base b L _ (hvv.from_ (((((From.rfl_.next E2).next E3).next D12).next E21).next D20)) r (by omega)).mono ?_)
             rintro v _ ⟨rfl, rfl⟩; exact ⟨From.rfl_, rfl⟩
           refine ⟨?_, ?_⟩
           · rintro - w21 D21
             rintro _ rfl _ rfl
             show OpOK _ _ _ _ _ _ _
             exact ok_pure (ro_sub64 rfl rfl (by omega)) rfl
           refine ⟨?_, ?_⟩
           · rintro - w22 D22
             rintro _ rfl
             show OpOK _ _ _ _ _ _ _
             exact ok_pure (ro_assign (v := .int _ _) rfl) rfl
           refine ⟨?_, ?_⟩
           · rintro - w23 D23
             rintro _ rfl
             show OpOK _ _ _ _ _ _ _
             exact ok_pure (ro_assign (v := .int _ _) rfl) rfl
           refine ⟨?_, ?_⟩
           · rintro - w24 D24
             show OpOK _ _ _ _ _ _ _
             exact ok_pure (ro_assign (v := .int _ _) rfl) rfl
           exact trivial
          case hend =>
           intro w25 D25
           rintro _ rfl _ rfl _ rfl _ rfl _ rfl _ rfl _ rfl _ rfl _ rfl
           show St _ _ _ _ _ _ _
           refine st_nil ?_
           refine nx_then ?_
           refine cd_ret ?_
           refine res3 (v := .int _ _) (v' := .int _ _) (v'' := .int _ _) rfl rfl rfl rfl ?_
           exact ⟨rfl, (((((From.rfl_.next E2).next E3).next D12).next E21).next D25)⟩
set_option maxRecDepth 100000 in
set_option maxHeartbeats 1000000 in
theorem where_out (base b : Nat) (L : List Int) (w : World) (hv : BAt w base b L) (at_ : Int) (ha : ¬ (0 ≤ at_ ∧ at_ < st L L.length)) :
    Rt Try.prog 16 [.pointer (some ⟨b, 0, none⟩), .int .i64 at_] w (fun v w' => v = .tuple #[.int .i64 0, .int .i64 0, .int .i64 3] ∧ From w w') := by
  have hvv := hv
  obtain ⟨E, ce, hb0, hV, ho, hG⟩ := hv
  refine enter (n := 28) Try.func16 rfl rfl rfl ?_
  refine cd_seq ?_
  refine cd_region ?_
  refine st_box (v := .pointer _) rfl ?_
  intro b2 w1 E2 hb2 hk2
  have hq2 := hk2.lt
  refine st_box (v := .int _ _) rfl ?_
  intro b3 w2 E3 hb3 hk3
  replace hk2 := hk2.from_ E3
  refine st_val (ro_assign (v := .int _ _) rfl) ?_
  refine st_val (ro_assign (v := .int _ _) rfl) ?_
  refine st_val (ro_assign (v := .int _ _) rfl) ?_
  refine st_nil ?_
  refine nx_then ?_
  refine cd_seq ?_
  refine cd_seq ?_
  rcases Int.lt_or_le at_ 0 with hneg | hpos
  · apply cd_drawn 8 [(7, eqp _), (8, eqp _), (9, eqp _), (10, eqp _), (11, eqp _), (12, eqp _), (13, eqp _), (14, eqp _)] (by kernel_rfl) (by kernel_rfl) ⟨eqp_mono _, eqp_mono _, eqp_mono _, eqp_mono _, eqp_mono _, eqp_mono _, eqp_mono _, eqp_mono _, trivial⟩
    case hop =>
     refine ⟨?_, ?_⟩
     · intro w4 D4
       show OpOK _ _ _ _ _ _ _
       exact ok_pure (ro_load BndWalks_g3 rfl (by exact (hk3.from_ (From.rfl_.next D4)).rd 0 rfl)) rfl
     refine ⟨?_, ?_⟩
     · intro w5 D5
       rintro _ rfl
       show OpOK _ _ _ _ _ _ _
       exact ok_pure (ro_bt (ro_lss rfl rfl) (decide_eq_true (by omega))) rfl
     refine ⟨?_, ?_⟩
     · intro w6 D6
       rintro _ rfl
       show OpOK _ _ _ _ _ _ _
       exact ok_pure (ro_move (v := .bool _) rfl) rfl
     refine ⟨?_, ?_⟩
     · intro w7 D7
       rintro _ rfl
       show OpOK _ _ _ _ _ _ _
       exact ok_gno rfl rfl rfl
     refine ⟨?_, ?_⟩
     · intro w8 D8
       rintro _ rfl
       show OpOK _ _ _ _ _ _ _
       exact ok_gno rfl rfl rfl
     refine ⟨?_, ?_⟩
     · intro w9 D9
       rintro _ rfl _ rfl
       show OpOK _ _ _ _ _ _ _
       exact ok_gno rfl rfl rfl
     refine ⟨?_, ?_⟩
     · intro w10 D10
       rintro _ rfl _ rfl _ rfl
       show OpOK _ _ _ _ _ _ _
       exact ok_gno rfl rfl rfl
     refine ⟨?_, ?_⟩
     · intro w11 D11
       rintro _ rfl _ rfl
       show OpOK _ _ _ _ _ _ _
       exact ok_pure (ro_pickT (v := .bool _) rfl rfl) rfl
     exact trivial
    case hend =>
     intro w12 D12
     rintro _ rfl _ rfl _ rfl _ rfl _ rfl _ rfl _ rfl _ rfl
     show St _ _ _ _ _ _ _
     refine st_nil ?_
     refine nx_then ?_
     refine cd_condT rfl ?_
     refine cd_seq ?_
     refine cd_region ?_
     refine st_val (ro_assign (v := .int _ _) rfl) ?_
     refine st_val (ro_assign (v := .int _ _) rfl) ?_
     refine st_val (ro_assign (v := .int _ _) rfl) ?_
     refine st_nil ?_
     refine nx_then ?_
     refine cd_ret ?_
     refine rt_then ?_
     refine res3 (v := .int _ _) (v' := .int _ _) (v'' := .int _ _) rfl rfl rfl rfl ?_
     exact ⟨rfl, (((From.rfl_.next E2).next E3).next D12)⟩
  · apply cd_drawn 8 [(7, eqp _), (8, eqp _), (9, eqp _), (10, eqp _), (11, eqp _), (12, eqp _), (13, eqp _), (14, eqp _)] (by kernel_rfl) (by kernel_rfl) ⟨eqp_mono _, eqp_mono _, eqp_mono _, eqp_mono _, eqp_mono _, eqp_mono _, eqp_mono _, eqp_mono _, trivial⟩
    case hop =>
     refine ⟨?_, ?_⟩
     · intro w14 D14
       show OpOK _ _ _ _ _ _ _
       exact ok_pure (ro_load BndWalks_g3 rfl (by exact (hk3.from_ (From.rfl_.next D14)).rd 0 rfl)) rfl
     refine ⟨?_, ?_⟩
     · intro w15 D15
       rintro _ rfl
       show OpOK _ _ _ _ _ _ _
       exact ok_pure (ro_bf (ro_lss rfl rfl) (decide_eq_false (by omega))) rfl
     refine ⟨?_, ?_⟩
     · intro w16 D16
       rintro _ rfl
       show OpOK _ _ _ _ _ _ _
       exact ok_pure (ro_move (v := .bool _) rfl) rfl
     refine ⟨?_, ?_⟩
     · intro w17 D17
       rintro _ rfl
       show OpOK _ _ _ _ _ _ _
       exact ok_gpure rfl (ro_load BndWalks_g3 rfl (by exact (hk3.from_ (From.rfl_.next D17)).rd 0 rfl)) rfl
     refine ⟨?_, ?_⟩
     · intro w18 D18
       rintro _ rfl
       show OpOK _ _ _ _ _ _ _
       exact ok_gpure rfl (ro_load BndWalks_g26 rfl (by exact (hk2.from_ (From.rfl_.next D18)).rd 0 rfl)) rfl
     refine ⟨?_, ?_⟩
     · intro w19 D19
       rintro _ rfl _ rfl
       show OpOK _ _ _ _ _ _ _
       refine ok_gcall rfl BndWalks_k11 ((all_rt base b L _ (hvv.from_ (((From.rfl_.next E2).next E3).next D19))).mono ?_)
       rintro v _ ⟨rfl, rfl⟩; exact ⟨From.rfl_, rfl⟩
     refine ⟨?_, ?_⟩
     · intro w20 D20
       rintro _ rfl _ rfl _ rfl
       show OpOK _ _ _ _ _ _ _
       exact ok_gpure rfl (ro_geq rfl rfl) rfl
     refine ⟨?_, ?_⟩
     · intro w21 D21
       rintro _ rfl _ rfl
       show OpOK _ _ _ _ _ _ _
       exact ok_pure (ro_pickF (v := .bool _) rfl rfl) rfl
     exact trivial
    case hend =>
     intro w22 D22
     rintro _ rfl _ rfl _ rfl _ rfl _ rfl _ rfl _ rfl _ rfl
     show St _ _ _ _ _ _ _
     refine st_nil ?_
     refine nx_then ?_
     refine cd_cond rfl (fun Q23 => ?_) (fun Q23 => ?_)
     · (try first | replace Q23 := bn_t Q23 | replace Q23 := bn_f Q23)
       (try first | replace Q23 := bx_t Q23 | replace Q23 := bx_f Q23 | replace Q23 := be_t Q23 | replace Q23 := be_f Q23 | replace Q23 := of_decide_eq_true Q23 | replace Q23 := of_decide_eq_false Q23)
       first
        | (exfalso; first | omega | contradiction | (cases Q23; done))
        | skip
          refine cd_seq ?_
          refine cd_region ?_
          refine st_val (ro_assign (v := .int _ _) rfl) ?_
          refine st_val (ro_assign (v := .int _ _) rfl) ?_
          refine st_val (ro_assign (v := .int _ _) rfl) ?_
          refine st_nil ?_
          refine nx_then ?_
          refine cd_ret ?_
          refine rt_then ?_
          refine res3 (v := .int _ _) (v' := .int _ _) (v'' := .int _ _) rfl rfl rfl rfl ?_
          exact ⟨rfl, (((From.rfl_.next E2).next E3).next D22)⟩
     · (try first | replace Q23 := bn_t Q23 | replace Q23 := bn_f Q23)
       (try first | replace Q23 := bx_t Q23 | replace Q23 := bx_f Q23 | replace Q23 := be_t Q23 | replace Q23 := be_f Q23 | replace Q23 := of_decide_eq_true Q23 | replace Q23 := of_decide_eq_false Q23)
       first
        | (exfalso; first | omega | contradiction | (cases Q23; done))
        | skip
          refine cd_skip ?_
          refine nx_then ?_
          refine cd_seq ?_
          refine cd_region ?_
          refine st_val (ro_load BndWalks_g26 rfl (by exact (hk2.from_ (From.rfl_.next D22)).rd 0 rfl)) ?_
          refine st_val (ro_nilCheck rfl) ?_
          refine st_val (ro_fieldAddr BndWalks_f46_0 rfl) ?_
          refine st_val (ro_load BndWalks_g22 rfl (by exact (hV.from_ (((From.rfl_.next E2).next E3).next D22)).rd 0 rfl)) ?_
          refine st_val (ro_len BndWalks_l22 rfl) ?_
          refine st_val (ro_makeFunc (l1 := []) (l2 := [.tmp 2, .tmp 3])) ?_
          refine st_call BndWalks_k23 (search_rt L.length 24 [.pointer (some ⟨b2, 0, none⟩), .pointer (some ⟨b3, 0, none⟩)] (fun i => decide (at_ < st L (i + 1))) _ (by have := hG.len; omega) BndWalks_k24 (fun w2 h hF hh => where1_rt base b b2 b3 h at_ L w2 (hvv.from_ ((((From.rfl_.next E2).next E3).next D22).next hF)) (cellF ((From.rfl_.next D22).next hF) (hk2.rd 0 rfl)) (cellF ((From.rfl_.next D22).next hF) (hk3.rd 0 rfl)) hh) (fun i j hij hi => decide_eq_true (Int.lt_of_lt_of_le (of_decide_eq_true hi) (st_mono hG.pos (by omega))))) ?_
          rintro v21 w24 ⟨r, rfl, hrn, hlo, hhi, E21⟩
          obtain rfl : r = q := by
            rcases Nat.lt_trichotomy r q with a | a | a
            · have h5 := of_decide_eq_true (hhi r (Nat.le_refl _) (by omega))
              have h6 := st_mono hG.pos (show r + 1 ≤ q by omega)
              omega
            · exact a
            · have h5 := of_decide_eq_false (hlo q a)
              omega
          refine st_val (ro_assign (v := .int _ _) rfl) ?_
          refine st_nil ?_
          refine nx_then ?_
          refine cd_seq ?_
          apply cd_drawnD 9 [(22, eqp _), (23, eqp _), (24, eqp _), (25, eqp _), (26, eqp _), (27, eqp _), (4, eqp _), (5, eqp _), (6, eqp _)] (by repeat first | exact pq_body | refine pq_then ?_ | refine pq_block ?_) (by kernel_rfl) (by kernel_rfl) ⟨eqp_mono _, eqp_mono _, eqp_mono _, eqp_mono _, eqp_mono _, eqp_mono _, eqp_mono _, eqp_mono _, eqp_mono _, trivial⟩
          case hop =>
           refine ⟨?_, ?_⟩
           · rintro - w26 D26
             show OpOK _ _ _ _ _ _ _
             exact ok_pure (ro_move (v := .int _ _) rfl) rfl
           refine ⟨?_, ?_⟩
           · rintro - w27 D27
             show OpOK _ _ _ _ _ _ _
             exact ok_pure (ro_load BndWalks_g3 rfl (by exact (hk3.from_ (((From.rfl_.next D22).next E21).next D27)).rd 0 rfl)) rfl
           refine ⟨?_, ?_⟩
           · rintro - w28 D28
             show OpOK _ _ _ _ _ _ _
             exact ok_pure (ro_load BndWalks_g26 rfl (by exact (hk2.from_ (((From.rfl_.next D22).next E21).next D28)).rd 0 rfl)) rfl
           refine ⟨?_, ?_⟩
           · rintro - w29 D29
             show OpOK _ _ _ _ _ _ _
             exact ok_pure (ro_move (v := .int _ _) rfl) rfl
           refine ⟨?_, ?_⟩
           · rintro - w30 D30
             rintro _ rfl _ rfl
             show OpOK _ _ _ _ _ _ _
             refine ok_call BndWalks_k22 ((start_rt base b L _ (hvv.from_ (((((From.rfl_.next E2).next E3).next D22).next E21).next D30)) r (by omega)).mono ?_)
             rintro v _ ⟨rfl, rfl⟩; exact ⟨From.rfl_, rfl⟩
           refine ⟨?_, ?_⟩
           · rintro - w31 D31
             rintro _ rfl _ rfl
             show OpOK _ _ _ _ _ _ _
             exact ok_pure (ro_sub64 rfl rfl (by omega)) rfl
           refine ⟨?_, ?_⟩
           · rintro - w32 D32
             rintro _ rfl
             show OpOK _ _ _ _ _ _ _
             exact ok_pure (ro_assign (v := .int _ _) rfl) rfl
           refine ⟨?_, ?_⟩
           · rintro - w33 D33
             rintro _ rfl
             show OpOK _ _ _ _ _ _ _
             exact ok_pure (ro_assign (v := .int _ _) rfl) rfl
           refine ⟨?_, ?_⟩
           · rintro - w34 D34
             show OpOK _ _ _ _ _ _ _
             exact ok_pure (ro_assign (v := .int _ _) rfl) rfl
           exact trivial
          case hend =>
           intro w35 D35
           rintro _ rfl _ rfl _ rfl _ rfl _ rfl _ rfl _ rfl _ rfl _ rfl
           show St _ _ _ _ _ _ _
           refine st_nil ?_
           refine nx_then ?_
           refine cd_ret ?_
           refine res3 (v := .int _ _) (v' := .int _ _) (v'' := .int _ _) rfl rfl rfl rfl ?_
           exfalso; omega
end Go.Proofs.Ytkmcdhllldlbgaa
