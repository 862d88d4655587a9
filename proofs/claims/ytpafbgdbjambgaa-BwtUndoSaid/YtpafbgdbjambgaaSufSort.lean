/- suffix: Sort. -/
import Derived.Test.YtpafbgdbjambgaaSufSorted
namespace Go.Proofs.Ytpafbgdbjambgaa
open Go.RowKit
open Go.ChangeShapes Go.WideShapes Go.ChangeAt
open Go.Proofs.Ytpafbgdbjambgaa.SA
theorem SufSort_k24 : callable Try.prog 24 = true := by kernel_rfl
theorem SufSort_l24 : (elemQ Try.prog 24).isSome = true := by kernel_rfl
theorem SufSort_k25 : callable Try.prog 25 = true := by kernel_rfl
/-- the suffix array, by ranks -/
structure IsSA (L F : List Nat) : Prop where
  len : F.length = L.length
  at_ : ∀ r (h : r < F.length), F[r] < L.length ∧ rank (L.length + 1) (endT L) F[r] = r + 1
theorem IsSA.uniq {L F F2 : List Nat} (h : IsSA L F) (k : IsSA L F2) : F = F2 := by
  apply List.ext_getElem (by rw [h.len, k.len])
  intro r h1 h2
  have a := h.at_ r h1
  have b := k.at_ r h2
  exact rank_inj (endT_txt L) (by omega) (by omega) (by rw [a.2, b.2])
theorem IsSA.lt {L F : List Nat} (h : IsSA L F) {x : Nat} (hx : x ∈ F) : x < L.length := by
  obtain ⟨r, hr, rfl⟩ := List.getElem_of_mem hx
  exact (h.at_ r hr).1
/-- a list of all suffixes that rises -/
theorem isSA_of {L F : List Nat} (hl : F.length = L.length) (hx : ∀ x ∈ F, x < L.length) (hp : F.Pairwise (sl (L.length + 1) (endT L))) : IsSA L F := by
  have ht := endT_txt L
  have hm : ∀ a b (ha : a < F.length) (hb : b < F.length), a < b → rank (L.length + 1) (endT L) F[a] < rank (L.length + 1) (endT L) F[b] := fun a b ha hb hab => rank_mono (List.pairwise_iff_getElem.1 hp a b ha hb hab)
  have hlo : ∀ a (ha : a < F.length), a + 1 ≤ rank (L.length + 1) (endT L) F[a] := by
    intro a
    induction a with
    | zero =>
      intro ha
      rcases Nat.eq_zero_or_pos (rank (L.length + 1) (endT L) F[0]) with e | e
      · have := rank_last ht
        have h2 := hx _ (List.getElem_mem ha)
        have := rank_inj ht (show F[0] < L.length + 1 by omega) (show L.length + 1 - 1 < L.length + 1 by omega) (by rw [e, rank_last ht])
        omega
      · exact e
    | succ a ih =>
      intro ha
      have := ih (by omega)
      have := hm a (a + 1) (by omega) ha (by omega)
      omega
  have hhi : ∀ d a (ha : a < F.length), F.length = a + 1 + d → rank (L.length + 1) (endT L) F[a] ≤ a + 1 := by
    intro d
    induction d with
    | zero =>
      intro a ha hd
      have := rank_lt (n := L.length + 1) (t := endT L) (i := F[a]) (by have := hx _ (List.getElem_mem ha); omega)
      omega
    | succ d ih =>
      intro a ha hd
      have h1 := ih (a + 1) (by omega) (by omega)
      have := hm a (a + 1) ha (by omega) (by omega)
      omega
  refine ⟨hl, fun r h => ⟨hx _ (List.getElem_mem h), ?_⟩⟩
  have a := hlo r h
  have b := hhi (F.length - (r + 1)) r h (by omega)
  omega
theorem isSA_ys {L : List Nat} {N : Nat} {ys : Nat → Int} (hN : N = L.length) (h : ∀ i, i < N → 0 < rank (N + 1) (endT L) i ∧ ys (rank (N + 1) (endT L) i - 1) = (i : Nat)) : ∃ F, IsSA L F ∧ ∀ r, r < N → ys r = ((F.getD r 0 : Nat) : Int) := by
  subst hN
  have ht := endT_txt L
  have hs : ∀ r, r < L.length → ∃ i, i < L.length ∧ rank (L.length + 1) (endT L) i - 1 = r := surj (fun i hi => by have := rank_lt (n := L.length + 1) (t := endT L) (show i < L.length + 1 by omega); have := (h i hi).1; omega) (fun i j hi hj he => by
    have a := (h i hi).1
    have b := (h j hj).1
    exact rank_inj ht (by omega) (by omega) (by omega))
  refine ⟨(List.range L.length).map fun r => (ys r).toNat, ⟨by simp, fun r hr => ?_⟩, fun r hr => ?_⟩
  · have hr2 : r < L.length := by simpa using hr
    obtain ⟨i, hi, e⟩ := hs r hr2
    obtain ⟨h0, h1⟩ := h i hi
    rw [List.getElem_map, List.getElem_range]
    rw [e] at h1
    rw [h1, Int.toNat_natCast]
    exact ⟨hi, by omega⟩
  · obtain ⟨i, hi, e⟩ := hs r hr
    obtain ⟨h0, h1⟩ := h i hi
    rw [e] at h1
    rw [List.getD_eq_getElem?_getD, List.getElem?_map, List.getElem?_range hr]
    simp [h1]
theorem nat_list : ∀ {xs : List Int}, xs.all (okS 512) = true → ∃ L : List Nat, xs = L.map (fun x : Nat => (x : Int)) ∧ ∀ x ∈ L, x < 512
  | [], _ => ⟨[], rfl, fun _ h => (by cases h)⟩
  | x :: xs, h => by
    rw [List.all_cons, Bool.and_eq_true] at h
    obtain ⟨L, e, hL⟩ := nat_list h.2
    obtain ⟨h1, h2⟩ := okS_iff.1 h.1
    refine ⟨x.toNat :: L, ?_, fun y hy => ?_⟩
    · rw [List.map_cons, ← e, Int.toNat_of_nonneg h1]
    · rcases List.mem_cons.1 hy with rfl | hy
      · omega
      · exact hL y hy
theorem all_nat {L : List Nat} (h : ∀ x ∈ L, x < 512) : (L.map fun x : Nat => (x : Int)).all (okS 512) = true := by
  rw [List.all_eq_true]
  intro x hx
  obtain ⟨y, hy, rfl⟩ := List.mem_map.1 hx
  have := h y hy
  exact okS_yes (by omega) (by omega)
/-- what Sort tells -/
def SortA (w' : World) (base n : Nat) (xs : List Int) (v : Value) : Prop :=
  (xs.all (okS 512) = false ∧ v = .tuple #[.slice none 0 0, .int .i64 1]) ∨ (∃ L F A', xs = L.map (fun x : Nat => (x : Int)) ∧ (∀ x ∈ L, x < 512) ∧ IsSA L F ∧ v = .tuple #[.slice A' n n, .int .i64 0] ∧ w'.ownsRow base 3 1 (.slice A' n n) n (F.map fun x : Nat => iV (x : Nat)))
theorem own_tab {w : World} {base g n : Nat} {ys : Nat → Int} {F : List Nat} (hg : base ≤ g) (hb : 0 < n → Blk w g 3 (tabI n ys)) (hn : n = F.length) (hl : n ≤ 1000000) (h : ∀ r, r < n → ys r = ((F.getD r 0 : Nat) : Int)) : w.ownsRow base 3 1 (.slice (if n = 0 then none else some ⟨g, 0, none⟩) n n) n (F.map fun x : Nat => iV (x : Nat)) := by
  by_cases e : n = 0
  · subst e
    rw [if_pos rfl]
    obtain rfl : F = [] := List.eq_nil_of_length_eq_zero hn.symm
    exact World.ownsRow_nil _ _ _ _
  · rw [if_neg e]
    refine own_of (cur := (List.range n).map fun i => iV (ys i)) hg (hb (by omega)) (Nat.le_refl _) (by unfold maxLen; omega) (by simp) ?_
    rw [Nat.mul_one, List.take_of_length_le (by simp)]
    apply List.ext_getElem (by simp [hn])
    intro r h1 h2
    have hr : r < n := by simpa using h1
    rw [List.getElem_map, List.getElem_range, List.getElem_map, h r hr, List.getD_eq_getElem?_getD, List.getElem?_eq_getElem (by omega)]
    rfl
set_option maxRecDepth 100000 in
set_option maxHeartbeats 400000 in
theorem sort_rt (A : Option Addr) (c n : Nat) (xs : List Int) (w : World) (hr : RowOf iV w A xs) (hn : n = xs.length) (hl : n ≤ 131072) :
    Rt Try.prog 19 [.slice A n c] w (fun v w' => SortA w' w.heap.size n xs v ∧ From w w') := by
  refine enter (n := 12) Try.func19 rfl rfl rfl ?_
  refine cd_seq ?_
  refine cd_region ?_
  refine st_val (ro_assign (v := .slice _ _ _) rfl) ?_
  refine st_val (ro_assign (v := .int _ _) rfl) ?_
  refine st_nil ?_
  refine nx_then ?_
  refine cd_seq ?_
  refine cd_seq ?_
  refine cd_region ?_
  refine st_val (ro_move (v := .slice _ _ _) rfl) ?_
  refine st_call SufSort_k24 (symbols_rt A c n xs _ (hr.from_ From.rfl_) hn (by omega)) ?_
  rintro v5 w1 ⟨rfl, E5⟩
  refine st_val (ro_not rfl) ?_
  refine st_nil ?_
  refine nx_then ?_
  refine cd_cond rfl (fun Q2 => ?_) (fun Q2 => ?_)
  · (try with_reducible first | replace Q2 := of_decide_eq_true Q2 | replace Q2 := of_decide_eq_false Q2 | replace Q2 := bn_t Q2 | replace Q2 := bn_f Q2)
    (try with_reducible first | replace Q2 := of_decide_eq_true Q2 | replace Q2 := of_decide_eq_false Q2 | replace Q2 := bx_t Q2 | replace Q2 := bx_f Q2 | replace Q2 := be_t Q2 | replace Q2 := be_f Q2)
    have hno : xs.all (okS 512) = false := by simpa using Q2
    refine cd_seq ?_
    refine cd_region ?_
    refine st_val (ro_assign (v := .slice _ _ _) rfl) ?_
    refine st_val (ro_assign (v := .int _ _) rfl) ?_
    refine st_nil ?_
    refine nx_then ?_
    refine cd_ret ?_
    refine rt_then ?_
    refine res2 (v := .slice _ _ _) (v' := .int _ _) rfl rfl rfl ?_
    exact ⟨.inl ⟨hno, rfl⟩, (From.rfl_.next E5)⟩
  · (try with_reducible first | replace Q2 := of_decide_eq_true Q2 | replace Q2 := of_decide_eq_false Q2 | replace Q2 := bn_t Q2 | replace Q2 := bn_f Q2)
    (try with_reducible first | replace Q2 := of_decide_eq_true Q2 | replace Q2 := of_decide_eq_false Q2 | replace Q2 := bx_t Q2 | replace Q2 := bx_f Q2 | replace Q2 := be_t Q2 | replace Q2 := be_f Q2)
    have hall : xs.all (okS 512) = true := by simpa using Q2
    obtain ⟨L, hxs, hL⟩ := nat_list hall
    refine cd_skip ?_
    refine nx_then ?_
    refine cd_seq ?_
    refine cd_seq ?_
    refine cd_region ?_
    refine st_val (ro_move (v := .slice _ _ _) rfl) ?_
    refine st_val (ro_len SufSort_l24 rfl) ?_
    refine st_val (ro_gtr rfl rfl) ?_
    refine st_nil ?_
    refine nx_then ?_
    refine cd_cond rfl (fun Q3 => ?_) (fun Q3 => ?_)
    · (try with_reducible first | replace Q3 := of_decide_eq_true Q3 | replace Q3 := of_decide_eq_false Q3 | replace Q3 := bn_t Q3 | replace Q3 := bn_f Q3)
      (try with_reducible first | replace Q3 := of_decide_eq_true Q3 | replace Q3 := of_decide_eq_false Q3 | replace Q3 := bx_t Q3 | replace Q3 := bx_f Q3 | replace Q3 := be_t Q3 | replace Q3 := be_f Q3)
      refine cd_seq ?_
      refine cd_region ?_
      refine st_val (ro_assign (v := .slice _ _ _) rfl) ?_
      refine st_val (ro_assign (v := .int _ _) rfl) ?_
      refine st_nil ?_
      refine nx_then ?_
      refine cd_ret ?_
      refine rt_then ?_
      refine res2 (v := .slice _ _ _) (v' := .int _ _) rfl rfl rfl ?_
      exfalso; omega
    · (try with_reducible first | replace Q3 := of_decide_eq_true Q3 | replace Q3 := of_decide_eq_false Q3 | replace Q3 := bn_t Q3 | replace Q3 := bn_f Q3)
      (try with_reducible first | replace Q3 := of_decide_eq_true Q3 | replace Q3 := of_decide_eq_false Q3 | replace Q3 := bx_t Q3 | replace Q3 := bx_f Q3 | replace Q3 := be_t Q3 | replace Q3 := be_f Q3)
      refine cd_skip ?_
      refine nx_then ?_
      refine cd_seq ?_
      refine cd_region ?_
      refine st_val (ro_move (v := .slice _ _ _) rfl) ?_
      have hB11 : From w w1 := (From.rfl_.next E5)
      refine st_call SufSort_k25 (sorted_rt A c n L _ (by rw [← hxs]; exact hr.from_ (From.rfl_.next E5)) (by rw [hn, hxs, List.length_map]) hl hL) ?_
      rintro v11 w4 ⟨⟨g, ys, rfl, hg, hb, hys⟩, E11⟩
      refine st_val (ro_assign (v := .slice _ _ _) rfl) ?_
      refine st_val (ro_assign (v := .int _ _) rfl) ?_
      refine st_nil ?_
      refine nx_then ?_
      refine cd_ret ?_
      refine res2 (v := .slice _ _ _) (v' := .int _ _) rfl rfl rfl ?_
      obtain ⟨F, hF, hFy⟩ := isSA_ys (show n = L.length by rw [hn, hxs, List.length_map]) hys
      exact ⟨.inr ⟨L, F, _, hxs, hL, hF, rfl, own_le (own_tab hg hb (by rw [hF.len, hn, hxs, List.length_map]) (by omega) hFy) hB11.size⟩, ((From.rfl_.next E5).next E11)⟩
end Go.Proofs.Ytpafbgdbjambgaa
