/- The Burrows-Wheeler transform: counts as tables; what is made, row by row. -/
import Derived.Test.YtpafbgdbjambgaaSbA
namespace Go.Proofs.Ytpafbgdbjambgaa.SA
open Classical
section
variable {n : Nat} {b : Nat → Nat} {a : Nat}
noncomputable def ctT (b : Nat → Nat) (i x : Nat) : Nat := if x = 0 then 0 else occ b i (x - 1)
noncomputable def smT (o n : Nat) (b : Nat → Nat) (c x : Nat) : Nat := if x ≤ c then o + les n b x else occ b n (x - 1)
noncomputable def frT (o n : Nat) (b : Nat → Nat) (i x : Nat) : Nat := if x < 512 then o + les n b x + occ b i x else o + les n b 512
noncomputable def nxT (n : Nat) (b : Nat → Nat) (a k r : Nat) : Nat := if r < k then lf n b a r else 0
noncomputable def nxR (n : Nat) (b : Nat → Nat) (a i r : Nat) : Nat := if sy a r < i ∧ r ≠ a then lf n b a r else 0
theorem occ_le (i c : Nat) : occ b i c ≤ i := cnt_le_n _ _
theorem les_le (c : Nat) : les n b c ≤ n := cnt_le_n _ _
theorem occ_zero (c : Nat) : occ b 0 c = 0 := rfl
theorem ct_zero (x : Nat) : ctT b 0 x = 0 := by unfold ctT; split; rfl; rfl
theorem ct_le (i x : Nat) : ctT b i x ≤ i := by unfold ctT; split; exact Nat.zero_le _; exact occ_le _ _
theorem ct_step {i c : Nat} (hc : b i = c) (x : Nat) : upd (fun x => ((ctT b i x : Nat) : Int)) (c + 1) ((ctT b i (c + 1) + 1 : Nat) : Int) x = ((ctT b (i + 1) x : Nat) : Int) := by
  unfold upd
  split
  · rename_i e
    subst e
    unfold ctT
    rw [if_neg (by omega), if_neg (by omega), show c + 1 - 1 = c by omega, occ_yes hc]
  · rename_i e
    show ((ctT b i x : Nat) : Int) = _
    unfold ctT
    split
    · rfl
    · rw [occ_no (by omega)]
theorem sm_one (x : Nat) : upd (fun x => ((ctT b n x : Nat) : Int)) 0 1 x = ((smT 1 n b 0 x : Nat) : Int) := by
  unfold upd smT
  split
  · rename_i e; subst e; rw [if_pos (Nat.le_refl _), les_zero]; rfl
  · rename_i e
    rw [if_neg (by omega)]
    show ((ctT b n x : Nat) : Int) = _
    unfold ctT
    rw [if_neg e]
theorem sm_nul (x : Nat) : ((ctT b n x : Nat) : Int) = ((smT 0 n b 0 x : Nat) : Int) := by
  unfold ctT smT
  split
  · rename_i e; subst e; rw [if_pos (Nat.le_refl _), les_zero]
  · rename_i e; rw [if_neg (by omega)]
theorem sm_at {o c : Nat} : smT o n b c c = o + les n b c := by unfold smT; rw [if_pos (Nat.le_refl _)]
theorem sm_nx {o c : Nat} : smT o n b c (c + 1) = occ b n c := by unfold smT; rw [if_neg (by omega)]; rfl
theorem sm_step {o c : Nat} (x : Nat) : upd (fun x => ((smT o n b c x : Nat) : Int)) (c + 1) ((occ b n c + (o + les n b c) : Nat) : Int) x = ((smT o n b (c + 1) x : Nat) : Int) := by
  unfold upd
  split
  · rename_i e
    subst e
    rw [sm_at, les_succ]
    omega
  · rename_i e
    show ((smT o n b c x : Nat) : Int) = _
    unfold smT
    by_cases h : x ≤ c
    · rw [if_pos h, if_pos (by omega)]
    · rw [if_neg h, if_neg (by omega)]
theorem fr_zero {o : Nat} {x : Nat} (hx : x < 513) : ((smT o n b 512 x : Nat) : Int) = ((frT o n b 0 x : Nat) : Int) := by
  unfold smT frT
  rw [if_pos (by omega)]
  split
  · rw [occ_zero]; rfl
  · rw [show x = 512 by omega]
theorem fr_at {o i c : Nat} (h : c < 512) : frT o n b i c = o + les n b c + occ b i c := by unfold frT; rw [if_pos h]
theorem fr_step {o i c : Nat} (hc : b i = c) (h : c < 512) (x : Nat) : upd (fun x => ((frT o n b i x : Nat) : Int)) c ((o + les n b c + occ b i c + 1 : Nat) : Int) x = ((frT o n b (i + 1) x : Nat) : Int) := by
  unfold upd
  split
  · rename_i e
    subst e
    rw [fr_at h, occ_yes hc]
    omega
  · rename_i e
    show ((frT o n b i x : Nat) : Int) = _
    unfold frT
    rw [occ_no (b := b) (i := i) (c := x) (by omega)]
theorem nx_zero (r : Nat) : nxT n b a 0 r = 0 := by unfold nxT; rw [if_neg (by omega)]
theorem nx_skip {r : Nat} : nxT n b a (a + 1) r = nxT n b a a r := by
  unfold nxT
  by_cases h : r < a
  · rw [if_pos h, if_pos (by omega)]
  · rw [if_neg h]
    by_cases e : r = a
    · rw [if_pos (by omega), e, lf_at]
    · rw [if_neg (by omega)]
theorem nx_step {k v : Nat} (h : v = lf n b a k) (x : Nat) : upd (fun r => ((nxT n b a k r : Nat) : Int)) k ((v : Nat) : Int) x = ((nxT n b a (k + 1) x : Nat) : Int) := by
  unfold upd
  split
  · rename_i e
    subst e
    unfold nxT
    rw [if_pos (by omega), h]
  · rename_i e
    show ((nxT n b a k x : Nat) : Int) = _
    unfold nxT
    by_cases h : x < k
    · rw [if_pos h, if_pos (by omega)]
    · rw [if_neg h, if_neg (by omega)]
theorem nx_all {r : Nat} (h : r < n + 1) : nxT n b a (n + 1) r = lf n b a r := by unfold nxT; rw [if_pos h]
theorem nxR_zero (r : Nat) : nxR n b a 0 r = 0 := by unfold nxR; rw [if_neg (by omega)]
theorem nxR_step {i k v : Nat} (hk : sy a k = i) (hka : k ≠ a) (h : v = lf n b a k) (x : Nat) : upd (fun r => ((nxR n b a i r : Nat) : Int)) k ((v : Nat) : Int) x = ((nxR n b a (i + 1) x : Nat) : Int) := by
  unfold upd
  split
  · rename_i e
    subst e
    unfold nxR
    rw [if_pos ⟨by omega, hka⟩, h]
  · rename_i e
    show ((nxR n b a i x : Nat) : Int) = _
    unfold nxR
    by_cases h : sy a x < i ∧ x ≠ a
    · rw [if_pos h, if_pos ⟨by omega, h.2⟩]
    · rw [if_neg h, if_neg (fun y => h ⟨by
        rcases Nat.lt_or_ge (sy a x) i with z | z
        · exact z
        · exact absurd (sy_inj y.2 hka (by omega)) e, y.2⟩)]
theorem nxR_all (ha : a ≤ n) {r : Nat} (h : r ≤ n) : nxR n b a n r = lf n b a r := by
  unfold nxR
  by_cases e : r = a
  · rw [if_neg (fun x => x.2 e), e, lf_at]
  · rw [if_pos ⟨sy_lt ha h e, e⟩]
/-- of each row which one its symbol leads to -/
theorem lf_val {k c : Nat} (ha : a ≤ n) (hk : k ≤ n) (hka : k ≠ a) (hc : b (sy a k) = c) : 1 + les n b c + occ b (sy a k) c = lf n b a k := by rw [lf_count ha hk hka, hc]
theorem sy_self : sy a a = a := by unfold sy; rw [if_neg (by omega)]
theorem sy_next : sy a (a + 1) = a := by unfold sy; rw [if_pos (by omega)]; rfl
theorem sy_succ {k : Nat} (h : k ≠ a) : sy a (k + 1) = sy a k + 1 := by unfold sy; split <;> split <;> omega
theorem sy_zero : sy a 0 = 0 := by unfold sy; split <;> rfl
theorem sy_gt {k : Nat} (h : a < k) : sy a k = k - 1 := by unfold sy; rw [if_pos h]
theorem sy_le {k : Nat} (h : k ≤ a) : sy a k = k := by unfold sy; rw [if_neg (by omega)]
theorem wk_zero : wk n b a 0 = 0 := rfl
theorem wk_succ (j : Nat) : wk n b a (j + 1) = lf n b a (wk n b a j) := rfl
end
/-- the suffix of a row -/
def rowS (L F : List Nat) (r : Nat) : Nat := if r = 0 then L.length else F.getD (r - 1) 0
theorem rowS_zero {L F : List Nat} : rowS L F 0 = L.length := rfl
theorem rowS_succ {L F : List Nat} (k : Nat) : rowS L F (k + 1) = F.getD k 0 := by unfold rowS; rw [if_neg (by omega)]; rfl
theorem rowS_rank {L F : List Nat} (hS : IsSA L F) {i : Nat} (hi : i ≤ L.length) : rowS L F (rank (L.length + 1) (endT L) i) = i := by
  rcases Nat.eq_or_lt_of_le hi with e | e
  · rw [e, rank_n]; rfl
  · obtain ⟨a, b, c⟩ := isSA_inv hS e
    unfold rowS
    rw [if_neg (by omega)]
    exact c
theorem rank_rowS {L F : List Nat} (hS : IsSA L F) {r : Nat} (hr : r ≤ L.length) : rowS L F r ≤ L.length ∧ rank (L.length + 1) (endT L) (rowS L F r) = r := by
  unfold rowS
  split
  · rename_i e; rw [e]; exact ⟨Nat.le_refl _, rank_n L⟩
  · obtain ⟨a, b⟩ := isSA_getD hS (show r - 1 < L.length by omega)
    exact ⟨Nat.le_of_lt a, by omega⟩
/-- what is made of the first m rows -/
structure BwT (L F : List Nat) (m : Nat) (B : List Nat) (a : Nat) : Prop where
  nil : L = [] → B = [] ∧ a = 0
  no : L ≠ [] → a = 0 → B.length = m ∧ (∀ r, r < m → rowS L F r ≠ 0) ∧ ∀ r, r < m → B.getD r 0 = L.getD (rowS L F r - 1) 0
  yes : L ≠ [] → 0 < a → a < m ∧ rowS L F a = 0 ∧ B.length + 1 = m ∧ ∀ r, r < m → r ≠ a → B.getD (sy a r) 0 = L.getD (rowS L F r - 1) 0
theorem BwT.zero {L F : List Nat} : BwT L F 0 [] 0 := ⟨fun _ => ⟨rfl, rfl⟩, fun _ _ => ⟨rfl, fun r h => absurd h (by omega), fun r h => absurd h (by omega)⟩, fun _ h => absurd h (by omega)⟩
theorem BwT.push {L F B : List Nat} {m a : Nat} (h : BwT L F m B a) (hS : IsSA L F) (hm : m ≤ L.length) (hne : rowS L F m ≠ 0) : BwT L F (m + 1) (B ++ [L.getD (rowS L F m - 1) 0]) a := by
  have h0 : L ≠ [] := fun e => by
    subst e
    have := (rank_rowS hS hm).1
    simp at this
    exact hne this
  refine ⟨fun e => absurd e h0, fun _ ha => ?_, fun _ ha => ?_⟩
  · obtain ⟨h1, h2, h3⟩ := h.no h0 ha
    refine ⟨by simp [h1], fun r hr => ?_, fun r hr => ?_⟩
    · rcases Nat.eq_or_lt_of_le (Nat.le_of_lt_succ hr) with e | e
      · subst e; exact hne
      · exact h2 r e
    · rw [getD_app, h1]
      rcases Nat.eq_or_lt_of_le (Nat.le_of_lt_succ hr) with e | e
      · subst e; rw [if_neg (by omega), if_pos rfl]
      · rw [if_pos e]; exact h3 r e
  · obtain ⟨h1, h2, h3, h4⟩ := h.yes h0 ha
    refine ⟨by omega, h2, by simp [h3], fun r hr hra => ?_⟩
    rw [getD_app]
    rcases Nat.eq_or_lt_of_le (Nat.le_of_lt_succ hr) with e | e
    · subst e
      rw [sy_gt h1, if_neg (by omega), if_pos (by omega)]
    · have := sy_lt (n := m - 1) (at_ := a) (by omega) (r := r) (by omega) hra
      rw [if_pos (by omega)]; exact h4 r e hra
theorem BwT.skip {L F B : List Nat} {m a : Nat} (h : BwT L F m B a) (hS : IsSA L F) (hm : m ≤ L.length) (hz : rowS L F m = 0) : BwT L F (m + 1) B m := by
  refine ⟨fun e => ⟨(h.nil e).1, by subst e; simpa using hm⟩, fun h0 ha => ?_, fun h0 ha => ?_⟩
  · subst ha
    rw [rowS_zero] at hz
    exact absurd (List.eq_nil_of_length_eq_zero hz) h0
  · rcases Nat.eq_zero_or_pos a with e | e
    · obtain ⟨h1, h2, h3⟩ := h.no h0 e
      refine ⟨by omega, hz, by omega, fun r hr hra => ?_⟩
      rw [sy_le (by omega)]
      exact h3 r (by omega)
    · obtain ⟨h1, h2, h3, h4⟩ := h.yes h0 e
      have a1 := (rank_rowS hS (show a ≤ L.length by omega)).2
      have a2 := (rank_rowS hS hm).2
      rw [h2] at a1
      rw [hz] at a2
      omega
theorem BwT.fin {L F B : List Nat} {a : Nat} (h : BwT L F (L.length + 1) B a) (hS : IsSA L F) : IsBw L B a := by
  by_cases h0 : L = []
  · obtain ⟨e1, e2⟩ := h.nil h0
    subst e1
    subst e2
    subst h0
    refine ⟨rfl, (rank_n []).symm, fun i hi hi2 => absurd hi2 (by simp; omega)⟩
  · have hp : 0 < L.length := List.length_pos_iff.2 h0
    have hr := rowS_rank hS (Nat.zero_le L.length)
    have hl := rank_le (L := L) (Nat.zero_le _)
    have ha : 0 < a := by
      rcases Nat.eq_zero_or_pos a with e | e
      · exact absurd hr ((h.no h0 e).2.1 _ (by omega))
      · exact e
    obtain ⟨h1, h2, h3, h4⟩ := h.yes h0 ha
    have a1 := (rank_rowS hS (show a ≤ L.length by omega)).2
    rw [h2] at a1
    refine ⟨by omega, a1.symm, fun i hi hi2 => ?_⟩
    have hne := rank_ne (L := L) (i := i) (j := 0) hi2 (by omega) (by omega)
    have := h4 _ (Nat.lt_succ_of_le (rank_le hi2)) (by rw [← a1]; exact hne)
    rw [rowS_rank hS hi2] at this
    exact this
theorem IsBw.le {L B : List Nat} {a : Nat} (h : IsBw L B a) : a ≤ L.length := by rw [h.at0]; exact rank_le (Nat.zero_le _)
theorem IsBw.symb {L B : List Nat} {a : Nat} (h : IsBw L B a) (hx : ∀ x ∈ L, x < 512) : ∀ x ∈ B, x < 512 := fun x hx2 => by
  obtain ⟨q, hq, rfl⟩ := List.getElem_of_mem hx2
  have hl := h.len
  have ha := h.le
  obtain ⟨i, hi, e⟩ := rank_sur (L := L) (r := if q < a then q else q + 1) (by split <;> omega)
  have hne : rank (L.length + 1) (endT L) i ≠ a := by rw [e]; split <;> omega
  have hi0 : 0 < i := by
    rcases Nat.eq_zero_or_pos i with x | x
    · subst x; exact absurd h.at0.symm hne
    · exact x
  have hs : sy a (rank (L.length + 1) (endT L) i) = q := by rw [e]; unfold sy; split <;> split <;> omega
  have e1 := h.sym i hi0 hi
  rw [hs, List.getD_eq_getElem?_getD, List.getElem?_eq_getElem hq, List.getD_eq_getElem?_getD, List.getElem?_eq_getElem (by omega)] at e1
  simp only [Option.getD_some] at e1
  rw [e1]
  exact hx _ (List.getElem_mem _)
theorem wl_symb {n : Nat} {B : List Nat} {a : Nat} (hx : ∀ x ∈ B, x < 512) : ∀ x ∈ wl n (fun i => B.getD i 0) a, x < 512 := fun x hx2 => by
  obtain ⟨i, _, rfl⟩ := List.mem_map.1 hx2
  dsimp only
  rw [List.getD_eq_getElem?_getD]
  rcases e : B[sy a (wk n (fun i => B.getD i 0) a (n - 1 - i))]? with _ | y
  · simp
  · exact hx y (List.mem_of_getElem? e)
end Go.Proofs.Ytpafbgdbjambgaa.SA
