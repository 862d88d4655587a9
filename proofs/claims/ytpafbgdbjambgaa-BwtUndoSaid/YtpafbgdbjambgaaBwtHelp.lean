/- bwt: helpers of the laws. -/
import Derived.Test.YtpafbgdbjambgaaBwtRefBack
namespace Go.Proofs.Ytpafbgdbjambgaa
open Go.RowKit
open Go.ChangeShapes Go.WideShapes Go.ChangeAt
open Go.Proofs.Ytpafbgdbjambgaa.SA
theorem BwtHelp_e24 : elemQ Try.prog 24 = some (3, 1) := by kernel_rfl
theorem BwtHelp_m24 : makeQ Try.prog 24 = some (3, 8, (.int .i64 0)) := by kernel_rfl
theorem BwtHelp_q24 : litQ Try.prog 24 = some (3, 1, 8, (.int .i64 0)) := by kernel_rfl
theorem BwtHelp_f26_0 : fieldQ Try.prog 26 0 = some 0 := by kernel_rfl
theorem BwtHelp_g24 : aggQ Try.prog 24 = some false := by kernel_rfl
theorem BwtHelp_l24 : (elemQ Try.prog 24).isSome = true := by kernel_rfl
theorem BwtHelp_k9 : callable Try.prog 9 = true := by kernel_rfl
theorem BwtHelp_k11 : callable Try.prog 11 = true := by kernel_rfl
theorem BwtHelp_k13 : callable Try.prog 13 = true := by kernel_rfl
theorem BwtHelp_g3 : aggQ Try.prog 3 = some false := by kernel_rfl
abbrev askT5 : Ty := .pr (.sl (.int .i64)) (.pr (.int .i64) .unit)
structure AskB (w : World) (b a : Nat) (A : Option Addr) (ca : Nat) (L : List Int) (x : Int) : Prop where
  cells : w.rangeAt b a [.slice A L.length ca, .int .i64 x]
  rowL : RowOf iV w A L
  lenL : L.length * 8 ≤ 140737488351232
theorem ask_at5 {w : World} {b a : Nat} {x : askT5.den} (h : askT5.At w (fun j => w.cell? ⟨b, a + j, none⟩) x) : ∃ A ca L y, AskB w b a A ca L y := by
  obtain ⟨h1, h2, _⟩ := h
  obtain ⟨A, ca, c1, r1, _, l1, _⟩ := at_nums h1
  exact ⟨A, ca, _, _, range2 c1 h2.1, r1, l1⟩
/-- what Back is to tell -/
def BackIs (n : Nat) (at_ : Int) (xs : List Int) (ok : Bool) (l : List Nat) : Prop :=
  (∃ B a, xs = cI B ∧ (∀ x ∈ B, x < 512) ∧ at_ = (a : Nat) ∧ a ≤ n ∧ Circ n (fun i => B.getD i 0) a ∧ ok = true ∧ l = wl n (fun i => B.getD i 0) a) ∨ (Bad n at_ xs ∧ ok = false ∧ l = [])
theorem back_is (at_ : Int) (A : Option Addr) (c n : Nat) (xs : List Int) (w : World) (hr : RowOf iV w A xs) (hn : n = xs.length) (hl : n ≤ 131072) : Rt Try.prog 16 [.int .i64 at_, .slice A n c] w fun v w' => (∃ ok l A' c', BackIs n at_ xs ok l ∧ v = .tuple #[.slice A' l.length c', .int .i64 (bif ok then 0 else 1)] ∧ RowOf iV w' A' (cI l)) ∧ From w w' := by
  refine (back_rt at_ A c n xs w hr hn hl).mono fun v w' h => ?_
  obtain ⟨h, hF⟩ := h
  refine ⟨?_, hF⟩
  rcases h with ⟨B, a, A', h1, h2, h3, h4, h5, rfl, ho⟩ | ⟨h, rfl⟩
  · refine ⟨true, wl n (fun i => B.getD i 0) a, A', n, .inl ⟨B, a, h1, h2, h3, h4, h5, rfl, rfl⟩, by rw [wl_len]; rfl, (sortA_own ho).2⟩
  · exact ⟨false, [], none, 0, .inr ⟨h, rfl, rfl⟩, rfl, RowOf.nil⟩
theorem back_len {n : Nat} {at_ : Int} {xs : List Int} {ok : Bool} {l : List Nat} (h : BackIs n at_ xs ok l) : l.length ≤ n := by
  rcases h with ⟨_, _, _, _, _, _, _, _, rfl⟩ | ⟨_, _, rfl⟩
  · rw [wl_len]; exact Nat.le_refl _
  · exact Nat.zero_le _
theorem back_two (at_ : Int) (A : Option Addr) (c n : Nat) (xs : List Int) (w : World) (hr : RowOf iV w A xs) (hn : n = xs.length) (hl : n ≤ 131072) : Rt Try.prog 16 [.int .i64 at_, .slice A n c] w fun v w' => ((∃ l A' c', BackIs n at_ xs true l ∧ v = .tuple #[.slice A' l.length c', .int .i64 0] ∧ RowOf iV w' A' (cI l) ∧ l.length = n) ∨ (BackIs n at_ xs false [] ∧ v = .tuple #[.slice none 0 0, .int .i64 1])) ∧ From w w' := by
  refine (back_rt at_ A c n xs w hr hn hl).mono fun v w' h => ?_
  obtain ⟨h, hF⟩ := h
  refine ⟨?_, hF⟩
  rcases h with ⟨B, a, A', h1, h2, h3, h4, h5, rfl, ho⟩ | ⟨h, rfl⟩
  · exact .inl ⟨wl n (fun i => B.getD i 0) a, A', n, .inl ⟨B, a, h1, h2, h3, h4, h5, rfl, rfl⟩, by rw [wl_len], (sortA_own ho).2, wl_len⟩
  · exact .inr ⟨.inr ⟨h, rfl, rfl⟩, rfl⟩
theorem refBack_is (ok : Bool) (l : List Nat) (at_ : Int) (A : Option Addr) (c n : Nat) (xs : List Int) (w : World) (hr : RowOf iV w A xs) (hn : n = xs.length) (hl : n ≤ 131072) (hi : BackIs n at_ xs ok l) : Rt Try.prog 17 [.int .i64 at_, .slice A n c] w fun v w' => (∃ A' c', v = .tuple #[.slice A' l.length c', .bool ok] ∧ RowOf iV w' A' (cI l)) ∧ From w w' := by
  refine (refBack_rt at_ A c n xs w hr hn hl).mono fun v w' h => ?_
  obtain ⟨h, hF⟩ := h
  refine ⟨?_, hF⟩
  rcases h with ⟨B, a, A', c', h1, h2, h3, h4, h5, rfl, ho⟩ | ⟨h, rfl⟩
  · rcases hi with ⟨B2, a2, g1, g2, g3, g4, g5, rfl, rfl⟩ | ⟨hb, _⟩
    · obtain rfl := cI_inj (h1.symm.trans g1)
      obtain rfl : a = a2 := by omega
      exact ⟨A', c', by rw [wl_len], ho⟩
    · exact absurd h5 (hb B a h1 h2 h3 h4)
  · rcases hi with ⟨B2, a2, g1, g2, g3, g4, g5, _⟩ | ⟨hb, rfl, rfl⟩
    · exact absurd g5 (h B2 a2 g1 g2 g3 g4)
    · exact ⟨none, 0, rfl, RowOf.nil⟩
/-- Back of what was made -/
theorem back_good (A : Option Addr) (c n a : Nat) (L B : List Nat) (w : World) (hr : RowOf iV w A (cI B)) (hn : n = B.length) (hl : n ≤ 131072) (hx : ∀ x ∈ L, x < 512) (hb : IsBw L B a) : Rt Try.prog 16 [.int .i64 (a : Nat), .slice A n c] w fun v w' => (∃ A' c', v = .tuple #[.slice A' L.length c', .int .i64 0] ∧ RowOf iV w' A' (cI L)) ∧ From w w' := by
  refine (back_is a A c n (cI B) w hr (by rw [List.length_map]; exact hn) hl).mono fun v w' h => ?_
  obtain ⟨⟨ok, l, A', c', hi, rfl, hr'⟩, hF⟩ := h
  refine ⟨?_, hF⟩
  have hu := undo hb
  have hnl : n = L.length := hn.trans hb.len
  rcases hi with ⟨B2, a2, g1, g2, g3, g4, g5, rfl, rfl⟩ | ⟨h, _⟩
  · obtain rfl := cI_inj g1
    obtain rfl : a = a2 := by omega
    rw [hnl, hu.2] at hr' ⊢
    exact ⟨A', c', rfl, hr'⟩
  · rw [← hnl] at hu
    exact absurd hu.1 (h B a rfl (hb.symb hx) rfl (by rw [hnl]; exact hb.le))
/-- Back of another row -/
theorem back_other {L B l : List Nat} {a k n : Nat} {ok : Bool} (hn : n = B.length) (hb : IsBw L B a) (hi : BackIs n (k : Nat) (cI B) ok l) (hok : ok = true) (hk : k ≠ a) : cI l ≠ cI L := fun e => by
  rcases hi with ⟨B2, a2, g1, g2, g3, g4, g5, _, rfl⟩ | ⟨_, h, _⟩
  · obtain rfl := cI_inj g1
    obtain rfl : k = a2 := by omega
    have := redo hn.symm g4 g5
    rw [cI_inj e] at this
    exact hk (hb.uniq this).2.symm
  · rw [hok] at h; cases h
/-- the same symbols stand in both -/
theorem cnt_img {n : Nat} {f : Nat → Nat} {p q : Nat → Prop} (hf : ∀ i, i < n → f i < n) (hi : ∀ i j, i < n → j < n → f i = f j → i = j) (hp : ∀ i, i < n → p i → q (f i)) : cnt n p ≤ cnt n q := by
  have key : ∀ m, m ≤ n → cnt m p ≤ cnt n (fun r => q r ∧ ∃ i, i < m ∧ f i = r) := by
    intro m
    induction m with
    | zero => intro _; exact Nat.zero_le _
    | succ m ih =>
      intro hm
      have h1 := ih (by omega)
      by_cases h : p m
      · rw [cnt_yes h]
        have := cnt_lt (n := n) (x := f m) (p := fun r => q r ∧ ∃ i, i < m ∧ f i = r) (q := fun r => q r ∧ ∃ i, i < m + 1 ∧ f i = r) (fun r _ ⟨a, i, b, c⟩ => ⟨a, i, by omega, c⟩) (hf m (by omega)) (fun ⟨_, i, a, b⟩ => by have := hi i m (by omega) (by omega) b; omega) ⟨hp m (by omega) h, m, by omega, rfl⟩
        omega
      · rw [cnt_no h]
        have := cnt_mono (n := n) (p := fun r => q r ∧ ∃ i, i < m ∧ f i = r) (q := fun r => q r ∧ ∃ i, i < m + 1 ∧ f i = r) (fun r _ ⟨a, i, b, c⟩ => ⟨a, i, by omega, c⟩)
        omega
  exact Nat.le_trans (key n (Nat.le_refl _)) (cnt_mono fun r _ h => h.1)
theorem cnt_split {n : Nat} {p : Nat → Prop} : cnt n p + cnt n (fun i => ¬ p i) = n := by
  rw [← cnt_or (fun i _ a b => b a)]
  have h : cnt n (fun _ => True) = n := by
    induction n with
    | zero => rfl
    | succ n ih => rw [cnt_yes trivial, ih]
  exact (cnt_congr (p := fun i => p i ∨ ¬ p i) (q := fun _ => True) fun i _ => ⟨fun _ => trivial, fun _ => Classical.em _⟩).trans h
theorem bw_occ {L B : List Nat} {a : Nat} (hb : IsBw L B a) (c : Nat) : occ (fun i => B.getD i 0) L.length c = occ (fun i => L.getD i 0) L.length c := by
  have ha := hb.le
  have hne : ∀ i, i < L.length → rank (L.length + 1) (endT L) (i + 1) ≠ a := fun i hi => by rw [hb.at0]; exact rank_ne (by omega) (by omega) (by omega)
  have hf : ∀ i, i < L.length → sy a (rank (L.length + 1) (endT L) (i + 1)) < L.length := fun i hi => sy_lt ha (rank_le (by omega)) (hne i hi)
  have hi : ∀ i j, i < L.length → j < L.length → sy a (rank (L.length + 1) (endT L) (i + 1)) = sy a (rank (L.length + 1) (endT L) (j + 1)) → i = j := fun i j h1 h2 e => by
    have := rank_inj (endT_txt L) (show i + 1 < L.length + 1 by omega) (show j + 1 < L.length + 1 by omega) (sy_inj (hne i h1) (hne j h2) e)
    omega
  have hs : ∀ i, i < L.length → B.getD (sy a (rank (L.length + 1) (endT L) (i + 1))) 0 = L.getD i 0 := fun i h => hb.sym (i + 1) (by omega) (by omega)
  have h1 := cnt_img (p := fun i => L.getD i 0 = c) (q := fun i => B.getD i 0 = c) hf hi (fun i h x => by rw [hs i h]; exact x)
  have h2 := cnt_img (p := fun i => ¬ L.getD i 0 = c) (q := fun i => ¬ B.getD i 0 = c) hf hi (fun i h x => by rw [hs i h]; exact x)
  have h3 := cnt_split (n := L.length) (p := fun i => L.getD i 0 = c)
  have h4 := cnt_split (n := L.length) (p := fun i => B.getD i 0 = c)
  show cnt L.length (fun i => B.getD i 0 = c) = cnt L.length (fun i => L.getD i 0 = c)
  omega
/-- for the walk that shows that all runs -/
theorem bw_1010 {B : List Nat} {a : Nat} (h : IsBw [1, 0, 1, 0] B a) : B = [0, 1, 1, 0] ∧ a = 4 := by
  have e : ∀ i, endT [1, 0, 1, 0] i = if i = 0 then 2 else if i = 1 then 1 else if i = 2 then 2 else if i = 3 then 1 else 0 := fun i => by
    match i with
    | 0 => rfl
    | 1 => rfl
    | 2 => rfl
    | 3 => rfl
    | i + 4 => unfold endT; rw [dif_neg (by simp)]; simp
  have s31 : sl 5 (endT [1, 0, 1, 0]) 3 1 := ⟨1, fun m hm => by rw [Nat.lt_one_iff.1 hm]; rfl, by decide, by decide, by rw [e, e]; decide⟩
  have s12 : sl 5 (endT [1, 0, 1, 0]) 1 2 := ⟨0, fun m hm => absurd hm (by omega), by decide, by decide, by rw [e, e]; decide⟩
  have s20 : sl 5 (endT [1, 0, 1, 0]) 2 0 := ⟨2, fun m hm => by
    rcases (show m = 0 ∨ m = 1 by omega) with rfl | rfl <;> rfl, by decide, by decide, by rw [e, e]; decide⟩
  have hS : IsSA [1, 0, 1, 0] [3, 1, 2, 0] := isSA_of rfl (by simp) (by
    simp only [List.pairwise_cons, List.mem_cons, List.not_mem_nil, or_false, forall_eq_or_imp, forall_eq]
    exact ⟨⟨s31, sl_trans s31 s12, sl_trans s31 (sl_trans s12 s20)⟩, ⟨s12, sl_trans s12 s20⟩, s20, fun _ h => h.elim, List.Pairwise.nil⟩)
  have t := ((((BwT.zero.push hS (by decide) (by decide)).push hS (by decide) (by decide)).push hS (by decide) (by decide)).push hS (by decide) (by decide)).skip hS (by decide) (by decide)
  exact ⟨(h.uniq (t.fin hS)).1, (h.uniq (t.fin hS)).2⟩
theorem row_four {w : World} {g : Nat} {x y z u : Int} (h : Blk w g 3 #[.int .i64 x, .int .i64 y, .int .i64 z, .int .i64 u]) : RowOf iV w (some ⟨g, 0, none⟩) [x, y, z, u] := fun _ => ⟨g, 0, rfl, fun i hi => by
  match i, hi with
  | 0, _ => exact h.rd 0 rfl
  | 1, _ => exact h.rd 1 rfl
  | 2, _ => exact h.rd 2 rfl
  | 3, _ => exact h.rd 3 rfl⟩
theorem make_1010 (g : Nat) (w : World) (h : Blk w g 3 #[.int .i64 1, .int .i64 0, .int .i64 1, .int .i64 0]) : Rt Try.prog 9 [.slice (some ⟨g, 0, none⟩) 4 4] w fun v w' => (∃ A' c', v = .tuple #[.slice A' 4 c', .int .i64 4, .int .i64 0] ∧ RowOf iV w' A' [0, 1, 1, 0]) ∧ From w w' := by
  refine (make_rt (some ⟨g, 0, none⟩) 4 4 [1, 0, 1, 0] w (row_four h) rfl (by omega)).mono fun v w' hv => ?_
  obtain ⟨hs, hF⟩ := hv
  refine ⟨?_, hF⟩
  rcases hs with ⟨h0, _⟩ | ⟨L, B, a, A', c', hL, _, hb, rfl, ho⟩
  · exact absurd h0 (by decide)
  · obtain rfl : L = [1, 0, 1, 0] := cI_inj hL.symm
    obtain ⟨rfl, rfl⟩ := bw_1010 hb
    exact ⟨A', c', rfl, (RowOf.own ho).2⟩
set_option maxRecDepth 100000 in
set_option maxHeartbeats 400000 in
theorem num_any (e : Int) (w : World) :
    Rt Try.prog 11 [.int .i64 e] w (fun v w' => v = .int .i64 e ∧ w = w') := by
  refine enter (n := 4) Try.func11 rfl rfl rfl ?_
  refine cd_seq ?_
  refine cd_region ?_
  refine st_val (ro_assign (v := .int _ _) rfl) ?_
  refine st_nil ?_
  refine nx_then ?_
  refine cd_seq ?_
  refine cd_region ?_
  refine st_val (ro_move (v := .int _ _) rfl) ?_
  refine st_val (ro_assign (v := .int _ _) rfl) ?_
  refine st_nil ?_
  refine nx_then ?_
  refine cd_ret ?_
  refine res1 (v := .int _ _) rfl rfl ?_
  exact ⟨rfl, rfl⟩
set_option maxRecDepth 100000 in
set_option maxHeartbeats 400000 in
theorem heavy_any (A : Option Addr) (n ca : Nat) (x : Int) (w : World) :
    Rt Try.prog 7 [.agg #[.slice A n ca, .int .i64 x]] w (fun v w' => v = .bool (decide (250 < n)) ∧ From w w') := by
  refine enter (n := 7) Try.func7 rfl rfl rfl ?_
  refine cd_seq ?_
  refine cd_region ?_
  refine st_box (v := .agg _) rfl ?_
  intro b1 w1 E1 hb1 hk1
  refine st_val (ro_assign (v := .bool _) rfl) ?_
  refine st_nil ?_
  refine nx_then ?_
  refine cd_seq ?_
  refine cd_region ?_
  refine st_val (ro_fieldAddr BwtHelp_f26_0 rfl) ?_
  refine st_val (ro_load BwtHelp_g24 rfl (by exact hk1.rd 0 rfl)) ?_
  refine st_val (ro_len BwtHelp_l24 rfl) ?_
  refine st_val (ro_gtr rfl rfl) ?_
  refine st_val (ro_assign (v := .bool _) rfl) ?_
  refine st_nil ?_
  refine nx_then ?_
  refine cd_ret ?_
  refine res1 (v := .bool _) rfl rfl ?_
  refine ⟨?_, (From.rfl_.next E1)⟩
  first
    | rw [decide_eq_true (by omega)]
    | exact congrArg Value.bool (decide_eq_decide.2 (by omega))
set_option maxRecDepth 100000 in
set_option maxHeartbeats 400000 in
theorem wakes_rt (w : World) :
    Rt Try.prog 15 [] w (fun v w' => v = .bool true ∧ From w w') := by
  refine enter (n := 22) Try.func15 rfl rfl rfl ?_
  refine cd_seq ?_
  refine cd_region ?_
  refine st_val (ro_assign (v := .bool _) rfl) ?_
  refine st_nil ?_
  refine nx_then ?_
  refine cd_seq ?_
  refine cd_region ?_
  refine st_lits [.const (.int .i64 1), .const (.int .i64 0), .const (.int .i64 1), .const (.int .i64 0)] [.int .i64 1, .int .i64 0, .int .i64 1, .int .i64 0] BwtHelp_q24 rfl rfl rfl rfl (by simp [Value.cells]) ?_
  intro b5 w1 E5 hb5 hk5
  refine st_call BwtHelp_k9 (make_1010 b5 _ hk5) ?_
  rintro v6 w2 ⟨⟨A6, c6, rfl, hr6⟩, E6⟩
  refine st_val (ro_move (v := .tuple _) rfl) ?_
  refine st_val (ro_extract rfl rfl) ?_
  refine st_val (ro_extract rfl rfl) ?_
  refine st_val (ro_extract rfl rfl) ?_
  refine st_val (ro_assign (v := .slice _ _ _) rfl) ?_
  refine st_val (ro_assign (v := .int _ _) rfl) ?_
  refine st_val (ro_assign (v := .int _ _) rfl) ?_
  refine st_nil ?_
  refine nx_then ?_
  refine cd_seq ?_
  refine cd_region ?_
  refine st_val (ro_move (v := .int _ _) rfl) ?_
  refine st_call BwtHelp_k11 (num_any _ _) ?_
  rintro v11 w3 ⟨rfl, rfl⟩
  refine st_val (ro_bt (ro_eql rfl rfl) rfl) ?_
  refine st_val (ro_move (v := .bool _) rfl) ?_
  refine st_unguard rfl ?_
  refine st_val (ro_move (v := .int _ _) rfl) ?_
  refine st_unguard rfl ?_
  refine st_val (ro_bt (ro_eql rfl rfl) rfl) ?_
  refine st_val (ro_pickT (v := .bool _) rfl rfl) ?_
  refine st_val (ro_move (v := .bool _) rfl) ?_
  refine st_unguard rfl ?_
  refine st_val (ro_move (v := .slice _ _ _) rfl) ?_
  refine st_unguard rfl ?_
  refine st_lits [.const (.int .i64 0), .const (.int .i64 1), .const (.int .i64 1), .const (.int .i64 0)] [.int .i64 0, .int .i64 1, .int .i64 1, .int .i64 0] BwtHelp_q24 rfl rfl rfl rfl (by simp [Value.cells]) ?_
  intro b19 w4 E19 hb19 hk19
  refine st_unguard rfl ?_
  refine st_call BwtHelp_k13 (eq_same A6 (some ⟨b19, 0, none⟩) c6 4 4 4 [0, 1, 1, 0] _ (hr6.from_ (From.rfl_.next E19)) (row_four hk19) rfl rfl (by omega)) ?_
  rintro v20 w5 ⟨rfl, E20⟩
  refine st_val (ro_pickT (v := .bool _) rfl rfl) ?_
  refine st_val (ro_assign (v := .bool _) rfl) ?_
  refine st_nil ?_
  refine nx_then ?_
  refine cd_ret ?_
  refine res1 (v := .bool _) rfl rfl ?_
  exact ⟨rfl, ((((From.rfl_.next E5).next E6).next E19).next E20)⟩
set_option maxRecDepth 100000 in
set_option maxHeartbeats 400000 in
theorem rank_rt (A : Option Addr) (ca m n c : Nat) (L : List Nat) (w : World) (hr : RowOf iV w A (cI L)) (hm : m = L.length) (hn : n = L.length) (hl : n ≤ 1000000) :
    Rt Try.prog 18 [.slice A m ca, .int .i64 (c : Nat), .int .i64 (n : Nat)] w (fun v w' => v = .int .i64 ((occ (fun i => L.getD i 0) n c : Nat) : Int) ∧ From w w') := by
  refine enter (n := 23) Try.func18 rfl rfl rfl ?_
  refine cd_seq ?_
  refine cd_region ?_
  refine st_val (ro_assign (v := .int _ _) rfl) ?_
  refine st_nil ?_
  refine nx_then ?_
  refine cd_seq ?_
  refine cd_region ?_
  refine st_val (ro_assign (v := .int _ _) rfl) ?_
  refine st_nil ?_
  refine nx_then ?_
  refine cd_seq ?_
  refine cd_seq ?_
  refine cd_region ?_
  refine st_val (ro_assign (v := .int _ _) rfl) ?_
  refine st_nil ?_
  refine nx_then ?_
  refine cd_block ?_
  refine cd_loop (G := Nat) [9, 10, 11, 12, 13, 14, 15, 16, 17, 18, 19, 20, 21] (fun k => [(7, .int .i64 ((occ (fun i => L.getD i 0) k c : Nat) : Int)), (8, .int .i64 (k : Nat))]) (fun k w' => k ≤ n ∧ From w w') (fun k => n - k) (0) ⟨rfl, rfl, trivial⟩ ?_ ?_
  · exact ⟨Nat.zero_le _, From.rfl_⟩
  rintro k ρ1 w1 ⟨hk, hB⟩
  refine cd_seq ?_
  refine cd_seq ?_
  refine cd_region ?_
  refine st_val (ro_move (v := .int _ _) rfl) ?_
  refine st_val (ro_move (v := .int _ _) rfl) ?_
  refine st_val (ro_lss rfl rfl) ?_
  refine st_nil ?_
  refine nx_then ?_
  refine cd_cond rfl (fun Q2 => ?_) (fun Q2 => ?_)
  · (try with_reducible first | replace Q2 := of_decide_eq_true Q2 | replace Q2 := of_decide_eq_false Q2 | replace Q2 := bn_t Q2 | replace Q2 := bn_f Q2)
    (try with_reducible first | replace Q2 := of_decide_eq_true Q2 | replace Q2 := of_decide_eq_false Q2 | replace Q2 := bx_t Q2 | replace Q2 := bx_f Q2 | replace Q2 := be_t Q2 | replace Q2 := be_f Q2)
    obtain ⟨b, o, rfl, hc⟩ := rowD hr (by omega)
    have hol := occ_le (b := fun i => L.getD i 0) k c
    first
     | (exfalso; first | omega | contradiction | (cases Q2; done))
     | skip
       refine cd_skip ?_
       refine nx_then ?_
       refine cd_cut (G := Nat) [14, 15, 16, 17, 18, 19, 20, 21] (fun q => [(7, .int .i64 (q : Nat))]) (fun q w' => q = occ (fun i => L.getD i 0) (k + 1) c ∧ w1 = w') ?_ ?_
       · refine cd_block ?_
         refine cd_seq ?_
         refine cd_region ?_
         refine st_val (ro_move (v := .slice _ _ _) rfl) ?_
         refine st_val (ro_move (v := .int _ _) rfl) ?_
         refine st_val (ro_indexAddr1 BwtHelp_e24 rfl rfl (by omega)) ?_
         refine st_val (ro_load BwtHelp_g3 rfl (by exact cellF hB (hc k (by omega)))) ?_
         refine st_val (ro_move (v := .int _ _) rfl) ?_
         refine st_val (ro_eql rfl rfl) ?_
         refine st_nil ?_
         refine nx_then ?_
         refine cd_cond rfl (fun Q3 => ?_) (fun Q3 => ?_)
         · (try with_reducible first | replace Q3 := of_decide_eq_true Q3 | replace Q3 := of_decide_eq_false Q3 | replace Q3 := bn_t Q3 | replace Q3 := bn_f Q3)
           (try with_reducible first | replace Q3 := of_decide_eq_true Q3 | replace Q3 := of_decide_eq_false Q3 | replace Q3 := bx_t Q3 | replace Q3 := bx_f Q3 | replace Q3 := be_t Q3 | replace Q3 := be_f Q3)
           first
            | (exfalso; first | omega | contradiction | (cases Q3; done))
            | skip
              refine cd_region ?_
              refine st_val (ro_move (v := .int _ _) rfl) ?_
              refine st_val (ro_addN (b := 1) rfl rfl (by omega)) ?_
              refine st_val (ro_assign (v := .int _ _) rfl) ?_
              refine st_nil ?_
              refine nx_block ?_
              refine nx_cut (occ (fun i => L.getD i 0) k c + 1) ⟨(by first | rfl | (refine int_eq ?_; omega)), trivial⟩ (by (iterate 9 refine agr_cons rfl ?_); exact agr_rfl) ?_
              exact ⟨(occ_yes (by show L.getD k 0 = c; omega)).symm, rfl⟩
         (try with_reducible first | replace Q3 := of_decide_eq_true Q3 | replace Q3 := of_decide_eq_false Q3 | replace Q3 := bn_t Q3 | replace Q3 := bn_f Q3)
         (try with_reducible first | replace Q3 := of_decide_eq_true Q3 | replace Q3 := of_decide_eq_false Q3 | replace Q3 := bx_t Q3 | replace Q3 := bx_f Q3 | replace Q3 := be_t Q3 | replace Q3 := be_f Q3)
         first
          | (exfalso; first | omega | contradiction | (cases Q3; done))
          | skip
            refine cd_skip ?_
            refine nx_block ?_
            refine nx_cut (occ (fun i => L.getD i 0) k c) ⟨(by first | rfl | (refine int_eq ?_; omega)), trivial⟩ (by (iterate 6 refine agr_cons rfl ?_); exact agr_rfl) ?_
            exact ⟨(occ_no (by show L.getD k 0 ≠ c; omega)).symm, rfl⟩
       rintro q ρ4 w4 ⟨hq, rfl⟩
       refine cd_region ?_
       refine st_val (ro_move (v := .int _ _) rfl) ?_
       refine st_val (ro_addN (b := 1) rfl rfl (by omega)) ?_
       refine st_val (ro_assign (v := .int _ _) rfl) ?_
       refine st_nil ?_
       refine nx_cut (k + 1) ⟨(int_eq (by rw [hq])), rfl, trivial⟩ (by (iterate 30 refine agr_cons rfl ?_); exact agr_rfl) ⟨?_, ?_⟩
       · exact ⟨by omega, hB⟩
       · show n - (k + 1) < n - k; omega
  (try with_reducible first | replace Q2 := of_decide_eq_true Q2 | replace Q2 := of_decide_eq_false Q2 | replace Q2 := bn_t Q2 | replace Q2 := bn_f Q2)
  (try with_reducible first | replace Q2 := of_decide_eq_true Q2 | replace Q2 := of_decide_eq_false Q2 | replace Q2 := bx_t Q2 | replace Q2 := bx_f Q2 | replace Q2 := be_t Q2 | replace Q2 := be_f Q2)
  first
   | (exfalso; first | omega | contradiction | (cases Q2; done))
   | skip
     refine cd_exit ?_
     refine ex_then ?_
     refine ex_then ?_
     refine ex_block ?_
     refine nx_then ?_
     refine cd_seq ?_
     refine cd_region ?_
     refine st_val (ro_move (v := .int _ _) rfl) ?_
     refine st_val (ro_assign (v := .int _ _) rfl) ?_
     refine st_nil ?_
     refine nx_then ?_
     refine cd_ret ?_
     refine res1 (v := .int _ _) rfl rfl ?_
     obtain rfl : n = k := by omega
     exact ⟨rfl, hB⟩
end Go.Proofs.Ytpafbgdbjambgaa
