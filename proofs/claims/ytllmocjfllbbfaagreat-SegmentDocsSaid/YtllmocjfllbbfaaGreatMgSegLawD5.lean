/- Parts of strings; patterns in texts; strings and documents as arguments. -/
import Derived.Test.YtllmocjfllbbfaaGreatMgSegLawD4
import Derived.Test.YtllmocjfllbbfaaGreatMgSegLawD2
import Derived.Test.YtllmocjfllbbfaaGreatMgSegLawD3
import Derived.Test.YtllmocjfllbbfaaGreatMgSegLawD1
import Derived.Sort.OwnSortedInts
import Derived.Laws.StructEq
set_option maxRecDepth 100000
namespace Go.Proofs.YtllmocjfllbbfaaGreat
open Go.RowKit
open Go.ChangeShapes Go.WideShapes Go.ChangeAt
open Go.Proofs.YtllmocjfllbbfaaGreat.SA
theorem FmMake_e68 : elemQ Tryz.prog 68 = some (3, 1) := by kernel_rfl
theorem FmMake_k34 : callable Tryz.prog 34 = true := by kernel_rfl
theorem FmMake_k35 : callable Tryz.prog 35 = true := by kernel_rfl
theorem FmMake_k36 : callable Tryz.prog 36 = true := by kernel_rfl
theorem FmMake_l68 : (elemQ Tryz.prog 68).isSome = true := by kernel_rfl
theorem FmMake_m53 : makeQ Tryz.prog 53 = some (21, 4, (.int .i32 0)) := by kernel_rfl
theorem FmMake_b55_0_1_3 : ∀ (a0 : Option Addr) (a1 : Int) (a2 : Option Addr) (a3 a4 : Nat), Tryz.prog.built 55 [(0, .pointer a0), (1, .int .i64 a1), (3, .slice a2 a3 a4)] = some #[.pointer a0, .int .i64 a1, .slice none 0 0, .slice a2 a3 a4] := by intros; kernel_rfl
theorem FmMake_k37 : callable Tryz.prog 37 = true := by kernel_rfl
theorem FmMake_g3 : aggQ Tryz.prog 3 = some false := by kernel_rfl
theorem TreeAt.le {w : World} {base base2 b k : Nat} {B : List Nat} (h : TreeAt w base b k B) (hl : base2 ≤ base) : TreeAt w base2 b k B := by
  obtain ⟨hb0, AT, cT, g, vs, hT, ho, hVs, hg0, hg2, hrest⟩ := h
  exact ⟨Nat.le_trans hl hb0, AT, cT, g, vs, hT, own_le ho hl, fun j hj => (hVs j hj).le hl, Nat.le_trans hl hg0, hg2, hrest⟩
theorem bw_mem {L B : List Nat} {a : Nat} (h : IsBw L B a) (x : Nat) : x ∈ B ↔ x ∈ L := by
  have hl := h.len
  have ha := h.le
  constructor
  · intro hx
    obtain ⟨q, hq, rfl⟩ := List.getElem_of_mem hx
    obtain ⟨i, hi, e⟩ := rank_sur (L := L) (r := if q < a then q else q + 1) (by split <;> omega)
    have hne : rank (L.length + 1) (endT L) i ≠ a := by rw [e]; split <;> omega
    have hi0 : 0 < i := by
      rcases Nat.eq_zero_or_pos i with y | y
      · subst y; exact absurd h.at0.symm hne
      · exact y
    have hs : sy a (rank (L.length + 1) (endT L) i) = q := by rw [e]; unfold sy; split <;> split <;> omega
    have e1 := h.sym i hi0 hi
    rw [hs, List.getD_eq_getElem?_getD, List.getElem?_eq_getElem hq, List.getD_eq_getElem?_getD, List.getElem?_eq_getElem (by omega)] at e1
    simp only [Option.getD_some] at e1
    rw [e1]
    exact List.getElem_mem _
  · intro hx
    obtain ⟨i, hi, rfl⟩ := List.getElem_of_mem hx
    have e1 := h.sym (i + 1) (by omega) (by omega)
    have hne : rank (L.length + 1) (endT L) (i + 1) ≠ a := by rw [h.at0]; exact rank_ne (by omega) (by omega) (by omega)
    have hs := sy_lt ha (rank_le (show i + 1 ≤ L.length by omega)) hne
    rw [List.getD_eq_getElem?_getD, List.getElem?_eq_getElem (by omega), List.getD_eq_getElem?_getD, show i + 1 - 1 = i by omega, List.getElem?_eq_getElem hi] at e1
    simp only [Option.getD_some] at e1
    rw [← e1]
    exact List.getElem_mem _
theorem chk_bw {L B : List Nat} {a : Nat} (h : IsBw L B a) (k : Int) : chkW k (cI B) = chkW k (cI L) := by
  have e : (cI B).any (badSym k) = (cI L).any (badSym k) := by
    rw [Bool.eq_iff_iff, List.any_eq_true, List.any_eq_true]
    constructor
    · rintro ⟨x, hx, hb⟩
      obtain ⟨y, hy, rfl⟩ := List.mem_map.1 hx
      exact ⟨_, List.mem_map.2 ⟨y, (bw_mem h y).1 hy, rfl⟩, hb⟩
    · rintro ⟨x, hx, hb⟩
      obtain ⟨y, hy, rfl⟩ := List.mem_map.1 hx
      exact ⟨_, List.mem_map.2 ⟨y, (bw_mem h y).2 hy, rfl⟩, hb⟩
  unfold chkW
  rw [e, List.length_map, List.length_map, h.len]
theorem rowB {α : Type} {f : α → Value} {w : World} {A : Option Addr} {l : List α} (h : RowOf f w A l) : ∀ q, 0 < l.length → A.map (·.block) = some q → q < w.heap.size := fun q h0 hq => by
  obtain ⟨b, o, rfl, hc⟩ := h h0
  cases hq
  exact lt_of_cell (hc 0 h0)
theorem new_bad (k : Int) (A : Option Addr) (c n : Nat) (xs : List Int) (w : World) (hr : RowOf iV w A xs) (hn : n = xs.length) (hl : n ≤ 131072) (hbad : xs.all (okS 512) = false) : Rt Tryz.prog 35 [.int .i64 k, .slice A n c] w fun v w' => (chkW k xs ≠ 0 ∧ v = .tuple #[.pointer none, .int .i64 (chkW k xs)]) ∧ From w w' := by
  refine (new_w k A c n xs w hr hn (by omega) (rowB hr)).mono fun v w' h => ?_
  obtain ⟨h, hF⟩ := h
  refine ⟨?_, hF⟩
  rcases h with h | ⟨K, L, b, rfl, rfl, rfl, ht⟩
  · exact h
  · exfalso
    obtain ⟨hb0, AT, cT, g, vs, hT, ho, hVs, hg0, hg2, hK1, hK2, hlt, hLl⟩ := ht
    rw [all_nat (fun x hx => Nat.lt_of_lt_of_le (hlt x hx) hK2)] at hbad
    cases hbad
theorem new_good (k : Int) (A : Option Addr) (c n a : Nat) (L B : List Nat) (w : World) (hr : RowOf iV w A (cI B)) (hn : n = B.length) (hl : n ≤ 131072) (hb : IsBw L B a) : Rt Tryz.prog 35 [.int .i64 k, .slice A n c] w fun v w' => ((chkW k (cI L) ≠ 0 ∧ v = .tuple #[.pointer none, .int .i64 (chkW k (cI L))]) ∨ (chkW k (cI L) = 0 ∧ ∃ K tb : Nat, k = (K : Nat) ∧ K ≤ 512 ∧ v = .tuple #[.pointer (some ⟨tb, 0, none⟩), .int .i64 0] ∧ TreeAt w' w.heap.size tb K B)) ∧ From w w' := by
  refine (new_w k A c n (cI B) w hr (by rw [List.length_map]; exact hn) (by rw [List.length_map]; omega) (rowB hr)).mono fun v w' h => ?_
  obtain ⟨h, hF⟩ := h
  refine ⟨?_, hF⟩
  rw [chk_bw hb] at h
  rcases h with h | ⟨K, L2, tb, rfl, e, rfl, ht⟩
  · exact .inl h
  · obtain rfl := cI_inj e
    have ht2 := ht
    obtain ⟨hb0, AT, cT, g, vs, hT, ho, hVs, hg0, hg2, hK1, hK2, hlt, hLl⟩ := ht2
    refine .inr ⟨?_, K, tb, rfl, hK2, rfl, ht⟩
    rw [← chk_bw hb]
    unfold chkW
    rw [if_neg (by omega), if_neg, if_neg (by rw [List.length_map]; omega)]
    rw [List.any_eq_true]
    rintro ⟨x, hx, hbs⟩
    obtain ⟨y, hy, rfl⟩ := List.mem_map.1 hx
    have := hlt y hy
    unfold badSym at hbs
    have := of_decide_eq_true hbs
    omega
theorem sort_nat (A : Option Addr) (c n : Nat) (L : List Nat) (w : World) (hr : RowOf iV w A (cI L)) (hn : n = L.length) (hl : n ≤ 131072) (hlt : ∀ x ∈ L, x < 512) : Rt Tryz.prog 36 [.slice A n c] w fun v w' => (∃ F A', IsSA L F ∧ v = .tuple #[.slice A' n n, .int .i64 0] ∧ RowOf iV w' A' (cI F)) ∧ From w w' := by
  refine (sort_rt A c n (cI L) w hr (hn.trans (by rw [List.length_map])) hl).mono fun v w' h => ?_
  obtain ⟨h, hF⟩ := h
  refine ⟨?_, hF⟩
  rcases h with ⟨a, _⟩ | ⟨L2, F2, A', a1, _, a3, rfl, ho⟩
  · rw [cI, all_nat hlt] at a; cases a
  · obtain rfl := cI_inj a1
    exact ⟨F2, A', a3, rfl, (sortA_own ho).2⟩
/-- what Build tells -/
def BuildA (w' : World) (base : Nat) (k : Int) (xs : List Int) (v : Value) : Prop :=
  (chkW k xs ≠ 0 ∧ v = .tuple #[.pointer none, .int .i64 (chkW k xs)]) ∨
  (chkW k xs = 0 ∧ ∃ (K b a : Nat) (L B F : List Nat), k = (K : Nat) ∧ xs = cI L ∧ (∀ x ∈ L, x < 512) ∧ FmAt w' base b K a L B F ∧ v = .tuple #[.pointer (some ⟨b, 0, none⟩), .int .i64 0])
theorem store0 (W0 : World) (b tb a n : Nat) (L F : List Nat) (w : World) (hn : n = L.length) (hS : IsSA L F) (hl : L.length ≤ 131072) (h : StAt w W0 b tb 0 a L F) : Rt Tryz.prog 37 [.pointer (some ⟨b, 0, none⟩), .int .i64 0, .int .i64 (n : Nat)] w fun _ w' => StAt w' W0 b tb 1 a L F := by
  subst hn
  exact store_rt W0 b tb a 0 L F w hS (Nat.zero_le _) hl h
theorem store1 (W0 : World) (b tb a k : Nat) (L F : List Nat) (w : World) (hk : k < L.length) (hS : IsSA L F) (hl : L.length ≤ 131072) (h : StAt w W0 b tb (k + 1) a L F) : Rt Tryz.prog 37 [.pointer (some ⟨b, 0, none⟩), .int .i64 ((k + 1 : Nat) : Int), .int .i64 ((F.getD k 0 : Nat) : Int)] w fun _ w' => StAt w' W0 b tb (k + 1 + 1) a L F := by
  have := store_rt W0 b tb a (k + 1) L F w hS hk hl h
  rw [rowS_succ] at this
  exact this
set_option maxHeartbeats 3000000 in
theorem build_rt (k : Int) (A : Option Addr) (c n : Nat) (xs : List Int) (w : World) (hr : RowOf iV w A xs) (hn : n = xs.length) (hl : n ≤ 131072) :
    Rt Tryz.prog 30 [.int .i64 k, .slice A n c] w (fun v w' => BuildA w' w.heap.size k xs v ∧ From w w') := by
  refine enter (n := 73) Tryz.func30 rfl rfl rfl ?_
  refine cd_seq (cd_region ?_)
  refine asp rfl ?_
  refine asi rfl ?_
  refine st_nil (nx_then (cd_seq (cd_region ?_)))
  refine mvs rfl ?_
  refine st_call FmMake_k34 (make_rt A c n xs _ (hr.from_ From.rfl_) hn hl) ?_
  rintro v16 w1 ⟨hs16, E16⟩
  rcases hs16 with ⟨hbad, rfl⟩ | ⟨Ln, Bs, a, A', c', hLn, hlt, hbw, rfl, ho16⟩
  · refine mvt rfl ?_
    refine st_val (ro_extract rfl rfl) ?_
    refine st_val (ro_extract rfl rfl) ?_
    refine st_val (ro_extract rfl rfl) ?_
    refine ass rfl ?_
    refine asi rfl ?_
    refine asi rfl ?_
    refine st_nil (nx_then (cd_seq (cd_seq (cd_region ?_))))
    refine mvi rfl ?_
    refine st_val (ro_neq rfl rfl) ?_
    refine st_nil (nx_then ?_)
    refine cd_cond rfl (fun Q2 => ?_) (fun Q2 => ?_)
    rotate_left
    · with_reducible replace Q2 := bx_f Q2
      exfalso; omega
    with_reducible replace Q2 := bx_t Q2
    refine cd_seq (cd_region ?_)
    refine mvi rfl ?_
    refine mvs rfl ?_
    refine st_call FmMake_k35 (new_bad k A c n xs _ (hr.from_ (From.rfl_.next E16)) hn hl hbad) ?_
    rintro v25 w22 ⟨⟨hck, rfl⟩, E25⟩
    refine mvt rfl ?_
    refine st_val (ro_extract rfl rfl) ?_
    refine st_val (ro_extract rfl rfl) ?_
    refine asi rfl ?_
    refine st_nil (nx_then (cd_seq (cd_region ?_)))
    refine mvi rfl ?_
    refine asp rfl ?_
    refine asi rfl ?_
    refine st_nil (nx_then (cd_ret (rt_then ?_)))
    refine res2 (v := .pointer _) (v' := .int _ _) rfl rfl rfl ?_
    exact ⟨.inl ⟨hck, rfl⟩, ((From.rfl_.next E16).next E25)⟩
  have hLl : Ln.length = n := by rw [hn, hLn, List.length_map]
  have hBl := hbw.len
  refine mvt rfl ?_
  refine st_val (ro_extract rfl rfl) ?_
  refine st_val (ro_extract rfl rfl) ?_
  refine st_val (ro_extract rfl rfl) ?_
  refine ass rfl ?_
  refine asi rfl ?_
  refine asi rfl ?_
  refine st_nil (nx_then (cd_seq (cd_seq (cd_region ?_))))
  refine mvi rfl ?_
  refine st_val (ro_neq rfl rfl) ?_
  refine st_nil (nx_then ?_)
  refine cd_cond rfl (fun Q23 => ?_) (fun Q23 => ?_)
  · with_reducible replace Q23 := bx_t Q23
    exfalso; omega
  with_reducible replace Q23 := bx_f Q23
  refine cd_skip (nx_then (cd_seq (cd_region ?_)))
  refine mvi rfl ?_
  refine mvs rfl ?_
  refine st_call FmMake_k35 (new_good k A' c' Bs.length a Ln Bs _ (RowOf.own ho16).2 rfl (by omega) hbw) ?_
  rintro v32 w25 ⟨hs32, E32⟩
  rcases hs32 with ⟨hck, rfl⟩ | ⟨hck, K, tb, rfl, hK, rfl, hT⟩
  · refine mvt rfl ?_
    refine st_val (ro_extract rfl rfl) ?_
    refine st_val (ro_extract rfl rfl) ?_
    refine asp rfl ?_
    refine asi rfl ?_
    refine st_nil (nx_then (cd_seq (cd_seq (cd_region ?_))))
    refine mvi rfl ?_
    refine st_val (ro_neq rfl rfl) ?_
    refine st_nil (nx_then ?_)
    refine cd_cond rfl (fun Q26 => ?_) (fun Q26 => ?_)
    rotate_left
    · with_reducible replace Q26 := bx_f Q26
      exfalso; omega
    with_reducible replace Q26 := bx_t Q26
    refine cd_seq (cd_region ?_)
    refine mvi rfl ?_
    refine asp rfl ?_
    refine asi rfl ?_
    refine st_nil (nx_then (cd_ret (rt_then ?_)))
    refine res2 (v := .pointer _) (v' := .int _ _) rfl rfl rfl ?_
    exact ⟨.inl ⟨by rw [hLn]; exact hck, by rw [hLn]⟩, ((From.rfl_.next E16).next E32)⟩
  refine mvt rfl ?_
  refine st_val (ro_extract rfl rfl) ?_
  refine st_val (ro_extract rfl rfl) ?_
  refine asp rfl ?_
  refine asi rfl ?_
  refine st_nil (nx_then (cd_seq (cd_seq (cd_region ?_))))
  refine mvi rfl ?_
  refine st_val (ro_neq rfl rfl) ?_
  refine st_nil (nx_then ?_)
  refine cd_cond rfl (fun Q35 => ?_) (fun Q35 => ?_)
  · with_reducible replace Q35 := bx_t Q35
    exfalso; omega
  with_reducible replace Q35 := bx_f Q35
  refine cd_skip (nx_then (cd_seq (cd_region ?_)))
  refine mvs rfl ?_
  refine st_call FmMake_k36 (sort_nat A c n Ln _ (by rw [← hLn]; exact hr.from_ ((From.rfl_.next E16).next E32)) (by omega) hl hlt) ?_
  rintro v40 w36 ⟨⟨F, A40, hSA, rfl, hrF⟩, E40⟩
  have hBz : From w w36 := (((From.rfl_.next E16).next E32).next E40)
  have hT40 := hT.from_ E40
  have hFl := hSA.len
  refine mvt rfl ?_
  refine st_val (ro_extract rfl rfl) ?_
  refine st_val (ro_extract rfl rfl) ?_
  refine ass rfl ?_
  refine asi rfl ?_
  refine st_nil (nx_then (cd_seq (cd_seq (cd_region ?_))))
  refine mvi rfl ?_
  refine st_val (ro_neq rfl rfl) ?_
  refine st_nil (nx_then ?_)
  refine cd_cond rfl (fun Q37 => ?_) (fun Q37 => ?_)
  · with_reducible replace Q37 := bx_t Q37
    exfalso; omega
  with_reducible replace Q37 := bx_f Q37
  refine cd_skip (nx_then (cd_seq (cd_region ?_)))
  refine mvp rfl ?_
  refine mvi rfl ?_
  refine mvs rfl ?_
  refine st_val (ro_len FmMake_l68 rfl) ?_
  refine st_val (ro_quoN (b := 8) rfl rfl (by omega)) ?_
  refine st_val (ro_addN (b := 1) rfl rfl (by omega)) ?_
  refine st_make FmMake_m53 rfl rfl rfl (by omega) (by omega) ?_
  intro b52 w38 E52 hb52 hk52
  refine st_val (ro_build (l := [(0, .tmp 46), (1, .tmp 47), (3, .tmp 52)]) (FmMake_b55_0_1_3 _ _ _ _ _)) ?_
  refine st_box (v := .agg _) rfl ?_
  intro b54 w39 E54 hb54 hk54
  have hz52 : (w36).heap.size ≤ b52 := by rw [hb52]; exact Nat.le_refl _
  have hz54 : (w36).heap.size ≤ b54 := by rw [hb54]; exact E52.size
  have hSt : StAt w39 w36 b54 tb 0 a Ln F := ⟨((From.rfl_.next E52).next E54), hz54, none, 0, b52, hz52, by rw [hLl]; exact hk54, World.ownsRow_nil _ _ _ _, by rw [hLl, tabJ_congr (g := fun _ => 0) (fun j _ => by rw [rwJ_zero]; rfl), ← tabJ_zero]; exact hk52.from_ E54⟩
  refine asp rfl ?_
  refine st_nil (nx_then (cd_seq (cd_region ?_)))
  refine mvp rfl ?_
  refine mvs rfl ?_
  refine st_val (ro_len FmMake_l68 rfl) ?_
  refine st_call FmMake_k37 (store0 w36 b54 tb a n Ln F _ (by omega) hSA (by omega) hSt) ?_
  rintro v58 w40 hSt
  refine st_nil (nx_then (cd_seq (cd_seq (cd_region ?_))))
  refine mvs rfl ?_
  refine st_val (ro_len FmMake_l68 rfl) ?_
  refine mvi rfl ?_
  refine st_nil (nx_then (cd_block ?_))
  refine cd_loop (G := Nat) [12, 13, 62, 63, 64, 65, 66, 67, 68, 69, 70, 71] (fun q => [(61, .int .i64 (q : Nat))]) (fun q w' => q ≤ n ∧ StAt w' w36 b54 tb (q + 1) a Ln F) (fun q => n - q) (0) ⟨rfl, trivial⟩ ?_ ?_
  · exact ⟨Nat.zero_le _, hSt⟩
  rintro q ρ41 w41 ⟨hq, hSt⟩
  refine cd_seq (cd_region ?_)
  refine st_val (ro_lss rfl rfl) ?_
  refine st_nil (nx_then (cd_seq ?_))
  refine cd_cond rfl (fun Q42 => ?_) (fun Q42 => ?_)
  · with_reducible replace Q42 := of_decide_eq_true Q42
    obtain ⟨bF, oF, rfl, hcF⟩ := rowD hrF (by omega)
    refine cd_skip (nx_then (cd_seq (cd_block (cd_seq (cd_region ?_)))))
    refine mvi rfl ?_
    refine st_val (ro_indexAddr1 FmMake_e68 rfl rfl (by omega)) ?_
    refine st_val (ro_load FmMake_g3 rfl (by exact cellF hSt.1 (hcF q (by omega)))) ?_
    refine asi rfl ?_
    refine asi rfl ?_
    refine st_nil (nx_then (cd_region ?_))
    refine mvp rfl ?_
    refine mvi rfl ?_
    refine st_val (ro_addN (b := 1) rfl rfl (by omega)) ?_
    refine mvi rfl ?_
    refine st_call FmMake_k37 (store1 w36 b54 tb a q Ln F _ (by omega) hSA (by omega) hSt) ?_
    rintro v70 w43 hSt
    refine st_nil (nx_block (nx_then (cd_region ?_)))
    refine st_val (ro_add64 rfl rfl (by omega)) ?_
    refine mvi rfl ?_
    refine st_nil ?_
    refine nx_cut (q + 1) ⟨(by first | rfl | (refine int_eq ?_; omega)), trivial⟩ (by (iterate 26 refine agr_cons rfl ?_); exact agr_rfl) ⟨?_, ?_⟩
    · exact ⟨by omega, hSt⟩
    · show n - (q + 1) < n - q; omega
  with_reducible replace Q42 := of_decide_eq_false Q42
  refine cd_exit ?_
  refine ex_then (ex_then (ex_block (nx_then (cd_seq (cd_region ?_)))))
  refine mvp rfl ?_
  refine asp rfl ?_
  refine asi rfl ?_
  refine st_nil (nx_then (cd_ret ?_))
  refine res2 (v := .pointer _) (v' := .int _ _) rfl rfl rfl ?_
  obtain rfl : q = n := by omega
  have hSt9 := hSt
  obtain ⟨hF1, hb0, AS, cs, gr, hg0, hI, ho, hJ⟩ := hSt9
  have hz := hBz.size
  refine ⟨.inr ⟨by rw [hLn]; exact hck, K, b54, a, Ln, Bs, F, rfl, hLn, hlt, ⟨Nat.le_trans hz hb0, hSA, hbw, by omega, hK, tb, AS, cs, gr, by rw [hLl]; rw [hLl] at hI; exact hI, (hT40.from_ hF1).le (by exact E16.size), own_le (by rw [hLl]; exact ho) hz, ?_, Nat.le_trans hz hg0⟩, rfl⟩, (hBz.next hSt.1)⟩
  rw [tabJ_congr (g := fun j => ((rwJ Ln (Ln.length + 1) j : Nat) : Int)) (fun j hj => by rw [rwJ_all hj]), hLl]
  rw [hLl] at hJ
  exact hJ
end Go.Proofs.YtllmocjfllbbfaaGreat

namespace Go.Proofs.YtllmocjfllbbfaaGreat
open Go.RowKit

abbrev Gh := Nat → Nat
def updG (g : Gh) (i h : Nat) : Gh := fun j => bif Nat.beq j i then h else g j
abbrev GT := List (Nat × Nat × (Gh → Value))
abbrev tabG (T : GT) (g : Gh) : List (Nat × Nat × Value) := T.map fun p => (p.1, p.2.1, p.2.2 g)
abbrev MT := List (Nat × TypeId × Array Value)
/-- the blocks that have been made -/
structure MemG (w0 : World) (MK : MT) (S : Nat → Bool) (g : Gh) (w' : World) : Prop where
  from_ : From w0 w'
  blk : ∀ p ∈ MK, S p.1 = true → Blk w' (g p.1) p.2.1 p.2.2
  ge : ∀ p ∈ MK, S p.1 = true → w0.heap.size ≤ g p.1
  ne : ∀ p ∈ MK, ∀ q ∈ MK, p.1 ≠ q.1 → S p.1 = true → S q.1 = true → g p.1 ≠ g q.1
def IndG (S : Nat → Bool) (g g' : Gh) : GT → Prop
  | [] => True
  | p :: r => (S p.1 = true → p.2.2 g' = p.2.2 g) ∧ IndG S g g' r
section
variable {P : Program} {Q : Exit → Act → World → Prop} {n : Fr} {L L' M : List (Nat × Value)} {w w' w'' w0 : World} {l : List Oper} {T : GT} {MK : MT} {S : Nat → Bool} {op : Op} {ty : TypeId} {pos : String} {after : Array Edge} {i d : Nat} {f : Gh → Value} {g : Gh}
abbrev StepG (P : Program) (n : Fr) (L : List (Nat × Value)) (T : GT) (MK : MT) (w0 : World) (S : Nat → Bool) (i : Nat) (o : Oper) (L' : List (Nat × Value)) (w' : World) : Prop := StepI P n o (fun L2 w2 => ∃ g, InvL L (tabG T g) (setB S i) L2 ∧ MemG w0 MK (setB S i) g w2) L' w'
def StepsG (P : Program) (n : Fr) (L : List (Nat × Value)) (T : GT) (MK : MT) (w0 : World) (l : List Oper) : Nat → List Oper → Prop
  | _, [] => True
  | i, o :: r => (∀ S L' w' g, UniP (T.map fun p => (p.1, p.2.1)) → UniP (MK.map fun p => (p.1, p.1)) → InvL L (tabG T g) S L' → MemG w0 MK S g w' → ClosedI l S → S i = false → EdgesOn S o.after.toList → StepG P n L T MK w0 S i o L' w') ∧ StepsG P n L T MK w0 l (i + 1) r
end
end Go.Proofs.YtllmocjfllbbfaaGreat

namespace Go.Proofs.YtllmocjfllbbfaaGreat
open Go.RowKit Go.Shelf
/-- an iterator that yields N pairs, if it isn't told to stop -/
structure IterOS (P : Program) (gf : Nat) (lb : Array Value) (u v : Nat → Value) (N : Nat) (Rd : World → Prop) : Prop where
  out : ∀ (l : Nat) (J : Nat → World → Prop) (JS : World → Prop) (W : World), (∀ k W', J k W' → Rd W') → (∀ k W1, k < N → J k W1 → YieldAt Fence.wide 0 P l #[u k, v k] W1 fun e W' => (e = .returned (.bool true) ∧ J (k + 1) W') ∨ (e = .returned (.bool false) ∧ JS W')) → J 0 W →
    CallsIn Fence.wide 1 P gf (#[.func (.yield l) #[] #[]] ++ lb) W fun e W' => (∃ v, e = .returned v) ∧ (J N W' ∨ JS W')
/-- a round goes on, or ends the function -/
def RPostS (K S : World → Prop) : Exit → Act → World → Prop
  | .normal, _, w => K w
  | .ret, _, w => S w
  | _, _, _ => False
theorem cd_range2R {P : Program} {Q : Exit → Act → World → Prop} {n : Fr} {L : List (Nat × Value)} {w : World} {g : Operand} {p1 p2 : Nat} {assign body : Code} {gf : Nat} {lb : Array Value} {u v : Nat → Value} {N : Nat} {Rd : World → Prop}
    (hg : ev n L g = .func (.func gf) #[] lb) (he : ∀ args w, (callFunc gf args).run P w = .ok (.enter gf args) w) (hit : IterOS P gf lb u v N Rd) (I : Nat → World → Prop) (S : World → Prop) (LB : Nat → List (Nat × Value)) (hRd : ∀ k W, I k W → Rd W)
    (hF : ∀ k W W', I k W → From W W' → I k W') (hO : ∀ k W W' q o, W.heap[q]? = some o → o.isCells = false → Only q W W' → w.heap.size ≤ q → I k W → I k W') (hSO : ∀ W W' q o, W.heap[q]? = some o → o.isCells = false → Only q W W' → w.heap.size ≤ q → S W → S W') (h0 : I 0 w)
    (ha : ∀ (l k : Nat) (W : World) (K : Act → World → Prop), K (mkA ⟨n.n, []⟩ (LB k)) W → CdR l P assign (Exit.then K fun _ _ _ => False) ⟨n.n, []⟩ ((p2, v k) :: (p1, u k) :: L) W)
    (hb : ∀ (l k : Nat) (W : World), k < N → I k W → CdR l P body (RPostS (fun W' => I (k + 1) W' ∧ Keeps W W') fun W' => S W' ∧ Keeps W W') ⟨n.n, []⟩ (LB k) W)
    (hd : ∀ (D : Nat) (W : World), w.heap.size ≤ D → I N W → W.heap[D]? = some (.deferred (some [])) → Q .normal (mkA ⟨n.n, { target := .collected D, args := #[] } :: n.ds⟩ L) W)
    (hs : ∀ (D : Nat) (W : World), w.heap.size ≤ D → S W → W.heap[D]? = some (.deferred (some [])) → Q .ret (mkA ⟨n.n, { target := .collected D, args := #[] } :: n.ds⟩ L) W) :
    Cd P (.rangeFunc g #[p1, p2] assign body) Q n L w := by
  refine ⟨(wpIn_wide (n := 2)).1 (wpIn_rangeFunc fun fn _ => ?_)⟩
  obtain ⟨rec, hrec⟩ : ∃ rec : LoopState → Option Code → Loop, rec = fun st pe => { state := st, pending := pe, fn, tmps := mkT n.n L, params := #[p1, p2], assign, body, defers := w.heap.size } := ⟨_, rfl⟩
  obtain ⟨D, hD⟩ : ∃ D, D = w.heap.size := ⟨_, rfl⟩
  obtain ⟨W1, hW1⟩ : ∃ W1, (w.alloc (.deferred (some []))).alloc (.loop (rec .ready none)) = W1 := ⟨_, rfl⟩
  have hL1 : W1.heap[D + 1]? = some (.loop (rec .ready none)) := by
    rw [← hW1, hD]
    have := World.alloc_heap_new (w.alloc (.deferred (some []))) (.loop (rec .ready none))
    rwa [World.size_alloc] at this
  have hK1 : W1.heap[D]? = some (.deferred (some [])) := by
    rw [← hW1, hD]
    exact (Below.heap_alloc _ _ _ (by simp)).trans (World.alloc_heap_new w _)
  have hI1 : I 0 W1 := hF 0 w W1 h0 (by rw [← hW1]; exact (From.rfl_.new _).next (From.rfl_.new _))
  refine ⟨D + 1, [{ target := .collected D, args := #[] }], W1, { target := .fn (.func gf) lb, args := #[.func (.yield (D + 1)) #[] #[]] }, W1, gf, #[.func (.yield (D + 1)) #[] #[]] ++ lb, W1, ?_, ?_, fun _ _ => trivial, ?_, (fun h => by cases h), ?_⟩
  · rw [← hW1, hrec, hD]
    exact run_enterLoop_outer _ _ _ _ _
  · simp only [resolve, eval_mkA, hg]
    simp [go_sem, ev]
  · simp [invoke, go_sem, he]
  · refine (hit.out (D + 1) (fun k W => I k W ∧ W.heap[D + 1]? = some (.loop (rec .ready none)) ∧ W.heap[D]? = some (.deferred (some []))) (fun W => S W ∧ W.heap[D + 1]? = some (.loop (rec .done (some .ret))) ∧ W.heap[D]? = some (.deferred (some []))) W1 (fun k W' h => hRd k W' h.1) ?_ ⟨hI1, hL1, hK1⟩).mono ?_
    · rintro k W hk ⟨hi, hl, hdf⟩
      have hlt : D + 1 < W.heap.size := (Array.getElem?_eq_some_iff.1 hl).1
      have hy := run_yield (P := P) (args := #[u k, v k]) hl (by rw [hrec]; rfl)
      rw [hrec] at hy
      refine ⟨fn, _, assign, body, hy, roundIn_of_wpIn trivial ?_⟩
      obtain ⟨W2, hW2⟩ : ∃ W2, W.putObj (D + 1) (.loop { rec .ready none with state := .busy }) = W2 := ⟨_, rfl⟩
      have hO2 : Only (D + 1) W W2 := by rw [← hW2]; exact only_putObj
      have hl2 : W2.heap[D + 1]? = some (.loop { rec .ready none with state := .busy }) := by rw [← hW2]; exact World.putObj_heap_same hlt
      have hd2 : W2.heap[D]? = some (.deferred (some [])) := by rw [hO2.block D (by omega)]; exact hdf
      have hi2 : I k W2 := hO k W W2 (D + 1) _ hl rfl hO2 (by omega) hi
      have key := (ha (D + 1) k W (fun a₁ w₁ => ∃ w₂, (Instr.beginRound (D + 1)).run P w₁ = .ok () w₂ ∧ body.wpIn (Fence.wide.inRound (D + 1)) 0 P (roundPost P (D + 1) fun e W' => (e = .returned (.bool true) ∧ I (k + 1) W' ∧ W'.heap[D + 1]? = some (.loop (rec .ready none)) ∧ W'.heap[D]? = some (.deferred (some []))) ∨ (e = .returned (.bool false) ∧ S W' ∧ W'.heap[D + 1]? = some (.loop (rec .done (some .ret))) ∧ W'.heap[D]? = some (.deferred (some [])))) a₁ w₂) ⟨W2, ?_, ?_⟩).out
      · have e : ({ tmps := (Array.foldl (fun tmps (x : Tmp × Value) => tmps.setIfInBounds x.1 x.2) (mkT n.n L) (#[p1, p2].zip #[u k, v k])), defers := [] } : Act) = mkA ⟨n.n, []⟩ ((p2, v k) :: (p1, u k) :: L) := by
          have e1 := put_mkA ⟨n.n, []⟩ L p1 (u k)
          have e2 := put_mkA ⟨n.n, []⟩ ((p1, u k) :: L) p2 (v k)
          rw [← e2, ← e1]
          simp [mkA, Act.put]
        rw [← e] at key
        exact key
      · rw [← hW2]
        exact run_beginRound hl (by rw [hrec])
      · refine wpIn_mono (hb (D + 1) k W2 hk hi2).out fun e a3 W3 hp => ?_
        cases e <;> first | exact hp.elim | skip
        · obtain ⟨hi3, hk3⟩ := hp
          have hl3 := hk3 _ _ hl2 rfl
          have hd3 := hk3 _ _ hd2 rfl
          have hlt3 := (Array.getElem?_eq_some_iff.1 hl3).1
          have hr := run_endRound (P := P) none hl3
          refine ⟨_, _, hr, .inl ⟨rfl, hO _ W3 _ (D + 1) _ hl3 rfl only_putObj (by omega) hi3, ?_, ?_⟩⟩
          · rw [World.putObj_heap_same hlt3, hrec]
            rfl
          · rw [World.putObj_heap_other (by omega)]
            exact hd3
        · obtain ⟨hi3, hk3⟩ := hp
          have hl3 := hk3 _ _ hl2 rfl
          have hd3 := hk3 _ _ hd2 rfl
          have hlt3 := (Array.getElem?_eq_some_iff.1 hl3).1
          have hr := run_endRound (P := P) (some .ret) hl3
          refine ⟨_, _, hr, .inr ⟨rfl, hSO W3 _ (D + 1) _ hl3 rfl only_putObj (by omega) hi3, ?_, ?_⟩⟩
          · rw [World.putObj_heap_same hlt3, hrec]
            rfl
          · rw [World.putObj_heap_other (by omega)]
            exact hd3
    · rintro e W2 ⟨⟨x, rfl⟩, (⟨hi, hl, hdf⟩ | ⟨hi, hl, hdf⟩)⟩
      · refine ⟨none, _, by have := run_endLoop (P := P) hl (by rw [hrec]; simp); rw [hrec] at this; exact this, ?_⟩
        exact hd D _ (by omega) (hO _ W2 _ (D + 1) _ hl rfl only_putObj (by omega) hi) ((World.putObj_heap_other (by omega)).trans hdf)
      · refine ⟨some .ret, _, by have := run_endLoop (P := P) hl (by rw [hrec]; simp); rw [hrec] at this; exact this, wpIn_ret ?_⟩
        exact hs D _ (by omega) (hSO W2 _ (D + 1) _ hl rfl only_putObj (by omega) hi) ((World.putObj_heap_other (by omega)).trans hdf)
end Go.Proofs.YtllmocjfllbbfaaGreat

namespace Go.Proofs.YtllmocjfllbbfaaGreat
open Go.RowKit Go.Shelf
attribute [local go_sem] Oper.semAt_some

def BackRdI (Bs b o m c : Nat) (f : Nat → Int) (W : World) : Prop := W.cell? ⟨Bs, 0, none⟩ = some (.slice (some ⟨b, o, none⟩) m c) ∧ ∀ j, j < m → W.cell? ⟨b, o + j, none⟩ = some (.int .i64 (f j))
set_option maxHeartbeats 4000000 in
theorem back_iterI (Bs b o m c : Nat) (f : Nat → Int) (hm : m ≤ 1000000) :
    IterOS Tryz.prog 69 #[.pointer (some ⟨Bs, 0, none⟩)] (fun k => .int .i64 ((m - 1 - k : Nat) : Int)) (fun k => .int .i64 (f (m - 1 - k))) m (BackRdI Bs b o m c f) := by
  refine ⟨fun l J JS W hRd hY h0 => ?_⟩
  refine callsIn_of_wp Tryz.func69 rfl trivial ?_ rfl
  simp only [Tryz.ntmps69, List.size_toArray, List.length_cons, List.length_nil, Nat.reduceAdd, Nat.reduceSub, Array.replicate_succ, Array.replicate_zero, List.push_toArray, List.append_toArray, List.nil_append, List.cons_append]
  have hBs := (hRd 0 W h0).1
  gi_wp2
  gi_loopw [3] (fun i wr => ∃ k : Nat, k ≤ m ∧ i = .int .i64 ((m : Int) - 1 - k) ∧ J k wr) (fun i _ => (intOf i + 1).toNat)
  case atStart => exact ⟨0, Nat.zero_le _, by simp, h0⟩
  case round =>
    obtain ⟨k, hk, rfl, hJ⟩ := hrel
    by_cases hlt : k < m
    · obtain ⟨i, e1, e2, him⟩ : ∃ i : Nat, ((m : Int) - 1 - k) = (i : Int) ∧ m - 1 - k = i ∧ i < m := ⟨m - 1 - k, by omega, rfl, by omega⟩
      have hy := hY k wr hlt hJ
      simp only [e2] at hy
      obtain ⟨fn, tmps, assign, body, hy, hR⟩ := hy
      have hBk := (hRd k wr hJ).1
      have hck := (hRd k wr hJ).2 i him
      clear e2
      rw [e1]
      gi_wp2
      refine hR.mono ?_
      rintro e W3 (⟨rfl, hJ3⟩ | ⟨rfl, hS3⟩)
      · gi_wp2
        go_roundw
        case rel => exact ⟨k + 1, by omega, by congr 1; omega, hJ3⟩
        case measure => simp [intOf]
      · gi_wp2
        refine ⟨rfl, _, results_none ?_ _ _ _, ⟨_, rfl⟩, .inr hS3⟩
        rfl
    · obtain rfl : k = m := by omega
      have e1 : ((k : Int) - 1 - k) = -1 := by omega
      rw [e1]
      gi_wp2
      go_end0
      exact ⟨⟨_, rfl⟩, .inl hJ⟩
end Go.Proofs.YtllmocjfllbbfaaGreat

namespace Go.Proofs.YtllmocjfllbbfaaGreat
open Go.RowKit
section
variable {l : Nat} {P : Program} {Q : Exit → Act → World → Prop} {n : Fr} {L : List (Nat × Value)} {w : World}
theorem cr_cond {c : Operand} {x y : Code} {t : Bool} (hc : ev n L c = .bool t) (ht : t = true → CdR l P x Q n L w) (hf : t = false → CdR l P y Q n L w) : CdR l P (.cond c x y) Q n L w :=
  ⟨wpIn_cond_split (by rw [eval_mkA]; exact hc) (fun h => (ht h).out) (fun h => (hf h).out)⟩
theorem cr_skip (h : Q .normal (mkA n L) w) : CdR l P .skip Q n L w := ⟨wpIn_skip h⟩
theorem pq_rpostS {K S : World → Prop} : PQ (RPostS K S) := ⟨fun _ _ _ _ _ h => h⟩
theorem cr_drawnD {r : List Oper} {id : Nat} (K : Nat) (RL : List (Nat × (Value → World → Prop))) (hQ : PQ Q) (hm : P.follows .mixedOrders = true) (hc : monoD r K = true) (hmono : MonoR RL) (hd : noDef r = true) (hL : ¬ LetsOut Q)
    (hop : OpsOK8 P r.toArray n L (From w) (lookR RL) (lookR RL) r K r.length 0 (r.take K)) (hend : ∀ w', From w w' → AllF (lookR RL) w' (preOf r K) fun M => St P r.toArray Q (r.drop K) n (M ++ L) w') : CdR l P (.region id r.toArray true) Q n L w := by
  have hKl : K ≤ r.length := of_decide_eq_true (Bool.and_eq_true_iff.1 (Bool.and_eq_true_iff.1 hc).1).1
  have := mono_mu (Q := Q) (mu := r.length) (I1 := From w) (I2 := From w) (R1 := lookR RL) hQ hc (fun _ _ hF h => h.next hF) (fun _ _ hF h => h.next hF) (lookR_mono hmono) (lookR_mono hmono) hop (fun _ _ _ h => h) (fun h => absurd h (by omega)) (by simp [MuAt]) hend r.length (Array.replicate r.length false) L { w with drawn := w.drawn + 1 } (closed_none r _) (by simp) (by simp)
    (fun j _ hj => by simp [Array.getD, hj]) From.rfl_.d1 (fun _ => From.rfl_.d1) (fun _ _ => rfl) (fun i o d hi _ hl => by
      have : i < r.length := by omega
      simp [Array.getD, this] at hl) (fun _ i o d hi _ hl => by
      have : i < r.length := by omega
      simp [Array.getD, this] at hl)
  exact ⟨wpIn_region_any hm (any_in (by simpa using hd) hL _ _ _ _ (by simpa using this))⟩
theorem cr_ret (h : Q .ret (mkA n L) w) : CdR l P .ret Q n L w := ⟨wpIn_ret h⟩
end
section
variable {P : Program} {fn : Func} {m D : Nat} {L : List (Nat × Value)} {w : World} {r r' r'' : ResultVar} {R : Value → World → Prop} {v v' v'' : Value}
theorem res3_run (hr : fn.results = #[r, r', r'']) (h1 : RV P ⟨m, []⟩ L w r v) (h2 : RV P ⟨m, []⟩ L w r' v') (h3 : RV P ⟨m, []⟩ L w r'' v'') : (results fn (mkT m L)).run P w = .ok (.tuple #[v, v', v'']) w := by
  have e1 := h1.out
  have e2 := h2.out
  have e3 := h3.out
  cases r <;> cases r' <;> cases r'' <;> simp_all only [] <;> (try obtain ⟨_, _, _⟩ := e1) <;> (try obtain ⟨_, _, _⟩ := e2) <;> (try obtain ⟨_, _, _⟩ := e3) <;> simp_all [results, asAddr]
/-- ahead of the loop -/
theorem retM0 (hr : fn.results = #[r, r', r'']) (h1 : RV P ⟨m, []⟩ L w r v) (h2 : RV P ⟨m, []⟩ L w r' v') (h3 : RV P ⟨m, []⟩ L w r'' v'') (h : R (.tuple #[v, v', v'']) w) :
    bodyM P fn (fun e w' => ∃ v, e = .returned v ∧ R v w') .ret (mkA ⟨m, []⟩ L) w :=
  ⟨_, res3_run hr h1 h2 h3, _, rfl, h⟩
/-- within the loop, and behind it -/
theorem retM1 (hr : fn.results = #[r, r', r'']) (hD : w.heap[D]? = some (.deferred (some []))) (h : ∀ w', Only D w w' → RV P ⟨m, []⟩ L w' r v ∧ RV P ⟨m, []⟩ L w' r' v' ∧ RV P ⟨m, []⟩ L w' r'' v'' ∧ R (.tuple #[v, v', v'']) w') :
    bodyM P fn (fun e w' => ∃ v, e = .returned v ∧ R v w') .ret (mkA ⟨m, [{ target := .collected D, args := #[] }]⟩ L) w := by
  obtain ⟨h1, h2, h3, hR⟩ := h _ only_putObj
  exact ⟨by simp, .inl ⟨D, _, rfl, run_takeDeferred hD, ⟨_, res3_run hr h1 h2 h3, _, rfl, hR⟩⟩⟩
end
end Go.Proofs.YtllmocjfllbbfaaGreat

namespace Go.Proofs.YtllmocjfllbbfaaGreat
open Go.RowKit
open Go.ChangeShapes Go.WideShapes Go.ChangeAt
open Go.Proofs.YtllmocjfllbbfaaGreat.SA
theorem FmRows_e68 : elemQ Tryz.prog 68 = some (3, 1) := by kernel_rfl
theorem FmRows_g3 : aggQ Tryz.prog 3 = some false := by kernel_rfl
theorem FmRows_z3 : sizeQ Tryz.prog 3 = some 1 := by kernel_rfl
theorem FmRows_z36 : sizeQ Tryz.prog 36 = some 1 := by kernel_rfl
theorem FmRows_o3 : zeroQ Tryz.prog 3 = some (.int .i64 0) := by kernel_rfl
theorem FmRows_o36 : zeroQ Tryz.prog 36 = some (.int .i64 0) := by kernel_rfl
theorem FmRows_l68 : (elemQ Tryz.prog 68).isSome = true := by kernel_rfl
theorem FmRows_g36 : aggQ Tryz.prog 36 = some false := by kernel_rfl
theorem FmRows_g47 : aggQ Tryz.prog 47 = some false := by kernel_rfl
theorem FmRows_k52 : callable Tryz.prog 52 = true := by kernel_rfl
theorem FmRows_f55_0 : fieldQ Tryz.prog 55 0 = some 0 := by kernel_rfl
theorem FmRows_g51 : aggQ Tryz.prog 51 = some false := by kernel_rfl
theorem FmRows_k53 : callable Tryz.prog 53 = true := by kernel_rfl
theorem FmRows_k54 : callable Tryz.prog 54 = true := by kernel_rfl
theorem FmRows_k55 : callable Tryz.prog 55 = true := by kernel_rfl
theorem FmRows_k56 : callable Tryz.prog 56 = true := by kernel_rfl
set_option maxHeartbeats 400000 in
theorem backwardI_rt (A : Option Addr) (m c : Nat) (w : World) :
    Rt Tryz.prog 55 [.slice A m c] w (fun v w' => (∃ Bs, v = .func (.func 69) #[] #[.pointer (some ⟨Bs, 0, none⟩)] ∧ w.heap.size ≤ Bs ∧ Blk w' Bs 68 #[.slice A m c]) ∧ From w w') := by
  refine enter (n := 4) Tryz.func55 rfl rfl rfl ?_
  refine cd_seq (cd_region ?_)
  refine st_box (v := .slice _ _ _) rfl ?_
  intro b1 w1 E1 hb1 hk1
  refine st_val (ro_assign (v := _) rfl) ?_
  refine st_nil (nx_then (cd_seq (cd_region ?_)))
  refine st_val (ro_makeFunc (l1 := []) (l2 := [.tmp 1])) ?_
  refine st_val (ro_assign (v := _) rfl) ?_
  refine st_nil (nx_then (cd_ret ?_))
  refine res1 (v := .func _ _ _) rfl rfl ?_
  exact ⟨⟨b1, rfl, Nat.le_of_eq hb1.symm, hk1⟩, (From.rfl_.next E1)⟩
/-- what Rows is to tell -/
def RowsIs (K : Nat) (L : List Nat) (q : List Int) (fr to e : Int) : Prop :=
  (q = [] ∧ fr = 0 ∧ to = 0 ∧ e = 5) ∨ (q ≠ [] ∧ q.all (okS (K : Nat)) = false ∧ fr = 0 ∧ to = 0 ∧ e = 1) ∨
  (∃ p : List Nat, q = cI p ∧ p ≠ [] ∧ (∀ x ∈ p, x < K) ∧ fr = ((rwF L p : Nat) : Int) ∧ to = ((rwT L p : Nat) : Int) ∧ e = 0)
theorem nat_listK {K : Nat} : ∀ {xs : List Int}, xs.all (okS (K : Nat)) = true → ∃ L : List Nat, xs = cI L ∧ ∀ x ∈ L, x < K
  | [], _ => ⟨[], rfl, fun _ h => (by cases h)⟩
  | x :: xs, h => by
    rw [List.all_cons, Bool.and_eq_true] at h
    obtain ⟨L, e, hL⟩ := nat_listK h.2
    obtain ⟨h1, h2⟩ := okS_iff.1 h.1
    refine ⟨x.toNat :: L, ?_, fun y hy => ?_⟩
    · rw [cI, List.map_cons, ← cI, ← e, Int.toNat_of_nonneg h1]
    · rcases List.mem_cons.1 hy with rfl | hy
      · omega
      · exact hL y hy
theorem drop_cons {p : List Nat} {k : Nat} (h : k < p.length) : p.drop (p.length - (k + 1)) = p.getD (p.length - 1 - k) 0 :: p.drop (p.length - k) := by
  rw [List.drop_eq_getElem_cons (show p.length - (k + 1) < p.length by omega), List.getD_eq_getElem?_getD, List.getElem?_eq_getElem (show p.length - 1 - k < p.length by omega)]
  congr 1
  · show _ = p[p.length - 1 - k]
    congr 1
    omega
  · congr 1
    omega
/-- the variables of Rows, behind the symbols q -/
structure RwI (w : World) (b b2 b4 b5 b6 Bs n c : Nat) (A : Option Addr) (fr to : Nat) (W : World) : Prop where
  hF : From w W
  h2 : Blk W b2 47 #[.pointer (some ⟨b, 0, none⟩)]
  h4 : Blk W b4 3 #[.int .i64 (fr : Nat)]
  h5 : Blk W b5 3 #[.int .i64 (to : Nat)]
  h6 : Blk W b6 36 #[.int .i64 0]
  hs : Blk W Bs 68 #[.slice A n c]
section
variable {w W W' : World} {b b2 b4 b5 b6 Bs n c fr to : Nat} {A : Option Addr}
theorem RwI.from_ (h : RwI w b b2 b4 b5 b6 Bs n c A fr to W) (hF : From W W') : RwI w b b2 b4 b5 b6 Bs n c A fr to W' := ⟨h.hF.next hF, h.h2.from_ hF, h.h4.from_ hF, h.h5.from_ hF, h.h6.from_ hF, h.hs.from_ hF⟩
theorem RwI.aside {q : Nat} {o : Obj} (h : RwI w b b2 b4 b5 b6 Bs n c A fr to W) (hq : W.heap[q]? = some o) (ho : o.isCells = false) (hO : Only q W W') (hw : w.heap.size ≤ q) : RwI w b b2 b4 b5 b6 Bs n c A fr to W' :=
  ⟨h.hF.only hO hw, h.h2.only hO (blk_aside h.h2 hq ho), h.h4.only hO (blk_aside h.h4 hq ho), h.h5.only hO (blk_aside h.h5 hq ho), h.h6.only hO (blk_aside h.h6 hq ho), h.hs.only hO (blk_aside h.hs hq ho)⟩
end
set_option maxHeartbeats 4000000 in
theorem fmRows_rt (base b K a : Nat) (L B F : List Nat) (w : World) (hf : FmAt w base b K a L B F) (A : Option Addr) (c n : Nat) (q : List Int) (hr : RowOf iV w A q) (hn : n = q.length) (hl : n ≤ 1000000) :
    Rt Tryz.prog 38 [.pointer (some ⟨b, 0, none⟩), .slice A n c] w (fun v w' => (∃ fr to e, v = .tuple #[.int .i64 fr, .int .i64 to, .int .i64 e] ∧ RowsIs K L q fr to e) ∧ From w w') := by
  have hff := hf
  obtain ⟨hb0, hSA, hbw, hLn, hK, tb, AS, cs, gr, hX, hT, ho, hR, hgr⟩ := hf
  have hBl := hbw.len
  refine enterM (n := 60) Tryz.func38 rfl rfl rfl ?_
  refine cd_seq (cd_region ?_)
  refine st_box (v := .pointer _) rfl ?_
  intro b2 w1 E2 hb2 hk2
  refine st_alloc FmRows_o3 ?_
  intro b4 w2 E4 hb4 hk4
  refine st_alloc FmRows_o3 ?_
  intro b5 w3 E5 hb5 hk5
  refine st_alloc FmRows_o36 ?_
  intro b6 w4 E6 hb6 hk6
  have hg2 : w.heap.size ≤ b2 := by rw [hb2]; exact Nat.le_refl _
  have hg4 : w.heap.size ≤ b4 := by rw [hb4]; exact E2.size
  have hg5 : w.heap.size ≤ b5 := by rw [hb5]; exact (E2.next E4).size
  have hg6 : w.heap.size ≤ b6 := by rw [hb6]; exact (E2.next (E4.next E5)).size
  have h24 : b2 < b4 := by rw [hb4]; exact hk2.lt
  have h45 : b4 < b5 := by rw [hb5]; exact hk4.lt
  have h56 : b5 < b6 := by rw [hb6]; exact hk5.lt
  replace hk2 : Blk _ b2 47 #[.pointer (some ⟨b, 0, none⟩)] := hk2
  replace hk4 : Blk _ b4 3 #[.int .i64 0] := hk4
  replace hk5 : Blk _ b5 3 #[.int .i64 0] := hk5
  replace hk6 : Blk _ b6 36 #[.int .i64 0] := hk6
  refine st_nil (nx_then (cd_seq (cd_seq (cd_region ?_))))
  refine mvs rfl ?_
  refine st_val (ro_len FmRows_l68 rfl) ?_
  refine st_val (ro_eql rfl rfl) ?_
  refine st_nil (nx_then ?_)
  refine cd_cond rfl (fun Q5 => ?_) (fun Q5 => ?_)
  · with_reducible replace Q5 := of_decide_eq_true Q5
    refine cd_seq (cd_region ?_)
    refine st_put (v := .int _ _) FmRows_z3 rfl rfl rfl ((hk4.from_ (E5.next E6))) (by simp) ?_
    intro w6 O2a P2a
    refine st_put (v := .int _ _) FmRows_z3 rfl rfl rfl (((hk5.from_ E6).only O2a (by omega))) (by simp) ?_
    intro w7 O2b P2b
    refine st_put (v := .int _ _) FmRows_z36 rfl rfl rfl (((hk6.only O2a (by omega)).only O2b (by omega))) (by simp) ?_
    intro w8 O2c P2c
    have hr4 := (P2a.only O2b (by omega)).only O2c (by omega)
    have hr5 := P2b.only O2c (by omega)
    have hr6 := P2c
    refine st_nil (nx_then (cd_ret (rt_then ?_)))
    refine retM0 rfl (rv_cell FmRows_g3 rfl (by first | exact hr4.rd 0 rfl | exact (hr4.only OX (blk_aside hr4 hK15 rfl)).rd 0 rfl | exact (hI.h4.only OX (blk_aside hI.h4 hK rfl)).rd 0 rfl)) (rv_cell FmRows_g3 rfl (by first | exact hr5.rd 0 rfl | exact (hr5.only OX (blk_aside hr5 hK15 rfl)).rd 0 rfl | exact (hI.h5.only OX (blk_aside hI.h5 hK rfl)).rd 0 rfl)) (rv_cell FmRows_g36 rfl (by first | exact hr6.rd 0 rfl | exact (hr6.only OX (blk_aside hr6 hK15 rfl)).rd 0 rfl | exact (hI.h6.only OX (blk_aside hI.h6 hK rfl)).rd 0 rfl)) ?_
    exact ⟨⟨0, 0, 5, rfl, .inl ⟨List.eq_nil_of_length_eq_zero (by omega), rfl, rfl, rfl⟩⟩, (((((((From.rfl_.next E2).next E4).next E5).next E6).only O2a (hg4)).only O2b (hg5)).only O2c (hg6))⟩
  with_reducible replace Q5 := of_decide_eq_false Q5
  refine cd_skip (nx_then (cd_seq (cd_seq (cd_region ?_))))
  refine mvs rfl ?_
  refine st_val (ro_len FmRows_l68 rfl) ?_
  refine mvi rfl ?_
  refine st_nil (nx_then (cd_block ?_))
  refine cd_loop (G := Nat) [8, 17, 18, 19, 20, 21, 22, 23, 24, 25, 26, 27, 28, 29, 30, 31, 32, 33, 34, 35, 36] (fun k => [(16, .int .i64 (k : Nat))]) (fun k w' => k ≤ n ∧ (q.take k).all (okS (K : Nat)) = true ∧ From w w' ∧ Blk w' b2 47 #[.pointer (some ⟨b, 0, none⟩)] ∧ Blk w' b4 3 #[.int .i64 0] ∧ Blk w' b5 3 #[.int .i64 0] ∧ Blk w' b6 36 #[.int .i64 0]) (fun k => n - k) (0) ⟨rfl, trivial⟩ ?_ ?_
  · exact ⟨Nat.zero_le _, rfl, ((((From.rfl_.next E2).next E4).next E5).next E6), hk2.from_ (E4.next (E5.next E6)), hk4.from_ (E5.next E6), hk5.from_ E6, hk6⟩
  rintro k ρ9 w9 ⟨hk, hall, hB, h2, h4, h5, h6⟩
  refine cd_seq (cd_region ?_)
  refine st_val (ro_lss rfl rfl) ?_
  refine st_nil (nx_then (cd_seq ?_))
  refine cd_cond rfl (fun Q10 => ?_) (fun Q10 => ?_)
  · with_reducible replace Q10 := of_decide_eq_true Q10
    have hkx : k < q.length := by omega
    obtain ⟨bp, op, rfl, hcq⟩ := hr (by omega)
    have hcqk := hcq k hkx
    refine cd_skip (nx_then (cd_seq (cd_block (cd_seq (cd_region ?_)))))
    refine st_val (ro_indexAddr1 FmRows_e68 rfl rfl (by omega)) ?_
    refine st_val (ro_load FmRows_g3 rfl (by exact cellF hB hcqk)) ?_
    refine asi rfl ?_
    refine st_nil (nx_then (cd_seq (cd_region ?_)))
    refine st_val (ro_load FmRows_g47 rfl (by exact (h2.from_ From.rfl_).rd 0 rfl)) ?_
    refine st_call FmRows_k52 (size_rt base b K a L B F _ (hff.from_ hB)) ?_
    rintro v21 w11 ⟨rfl, E21⟩
    have h4q := h4.from_ (From.rfl_.next E21)
    have h5q := h5.from_ (From.rfl_.next E21)
    have h6q := h6.from_ (From.rfl_.next E21)
    refine st_val (ro_lss rfl rfl) ?_
    refine mvb rfl ?_
    refine st_split (t := 23) rfl (fun Q12 => ?_) (fun Q12 => ?_)
    · with_reducible replace Q12 := of_decide_eq_true Q12
      exfalso; omega
    with_reducible replace Q12 := of_decide_eq_false Q12
    refine st_unguard rfl ?_
    refine mvi rfl ?_
    refine st_unguard rfl ?_
    refine st_val (ro_lss rfl rfl) ?_
    refine st_val (ro_pickF (v := .bool _) rfl rfl) ?_
    refine mvb rfl ?_
    refine st_split (t := 27) rfl (fun Q16 => ?_) (fun Q16 => ?_)
    · with_reducible replace Q16 := of_decide_eq_true Q16
      refine st_gno rfl rfl ?_
      refine st_gno rfl rfl ?_
      refine st_gno rfl rfl ?_
      refine st_gno rfl rfl ?_
      refine st_gno rfl rfl ?_
      refine st_gno rfl rfl ?_
      refine st_gno rfl rfl ?_
      refine st_val (ro_pickT (v := .bool _) rfl rfl) ?_
      refine st_nil (nx_then ?_)
      refine cd_condT rfl ?_
      refine cd_seq (cd_region ?_)
      refine st_put (v := .int _ _) FmRows_z3 rfl rfl rfl (h4q) (by simp) ?_
      intro w17 O7a P7a
      refine st_put (v := .int _ _) FmRows_z3 rfl rfl rfl ((h5q.only O7a (by omega))) (by simp) ?_
      intro w18 O7b P7b
      refine st_put (v := .int _ _) FmRows_z36 rfl rfl rfl (((h6q.only O7a (by omega)).only O7b (by omega))) (by simp) ?_
      intro w19 O7c P7c
      have hr4 := (P7a.only O7b (by omega)).only O7c (by omega)
      have hr5 := P7b.only O7c (by omega)
      have hr6 := P7c
      refine st_nil (nx_then (cd_ret (rt_block (rt_then (rt_then (rt_block (rt_then ?_)))))))
      refine retM0 rfl (rv_cell FmRows_g3 rfl (by first | exact hr4.rd 0 rfl | exact (hr4.only OX (blk_aside hr4 hK15 rfl)).rd 0 rfl | exact (hI.h4.only OX (blk_aside hI.h4 hK rfl)).rd 0 rfl)) (rv_cell FmRows_g3 rfl (by first | exact hr5.rd 0 rfl | exact (hr5.only OX (blk_aside hr5 hK15 rfl)).rd 0 rfl | exact (hI.h5.only OX (blk_aside hI.h5 hK rfl)).rd 0 rfl)) (rv_cell FmRows_g36 rfl (by first | exact hr6.rd 0 rfl | exact (hr6.only OX (blk_aside hr6 hK15 rfl)).rd 0 rfl | exact (hI.h6.only OX (blk_aside hI.h6 hK rfl)).rd 0 rfl)) ?_
      exact ⟨⟨0, 0, 1, rfl, .inr (.inl ⟨fun e => by subst e; simp at hkx, all_no hkx (okS_no (by omega)), rfl, rfl, rfl⟩)⟩, ((((hB.next E21).only O7a (hg4)).only O7b (hg5)).only O7c (hg6))⟩
    with_reducible replace Q16 := of_decide_eq_false Q16
    refine st_unguard rfl ?_
    refine mvi rfl ?_
    refine st_unguard rfl ?_
    refine st_val (ro_load FmRows_g47 rfl (by exact (h2.from_ (From.rfl_.next E21)).rd 0 rfl)) ?_
    refine st_unguard rfl ?_
    refine st_val (ro_nilCheck rfl) ?_
    refine st_unguard rfl ?_
    refine st_val (ro_fieldAddr FmRows_f55_0 rfl) ?_
    refine st_unguard rfl ?_
    refine st_val (ro_load FmRows_g51 rfl (by exact (hX.from_ (hB.next E21)).rd 0 rfl)) ?_
    refine st_unguard rfl ?_
    refine st_call FmRows_k53 (kindsT base tb K B _ (hT.from_ (hB.next E21))) ?_
    rintro v33 w20 ⟨rfl, rfl⟩
    refine st_unguard rfl ?_
    refine st_val (ro_geq rfl rfl) ?_
    refine st_val (ro_pickF (v := .bool _) rfl rfl) ?_
    refine st_nil (nx_then ?_)
    refine cd_cond rfl (fun Q21 => ?_) (fun Q21 => ?_)
    · with_reducible replace Q21 := of_decide_eq_true Q21
      refine cd_seq (cd_region ?_)
      refine st_put (v := .int _ _) FmRows_z3 rfl rfl rfl (h4q) (by simp) ?_
      intro w22 O7a P7a
      refine st_put (v := .int _ _) FmRows_z3 rfl rfl rfl ((h5q.only O7a (by omega))) (by simp) ?_
      intro w23 O7b P7b
      refine st_put (v := .int _ _) FmRows_z36 rfl rfl rfl (((h6q.only O7a (by omega)).only O7b (by omega))) (by simp) ?_
      intro w24 O7c P7c
      have hr4 := (P7a.only O7b (by omega)).only O7c (by omega)
      have hr5 := P7b.only O7c (by omega)
      have hr6 := P7c
      refine st_nil (nx_then (cd_ret (rt_block (rt_then (rt_then (rt_block (rt_then ?_)))))))
      refine retM0 rfl (rv_cell FmRows_g3 rfl (by first | exact hr4.rd 0 rfl | exact (hr4.only OX (blk_aside hr4 hK15 rfl)).rd 0 rfl | exact (hI.h4.only OX (blk_aside hI.h4 hK rfl)).rd 0 rfl)) (rv_cell FmRows_g3 rfl (by first | exact hr5.rd 0 rfl | exact (hr5.only OX (blk_aside hr5 hK15 rfl)).rd 0 rfl | exact (hI.h5.only OX (blk_aside hI.h5 hK rfl)).rd 0 rfl)) (rv_cell FmRows_g36 rfl (by first | exact hr6.rd 0 rfl | exact (hr6.only OX (blk_aside hr6 hK15 rfl)).rd 0 rfl | exact (hI.h6.only OX (blk_aside hI.h6 hK rfl)).rd 0 rfl)) ?_
      exact ⟨⟨0, 0, 1, rfl, .inr (.inl ⟨fun e => by subst e; simp at hkx, all_no hkx (okS_no (by omega)), rfl, rfl, rfl⟩)⟩, ((((hB.next E21).only O7a (hg4)).only O7b (hg5)).only O7c (hg6))⟩
    with_reducible replace Q21 := of_decide_eq_false Q21
    refine cd_skip (nx_block (nx_then (cd_region ?_)))
    refine st_val (ro_add64 rfl rfl (by omega)) ?_
    refine mvi rfl ?_
    refine st_nil ?_
    refine nx_cut (k + 1) ⟨(by first | rfl | (refine int_eq ?_; omega)), trivial⟩ (by (iterate 46 refine agr_cons rfl ?_); exact agr_rfl) ⟨?_, ?_⟩
    · exact ⟨by omega, all_take hkx hall (okS_yes (by omega) (by omega)), (hB.next E21), h2.from_ (From.rfl_.next E21), h4.from_ (From.rfl_.next E21), h5.from_ (From.rfl_.next E21), h6.from_ (From.rfl_.next E21)⟩
    · show n - (k + 1) < n - k; omega
  with_reducible replace Q10 := of_decide_eq_false Q10
  obtain ⟨p, hqp, hpK⟩ := nat_listK (all_end (show ¬ k < q.length by omega) hall)
  have hpn : p.length = n := by rw [hn, hqp, List.length_map]
  obtain ⟨bp, op, rfl, hcp⟩ := rowD (show RowOf iV w A (cI p) by rw [← hqp]; exact hr) (by omega)
  have hd0 : p.drop (n - 0) = [] := by rw [Nat.sub_zero, ← hpn, List.drop_length]
  refine cd_exit ?_
  refine ex_then (ex_then (ex_block (nx_then (cd_seq (cd_region ?_)))))
  refine st_val (ro_load FmRows_g47 rfl (by exact (h2.from_ From.rfl_).rd 0 rfl)) ?_
  refine st_val (ro_nilCheck rfl) ?_
  refine st_val (ro_fieldAddr FmRows_f55_0 rfl) ?_
  refine st_val (ro_load FmRows_g51 rfl (by exact (hX.from_ hB).rd 0 rfl)) ?_
  refine st_call FmRows_k54 (lenT base tb K B _ (hT.from_ hB)) ?_
  rintro v41 w25 ⟨rfl, E41⟩
  refine st_val (ro_addN (b := 1) rfl rfl (by omega)) ?_
  have h2r := h2.from_ (From.rfl_.next E41)
  have h4r := h4.from_ (From.rfl_.next E41)
  have h5r := h5.from_ (From.rfl_.next E41)
  have h6r := h6.from_ (From.rfl_.next E41)
  refine st_put (v := .int _ _) FmRows_z3 rfl rfl rfl (h4r) (by simp) ?_
  intro w26 O9a P9a
  refine st_put (v := .int _ _) FmRows_z3 rfl rfl rfl ((h5r.only O9a (by omega))) (by simp) ?_
  intro w27 O9b P9b
  have h2s := (h2r.only O9a (by omega)).only O9b (by omega)
  have h4s := P9a.only O9b (by omega)
  have h5s := P9b
  have h6s := (h6r.only O9a (by omega)).only O9b (by omega)
  refine st_nil (nx_then (cd_seq (cd_seq (cd_region ?_))))
  refine mvs rfl ?_
  refine st_call FmRows_k55 (backwardI_rt _ n c _) ?_
  rintro v44 w28 ⟨⟨Bs, rfl, hgs, hks⟩, E44⟩
  have hBs : b6 < Bs := Nat.lt_of_lt_of_le h6s.lt hgs
  have hI0 : RwI w b b2 b4 b5 b6 Bs n c (some ⟨bp, op, none⟩) (frP L (p.drop (n - 0))) (toP L (p.drop (n - 0))) w28 := ⟨((((hB.next E41).only O9a (hg4)).only O9b (hg5)).next E44), h2s.from_ E44, by rw [hd0, frP_nil]; exact h4s.from_ E44, by rw [hd0, toP_nil, ← hBl]; exact h5s.from_ E44, h6s.from_ E44, hks⟩
  have hz44 := (((((hB.next E41).only O9a (hg4)).only O9b (hg5)).next E44)).size
  refine st_nil (nx_then (cd_block ?_))
  apply cd_range2R (u := fun k => .int .i64 ((n - 1 - k : Nat) : Int)) (v := fun k => .int .i64 ((p.getD (n - 1 - k) 0 : Nat) : Int)) (N := n) (Rd := BackRdI Bs bp op n c fun j => ((p.getD j 0 : Nat) : Int)) rfl (fun _ _ => rfl) (back_iterI Bs bp op n c (fun j => ((p.getD j 0 : Nat) : Int)) hl) (fun k W => RwI w b b2 b4 b5 b6 Bs n c (some ⟨bp, op, none⟩) (frP L (p.drop (n - k))) (toP L (p.drop (n - k))) W ∧ (0 < k → frP L (p.drop (n - k)) < toP L (p.drop (n - k)))) (fun W => RwI w b b2 b4 b5 b6 Bs n c (some ⟨bp, op, none⟩) (0) (0) W ∧ rwF L p = 0 ∧ rwT L p = 0)
  case ha =>
   intro l k W K hK
   refine cr_region rfl (fun ⟨_, _, h⟩ => h) ?_
   refine st_val (ro_assign (v := _) rfl) ?_
   refine st_nil ?_
   exact hK
  case hRd =>
   exact fun k W h => ⟨(h.1.hs).rd 0 rfl, fun j hj => cellF h.1.hF (hcp j (by omega))⟩
  case hF =>
   exact fun k W W' h hF => ⟨h.1.from_ hF, h.2⟩
  case hO =>
   exact fun k W W' q o hq ho hO hw h => ⟨h.1.aside hq ho hO (Nat.le_trans hz44 hw), h.2⟩
  case hSO =>
   exact fun W W' q o hq ho hO hw h => ⟨h.1.aside hq ho hO (Nat.le_trans hz44 hw), h.2⟩
  case h0 =>
   exact ⟨hI0, fun h => absurd h (by omega)⟩
  case hb =>
   intro l k WB hkN hI
   obtain ⟨hI, hlt⟩ := hI
   have hpk : p.drop (n - (k + 1)) = p.getD (n - 1 - k) 0 :: p.drop (n - k) := by have := drop_cons (p := p) (k := k) (by omega); rw [hpn] at this; exact this
   have hck : p.getD (n - 1 - k) 0 < K := getD_lt hpK (by omega)
   have hs1 := frP_step hbw (p.getD (n - 1 - k) 0) (p.drop (n - k))
   have hs2 := toP_step hbw (p.getD (n - 1 - k) 0) (p.drop (n - k))
   rw [← hpk] at hs1 hs2
   have hle1 := frP_le L (p.drop (n - k))
   have hle2 := toP_le L (p.drop (n - k))
   refine cr_block ?_
   refine cr_seq ?_
   apply cr_drawnD 8 [(47, eqp _), (48, eqp _), (49, eqp _), (50, eqp _), (51, eqp _), (52, eqp _), (53, eqp _), (54, eqp _)] (by repeat first | exact pq_rpostS | exact pq_bodyM | refine pq_then ?_ | refine pq_block ?_) (by kernel_rfl) (by kernel_rfl) ⟨eqp_mono _, eqp_mono _, eqp_mono _, eqp_mono _, eqp_mono _, eqp_mono _, eqp_mono _, eqp_mono _, trivial⟩ (by kernel_rfl) (fun ⟨_, _, h⟩ => h)
   case hop =>
    refine ⟨?_, ?_⟩
    · rintro - w30 D30
      show OpOK _ _ _ _ _ _ _
      exact ok_pure (ro_load FmRows_g47 rfl (by exact (hI.h2.from_ D30).rd 0 rfl)) rfl
    refine ⟨?_, ?_⟩
    · rintro - w31 D31
      show OpOK _ _ _ _ _ _ _
      exact ok_pure (ro_move (v := .int _ _) rfl) rfl
    refine ⟨?_, ?_⟩
    · rintro - w32 D32
      show OpOK _ _ _ _ _ _ _
      exact ok_pure (ro_load FmRows_g3 rfl (by exact (hI.h4.from_ D32).rd 0 rfl)) rfl
    refine ⟨?_, ?_⟩
    · rintro - w33 D33
      rintro _ rfl _ rfl _ rfl
      show OpOK _ _ _ _ _ _ _
      refine ok_call FmRows_k56 ((back_rt base b K a L B F _ (hff.from_ (hI.hF.next D33)) (p.getD (n - 1 - k) 0) (frP L (p.drop (n - k))) hck hle1).mono ?_)
      rintro v _ ⟨rfl, E33'⟩; exact ⟨E33', rfl⟩
    refine ⟨?_, ?_⟩
    · rintro - w34 D34
      show OpOK _ _ _ _ _ _ _
      exact ok_pure (ro_load FmRows_g47 rfl (by exact (hI.h2.from_ D34).rd 0 rfl)) rfl
    refine ⟨?_, ?_⟩
    · rintro - w35 D35
      show OpOK _ _ _ _ _ _ _
      exact ok_pure (ro_move (v := .int _ _) rfl) rfl
    refine ⟨?_, ?_⟩
    · rintro - w36 D36
      show OpOK _ _ _ _ _ _ _
      exact ok_pure (ro_load FmRows_g3 rfl (by exact (hI.h5.from_ D36).rd 0 rfl)) rfl
    refine ⟨?_, ?_⟩
    · rintro - w37 D37
      rintro _ rfl _ rfl _ rfl
      show OpOK _ _ _ _ _ _ _
      refine ok_call FmRows_k56 ((back_rt base b K a L B F _ (hff.from_ (hI.hF.next D37)) (p.getD (n - 1 - k) 0) (toP L (p.drop (n - k))) hck hle2).mono ?_)
      rintro v _ ⟨rfl, E37'⟩; exact ⟨E37', rfl⟩
    exact trivial
   case hend =>
    intro w38 D38
    rintro _ rfl _ rfl _ rfl _ rfl _ rfl _ rfl _ rfl _ rfl
    show St _ _ _ _ _ _ _
    have hID := hI.from_ D38
    have hkD : Keeps WB _ := Keeps.from_ D38
    refine st_put (v := .int _ _) FmRows_z3 rfl rfl rfl (hID.h4) (by simp) ?_
    intro w39 O12a P12a
    refine st_put (v := .int _ _) FmRows_z3 rfl rfl rfl ((hID.h5.only O12a (by omega))) (by simp) ?_
    intro w40 O12b P12b
    have hI12 : RwI w b b2 b4 b5 b6 Bs n c (some ⟨bp, op, none⟩) (frP L (p.drop (n - (k + 1)))) (toP L (p.drop (n - (k + 1)))) w40 := ⟨(hID.hF.only O12a hg4).only O12b hg5, (hID.h2.only O12a (by omega)).only O12b (by omega), by rw [hs1]; exact P12a.only O12b (by omega), by rw [hs2]; exact P12b, (hID.h6.only O12a (by omega)).only O12b (by omega), (hID.hs.only O12a (by omega)).only O12b (by omega)⟩
    have hk12 := hkD.trans ((Keeps.only O12a hID.h4).trans (Keeps.only O12b (hID.h5.only O12a (by omega))))
    refine st_nil ?_
    refine nr_then ?_
    refine cr_seq ?_
    refine cr_region rfl (fun ⟨_, _, h⟩ => h) ?_
    refine st_val (ro_load FmRows_g3 rfl (by exact hI12.h4.rd 0 rfl)) ?_
    refine st_val (ro_load FmRows_g3 rfl (by exact hI12.h5.rd 0 rfl)) ?_
    refine st_val (ro_geq rfl rfl) ?_
    refine st_nil ?_
    refine nr_then ?_
    refine cr_cond rfl (fun Q41 => ?_) (fun Q41 => ?_)
    · with_reducible replace Q41 := of_decide_eq_true Q41
      refine cr_seq ?_
      refine cr_region rfl (fun ⟨_, _, h⟩ => h) ?_
      refine st_put (v := .int _ _) FmRows_z3 rfl rfl rfl (hI12.h4) (by simp) ?_
      intro w42 O14a P14a
      refine st_put (v := .int _ _) FmRows_z3 rfl rfl rfl ((hI12.h5.only O14a (by omega))) (by simp) ?_
      intro w43 O14b P14b
      refine st_put (v := .int _ _) FmRows_z36 rfl rfl rfl (((hI12.h6.only O14a (by omega)).only O14b (by omega))) (by simp) ?_
      intro w44 O14c P14c
      have hI14 : RwI w b b2 b4 b5 b6 Bs n c (some ⟨bp, op, none⟩) (0) (0) w44 := ⟨((hI12.hF.only O14a hg4).only O14b hg5).only O14c hg6, ((hI12.h2.only O14a (by omega)).only O14b (by omega)).only O14c (by omega), (P14a.only O14b (by omega)).only O14c (by omega), P14b.only O14c (by omega), P14c, ((hI12.hs.only O14a (by omega)).only O14b (by omega)).only O14c (by omega)⟩
      have hk14 := hk12.trans ((Keeps.only O14a hI12.h4).trans ((Keeps.only O14b (hI12.h5.only O14a (by omega))).trans (Keeps.only O14c ((hI12.h6.only O14a (by omega)).only O14b (by omega)))))
      have hz := rw_none (s := p.take (n - (k + 1))) hSA (show toP L (p.drop (n - (k + 1))) ≤ frP L (p.drop (n - (k + 1))) by omega)
      rw [List.take_append_drop] at hz
      refine st_nil ?_
      refine nr_then ?_
      refine cr_ret ?_
      refine rt_block ?_
      exact ⟨⟨hI14, hz⟩, hk14⟩
    with_reducible replace Q41 := of_decide_eq_false Q41
    refine cr_skip ?_
    refine nx_block ?_
    exact ⟨⟨hI12, fun _ => by omega⟩, hk12⟩
  case hd =>
   intro D WD hD hI hK
   obtain ⟨hI, hlt⟩ := hI
   refine nx_block (nx_then (cd_seq ?_))
   have hU45 : UniT [(0, 58, .int .i64 ((frP L (p.drop (n - n)) : Nat) : Int)), (1, 59, .int .i64 ((toP L (p.drop (n - n)) : Nat) : Int))] := by simp [UniT]
   refine cd_invT [(0, 58, .int .i64 ((frP L (p.drop (n - n)) : Nat) : Int)), (1, 59, .int .i64 ((toP L (p.drop (n - n)) : Nat) : Int))] (fun S w' => RwI w b b2 b4 b5 b6 Bs n c (some ⟨bp, op, none⟩) (frP L (p.drop (n - n))) (toP L (p.drop (n - n))) w' ∧ w'.heap[D]? = some (.deferred (some []))) (by kernel_rfl) (by kernel_rfl) hU45 (by simp) (⟨hI.from_ From.rfl_.d1, Keeps.from_ From.rfl_.d1 _ _ hK rfl⟩) ?_ ?_
   · refine ⟨?_, ?_⟩
     · rintro S L' wS hI hM hS0 ⟨-⟩
       have e4 := hI.1 4 (by simp)
       have hM' := hM
       obtain ⟨hM1, hM2⟩ := hM'
       exact step_ro (ro_load FmRows_g3 e4 (hM1.h4.rd 0 rfl)) ⟨hI.put hU45 (.head _), hM⟩
     refine ⟨?_, ?_⟩
     · rintro S L' wS hI hM hS0 ⟨-⟩
       have e5 := hI.1 5 (by simp)
       have hM' := hM
       obtain ⟨hM1, hM2⟩ := hM'
       exact step_ro (ro_load FmRows_g3 e5 (hM1.h5.rd 0 rfl)) ⟨hI.put hU45 (.tail _ (.head _)), hM⟩
     refine ⟨?_, ?_⟩
     · rintro S L' wS hI hM hS0 ⟨d0, d0, -, -⟩
       have e4 := hI.1 4 (by simp)
       have e58 : look L' 58 = .int .i64 ((frP L (p.drop (n - n)) : Nat) : Int) := hI.get (i := 0) (.head _) d0
       have hM' := hM
       obtain ⟨hM1, hM2⟩ := hM'
       obtain ⟨w2, hR, hO, hb⟩ := rs_put (n := ⟨60, [{ target := .collected D, args := #[] }]⟩) (L := L') (x := .tmp 4) (y := .tmp 58) FmRows_z3 e4 e58 rfl hM1.h4 (by simp)
       exact step_rs hR ⟨hI.skip (by simp), ⟨⟨hM1.hF.only hO hg4, hM1.h2.only hO (by omega), hb, hM1.h5.only hO (by omega), hM1.h6.only hO (by omega), hM1.hs.only hO (by omega)⟩, by rw [hO.block D (by intro e; subst e; exact absurd (hM1.h4.symm.trans hM2) (by simp))]; exact hM2⟩⟩
     refine ⟨?_, ?_⟩
     · rintro S L' wS hI hM hS0 ⟨d1, d2, d0, d1, d2, -⟩
       have e5 := hI.1 5 (by simp)
       have e59 : look L' 59 = .int .i64 ((toP L (p.drop (n - n)) : Nat) : Int) := hI.get (i := 1) (.tail _ (.head _)) d1
       have hM' := hM
       obtain ⟨hM1, hM2⟩ := hM'
       obtain ⟨w2, hR, hO, hb⟩ := rs_put (n := ⟨60, [{ target := .collected D, args := #[] }]⟩) (L := L') (x := .tmp 5) (y := .tmp 59) FmRows_z3 e5 e59 rfl hM1.h5 (by simp)
       exact step_rs hR ⟨hI.skip (by simp), ⟨⟨hM1.hF.only hO hg5, hM1.h2.only hO (by omega), hM1.h4.only hO (by omega), hb, hM1.h6.only hO (by omega), hM1.hs.only hO (by omega)⟩, by rw [hO.block D (by intro e; subst e; exact absurd (hM1.h5.symm.trans hM2) (by simp))]; exact hM2⟩⟩
     refine ⟨?_, ?_⟩
     · rintro S L' wS hI hM hS0 ⟨d3, d0, d1, d2, d3, -⟩
       have e6 := hI.1 6 (by simp)
       have hM' := hM
       obtain ⟨hM1, hM2⟩ := hM'
       obtain ⟨w2, hR, hO, hb⟩ := rs_put (n := ⟨60, [{ target := .collected D, args := #[] }]⟩) (L := L') (x := .tmp 6) (y := .const (.int .i64 0)) FmRows_z36 e6 rfl rfl hM1.h6 (by simp)
       exact step_rs hR ⟨hI.skip (by simp), ⟨⟨hM1.hF.only hO hg6, hM1.h2.only hO (by omega), hM1.h4.only hO (by omega), hM1.h5.only hO (by omega), hb, hM1.hs.only hO (by omega)⟩, by rw [hO.block D (by intro e; subst e; exact absurd (hM1.h6.symm.trans hM2) (by simp))]; exact hM2⟩⟩
     exact trivial
   · intro w46 hM
     obtain ⟨hM1, hM2⟩ := hM
     have hr4 := hM1.h4
     have hr5 := hM1.h5
     have hr6 := hM1.h6
     have hK15 := hM2
     have hD15 := Nat.le_trans hz44 hD
     have hh := hlt (by omega)
     rw [Nat.sub_self, List.drop_zero] at hh hr4 hr5
     obtain ⟨hw1, hw2⟩ := rw_hit hh
     refine nx_then (cd_ret ?_)
     refine retM1 rfl (by first | exact hK15 | exact hK) (fun wX OX => ⟨(rv_cell FmRows_g3 rfl (by first | exact hr4.rd 0 rfl | exact (hr4.only OX (blk_aside hr4 hK15 rfl)).rd 0 rfl | exact (hI.h4.only OX (blk_aside hI.h4 hK rfl)).rd 0 rfl)), (rv_cell FmRows_g3 rfl (by first | exact hr5.rd 0 rfl | exact (hr5.only OX (blk_aside hr5 hK15 rfl)).rd 0 rfl | exact (hI.h5.only OX (blk_aside hI.h5 hK rfl)).rd 0 rfl)), (rv_cell FmRows_g36 rfl (by first | exact hr6.rd 0 rfl | exact (hr6.only OX (blk_aside hr6 hK15 rfl)).rd 0 rfl | exact (hI.h6.only OX (blk_aside hI.h6 hK rfl)).rd 0 rfl)), ?_⟩)
     exact ⟨⟨_, _, _, rfl, .inr (.inr ⟨p, hqp, fun e => by subst e; simp at hpn; omega, hpK, by rw [hw1], by rw [hw2], rfl⟩)⟩, (hM1.hF).only OX hD15⟩
  case hs =>
   intro D WS hD hS hK
   obtain ⟨hI, hz1, hz2⟩ := hS
   refine rt_block (rt_then ?_)
   refine retM1 rfl (by first | exact hK15 | exact hK) (fun wX OX => ⟨(rv_cell FmRows_g3 rfl (by first | exact hr4.rd 0 rfl | exact (hr4.only OX (blk_aside hr4 hK15 rfl)).rd 0 rfl | exact (hI.h4.only OX (blk_aside hI.h4 hK rfl)).rd 0 rfl)), (rv_cell FmRows_g3 rfl (by first | exact hr5.rd 0 rfl | exact (hr5.only OX (blk_aside hr5 hK15 rfl)).rd 0 rfl | exact (hI.h5.only OX (blk_aside hI.h5 hK rfl)).rd 0 rfl)), (rv_cell FmRows_g36 rfl (by first | exact hr6.rd 0 rfl | exact (hr6.only OX (blk_aside hr6 hK15 rfl)).rd 0 rfl | exact (hI.h6.only OX (blk_aside hI.h6 hK rfl)).rd 0 rfl)), ?_⟩)
   exact ⟨⟨_, _, _, rfl, .inr (.inr ⟨p, hqp, fun e => by subst e; simp at hpn; omega, hpK, by rw [hz1], by rw [hz2], rfl⟩)⟩, hI.hF.only OX (Nat.le_trans hz44 hD)⟩
end Go.Proofs.YtllmocjfllbbfaaGreat

namespace Go.Proofs.YtllmocjfllbbfaaGreat
open Go.RowKit
def leB (x y : Int) : Bool := decide (x ≤ y)
def srt (L : List Int) : List Int := L.mergeSort leB
def cnt (L : List Int) (x : Int) : Nat := L.countP fun y => decide (x ≤ y)
def med (L : List Int) : Int := (srt L).getD ((L.length - 1) / 2) 0
def Fit (L : List Int) : Prop := 1 ≤ L.length ∧ L.length ≤ 7 ∧ ∀ x ∈ L, 0 ≤ x
theorem srt_perm (L : List Int) : (srt L).Perm L := List.mergeSort_perm L leB
theorem srt_len (L : List Int) : (srt L).length = L.length := (srt_perm L).length_eq
theorem srt_le (L : List Int) : ∀ i j (hi : i < (srt L).length) (hj : j < (srt L).length), i ≤ j → (srt L)[i] ≤ (srt L)[j] := by
  have h := List.pairwise_mergeSort (le := leB) (fun a b c h1 h2 => by simp only [leB, decide_eq_true_eq] at *; omega) (fun a b => by simp only [leB, Bool.or_eq_true, decide_eq_true_eq]; omega) L
  intro i j hi hj hij
  rcases Nat.lt_or_ge i j with h1 | h1
  · have := List.pairwise_iff_getElem.1 h i j hi hj h1
    exact of_decide_eq_true this
  · obtain rfl : i = j := by omega
    exact Int.le_refl _
/-- how many of 1 to n are among the votes -/
def cv (V : List Int) (n : Nat) : Nat := (List.range n).countP fun i => decide (((i + 1 : Nat) : Int) ∈ V)
def vt (V : List Int) (n i : Nat) : Bool := decide (1 ≤ i ∧ i ≤ n ∧ (i : Int) ∈ V)
def vrow (V : List Int) (n : Nat) : List Value := (List.range 8).map fun i => .bool (vt V n i)
end Go.Proofs.YtllmocjfllbbfaaGreat

namespace Go.Proofs.YtllmocjfllbbfaaGreat
open Go.RowKit
open Go.ChangeShapes Go.WideShapes Go.ChangeAt
open Go.Proofs.YtllmocjfllbbfaaGreat.SA
open Go.Shelf
theorem FmFind_m68 : makeQ Tryz.prog 68 = some (3, 8, (.int .i64 0)) := by kernel_rfl
theorem FmFind_q68 : litQ Tryz.prog 68 = some (3, 1, 8, (.int .i64 0)) := by kernel_rfl
theorem FmFind_k38 : callable Tryz.prog 38 = true := by kernel_rfl
theorem FmFind_k39 : callable Tryz.prog 39 = true := by kernel_rfl
theorem FmFind_k40 : callable Tryz.prog 40 = true := by kernel_rfl
/-- what Find is to tell -/
def FindIs (K : Nat) (L : List Nat) (q : List Int) (l : List Nat) (e : Int) : Prop :=
  (q = [] ∧ l = [] ∧ e = 5) ∨ (q ≠ [] ∧ q.all (okS (K : Nat)) = false ∧ l = [] ∧ e = 1) ∨ (∃ p : List Nat, q = cI p ∧ p ≠ [] ∧ (∀ x ∈ p, x < K) ∧ l = fndL L p ∧ e = 0)
theorem rows_err {K : Nat} {L : List Nat} {q : List Int} {fr to e : Int} (h : RowsIs K L q fr to e) (he : e ≠ 0) : FindIs K L q [] e := by
  rcases h with ⟨h1, _, _, rfl⟩ | ⟨h1, h2, _, _, rfl⟩ | ⟨p, _, _, _, _, _, rfl⟩
  · exact .inl ⟨h1, rfl, rfl⟩
  · exact .inr (.inl ⟨h1, h2, rfl, rfl⟩)
  · exact absurd rfl he
theorem rows_ok {K : Nat} {L : List Nat} {q : List Int} {fr to : Int} (h : RowsIs K L q fr to 0) : ∃ p : List Nat, q = cI p ∧ p ≠ [] ∧ (∀ x ∈ p, x < K) ∧ fr = ((rwF L p : Nat) : Int) ∧ to = ((rwT L p : Nat) : Int) := by
  rcases h with ⟨_, _, _, e⟩ | ⟨_, _, _, _, e⟩ | ⟨p, h1, h2, h3, h4, h5, _⟩
  · cases e
  · cases e
  · exact ⟨p, h1, h2, h3, h4, h5⟩
theorem sort_some (base c g0 o0 n : Nat) (L : List Int) (w : World) (ho : w.ownsRow base 3 1 (.slice (some ⟨g0, o0, none⟩) n c) n (L.map iV)) (hn : n = L.length) (hl : L.length ≤ 1000000) :
    Rt Tryz.prog 40 [.slice (some ⟨g0, o0, none⟩) n c] w fun _ w' => w'.ownsRow base 3 1 (.slice (some ⟨g0, o0, none⟩) n c) n ((srt L).map iV) ∧ w.grownBy w' (some g0) := by
  subst hn
  rcases ho.2 with ⟨hz, _⟩ | ⟨g, cap, cur, hv, hbase, hb, h1, h2, h3, h4⟩
  · cases hz
  · simp only [Value.slice.injEq] at hv
    obtain ⟨hA, _, rfl⟩ := hv
    cases hA
    refine Calls.mono (Tryz.slices_Sort_int g0 0 c L w (holds_of_blockI hb (by simpa using h4)) (Array.getElem?_eq_some_iff.1 hb).1 (by omega)) fun e w' ⟨he, n, os, hw⟩ => ⟨_, he, ?_, ?_⟩
    · rw [hw]; exact ownsRow_sortedI (srt_len L) hbase hb h1 h2 h3
    · rw [hw]; exact grownBy_sortedI _
theorem nat_back : ∀ {l : List Int}, (∀ y ∈ l, 0 ≤ y) → l = cI (l.map Int.toNat)
  | [], _ => rfl
  | y :: l, h => by
    rw [List.map_cons, cI, List.map_cons, ← cI, ← nat_back fun z hz => h z (List.mem_cons_of_mem _ hz), Int.toNat_of_nonneg (h y (List.mem_cons_self ..))]
/-- the places in order are the places as the text tells them -/
theorem srt_plc {L F p : List Nat} (hS : IsSA L F) (hp : p ≠ []) : srt (cI (SA.plc L F (frP L p) (toP L p - frP L p))) = cI (fndL L p) := by
  have hto := toP_le L p
  have hle := fr_le_to L p
  generalize hX : SA.plc L F (frP L p) (toP L p - frP L p) = X
  have hnd : X.Nodup := by rw [← hX]; exact plc_nodup hS (by omega)
  have hmem : ∀ x, x ∈ X ↔ x ∈ fndL L p := fun x => by rw [← hX]; exact plc_mem hS hp
  have hpm := srt_perm (cI X)
  have hnn : ∀ y ∈ srt (cI X), 0 ≤ y := fun y hy => by
    obtain ⟨x, _, rfl⟩ := List.mem_map.1 (hpm.mem_iff.1 hy)
    omega
  have e : srt (cI X) = cI ((srt (cI X)).map Int.toNat) := nat_back hnn
  rw [e]
  congr 1
  refine asc_uniq ?_ (fndL_asc L p) fun x => ?_
  · refine List.pairwise_map.2 (List.pairwise_iff_getElem.2 fun i j hi hj hij => ?_)
    have h1 := srt_le (cI X) i j hi hj (Nat.le_of_lt hij)
    have h2 := hnn _ (List.getElem_mem hi)
    have hndI : (srt (cI X)).Nodup := hpm.nodup_iff.2 (List.pairwise_map.2 (hnd.imp fun a b => by simp only [ne_eq] at *; omega))
    have h3 := List.pairwise_iff_getElem.1 hndI i j hi hj hij
    omega
  · rw [← hmem, List.mem_map]
    constructor
    · rintro ⟨y, hy, rfl⟩
      obtain ⟨z, hz, rfl⟩ := List.mem_map.1 (hpm.mem_iff.1 hy)
      simpa using hz
    · intro hx
      exact ⟨(x : Int), hpm.mem_iff.2 (List.mem_map.2 ⟨x, hx, rfl⟩), by simp⟩
theorem plc_rw (L F p : List Nat) : SA.plc L F (rwF L p) (rwT L p - rwF L p) = SA.plc L F (frP L p) (toP L p - frP L p) := by
  unfold rwF rwT
  by_cases h : frP L p < toP L p
  · rw [if_pos h, if_pos h]
  · rw [if_neg h, if_neg h, show toP L p - frP L p = 0 by omega]
    rfl
theorem own_ne_none {w : World} {base e s n c m : Nat} {A : Option Addr} {xs : List Value} (h : w.ownsRow base e s (.slice A n c) m xs) (hA : A ≠ none) : ∃ g, A = some ⟨g, 0, none⟩ := by
  rcases h.2 with ⟨h0, _⟩ | ⟨g, cap, cur, hv, _⟩
  · simp only [Value.slice.injEq] at h0
    exact absurd h0.1 hA
  · simp only [Value.slice.injEq] at hv
    exact ⟨g, hv.1⟩
theorem plc_own {L F : List Nat} {fr k : Nat} : (cI (SA.plc L F fr (k + 1))).map iV = (cI (SA.plc L F fr k)).map iV ++ [iV ((rowS L F (fr + k) : Nat) : Int)] := by rw [plc_succ]; simp [cI]
set_option maxHeartbeats 2000000 in
theorem fmFind_rt (base b K a : Nat) (L B F : List Nat) (w : World) (hf : FmAt w base b K a L B F) (A : Option Addr) (c n : Nat) (q : List Int) (hr : RowOf iV w A q) (hn : n = q.length) (hl : n ≤ 1000000) :
    Rt Tryz.prog 31 [.pointer (some ⟨b, 0, none⟩), .slice A n c] w (fun v w' => (∃ l e A' c', FindIs K L q l e ∧ v = .tuple #[.slice A' l.length c', .int .i64 e] ∧ w'.ownsRow w.heap.size 3 1 (.slice A' l.length c') l.length ((cI l).map iV)) ∧ From w w') := by
  have hLn := hf.2.2.2.1
  have hSA := hf.2.1
  refine enter (n := 40) Tryz.func31 rfl rfl rfl ?_
  refine cd_seq (cd_region ?_)
  refine ass rfl ?_
  refine asi rfl ?_
  refine st_nil (nx_then (cd_seq (cd_region ?_)))
  refine mvp rfl ?_
  refine mvs rfl ?_
  refine st_call FmFind_k38 (fmRows_rt base b K a L B F _ (hf.from_ From.rfl_) A c n q (hr.from_ From.rfl_) hn hl) ?_
  rintro v14 w1 ⟨⟨fr, to, e, rfl, hIs⟩, E14⟩
  refine mvt rfl ?_
  refine st_val (ro_extract rfl rfl) ?_
  refine st_val (ro_extract rfl rfl) ?_
  refine st_val (ro_extract rfl rfl) ?_
  refine asi rfl ?_
  refine asi rfl ?_
  refine asi rfl ?_
  refine st_nil (nx_then (cd_seq (cd_seq (cd_region ?_))))
  refine mvi rfl ?_
  refine st_val (ro_neq rfl rfl) ?_
  refine st_nil (nx_then ?_)
  refine cd_cond rfl (fun Q2 => ?_) (fun Q2 => ?_)
  · with_reducible replace Q2 := bx_t Q2
    have hbad := rows_err hIs (by omega)
    refine cd_seq (cd_region ?_)
    refine mvi rfl ?_
    refine ass rfl ?_
    refine asi rfl ?_
    refine st_nil (nx_then (cd_ret (rt_then ?_)))
    refine res2 (v := .slice _ _ _) (v' := .int _ _) rfl rfl rfl ?_
    exact ⟨⟨[], _, none, 0, hbad, rfl, World.ownsRow_nil _ _ _ _⟩, (From.rfl_.next E14)⟩
  with_reducible replace Q2 := bx_f Q2
  obtain rfl : e = 0 := by omega
  obtain ⟨p, hqp, hp0, hpK, rfl, rfl⟩ := rows_ok hIs
  have hrs := rw_sub L p
  refine cd_skip (nx_then (cd_seq (cd_region ?_)))
  refine mvi rfl ?_
  refine mvi rfl ?_
  refine st_val (ro_subN rfl rfl (by omega)) ?_
  refine st_make0 (m := rwT L p - rwF L p) (base := w.heap.size) FmFind_m68 rfl rfl rfl (by omega) (by omega) ((From.rfl_.next E14).size) ?_
  intro g24 w3 E24 hb24 ho24
  refine ass rfl ?_
  refine st_nil (nx_then (cd_seq (cd_seq (cd_region ?_))))
  refine mvi rfl ?_
  refine asi rfl ?_
  refine st_nil (nx_then (cd_block ?_))
  refine cd_loop (G := Nat × Option Addr × Nat) [26, 27, 28, 29, 30, 31, 32, 33, 34, 35, 36] (fun (j, A2, c2) => [(9, .slice A2 j c2), (10, .int .i64 ((rwF L p + j : Nat) : Int))]) (fun (j, A2, c2) w' => rwF L p + j ≤ rwT L p ∧ w'.ownsRow w.heap.size 3 1 (.slice A2 j c2) j ((cI (SA.plc L F (rwF L p) j)).map iV) ∧ A2 ≠ none ∧ From w w') (fun (j, _, _) => rwT L p - (rwF L p + j)) ((0, some ⟨g24, 0, none⟩, rwT L p - rwF L p)) ⟨rfl, (int_eq (by omega)), trivial⟩ ?_ ?_
  · exact ⟨by omega, ho24, fun h => (by cases h), ((From.rfl_.next E14).next E24)⟩
  rintro ⟨j, A2, c2⟩ ρ4 w4 ⟨hj, ho, hA2, hB⟩
  refine cd_seq (cd_seq (cd_region ?_))
  refine mvi rfl ?_
  refine mvi rfl ?_
  refine st_val (ro_lss rfl rfl) ?_
  refine st_nil (nx_then ?_)
  refine cd_cond rfl (fun Q5 => ?_) (fun Q5 => ?_)
  · with_reducible replace Q5 := of_decide_eq_true Q5
    refine cd_skip (nx_then (cd_seq (cd_block (cd_region ?_))))
    refine mvs rfl ?_
    refine mvp rfl ?_
    refine mvi rfl ?_
    refine st_call FmFind_k39 (start_rt base b K a L B F _ (hf.from_ hB) (rwF L p + j) (by omega)) ?_
    rintro v34 w6 ⟨rfl, E34⟩
    refine st_lit1 (v := .int _ _) FmFind_q68 rfl rfl rfl ?_
    intro b35 w7 E35 hb35 hk35
    refine st_appendB FmFind_q68 rfl (by decide) rfl (A := A2) (xs := (cI (SA.plc L F (rwF L p) j)).map iV) (news := [iV ((rowS L F (rwF L p + j) : Nat) : Int)]) (ho.kept_from ((From.rfl_.next E34).next E35)) (((hB.next E34).next E35).size) rfl rfl (fun _ => ⟨b35, 0, rfl, hk35.whole⟩) (fun h => by cases h) (by simp [Value.oneCell']) (by omega) (by omega) ?_
    intro A36 c36 w8 ho36 hg36
    have HF36 := (((hB.next E34).next E35)).grew hg36 (fun k hk => (own_at (ho.kept_from ((From.rfl_.next E34).next E35)) k hk).1)
    refine ass rfl ?_
    refine st_nil (nx_block (nx_then (cd_region ?_)))
    refine mvi rfl ?_
    refine st_val (ro_addN (b := 1) rfl rfl (by omega)) ?_
    refine asi rfl ?_
    refine st_nil ?_
    refine nx_cut ((j + 1, A36, c36)) ⟨rfl, (int_eq (by omega)), trivial⟩ (by (iterate 26 refine agr_cons rfl ?_); exact agr_rfl) ⟨?_, ?_⟩
    · exact ⟨by omega, by rw [plc_own]; exact ho36.kept_from From.rfl_, by obtain ⟨g, e⟩ := own_some ho36 (by omega); rw [e]; exact fun h => (by cases h), HF36⟩
    · show rwT L p - (rwF L p + (j + 1)) < rwT L p - (rwF L p + j); omega
  with_reducible replace Q5 := of_decide_eq_false Q5
  obtain ⟨g2, rfl⟩ := own_ne_none ho hA2
  refine cd_exit ?_
  refine ex_then (ex_then (ex_block (nx_then (cd_seq (cd_region ?_)))))
  refine mvs rfl ?_
  refine st_call FmFind_k40 (sort_some _ c2 g2 0 j (cI (SA.plc L F (rwF L p) j)) _ (ho.kept_from From.rfl_) (by rw [List.length_map, plc_len]) (by rw [List.length_map, plc_len]; omega)) ?_
  rintro v38 w9 ⟨ho38, hg38⟩
  refine st_nil (nx_then (cd_seq (cd_region ?_)))
  refine mvs rfl ?_
  refine ass rfl ?_
  refine asi rfl ?_
  refine st_nil (nx_then (cd_ret ?_))
  refine res2 (v := .slice _ _ _) (v' := .int _ _) rfl rfl rfl ?_
  obtain rfl : j = rwT L p - rwF L p := by omega
  have hs := srt_plc hSA hp0
  rw [← plc_rw] at hs
  rw [hs] at ho38
  have hl9 : rwT L p - rwF L p = (fndL L p).length := by have := (RowOf.own ho38).1; rwa [List.length_map] at this
  rw [hl9] at ho38 ⊢
  exact ⟨⟨fndL L p, 0, _, _, .inr (.inr ⟨p, hqp, hp0, hpK, rfl, rfl⟩), rfl, ho38.kept_from From.rfl_⟩, ((hB).grew hg38 (fun k hk => (own_at (ho.kept_from From.rfl_) k hk).1))⟩
end Go.Proofs.YtllmocjfllbbfaaGreat

namespace Go.Proofs.YtllmocjfllbbfaaGreat
open Go.RowKit
open Go.ChangeShapes Go.WideShapes Go.ChangeAt
open Go.Proofs.YtllmocjfllbbfaaGreat.SA
/-- what Place tells -/
noncomputable def plV (L F : List Nat) (i : Int) : Int := if 0 ≤ i ∧ i ≤ L.length then ((rowS L F i.toNat : Nat) : Int) else 0
noncomputable def plE (L : List Nat) (i : Int) : Int := if 0 ≤ i ∧ i ≤ L.length then 0 else 3
/-- the cells of a part, as far as it is read -/
def txF (L : List Nat) (fr t i : Nat) : Int := if t ≤ fr + i then ((L.getD (fr + i) 0 : Nat) : Int) else 0
end Go.Proofs.YtllmocjfllbbfaaGreat

namespace Go.Proofs.YtllmocjfllbbfaaGreat
open Go.RowKit
open Go.ChangeShapes Go.WideShapes Go.ChangeAt
open Go.Proofs.YtllmocjfllbbfaaGreat.SA
theorem TreeAt.grown {w w' : World} {base b k : Nat} {L : List Nat} {r : Option Nat} (h : TreeAt w base b k L) (hg : w.grownBy w' r) (hne : ∀ q, r = some q → q < base) : TreeAt w' base b k L := by
  obtain ⟨hb0, AT, cT, g, vs, hT, ho, hVs, hg0, hg2, hrest⟩ := h
  exact ⟨hb0, AT, cT, g, vs, hT.grown hg (fun q hq => by have := hne q hq; omega), own_kept ho hg hne, fun j hj => (hVs j hj).grown hg hne, hg0, hg2.grown hg (fun q hq => by have := hne q hq; omega), hrest⟩
theorem FmAt.grown {w w' : World} {base b K a : Nat} {L B F : List Nat} {r : Option Nat} (h : FmAt w base b K a L B F) (hg : w.grownBy w' r) (hne : ∀ q, r = some q → q < base) : FmAt w' base b K a L B F := by
  obtain ⟨hb0, hSA, hbw, hLn, hK, tb, AS, cs, gr, hI, hT, ho, hR, hgr⟩ := h
  exact ⟨hb0, hSA, hbw, hLn, hK, tb, AS, cs, gr, hI.grown hg (fun q hq => by have := hne q hq; omega), hT.grown hg hne, own_kept ho hg hne, hR.grown hg (fun q hq => by have := hne q hq; omega), hgr⟩
theorem FmAt.ptr {w : World} {base b K a : Nat} {L B F : List Nat} (h : FmAt w base b K a L B F) : ∃ tb AS cs gr, Blk w b 55 #[.pointer (some ⟨tb, 0, none⟩), .int .i64 (a : Nat), .slice AS (smp L F (L.length + 1)).length cs, .slice (some ⟨gr, 0, none⟩) (L.length / 8 + 1) (L.length / 8 + 1)] := by
  obtain ⟨hb0, hSA, hbw, hLn, hK, tb, AS, cs, gr, hI, hT, ho, hR, hgr⟩ := h
  exact ⟨tb, AS, cs, gr, hI⟩
theorem FmAt.le {w : World} {base base2 b K a : Nat} {L B F : List Nat} (h : FmAt w base b K a L B F) (hl : base2 ≤ base) : FmAt w base2 b K a L B F := by
  obtain ⟨hb0, hSA, hbw, hLn, hK, tb, AS, cs, gr, hI, hT, ho, hR, hgr⟩ := h
  exact ⟨by omega, hSA, hbw, hLn, hK, tb, AS, cs, gr, hI, hT.le hl, own_le ho hl, hR, by omega⟩
/-- what asks tells of a pattern -/
def askE (k : Int) (q : List Int) : Int := if q.length = 0 then 5 else if q.all (okS k) then 0 else 1
end Go.Proofs.YtllmocjfllbbfaaGreat

namespace Go.Proofs.YtllmocjfllbbfaaGreat
open Go.RowKit
open Go.ChangeShapes Go.WideShapes Go.ChangeAt
open Go.Proofs.YtllmocjfllbbfaaGreat.SA
/-- no list has these symbols with this row -/
def Bad (n : Nat) (at_ : Int) (xs : List Int) : Prop := ∀ (B : List Nat) (a : Nat), xs = cI B → (∀ x ∈ B, x < 512) → at_ = (a : Nat) → a ≤ n → ¬ Circ n (fun i => B.getD i 0) a
/-- what Back tells -/
def BackA (w' : World) (base n : Nat) (at_ : Int) (xs : List Int) (v : Value) : Prop :=
  (∃ B a A', xs = cI B ∧ (∀ x ∈ B, x < 512) ∧ at_ = (a : Nat) ∧ a ≤ n ∧ Circ n (fun i => B.getD i 0) a ∧ v = .tuple #[.slice A' n n, .int .i64 0] ∧ w'.ownsRow base 3 1 (.slice A' n n) n ((wl n (fun i => B.getD i 0) a).map fun x : Nat => iV (x : Nat))) ∨
  (Bad n at_ xs ∧ v = .tuple #[.slice none 0 0, .int .i64 1])
end Go.Proofs.YtllmocjfllbbfaaGreat

namespace Go.Proofs.YtllmocjfllbbfaaGreat
open Go.RowKit
open Go.ChangeShapes Go.WideShapes Go.ChangeAt
open Go.Proofs.YtllmocjfllbbfaaGreat.SA
end Go.Proofs.YtllmocjfllbbfaaGreat

namespace Go.Proofs.YtllmocjfllbbfaaGreat
open Go.RowKit
open Go.ChangeShapes Go.WideShapes Go.ChangeAt
open Go.Proofs.YtllmocjfllbbfaaGreat.SA
end Go.Proofs.YtllmocjfllbbfaaGreat

namespace Go.Proofs.YtllmocjfllbbfaaGreat
open Go.RowKit
open Go.ChangeShapes Go.WideShapes Go.ChangeAt
open Go.Proofs.YtllmocjfllbbfaaGreat.SA
noncomputable def rsF (K : Nat) (L : List Nat) (q : List Int) : Int := if askE (K : Nat) q = 0 then ((rwF L (q.map Int.toNat) : Nat) : Int) else 0
noncomputable def rsT (K : Nat) (L : List Nat) (q : List Int) : Int := if askE (K : Nat) q = 0 then ((rwT L (q.map Int.toNat) : Nat) : Int) else 0
noncomputable def fdL (K : Nat) (L : List Nat) (q : List Int) : List Nat := if askE (K : Nat) q = 0 then fndL L (q.map Int.toNat) else []
theorem cI_toNat (p : List Nat) : (cI p).map Int.toNat = p := by
  unfold cI
  rw [List.map_map]
  refine (List.map_congr_left fun x _ => ?_).trans (List.map_id p)
  rfl
theorem ask_good {K : Nat} {p : List Nat} (h0 : p ≠ []) (h : ∀ x ∈ p, x < K) : askE (K : Nat) (cI p) = 0 := by
  unfold askE
  rw [if_neg (by rw [List.length_map]; exact fun e => h0 (List.eq_nil_of_length_eq_zero e)), if_pos]
  rw [List.all_eq_true]
  intro y hy
  obtain ⟨x, hx, rfl⟩ := List.mem_map.1 hy
  exact okS_yes (by omega) (by have := h x hx; omega)
theorem find_fn {K : Nat} {L : List Nat} {q : List Int} {l : List Nat} {e : Int} (h : FindIs K L q l e) : l = fdL K L q ∧ e = askE (K : Nat) q := by
  rcases h with ⟨rfl, rfl, rfl⟩ | ⟨h1, h2, rfl, rfl⟩ | ⟨p, rfl, h1, h2, rfl, rfl⟩
  · exact ⟨rfl, rfl⟩
  · have e : askE (K : Nat) q = 1 := by unfold askE; rw [if_neg (fun e => h1 (List.eq_nil_of_length_eq_zero e)), h2]; rfl
    unfold fdL
    rw [e]
    exact ⟨rfl, rfl⟩
  · unfold fdL
    rw [ask_good h1 h2, if_pos rfl, cI_toNat]
    exact ⟨rfl, rfl⟩
section
variable (base b K a : Nat) (L B F : List Nat) (w : World) (hf : FmAt w base b K a L B F) (A : Option Addr) (c n : Nat) (q : List Int) (hr : RowOf iV w A q) (hn : n = q.length) (hl : n ≤ 1000000)
include hf hr hn hl
theorem find_d : Rt Tryz.prog 31 [.pointer (some ⟨b, 0, none⟩), .slice A n c] w fun v w' => (∃ A' c', v = .tuple #[.slice A' (fdL K L q).length c', .int .i64 (askE (K : Nat) q)] ∧ w'.ownsRow w.heap.size 3 1 (.slice A' (fdL K L q).length c') (fdL K L q).length ((cI (fdL K L q)).map iV)) ∧ From w w' := by
  refine (fmFind_rt base b K a L B F w hf A c n q hr hn hl).mono fun v w' h => ?_
  obtain ⟨⟨l, e, A', c', hi, rfl, ho⟩, hF⟩ := h
  obtain ⟨rfl, rfl⟩ := find_fn hi
  exact ⟨⟨A', c', rfl, ho⟩, hF⟩
end
section
variable (A D : Option Addr) (ca cp n m : Nat) (xs q : List Int) (K : Nat) (L : List Nat) (w : World) (hr : RowOf iV w A xs) (hL : xs = cI L) (hn : n = xs.length) (hp : RowOf iV w D q) (hm : m = q.length) (hl : n ≤ 131072) (hl2 : m ≤ 1000000) (he : askE (K : Nat) q = 0)
include hr hL hn hp hm hl hl2 he
end
end Go.Proofs.YtllmocjfllbbfaaGreat

namespace Go.Proofs.YtllmocjfllbbfaaGreat
open Go.RowKit
open Go.ChangeShapes Go.WideShapes Go.ChangeAt
open Go.Proofs.YtllmocjfllbbfaaGreat.SA
theorem rw_cnt {L F p : List Nat} (hS : IsSA L F) (hp : p ≠ []) : ((rwT L p : Nat) : Int) - ((rwF L p : Nat) : Int) = ((fndL L p).length : Nat) := by
  have h := congrArg List.length (srt_plc hS hp)
  rw [← plc_rw, srt_len, cI, List.length_map, plc_len, cI, List.length_map] at h
  have := rw_sub L p
  omega
theorem bg_pre {t : Nat → Nat} : ∀ {s q : List Nat} {i : Nat}, pBg t i (s ++ q) → pBg t i s
  | [], _, _, _ => trivial
  | _ :: _, _, _, ⟨h1, h2⟩ => ⟨h1, bg_pre h2⟩
open Classical in
theorem fnd_pre {L s q : List Nat} : (fndL L (s ++ q)).length ≤ (fndL L s).length := by
  unfold fndL
  rw [← List.countP_eq_length_filter, ← List.countP_eq_length_filter]
  exact List.countP_mono_left fun x _ h => decide_eq_true (bg_pre (of_decide_eq_true h))
theorem hits_cnt {K : Nat} {L F p : List Nat} (hS : IsSA L F) (hp : p ≠ []) (hK : ∀ x ∈ p, x < K) : rsT K L (cI p) - rsF K L (cI p) = ((fndL L p).length : Nat) := by
  unfold rsT rsF
  rw [ask_good hp hK, if_pos rfl, if_pos rfl, cI_toNat]
  exact rw_cnt hS hp
/-- the pattern without its last symbol -/
theorem less_one {K : Nat} {L F p : List Nat} (hS : IsSA L F) (hK : ∀ x ∈ p, x < K) (h1 : 1 < p.length) : askE (K : Nat) ((cI p).take (p.length - 1)) = 0 ∧ ((fndL L p).length : Int) ≤ rsT K L ((cI p).take (p.length - 1)) - rsF K L ((cI p).take (p.length - 1)) := by
  have e : (cI p).take (p.length - 1) = cI (p.take (p.length - 1)) := by rw [cI, ← List.map_take]
  have h0 : p.take (p.length - 1) ≠ [] := fun h => by
    have := congrArg List.length h
    rw [List.length_take, List.length_nil] at this
    omega
  have hK2 : ∀ x ∈ p.take (p.length - 1), x < K := fun x hx => hK x (List.mem_of_mem_take hx)
  rw [e, hits_cnt hS h0 hK2]
  refine ⟨ask_good h0 hK2, ?_⟩
  have := fnd_pre (L := L) (s := p.take (p.length - 1)) (q := p.drop (p.length - 1))
  rw [List.take_append_drop] at this
  omega
end Go.Proofs.YtllmocjfllbbfaaGreat

namespace Go.Proofs.YtllmocjfllbbfaaGreat
open Go.RowKit

namespace Bd
theorem BndWalks_l68 : (elemQ Tryz.prog 68).isSome = true := by kernel_rfl
theorem BndWalks_e68 : elemQ Tryz.prog 68 = some (3, 1) := by kernel_rfl
theorem BndWalks_g3 : aggQ Tryz.prog 3 = some false := by kernel_rfl
theorem BndWalks_b80_ : Tryz.prog.built 80 [] = some #[.slice none 0 0] := by kernel_rfl
theorem BndWalks_f80_0 : fieldQ Tryz.prog 80 0 = some 0 := by kernel_rfl
theorem BndWalks_g68 : aggQ Tryz.prog 68 = some false := by kernel_rfl
theorem BndWalks_q68 : litQ Tryz.prog 68 = some (3, 1, 8, (.int .i64 0)) := by kernel_rfl
theorem BndWalks_z68 : sizeQ Tryz.prog 68 = some 1 := by kernel_rfl
theorem BndWalks_k44 : callable Tryz.prog 44 = true := by kernel_rfl
theorem BndWalks_s3 : (Tryz.prog.underlying 3).isSome = true := by kernel_rfl
theorem BndWalks_i78 : Tryz.prog.underlying 78 = some (.int .u64) := by kernel_rfl
theorem BndWalks_s78 : (Tryz.prog.underlying 78).isSome = true := by kernel_rfl
theorem BndWalks_i3 : Tryz.prog.underlying 3 = some (.int .i64) := by kernel_rfl
theorem BndWalks_k43 : callable Tryz.prog 43 = true := by kernel_rfl
theorem BndWalks_g48 : aggQ Tryz.prog 48 = some false := by kernel_rfl
theorem BndWalks_k41 : callable Tryz.prog 41 = true := by kernel_rfl
theorem BndWalks_k42 : callable Tryz.prog 42 = true := by kernel_rfl
/-- where text i begins -/
def st (L : List Int) : Nat → Int
  | 0 => 0
  | i + 1 => st L i + L.getD i 0 + 1
theorem st_succ {L : List Int} {i : Nat} (h : i < L.length) : st L (i + 1) = st L i + L[i] + 1 := by
  show st L i + L.getD i 0 + 1 = _
  rw [List.getD_eq_getElem?_getD, List.getElem?_eq_getElem h]
  rfl
def neg (L : List Int) : Bool := L.any fun x => decide (x < 0)
def fits (L : List Int) : Bool := (List.range L.length).all fun i => decide (L.getD i 0 < 131072 - st L i)
def lensE (L : List Int) : Int := if neg L = true then 1 else if 64 < L.length then 2 else if fits L = true then 0 else 2
structure Gd (L : List Int) : Prop where
  pos : ∀ i (h : i < L.length), 0 ≤ L[i]
  len : L.length ≤ 64
  fit : ∀ i (h : i < L.length), L[i] < 131072 - st L i
theorem neg_of {L : List Int} (h : ∀ i (h : i < L.length), 0 ≤ L[i]) : neg L = false := by
  unfold neg
  rw [List.any_eq_false]
  intro x hx
  obtain ⟨i, hi, rfl⟩ := List.mem_iff_getElem.1 hx
  have := h i hi
  simp; omega
theorem neg_at {L : List Int} {i : Nat} (h : i < L.length) (hn : L[i] < 0) : neg L = true := List.any_eq_true.2 ⟨L[i], List.getElem_mem h, by simpa using hn⟩
theorem lens1 {L : List Int} {i : Nat} (h : i < L.length) (hn : L[i] < 0) : lensE L = 1 := by unfold lensE; rw [if_pos (neg_at h hn)]
theorem lens2 {L : List Int} (h : ∀ i (h : i < L.length), 0 ≤ L[i]) (hl : 64 < L.length) : lensE L = 2 := by unfold lensE; rw [if_neg (by rw [neg_of h]; decide), if_pos hl]
theorem lens3 {L : List Int} (h : ∀ i (h : i < L.length), 0 ≤ L[i]) (hl : L.length ≤ 64) {i : Nat} (hi : i < L.length) (hn : ¬ L[i] < 131072 - st L i) : lensE L = 2 := by
  unfold lensE
  have hf : fits L = false := by
    rw [← Bool.not_eq_true]
    intro hf
    have := List.all_eq_true.1 hf i (List.mem_range.2 hi)
    rw [decide_eq_true_eq, List.getD_eq_getElem?_getD, List.getElem?_eq_getElem hi] at this
    exact hn this
  rw [if_neg (by rw [neg_of h]; decide), if_neg (by omega), if_neg (by rw [hf]; decide)]
theorem lens0 {L : List Int} (h : Gd L) : lensE L = 0 := by
  unfold lensE
  have hf : fits L = true := List.all_eq_true.2 fun i hi => by
    have hi' := List.mem_range.1 hi
    rw [decide_eq_true_eq, List.getD_eq_getElem?_getD, List.getElem?_eq_getElem hi']
    exact h.fit i hi'
  rw [if_neg (by rw [neg_of h.pos]; decide), if_neg (by have := h.len; omega), if_pos hf]
theorem st_part {L : List Int} (hp : ∀ i (h : i < L.length), 0 ≤ L[i]) : ∀ k, k ≤ L.length → (∀ i (h : i < L.length), i < k → L[i] < 131072 - st L i) → 0 ≤ st L k ∧ st L k ≤ 131072
  | 0, _, _ => by simp [st]
  | k + 1, hk, hf => by
    have h1 := st_part hp k (by omega) (fun i h hi => hf i h (by omega))
    have h2 := hp k (by omega)
    have h3 := hf k (by omega) (by omega)
    rw [st_succ (by omega)]
    omega
theorem Gd.st {L : List Int} (h : Gd L) {k : Nat} (hk : k ≤ L.length) : 0 ≤ st L k ∧ st L k ≤ 131072 := st_part h.pos k hk fun i hi _ => h.fit i hi
theorem st_mono1 {L : List Int} (hp : ∀ i (h : i < L.length), 0 ≤ L[i]) (i : Nat) : st L i < st L (i + 1) := by
  show st L i < st L i + L.getD i 0 + 1
  rw [List.getD_eq_getElem?_getD]
  by_cases h : i < L.length
  · rw [List.getElem?_eq_getElem h]
    have := hp i h
    show _ < _ + L[i] + 1
    omega
  · rw [List.getElem?_eq_none (by omega)]
    show _ < _ + 0 + 1
    omega
theorem st_mono {L : List Int} (hp : ∀ i (h : i < L.length), 0 ≤ L[i]) {i j : Nat} (h : i ≤ j) : st L i ≤ st L j := by
  obtain ⟨k, rfl⟩ := Nat.exists_eq_add_of_le h
  induction k with
  | zero => exact Int.le_refl _
  | succ k ih => have h1 := st_mono1 hp (i + k); have h2 := ih (by omega); rw [← Nat.add_assoc]; omega
def endsOf (L : List Int) (k : Nat) : List Int := (List.range k).map fun i => st L (i + 1)
theorem ends_len (L : List Int) (k : Nat) : (endsOf L k).length = k := by simp [endsOf]
theorem ends_at (L : List Int) (k i : Nat) (h : i < (endsOf L k).length) : (endsOf L k)[i] = st L (i + 1) := by simp [endsOf]
theorem ends_succ (L : List Int) (k : Nat) : (endsOf L (k + 1)).map iV = (endsOf L k).map iV ++ [iV (st L (k + 1))] := by
  unfold endsOf
  rw [List.range_succ, List.map_append, List.map_append]
  rfl
/-- bounds of these lengths; all that they hold lies at base or above -/
def BAt (w : World) (base b : Nat) (L : List Int) : Prop := ∃ (E : Option Addr) (c : Nat), base ≤ b ∧ Blk w b 80 #[.slice E L.length c] ∧ w.ownsRow base 3 1 (.slice E L.length c) L.length ((endsOf L L.length).map iV) ∧ Gd L
theorem BAt.from_ {w w' : World} {base b : Nat} {L : List Int} (h : BAt w base b L) (hF : From w w') : BAt w' base b L :=
  let ⟨E, c, h1, h2, h3, h4⟩ := h
  ⟨E, c, h1, h2.from_ hF, h3.kept_from hF, h4⟩
theorem BAt.grown {w w' : World} {base b : Nat} {L : List Int} {r : Option Nat} (h : BAt w base b L) (hg : w.grownBy w' r) (hne : ∀ k, r = some k → k < base) : BAt w' base b L :=
  let ⟨E, c, h1, h2, h3, h4⟩ := h
  ⟨E, c, h1, h2.grown hg (fun k hk => by have := hne k hk; omega), own_kept h3 hg hne, h4⟩
theorem BAt.le {w : World} {base base' b : Nat} {L : List Int} (h : BAt w base b L) (hb : base' ≤ base) : BAt w base' b L :=
  let ⟨E, c, h1, h2, h3, h4⟩ := h
  ⟨E, c, Nat.le_trans hb h1, h2, own_le h3 hb, h4⟩
def NewGot (w w' : World) (L : List Int) (v : Value) : Prop := (lensE L ≠ 0 ∧ v = .tuple #[.pointer none, .int .i64 (lensE L)]) ∨ (lensE L = 0 ∧ ∃ b, v = .tuple #[.pointer (some ⟨b, 0, none⟩), .int .i64 0] ∧ BAt w' w.heap.size b L)
set_option maxHeartbeats 1000000 in
theorem new_rt (A : Option Addr) (c : Nat) (L : List Int) (w : World) (hr : RowOf iV w A L) (hb64 : ∀ x ∈ L, -9223372036854775808 ≤ x ∧ x ≤ 9223372036854775807) (hl : L.length ≤ 1000000000000) :
    Rt Tryz.prog 29 [.slice A L.length c] w (fun v w' => NewGot w w' L v ∧ From w w') := by
  refine enter (n := 50) Tryz.func29 rfl rfl rfl ?_
  refine cd_seq (cd_region ?_)
  refine asp rfl ?_
  refine asi rfl ?_
  refine st_nil (nx_then (cd_seq (cd_seq (cd_region ?_))))
  refine mvs rfl ?_
  refine st_val (ro_len BndWalks_l68 rfl) ?_
  refine mvi rfl ?_
  refine st_nil (nx_then (cd_block ?_))
  refine cd_loop (G := Nat) [2, 3, 5, 13, 14, 15, 16, 17, 18] (fun k => [(12, .int .i64 (k : Nat))]) (fun k w' => k ≤ L.length ∧ (∀ i (h : i < L.length), i < k → 0 ≤ L[i]) ∧ From w w') (fun k => L.length - k) (0) ⟨rfl, trivial⟩ ?_ ?_
  · exact ⟨Nat.zero_le _, fun i h h0 => absurd h0 (by omega), From.rfl_⟩
  rintro k ρ1 w1 ⟨hk, hp, hB⟩
  refine cd_seq (cd_region ?_)
  refine st_val (ro_lss rfl rfl) ?_
  refine st_nil (nx_then (cd_seq ?_))
  refine cd_cond rfl (fun Q2 => ?_) (fun Q2 => ?_)
  · replace Q2 := of_decide_eq_true Q2
    obtain ⟨ba, oa, rfl, hca⟩ := hr (by omega)
    refine cd_skip (nx_then (cd_seq (cd_block (cd_seq (cd_region ?_)))))
    refine st_val (ro_indexAddr1 BndWalks_e68 rfl rfl (by omega)) ?_
    refine st_val (ro_load BndWalks_g3 rfl (by exact cellF hB (hca k (by omega)))) ?_
    refine asi rfl ?_
    refine st_nil (nx_then (cd_seq (cd_region ?_)))
    refine mvi rfl ?_
    refine st_val (ro_lss rfl rfl) ?_
    refine st_nil (nx_then ?_)
    refine cd_cond rfl (fun Q3 => ?_) (fun Q3 => ?_)
    · replace Q3 := of_decide_eq_true Q3
      refine cd_seq (cd_region ?_)
      refine asp rfl ?_
      refine asi rfl ?_
      refine st_nil (nx_then (cd_ret (rt_block (rt_then (rt_then (rt_block (rt_then ?_)))))))
      refine res2 (v := .pointer _) (v' := .int _ _) rfl rfl rfl ?_
      exact ⟨.inl ⟨by rw [lens1 (i := k) (by omega) (by omega)]; decide, by rw [lens1 (i := k) (by omega) (by omega)]⟩, hB⟩
    replace Q3 := of_decide_eq_false Q3
    refine cd_skip (nx_block (nx_then (cd_region ?_)))
    refine st_val (ro_addN (b := 1) rfl rfl (by omega)) ?_
    refine mvi rfl ?_
    refine st_nil ?_
    refine nx_cut (k + 1) ⟨(by first | rfl | (refine int_eq ?_; omega)), trivial⟩ (by (iterate 18 refine agr_cons rfl ?_); exact agr_rfl) ⟨?_, ?_⟩
    · refine ⟨by omega, fun i h hi => ?_, hB⟩
      rcases Nat.lt_or_ge i k with a | a
      · exact hp i h a
      · obtain rfl : i = k := by omega
        omega
    · omega
  replace Q2 := of_decide_eq_false Q2
  refine cd_exit ?_
  refine ex_then (ex_then (ex_block (nx_then (cd_seq (cd_seq (cd_region ?_))))))
  have hpos : ∀ i (h : i < L.length), 0 ≤ L[i] := fun i h => hp i h (by omega)
  refine mvs rfl ?_
  refine st_val (ro_len BndWalks_l68 rfl) ?_
  refine st_val (ro_gtr rfl rfl) ?_
  refine st_nil (nx_then ?_)
  refine cd_cond rfl (fun Q4 => ?_) (fun Q4 => ?_)
  · replace Q4 := of_decide_eq_true Q4
    refine cd_seq (cd_region ?_)
    refine asp rfl ?_
    refine asi rfl ?_
    refine st_nil (nx_then (cd_ret (rt_then ?_)))
    refine res2 (v := .pointer _) (v' := .int _ _) rfl rfl rfl ?_
    exact ⟨.inl ⟨by rw [lens2 hpos (by omega)]; decide, by rw [lens2 hpos (by omega)]⟩, hB⟩
  replace Q4 := of_decide_eq_false Q4
  refine cd_skip (nx_then (cd_seq (cd_region ?_)))
  refine st_val (ro_build (l := []) (BndWalks_b80_)) ?_
  refine st_box (v := .agg _) rfl ?_
  intro b23 w5 E23 hb23 hk23
  have hg23 : w.heap.size ≤ b23 := by rw [hb23]; exact (hB).size
  refine asp rfl ?_
  refine st_nil (nx_then (cd_seq (cd_region ?_)))
  refine asi rfl ?_
  refine st_nil (nx_then (cd_seq (cd_seq (cd_region ?_))))
  refine mvs rfl ?_
  refine st_val (ro_len BndWalks_l68 rfl) ?_
  refine mvi rfl ?_
  refine st_nil (nx_then (cd_block ?_))
  refine cd_loop (G := Nat × Option Addr × Nat) [2, 3, 9, 27, 28, 29, 30, 31, 32, 33, 34, 35, 36, 37, 38, 39, 40, 41, 42, 43, 44, 45, 46, 47, 48] (fun (k, E, c2) => [(26, .int .i64 (k : Nat)), (7, .int .i64 (st L k))]) (fun (k, E, c2) w' => k ≤ L.length ∧ (∀ i (h : i < L.length), i < k → L[i] < 131072 - st L i) ∧ Blk w' b23 80 #[.slice E k c2] ∧ w'.ownsRow w.heap.size 3 1 (.slice E k c2) k ((endsOf L k).map iV) ∧ From w w') (fun (k, _, _) => L.length - k) ((0, none, 0)) ⟨rfl, rfl, trivial⟩ ?_ ?_
  · exact ⟨Nat.zero_le _, fun i h h0 => absurd h0 (by omega), hk23, World.ownsRow_nil _ _ _ _, (hB.next E23)⟩
  rintro ⟨k, E, c2⟩ ρ6 w6 ⟨hk, hf, hV, ho, hB⟩
  have hst := st_part hpos k hk hf
  refine cd_seq (cd_region ?_)
  refine st_val (ro_lss rfl rfl) ?_
  refine st_nil (nx_then (cd_seq ?_))
  refine cd_cond rfl (fun Q7 => ?_) (fun Q7 => ?_)
  · replace Q7 := of_decide_eq_true Q7
    obtain ⟨ba, oa, rfl, hca⟩ := hr (by omega)
    have hpk := hpos k (by omega)
    refine cd_skip (nx_then (cd_seq (cd_block (cd_seq (cd_region ?_)))))
    refine st_val (ro_indexAddr1 BndWalks_e68 rfl rfl (by omega)) ?_
    refine st_val (ro_load BndWalks_g3 rfl (by exact cellF hB (hca k (by omega)))) ?_
    refine asi rfl ?_
    refine st_nil (nx_then (cd_seq (cd_seq (cd_region ?_))))
    refine mvi rfl ?_
    refine mvi rfl ?_
    refine st_val (ro_sub64 rfl rfl (by omega)) ?_
    refine st_val (ro_geq rfl rfl) ?_
    refine st_nil (nx_then ?_)
    refine cd_cond rfl (fun Q8 => ?_) (fun Q8 => ?_)
    · replace Q8 := of_decide_eq_true Q8
      refine cd_seq (cd_region ?_)
      refine asp rfl ?_
      refine asi rfl ?_
      refine st_nil (nx_then (cd_ret (rt_then (rt_block (rt_then (rt_then (rt_block (rt_then ?_))))))))
      refine res2 (v := .pointer _) (v' := .int _ _) rfl rfl rfl ?_
      exact ⟨.inl ⟨by rw [lens3 hpos (by omega) (i := k) (by omega) (by omega)]; decide, by rw [lens3 hpos (by omega) (i := k) (by omega) (by omega)]⟩, hB⟩
    replace Q8 := of_decide_eq_false Q8
    refine cd_skip (nx_then (cd_seq (cd_region ?_)))
    refine mvi rfl ?_
    refine mvi rfl ?_
    refine st_val (ro_add64 rfl rfl (by omega)) ?_
    refine st_val (ro_add64 rfl rfl (by omega)) ?_
    refine asi rfl ?_
    refine st_nil (nx_then (cd_region ?_))
    refine mvp rfl ?_
    refine mvp rfl ?_
    refine st_val (ro_nilCheck rfl) ?_
    refine st_val (ro_fieldAddr BndWalks_f80_0 rfl) ?_
    refine st_val (ro_load BndWalks_g68 rfl (by exact hV.rd 0 rfl)) ?_
    refine mvi rfl ?_
    refine st_lit1 (v := .int _ _) BndWalks_q68 rfl rfl rfl ?_
    intro b44 w9 E44 hb44 hk44
    refine st_push1 (a0 := w) BndWalks_q68 rfl rfl (ho.kept_from E44) (hB.next E44) rfl hk44 rfl (by omega) (by omega) ?_
    intro A45 c45 w10 ho45 B45 hg45
    replace hV := (hV.from_ E44).grown hg45 (own_off (ho.kept_from E44) (hV.from_ E44) (by decide))
    refine st_val (ro_nilCheck rfl) ?_
    refine st_val (ro_fieldAddr BndWalks_f80_0 rfl) ?_
    refine st_put (v := .slice _ _ _) BndWalks_z68 rfl rfl rfl (hV) (by simp) ?_
    intro w11 O17 P17
    refine st_nil (nx_block (nx_then (cd_region ?_)))
    refine st_val (ro_addN (b := 1) rfl rfl (by omega)) ?_
    refine mvi rfl ?_
    refine st_nil ?_
    refine nx_cut ((k + 1, A45, c45)) ⟨rfl, (int_eq (by rw [st_succ (by omega)]; omega)), trivial⟩ (by (iterate 52 refine agr_cons rfl ?_); exact agr_rfl) ⟨?_, ?_⟩
    · refine ⟨by omega, fun i h hi => ?_, by simpa using P17, ?_, (B45.only O17 (hg23))⟩
      · rcases Nat.lt_or_ge i k with a | a
        · exact hf i h a
        · obtain rfl : i = k := by omega
          omega
      · rw [ends_succ, st_succ (by omega), show st L k + L[k] + 1 = st L k + (L[k] + 1) by omega]
        exact own_only3 ho45 O17 (own_off ho45 hV (by decide))
    · show L.length - (k + 1) < L.length - k; omega
  replace Q7 := of_decide_eq_false Q7
  refine cd_exit ?_
  refine ex_then (ex_then (ex_block (nx_then (cd_seq (cd_region ?_)))))
  refine mvp rfl ?_
  refine asp rfl ?_
  refine asi rfl ?_
  refine st_nil (nx_then (cd_ret ?_))
  refine res2 (v := .pointer _) (v' := .int _ _) rfl rfl rfl ?_
  obtain rfl : k = L.length := by omega
  have hG : Gd L := ⟨hpos, by omega, fun i h => hf i h h⟩
  exact ⟨.inr ⟨lens0 hG, b23, rfl, E, c2, hg23, hV, ho, hG⟩, hB⟩
set_option maxHeartbeats 400000 in
theorem start_rt (base b : Nat) (L : List Int) (w : World) (hv : BAt w base b L) (i : Nat) (hi : i ≤ L.length) :
    Rt Tryz.prog 44 [.pointer (some ⟨b, 0, none⟩), .int .i64 (i : Nat)] w (fun v w' => v = .int .i64 (st L i) ∧ w = w') := by
  obtain ⟨E, ce, hb0, hV, ho, hG⟩ := hv
  have hGl := hG.len
  refine enter (n := 15) Tryz.func44 rfl rfl rfl ?_
  refine cd_seq (cd_region ?_)
  refine asi rfl ?_
  refine st_nil (nx_then (cd_seq (cd_seq (cd_region ?_))))
  refine mvi rfl ?_
  refine st_val (ro_eql rfl rfl) ?_
  refine st_nil (nx_then ?_)
  refine cd_cond rfl (fun Q1 => ?_) (fun Q1 => ?_)
  · replace Q1 := be_t Q1
    refine cd_seq (cd_region ?_)
    refine asi rfl ?_
    refine st_nil (nx_then (cd_ret (rt_then ?_)))
    refine res1 (v := .int _ _) rfl rfl ?_
    obtain rfl : i = 0 := by omega
    exact ⟨rfl, rfl⟩
  replace Q1 := be_f Q1
  refine cd_skip (nx_then (cd_seq (cd_region ?_)))
  obtain ⟨ge, rfl⟩ := own_some ho (by omega)
  refine mvp rfl ?_
  refine st_val (ro_nilCheck rfl) ?_
  refine st_val (ro_fieldAddr BndWalks_f80_0 rfl) ?_
  refine st_val (ro_load BndWalks_g68 rfl (by exact hV.rd 0 rfl)) ?_
  refine mvi rfl ?_
  refine st_val (ro_subN (b := 1) rfl rfl (by omega)) ?_
  refine st_val (ro_indexAddr0 BndWalks_e68 rfl rfl (by omega)) ?_
  refine st_val (ro_load BndWalks_g3 rfl (by exact own_cell ho (i - 1) (by rw [ends_len]; omega))) ?_
  refine st_spell (t := 14) (v := .int _ _) (v' := .int .i64 (st L i)) rfl (by rw [ends_at, show i - 1 + 1 = i by omega]) ?_
  refine asi rfl ?_
  refine st_nil (nx_then (cd_ret ?_))
  refine res1 (v := .int _ _) rfl rfl ?_
  exact ⟨rfl, rfl⟩
set_option maxHeartbeats 400000 in
theorem all_rt (base b : Nat) (L : List Int) (w : World) (hv : BAt w base b L) :
    Rt Tryz.prog 41 [.pointer (some ⟨b, 0, none⟩)] w (fun v w' => v = .int .i64 (st L L.length) ∧ w = w') := by
  have hvv := hv
  obtain ⟨E, ce, hb0, hV, ho, hG⟩ := hv
  refine enter (n := 10) Tryz.func41 rfl rfl rfl ?_
  refine cd_seq (cd_region ?_)
  refine asi rfl ?_
  refine st_nil (nx_then (cd_seq (cd_region ?_)))
  refine mvp rfl ?_
  refine mvp rfl ?_
  refine st_val (ro_nilCheck rfl) ?_
  refine st_val (ro_fieldAddr BndWalks_f80_0 rfl) ?_
  refine st_val (ro_load BndWalks_g68 rfl (by exact hV.rd 0 rfl)) ?_
  refine st_val (ro_len BndWalks_l68 rfl) ?_
  refine st_call BndWalks_k44 (start_rt base b L _ hvv L.length (Nat.le_refl _)) ?_
  rintro v9 w1 ⟨rfl, rfl⟩
  refine asi rfl ?_
  refine st_nil (nx_then (cd_ret ?_))
  refine res1 (v := .int _ _) rfl rfl ?_
  exact ⟨rfl, rfl⟩
def sV (L : List Int) (i : Int) : Int := if 0 ≤ i ∧ i < L.length then st L i.toNat else 0
def nV (L : List Int) (i : Int) : Int := if 0 ≤ i ∧ i < L.length then L.getD i.toNat 0 else 0
def sE (L : List Int) (i : Int) : Int := if 0 ≤ i ∧ i < L.length then 0 else 3
set_option maxHeartbeats 400000 in
theorem search_rt (n : Nat) (g : FuncId) (caps : List Value) (p : Nat → Bool) (w : World) (hn : n ≤ 1000000000000) (hcal : callable Tryz.prog g = true) (hp : ∀ w' h, From w w' → h < n → Rt Tryz.prog g ([.int .i64 (h : Nat)] ++ caps) w' fun v w'' => v = .bool (p h) ∧ From w' w'') (hm : ∀ i j, i ≤ j → p i = true → p j = true) :
    Rt Tryz.prog 42 [.int .i64 (n : Nat), .func (.func g) #[] caps.toArray] w (fun v w' => ∃ r : Nat, v = .int .i64 (r : Nat) ∧ r ≤ n ∧ (∀ x, x < r → p x = false) ∧ (∀ x, r ≤ x → x < n → p x = true) ∧ From w w') := by
  refine enter (n := 26) Tryz.func42 rfl rfl rfl ?_
  refine cd_seq (cd_region ?_)
  refine asi rfl ?_
  refine st_nil (nx_then (cd_seq (cd_region ?_)))
  refine mvi rfl ?_
  refine asi rfl ?_
  refine asi rfl ?_
  refine st_nil (nx_then (cd_seq (cd_block ?_)))
  refine cd_loop (G := Nat × Nat) [7, 9, 10, 11, 12, 13, 14, 15, 16, 17, 18, 19, 20, 21, 22, 23, 24] (fun (i, j) => [(5, .int .i64 (i : Nat)), (6, .int .i64 (j : Nat))]) (fun (i, j) w' => i ≤ j ∧ j ≤ n ∧ (∀ x, x < i → p x = false) ∧ (∀ x, j ≤ x → x < n → p x = true) ∧ From w w') (fun (i, j) => j - i) ((0, n)) ⟨rfl, rfl, trivial⟩ ?_ ?_
  · exact ⟨Nat.zero_le _, Nat.le_refl _, fun x h => absurd h (by omega), fun x h1 h2 => absurd h1 (by omega), From.rfl_⟩
  rintro ⟨i, j⟩ ρ1 w1 ⟨hij, hjn, hlo, hhi, hB⟩
  refine cd_seq (cd_seq (cd_region ?_))
  refine mvi rfl ?_
  refine mvi rfl ?_
  refine st_val (ro_lss rfl rfl) ?_
  refine st_nil (nx_then ?_)
  refine cd_cond rfl (fun Q2 => ?_) (fun Q2 => ?_)
  · replace Q2 := of_decide_eq_true Q2
    refine cd_skip (nx_then (cd_block (cd_seq (cd_region ?_))))
    refine mvi rfl ?_
    refine mvi rfl ?_
    refine st_val (ro_addN rfl rfl (by omega)) ?_
    obtain ⟨h, hh⟩ : ∃ h, h = (i + j) / 2 ^ 1 := ⟨_, rfl⟩
    refine st_val (ro_conv64 BndWalks_s3 BndWalks_i78 rfl (by omega)) ?_
    refine st_val (ro_shrN (b := 1) rfl rfl (by decide)) ?_
    refine st_val (ro_convI BndWalks_s78 BndWalks_i3 rfl (by omega)) ?_
    refine st_spell (t := 17) (v := .int _ _) (v' := .int .i64 (h : Nat)) rfl (by rw [hh]) ?_
    refine asi rfl ?_
    refine st_nil (nx_then (cd_seq (cd_region ?_)))
    refine st_val (ro_move (v := .func _ _ _) rfl) ?_
    refine mvi rfl ?_
    refine st_callF (caps := caps) rfl hcal (hp _ h hB (by omega)) ?_
    rintro v20 w3 ⟨rfl, E20⟩
    refine st_val (ro_not rfl) ?_
    refine st_nil (nx_then ?_)
    refine cd_cond rfl (fun Q4 => ?_) (fun Q4 => ?_)
    · replace Q4 := bn_t Q4
      refine cd_region ?_
      refine mvi rfl ?_
      refine st_val (ro_addN (b := 1) rfl rfl (by omega)) ?_
      refine asi rfl ?_
      refine st_nil (nx_block ?_)
      refine nx_cut ((h + 1, j)) ⟨(by first | rfl | (refine int_eq ?_; omega)), (by first | rfl | (refine int_eq ?_; omega)), trivial⟩ (by (iterate 37 refine agr_cons rfl ?_); exact agr_rfl) ⟨?_, ?_⟩
      · refine ⟨by omega, hjn, fun x hx => ?_, hhi, (hB.next E20)⟩
        rcases Nat.lt_or_ge x i with a | a
        · exact hlo x a
        · cases hb : p x with
          | false => rfl
          | true =>
            have := hm x h (by omega) hb
            simp_all
      · show j - (h + 1) < j - i; omega
    replace Q4 := bn_f Q4
    refine cd_region ?_
    refine mvi rfl ?_
    refine asi rfl ?_
    refine st_nil (nx_block ?_)
    refine nx_cut ((i, h)) ⟨(by first | rfl | (refine int_eq ?_; omega)), (by first | rfl | (refine int_eq ?_; omega)), trivial⟩ (by (iterate 36 refine agr_cons rfl ?_); exact agr_rfl) ⟨?_, ?_⟩
    · refine ⟨by omega, by omega, hlo, fun x h1 h2 => hm h x h1 ?_, (hB.next E20)⟩
      assumption
    · show h - i < j - i; omega
  replace Q2 := of_decide_eq_false Q2
  refine cd_exit ?_
  refine ex_then (ex_then (ex_block (nx_then (cd_seq (cd_region ?_)))))
  refine mvi rfl ?_
  refine asi rfl ?_
  refine st_nil (nx_then (cd_ret ?_))
  refine res1 (v := .int _ _) rfl rfl ?_
  obtain rfl : i = j := by omega
  exact ⟨i, rfl, hjn, hlo, hhi, hB⟩
set_option maxHeartbeats 400000 in
theorem where1_rt (base b p2 p3 i : Nat) (at_ : Int) (L : List Int) (w : World) (hv : BAt w base b L) (h2 : w.cell? ⟨p2, 0, none⟩ = some (.pointer (some ⟨b, 0, none⟩))) (h3 : w.cell? ⟨p3, 0, none⟩ = some (.int .i64 at_)) (hi : i < L.length) :
    Rt Tryz.prog 43 [.int .i64 (i : Nat), .pointer (some ⟨p2, 0, none⟩), .pointer (some ⟨p3, 0, none⟩)] w (fun v w' => v = .bool (decide (at_ < st L (i + 1))) ∧ From w w') := by
  obtain ⟨E, ce, hb0, hV, ho, hG⟩ := hv
  obtain ⟨ge, rfl⟩ := own_some ho (by omega)
  refine enter (n := 14) Tryz.func43 rfl rfl rfl ?_
  refine cd_seq (cd_region ?_)
  refine asb rfl ?_
  refine st_nil (nx_then (cd_seq ?_))
  apply cd_drawn 10 [(5, eqp _), (6, eqp _), (7, eqp _), (8, eqp _), (9, eqp _), (10, eqp _), (11, eqp _), (12, eqp _), (13, eqp _), (4, eqp _)] (by kernel_rfl) (by kernel_rfl) ⟨eqp_mono _, eqp_mono _, eqp_mono _, eqp_mono _, eqp_mono _, eqp_mono _, eqp_mono _, eqp_mono _, eqp_mono _, eqp_mono _, trivial⟩
  case hop =>
   refine ⟨?_, ?_⟩
   · intro w2 D2
     show OpOK _ _ _ _ _ _ _
     exact ok_pure (ro_load BndWalks_g48 rfl (by exact cellF (From.rfl_.next D2) h2)) rfl
   refine ⟨?_, ?_⟩
   · intro w3 D3
     rintro _ rfl
     show OpOK _ _ _ _ _ _ _
     exact ok_pure (ro_nilCheck rfl) rfl
   refine ⟨?_, ?_⟩
   · intro w4 D4
     rintro _ rfl
     show OpOK _ _ _ _ _ _ _
     exact ok_pure (ro_fieldAddr BndWalks_f80_0 rfl) rfl
   refine ⟨?_, ?_⟩
   · intro w5 D5
     rintro _ rfl
     show OpOK _ _ _ _ _ _ _
     exact ok_pure (ro_load BndWalks_g68 rfl (by exact (hV.from_ (From.rfl_.next D5)).rd 0 rfl)) rfl
   refine ⟨?_, ?_⟩
   · intro w6 D6
     show OpOK _ _ _ _ _ _ _
     exact ok_pure (ro_move (v := .int _ _) rfl) rfl
   refine ⟨?_, ?_⟩
   · intro w7 D7
     rintro _ rfl _ rfl
     show OpOK _ _ _ _ _ _ _
     exact ok_pure (ro_indexAddr0 BndWalks_e68 rfl rfl (by omega)) rfl
   refine ⟨?_, ?_⟩
   · intro w8 D8
     rintro _ rfl
     show OpOK _ _ _ _ _ _ _
     exact ok_pure (ro_load BndWalks_g3 rfl (by exact own_cell (ho.kept_from (From.rfl_.next D8)) i (by rw [ends_len]; omega))) rfl
   refine ⟨?_, ?_⟩
   · intro w9 D9
     show OpOK _ _ _ _ _ _ _
     exact ok_pure (ro_load BndWalks_g3 rfl (by exact cellF (From.rfl_.next D9) h3)) rfl
   refine ⟨?_, ?_⟩
   · intro w10 D10
     rintro _ rfl _ rfl
     show OpOK _ _ _ _ _ _ _
     exact ok_pure (ro_gtr rfl rfl) rfl
   refine ⟨?_, ?_⟩
   · intro w11 D11
     rintro _ rfl
     show OpOK _ _ _ _ _ _ _
     exact ok_pure (ro_assign (v := .bool _) rfl) rfl
   exact trivial
  case hend =>
   intro w12 D12
   rintro _ rfl _ rfl _ rfl _ rfl _ rfl _ rfl _ rfl _ rfl _ rfl _ rfl
   show St _ _ _ _ _ _ _
   refine st_nil (nx_then (cd_ret ?_))
   refine res1 (v := .bool _) rfl rfl ?_
   refine ⟨congrArg Value.bool (decide_eq_decide.2 ?_), (From.rfl_.next D12)⟩
   rw [ends_at]
set_option maxHeartbeats 1000000 in
theorem where_is (base b : Nat) (L : List Int) (w : World) (hv : BAt w base b L) (at_ : Int) (q : Nat) (hq : q < L.length) (h1 : st L q ≤ at_) (h2 : at_ < st L (q + 1)) :
    Rt Tryz.prog 32 [.pointer (some ⟨b, 0, none⟩), .int .i64 at_] w (fun v w' => v = .tuple #[.int .i64 (q : Nat), .int .i64 (at_ - st L q), .int .i64 0] ∧ From w w') := by
  have hvv := hv
  obtain ⟨E, ce, hb0, hV, ho, hG⟩ := hv
  have hs1 := hG.st (k := q) (by omega)
  have hs2 := hG.st (k := q + 1) (by omega)
  have hs3 := st_mono hG.pos (show q + 1 ≤ L.length by omega)
  refine enter (n := 28) Tryz.func32 rfl rfl rfl ?_
  refine cd_seq (cd_region ?_)
  refine st_box (v := .pointer _) rfl ?_
  intro b2 w1 E2 hb2 hk2
  have hq2 := hk2.lt
  refine st_box (v := .int _ _) rfl ?_
  intro b3 w2 E3 hb3 hk3
  replace hk2 := hk2.from_ E3
  refine asi rfl ?_
  refine asi rfl ?_
  refine asi rfl ?_
  refine st_nil (nx_then (cd_seq (cd_seq ?_)))
  have hz : (0 : Nat) = 0 := rfl
  apply cd_drawn 8 [(7, eqp _), (8, eqp _), (9, eqp _), (10, eqp _), (11, eqp _), (12, eqp _), (13, eqp _), (14, eqp _)] (by kernel_rfl) (by kernel_rfl) ⟨eqp_mono _, eqp_mono _, eqp_mono _, eqp_mono _, eqp_mono _, eqp_mono _, eqp_mono _, eqp_mono _, trivial⟩
  case hop =>
   refine ⟨?_, ?_⟩
   · intro w4 D4
     show OpOK _ _ _ _ _ _ _
     exact ok_pure (ro_load BndWalks_g3 rfl (by exact (hk3.from_ (From.rfl_.next D4)).rd 0 rfl)) rfl
   refine ⟨?_, ?_⟩
   · intro w5 D5
     rintro _ rfl
     show OpOK _ _ _ _ _ _ _
     exact ok_pure (ro_bf (ro_lss rfl rfl) (decide_eq_false (by omega))) rfl
   refine ⟨?_, ?_⟩
   · intro w6 D6
     rintro _ rfl
     show OpOK _ _ _ _ _ _ _
     exact ok_pure (ro_move (v := .bool _) rfl) rfl
   refine ⟨?_, ?_⟩
   · intro w7 D7
     rintro _ rfl
     show OpOK _ _ _ _ _ _ _
     exact ok_gpure rfl (ro_load BndWalks_g3 rfl (by exact (hk3.from_ (From.rfl_.next D7)).rd 0 rfl)) rfl
   refine ⟨?_, ?_⟩
   · intro w8 D8
     rintro _ rfl
     show OpOK _ _ _ _ _ _ _
     exact ok_gpure rfl (ro_load BndWalks_g48 rfl (by exact (hk2.from_ (From.rfl_.next D8)).rd 0 rfl)) rfl
   refine ⟨?_, ?_⟩
   · intro w9 D9
     rintro _ rfl _ rfl
     show OpOK _ _ _ _ _ _ _
     refine ok_gcall rfl BndWalks_k41 ((all_rt base b L _ (hvv.from_ (((From.rfl_.next E2).next E3).next D9))).mono ?_)
     rintro v _ ⟨rfl, rfl⟩; exact ⟨From.rfl_, rfl⟩
   refine ⟨?_, ?_⟩
   · intro w10 D10
     rintro _ rfl _ rfl _ rfl
     show OpOK _ _ _ _ _ _ _
     exact ok_gpure rfl (ro_geq rfl rfl) rfl
   refine ⟨?_, ?_⟩
   · intro w11 D11
     rintro _ rfl _ rfl
     show OpOK _ _ _ _ _ _ _
     exact ok_pure (ro_pickF (v := .bool _) rfl rfl) rfl
   exact trivial
  case hend =>
   intro w12 D12
   rintro _ rfl _ rfl _ rfl _ rfl _ rfl _ rfl _ rfl _ rfl
   show St _ _ _ _ _ _ _
   refine st_nil (nx_then ?_)
   refine cd_cond rfl (fun Q13 => ?_) (fun Q13 => ?_)
   · replace Q13 := of_decide_eq_true Q13
     exfalso; omega
   replace Q13 := of_decide_eq_false Q13
   refine cd_skip (nx_then (cd_seq (cd_region ?_)))
   refine st_val (ro_load BndWalks_g48 rfl (by exact (hk2.from_ (From.rfl_.next D12)).rd 0 rfl)) ?_
   refine st_val (ro_nilCheck rfl) ?_
   refine st_val (ro_fieldAddr BndWalks_f80_0 rfl) ?_
   refine st_val (ro_load BndWalks_g68 rfl (by exact (hV.from_ (((From.rfl_.next E2).next E3).next D12)).rd 0 rfl)) ?_
   refine st_val (ro_len BndWalks_l68 rfl) ?_
   refine st_val (ro_makeFunc (l1 := []) (l2 := [.tmp 2, .tmp 3])) ?_
   refine st_call BndWalks_k42 (search_rt L.length 43 [.pointer (some ⟨b2, 0, none⟩), .pointer (some ⟨b3, 0, none⟩)] (fun i => decide (at_ < st L (i + 1))) _ (by have := hG.len; omega) BndWalks_k43 (fun w2 h hF hh => where1_rt base b b2 b3 h at_ L w2 (hvv.from_ ((((From.rfl_.next E2).next E3).next D12).next hF)) (cellF ((From.rfl_.next D12).next hF) (hk2.rd 0 rfl)) (cellF ((From.rfl_.next D12).next hF) (hk3.rd 0 rfl)) hh) (fun i j hij hi => decide_eq_true (Int.lt_of_lt_of_le (of_decide_eq_true hi) (st_mono hG.pos (by omega))))) ?_
   rintro v21 w14 ⟨r, rfl, hrn, hlo, hhi, E21⟩
   obtain rfl : r = q := by
     rcases Nat.lt_trichotomy r q with a | a | a
     · have h5 := of_decide_eq_true (hhi r (Nat.le_refl _) (by omega))
       have h6 := st_mono hG.pos (show r + 1 ≤ q by omega)
       omega
     · exact a
     · have h5 := of_decide_eq_false (hlo q a)
       omega
   refine asi rfl ?_
   refine st_nil (nx_then (cd_seq ?_))
   apply cd_drawnD 9 [(22, eqp _), (23, eqp _), (24, eqp _), (25, eqp _), (26, eqp _), (27, eqp _), (4, eqp _), (5, eqp _), (6, eqp _)] (by repeat first | exact pq_body | refine pq_then ?_ | refine pq_block ?_) (by kernel_rfl) (by kernel_rfl) ⟨eqp_mono _, eqp_mono _, eqp_mono _, eqp_mono _, eqp_mono _, eqp_mono _, eqp_mono _, eqp_mono _, eqp_mono _, trivial⟩
   case hop =>
    refine ⟨?_, ?_⟩
    · rintro - w16 D16
      show OpOK _ _ _ _ _ _ _
      exact ok_pure (ro_move (v := .int _ _) rfl) rfl
    refine ⟨?_, ?_⟩
    · rintro - w17 D17
      show OpOK _ _ _ _ _ _ _
      exact ok_pure (ro_load BndWalks_g3 rfl (by exact (hk3.from_ (((From.rfl_.next D12).next E21).next D17)).rd 0 rfl)) rfl
    refine ⟨?_, ?_⟩
    · rintro - w18 D18
      show OpOK _ _ _ _ _ _ _
      exact ok_pure (ro_load BndWalks_g48 rfl (by exact (hk2.from_ (((From.rfl_.next D12).next E21).next D18)).rd 0 rfl)) rfl
    refine ⟨?_, ?_⟩
    · rintro - w19 D19
      show OpOK _ _ _ _ _ _ _
      exact ok_pure (ro_move (v := .int _ _) rfl) rfl
    refine ⟨?_, ?_⟩
    · rintro - w20 D20
      rintro _ rfl _ rfl
      show OpOK _ _ _ _ _ _ _
      refine ok_call BndWalks_k44 ((start_rt base b L _ (hvv.from_ (((((From.rfl_.next E2).next E3).next D12).next E21).next D20)) r (by omega)).mono ?_)
      rintro v _ ⟨rfl, rfl⟩; exact ⟨From.rfl_, rfl⟩
    refine ⟨?_, ?_⟩
    · rintro - w21 D21
      rintro _ rfl _ rfl
      show OpOK _ _ _ _ _ _ _
      exact ok_pure (ro_sub64 rfl rfl (by omega)) rfl
    refine ⟨?_, ?_⟩
    · rintro - w22 D22
      rintro _ rfl
      show OpOK _ _ _ _ _ _ _
      exact ok_pure (ro_assign (v := .int _ _) rfl) rfl
    refine ⟨?_, ?_⟩
    · rintro - w23 D23
      rintro _ rfl
      show OpOK _ _ _ _ _ _ _
      exact ok_pure (ro_assign (v := .int _ _) rfl) rfl
    refine ⟨?_, ?_⟩
    · rintro - w24 D24
      show OpOK _ _ _ _ _ _ _
      exact ok_pure (ro_assign (v := .int _ _) rfl) rfl
    exact trivial
   case hend =>
    intro w25 D25
    rintro _ rfl _ rfl _ rfl _ rfl _ rfl _ rfl _ rfl _ rfl _ rfl
    show St _ _ _ _ _ _ _
    refine st_nil (nx_then (cd_ret ?_))
    refine res3 (v := .int _ _) (v' := .int _ _) (v'' := .int _ _) rfl rfl rfl rfl ?_
    exact ⟨rfl, (((((From.rfl_.next E2).next E3).next D12).next E21).next D25)⟩
end Bd
end Go.Proofs.YtllmocjfllbbfaaGreat

namespace Go.Proofs.YtllmocjfllbbfaaGreat
open Go.RowKit
open Go.ChangeShapes Go.WideShapes Go.ChangeAt
open Go.Proofs.YtllmocjfllbbfaaGreat.SA
theorem SegWalks_e68 : elemQ Tryz.prog 68 = some (3, 1) := by kernel_rfl
theorem SegWalks_m68 : makeQ Tryz.prog 68 = some (3, 8, (.int .i64 0)) := by kernel_rfl
theorem SegWalks_s5 : (Tryz.prog.underlying 5).isSome = true := by kernel_rfl
theorem SegWalks_i3 : Tryz.prog.underlying 3 = some (.int .i64) := by kernel_rfl
theorem SegWalks_z3 : sizeQ Tryz.prog 3 = some 1 := by kernel_rfl
theorem SegWalks_g9 : aggQ Tryz.prog 9 = some false := by kernel_rfl
theorem SegWalks_l22 : (elemQ Tryz.prog 22).isSome = true := by kernel_rfl
theorem SegWalks_e22 : elemQ Tryz.prog 22 = some (40, 2) := by kernel_rfl
theorem SegWalks_g40 : aggQ Tryz.prog 40 = some true := by kernel_rfl
theorem SegWalks_z40 : sizeQ Tryz.prog 40 = some 2 := by kernel_rfl
theorem SegWalks_o40 : zeroQ Tryz.prog 40 = some (.agg #[.string ⟨#[]⟩, .string ⟨#[]⟩]) := by kernel_rfl
theorem SegWalks_f40_0 : fieldQ Tryz.prog 40 0 = some 0 := by kernel_rfl
theorem SegWalks_f40_1 : fieldQ Tryz.prog 40 1 = some 1 := by kernel_rfl
theorem SegWalks_q22 : litQ Tryz.prog 22 = some (40, 2, 32, (.agg #[.string ⟨#[]⟩, .string ⟨#[]⟩])) := by kernel_rfl
theorem SegWalks_u22 : Tryz.prog.underlying 22 = some (.slice 40) := by kernel_rfl
theorem SegWalks_k25 : callable Tryz.prog 25 = true := by kernel_rfl
theorem SegWalks_kcmp : callable Tryz.prog 24 = true := by kernel_rfl
theorem SegWalks_s3 : (Tryz.prog.underlying 3).isSome = true := by kernel_rfl
theorem SegWalks_i78 : Tryz.prog.underlying 78 = some (.int .u64) := by kernel_rfl
theorem SegWalks_s78 : (Tryz.prog.underlying 78).isSome = true := by kernel_rfl
def dd : Dc := (⟨#[]⟩, ⟨#[]⟩)
theorem getD_get {ds : List Dc} {i : Nat} (h : i < ds.length) : ds.getD i dd = ds[i] := by rw [List.getD_eq_getElem?_getD, List.getElem?_eq_getElem h]; rfl
/-- may this be the name at this place? -/
def okI (ds : List Dc) (i : Nat) : Prop := 1 ≤ (ds.getD i dd).1.size ∧ (ds.getD i dd).1.size ≤ 64 ∧ (0 < i → sLt (ds.getD (i - 1) dd).1 (ds.getD i dd).1)
def DOrd (ds : List Dc) : Prop := ∀ i, i < ds.length → okI ds i
def DFit (ds : List Dc) : Prop := ds.length ≤ 64 ∧ (∀ d ∈ ds, d.2.size ≤ 2048) ∧ dsz ds ≤ 16384
open Classical in
/-- what is wrong with documents -/
noncomputable def docE (ds : List Dc) : Int := if DOrd ds then (if DFit ds then 0 else 2) else 1
theorem doc_0 {ds : List Dc} (h : DOrd ds) (k : DFit ds) : docE ds = 0 := by unfold docE; rw [if_pos h, if_pos k]
theorem doc_1 {ds : List Dc} (h : ¬ DOrd ds) : docE ds = 1 := by unfold docE; rw [if_neg h]
theorem doc_2 {ds : List Dc} (h : DOrd ds) (k : ¬ DFit ds) : docE ds = 2 := by unfold docE; rw [if_pos h, if_neg k]
theorem DOrd.lt {ds : List Dc} (h : DOrd ds) : ∀ {i j : Nat}, i < j → j < ds.length → sLt (ds.getD i dd).1 (ds.getD j dd).1
  | i, j + 1, hij, hj => by
    have h1 := (h (j + 1) hj).2.2 (by omega)
    rw [show j + 1 - 1 = j by omega] at h1
    rcases Nat.eq_or_lt_of_le (Nat.le_of_lt_succ hij) with e | e
    · subst e; exact h1
    · exact sLt_trans (h.lt e (by omega)) h1
theorem DOrd.inj {ds : List Dc} (h : DOrd ds) {i j : Nat} (hi : i < ds.length) (hj : j < ds.length) (e : (ds.getD i dd).1 = (ds.getD j dd).1) : i = j := by
  rcases Nat.lt_trichotomy i j with a | a | a
  · have := h.lt a hj; rw [e] at this; exact absurd this (sLt_irrefl _)
  · exact a
  · have := h.lt a hi; rw [e] at this; exact absurd this (sLt_irrefl _)
theorem dsz_take {ds : List Dc} {i : Nat} (h : i < ds.length) : dsz (ds.take (i + 1)) = dsz (ds.take i) + (ds.getD i dd).2.size := by
  rw [List.take_succ_eq_append_getElem h, dsz_app, getD_get h]
  simp [dsz]
theorem dsz_le {ds : List Dc} (i : Nat) : dsz (ds.take i) ≤ dsz ds := by
  have := dsz_app (ds.take i) (ds.drop i)
  rw [List.take_append_drop] at this
  omega
/-- symbols of a text, as far as they are laid -/
def syT (s : ByteArray) (k i : Nat) : Int := if i < k then (((txt s).getD i 0 : Nat) : Int) else 0
theorem syT_put {s : ByteArray} {k i : Nat} : upd (syT s k) k (((txt s).getD k 0 : Nat) : Int) i = syT s (k + 1) i := by
  unfold upd syT
  split
  · rename_i e; subst e; rw [if_pos (by omega)]
  · rename_i e
    by_cases h : i < k
    · rw [if_pos h, if_pos (by omega)]
    · rw [if_neg h, if_neg (by omega)]
theorem syT_zero {s : ByteArray} (i : Nat) : (0 : Int) = syT s 0 i := rfl
theorem syT_row {w : World} {g : Nat} {s : ByteArray} (h : Blk w g 3 (tabI s.size (syT s s.size))) : RowOf iV w (some ⟨g, 0, none⟩) (cI (txt s)) := fun _ => ⟨g, 0, rfl, fun i hi => by
  have hi2 : i < s.size := by rw [cI, List.length_map, txt_len] at hi; exact hi
  have e : (cI (txt s))[i] = syT s s.size i := by
    unfold syT
    rw [if_pos hi2, List.getD_eq_getElem?_getD, List.getElem?_eq_getElem (by rw [txt_len]; exact hi2)]
    simp [cI]
  rw [e, Nat.zero_add]
  exact h.rd i (tabI_at hi2)⟩
set_option maxHeartbeats 400000 in
theorem symb_rt (s : ByteArray) (w : World) (hs : s.size ≤ 1000000) :
    Rt Tryz.prog 28 [.string s] w (fun v w' => (∃ g, v = .slice (some ⟨g, 0, none⟩) s.size s.size ∧ w.heap.size ≤ g ∧ Blk w' g 3 (tabI s.size (syT s s.size))) ∧ From w w') := by
  refine enter (n := 23) Tryz.func28 rfl rfl rfl ?_
  refine cd_seq (cd_region ?_)
  refine ass rfl ?_
  refine st_nil (nx_then (cd_seq (cd_region ?_)))
  refine mvg rfl ?_
  refine st_val (ro_lenS (by kernel_rfl) rfl) ?_
  refine st_make SegWalks_m68 rfl rfl rfl (by omega) (by omega) ?_
  intro b7 w1 E7 hb7 hk7
  have hg7 : w.heap.size ≤ b7 := by rw [hb7]; exact (From.rfl_).size
  refine ass rfl ?_
  refine st_nil (nx_then (cd_seq (cd_seq (cd_region ?_))))
  refine mvg rfl ?_
  refine st_val (ro_lenS (by kernel_rfl) rfl) ?_
  refine mvi rfl ?_
  refine st_nil (nx_then (cd_block ?_))
  refine cd_loop (G := Nat) [4, 11, 12, 13, 14, 15, 16, 17, 18, 19, 20, 21] (fun k => [(10, .int .i64 (k : Nat))]) (fun k w' => k ≤ s.size ∧ Blk w' b7 3 (tabI s.size (syT s k)) ∧ From w w') (fun k => s.size - k) (0) ⟨rfl, trivial⟩ ?_ ?_
  · exact ⟨Nat.zero_le _, by rw [← tabI_congr (fun i _ => syT_zero i), ← tabI_zero]; exact hk7, (From.rfl_.next E7)⟩
  rintro k ρ2 w2 ⟨hk, hT9, hB⟩
  refine cd_seq (cd_region ?_)
  refine st_val (ro_lss rfl rfl) ?_
  refine st_nil (nx_then (cd_seq ?_))
  refine cd_cond rfl (fun Q3 => ?_) (fun Q3 => ?_)
  · with_reducible replace Q3 := of_decide_eq_true Q3
    obtain ⟨u, hu, htu, _⟩ := str_at (s := s) (i := k) (by omega)
    have hub := u.toNat_lt
    refine cd_skip (nx_then (cd_seq (cd_block (cd_seq (cd_region ?_)))))
    refine mvi rfl ?_
    refine asi rfl ?_
    refine st_nil (nx_then (cd_region ?_))
    refine mvs rfl ?_
    refine mvi rfl ?_
    refine mvg rfl ?_
    refine mvi rfl ?_
    refine st_val (ro_indexS (by kernel_rfl) rfl rfl (by omega) hu) ?_
    refine st_val (ro_convI SegWalks_s5 SegWalks_i3 rfl (by omega)) ?_
    refine st_val (ro_addN (b := 1) rfl rfl (by omega)) ?_
    refine st_spell (t := 19) (v := .int _ _) (v' := .int .i64 (((txt s).getD k 0 : Nat) : Int)) rfl (by rw [htu]) ?_
    refine st_val (ro_indexAddr1 SegWalks_e68 rfl rfl (by omega)) ?_
    refine st_put (v := .int _ _) SegWalks_z3 rfl rfl rfl ((hT9.from_ From.rfl_)) (by rw [tabI_size]; omega) ?_
    intro w4 O5 P5
    refine st_nil (nx_block (nx_then (cd_region ?_)))
    refine st_val (ro_addN (b := 1) rfl rfl (by omega)) ?_
    refine mvi rfl ?_
    refine st_nil ?_
    refine nx_cut (k + 1) ⟨(by first | rfl | (refine int_eq ?_; omega)), trivial⟩ (by (iterate 27 refine agr_cons rfl ?_); exact agr_rfl) ⟨?_, ?_⟩
    · exact ⟨by omega, by have h9 := P5; rw [Nat.zero_add] at h9; rw [← tabI_congr (fun i _ => syT_put), ← tabI_set]; exact h9, (hB.only O5 (hg7))⟩
    · show s.size - (k + 1) < s.size - k; omega
  with_reducible replace Q3 := of_decide_eq_false Q3
  refine cd_exit ?_
  refine ex_then (ex_then (ex_block (nx_then (cd_seq (cd_region ?_)))))
  refine mvs rfl ?_
  refine ass rfl ?_
  refine st_nil (nx_then (cd_ret ?_))
  refine res1 (v := .slice _ _ _) rfl rfl ?_
  obtain rfl : k = s.size := by omega
  exact ⟨⟨b7, rfl, hg7, hT9⟩, hB⟩
set_option maxHeartbeats 2000000 in
theorem ordered_rt (A : Option Addr) (c n : Nat) (ds : List Dc) (w : World) (hr : RowK 2 dV w A ds) (hn : n = ds.length) (hl : n ≤ 100000000) :
    Rt Tryz.prog 26 [.slice A n c] w (fun v w' => (∃ b : Bool, v = .bool b ∧ (b = true ↔ DOrd ds)) ∧ From w w') := by
  refine enter (n := 38) Tryz.func26 rfl rfl rfl ?_
  refine cd_seq (cd_region ?_)
  refine asb rfl ?_
  refine st_nil (nx_then (cd_seq (cd_seq (cd_region ?_))))
  refine mvs rfl ?_
  refine st_val (ro_len SegWalks_l22 rfl) ?_
  refine mvi rfl ?_
  refine st_nil (nx_then (cd_block ?_))
  refine cd_loop (G := Nat) [2, 3, 4, 8, 9, 10, 11, 12, 13, 14, 15, 16, 17, 18, 19, 20, 21, 22, 23, 24, 25, 26, 27, 28, 29, 30, 31, 32, 33, 34, 35, 36, 37] (fun i => [(7, .int .i64 (i : Nat))]) (fun i w' => i ≤ ds.length ∧ (∀ x, x < i → okI ds x) ∧ From w w') (fun i => ds.length - i) (0) ⟨rfl, trivial⟩ ?_ ?_
  · exact ⟨Nat.zero_le _, fun x h => absurd h (by omega), From.rfl_⟩
  rintro i ρ1 w1 ⟨hi, hok, hB⟩
  refine cd_seq (cd_region ?_)
  refine st_val (ro_lss rfl rfl) ?_
  refine st_nil (nx_then (cd_seq ?_))
  refine cd_cond rfl (fun Q2 => ?_) (fun Q2 => ?_)
  · with_reducible replace Q2 := of_decide_eq_true Q2
    obtain ⟨bd, od, rfl, hcd⟩ := hr (by omega)
    have hil : i < ds.length := by omega
    have hce := hcd i hil
    obtain ⟨d, hd⟩ : ∃ d, ds[i] = d := ⟨_, rfl⟩
    have hdi : ds.getD i dd = d := by rw [getD_get hil, hd]
    rw [hd] at hce
    have hcp : 0 < i → w.cell? ⟨bd, od + (i - 1) * 2 + 0, none⟩ = some (.string (ds.getD (i - 1) dd).1) := fun h => by
      have h2 := hcd (i - 1) (by omega)
      rw [← getD_get (show i - 1 < ds.length by omega)] at h2
      exact h2 0 _ rfl
    refine cd_skip (nx_then (cd_seq (cd_block (cd_seq (cd_region ?_)))))
    refine mvi rfl ?_
    refine st_val (ro_indexAddrN SegWalks_e22 rfl rfl (by omega)) ?_
    refine st_val (ro_loadA (cs := [_, _]) SegWalks_g40 SegWalks_z40 rfl (by exact rangeF hB hce)) ?_
    refine st_alloc SegWalks_o40 ?_
    intro b4 w3 E4 hb4 hk4
    have hg4 : w.heap.size ≤ b4 := by rw [hb4]; exact (hB).size
    refine asi rfl ?_
    refine st_putW (vs := [_, _]) SegWalks_z40 rfl rfl (by simp [Value.oneCell']) (hk4) rfl ?_
    intro w4 O3 P3
    replace P3 : Blk w4 b4 40 #[.string (ds.getD i dd).1, .string (ds.getD i dd).2] := by rw [hdi]; exact P3
    refine st_nil (nx_then (cd_seq ?_))
    have hsp : (ds.getD i dd).1.size < 1 ∨ (1 ≤ (ds.getD i dd).1.size ∧ 64 < (ds.getD i dd).1.size) ∨ (1 ≤ (ds.getD i dd).1.size ∧ (ds.getD i dd).1.size ≤ 64 ∧ i = 0) ∨ (1 ≤ (ds.getD i dd).1.size ∧ (ds.getD i dd).1.size ≤ 64 ∧ 0 < i) := by omega
    rcases hsp with hc1 | ⟨hc1, hc2⟩ | ⟨hc1, hc2, hc3⟩ | ⟨hc1, hc2, hc3⟩
    · apply cd_drawnD 25 [(12, eqp _), (13, eqp (.string (ds.getD i dd).1)), (14, eqp _), (15, eqp _), (16, eqp _), (17, eqp _), (18, eqp _), (19, eqp _), (20, eqp _), (21, eqp _), (22, eqp _), (23, eqp _), (24, eqp _), (25, eqp _), (26, eqp _), (27, eqp _), (28, eqp _), (29, eqp _), (30, eqp _), (31, eqp _), (32, eqp _), (33, eqp _), (34, eqp _), (35, eqp _), (36, eqp _)] (by repeat first | exact pq_body | refine pq_then ?_ | refine pq_block ?_) (by kernel_rfl) (by kernel_rfl) ⟨eqp_mono _, eqp_mono _, eqp_mono _, eqp_mono _, eqp_mono _, eqp_mono _, eqp_mono _, eqp_mono _, eqp_mono _, eqp_mono _, eqp_mono _, eqp_mono _, eqp_mono _, eqp_mono _, eqp_mono _, eqp_mono _, eqp_mono _, eqp_mono _, eqp_mono _, eqp_mono _, eqp_mono _, eqp_mono _, eqp_mono _, eqp_mono _, eqp_mono _, trivial⟩
      case hop =>
       refine ⟨?_, ?_⟩
       · rintro - w6 D6
         show OpOK _ _ _ _ _ _ _
         exact ok_pure (ro_fieldAddr SegWalks_f40_0 rfl) rfl
       refine ⟨?_, ?_⟩
       · rintro - w7 D7
         rintro _ rfl
         show OpOK _ _ _ _ _ _ _
         exact ok_pure (ro_load (v := .string (ds.getD i dd).1) SegWalks_g9 rfl ((P3.from_ D7).rd 0 rfl)) rfl
       refine ⟨?_, ?_⟩
       · rintro - w8 D8
         rintro v8_13 rfl
         show OpOK _ _ _ _ _ _ _
         exact ok_pure (ro_lenS (by kernel_rfl) rfl) rfl
       refine ⟨?_, ?_⟩
       · rintro - w9 D9
         rintro _ rfl
         show OpOK _ _ _ _ _ _ _
         exact ok_pure (ro_bt (ro_lss rfl rfl) (decide_eq_true (by omega))) rfl
       refine ⟨?_, ?_⟩
       · rintro - w10 D10
         rintro _ rfl
         show OpOK _ _ _ _ _ _ _
         exact ok_pure (ro_move (v := .bool _) rfl) rfl
       refine ⟨?_, ?_⟩
       · rintro - w11 D11
         rintro _ rfl
         show OpOK _ _ _ _ _ _ _
         exact ok_gno rfl rfl rfl
       refine ⟨?_, ?_⟩
       · rintro - w12 D12
         rintro _ rfl _ rfl
         show OpOK _ _ _ _ _ _ _
         exact ok_gno rfl rfl rfl
       refine ⟨?_, ?_⟩
       · rintro - w13 D13
         rintro _ rfl _ rfl
         show OpOK _ _ _ _ _ _ _
         exact ok_gno rfl rfl rfl
       refine ⟨?_, ?_⟩
       · rintro - w14 D14
         rintro _ rfl _ rfl
         show OpOK _ _ _ _ _ _ _
         exact ok_gno rfl rfl rfl
       refine ⟨?_, ?_⟩
       · rintro - w15 D15
         rintro _ rfl _ rfl
         show OpOK _ _ _ _ _ _ _
         exact ok_pure (ro_pickT (v := .bool _) rfl rfl) rfl
       refine ⟨?_, ?_⟩
       · rintro - w16 D16
         rintro _ rfl
         show OpOK _ _ _ _ _ _ _
         exact ok_pure (ro_move (v := .bool _) rfl) rfl
       refine ⟨?_, ?_⟩
       · rintro - w17 D17
         rintro _ rfl
         show OpOK _ _ _ _ _ _ _
         exact ok_gno rfl rfl rfl
       refine ⟨?_, ?_⟩
       · rintro - w18 D18
         rintro _ rfl _ rfl
         show OpOK _ _ _ _ _ _ _
         exact ok_gno rfl rfl rfl
       refine ⟨?_, ?_⟩
       · rintro - w19 D19
         rintro _ rfl _ rfl
         show OpOK _ _ _ _ _ _ _
         exact ok_gno rfl rfl rfl
       refine ⟨?_, ?_⟩
       · rintro - w20 D20
         rintro _ rfl
         show OpOK _ _ _ _ _ _ _
         exact ok_gund rfl rfl
       refine ⟨?_, ?_⟩
       · rintro - w21 D21
         rintro _ rfl
         show OpOK _ _ _ _ _ _ _
         exact ok_gund rfl rfl
       refine ⟨?_, ?_⟩
       · rintro - w22 D22
         rintro _ rfl _ rfl
         show OpOK _ _ _ _ _ _ _
         exact ok_gund rfl rfl
       refine ⟨?_, ?_⟩
       · rintro - w23 D23
         rintro _ rfl _ rfl _ rfl
         show OpOK _ _ _ _ _ _ _
         exact ok_gund rfl rfl
       refine ⟨?_, ?_⟩
       · rintro - w24 D24
         rintro _ rfl _ rfl
         show OpOK _ _ _ _ _ _ _
         exact ok_gund rfl rfl
       refine ⟨?_, ?_⟩
       · rintro - w25 D25
         rintro _ rfl _ rfl
         show OpOK _ _ _ _ _ _ _
         exact ok_gund rfl rfl
       refine ⟨?_, ?_⟩
       · rintro - w26 D26
         rintro _ rfl
         show OpOK _ _ _ _ _ _ _
         exact ok_gund rfl rfl
       refine ⟨?_, ?_⟩
       · rintro - w27 D27
         rintro _ rfl _ rfl
         show OpOK _ _ _ _ _ _ _
         exact ok_gund rfl rfl
       refine ⟨?_, ?_⟩
       · rintro - w28 D28
         rintro _ rfl _ rfl _ rfl
         show OpOK _ _ _ _ _ _ _
         exact ok_gund rfl rfl
       refine ⟨?_, ?_⟩
       · rintro - w29 D29
         rintro _ rfl _ rfl _ rfl
         show OpOK _ _ _ _ _ _ _
         exact ok_gno rfl rfl rfl
       refine ⟨?_, ?_⟩
       · rintro - w30 D30
         rintro _ rfl _ rfl
         show OpOK _ _ _ _ _ _ _
         exact ok_pure (ro_pickT (v := .bool _) rfl rfl) rfl
       exact trivial
      case hend =>
       intro w31 D31
       rintro _ rfl v13 rfl _ rfl _ rfl _ rfl _ rfl _ rfl _ rfl _ rfl _ rfl _ rfl _ rfl _ rfl _ rfl _ rfl _ rfl _ rfl _ rfl _ rfl _ rfl _ rfl _ rfl _ rfl _ rfl _ rfl
       show St _ _ _ _ _ _ _
       refine st_nil (nx_then ?_)
       refine cd_condT rfl ?_
       refine cd_seq (cd_region ?_)
       refine asb rfl ?_
       refine st_nil (nx_then (cd_ret (rt_block (rt_then (rt_then (rt_block (rt_then ?_)))))))
       refine res1 (v := .bool _) rfl rfl ?_
       refine ⟨⟨false, rfl, fun h => (by cases h), fun h => ?_⟩, (((hB.next E4).only O3 (hg4)).next D31)⟩
       obtain ⟨x1, x2, x3⟩ := h i hil
       exfalso
       first
         | omega
         | exact hnl (x3 (by omega))
    · apply cd_drawnD 25 [(12, eqp _), (13, eqp (.string (ds.getD i dd).1)), (14, eqp _), (15, eqp _), (16, eqp _), (17, eqp _), (18, eqp (.string (ds.getD i dd).1)), (19, eqp _), (20, eqp _), (21, eqp _), (22, eqp _), (23, eqp _), (24, eqp _), (25, eqp _), (26, eqp _), (27, eqp _), (28, eqp _), (29, eqp _), (30, eqp _), (31, eqp _), (32, eqp _), (33, eqp _), (34, eqp _), (35, eqp _), (36, eqp _)] (by repeat first | exact pq_body | refine pq_then ?_ | refine pq_block ?_) (by kernel_rfl) (by kernel_rfl) ⟨eqp_mono _, eqp_mono _, eqp_mono _, eqp_mono _, eqp_mono _, eqp_mono _, eqp_mono _, eqp_mono _, eqp_mono _, eqp_mono _, eqp_mono _, eqp_mono _, eqp_mono _, eqp_mono _, eqp_mono _, eqp_mono _, eqp_mono _, eqp_mono _, eqp_mono _, eqp_mono _, eqp_mono _, eqp_mono _, eqp_mono _, eqp_mono _, eqp_mono _, trivial⟩
      case hop =>
       refine ⟨?_, ?_⟩
       · rintro - w33 D33
         show OpOK _ _ _ _ _ _ _
         exact ok_pure (ro_fieldAddr SegWalks_f40_0 rfl) rfl
       refine ⟨?_, ?_⟩
       · rintro - w34 D34
         rintro _ rfl
         show OpOK _ _ _ _ _ _ _
         exact ok_pure (ro_load (v := .string (ds.getD i dd).1) SegWalks_g9 rfl ((P3.from_ D34).rd 0 rfl)) rfl
       refine ⟨?_, ?_⟩
       · rintro - w35 D35
         rintro v35_13 rfl
         show OpOK _ _ _ _ _ _ _
         exact ok_pure (ro_lenS (by kernel_rfl) rfl) rfl
       refine ⟨?_, ?_⟩
       · rintro - w36 D36
         rintro _ rfl
         show OpOK _ _ _ _ _ _ _
         exact ok_pure (ro_bf (ro_lss rfl rfl) (decide_eq_false (by omega))) rfl
       refine ⟨?_, ?_⟩
       · rintro - w37 D37
         rintro _ rfl
         show OpOK _ _ _ _ _ _ _
         exact ok_pure (ro_move (v := .bool _) rfl) rfl
       refine ⟨?_, ?_⟩
       · rintro - w38 D38
         rintro _ rfl
         show OpOK _ _ _ _ _ _ _
         exact ok_gpure rfl (ro_fieldAddr SegWalks_f40_0 rfl) rfl
       refine ⟨?_, ?_⟩
       · rintro - w39 D39
         rintro _ rfl _ rfl
         show OpOK _ _ _ _ _ _ _
         exact ok_gpure rfl (ro_load (v := .string (ds.getD i dd).1) SegWalks_g9 rfl ((P3.from_ D39).rd 0 rfl)) rfl
       refine ⟨?_, ?_⟩
       · rintro - w40 D40
         rintro _ rfl v40_18 rfl
         show OpOK _ _ _ _ _ _ _
         exact ok_gpure rfl (ro_lenS (by kernel_rfl) rfl) rfl
       refine ⟨?_, ?_⟩
       · rintro - w41 D41
         rintro _ rfl _ rfl
         show OpOK _ _ _ _ _ _ _
         exact ok_gpure rfl (ro_bt (ro_gtr rfl rfl) (decide_eq_true (by omega))) rfl
       refine ⟨?_, ?_⟩
       · rintro - w42 D42
         rintro _ rfl _ rfl
         show OpOK _ _ _ _ _ _ _
         exact ok_pure (ro_pickF (v := .bool _) rfl rfl) rfl
       refine ⟨?_, ?_⟩
       · rintro - w43 D43
         rintro _ rfl
         show OpOK _ _ _ _ _ _ _
         exact ok_pure (ro_move (v := .bool _) rfl) rfl
       refine ⟨?_, ?_⟩
       · rintro - w44 D44
         rintro _ rfl
         show OpOK _ _ _ _ _ _ _
         exact ok_gno rfl rfl rfl
       refine ⟨?_, ?_⟩
       · rintro - w45 D45
         rintro _ rfl _ rfl
         show OpOK _ _ _ _ _ _ _
         exact ok_gno rfl rfl rfl
       refine ⟨?_, ?_⟩
       · rintro - w46 D46
         rintro _ rfl _ rfl
         show OpOK _ _ _ _ _ _ _
         exact ok_gno rfl rfl rfl
       refine ⟨?_, ?_⟩
       · rintro - w47 D47
         rintro _ rfl
         show OpOK _ _ _ _ _ _ _
         exact ok_gund rfl rfl
       refine ⟨?_, ?_⟩
       · rintro - w48 D48
         rintro _ rfl
         show OpOK _ _ _ _ _ _ _
         exact ok_gund rfl rfl
       refine ⟨?_, ?_⟩
       · rintro - w49 D49
         rintro _ rfl _ rfl
         show OpOK _ _ _ _ _ _ _
         exact ok_gund rfl rfl
       refine ⟨?_, ?_⟩
       · rintro - w50 D50
         rintro _ rfl _ rfl _ rfl
         show OpOK _ _ _ _ _ _ _
         exact ok_gund rfl rfl
       refine ⟨?_, ?_⟩
       · rintro - w51 D51
         rintro _ rfl _ rfl
         show OpOK _ _ _ _ _ _ _
         exact ok_gund rfl rfl
       refine ⟨?_, ?_⟩
       · rintro - w52 D52
         rintro _ rfl _ rfl
         show OpOK _ _ _ _ _ _ _
         exact ok_gund rfl rfl
       refine ⟨?_, ?_⟩
       · rintro - w53 D53
         rintro _ rfl
         show OpOK _ _ _ _ _ _ _
         exact ok_gund rfl rfl
       refine ⟨?_, ?_⟩
       · rintro - w54 D54
         rintro _ rfl _ rfl
         show OpOK _ _ _ _ _ _ _
         exact ok_gund rfl rfl
       refine ⟨?_, ?_⟩
       · rintro - w55 D55
         rintro _ rfl _ rfl _ rfl
         show OpOK _ _ _ _ _ _ _
         exact ok_gund rfl rfl
       refine ⟨?_, ?_⟩
       · rintro - w56 D56
         rintro _ rfl _ rfl _ rfl
         show OpOK _ _ _ _ _ _ _
         exact ok_gno rfl rfl rfl
       refine ⟨?_, ?_⟩
       · rintro - w57 D57
         rintro _ rfl _ rfl
         show OpOK _ _ _ _ _ _ _
         exact ok_pure (ro_pickT (v := .bool _) rfl rfl) rfl
       exact trivial
      case hend =>
       intro w58 D58
       rintro _ rfl v13 rfl _ rfl _ rfl _ rfl _ rfl v18 rfl _ rfl _ rfl _ rfl _ rfl _ rfl _ rfl _ rfl _ rfl _ rfl _ rfl _ rfl _ rfl _ rfl _ rfl _ rfl _ rfl _ rfl _ rfl
       show St _ _ _ _ _ _ _
       refine st_nil (nx_then ?_)
       refine cd_condT rfl ?_
       refine cd_seq (cd_region ?_)
       refine asb rfl ?_
       refine st_nil (nx_then (cd_ret (rt_block (rt_then (rt_then (rt_block (rt_then ?_)))))))
       refine res1 (v := .bool _) rfl rfl ?_
       refine ⟨⟨false, rfl, fun h => (by cases h), fun h => ?_⟩, (((hB.next E4).only O3 (hg4)).next D58)⟩
       obtain ⟨x1, x2, x3⟩ := h i hil
       exfalso
       first
         | omega
         | exact hnl (x3 (by omega))
    · apply cd_drawnD 25 [(12, eqp _), (13, eqp (.string (ds.getD i dd).1)), (14, eqp _), (15, eqp _), (16, eqp _), (17, eqp _), (18, eqp (.string (ds.getD i dd).1)), (19, eqp _), (20, eqp _), (21, eqp _), (22, eqp _), (23, eqp _), (24, eqp _), (25, eqp _), (26, eqp _), (27, eqp _), (28, eqp _), (29, eqp _), (30, eqp _), (31, eqp _), (32, eqp _), (33, eqp _), (34, eqp _), (35, eqp _), (36, eqp _)] (by repeat first | exact pq_body | refine pq_then ?_ | refine pq_block ?_) (by kernel_rfl) (by kernel_rfl) ⟨eqp_mono _, eqp_mono _, eqp_mono _, eqp_mono _, eqp_mono _, eqp_mono _, eqp_mono _, eqp_mono _, eqp_mono _, eqp_mono _, eqp_mono _, eqp_mono _, eqp_mono _, eqp_mono _, eqp_mono _, eqp_mono _, eqp_mono _, eqp_mono _, eqp_mono _, eqp_mono _, eqp_mono _, eqp_mono _, eqp_mono _, eqp_mono _, eqp_mono _, trivial⟩
      case hop =>
       refine ⟨?_, ?_⟩
       · rintro - w60 D60
         show OpOK _ _ _ _ _ _ _
         exact ok_pure (ro_fieldAddr SegWalks_f40_0 rfl) rfl
       refine ⟨?_, ?_⟩
       · rintro - w61 D61
         rintro _ rfl
         show OpOK _ _ _ _ _ _ _
         exact ok_pure (ro_load (v := .string (ds.getD i dd).1) SegWalks_g9 rfl ((P3.from_ D61).rd 0 rfl)) rfl
       refine ⟨?_, ?_⟩
       · rintro - w62 D62
         rintro v62_13 rfl
         show OpOK _ _ _ _ _ _ _
         exact ok_pure (ro_lenS (by kernel_rfl) rfl) rfl
       refine ⟨?_, ?_⟩
       · rintro - w63 D63
         rintro _ rfl
         show OpOK _ _ _ _ _ _ _
         exact ok_pure (ro_bf (ro_lss rfl rfl) (decide_eq_false (by omega))) rfl
       refine ⟨?_, ?_⟩
       · rintro - w64 D64
         rintro _ rfl
         show OpOK _ _ _ _ _ _ _
         exact ok_pure (ro_move (v := .bool _) rfl) rfl
       refine ⟨?_, ?_⟩
       · rintro - w65 D65
         rintro _ rfl
         show OpOK _ _ _ _ _ _ _
         exact ok_gpure rfl (ro_fieldAddr SegWalks_f40_0 rfl) rfl
       refine ⟨?_, ?_⟩
       · rintro - w66 D66
         rintro _ rfl _ rfl
         show OpOK _ _ _ _ _ _ _
         exact ok_gpure rfl (ro_load (v := .string (ds.getD i dd).1) SegWalks_g9 rfl ((P3.from_ D66).rd 0 rfl)) rfl
       refine ⟨?_, ?_⟩
       · rintro - w67 D67
         rintro _ rfl v67_18 rfl
         show OpOK _ _ _ _ _ _ _
         exact ok_gpure rfl (ro_lenS (by kernel_rfl) rfl) rfl
       refine ⟨?_, ?_⟩
       · rintro - w68 D68
         rintro _ rfl _ rfl
         show OpOK _ _ _ _ _ _ _
         exact ok_gpure rfl (ro_bf (ro_gtr rfl rfl) (decide_eq_false (by omega))) rfl
       refine ⟨?_, ?_⟩
       · rintro - w69 D69
         rintro _ rfl _ rfl
         show OpOK _ _ _ _ _ _ _
         exact ok_pure (ro_pickF (v := .bool _) rfl rfl) rfl
       refine ⟨?_, ?_⟩
       · rintro - w70 D70
         rintro _ rfl
         show OpOK _ _ _ _ _ _ _
         exact ok_pure (ro_move (v := .bool _) rfl) rfl
       refine ⟨?_, ?_⟩
       · rintro - w71 D71
         rintro _ rfl
         show OpOK _ _ _ _ _ _ _
         exact ok_gpure rfl (ro_move (v := .int _ _) rfl) rfl
       refine ⟨?_, ?_⟩
       · rintro - w72 D72
         rintro _ rfl _ rfl
         show OpOK _ _ _ _ _ _ _
         exact ok_gpure rfl (ro_bf (ro_gtr rfl rfl) (decide_eq_false (by omega))) rfl
       refine ⟨?_, ?_⟩
       · rintro - w73 D73
         rintro _ rfl _ rfl
         show OpOK _ _ _ _ _ _ _
         exact ok_gpure rfl (ro_move (v := .bool _) rfl) rfl
       refine ⟨?_, ?_⟩
       · rintro - w74 D74
         rintro _ rfl
         show OpOK _ _ _ _ _ _ _
         exact ok_gno rfl rfl rfl
       refine ⟨?_, ?_⟩
       · rintro - w75 D75
         rintro _ rfl
         show OpOK _ _ _ _ _ _ _
         exact ok_gno rfl rfl rfl
       refine ⟨?_, ?_⟩
       · rintro - w76 D76
         rintro _ rfl _ rfl
         show OpOK _ _ _ _ _ _ _
         exact ok_gno rfl rfl rfl
       refine ⟨?_, ?_⟩
       · rintro - w77 D77
         rintro _ rfl _ rfl _ rfl
         show OpOK _ _ _ _ _ _ _
         exact ok_gno rfl rfl rfl
       refine ⟨?_, ?_⟩
       · rintro - w78 D78
         rintro _ rfl _ rfl
         show OpOK _ _ _ _ _ _ _
         exact ok_gno rfl rfl rfl
       refine ⟨?_, ?_⟩
       · rintro - w79 D79
         rintro _ rfl _ rfl
         show OpOK _ _ _ _ _ _ _
         exact ok_gno rfl rfl rfl
       refine ⟨?_, ?_⟩
       · rintro - w80 D80
         rintro _ rfl
         show OpOK _ _ _ _ _ _ _
         exact ok_gno rfl rfl rfl
       refine ⟨?_, ?_⟩
       · rintro - w81 D81
         rintro _ rfl _ rfl
         show OpOK _ _ _ _ _ _ _
         exact ok_gno rfl rfl rfl
       refine ⟨?_, ?_⟩
       · rintro - w82 D82
         rintro _ rfl _ rfl _ rfl
         show OpOK _ _ _ _ _ _ _
         exact ok_gno rfl rfl rfl
       refine ⟨?_, ?_⟩
       · rintro - w83 D83
         rintro _ rfl _ rfl _ rfl
         show OpOK _ _ _ _ _ _ _
         exact ok_gpure rfl (ro_pickF (v := .bool _) rfl rfl) rfl
       refine ⟨?_, ?_⟩
       · rintro - w84 D84
         rintro _ rfl _ rfl
         show OpOK _ _ _ _ _ _ _
         exact ok_pure (ro_pickF (v := .bool _) rfl rfl) rfl
       exact trivial
      case hend =>
       intro w85 D85
       rintro _ rfl v13 rfl _ rfl _ rfl _ rfl _ rfl v18 rfl _ rfl _ rfl _ rfl _ rfl _ rfl _ rfl _ rfl _ rfl _ rfl _ rfl _ rfl _ rfl _ rfl _ rfl _ rfl _ rfl _ rfl _ rfl
       show St _ _ _ _ _ _ _
       refine st_nil (nx_then ?_)
       refine cd_condF rfl ?_
       refine cd_skip (nx_block (nx_then (cd_region ?_)))
       refine st_val (ro_addN (b := 1) rfl rfl (by omega)) ?_
       refine mvi rfl ?_
       refine st_nil ?_
       refine nx_cut (i + 1) ⟨(by first | rfl | (refine int_eq ?_; omega)), trivial⟩ (by (iterate 67 refine agr_cons rfl ?_); exact agr_rfl) ⟨?_, ?_⟩
       · have hoi : okI ds i := by first | exact ⟨by omega, by omega, fun h => absurd h (by omega)⟩ | exact ⟨by omega, by omega, fun _ => hlt⟩
         exact ⟨by omega, fun x hx => by
           rcases Nat.eq_or_lt_of_le (Nat.le_of_lt_succ hx) with e | e
           · subst e; exact hoi
           · exact hok x e, (((hB.next E4).only O3 (hg4)).next D85)⟩
       · show ds.length - (i + 1) < ds.length - i; omega
    apply cd_drawnD 25 [(12, eqp _), (13, eqp (.string (ds.getD i dd).1)), (14, eqp _), (15, eqp _), (16, eqp _), (17, eqp _), (18, eqp (.string (ds.getD i dd).1)), (19, eqp _), (20, eqp _), (21, eqp _), (22, eqp _), (23, eqp _), (24, eqp _), (25, eqp _), (26, eqp _), (27, eqp _), (28, eqp _), (29, eqp _), (30, eqp _), (31, eqp (.string (ds.getD (i - 1) dd).1)), (32, eqp _), (33, eqp (.string (ds.getD i dd).1)), (34, eqp _), (35, eqp _), (36, eqp _)] (by repeat first | exact pq_body | refine pq_then ?_ | refine pq_block ?_) (by kernel_rfl) (by kernel_rfl) ⟨eqp_mono _, eqp_mono _, eqp_mono _, eqp_mono _, eqp_mono _, eqp_mono _, eqp_mono _, eqp_mono _, eqp_mono _, eqp_mono _, eqp_mono _, eqp_mono _, eqp_mono _, eqp_mono _, eqp_mono _, eqp_mono _, eqp_mono _, eqp_mono _, eqp_mono _, eqp_mono _, eqp_mono _, eqp_mono _, eqp_mono _, eqp_mono _, eqp_mono _, trivial⟩
    case hop =>
     refine ⟨?_, ?_⟩
     · rintro - w87 D87
       show OpOK _ _ _ _ _ _ _
       exact ok_pure (ro_fieldAddr SegWalks_f40_0 rfl) rfl
     refine ⟨?_, ?_⟩
     · rintro - w88 D88
       rintro _ rfl
       show OpOK _ _ _ _ _ _ _
       exact ok_pure (ro_load (v := .string (ds.getD i dd).1) SegWalks_g9 rfl ((P3.from_ D88).rd 0 rfl)) rfl
     refine ⟨?_, ?_⟩
     · rintro - w89 D89
       rintro v89_13 rfl
       show OpOK _ _ _ _ _ _ _
       exact ok_pure (ro_lenS (by kernel_rfl) rfl) rfl
     refine ⟨?_, ?_⟩
     · rintro - w90 D90
       rintro _ rfl
       show OpOK _ _ _ _ _ _ _
       exact ok_pure (ro_bf (ro_lss rfl rfl) (decide_eq_false (by omega))) rfl
     refine ⟨?_, ?_⟩
     · rintro - w91 D91
       rintro _ rfl
       show OpOK _ _ _ _ _ _ _
       exact ok_pure (ro_move (v := .bool _) rfl) rfl
     refine ⟨?_, ?_⟩
     · rintro - w92 D92
       rintro _ rfl
       show OpOK _ _ _ _ _ _ _
       exact ok_gpure rfl (ro_fieldAddr SegWalks_f40_0 rfl) rfl
     refine ⟨?_, ?_⟩
     · rintro - w93 D93
       rintro _ rfl _ rfl
       show OpOK _ _ _ _ _ _ _
       exact ok_gpure rfl (ro_load (v := .string (ds.getD i dd).1) SegWalks_g9 rfl ((P3.from_ D93).rd 0 rfl)) rfl
     refine ⟨?_, ?_⟩
     · rintro - w94 D94
       rintro _ rfl v94_18 rfl
       show OpOK _ _ _ _ _ _ _
       exact ok_gpure rfl (ro_lenS (by kernel_rfl) rfl) rfl
     refine ⟨?_, ?_⟩
     · rintro - w95 D95
       rintro _ rfl _ rfl
       show OpOK _ _ _ _ _ _ _
       exact ok_gpure rfl (ro_bf (ro_gtr rfl rfl) (decide_eq_false (by omega))) rfl
     refine ⟨?_, ?_⟩
     · rintro - w96 D96
       rintro _ rfl _ rfl
       show OpOK _ _ _ _ _ _ _
       exact ok_pure (ro_pickF (v := .bool _) rfl rfl) rfl
     refine ⟨?_, ?_⟩
     · rintro - w97 D97
       rintro _ rfl
       show OpOK _ _ _ _ _ _ _
       exact ok_pure (ro_move (v := .bool _) rfl) rfl
     refine ⟨?_, ?_⟩
     · rintro - w98 D98
       rintro _ rfl
       show OpOK _ _ _ _ _ _ _
       exact ok_gpure rfl (ro_move (v := .int _ _) rfl) rfl
     refine ⟨?_, ?_⟩
     · rintro - w99 D99
       rintro _ rfl _ rfl
       show OpOK _ _ _ _ _ _ _
       exact ok_gpure rfl (ro_bt (ro_gtr rfl rfl) (decide_eq_true (by omega))) rfl
     refine ⟨?_, ?_⟩
     · rintro - w100 D100
       rintro _ rfl _ rfl
       show OpOK _ _ _ _ _ _ _
       exact ok_gpure rfl (ro_move (v := .bool _) rfl) rfl
     refine ⟨?_, ?_⟩
     · rintro - w101 D101
       rintro _ rfl
       show OpOK _ _ _ _ _ _ _
       exact ok_gpure rfl (ro_move (v := .slice _ _ _) rfl) rfl
     refine ⟨?_, ?_⟩
     · rintro - w102 D102
       rintro _ rfl
       show OpOK _ _ _ _ _ _ _
       exact ok_gpure rfl (ro_move (v := .int _ _) rfl) rfl
     refine ⟨?_, ?_⟩
     · rintro - w103 D103
       rintro _ rfl _ rfl
       show OpOK _ _ _ _ _ _ _
       exact ok_gpure rfl (ro_subN (b := 1) rfl rfl (by omega)) rfl
     refine ⟨?_, ?_⟩
     · rintro - w104 D104
       rintro _ rfl _ rfl _ rfl
       show OpOK _ _ _ _ _ _ _
       exact ok_gpure rfl (ro_indexAddrN SegWalks_e22 rfl rfl (by omega)) rfl
     refine ⟨?_, ?_⟩
     · rintro - w105 D105
       rintro _ rfl _ rfl
       show OpOK _ _ _ _ _ _ _
       exact ok_gpure rfl (ro_fieldAddr SegWalks_f40_0 rfl) rfl
     refine ⟨?_, ?_⟩
     · rintro - w106 D106
       rintro _ rfl _ rfl
       show OpOK _ _ _ _ _ _ _
       exact ok_gpure rfl (ro_load (v := .string (ds.getD (i - 1) dd).1) SegWalks_g9 rfl (cellF (((hB.next E4).only O3 (hg4)).next D106) (hcp (by omega)))) rfl
     refine ⟨?_, ?_⟩
     · rintro - w107 D107
       rintro _ rfl
       show OpOK _ _ _ _ _ _ _
       exact ok_gpure rfl (ro_fieldAddr SegWalks_f40_0 rfl) rfl
     refine ⟨?_, ?_⟩
     · rintro - w108 D108
       rintro _ rfl _ rfl
       show OpOK _ _ _ _ _ _ _
       exact ok_gpure rfl (ro_load (v := .string (ds.getD i dd).1) SegWalks_g9 rfl ((P3.from_ D108).rd 0 rfl)) rfl
     refine ⟨?_, ?_⟩
     · rintro - w109 D109
       rintro _ rfl v109_31 rfl v109_33 rfl
       show OpOK _ _ _ _ _ _ _
       exact ok_gpure rfl (ro_geqS rfl rfl) rfl
     refine ⟨?_, ?_⟩
     · rintro - w110 D110
       rintro _ rfl _ rfl _ rfl
       show OpOK _ _ _ _ _ _ _
       exact ok_gpure rfl (ro_pickT (v := .bool _) rfl rfl) rfl
     refine ⟨?_, ?_⟩
     · rintro - w111 D111
       rintro _ rfl _ rfl
       show OpOK _ _ _ _ _ _ _
       exact ok_pure (ro_pickF (v := .bool _) rfl rfl) rfl
     exact trivial
    case hend =>
     intro w112 D112
     rintro _ rfl v13 rfl _ rfl _ rfl _ rfl _ rfl v18 rfl _ rfl _ rfl _ rfl _ rfl _ rfl _ rfl _ rfl _ rfl _ rfl _ rfl _ rfl _ rfl v31 rfl _ rfl v33 rfl _ rfl _ rfl _ rfl
     show St _ _ _ _ _ _ _
     refine st_nil (nx_then ?_)
     refine cd_cond rfl (fun Q113 => ?_) (fun Q113 => ?_)
     · with_reducible replace Q113 := bn_t Q113
       have hnl : ¬ sLt (ds.getD (i - 1) dd).1 (ds.getD i dd).1 := fun h => by
         have h9 := (sLt_dec _ _).2 h
         simp_all
       refine cd_seq (cd_region ?_)
       refine asb rfl ?_
       refine st_nil (nx_then (cd_ret (rt_block (rt_then (rt_then (rt_block (rt_then ?_)))))))
       refine res1 (v := .bool _) rfl rfl ?_
       refine ⟨⟨false, rfl, fun h => (by cases h), fun h => ?_⟩, (((hB.next E4).only O3 (hg4)).next D112)⟩
       obtain ⟨x1, x2, x3⟩ := h i hil
       exfalso
       first
         | omega
         | exact hnl (x3 (by omega))
     with_reducible replace Q113 := bn_f Q113
     have hlt : sLt (ds.getD (i - 1) dd).1 (ds.getD i dd).1 := (sLt_dec _ _).1 (by simpa using Q113)
     refine cd_skip (nx_block (nx_then (cd_region ?_)))
     refine st_val (ro_addN (b := 1) rfl rfl (by omega)) ?_
     refine mvi rfl ?_
     refine st_nil ?_
     refine nx_cut (i + 1) ⟨(by first | rfl | (refine int_eq ?_; omega)), trivial⟩ (by (iterate 67 refine agr_cons rfl ?_); exact agr_rfl) ⟨?_, ?_⟩
     · have hoi : okI ds i := by first | exact ⟨by omega, by omega, fun h => absurd h (by omega)⟩ | exact ⟨by omega, by omega, fun _ => hlt⟩
       exact ⟨by omega, fun x hx => by
         rcases Nat.eq_or_lt_of_le (Nat.le_of_lt_succ hx) with e | e
         · subst e; exact hoi
         · exact hok x e, (((hB.next E4).only O3 (hg4)).next D112)⟩
     · show ds.length - (i + 1) < ds.length - i; omega
  with_reducible replace Q2 := of_decide_eq_false Q2
  refine cd_exit ?_
  refine ex_then (ex_then (ex_block (nx_then (cd_seq (cd_region ?_)))))
  refine asb rfl ?_
  refine st_nil (nx_then (cd_ret ?_))
  refine res1 (v := .bool _) rfl rfl ?_
  exact ⟨⟨true, rfl, fun _ x hx => hok x (by omega), fun _ => rfl⟩, hB⟩
set_option maxHeartbeats 2000000 in
theorem total_rt (A : Option Addr) (c n : Nat) (ds : List Dc) (w : World) (hr : RowK 2 dV w A ds) (hn : n = ds.length) (hl : n ≤ 100000000) :
    Rt Tryz.prog 27 [.slice A n c] w (fun v w' => (∃ (m : Nat) (b : Bool), v = .tuple #[.int .i64 (m : Nat), .bool b] ∧ (b = true ↔ DFit ds) ∧ (b = true → m = dsz ds)) ∧ From w w') := by
  refine enter (n := 28) Tryz.func27 rfl rfl rfl ?_
  refine cd_seq (cd_region ?_)
  refine asi rfl ?_
  refine asb rfl ?_
  refine st_nil (nx_then (cd_seq (cd_seq (cd_region ?_))))
  refine mvs rfl ?_
  refine st_val (ro_len SegWalks_l22 rfl) ?_
  refine st_val (ro_gtr rfl rfl) ?_
  refine st_nil (nx_then ?_)
  refine cd_cond rfl (fun Q1 => ?_) (fun Q1 => ?_)
  · with_reducible replace Q1 := of_decide_eq_true Q1
    refine cd_seq (cd_region ?_)
    refine asi rfl ?_
    refine asb rfl ?_
    refine st_nil (nx_then (cd_ret (rt_then ?_)))
    refine res2 (v := .int _ _) (v' := .bool _) rfl rfl rfl ?_
    refine ⟨⟨0, false, rfl, ⟨fun h => (by cases h), fun h => ?_⟩, fun h => (by cases h)⟩, From.rfl_⟩
    have := h.1
    omega
  with_reducible replace Q1 := of_decide_eq_false Q1
  refine cd_skip (nx_then (cd_seq (cd_seq (cd_region ?_))))
  refine mvs rfl ?_
  refine st_val (ro_len SegWalks_l22 rfl) ?_
  refine mvi rfl ?_
  refine st_nil (nx_then (cd_block ?_))
  refine cd_loop (G := Nat) [3, 5, 12, 13, 14, 15, 16, 17, 18, 19, 20, 21, 22, 23, 24] (fun i => [(2, .int .i64 (dsz (ds.take i) : Nat)), (11, .int .i64 (i : Nat))]) (fun i w' => i ≤ ds.length ∧ (∀ x, x < i → (ds.getD x dd).2.size ≤ 2048) ∧ dsz (ds.take i) ≤ i * 2048 ∧ From w w') (fun i => ds.length - i) (0) ⟨rfl, rfl, trivial⟩ ?_ ?_
  · exact ⟨Nat.zero_le _, fun x h => absurd h (by omega), by simp [dsz], From.rfl_⟩
  rintro i ρ2 w2 ⟨hi, hok, hdz, hB⟩
  refine cd_seq (cd_region ?_)
  refine st_val (ro_lss rfl rfl) ?_
  refine st_nil (nx_then (cd_seq ?_))
  refine cd_cond rfl (fun Q3 => ?_) (fun Q3 => ?_)
  · with_reducible replace Q3 := of_decide_eq_true Q3
    obtain ⟨bd, od, rfl, hcd⟩ := hr (by omega)
    have hil : i < ds.length := by omega
    have hce := hcd i hil
    obtain ⟨d, hd⟩ : ∃ d, ds[i] = d := ⟨_, rfl⟩
    have hdi : ds.getD i dd = d := by rw [getD_get hil, hd]
    rw [hd] at hce
    refine cd_skip (nx_then (cd_seq (cd_block (cd_seq (cd_region ?_)))))
    refine st_val (ro_indexAddrN SegWalks_e22 rfl rfl (by omega)) ?_
    refine st_val (ro_loadA (cs := [_, _]) SegWalks_g40 SegWalks_z40 rfl (by exact rangeF hB hce)) ?_
    refine st_alloc SegWalks_o40 ?_
    intro b5 w4 E5 hb5 hk5
    have hg5 : w.heap.size ≤ b5 := by rw [hb5]; exact (hB).size
    refine st_putW (vs := [_, _]) SegWalks_z40 rfl rfl (by simp [Value.oneCell']) (hk5) rfl ?_
    intro w5 O5 P5
    refine st_nil (nx_then (cd_seq (cd_seq (cd_region ?_))))
    refine st_val (ro_fieldAddr SegWalks_f40_1 rfl) ?_
    refine st_val (ro_load SegWalks_g9 rfl (by exact (P5.from_ From.rfl_).rd 1 rfl)) ?_
    refine st_val (ro_lenS (by kernel_rfl) rfl) ?_
    refine st_val (ro_gtr rfl rfl) ?_
    refine st_nil (nx_then ?_)
    refine cd_cond rfl (fun Q6 => ?_) (fun Q6 => ?_)
    · with_reducible replace Q6 := of_decide_eq_true Q6
      refine cd_seq (cd_region ?_)
      refine asi rfl ?_
      refine asb rfl ?_
      refine st_nil (nx_then (cd_ret (rt_then (rt_block (rt_then (rt_then (rt_block (rt_then ?_))))))))
      refine res2 (v := .int _ _) (v' := .bool _) rfl rfl rfl ?_
      refine ⟨⟨0, false, rfl, ⟨fun h => (by cases h), fun h => ?_⟩, fun h => (by cases h)⟩, ((hB.next E5).only O5 (hg5))⟩
      have h2 := h.2.1 d (by rw [← hd]; exact List.getElem_mem hil)
      omega
    with_reducible replace Q6 := of_decide_eq_false Q6
    refine cd_skip (nx_then (cd_region ?_))
    refine mvi rfl ?_
    refine st_val (ro_fieldAddr SegWalks_f40_1 rfl) ?_
    refine st_val (ro_load SegWalks_g9 rfl (by exact (P5.from_ From.rfl_).rd 1 rfl)) ?_
    refine st_val (ro_lenS (by kernel_rfl) rfl) ?_
    refine st_val (ro_addN rfl rfl (by omega)) ?_
    refine asi rfl ?_
    refine st_nil (nx_block (nx_then (cd_region ?_)))
    refine st_val (ro_addN (b := 1) rfl rfl (by omega)) ?_
    refine mvi rfl ?_
    refine st_nil ?_
    refine nx_cut (i + 1) ⟨(int_eq (by rw [dsz_take hil, hdi])), rfl, trivial⟩ (by (iterate 33 refine agr_cons rfl ?_); exact agr_rfl) ⟨?_, ?_⟩
    · exact ⟨by omega, fun x hx => by
        rcases Nat.eq_or_lt_of_le (Nat.le_of_lt_succ hx) with e | e
        · subst e; rw [hdi]; omega
        · exact hok x e, by rw [dsz_take hil, hdi]; omega, ((hB.next E5).only O5 (hg5))⟩
    · show ds.length - (i + 1) < ds.length - i; omega
  with_reducible replace Q3 := of_decide_eq_false Q3
  refine cd_exit ?_
  refine ex_then (ex_then (ex_block (nx_then (cd_seq (cd_region ?_)))))
  refine mvi rfl ?_
  refine mvi rfl ?_
  refine st_val (ro_leq rfl rfl) ?_
  refine asi rfl ?_
  refine asb rfl ?_
  refine st_nil (nx_then (cd_ret ?_))
  refine res2 (v := .int _ _) (v' := .bool _) rfl rfl rfl ?_
  obtain rfl : i = ds.length := by omega
  rw [List.take_length] at hdz ⊢
  refine ⟨⟨dsz ds, _, rfl, ?_, fun _ => rfl⟩, hB⟩
  rw [decide_eq_true_iff]
  refine ⟨fun h => ⟨by omega, fun d hd => ?_, by omega⟩, fun h => by have := h.2.2; omega⟩
  obtain ⟨x, hx, rfl⟩ := List.getElem_of_mem hd
  have := hok x hx
  rwa [getD_get hx] at this
set_option maxHeartbeats 400000 in
theorem cloneD (A : Option Addr) (c n : Nat) (xs : List Value) (w : World) (hx : xs.length = n * 2) (hr : 0 < n → ∃ b o, A = some ⟨b, o, none⟩ ∧ w.rangeAt b o xs) (hn0 : A = none → n = 0 ∧ c = 0) (h1 : ∀ u ∈ xs, u.oneCell' = true) (hl : n ≤ 100000000000) :
    Rt Tryz.prog 22 [.slice A n c] w (fun v w' => (∃ A' c', v = .slice A' n c' ∧ w'.ownsRow w.heap.size 40 2 (.slice A' n c') n xs) ∧ From w w') := by
  refine enter (n := 8) Tryz.func22 rfl rfl rfl ?_
  refine cd_seq (cd_region ?_)
  refine ass rfl ?_
  refine st_nil (nx_then (cd_seq (cd_seq (cd_region ?_))))
  refine mvs rfl ?_
  refine st_val (ro_eqlNilS SegWalks_u22 rfl rfl) ?_
  refine st_nil (nx_then ?_)
  refine cd_cond rfl (fun Q1 => ?_) (fun Q1 => ?_)
  · (try first | (replace Q1 := bn_t Q1; trace "@MK N cloneD:c4+ 1.1") | (replace Q1 := bn_f Q1; trace "@MK N cloneD:c4+ 1.2"))
    (try first | (replace Q1 := bx_t Q1; trace "@MK N cloneD:c4+ 2.1") | (replace Q1 := bx_f Q1; trace "@MK N cloneD:c4+ 2.2") | (replace Q1 := be_t Q1; trace "@MK N cloneD:c4+ 2.3") | (replace Q1 := be_f Q1; trace "@MK N cloneD:c4+ 2.4") | (replace Q1 := of_decide_eq_true Q1; trace "@MK N cloneD:c4+ 2.5") | (replace Q1 := of_decide_eq_false Q1; trace "@MK N cloneD:c4+ 2.6"))
    obtain rfl : A = none := Option.isNone_iff_eq_none.1 Q1
    obtain ⟨rfl, rfl⟩ := hn0 rfl
    obtain rfl : xs = [] := List.eq_nil_of_length_eq_zero (by omega)
    refine cd_seq (cd_region ?_)
    refine ass rfl ?_
    refine st_nil (nx_then (cd_ret (rt_then ?_)))
    refine res1 (v := .slice _ _ _) rfl rfl ?_
    exact ⟨⟨none, 0, rfl, World.ownsRow_nil _ _ _ _⟩, From.rfl_⟩
  (try first | (replace Q1 := bn_t Q1; trace "@MK N cloneD:c4- 1.1") | (replace Q1 := bn_f Q1; trace "@MK N cloneD:c4- 1.2"))
  (try first | (replace Q1 := bx_t Q1; trace "@MK N cloneD:c4- 2.1") | (replace Q1 := bx_f Q1; trace "@MK N cloneD:c4- 2.2") | (replace Q1 := be_t Q1; trace "@MK N cloneD:c4- 2.3") | (replace Q1 := be_f Q1; trace "@MK N cloneD:c4- 2.4") | (replace Q1 := of_decide_eq_true Q1; trace "@MK N cloneD:c4- 2.5") | (replace Q1 := of_decide_eq_false Q1; trace "@MK N cloneD:c4- 2.6"))
  have hA4 : A = none → c = 0 := fun h => by rw [h] at Q1; cases Q1
  refine cd_skip (nx_then (cd_seq (cd_region ?_)))
  refine st_lit0 SegWalks_q22 _ (From.rfl_.size) ?_
  intro b5 w2 E5 hb5 ho5
  refine mvs rfl ?_
  refine st_append (a0 := w) SegWalks_q22 rfl (by decide) rfl ho5 (From.rfl_.next E5) rfl hx (fun h => (let ⟨b, o, hA, hc⟩ := hr h; ⟨b, o, hA, rangeF (From.rfl_.next E5) hc⟩)) hA4 h1 (by omega) (by omega) ?_
  intro A7 c7 w3 ho7 B7 hg7
  refine ass rfl ?_
  refine st_nil (nx_then (cd_ret ?_))
  refine res1 (v := .slice _ _ _) rfl rfl ?_
  exact ⟨⟨A7, c7, by rw [Nat.zero_add], by simpa using ho7⟩, B7⟩
theorem clone_d (A : Option Addr) (c n : Nat) (ds : List Dc) (w : World) (hr : RowK 2 dV w A ds) (hn : n = ds.length) (hn0 : A = none → n = 0 ∧ c = 0) (hl : n ≤ 100000000) : Rt Tryz.prog 22 [.slice A n c] w fun v w' => (∃ A' c', v = .slice A' n c' ∧ w'.ownsRow w.heap.size 40 2 (.slice A' n c') n (ds.flatMap dV)) ∧ From w w' :=
  cloneD A c n (ds.flatMap dV) w (by rw [flat_len dV_len, hn]) (fun h => hr.flat dV_len (by omega)) hn0 (dV_one ds) (by omega)
theorem compare_rt (a b : ByteArray) (w : World) : Rt Tryz.prog 25 [.string a, .string b] w fun v w' => v = .int .i64 (cmpS a b) ∧ w = w' :=
  Calls.mono (Tryz.strings_Compare a b w) fun e w' h => ⟨_, h.1, by unfold cmpS; rw [Lib.toList_data, Lib.toList_data], h.2.symm⟩
set_option maxHeartbeats 400000 in
theorem docCmp_rt (a b id : ByteArray) (w : World) :
    Rt Tryz.prog 24 [.agg #[.string a, .string b], .string id] w (fun v w' => v = .int .i64 (cmpS a id) ∧ From w w') := by
  refine enter (n := 9) Tryz.func24 rfl rfl rfl ?_
  refine cd_seq (cd_region ?_)
  refine st_box (v := .agg _) rfl ?_
  intro b2 w1 E2 hb2 hk2
  refine asi rfl ?_
  refine st_nil (nx_then (cd_seq (cd_region ?_)))
  refine st_val (ro_fieldAddr SegWalks_f40_0 rfl) ?_
  refine st_val (ro_load SegWalks_g9 rfl (by exact hk2.rd 0 rfl)) ?_
  refine mvg rfl ?_
  refine st_call SegWalks_k25 (compare_rt a id _) ?_
  rintro v8 w2 ⟨rfl, rfl⟩
  refine asi rfl ?_
  refine st_nil (nx_then (cd_ret ?_))
  refine res1 (v := .int _ _) rfl rfl ?_
  exact ⟨rfl, (From.rfl_.next E2)⟩
set_option maxHeartbeats 2000000 in
theorem docSearch_rt (A : Option Addr) (c n : Nat) (ds : List Dc) (w : World) (hr : RowK 2 dV w A ds) (hn : n = ds.length) (hl : n ≤ 100000000) (id : ByteArray) (hO : DOrd ds) :
    Rt Tryz.prog 23 [.slice A n c, .string id, .func (.func 24) #[] #[]] w (fun v w' => (∃ (i : Nat) (fd : Bool), v = .tuple #[.int .i64 (i : Nat), .bool fd] ∧ i ≤ n ∧ (∀ x, x < i → sLt (ds.getD x dd).1 id) ∧ (∀ x, i ≤ x → x < n → ¬ sLt (ds.getD x dd).1 id) ∧ (fd = true ↔ i < n ∧ (ds.getD i dd).1 = id)) ∧ From w w') := by
  refine enter (n := 49) Tryz.func23 rfl rfl rfl ?_
  refine cd_seq (cd_region ?_)
  refine asi rfl ?_
  refine asb rfl ?_
  refine st_nil (nx_then (cd_seq (cd_region ?_)))
  refine mvs rfl ?_
  refine st_val (ro_len SegWalks_l22 rfl) ?_
  refine asi rfl ?_
  refine st_nil (nx_then (cd_seq (cd_region ?_)))
  refine mvi rfl ?_
  refine asi rfl ?_
  refine asi rfl ?_
  refine st_nil (nx_then (cd_seq (cd_block ?_)))
  refine cd_loop (G := Nat × Nat) [11, 15, 16, 17, 18, 19, 20, 21, 22, 23, 24, 25, 26, 27, 28, 29, 30, 31, 32, 33, 34] (fun (i, j) => [(9, .int .i64 (i : Nat)), (10, .int .i64 (j : Nat))]) (fun (i, j) w' => i ≤ j ∧ j ≤ n ∧ (∀ x, x < i → sLt (ds.getD x dd).1 id) ∧ (∀ x, j ≤ x → x < n → ¬ sLt (ds.getD x dd).1 id) ∧ From w w') (fun (i, j) => j - i) ((0, n)) ⟨rfl, rfl, trivial⟩ ?_ ?_
  · exact ⟨Nat.zero_le _, Nat.le_refl _, fun x h => absurd h (by omega), fun x h1 h2 => absurd h1 (by omega), From.rfl_⟩
  rintro ⟨i, j⟩ ρ1 w1 ⟨hij, hjn, hlo, hhi, hB⟩
  refine cd_seq (cd_seq (cd_region ?_))
  refine mvi rfl ?_
  refine mvi rfl ?_
  refine st_val (ro_lss rfl rfl) ?_
  refine st_nil (nx_then ?_)
  refine cd_cond rfl (fun Q2 => ?_) (fun Q2 => ?_)
  · with_reducible replace Q2 := of_decide_eq_true Q2
    obtain ⟨bd, od, rfl, hcd⟩ := hr (by omega)
    refine cd_skip (nx_then (cd_block (cd_seq (cd_region ?_))))
    refine mvi rfl ?_
    refine mvi rfl ?_
    refine st_val (ro_addN rfl rfl (by omega)) ?_
    obtain ⟨h, hh⟩ : ∃ h, h = (i + j) / 2 ^ 1 := ⟨_, rfl⟩
    refine st_val (ro_conv64 SegWalks_s3 SegWalks_i78 rfl (by omega)) ?_
    refine st_val (ro_shrN (b := 1) rfl rfl (by decide)) ?_
    refine st_val (ro_convI SegWalks_s78 SegWalks_i3 rfl (by omega)) ?_
    refine st_spell (t := 23) (v := .int _ _) (v' := .int .i64 (h : Nat)) rfl (by rw [hh]) ?_
    refine asi rfl ?_
    refine st_nil (nx_then (cd_seq (cd_region ?_)))
    refine st_val (ro_move (v := .func _ _ _) rfl) ?_
    refine mvs rfl ?_
    refine mvi rfl ?_
    refine st_val (ro_indexAddrN SegWalks_e22 rfl rfl (by omega)) ?_
    refine st_val (ro_loadA (cs := [_, _]) SegWalks_g40 SegWalks_z40 rfl (by have h2 := hcd h (by omega); rw [← getD_get (show h < ds.length by omega)] at h2; exact rangeF hB h2)) ?_
    refine mvg rfl ?_
    refine st_callF (caps := []) rfl SegWalks_kcmp (docCmp_rt (ds.getD h dd).1 (ds.getD h dd).2 id _) ?_
    rintro v3 w3 ⟨rfl, E30⟩
    refine st_val (ro_lss rfl rfl) ?_
    refine st_nil (nx_then ?_)
    refine cd_cond rfl (fun Q4 => ?_) (fun Q4 => ?_)
    · with_reducible replace Q4 := of_decide_eq_true Q4
      have hlt : sLt (ds.getD h dd).1 id := cmpS_lt.1 (by omega)
      refine cd_region ?_
      refine mvi rfl ?_
      refine st_val (ro_addN (b := 1) rfl rfl (by omega)) ?_
      refine asi rfl ?_
      refine st_nil (nx_block ?_)
      refine nx_cut ((h + 1, j)) ⟨(by first | rfl | (refine int_eq ?_; omega)), (by first | rfl | (refine int_eq ?_; omega)), trivial⟩ (by (iterate 45 refine agr_cons rfl ?_); exact agr_rfl) ⟨?_, ?_⟩
      · exact ⟨by omega, hjn, fun x hx => by
          rcases Nat.eq_or_lt_of_le (Nat.le_of_lt_succ hx) with e | e
          · subst e; exact hlt
          · exact sLt_trans (hO.lt e (by omega)) hlt, hhi, (hB.next E30)⟩
      · show j - (h + 1) < j - i; omega
    with_reducible replace Q4 := of_decide_eq_false Q4
    have hnl : ¬ sLt (ds.getD h dd).1 id := fun h9 => by have := cmpS_lt.2 h9; omega
    refine cd_region ?_
    refine mvi rfl ?_
    refine asi rfl ?_
    refine st_nil (nx_block ?_)
    refine nx_cut ((i, h)) ⟨(by first | rfl | (refine int_eq ?_; omega)), (by first | rfl | (refine int_eq ?_; omega)), trivial⟩ (by (iterate 44 refine agr_cons rfl ?_); exact agr_rfl) ⟨?_, ?_⟩
    · exact ⟨by omega, by omega, hlo, fun x h1 h2 => by
        rcases Nat.eq_or_lt_of_le h1 with e | e
        · subst e; exact hnl
        · exact fun h9 => hnl (sLt_trans (hO.lt e (by omega)) h9), (hB.next E30)⟩
    · show h - i < j - i; omega
  with_reducible replace Q2 := of_decide_eq_false Q2
  refine cd_exit ?_
  refine ex_then (ex_then (ex_block (nx_then (cd_seq (cd_region ?_)))))
  refine mvi rfl ?_
  refine mvi rfl ?_
  refine mvi rfl ?_
  refine st_val (ro_lss rfl rfl) ?_
  refine mvb rfl ?_
  refine st_split (t := 39) rfl (fun Q5 => ?_) (fun Q5 => ?_)
  · with_reducible replace Q5 := of_decide_eq_true Q5
    obtain ⟨bd, od, rfl, hcd⟩ := hr (by omega)
    refine st_unguard rfl ?_
    refine st_val (ro_move (v := .func _ _ _) rfl) ?_
    refine st_unguard rfl ?_
    refine mvs rfl ?_
    refine st_unguard rfl ?_
    refine mvi rfl ?_
    refine st_unguard rfl ?_
    refine st_val (ro_indexAddrN SegWalks_e22 rfl rfl (by omega)) ?_
    refine st_unguard rfl ?_
    refine st_val (ro_loadA (cs := [_, _]) SegWalks_g40 SegWalks_z40 rfl (by have h2 := hcd i (by omega); rw [← getD_get (show i < ds.length by omega)] at h2; exact rangeF hB h2)) ?_
    refine st_unguard rfl ?_
    refine mvg rfl ?_
    refine st_unguard rfl ?_
    refine st_callF (caps := []) rfl SegWalks_kcmp (docCmp_rt (ds.getD i dd).1 (ds.getD i dd).2 id _) ?_
    rintro v6 w6 ⟨rfl, E46⟩
    refine st_unguard rfl ?_
    refine st_val (ro_eql rfl rfl) ?_
    refine st_val (ro_pickT (v := .bool _) rfl rfl) ?_
    refine asi rfl ?_
    refine asb rfl ?_
    refine st_nil (nx_then (cd_ret ?_))
    refine res2 (v := .int _ _) (v' := .bool _) rfl rfl rfl ?_
    obtain rfl : i = j := by omega
    refine ⟨⟨i, _, rfl, hjn, hlo, hhi, ?_⟩, (hB.next E46)⟩
    first
      | (rw [beq_iff_eq, cmpS_eq]; exact ⟨fun h9 => ⟨by omega, h9⟩, fun h9 => h9.2⟩)
      | (rw [decide_eq_true_iff, cmpS_eq]; exact ⟨fun h9 => ⟨by omega, h9⟩, fun h9 => h9.2⟩)
      | exact ⟨fun h9 => (by cases h9), fun h9 => absurd h9.1 (by omega)⟩
  with_reducible replace Q5 := of_decide_eq_false Q5
  refine st_gno rfl rfl ?_
  refine st_gno rfl rfl ?_
  refine st_gno rfl rfl ?_
  refine st_gno rfl rfl ?_
  refine st_gno rfl rfl ?_
  refine st_gno rfl rfl ?_
  refine st_gno rfl rfl ?_
  refine st_gno rfl rfl ?_
  refine st_val (ro_pickF (v := .bool _) rfl rfl) ?_
  refine asi rfl ?_
  refine asb rfl ?_
  refine st_nil (nx_then (cd_ret ?_))
  refine res2 (v := .int _ _) (v' := .bool _) rfl rfl rfl ?_
  obtain rfl : i = j := by omega
  refine ⟨⟨i, _, rfl, hjn, hlo, hhi, ?_⟩, hB⟩
  first
    | (rw [beq_iff_eq, cmpS_eq]; exact ⟨fun h9 => ⟨by omega, h9⟩, fun h9 => h9.2⟩)
    | (rw [decide_eq_true_iff, cmpS_eq]; exact ⟨fun h9 => ⟨by omega, h9⟩, fun h9 => h9.2⟩)
    | exact ⟨fun h9 => (by cases h9), fun h9 => absurd h9.1 (by omega)⟩
end Go.Proofs.YtllmocjfllbbfaaGreat

namespace Go.Proofs.YtllmocjfllbbfaaGreat
open Go.RowKit Go.ChangeShapes Go.WideShapes Go.ChangeAt
/-- rows in blocks of their own -/
def Apart (A B : Option Addr) : Prop := ∀ p, A.map (·.block) = some p → ∀ q, B.map (·.block) = some q → p ≠ q
theorem Apart.symm {A B : Option Addr} (h : Apart A B) : Apart B A := fun p hp q hq e => h q hq p hp e.symm
/-- an own row behind a change of another's block -/
theorem own_aside {w w' : World} {base e s n c : Nat} {A B : Option Addr} {xs : List Value} (h : w.ownsRow base e s (.slice A n c) n xs) (hg : w.grownBy w' (B.map (·.block))) (hne : Apart B A) : w'.ownsRow base e s (.slice A n c) n xs := by
  refine ⟨h.1, ?_⟩
  rcases h.2 with h0 | ⟨g, cap, cur, h1, h2, h3, h4⟩
  · exact .inl h0
  · refine .inr ⟨g, cap, cur, h1, h2, ?_, h4⟩
    simp only [Value.slice.injEq] at h1
    obtain ⟨rfl, _, _⟩ := h1
    have hlt : g < w.heap.size := by
      rcases Nat.lt_or_ge g w.heap.size with a | a
      · exact a
      · rw [Array.getElem?_eq_none a] at h3; cases h3
    exact (hg.block g hlt fun e => hne g e.symm g rfl rfl).trans h3
theorem Apart.new {A A' B : Option Addr} {N : Nat} (h : Apart A B) (hB : ∀ q, B.map (·.block) = some q → q < N) (hL : A'.map (·.block) = A.map (·.block) ∨ A'.map (·.block) = some N) : Apart A' B := fun p hp q hq => by
  rcases hL with e | e
  · exact h p (e ▸ hp) q hq
  · rw [e] at hp
    cases hp
    have := hB q hq
    omega
theorem Apart.fresh {A B : Option Addr} {w : World} {base e s n c : Nat} {xs : List Value} (h : w.ownsRow base e s (.slice A n c) n xs) (hB : ∀ q, B.map (·.block) = some q → w.heap.size ≤ q) : Apart A B := fun p hp q hq e => by
  have h1 := (own_at h p hp).2
  have h2 := hB q hq
  omega
theorem own_none {w : World} {base e s n c : Nat} {xs : List Value} (h : w.ownsRow base e s (.slice none n c) n xs) : c = 0 := by
  rcases h.2 with ⟨h1, _⟩ | ⟨g, cap, cur, hv, _⟩
  · simp only [Value.slice.injEq] at h1; omega
  · simp only [Value.slice.injEq] at hv; cases hv.1
theorem own_none0 {w : World} {base e s n c : Nat} {xs : List Value} (h : w.ownsRow base e s (.slice none n c) n xs) : n = 0 := by
  rcases h.2 with ⟨h1, _⟩ | ⟨g, cap, cur, hv, _⟩
  · simp only [Value.slice.injEq] at h1; omega
  · simp only [Value.slice.injEq] at hv; cases hv.1
section
variable {P : Program} {ops : Array Oper} {Q : Exit → Act → World → Prop} {rest : List Oper} {n : Fr} {L : List (Nat × Value)} {w : World} {ty : TypeId} {pos : String} {after : Array Edge} {d : Nat} {t : TypeId} {s x y : Operand}
theorem st_appendL {base : Nat} {A A2 : Option Addr} {m j cap c2 e size by_ : Nat} {z : Value} {xs news : List Value} (hq : litQ P t = some (e, size, by_, z)) (hzs : z.cells.size = size) (hs0 : 0 < size)
    (hs : ev n L s = .slice A m cap) (hown : w.ownsRow base e size (.slice A m cap) m xs) (hB : base ≤ w.heap.size)
    (hx : ev n L x = .slice A2 j c2) (hl : news.length = j * size) (hsrc : ∃ b o, A2 = some ⟨b, o, none⟩ ∧ w.rangeAt b o news) (h1 : ∀ u ∈ news, u.oneCell' = true) (h63 : m + j ≤ 9223372036854775807) (hby : (m + j) * by_ ≤ 140737488355328)
    (k : ∀ A' cap' w', w'.ownsRow base e size (.slice A' (m + j) cap') (m + j) (xs ++ news) → w.grownBy w' (A.map (·.block)) → (A'.map (·.block) = A.map (·.block) ∨ A'.map (·.block) = some w.heap.size) → St P ops Q rest n ((d, .slice A' (m + j) cap') :: L) w') :
    St P ops Q (⟨some d, .call { callee := .builtin .append, args := #[s, x], argTypes := #[t, t] }, ty, pos, after, none⟩ :: rest) n L w := by
  obtain ⟨A', cap', w', hR, h2, h3, h4⟩ := ro_appendL (P := P) (ρ := ev n L) (s := s) (x := x) (w := w) hq hzs hs0 hs hown hB hx hl hsrc h1 h63 hby
  exact st_val hR (k A' cap' w' h2 h3 h4)
/-- room for later, of elements of any size -/
theorem st_make0K {e size by_ m base : Nat} {z : Value} {kl kc : IntKind} (hq : litQ P t = some (e, size, by_, z)) (hx : ev n L x = .int kl 0) (hy : ev n L y = .int kc (m : Nat)) (hm : m ≤ 9007199254740992) (hb : by_ * m ≤ 281474976710656) (hbs : base ≤ w.heap.size)
    (k : ∀ g w', From w w' → g = w.heap.size → w'.ownsRow base e size (.slice (some ⟨g, 0, none⟩) 0 m) 0 [] → St P ops Q rest n ((d, .slice (some ⟨g, 0, none⟩) 0 m) :: L) w') : St P ops Q (⟨some d, .makeSlice t x y, ty, pos, after, none⟩ :: rest) n L w := by
  obtain ⟨i, hu, hi, hsz, hby, hz⟩ := lit_of hq
  have hr := run_make (P := P) w t e i z hu hi hz kl kc 0 (m : Int) (by omega) (by omega) (by
    have : ((i.bytes * m : Nat) : Int) ≤ 281474976710656 := by rw [hby]; omega
    rwa [Int.natCast_mul] at this) (by omega)
  rw [Int.toNat_natCast] at hr
  refine st_val (v := .slice (some ⟨w.heap.size, 0, none⟩) 0 m) (w' := w.alloc (.cells (madeCells z.cells (m * i.size)) e)) (fun _ _ _ _ _ => ?_) (k _ _ (From.rfl_.new _) rfl ⟨by simp, .inr ⟨w.heap.size, m, _, rfl, hbs, heap_alloc_new w _, Nat.zero_le _, by unfold maxLen; omega, by simp [madeCells, hsz], by simp⟩⟩)
  simp [execOp, hx, hy, hr]
/-- one element of two cells -/
theorem st_litK2 {e by_ : Nat} {z v z0 z1 u0 u1 : Value} (hq : litQ P t = some (e, 2, by_, z)) (hz : z.cells = #[z0, z1]) (hx : ev n L x = v) (hv : v.cells = #[u0, u1])
    (k : ∀ g w', From w w' → g = w.heap.size → Blk w' g e #[u0, u1] → St P ops Q rest n ((d, .slice (some ⟨g, 0, none⟩) 1 1) :: L) w') : St P ops Q (⟨some d, .buildSlice t 1 #[(0, x)], ty, pos, after, none⟩ :: rest) n L w := by
  refine st_lit (l := [(0, x)]) (cells := #[u0, u1]) hq rfl rfl ?_ k
  have e1 : (Array.range (1 * 2)).map (z.cells[· % z.cells.size]!) = #[z0, z1] := by
    rw [hz, show Array.range (1 * 2) = #[0, 1] from rfl]
    simp
  rw [e1]
  simp [Instr.fill, hx, hv]
end
end Go.Proofs.YtllmocjfllbbfaaGreat

namespace Go.Proofs.YtllmocjfllbbfaaGreat
open Go.RowKit
open Go.ChangeShapes Go.WideShapes Go.ChangeAt
open Go.Proofs.YtllmocjfllbbfaaGreat.SA
theorem SegMake_e68 : elemQ Tryz.prog 68 = some (3, 1) := by kernel_rfl
theorem SegMake_m68 : makeQ Tryz.prog 68 = some (3, 8, (.int .i64 0)) := by kernel_rfl
theorem SegMake_q68 : litQ Tryz.prog 68 = some (3, 1, 8, (.int .i64 0)) := by kernel_rfl
theorem SegMake_k26 : callable Tryz.prog 26 = true := by kernel_rfl
theorem SegMake_k27 : callable Tryz.prog 27 = true := by kernel_rfl
theorem SegMake_l22 : (elemQ Tryz.prog 22).isSome = true := by kernel_rfl
theorem SegMake_e22 : elemQ Tryz.prog 22 = some (40, 2) := by kernel_rfl
theorem SegMake_g40 : aggQ Tryz.prog 40 = some true := by kernel_rfl
theorem SegMake_z40 : sizeQ Tryz.prog 40 = some 2 := by kernel_rfl
theorem SegMake_o40 : zeroQ Tryz.prog 40 = some (.agg #[.string ⟨#[]⟩, .string ⟨#[]⟩]) := by kernel_rfl
theorem SegMake_f40_1 : fieldQ Tryz.prog 40 1 = some 1 := by kernel_rfl
theorem SegMake_g9 : aggQ Tryz.prog 9 = some false := by kernel_rfl
theorem SegMake_k28 : callable Tryz.prog 28 = true := by kernel_rfl
theorem SegMake_k29 : callable Tryz.prog 29 = true := by kernel_rfl
theorem SegMake_k30 : callable Tryz.prog 30 = true := by kernel_rfl
theorem SegMake_k22 : callable Tryz.prog 22 = true := by kernel_rfl
theorem SegMake_b50_0_1_2_3 : ∀ (a0 : Option Addr) (a1 : Option Addr) (a2 a3 : Nat) (a4 : Option Addr) (a5 : Int), Tryz.prog.built 50 [(0, .pointer a0), (1, .slice a1 a2 a3), (2, .pointer a4), (3, .int .i64 a5)] = some #[.pointer a0, .slice a1 a2 a3, .pointer a4, .int .i64 a5] := by intros; kernel_rfl
theorem SegMake_f50_1 : fieldQ Tryz.prog 50 1 = some 1 := by kernel_rfl
theorem SegMake_g22 : aggQ Tryz.prog 22 = some false := by kernel_rfl
theorem SegMake_k23 : callable Tryz.prog 23 = true := by kernel_rfl
theorem SegMake_q56 : litQ Tryz.prog 56 = some (61, 2, 24, (.agg #[.string ⟨#[]⟩, .int .i64 0])) := by kernel_rfl
theorem SegMake_f50_0 : fieldQ Tryz.prog 50 0 = some 0 := by kernel_rfl
theorem SegMake_g47 : aggQ Tryz.prog 47 = some false := by kernel_rfl
theorem SegMake_k31 : callable Tryz.prog 31 = true := by kernel_rfl
theorem SegMake_l68 : (elemQ Tryz.prog 68).isSome = true := by kernel_rfl
theorem SegMake_g3 : aggQ Tryz.prog 3 = some false := by kernel_rfl
theorem SegMake_f50_2 : fieldQ Tryz.prog 50 2 = some 2 := by kernel_rfl
theorem SegMake_g48 : aggQ Tryz.prog 48 = some false := by kernel_rfl
theorem SegMake_k32 : callable Tryz.prog 32 = true := by kernel_rfl
theorem SegMake_f40_0 : fieldQ Tryz.prog 40 0 = some 0 := by kernel_rfl
theorem SegMake_b61_0_1 : ∀ (a0 : ByteArray) (a1 : Int), Tryz.prog.built 61 [(0, .string a0), (1, .int .i64 a1)] = some #[.string a0, .int .i64 a1] := by intros; kernel_rfl
theorem rowRange {w : World} {g : Nat} {l : List Int} (h : RowOf iV w (some ⟨g, 0, none⟩) l) : w.rangeAt g 0 (l.map iV) := fun j v hv => by
  have hj : j < l.length := by have := (List.getElem?_eq_some_iff.1 hv).1; rwa [List.length_map] at this
  obtain ⟨b, o, e, hc⟩ := h (by omega)
  cases e
  rw [hc j hj]
  rw [List.getElem?_map, List.getElem?_eq_getElem hj] at hv
  exact hv
/-! ### lengths and offsets -/
def lens (ds : List Dc) : List Int := ds.map fun d => ((d.2.size : Nat) : Int)
theorem lens_len (ds : List Dc) : (lens ds).length = ds.length := List.length_map _
theorem lens_take {ds : List Dc} {k : Nat} (h : k < ds.length) : (lens (ds.take (k + 1))).map iV = (lens (ds.take k)).map iV ++ [iV (((ds.getD k dd).2.size : Nat) : Int)] := by
  unfold lens
  rw [List.take_succ_eq_append_getElem h, List.map_append, List.map_append, getD_get h]
  rfl
theorem lens_get {ds : List Dc} {k : Nat} (h : k < (lens ds).length) : (lens ds)[k] = (((ds.getD k dd).2.size : Nat) : Int) := by
  have h2 : k < ds.length := by rwa [lens_len] at h
  rw [getD_get h2]
  simp [lens]
theorem syms_take {ds : List Dc} {k : Nat} (h : k < ds.length) : syms (ds.take (k + 1)) = syms (ds.take k) ++ txt (ds.getD k dd).2 ++ [0] := by
  rw [List.take_succ_eq_append_getElem h, syms_app, getD_get h, List.append_assoc]
  rfl
theorem cI_app (a b : List Nat) : cI (a ++ b) = cI a ++ cI b := List.map_append ..
theorem st_lens {ds : List Dc} : ∀ {k : Nat}, k ≤ ds.length → Bd.st (lens ds) k = ((dsz (ds.take k) + k : Nat) : Int)
  | 0, _ => by simp [Bd.st, dsz]
  | k + 1, h => by
    rw [Bd.st_succ (by rw [lens_len]; omega), st_lens (Nat.le_of_succ_le h), lens_get, dsz_take (by omega)]
    omega
theorem lens_gd {ds : List Dc} (h : DFit ds) : Bd.Gd (lens ds) := by
  refine ⟨fun i hi => by rw [lens_get]; omega, by rw [lens_len]; exact h.1, fun i hi => ?_⟩
  have h2 : i < ds.length := by rwa [lens_len] at hi
  have h3 := dsz_take h2
  have h4 := dsz_le (ds := ds) (i + 1)
  have h5 := h.2.2
  have h6 := h.1
  rw [lens_get, st_lens (by omega)]
  omega
theorem loc_spec : ∀ {ds : List Dc} {x : Nat}, x < (syms ds).length → (loc ds x).1 < ds.length ∧ dsz (ds.take (loc ds x).1) + (loc ds x).1 + (loc ds x).2 = x ∧ (loc ds x).2 ≤ (ds.getD (loc ds x).1 dd).2.size
  | [], x, h => by cases h
  | d :: ds, x, h => by
    rw [syms, List.length_append, List.length_cons, txt_len] at h
    unfold loc
    by_cases hx : x ≤ d.2.size
    · rw [if_pos hx]
      exact ⟨by simp, by simp [dsz], hx⟩
    · rw [if_neg hx]
      obtain ⟨h1, h2, h3⟩ := loc_spec (ds := ds) (x := x - (d.2.size + 1)) (by omega)
      refine ⟨by rw [List.length_cons]; omega, ?_, h3⟩
      simp only [List.take_succ_cons, dsz]
      omega
theorem loc_st {ds : List Dc} {x : Nat} (h : x < (syms ds).length) : Bd.st (lens ds) (loc ds x).1 ≤ (x : Int) ∧ (x : Int) < Bd.st (lens ds) ((loc ds x).1 + 1) ∧ (x : Int) - Bd.st (lens ds) (loc ds x).1 = ((loc ds x).2 : Nat) := by
  obtain ⟨h1, h2, h3⟩ := loc_spec h
  rw [st_lens (Nat.le_of_lt h1), st_lens h1, dsz_take h1]
  omega
theorem chk_syms {ds : List Dc} (h : DFit ds) : chkW 257 (cI (syms ds)) = 0 := by
  have hl := syms_len ds
  have h5 := h.2.2
  have h6 := h.1
  unfold chkW
  rw [if_neg (by omega), if_neg, if_neg (by rw [List.length_map]; omega)]
  rw [List.any_eq_true]
  rintro ⟨x, hx, hb⟩
  obtain ⟨y, hy, rfl⟩ := List.mem_map.1 hx
  have := syms_lt ds y hy
  have := of_decide_eq_true hb
  omega
/-- a segment of these documents; all that it holds lies at base or above -/
def SegAt (w : World) (base s : Nat) (ds : List Dc) : Prop := base ≤ s ∧ ∃ (x bd a : Nat) (B F : List Nat) (A : Option Addr) (c : Nat), Blk w s 50 #[.pointer (some ⟨x, 0, none⟩), .slice A ds.length c, .pointer (some ⟨bd, 0, none⟩), .int .i64 ((dsz ds : Nat) : Int)] ∧
  FmAt w base x 257 a (syms ds) B F ∧ Bd.BAt w base bd (lens ds) ∧ w.ownsRow base 40 2 (.slice A ds.length c) ds.length (ds.flatMap dV) ∧ DOrd ds ∧ DFit ds
theorem SegAt.from_ {w w' : World} {base s : Nat} {ds : List Dc} (h : SegAt w base s ds) (hF : From w w') : SegAt w' base s ds := by
  obtain ⟨h0, x, bd, a, B, F, A, c, h1, h2, h3, h4, h5⟩ := h
  exact ⟨h0, x, bd, a, B, F, A, c, h1.from_ hF, h2.from_ hF, h3.from_ hF, h4.kept_from hF, h5⟩
theorem SegAt.le {w : World} {base base2 s : Nat} {ds : List Dc} (h : SegAt w base s ds) (hl : base2 ≤ base) : SegAt w base2 s ds := by
  obtain ⟨h0, x, bd, a, B, F, A, c, h1, h2, h3, h4, h5⟩ := h
  exact ⟨by omega, x, bd, a, B, F, A, c, h1, h2.le hl, h3.le hl, own_le h4 hl, h5⟩
theorem SegAt.grown {w w' : World} {base s : Nat} {ds : List Dc} {r : Option Nat} (h : SegAt w base s ds) (hg : w.grownBy w' r) (hne : ∀ q, r = some q → q < base) : SegAt w' base s ds := by
  obtain ⟨h0, x, bd, a, B, F, A, c, h1, h2, h3, h4, h5⟩ := h
  exact ⟨h0, x, bd, a, B, F, A, c, h1.grown hg (fun q hq => by have := hne q hq; omega), h2.grown hg hne, h3.grown hg hne, own_kept h4 hg hne, h5⟩
theorem SegAt.docs {w : World} {base s : Nat} {ds : List Dc} (h : SegAt w base s ds) : DOrd ds ∧ DFit ds := by
  obtain ⟨h0, x, bd, a, B, F, A, c, h1, h2, h3, h4, h5⟩ := h
  exact h5
def NewS (w' : World) (base : Nat) (ds : List Dc) (v : Value) : Prop := (docE ds ≠ 0 ∧ v = .tuple #[.pointer none, .int .i64 (docE ds)]) ∨ (docE ds = 0 ∧ ∃ s, v = .tuple #[.pointer (some ⟨s, 0, none⟩), .int .i64 0] ∧ SegAt w' base s ds)
theorem bnew_n (A : Option Addr) (c n : Nat) (L : List Int) (w : World) (hr : RowOf iV w A L) (hG : Bd.Gd L) (hn : n = L.length) : Rt Tryz.prog 29 [.slice A n c] w fun v w' => (∃ b, v = .tuple #[.pointer (some ⟨b, 0, none⟩), .int .i64 0] ∧ Bd.BAt w' w.heap.size b L) ∧ From w w' := by
  subst hn
  have hl := hG.len
  refine (Bd.new_rt A c L w hr (fun x hx => ?_) (by omega)).mono fun v w' h => ?_
  · obtain ⟨i, hi, rfl⟩ := List.getElem_of_mem hx
    have h1 := hG.pos i hi
    have h2 := hG.fit i hi
    have h3 := hG.st (k := i) (by omega)
    omega
  · obtain ⟨h, hF⟩ := h
    rcases h with ⟨hne, _⟩ | ⟨_, b, rfl, hb⟩
    · exact absurd (Bd.lens0 hG) hne
    · exact ⟨⟨b, rfl, hb⟩, hF⟩
theorem fbuild_n (A : Option Addr) (c n : Nat) (ds : List Dc) (w : World) (hr : RowOf iV w A (cI (syms ds))) (hn : n = (syms ds).length) (h : DFit ds) : Rt Tryz.prog 30 [.int .i64 257, .slice A n c] w fun v w' => (∃ b a B F, v = .tuple #[.pointer (some ⟨b, 0, none⟩), .int .i64 0] ∧ FmAt w' w.heap.size b 257 a (syms ds) B F) ∧ From w w' := by
  have hl := syms_len ds
  have h5 := h.2.2
  have h6 := h.1
  refine (build_rt 257 A c n (cI (syms ds)) w hr (by rw [List.length_map]; exact hn) (by omega)).mono fun v w' h7 => ?_
  obtain ⟨h7, hF⟩ := h7
  refine ⟨?_, hF⟩
  rcases h7 with ⟨h8, _⟩ | ⟨_, K, b, a, L, B, F, hK, hL, _, hf, rfl⟩
  · exact absurd (chk_syms h) h8
  · obtain rfl : K = 257 := by omega
    obtain rfl := cI_inj hL
    exact ⟨b, a, B, F, rfl, hf⟩
theorem where_loc (base b x : Nat) (ds : List Dc) (w : World) (hv : Bd.BAt w base b (lens ds)) (hx : x < (syms ds).length) : Rt Tryz.prog 32 [.pointer (some ⟨b, 0, none⟩), .int .i64 (x : Nat)] w fun v w' => v = .tuple #[.int .i64 ((loc ds x).1 : Nat), .int .i64 ((loc ds x).2 : Nat), .int .i64 0] ∧ From w w' := by
  obtain ⟨h1, h2, h3⟩ := loc_st hx
  have := Bd.where_is base b (lens ds) w hv x (loc ds x).1 (by rw [lens_len]; exact (loc_spec hx).1) h1 h2
  rw [h3] at this
  exact this
set_option maxHeartbeats 4000000 in
theorem new_s (A : Option Addr) (c n : Nat) (ds : List Dc) (w : World) (hr : RowK 2 dV w A ds) (hn : n = ds.length) (hl : n ≤ 100000000) (hn0 : A = none → n = 0 ∧ c = 0) :
    Rt Tryz.prog 18 [.slice A n c] w (fun v w' => NewS w' w.heap.size ds v ∧ From w w') := by
  refine enter (n := 74) Tryz.func18 rfl rfl rfl ?_
  refine cd_seq (cd_region ?_)
  refine asp rfl ?_
  refine asi rfl ?_
  refine st_nil (nx_then (cd_seq (cd_seq (cd_region ?_))))
  refine mvs rfl ?_
  refine st_call SegMake_k26 (ordered_rt A c n ds _ (hr.from_ From.rfl_) hn hl) ?_
  rintro v14 w1 ⟨⟨b14, rfl, hb14⟩, E14⟩
  refine st_val (ro_not rfl) ?_
  refine st_nil (nx_then ?_)
  refine cd_cond rfl (fun Q2 => ?_) (fun Q2 => ?_)
  · with_reducible replace Q2 := bn_t Q2
    have hno : ¬ DOrd ds := fun h => by have := hb14.2 h; simp_all
    refine cd_seq (cd_region ?_)
    refine asp rfl ?_
    refine asi rfl ?_
    refine st_nil (nx_then (cd_ret (rt_then ?_)))
    refine res2 (v := .pointer _) (v' := .int _ _) rfl rfl rfl ?_
    exact ⟨.inl ⟨by rw [doc_1 hno]; decide, by rw [doc_1 hno]⟩, (From.rfl_.next E14)⟩
  with_reducible replace Q2 := bn_f Q2
  have hord : DOrd ds := hb14.1 (by simpa using Q2)
  refine cd_skip (nx_then (cd_seq (cd_region ?_)))
  refine mvs rfl ?_
  refine st_call SegMake_k27 (total_rt A c n ds _ (hr.from_ (From.rfl_.next E14)) hn hl) ?_
  rintro v18 w3 ⟨⟨m18, b18, rfl, hb18, hm18⟩, E18⟩
  refine mvt rfl ?_
  refine st_val (ro_extract rfl rfl) ?_
  refine st_val (ro_extract rfl rfl) ?_
  refine asi rfl ?_
  refine asb rfl ?_
  refine st_nil (nx_then (cd_seq (cd_seq (cd_region ?_))))
  refine mvb rfl ?_
  refine st_val (ro_not rfl) ?_
  refine st_nil (nx_then ?_)
  refine cd_cond rfl (fun Q4 => ?_) (fun Q4 => ?_)
  · with_reducible replace Q4 := bn_t Q4
    have hnf : ¬ DFit ds := fun h => by have := hb18.2 h; simp_all
    refine cd_seq (cd_region ?_)
    refine asp rfl ?_
    refine asi rfl ?_
    refine st_nil (nx_then (cd_ret (rt_then ?_)))
    refine res2 (v := .pointer _) (v' := .int _ _) rfl rfl rfl ?_
    exact ⟨.inl ⟨by rw [doc_2 hord hnf]; decide, by rw [doc_2 hord hnf]⟩, ((From.rfl_.next E14).next E18)⟩
  with_reducible replace Q4 := bn_f Q4
  have hfit : DFit ds := hb18.1 (by simpa using Q4)
  obtain rfl := hm18 (hb18.2 hfit)
  have hf1 := hfit.1
  have hf3 := hfit.2.2
  refine cd_skip (nx_then (cd_seq (cd_region ?_)))
  refine mvs rfl ?_
  refine st_val (ro_len SegMake_l22 rfl) ?_
  refine st_make0 (m := n) (base := w.heap.size) SegMake_m68 rfl rfl rfl (by omega) (by omega) (((From.rfl_.next E14).next E18).size) ?_
  intro g25 w5 E25 hb25 ho25
  refine ass rfl ?_
  refine st_nil (nx_then (cd_seq (cd_region ?_)))
  refine mvi rfl ?_
  refine mvs rfl ?_
  refine st_val (ro_len SegMake_l22 rfl) ?_
  refine st_val (ro_addN rfl rfl (by omega)) ?_
  refine st_make0 (m := dsz ds + n) (base := w.heap.size) SegMake_m68 rfl rfl rfl (by omega) (by omega) ((((From.rfl_.next E14).next E18).next E25).size) ?_
  intro g30 w6 E30 hb30 ho30
  have hap0 : Apart (some ⟨g25, 0, none⟩) (some ⟨g30, 0, none⟩) := Apart.fresh ho25 (fun q hq => by cases hq; exact Nat.le_of_eq hb30.symm)
  refine ass rfl ?_
  refine st_nil (nx_then (cd_seq (cd_seq (cd_region ?_))))
  refine mvs rfl ?_
  refine st_val (ro_len SegMake_l22 rfl) ?_
  refine mvi rfl ?_
  refine st_nil (nx_then (cd_block ?_))
  refine cd_loop (G := Nat × (Option Addr × Nat) × Option Addr × Nat) [9, 34, 35, 36, 37, 38, 39, 40, 41, 42, 43, 44, 45, 46, 47, 48, 49, 50] (fun (k, (A6, c6), A7, c7) => [(33, .int .i64 (k : Nat)), (6, .slice A6 k c6), (7, .slice A7 (syms (ds.take k)).length c7)]) (fun (k, (A6, c6), A7, c7) w' => k ≤ n ∧ w'.ownsRow w.heap.size 3 1 (.slice A6 k c6) k ((lens (ds.take k)).map iV) ∧ w'.ownsRow w.heap.size 3 1 (.slice A7 (syms (ds.take k)).length c7) (syms (ds.take k)).length ((cI (syms (ds.take k))).map iV) ∧ Apart A6 A7 ∧ From w w') (fun (k, _, _) => n - k) ((0, (some ⟨g25, 0, none⟩, n), some ⟨g30, 0, none⟩, dsz ds + n)) ⟨rfl, rfl, rfl, trivial⟩ ?_ ?_
  · exact ⟨Nat.zero_le _, ho25.kept_from E30, ho30, hap0, ((((From.rfl_.next E14).next E18).next E25).next E30)⟩
  rintro ⟨k, ⟨A6, c6⟩, A7, c7⟩ ρ7 w7 ⟨hk, ho6, ho7, hap, hB⟩
  refine cd_seq (cd_region ?_)
  refine st_val (ro_lss rfl rfl) ?_
  refine st_nil (nx_then (cd_seq ?_))
  refine cd_cond rfl (fun Q8 => ?_) (fun Q8 => ?_)
  · with_reducible replace Q8 := of_decide_eq_true Q8
    obtain ⟨bd, od, rfl, hcd⟩ := hr (by omega)
    have hil : k < ds.length := by omega
    have hce := hcd k hil
    obtain ⟨d, hd⟩ : ∃ d, ds[k] = d := ⟨_, rfl⟩
    have hdi : ds.getD k dd = d := by rw [getD_get hil, hd]
    rw [hd] at hce
    have hds : d.2.size ≤ 2048 := hfit.2.1 d (by rw [← hd]; exact List.getElem_mem hil)
    have hsy := syms_take hil
    rw [hdi] at hsy
    have hsl : (syms (ds.take (k + 1))).length = (syms (ds.take k)).length + d.2.size + 1 := by rw [hsy, List.length_append, List.length_append, txt_len]; rfl
    have hsb : (syms (ds.take k)).length ≤ 20000 := by rw [syms_len, List.length_take]; have := dsz_le (ds := ds) k; omega
    refine cd_skip (nx_then (cd_seq (cd_block (cd_seq (cd_region ?_)))))
    refine st_val (ro_indexAddrN SegMake_e22 rfl rfl (by omega)) ?_
    refine st_val (ro_loadA (cs := [_, _]) SegMake_g40 SegMake_z40 rfl (by exact rangeF hB hce)) ?_
    refine st_alloc SegMake_o40 ?_
    intro b9 w9 E9 hb9 hk9
    have hg9 : w.heap.size ≤ b9 := by rw [hb9]; exact (hB).size
    refine st_putW (vs := [_, _]) SegMake_z40 rfl rfl (by simp [Value.oneCell']) (hk9) rfl ?_
    intro w10 O10 P10
    replace ho6 := own_only3 (ho6.kept_from E9) O10 (fun q hq => by have := (own_at ho6 q hq).2; omega)
    replace ho7 := own_only3 (ho7.kept_from E9) O10 (fun q hq => by have := (own_at ho7 q hq).2; omega)
    refine st_nil (nx_then (cd_seq (cd_region ?_)))
    refine mvs rfl ?_
    refine st_val (ro_fieldAddr SegMake_f40_1 rfl) ?_
    refine st_val (ro_load SegMake_g9 rfl (by exact (P10.from_ From.rfl_).rd 1 rfl)) ?_
    refine st_val (ro_lenS (by kernel_rfl) rfl) ?_
    refine st_lit1 (v := .int _ _) SegMake_q68 rfl rfl rfl ?_
    intro b41 w11 E41 hb41 hk41
    refine st_appendL SegMake_q68 rfl (by decide) rfl (A := A6) (xs := (lens (ds.take k)).map iV) (news := [iV ((d.2.size : Nat) : Int)]) (ho6.kept_from (From.rfl_.next E41)) ((((hB.next E9).only O10 (hg9)).next E41).size) rfl rfl ⟨b41, 0, rfl, hk41.whole⟩ (by simp [Value.oneCell']) (by omega) (by omega) ?_
    intro A42 c42 w12 ho42 hg42 hL42
    have HF42 := ((((hB.next E9).only O10 (hg9)).next E41)).grew hg42 (fun k hk => (own_at (ho6.kept_from (From.rfl_.next E41)) k hk).1)
    have ho7b := own_aside (ho7.kept_from (From.rfl_.next E41)) hg42 hap
    have hap42 := hap.new (fun q hq => (own_at (ho7.kept_from (From.rfl_.next E41)) q hq).2) hL42
    have P10b := (P10.from_ (From.rfl_.next E41)).grown hg42 (own_off (ho6.kept_from (From.rfl_.next E41)) (P10.from_ (From.rfl_.next E41)) (by decide))
    refine ass rfl ?_
    refine st_nil (nx_then (cd_region ?_))
    refine mvs rfl ?_
    refine st_val (ro_fieldAddr SegMake_f40_1 rfl) ?_
    refine st_val (ro_load SegMake_g9 rfl (by exact P10b.rd 1 rfl)) ?_
    refine st_call SegMake_k28 (symb_rt d.2 _ (by omega)) ?_
    rintro v46 w13 ⟨⟨g46, rfl, hg46, hk46⟩, E46⟩
    refine st_appendL SegMake_q68 rfl (by decide) rfl (A := A7) (xs := (cI (syms (ds.take k))).map iV) (news := (cI (txt d.2)).map iV) (ho7b.kept_from (From.rfl_.next E46)) ((HF42.next E46).size) rfl (by rw [List.length_map, cI, List.length_map, txt_len, Nat.mul_one]) ⟨g46, 0, rfl, rowRange (syT_row hk46)⟩ (by simp [Value.oneCell']) (by omega) (by omega) ?_
    intro A47 c47 w14 ho47 hg47 hL47
    have HF47 := ((HF42.next E46)).grew hg47 (fun k hk => (own_at (ho7b.kept_from (From.rfl_.next E46)) k hk).1)
    have ho42a := own_aside (ho42.kept_from (From.rfl_.next E46)) hg47 hap42.symm
    have hap47 := hap42.symm.new (fun q hq => (own_at (ho42.kept_from (From.rfl_.next E46)) q hq).2) hL47
    refine st_lit1 (v := .int _ _) SegMake_q68 rfl rfl rfl ?_
    intro b48 w15 E48 hb48 hk48
    refine st_appendL SegMake_q68 rfl (by decide) rfl (A := A47) (xs := (cI (syms (ds.take k))).map iV ++ (cI (txt d.2)).map iV) (news := [iV 0]) (ho47.kept_from (From.rfl_.next E48)) ((HF47.next E48).size) rfl rfl ⟨b48, 0, rfl, hk48.whole⟩ (by simp [Value.oneCell']) (by omega) (by omega) ?_
    intro A49 c49 w16 ho49 hg49 hL49
    have HF49 := ((HF47.next E48)).grew hg49 (fun k hk => (own_at (ho47.kept_from (From.rfl_.next E48)) k hk).1)
    have ho42b := own_aside (ho42a.kept_from (From.rfl_.next E48)) hg49 hap47
    have hap49 := hap47.new (fun q hq => (own_at (ho42a.kept_from (From.rfl_.next E48)) q hq).2) hL49
    refine ass rfl ?_
    refine st_nil (nx_block (nx_then (cd_region ?_)))
    refine st_val (ro_addN (b := 1) rfl rfl (by omega)) ?_
    refine mvi rfl ?_
    refine st_nil ?_
    refine nx_cut ((k + 1, (A42, c42), A49, c49)) ⟨rfl, rfl, (by rw [hsl]; rfl), trivial⟩ (by (iterate 42 refine agr_cons rfl ?_); exact agr_rfl) ⟨?_, ?_⟩
    · exact ⟨by omega, by rw [lens_take hil, hdi]; exact ho42b, by rw [hsl, hsy, cI_app, cI_app, List.map_append, List.map_append]; exact ho49, hap49.symm, HF49⟩
    · show n - (k + 1) < n - k; omega
  with_reducible replace Q8 := of_decide_eq_false Q8
  have hkn : ds.take k = ds := List.take_of_length_le (by omega)
  refine cd_exit ?_
  refine ex_then (ex_then (ex_block (nx_then (cd_seq (cd_region ?_)))))
  refine mvs rfl ?_
  have hz53 := (hB).size
  refine st_call SegMake_k29 (bnew_n A6 c6 k (lens (ds.take k)) _ (RowOf.own ho6).2 (by rw [hkn]; exact lens_gd hfit) (by rw [lens_len, List.length_take]; omega)) ?_
  rintro v53 w17 ⟨⟨bd, rfl, hbd⟩, E53⟩
  refine mvt rfl ?_
  refine st_val (ro_extract rfl rfl) ?_
  refine st_val (ro_extract rfl rfl) ?_
  refine asp rfl ?_
  refine asi rfl ?_
  refine st_nil (nx_then (cd_seq (cd_seq (cd_region ?_))))
  refine mvi rfl ?_
  refine st_val (ro_neq rfl rfl) ?_
  refine st_nil (nx_then ?_)
  refine cd_cond rfl (fun Q18 => ?_) (fun Q18 => ?_)
  · with_reducible replace Q18 := bx_t Q18
    exfalso; omega
  with_reducible replace Q18 := bx_f Q18
  refine cd_skip (nx_then (cd_seq (cd_region ?_)))
  refine mvs rfl ?_
  have hz61 := ((hB.next E53)).size
  refine st_call SegMake_k30 (fbuild_n A7 c7 _ (ds.take k) _ ((RowOf.own ho7).2.from_ E53) rfl (by rw [hkn]; exact hfit)) ?_
  rintro v61 w19 ⟨⟨xb, a, Bs, F, rfl, hfm⟩, E61⟩
  refine mvt rfl ?_
  refine st_val (ro_extract rfl rfl) ?_
  refine st_val (ro_extract rfl rfl) ?_
  refine asp rfl ?_
  refine asi rfl ?_
  refine st_nil (nx_then (cd_seq (cd_seq (cd_region ?_))))
  refine mvi rfl ?_
  refine st_val (ro_neq rfl rfl) ?_
  refine st_nil (nx_then ?_)
  refine cd_cond rfl (fun Q20 => ?_) (fun Q20 => ?_)
  · with_reducible replace Q20 := bx_t Q20
    exfalso; omega
  with_reducible replace Q20 := bx_f Q20
  refine cd_skip (nx_then (cd_seq (cd_region ?_)))
  refine mvp rfl ?_
  refine mvs rfl ?_
  have hz69 := (((hB.next E53).next E61)).size
  refine st_call SegMake_k22 (clone_d A c n ds _ (hr.from_ ((hB.next E53).next E61)) hn hn0 hl) ?_
  rintro v69 w21 ⟨⟨A69, c69, rfl, ho69⟩, E69⟩
  refine mvp rfl ?_
  refine mvi rfl ?_
  refine st_val (ro_build (l := [(0, .tmp 67), (1, .tmp 69), (2, .tmp 70), (3, .tmp 71)]) (SegMake_b50_0_1_2_3 _ _ _ _ _ _)) ?_
  have hz73q := ((((hB.next E53).next E61).next E69)).size
  refine st_box (v := .agg _) rfl ?_
  intro b73 w22 E73 hb73 hk73
  have hz73 : w.heap.size ≤ b73 := by rw [hb73]; exact hz73q
  refine asp rfl ?_
  refine asi rfl ?_
  refine st_nil (nx_then (cd_ret ?_))
  refine res2 (v := .pointer _) (v' := .int _ _) rfl rfl rfl ?_
  subst hn
  rw [hkn] at hfm hbd
  exact ⟨.inr ⟨doc_0 hord hfit, b73, rfl, ⟨hz73, xb, bd, a, Bs, F, A69, c69, hk73, (hfm.from_ (E69.next E73)).le hz61, (hbd.from_ (E61.next (E69.next E73))).le hz53, own_le (ho69.kept_from E73) hz69, hord, hfit⟩⟩, ((((hB.next E53).next E61).next E69).next E73)⟩
set_option maxHeartbeats 1000000 in
theorem doc_rt (base s : Nat) (ds : List Dc) (w : World) (hs : SegAt w base s ds) (id : ByteArray) :
    Rt Tryz.prog 12 [.pointer (some ⟨s, 0, none⟩), .string id] w (fun v w' => ((∃ i, i < ds.length ∧ (ds.getD i dd).1 = id ∧ v = .tuple #[.string (ds.getD i dd).2, .int .i64 0]) ∨ ((∀ i, i < ds.length → (ds.getD i dd).1 ≠ id) ∧ v = .tuple #[.string ⟨#[]⟩, .int .i64 3])) ∧ From w w') := by
  obtain ⟨hb0, x, bd, a, B, F, A, c, hI, hf, hb, ho, hO, hD⟩ := hs
  have hDl := hD.1
  have hrD := (RowK.own dV_len (by decide) ho).2
  refine enter (n := 27) Tryz.func12 rfl rfl rfl ?_
  refine cd_seq (cd_region ?_)
  refine asg rfl ?_
  refine asi rfl ?_
  refine st_nil (nx_then (cd_seq (cd_region ?_)))
  refine mvp rfl ?_
  refine st_val (ro_nilCheck rfl) ?_
  refine st_val (ro_fieldAddr SegMake_f50_1 rfl) ?_
  refine st_val (ro_load SegMake_g22 rfl (by exact (hI.from_ From.rfl_).rd 1 rfl)) ?_
  refine mvg rfl ?_
  refine st_call SegMake_k23 (docSearch_rt A c ds.length ds _ (hrD.from_ From.rfl_) rfl (by omega) id hO) ?_
  rintro v14 w1 ⟨⟨i, fd, rfl, hi1, hlo, hhi, hfd⟩, E14⟩
  refine mvt rfl ?_
  refine st_val (ro_extract rfl rfl) ?_
  refine st_val (ro_extract rfl rfl) ?_
  refine asi rfl ?_
  refine asb rfl ?_
  refine st_nil (nx_then (cd_seq (cd_seq (cd_region ?_))))
  refine mvb rfl ?_
  refine st_val (ro_not rfl) ?_
  refine st_nil (nx_then ?_)
  refine cd_cond rfl (fun Q2 => ?_) (fun Q2 => ?_)
  · with_reducible replace Q2 := bn_t Q2
    have hnf : ∀ q, q < ds.length → (ds.getD q dd).1 ≠ id := fun q hq e => by
      have h9 : ¬ (i < ds.length ∧ (ds.getD i dd).1 = id) := fun h => by have := hfd.2 h; simp_all
      rcases Nat.lt_trichotomy q i with a1 | a1 | a1
      · have := hlo q a1; rw [e] at this; exact sLt_irrefl _ this
      · subst a1; exact h9 ⟨hq, e⟩
      · have h7 := hO.lt a1 hq
        rw [e] at h7
        exact hhi i (Nat.le_refl _) (by omega) h7
    refine cd_seq (cd_region ?_)
    refine asg rfl ?_
    refine asi rfl ?_
    refine st_nil (nx_then (cd_ret (rt_then ?_)))
    refine res2 (v := .string _) (v' := .int _ _) rfl rfl rfl ?_
    exact ⟨.inr ⟨hnf, rfl⟩, (From.rfl_.next E14)⟩
  with_reducible replace Q2 := bn_f Q2
  obtain ⟨hil, hie⟩ := hfd.1 (by simpa using Q2)
  obtain ⟨bD, oD, rfl, hcD⟩ := hrD (by omega)
  have hce := hcD i hil 1 _ rfl
  rw [← getD_get hil] at hce
  refine cd_skip (nx_then (cd_seq (cd_region ?_)))
  refine mvp rfl ?_
  refine st_val (ro_nilCheck rfl) ?_
  refine st_val (ro_fieldAddr SegMake_f50_1 rfl) ?_
  refine st_val (ro_load SegMake_g22 rfl (by exact (hI.from_ (From.rfl_.next E14)).rd 1 rfl)) ?_
  refine mvi rfl ?_
  refine st_val (ro_indexAddrN SegMake_e22 rfl rfl (by omega)) ?_
  refine st_val (ro_fieldAddr SegMake_f40_1 rfl) ?_
  refine st_val (ro_load SegMake_g9 rfl (by exact cellF (From.rfl_.next E14) hce)) ?_
  refine asg rfl ?_
  refine asi rfl ?_
  refine st_nil (nx_then (cd_ret ?_))
  refine res2 (v := .string _) (v' := .int _ _) rfl rfl rfl ?_
  exact ⟨.inl ⟨i, hil, hie, rfl⟩, (From.rfl_.next E14)⟩
/-- what is wrong with a pattern -/
def patE (p : ByteArray) : Int := if p.size = 0 then 5 else if 4096 < p.size then 2 else 0
/-- what Search tells -/
def segH (ds : List Dc) (p : ByteArray) : List Ht := if patE p = 0 then hits ds p else []
theorem txt_ne {p : ByteArray} (h : p.size ≠ 0) : txt p ≠ [] := fun e => h (by rw [← txt_len, e]; rfl)
theorem size_zero {p : ByteArray} (h : p = ⟨#[]⟩) : p.size = 0 := by rw [h]; rfl
theorem size_zero' {p : ByteArray} (h : p.size = 0) : p = ⟨#[]⟩ := by
  obtain ⟨l⟩ := p
  congr 1
  exact Array.eq_empty_of_size_eq_zero h
theorem hit_at {ds : List Dc} {L : List Nat} {k : Nat} (h : k < L.length) : (((L.take (k + 1)).map (hitAt ds)).flatMap hV) = (((L.take k).map (hitAt ds)).flatMap hV) ++ hV (hitAt ds (L.getD k 0)) := by
  rw [List.take_succ_eq_append_getElem h, List.map_append, List.flatMap_append, List.getD_eq_getElem?_getD, List.getElem?_eq_getElem h]
  simp
theorem find_p (base b K a c n : Nat) (L B F : List Nat) (A : Option Addr) (p : List Nat) (w : World) (hf : FmAt w base b K a L B F) (hr : RowOf iV w A (cI p)) (hn : n = p.length) (hl : n ≤ 1000000) (h0 : p ≠ []) (hK : ∀ x ∈ p, x < K) : Rt Tryz.prog 31 [.pointer (some ⟨b, 0, none⟩), .slice A n c] w fun v w' => (∃ A' c', v = .tuple #[.slice A' (fndL L p).length c', .int .i64 0] ∧ RowOf iV w' A' (cI (fndL L p))) ∧ From w w' := by
  refine (find_d base b K a L B F w hf A c n (cI p) hr (by rw [List.length_map]; exact hn) hl).mono fun v w' h => ?_
  have ha := ask_good h0 hK
  have e : fdL K L (cI p) = fndL L p := by unfold fdL; rw [if_pos ha, cI_toNat]
  rw [ha, e] at h
  obtain ⟨⟨A', c', rfl, ho⟩, hF⟩ := h
  exact ⟨⟨A', c', rfl, (RowOf.own ho).2⟩, hF⟩
set_option maxHeartbeats 3000000 in
theorem search_rt (base s : Nat) (ds : List Dc) (w : World) (hs : SegAt w base s ds) (p : ByteArray) (hp : p.size ≤ 140737488351232) :
    Rt Tryz.prog 20 [.pointer (some ⟨s, 0, none⟩), .string p] w (fun v w' => (∃ A' c', v = .tuple #[.slice A' (segH ds p).length c', .int .i64 (patE p)] ∧ w'.ownsRow w.heap.size 61 2 (.slice A' (segH ds p).length c') (segH ds p).length ((segH ds p).flatMap hV)) ∧ From w w') := by
  have hss := hs
  obtain ⟨hb0, x, bd, a, B, F, A, c, hI, hf, hb, ho, hO, hD⟩ := hs
  have hDl := hD.1
  have hrD := (RowK.own dV_len (by decide) ho).2
  have hsl := syms_len ds
  have hD3 := hD.2.2
  refine enter (n := 75) Tryz.func20 rfl rfl rfl ?_
  refine cd_seq (cd_region ?_)
  refine ass rfl ?_
  refine asi rfl ?_
  refine st_nil (nx_then (cd_seq (cd_seq (cd_region ?_))))
  refine mvg rfl ?_
  refine st_val (ro_eqlS rfl rfl) ?_
  refine st_nil (nx_then ?_)
  refine cd_cond rfl (fun Q1 => ?_) (fun Q1 => ?_)
  · with_reducible replace Q1 := be_t Q1
    have hp0 : p.size = 0 := size_zero (str_eq.1 (by simpa using Q1))
    refine cd_seq (cd_region ?_)
    refine ass rfl ?_
    refine asi rfl ?_
    refine st_nil (nx_then (cd_ret (rt_then ?_)))
    refine res2 (v := .slice _ _ _) (v' := .int _ _) rfl rfl rfl ?_
    have hE : patE p = 5 := by unfold patE; rw [if_pos hp0]
    have hH : segH ds p = [] := by unfold segH; rw [hE]; rfl
    exact ⟨⟨none, 0, by rw [hH, hE]; rfl, by rw [hH]; exact World.ownsRow_nil _ _ _ _⟩, From.rfl_⟩
  with_reducible replace Q1 := be_f Q1
  have hp0 : p.size ≠ 0 := fun h9 => (str_ne.1 (by simpa using Q1)) (size_zero' h9)
  refine cd_skip (nx_then (cd_seq (cd_seq (cd_region ?_))))
  refine mvg rfl ?_
  refine st_val (ro_lenS (by kernel_rfl) rfl) ?_
  refine st_val (ro_gtr rfl rfl) ?_
  refine st_nil (nx_then ?_)
  refine cd_cond rfl (fun Q2 => ?_) (fun Q2 => ?_)
  · with_reducible replace Q2 := of_decide_eq_true Q2
    refine cd_seq (cd_region ?_)
    refine ass rfl ?_
    refine asi rfl ?_
    refine st_nil (nx_then (cd_ret (rt_then ?_)))
    refine res2 (v := .slice _ _ _) (v' := .int _ _) rfl rfl rfl ?_
    have hE : patE p = 2 := by unfold patE; rw [if_neg hp0, if_pos (by omega)]
    have hH : segH ds p = [] := by unfold segH; rw [hE]; rfl
    exact ⟨⟨none, 0, by rw [hH, hE]; rfl, by rw [hH]; exact World.ownsRow_nil _ _ _ _⟩, From.rfl_⟩
  with_reducible replace Q2 := of_decide_eq_false Q2
  refine cd_skip (nx_then (cd_seq (cd_seq (cd_region ?_))))
  refine mvp rfl ?_
  refine st_val (ro_nilCheck rfl) ?_
  refine st_val (ro_fieldAddr SegMake_f50_1 rfl) ?_
  refine st_val (ro_load SegMake_g22 rfl (by exact (hI.from_ From.rfl_).rd 1 rfl)) ?_
  refine st_val (ro_len SegMake_l22 rfl) ?_
  refine st_val (ro_eql rfl rfl) ?_
  refine st_nil (nx_then ?_)
  refine cd_cond rfl (fun Q3 => ?_) (fun Q3 => ?_)
  · with_reducible replace Q3 := of_decide_eq_true Q3
    refine cd_seq (cd_region ?_)
    refine ass rfl ?_
    refine asi rfl ?_
    refine st_nil (nx_then (cd_ret (rt_then ?_)))
    refine res2 (v := .slice _ _ _) (v' := .int _ _) rfl rfl rfl ?_
    obtain rfl : ds = [] := List.eq_nil_of_length_eq_zero (by omega)
    have hpE : patE p = 0 := by unfold patE; rw [if_neg hp0, if_neg (by omega)]
    exact ⟨⟨none, 0, by unfold segH; rw [hpE]; rfl, by unfold segH; rw [hpE]; exact World.ownsRow_nil _ _ _ _⟩, From.rfl_⟩
  with_reducible replace Q3 := of_decide_eq_false Q3
  have hpE : patE p = 0 := by unfold patE; rw [if_neg hp0, if_neg (by omega)]
  refine cd_skip (nx_then (cd_seq ?_))
  apply cd_drawn 12 [(26, eqp _), (27, eqp _), (28, eqp _), (29, eqp _), (30, eqp _), (31, fun v w' => ∃ g, v = .slice (some ⟨g, 0, none⟩) p.size p.size ∧ RowOf iV w' (some ⟨g, 0, none⟩) (cI (txt p))), (32, fun v w' => ∃ A' c', v = .tuple #[.slice A' (fndL (syms ds) (txt p)).length c', .int .i64 0] ∧ RowOf iV w' A' (cI (fndL (syms ds) (txt p)))), (25, fun v w' => ∃ A' c', v = .tuple #[.slice A' (fndL (syms ds) (txt p)).length c', .int .i64 0] ∧ RowOf iV w' A' (cI (fndL (syms ds) (txt p)))), (33, fun v w' => ∃ A' c', v = .slice A' (fndL (syms ds) (txt p)).length c' ∧ RowOf iV w' A' (cI (fndL (syms ds) (txt p)))), (34, eqp _), (6, fun v w' => ∃ A' c', v = .slice A' (fndL (syms ds) (txt p)).length c' ∧ RowOf iV w' A' (cI (fndL (syms ds) (txt p)))), (7, eqp _)] (by kernel_rfl) (by kernel_rfl) ⟨eqp_mono _, eqp_mono _, eqp_mono _, eqp_mono _, eqp_mono _, (fun _ _ _ hF ⟨g, h1, h2⟩ => ⟨g, h1, h2.from_ hF⟩), (fun _ _ _ hF ⟨A2, c2, h1, h2⟩ => ⟨A2, c2, h1, h2.from_ hF⟩), (fun _ _ _ hF ⟨A2, c2, h1, h2⟩ => ⟨A2, c2, h1, h2.from_ hF⟩), (fun _ _ _ hF ⟨A2, c2, h1, h2⟩ => ⟨A2, c2, h1, h2.from_ hF⟩), eqp_mono _, (fun _ _ _ hF ⟨A2, c2, h1, h2⟩ => ⟨A2, c2, h1, h2.from_ hF⟩), eqp_mono _, trivial⟩
  case hop =>
   refine ⟨?_, ?_⟩
   · intro w5 D5
     show OpOK _ _ _ _ _ _ _
     exact ok_pure (ro_move (v := .pointer _) rfl) rfl
   refine ⟨?_, ?_⟩
   · intro w6 D6
     rintro _ rfl
     show OpOK _ _ _ _ _ _ _
     exact ok_pure (ro_nilCheck rfl) rfl
   refine ⟨?_, ?_⟩
   · intro w7 D7
     rintro _ rfl
     show OpOK _ _ _ _ _ _ _
     exact ok_pure (ro_fieldAddr SegMake_f50_0 rfl) rfl
   refine ⟨?_, ?_⟩
   · intro w8 D8
     rintro _ rfl
     show OpOK _ _ _ _ _ _ _
     exact ok_pure (ro_load SegMake_g47 rfl (by exact (hI.from_ (From.rfl_.next D8)).rd 0 rfl)) rfl
   refine ⟨?_, ?_⟩
   · intro w9 D9
     show OpOK _ _ _ _ _ _ _
     exact ok_pure (ro_move (v := .string _) rfl) rfl
   refine ⟨?_, ?_⟩
   · intro w10 D10
     rintro _ rfl
     show OpOK _ _ _ _ _ _ _
     refine ok_call SegMake_k28 ((symb_rt p _ (by omega)).mono ?_)
     rintro v w2 ⟨⟨g, rfl, hg, hk⟩, E⟩
     exact ⟨E, g, rfl, syT_row hk⟩
   refine ⟨?_, ?_⟩
   · intro w11 D11
     rintro _ rfl v11_31 ⟨g31, rfl, hr31⟩
     show OpOK _ _ _ _ _ _ _
     refine ok_call SegMake_k31 ((find_p base x 257 a p.size p.size (syms ds) B F (some ⟨g31, 0, none⟩) (txt p) _ (hf.from_ (From.rfl_.next D11)) hr31 (txt_len p).symm (by omega) (txt_ne hp0) (txt_lt p)).mono ?_)
     rintro v w2 ⟨⟨A3, c3, rfl, hr3⟩, E⟩
     exact ⟨E, A3, c3, rfl, hr3⟩
   refine ⟨?_, ?_⟩
   · intro w12 D12
     rintro v12_32 ⟨A32, c32, rfl, hr32⟩
     show OpOK _ _ _ _ _ _ _
     exact ok_val (ro_move (v := .tuple _) rfl) From.rfl_ ⟨_, _, rfl, hr32⟩
   refine ⟨?_, ?_⟩
   · intro w13 D13
     rintro v13_25 ⟨A32, c32, rfl, hr32⟩
     show OpOK _ _ _ _ _ _ _
     exact ok_val (ro_extract rfl rfl) From.rfl_ ⟨_, _, rfl, hr32⟩
   refine ⟨?_, ?_⟩
   · intro w14 D14
     rintro v14_25 ⟨A32, c32, rfl, hr32⟩
     show OpOK _ _ _ _ _ _ _
     exact ok_pure (ro_extract rfl rfl) rfl
   refine ⟨?_, ?_⟩
   · intro w15 D15
     rintro v15_33 ⟨A32, c32, rfl, hr32⟩
     show OpOK _ _ _ _ _ _ _
     exact ok_val (ro_assign rfl) From.rfl_ ⟨_, _, rfl, hr32⟩
   refine ⟨?_, ?_⟩
   · intro w16 D16
     rintro _ rfl
     show OpOK _ _ _ _ _ _ _
     exact ok_pure (ro_assign (v := .int _ _) rfl) rfl
   exact trivial
  case hend =>
   intro w17 D17
   rintro _ rfl _ rfl _ rfl _ rfl _ rfl v31 ⟨g31, rfl, hr31⟩ v32 ⟨A32, c32, rfl, hr32⟩ v25 ⟨A32, c32, rfl, hr32⟩ v33 ⟨A32, c32, rfl, hr32⟩ _ rfl v6 ⟨A32, c32, rfl, hr32⟩ _ rfl
   show St _ _ _ _ _ _ _
   obtain ⟨W7, hW7⟩ : ∃ W, W = w17 := ⟨_, rfl⟩
   have hB7 : From w W7 := by rw [hW7]; exact (From.rfl_.next D17)
   have hr6 : RowOf iV W7 A32 (cI (fndL (syms ds) (txt p))) := by rw [hW7]; exact hr32
   have hnl : (fndL (syms ds) (txt p)).length ≤ (syms ds).length := fndTo_le
   refine st_nil (nx_then (cd_seq (cd_seq (cd_region ?_))))
   refine mvi rfl ?_
   refine st_val (ro_neq rfl rfl) ?_
   refine st_nil (nx_then ?_)
   refine cd_cond rfl (fun Q18 => ?_) (fun Q18 => ?_)
   · with_reducible replace Q18 := bx_t Q18
     exfalso; omega
   with_reducible replace Q18 := bx_f Q18
   refine cd_skip (nx_then (cd_seq (cd_region ?_)))
   refine mvs rfl ?_
   refine st_val (ro_len SegMake_l68 rfl) ?_
   refine st_make0K (m := (fndL (syms ds) (txt p)).length) (base := W7.heap.size) SegMake_q56 rfl rfl (by omega) (by omega) (by rw [hW7]; exact Nat.le_refl _) ?_
   intro g40 w19 E40 hb40 ho40
   refine ass rfl ?_
   refine st_nil (nx_then (cd_seq (cd_seq (cd_region ?_))))
   refine mvs rfl ?_
   refine st_val (ro_len SegMake_l68 rfl) ?_
   refine mvi rfl ?_
   refine st_nil (nx_then (cd_block ?_))
   refine cd_loop (G := Nat × Option Addr × Nat) [4, 5, 10, 11, 12, 13, 44, 45, 46, 47, 48, 49, 50, 51, 52, 53, 54, 55, 56, 57, 58, 59, 60, 61, 62, 63, 64, 65, 66, 67, 68, 69, 70, 71, 72, 73] (fun (k, A8, c8) => [(43, .int .i64 (k : Nat)), (8, .slice A8 k c8)]) (fun (k, A8, c8) w' => k ≤ (fndL (syms ds) (txt p)).length ∧ w'.ownsRow W7.heap.size 61 2 (.slice A8 k c8) k ((((fndL (syms ds) (txt p)).take k).map (hitAt ds)).flatMap hV) ∧ From W7 w') (fun (k, _, _) => (fndL (syms ds) (txt p)).length - k) ((0, some ⟨g40, 0, none⟩, (fndL (syms ds) (txt p)).length)) ⟨rfl, rfl, trivial⟩ ?_ ?_
   · exact ⟨Nat.zero_le _, by simpa using ho40, by rw [hW7]; exact E40⟩
   rintro ⟨k, A8, c8⟩ ρ20 w20 ⟨hk, ho8, hBz⟩
   refine cd_seq (cd_region ?_)
   refine st_val (ro_lss rfl rfl) ?_
   refine st_nil (nx_then (cd_seq ?_))
   refine cd_cond rfl (fun Q21 => ?_) (fun Q21 => ?_)
   · with_reducible replace Q21 := of_decide_eq_true Q21
     obtain ⟨bN, oN, rfl, hcN⟩ := rowD hr6 (by omega)
     have hxk := hcN k (by omega)
     have hxm := mem_fndL.1 (show (fndL (syms ds) (txt p)).getD k 0 ∈ (fndL (syms ds) (txt p)) by rw [List.getD_eq_getElem?_getD, List.getElem?_eq_getElem (show k < (fndL (syms ds) (txt p)).length by omega)]; exact List.getElem_mem _)
     have hxl := hxm.1
     obtain ⟨hq1, hq2, hq3⟩ := loc_spec hxl
     obtain ⟨bD, oD, rfl, hcD⟩ := hrD (by omega)
     have hce := hcD _ hq1 0 _ rfl
     rw [← getD_get hq1] at hce
     refine cd_skip (nx_then (cd_seq (cd_block (cd_seq (cd_region ?_)))))
     refine st_val (ro_indexAddr1 SegMake_e68 rfl rfl (by omega)) ?_
     refine st_val (ro_load SegMake_g3 rfl (by exact cellF (hBz.next From.rfl_) hxk)) ?_
     refine asi rfl ?_
     refine st_nil (nx_then (cd_seq (cd_region ?_)))
     refine mvp rfl ?_
     refine st_val (ro_nilCheck rfl) ?_
     refine st_val (ro_fieldAddr SegMake_f50_2 rfl) ?_
     refine st_val (ro_load SegMake_g48 rfl (by exact (hI.from_ (hB7.next hBz)).rd 2 rfl)) ?_
     refine mvi rfl ?_
     refine st_call SegMake_k32 (where_loc base bd ((fndL (syms ds) (txt p)).getD k 0) ds _ (hb.from_ (hB7.next hBz)) hxl) ?_
     rintro v53 w22 ⟨rfl, E53⟩
     refine mvt rfl ?_
     refine st_val (ro_extract rfl rfl) ?_
     refine st_val (ro_extract rfl rfl) ?_
     refine st_val (ro_extract rfl rfl) ?_
     refine asi rfl ?_
     refine asi rfl ?_
     refine asi rfl ?_
     refine st_nil (nx_then (cd_seq (cd_seq (cd_region ?_))))
     refine mvi rfl ?_
     refine st_val (ro_neq rfl rfl) ?_
     refine st_nil (nx_then ?_)
     refine cd_cond rfl (fun Q23 => ?_) (fun Q23 => ?_)
     · with_reducible replace Q23 := bx_t Q23
       exfalso; omega
     with_reducible replace Q23 := bx_f Q23
     refine cd_skip (nx_then (cd_region ?_))
     refine mvs rfl ?_
     refine mvp rfl ?_
     refine st_val (ro_nilCheck rfl) ?_
     refine st_val (ro_fieldAddr SegMake_f50_1 rfl) ?_
     refine st_val (ro_load SegMake_g22 rfl (by exact (hI.from_ ((hB7.next hBz).next E53)).rd 1 rfl)) ?_
     refine mvi rfl ?_
     refine st_val (ro_indexAddrN SegMake_e22 rfl rfl (by omega)) ?_
     refine st_val (ro_fieldAddr SegMake_f40_0 rfl) ?_
     refine st_val (ro_load SegMake_g9 rfl (by exact cellF ((hB7.next hBz).next E53) hce)) ?_
     refine mvi rfl ?_
     refine st_val (ro_build (l := [(0, .tmp 68), (1, .tmp 69)]) (SegMake_b61_0_1 _ _)) ?_
     refine st_litK2 SegMake_q56 rfl rfl rfl ?_
     intro b71 w24 E71 hb71 hk71
     refine st_appendB SegMake_q56 rfl (by decide) rfl (A := A8) (xs := (((fndL (syms ds) (txt p)).take k).map (hitAt ds)).flatMap hV) (news := hV (hitAt ds ((fndL (syms ds) (txt p)).getD k 0))) (ho8.kept_from ((From.rfl_.next E53).next E71)) ((hBz.next ((From.rfl_.next E53).next E71)).size) rfl rfl (fun _ => ⟨b71, 0, rfl, hk71.whole⟩) (fun h => by cases h) (by simp [hV, Value.oneCell']) (by omega) (by omega) ?_
     intro A72 c72 w25 ho72 hg72
     have HF72 := (hBz.next ((From.rfl_.next E53).next E71)).grew hg72 (fun k hk => (own_at (ho8.kept_from ((From.rfl_.next E53).next E71)) k hk).1)
     refine ass rfl ?_
     refine st_nil (nx_block (nx_then (cd_region ?_)))
     refine st_val (ro_addN (b := 1) rfl rfl (by omega)) ?_
     refine mvi rfl ?_
     refine st_nil ?_
     refine nx_cut ((k + 1, A72, c72)) ⟨rfl, rfl, trivial⟩ (by (iterate 73 refine agr_cons rfl ?_); exact agr_rfl) ⟨?_, ?_⟩
     · exact ⟨by omega, by rw [hit_at (by omega)]; exact ho72, HF72⟩
     · show (fndL (syms ds) (txt p)).length - (k + 1) < (fndL (syms ds) (txt p)).length - k; omega
   with_reducible replace Q21 := of_decide_eq_false Q21
   refine cd_exit ?_
   refine ex_then (ex_then (ex_block (nx_then (cd_seq (cd_region ?_)))))
   refine mvs rfl ?_
   refine ass rfl ?_
   refine asi rfl ?_
   refine st_nil (nx_then (cd_ret ?_))
   refine res2 (v := .slice _ _ _) (v' := .int _ _) rfl rfl rfl ?_
   obtain rfl : k = (fndL (syms ds) (txt p)).length := by omega
   have hh : segH ds p = (fndL (syms ds) (txt p)).map (hitAt ds) := by unfold segH; rw [if_pos hpE, fnd_pls, hits_loc (txt_ne hp0)]
   rw [List.take_length] at ho8
   rw [hh, List.length_map, hpE]
   exact ⟨⟨A8, c8, rfl, own_le ho8 hB7.size⟩, (hB7.next hBz)⟩
end Go.Proofs.YtllmocjfllbbfaaGreat

namespace Go.Proofs.YtllmocjfllbbfaaGreat
open Go.RowKit
theorem toList_iff {a b : ByteArray} : a.toList = b.toList ↔ a = b := ⟨str_inj, fun h => by rw [h]⟩
theorem eqDc (a b : Dc) (w : World) : (Op.equalIn 10000 40 (.agg (dV a).toArray) (.agg (dV b).toArray)).run Tryz.prog w = .ok (decide (a = b)) w := by
  have u9 := Tryz.underlying9
  have a9 := Tryz.isAgg9
  have z9 := Tryz.sizeOf9
  have hS : Tryz.prog.underlying 40 = some (.struct (Tryz.prog.fieldsOf 40)) := by kernel_rfl
  have hp : Tryz.prog.stoodInHeld 40 = false := by kernel_rfl
  obtain ⟨a1, a2⟩ := a
  obtain ⟨b1, b2⟩ := b
  show (Op.equalIn 10000 40 (.agg #[.string a1, .string a2]) (.agg #[.string b1, .string b2])).run Tryz.prog w = _
  rw [show (10000 : Nat) = 9999 + 1 from rfl, run_equalIn_agg w 9999 40 _ _ hS hp]
  simp only [Program.fieldsOf, Tryz.underlying40 ]
  go_simp
  simp only [toList_iff]
  by_cases h1 : a1 = b1 <;> by_cases h2 : a2 = b2 <;> simp [h1, h2]
theorem eqHt (a b : Ht) (w : World) : (Op.equalIn 10000 61 (.agg (hV a).toArray) (.agg (hV b).toArray)).run Tryz.prog w = .ok (decide (a = b)) w := by
  have u3 := Tryz.underlying3
  have a3 := Tryz.isAgg3
  have z3 := Tryz.sizeOf3
  have u9 := Tryz.underlying9
  have a9 := Tryz.isAgg9
  have z9 := Tryz.sizeOf9
  have hS : Tryz.prog.underlying 61 = some (.struct (Tryz.prog.fieldsOf 61)) := by kernel_rfl
  have hp : Tryz.prog.stoodInHeld 61 = false := by kernel_rfl
  obtain ⟨a1, a2⟩ := a
  obtain ⟨b1, b2⟩ := b
  show (Op.equalIn 10000 61 (.agg #[.string a1, .int .i64 a2]) (.agg #[.string b1, .int .i64 b2])).run Tryz.prog w = _
  rw [show (10000 : Nat) = 9999 + 1 from rfl, run_equalIn_agg w 9999 61 _ _ hS hp]
  simp only [Program.fieldsOf, Tryz.underlying61 ]
  go_simp
  simp only [toList_iff]
  by_cases h1 : a1 = b1 <;> by_cases h2 : a2 = b2 <;> simp [h1, h2]
section
variable {ρ : Operand → Value} {w : World} {yt : TypeId} {x y : Operand}
theorem ro_neqDc {a b : Dc} (hx : ρ x = .agg (dV a).toArray) (hy : ρ y = .agg (dV b).toArray) : RO Tryz.prog ρ (.binOp .neq 40 x y yt) w (.bool (!decide (a = b))) w := by
  refine ro_bin hx hy (run_eqGuard_agg w _ _ _ _ _ _ (by kernel_rfl)) ?_
  rw [run_neq_struct, eqDc]
  rfl
theorem ro_neqHt {a b : Ht} (hx : ρ x = .agg (hV a).toArray) (hy : ρ y = .agg (hV b).toArray) : RO Tryz.prog ρ (.binOp .neq 61 x y yt) w (.bool (!decide (a = b))) w := by
  refine ro_bin hx hy (run_eqGuard_agg w _ _ _ _ _ _ (by kernel_rfl)) ?_
  rw [run_neq_struct, eqHt]
  rfl
end
end Go.Proofs.YtllmocjfllbbfaaGreat

namespace Go.Proofs.YtllmocjfllbbfaaGreat
open Go.RowKit Go.ChangeShapes Go.WideShapes Go.ChangeAt
section
variable {P : Program} {ρ : Operand → Value} {x : Operand} {t : TypeId} {s : ByteArray} {w : World}
end
/-- the places in one text, as far as it is looked at -/
def ksTo (t q : List Nat) (k : Nat) : List Nat := (List.range k).filter fun i => q.isPrefixOf (t.drop i)
/-! ### arguments -/
abbrev docT : Ty := .pr .str (.pr .str .unit)
def Small (s : ByteArray) : Prop := s.size ≤ 140737488351232
theorem at_docs {w : World} {c : Nat → Option Value} {xs : List (ByteArray × ByteArray × Unit)} (h : (Ty.sl docT).At w c xs) : ∃ (A : Option Addr) (cap : Nat) (ds : List Dc), c 0 = some (.slice A ds.length cap) ∧ RowK 2 dV w A ds ∧ (∀ d ∈ ds, Small d.1 ∧ Small d.2) ∧ ds.length * 32 ≤ 140737488351232 ∧ ds.length ≤ cap ∧ (A = none → cap = 0) := by
  obtain ⟨A, cap, h0, h1, h2, h3⟩ := h
  have hl : (List.map (fun x : ByteArray × ByteArray × Unit => ((x.1, x.2.1) : Dc)) xs).length = List.length xs := List.length_map _
  refine ⟨A, cap, List.map (fun x : ByteArray × ByteArray × Unit => ((x.1, x.2.1) : Dc)) xs, by rw [hl]; exact h0, fun hp => ?_, fun d hd => ?_, by rw [hl]; exact h1, by rw [hl]; exact h2.1, h2.2.2⟩
  · rw [hl] at hp
    obtain ⟨b, o, hA, _, hi⟩ := h3 hp
    refine ⟨b, o, hA, fun i hlt => ?_⟩
    have hlt2 : i < List.length xs := by rwa [hl] at hlt
    obtain ⟨⟨c1, _⟩, ⟨c2, _⟩, _⟩ := hi i _ (List.getElem?_eq_getElem hlt2)
    rw [List.getElem_map]
    intro j v hv
    match j, hv with
    | 0, hv => simp [dV] at hv; subst hv; simpa [Ty.size] using c1
    | 1, hv => simp [dV] at hv; subst hv; simpa [Ty.size] using c2
    | j + 2, hv => simp [dV] at hv
  · obtain ⟨x, hx, rfl⟩ := List.mem_map.1 hd
    obtain ⟨i, hi, rfl⟩ := List.getElem_of_mem hx
    obtain ⟨b, o, hA, _, hh⟩ := h3 (Nat.lt_of_le_of_lt (Nat.zero_le _) hi)
    obtain ⟨⟨_, c1⟩, ⟨_, c2⟩, _⟩ := hh i _ (List.getElem?_eq_getElem hi)
    exact ⟨c1, c2⟩
theorem at_strS {w : World} {c : Nat → Option Value} {xs : List ByteArray} (h : (Ty.sl .str).At w c xs) : ∃ (A : Option Addr) (cap : Nat) (ps : List ByteArray), c 0 = some (.slice A ps.length cap) ∧ RowOf Value.string w A ps ∧ (∀ s ∈ ps, Small s) ∧ ps.length * 16 ≤ 140737488351232 := by
  obtain ⟨A, cap, h0, h1, h2, h3⟩ := h
  refine ⟨A, cap, xs, h0, fun hp => ?_, fun s hs => ?_, h1⟩
  · obtain ⟨b, o, hA, _, hi⟩ := h3 hp
    refine ⟨b, o, hA, fun i hlt => ?_⟩
    have := (hi i _ (List.getElem?_eq_getElem hlt)).1
    simpa [Ty.size] using this
  · obtain ⟨i, hi, rfl⟩ := List.getElem_of_mem hs
    obtain ⟨b, o, hA, _, hh⟩ := h3 (Nat.lt_of_le_of_lt (Nat.zero_le _) hi)
    exact (hh i _ (List.getElem?_eq_getElem hi)).2
end Go.Proofs.YtllmocjfllbbfaaGreat
